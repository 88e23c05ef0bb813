/- Slope: the law SlopeCrossed. -/
import Derived.Test.YtkhmcofmjjmjhaaDoorScn
namespace Go.Proofs.YtkhmcofmjjmjhaaDoor
set_option linter.unusedSimpArgs false
set_option linter.unusedVariables false
open Go Go.RowKit
attribute [local go_sem high] cell_set_wr
attribute [local go_sem low] cell_wr frozen_wr
attribute [local go_sem] wr_set wr_drew wr_drewN wr_alloc wr_new Rho.c Rho.n Rho.g

set_option maxRecDepth 100000 in
set_option maxHeartbeats 1000000 in
theorem whole_any (T : Option Addr) (c : Nat) (l : List Nat) (hl : l.length ≤ 1000) (h k : Nat) (hh : h ≤ 1000) (hk : k ≤ 1000) (w : World) (hT : ArrD w T (nats l)) : Calls Tryd.prog 49 #[.slice T l.length c, .int .i64 h, .int .i64 k] w fun e w' => e = .returned (.bool ((List.range k).all fun j => l.contains (h + j))) ∧ Below w.heap.size w w' := by
 have HAt := hid fun (i : Nat) (W : World) (hW : ArrD W T (nats l)) => atC T c l (by omega) i W hW
 refine enterE Tryd.func49 rfl Tryd.ntmps49 (by simp) (fun a hE => ?_); simp only [envOf, Nat.zero_add, Nat.reduceAdd] at hE
 refine Ks ?_
 refine Rs 1 fun Q' K hK => ?_
 refine M0 fun K' J ρ => ?_; go_simp;
 refine Ln hE J fun _ Eb => ?_; clear J K' hE a
 refine late_done [0, 1, 2] Eb hK (fun a hE => ?_); clear hK K Q' Eb; simp only [lk, pick, Nat.reduceEqDiff, ↓reduceIte] at hE
 refine Ks ?_
 refine Rs 1 fun Q' K hK => ?_
 refine M0 fun K' J ρ => ?_; go_simp;
 refine Ln hE J fun _ Eb => ?_; clear J K' hE a
 refine late_done [0, 1, 2, 7] Eb hK (fun a hE => ?_); clear hK K Q' Eb; simp only [lk, pick, Nat.reduceEqDiff, ↓reduceIte] at hE
 refine Ks ?_
 refine loop_st (fun (j : Nat) a w' => j ≤ k ∧ Fits 19 [(0, .slice T l.length c), (1, .int .i64 h), (2, .int .i64 k), (7, .int .i64 j)] a ∧ Below w.heap.size w w' ∧ ∀ i, i < j → l.contains (h + i) = true) (fun j => k - j) 0 ⟨Nat.zero_le _, by simpa using hE, Below.refl _ _, fun i hi => absurd hi (Nat.not_lt_zero _)⟩ (fun j a wr hI => ?_)
 clear hE
 obtain ⟨hj, hE, hW, hN⟩ := hI
 have HN := hid hN
 have hTr := hT.below hW
 clear hN
 by_cases hlt : j < k
 ·have hltI : (j : Int) < k := by omega
  have hA := HAt.out (h + j) _ hTr
  have hmem := atN_neg l (h + j)
  simp only [Int.natCast_add] at hA hmem
  obtain ⟨z, hz⟩ : ∃ z, atI (l.map fun (n : Nat) => (n : Int)) ((h : Int) + j) = z := ⟨_, rfl⟩
  simp only [hz] at hA hmem
  obtain ⟨q, hq⟩ : ∃ q, l.contains (h + j) = q := ⟨_, rfl⟩
  rw [hq] at hmem
  have HA := hid hA
  have HQ := hid hq
  have HM := hid hmem
  clear hA hq hz hmem
  refine Ks ?_
  refine Rs 3 fun Q' K hK => ?_
  refine M1 hE 7 fun K' J ρ q7 => ?_; go_simp; (try clear q7)
  refine Ln hE J fun _ Eb => ?_; clear J K' hE a
  refine M1 Eb 2 fun K' J ρ q2 => ?_; go_simp; (try clear q2)
  refine Ln Eb J fun _ Ea => ?_; clear J K' Eb
  refine M2 Ea 8 9 fun K' J ρ q8 q9 => ?_; go_simp; (try go_bits); (try clear q8 q9)
  refine Ln Ea J fun _ Eb => ?_; clear J K' Ea
  replace Eb := Eb.turn 10 (v' := .bool true) rfl (by (first | (simp; done) | (simp; omega)))
  refine late_done [0, 1, 2, 7, 10] Eb hK (fun a hE => ?_); clear hK K Q' Eb; simp only [lk, pick, Nat.reduceEqDiff, ↓reduceIte] at hE
  refine Ks ?_
  refine cond_yes hE (t := 10) rfl ?_
  refine Ks ?_
  refine Rs 6 fun Q' K hK => ?_
  refine M1 hE 0 fun K' J ρ q0 => ?_; go_simp; (try clear q0)
  refine Ln hE J fun _ Eb => ?_; clear J K' hE a
  refine M1 Eb 1 fun K' J ρ q1 => ?_; go_simp; (try clear q1)
  refine Ln Eb J fun _ Ea => ?_; clear J K' Eb
  refine M1 Ea 7 fun K' J ρ q7 => ?_; go_simp; (try clear q7)
  refine Ln Ea J fun _ Eb => ?_; clear J K' Ea
  refine M2 Eb 14 15 fun K' J ρ q14 q15 => ?_; go_simp; (try go_bits); (try simp (disch := omega) only [IntWalk.i64_in]); (try clear q14 q15)
  refine Ln Eb J fun _ Ea => ?_; clear J K' Eb
  refine M2 Ea 13 16 fun K' J ρ q13 q16 => ?_; go_simp; (try go_bits); (try clear q13 q16)
  go_at_call 39; refine (HA.out).mono ?_; rintro e w2 ⟨rfl, h2⟩
  (try clear r13 r16)
  refine Ln Ea J fun _ Eb => ?_; clear J K' Ea
  refine M1 Eb 17 fun K' J ρ q17 => ?_; go_simp; (try go_bits); (try clear q17)
  refine Ln Eb J fun _ Ea => ?_; clear J K' Eb
  replace Ea := Ea.turn 18 (v' := .bool (!q)) rfl (by (first | (rw [← HM.out]; done) | (rw [← HM.out]; simp)))
  refine late_done [0, 1, 2, 7, 18] Ea hK (fun a hE => ?_); clear hK K Q' Ea; simp only [lk, pick, Nat.reduceEqDiff, ↓reduceIte] at hE
  have hW2 := hW.trans (h2.mono hW.size)
  cases hv : q
  ·rw [hv] at hE
   have hf : ((List.range k).all fun i => l.contains (h + i)) = false := by
    rw [List.all_eq_false]
    exact ⟨j, List.mem_range.2 hlt, by rw [HQ.out, hv]; decide⟩
   rw [hf]
   refine Ks ?_
   refine cond_yes hE (t := 18) rfl ?_
   refine Ks ?_
   refine Rs 1 fun Q' K hK => ?_
   refine M0 fun K' J ρ => ?_; go_simp;
   refine Ln hE J fun _ Eb => ?_; clear J K' hE a
   refine late_done [6] Eb hK (fun a hE => ?_); clear hK K Q' Eb; simp only [lk, pick, Nat.reduceEqDiff, ↓reduceIte] at hE
   refine Ks ?_
   exact ret_one hE rfl rfl ⟨rfl, hW2⟩
  ·rw [hv] at hE
   refine Ks ?_
   refine cond_no hE (t := 18) rfl ?_
   refine Ks ?_
   refine Rs 3 fun Q' K hK => ?_
   refine M1 hE 7 fun K' J ρ q7 => ?_; go_simp; (try clear q7)
   refine Ln hE J fun _ Eb => ?_; clear J K' hE a
   refine M1 Eb 11 fun K' J ρ q11 => ?_; go_simp; (try go_bits); (try simp (disch := omega) only [IntWalk.i64_in]); (try clear q11)
   refine Ln Eb J fun _ Ea => ?_; clear J K' Eb
   refine M1 Ea 12 fun K' J ρ q12 => ?_; go_simp; (try clear q12)
   refine Ln Ea J fun _ Eb => ?_; clear J K' Ea
   refine late_done [0, 1, 2, 7] Eb hK (fun a hE => ?_); clear hK K Q' Eb; simp only [lk, pick, Nat.reduceEqDiff, ↓reduceIte] at hE
   refine Ks ?_
   refine ⟨j + 1, ⟨hlt, by simpa using hE, hW2, fun i hi => ?_⟩, by omega⟩
   by_cases e : i = j
   ·subst e; rw [HQ.out, hv]
   ·exact HN.out i (by omega)
 ·have hke : j = k := by omega
  subst hke
  have hf : ((List.range j).all fun i => l.contains (h + i)) = true := List.all_eq_true.2 fun i hi => HN.out i (List.mem_range.1 hi)
  rw [hf]
  refine Ks ?_
  refine Rs 3 fun Q' K hK => ?_
  refine M1 hE 7 fun K' J ρ q7 => ?_; go_simp; (try clear q7)
  refine Ln hE J fun _ Eb => ?_; clear J K' hE a
  refine M1 Eb 2 fun K' J ρ q2 => ?_; go_simp; (try clear q2)
  refine Ln Eb J fun _ Ea => ?_; clear J K' Eb
  refine M2 Ea 8 9 fun K' J ρ q8 q9 => ?_; go_simp; (try go_bits); (try clear q8 q9)
  refine Ln Ea J fun _ Eb => ?_; clear J K' Ea
  replace Eb := Eb.turn 10 (v' := .bool false) rfl (by (first | (simp; done) | (simp; omega)))
  refine late_done [0, 1, 2, 7, 10] Eb hK (fun a hE => ?_); clear hK K Q' Eb; simp only [lk, pick, Nat.reduceEqDiff, ↓reduceIte] at hE
  refine Ks ?_
  refine cond_no hE (t := 10) rfl ?_
  refine Ks ?_
  refine Rs 1 fun Q' K hK => ?_
  refine M0 fun K' J ρ => ?_; go_simp;
  refine Ln hE J fun _ Eb => ?_; clear J K' hE a
  refine late_done [6] Eb hK (fun a hE => ?_); clear hK K Q' Eb; simp only [lk, pick, Nat.reduceEqDiff, ↓reduceIte] at hE
  refine Ks ?_
  exact ret_one hE rfl rfl ⟨rfl, hW⟩
theorem whole_free (b : Sb) (h k : Nat) : ((List.range k).all fun j => (freK b b.hours.length).contains (h + j)) = whoB b h k := by
 unfold whoB
 congr 1
 funext j
 rw [Bool.eq_iff_iff, List.contains_iff_mem, mem_freK, Bool.and_eq_true, decide_eq_true_eq]
section
variable (H : Option Addr) (hcap : Nat) (S : Option Addr) (scap : Nat) (b : Sb)
theorem wholeC (hb : OkB b) (T : Option Addr) (c : Nat) {h k : Nat} (hh : h ≤ 1000) (hk : k ≤ 1000) {q : Bool} (hq : whoB b h k = q) (w : World) (hT : ArrD w T (nats (freK b b.hours.length))) : Calls Tryd.prog 49 #[.slice T (freK b b.hours.length).length c, .int .i64 h, .int .i64 k] w fun e w' => e = .returned (.bool q) ∧ Below w.heap.size w w' := by
 have hl := freK_len b b.hours.length
 have := whole_any T c (freK b b.hours.length) (by have := hb.hours; omega) h k hh hk w hT
 rw [whole_free, hq] at this
 exact this
theorem atFree (hb : OkB b) (T : Option Addr) (c : Nat) (i : Nat) (w : World) (hT : ArrD w T (nats (freK b b.hours.length))) : Calls Tryd.prog 39 #[.slice T (freK b b.hours.length).length c, .int .i64 i] w fun e w' => (∃ z : Int, decide (0 ≤ z) = (decide (i < b.hours.length) && safB b i) ∧ e = .returned (.int .i64 z)) ∧ Below w.heap.size w w' := by
 have hl := freK_len b b.hours.length
 refine (atC T c (freK b b.hours.length) (by have := hb.hours; omega) i w hT).mono ?_
 rintro _ _ ⟨rfl, h2⟩
 refine ⟨⟨_, ?_, rfl⟩, h2⟩
 have h3 := atN_neg (freK b b.hours.length) i
 rw [Bool.eq_iff_iff, decide_eq_true_eq, Bool.and_eq_true, decide_eq_true_eq, ← mem_freK, ← List.contains_iff_mem]
 have h4 : ((freK b b.hours.length).contains i = true) ↔ ¬ atI ((freK b b.hours.length).map fun (n : Nat) => (n : Int)) i < 0 := by
  rw [← decide_eq_true_iff (p := _ < _), h3]
  cases (freK b b.hours.length).contains i <;> simp
 rw [h4]
 omega
set_option maxRecDepth 100000 in
set_option maxHeartbeats 4000000 in
theorem cross_fin (hb : OkB b) {h lg : Nat} (hh : h < b.hours.length) (hlg : 1 ≤ lg ∧ lg ≤ 12) (n0 n1 n2 : Int) (T : Option Addr) (tc X : Nat) (w V : World) (hTw : TabW V) (hbV : Below w.heap.size w V) (hT : ArrD V T (nats (freK b b.hours.length))) (hCX : Cells V X [.int .i64 n0, .int .i64 n1, .int .i64 n2]) (a : Act) (hE : Fits 175 [(3, .pointer (some ⟨X, 0, none⟩)), (5, .int .i64 b.hours.length), (6, .int .i64 h), (7, .int .i64 lg), (8, .slice T (freK b b.hours.length).length tc), (10, .int .i64 (croV (croB b h lg)).1), (11, .int .i64 (croV (croB b h lg)).2)] a) :
    (cr 11 (bodyOf Tryd.f9)).wp Tryd.prog (bodyPost Tryd.prog Tryd.f9 fun e w' => e = .returned (.bool true) ∧ Below w.heap.size w w') a V := by
 have h12 := hb.hours
 obtain ⟨hw1, hw2⟩ := windI_range n2 b.hours.length (by omega)
 obtain ⟨k2, hk2⟩ : ∃ k : Nat, windI n2 b.hours.length = k := ⟨(windI n2 b.hours.length).toNat, by omega⟩
 have hk2l : k2 < b.hours.length := by omega
 have HS := hid hk2
 have HW64 : Hid ((b.hours.length : Int) ≤ 9223372036854775807) := hid (by omega)
 obtain ⟨so, hso⟩ : ∃ so : Nat, so = h + k2 := ⟨_, rfl⟩
 have hsoI : (h : Int) + k2 = so := by omega
 have CWf : whoB b so lg = false → Hid (∀ W, ArrD W T (nats (freK b b.hours.length)) → Calls Tryd.prog 49 #[.slice T (freK b b.hours.length).length tc, .int .i64 so, .int .i64 lg] W fun e w' => e = .returned (.bool false) ∧ Below W.heap.size W w') := fun hq => hid fun W hW => wholeC b hb T tc (by omega) (by omega) hq W hW
 have hno : croB b h lg = none → so + lg ≤ b.hours.length → whoB b so lg = false := fun hc hs => by
  have hP := croN_no _ _ _ hc so (by omega) (by omega)
  refine who_not (fun hr => ?_) hs
  rw [crP_yes (by omega : (lg : Int) ≤ runB b so)] at hP
  cases hP
 have hsm : ∀ g, croB b h lg = some g → so < g → so + lg ≤ b.hours.length → whoB b so lg = false := fun g hc hg hs => by
  obtain ⟨_, _, _, h4⟩ := croN_some _ _ _ _ hc
  have hP := h4 so (by omega) hg
  refine who_not (fun hr => ?_) hs
  rw [crP_yes (by omega : (lg : Int) ≤ runB b so)] at hP
  cases hP
 obtain ⟨fl, hfl⟩ : ∃ l, freK b b.hours.length = l := ⟨_, rfl⟩
 rw [hfl] at CWf hT hE
 obtain ⟨m, hm⟩ : ∃ m, b.hours.length = m := ⟨_, rfl⟩
 rw [hm] at hE HS HW64 hno hsm hh hk2l h12
 have CW := hid CWf
 have HNO := hid hno
 have HSM := hid hsm
 have HSO := hid hsoI
 have hso30 : so ≤ 30 := by omega
 clear hb hw1 hw2 hk2 hno hsm CWf hfl hso hsoI
 have nX := hCX.1; have cX2 := hCX.2 2 _ rfl
 refine wp_seq ?_; refine Ks ?_
 refine Rs 7 fun Q' K hK => ?_
 refine M1 hE 6 fun K' J ρ q6 => ?_; go_simp; (try clear q6)
 refine Ln hE J fun _ Eb => ?_; clear J K' hE a
 refine M1 Eb 3 fun K' J ρ q3 => ?_; go_simp; (try go_bits); (try clear q3)
 refine Ln Eb J fun _ Ea => ?_; clear J K' Eb
 refine M1 Ea 147 fun K' J ρ q147 => ?_; go_simp; (try clear q147)
 refine Ln Ea J fun _ Eb => ?_; clear J K' Ea
 refine M1 Eb 5 fun K' J ρ q5 => ?_; go_simp; (try clear q5)
 refine Ln Eb J fun _ Ea => ?_; clear J K' Eb
 refine M2 Ea 148 149 fun K' J ρ q148 q149 => ?_; go_simp; (try go_bits); (try clear q148 q149)
 go_at_call 40; refine (wind_any n2 _ HW64.out _).mono ?_; rw [HS.out]; rintro e g1 ⟨rfl, rfl⟩
 (try clear r148 r149)
 refine Ln Ea J fun _ Eb => ?_; clear J K' Ea
 refine M2 Eb 146 150 fun K' J ρ q146 q150 => ?_; go_simp; (try go_bits); (try simp (disch := omega) only [IntWalk.i64_in]); (try clear q146 q150)
 refine Ln Eb J fun _ Ea => ?_; clear J K' Eb
 refine M1 Ea 151 fun K' J ρ q151 => ?_; go_simp; (try clear q151)
 refine Ln Ea J fun _ Eb => ?_; clear J K' Ea
 refine late_done [5, 7, 8, 10, 11, 14] Eb hK (fun a hE => ?_); clear hK K Q' Eb; simp only [lk, pick, Nat.reduceEqDiff, ↓reduceIte] at hE
 rw [HSO.out] at hE
 clear nX cX2
 by_cases g1 : so + lg > m
 ·have g1I : (m : Int) < (so : Int) + lg := by omega
  refine Ks ?_
  refine Rs 14 fun Q' K hK => ?_
  refine M1 hE 14 fun K' J ρ q14 => ?_; go_simp; (try clear q14)
  refine Ln hE J fun _ Eb => ?_; clear J K' hE a
  refine M1 Eb 7 fun K' J ρ q7 => ?_; go_simp; (try clear q7)
  refine Ln Eb J fun _ Ea => ?_; clear J K' Eb
  refine M2 Ea 152 153 fun K' J ρ q152 q153 => ?_; go_simp; (try go_bits); (try simp (disch := omega) only [IntWalk.i64_in]); (try clear q152 q153)
  refine Ln Ea J fun _ Eb => ?_; clear J K' Ea
  refine M1 Eb 5 fun K' J ρ q5 => ?_; go_simp; (try clear q5)
  refine Ln Eb J fun _ Ea => ?_; clear J K' Eb
  refine M2 Ea 154 155 fun K' J ρ q154 q155 => ?_; go_simp; (try go_bits); (try clear q154 q155)
  refine Ln Ea J fun _ Eb => ?_; clear J K' Ea
  replace Eb := Eb.turn 156 (v' := .bool true) rfl (by (first | (simp; done) | (simp; omega)))
  refine M1 Eb 156 fun K' J ρ q156 => ?_; go_simp; (try clear q156)
  refine Ln Eb J fun _ Ea => ?_; clear J K' Eb
  refine Lno Ea 157 ?_
  refine Lu Ea fun _ Eb => ?_
  refine Lno Eb 157 ?_
  refine Lu Eb fun _ Ea => ?_
  refine Lno Ea 157 ?_
  refine Lu Ea fun _ Eb => ?_
  refine Lun Eb 160 ?_
  refine Lu Eb fun _ Ea => ?_
  refine Lun Ea 160 ?_
  refine Lu Ea fun _ Eb => ?_
  refine Lun Eb 160 ?_
  refine Lu Eb fun _ Ea => ?_
  refine Lno Ea 157 ?_
  refine Lu Ea fun _ Eb => ?_
  refine M2 Eb 157 164 fun K' J ρ q157 q164 => ?_; go_simp; (try go_bits); (try clear q157 q164)
  refine Ln Eb J fun _ Ea => ?_; clear J K' Eb
  replace Ea := Ea.turn 165 (v' := .bool true) rfl (by (first | rfl | simp))
  refine late_done [7, 8, 14, 165] Ea hK (fun a hE => ?_); clear hK K Q' Ea; simp only [lk, pick, Nat.reduceEqDiff, ↓reduceIte] at hE
  refine Ks ?_
  refine cond_yes hE (t := 165) rfl ?_
  refine Ks ?_
  refine Rs 2 fun Q' K hK => ?_
  refine M0 fun K' J ρ => ?_; go_simp; (try go_bits);
  go_at_call 22; refine (snowed_any _ hTw).mono ?_; rintro e w9 ⟨rfl, k9⟩
  refine Ln hE J fun _ Eb => ?_; clear J K' hE a
  refine M1 Eb 166 fun K' J ρ q166 => ?_; go_simp; (try clear q166)
  refine Ln Eb J fun _ Ea => ?_; clear J K' Eb
  refine late_done [4] Ea hK (fun a hE => ?_); clear hK K Q' Ea; simp only [lk, pick, Nat.reduceEqDiff, ↓reduceIte] at hE
  refine Ks ?_
  exact ret_one hE rfl rfl ⟨rfl, hbV.trans (k9.mono hbV.size)⟩
 ·have g1I : ¬ (m : Int) < (so : Int) + lg := by omega
  rcases hc : croB b h lg with _ | g
  ·have hw := CW.out (HNO.out hc (by omega))
   rw [hc] at hE
   simp only [croV] at hE
   clear CW HNO HSM hc
   refine Ks ?_
   refine Rs 14 fun Q' K hK => ?_
   refine M1 hE 14 fun K' J ρ q14 => ?_; go_simp; (try clear q14)
   refine Ln hE J fun _ Eb => ?_; clear J K' hE a
   refine M1 Eb 7 fun K' J ρ q7 => ?_; go_simp; (try clear q7)
   refine Ln Eb J fun _ Ea => ?_; clear J K' Eb
   refine M2 Ea 152 153 fun K' J ρ q152 q153 => ?_; go_simp; (try go_bits); (try simp (disch := omega) only [IntWalk.i64_in]); (try clear q152 q153)
   refine Ln Ea J fun _ Eb => ?_; clear J K' Ea
   refine M1 Eb 5 fun K' J ρ q5 => ?_; go_simp; (try clear q5)
   refine Ln Eb J fun _ Ea => ?_; clear J K' Eb
   refine M2 Ea 154 155 fun K' J ρ q154 q155 => ?_; go_simp; (try go_bits); (try clear q154 q155)
   refine Ln Ea J fun _ Eb => ?_; clear J K' Ea
   replace Eb := Eb.turn 156 (v' := .bool false) rfl (by (first | (simp; done) | (simp; omega)))
   refine M1 Eb 156 fun K' J ρ q156 => ?_; go_simp; (try clear q156)
   refine Ln Eb J fun _ Ea => ?_; clear J K' Eb
   refine N1 Ea 157 11 fun K' J ρ q11 => ?_; go_simp; (try clear q11)
   refine Ln Ea J fun _ Eb => ?_; clear J K' Ea
   refine N1 Eb 157 158 fun K' J ρ q158 => ?_; go_simp; (try go_bits); (try clear q158)
   refine Ln Eb J fun _ Ea => ?_; clear J K' Eb
   refine N1 Ea 157 159 fun K' J ρ q159 => ?_; go_simp; (try clear q159)
   refine Ln Ea J fun _ Eb => ?_; clear J K' Ea
   refine Lno Eb 160 ?_
   refine Lu Eb fun _ Ea => ?_
   refine Lno Ea 160 ?_
   refine Lu Ea fun _ Eb => ?_
   refine Lno Eb 160 ?_
   refine Lu Eb fun _ Ea => ?_
   refine N2 Ea 157 160 163 fun K' J ρ q160 q163 => ?_; go_simp; (try go_bits); (try clear q160 q163)
   refine Ln Ea J fun _ Eb => ?_; clear J K' Ea
   refine M2 Eb 157 164 fun K' J ρ q157 q164 => ?_; go_simp; (try go_bits); (try clear q157 q164)
   refine Ln Eb J fun _ Ea => ?_; clear J K' Eb
   replace Ea := Ea.turn 165 (v' := .bool false) rfl (by (first | rfl | simp))
   refine late_done [7, 8, 14, 165] Ea hK (fun a hE => ?_); clear hK K Q' Ea; simp only [lk, pick, Nat.reduceEqDiff, ↓reduceIte] at hE
   refine Ks ?_
   refine cond_no hE (t := 165) rfl ?_
   refine Ks ?_
   refine Rs 9 fun Q' K hK => ?_
   refine M1 hE 8 fun K' J ρ q8 => ?_; go_simp; (try clear q8)
   refine Ln hE J fun _ Eb => ?_; clear J K' hE a
   refine M1 Eb 14 fun K' J ρ q14 => ?_; go_simp; (try clear q14)
   refine Ln Eb J fun _ Ea => ?_; clear J K' Eb
   refine M1 Ea 7 fun K' J ρ q7 => ?_; go_simp; (try clear q7)
   refine Ln Ea J fun _ Eb => ?_; clear J K' Ea
   refine M3 Eb 167 168 169 fun K' J ρ q167 q168 q169 => ?_; go_simp; (try go_bits); (try clear q167 q168 q169)
   go_at_call 49; refine (hw.out _ hT).mono ?_; rintro e w8 ⟨rfl, h8⟩
   (try clear r167 r168 r169)
   refine Ln Eb J fun _ Ea => ?_; clear J K' Eb
   refine M1 Ea 170 fun K' J ρ q170 => ?_; go_simp; (try go_bits); (try simp (disch := omega) only [IntWalk.i64_in]); (try clear q170)
   refine Ln Ea J fun _ Eb => ?_; clear J K' Ea
   refine M1 Eb 171 fun K' J ρ q171 => ?_; go_simp; (try clear q171)
   refine Ln Eb J fun _ Ea => ?_; clear J K' Eb
   refine Ly Ea 172 fun K' J => ?_
   refine o0 fun ρ => ?_; go_simp; (try go_bits);
   go_at_call 22; refine (snowed_any _ (hTw.below h8)).mono ?_; rintro e w9 ⟨rfl, k9⟩
   have h89 := h8.trans (k9.mono h8.size)
   refine Ln Ea J fun _ Eb => ?_; clear J K' Ea
   refine M2 Eb 172 173 fun K' J ρ q172 q173 => ?_; go_simp; (try go_bits); (try clear q172 q173)
   refine Ln Eb J fun _ Ea => ?_; clear J K' Eb
   refine M1 Ea 174 fun K' J ρ q174 => ?_; go_simp; (try clear q174)
   refine Ln Ea J fun _ Eb => ?_; clear J K' Ea
   refine late_done [4] Eb hK (fun a hE => ?_); clear hK K Q' Eb; simp only [lk, pick, Nat.reduceEqDiff, ↓reduceIte] at hE
   refine Ks ?_
   exact ret_one hE rfl rfl ⟨rfl, hbV.trans (h89.mono hbV.size)⟩
  ·have hw := fun hlt => CW.out (HSM.out g hc hlt (by omega))
   rw [hc] at hE
   simp only [croV] at hE
   clear CW HNO HSM hc
   by_cases g2 : so < g
   ·have hw := hw g2
    refine Ks ?_
    refine Rs 14 fun Q' K hK => ?_
    refine M1 hE 14 fun K' J ρ q14 => ?_; go_simp; (try clear q14)
    refine Ln hE J fun _ Eb => ?_; clear J K' hE a
    refine M1 Eb 7 fun K' J ρ q7 => ?_; go_simp; (try clear q7)
    refine Ln Eb J fun _ Ea => ?_; clear J K' Eb
    refine M2 Ea 152 153 fun K' J ρ q152 q153 => ?_; go_simp; (try go_bits); (try simp (disch := omega) only [IntWalk.i64_in]); (try clear q152 q153)
    refine Ln Ea J fun _ Eb => ?_; clear J K' Ea
    refine M1 Eb 5 fun K' J ρ q5 => ?_; go_simp; (try clear q5)
    refine Ln Eb J fun _ Ea => ?_; clear J K' Eb
    refine M2 Ea 154 155 fun K' J ρ q154 q155 => ?_; go_simp; (try go_bits); (try clear q154 q155)
    refine Ln Ea J fun _ Eb => ?_; clear J K' Ea
    replace Eb := Eb.turn 156 (v' := .bool false) rfl (by (first | (simp; done) | (simp; omega)))
    refine M1 Eb 156 fun K' J ρ q156 => ?_; go_simp; (try clear q156)
    refine Ln Eb J fun _ Ea => ?_; clear J K' Eb
    refine N1 Ea 157 11 fun K' J ρ q11 => ?_; go_simp; (try clear q11)
    refine Ln Ea J fun _ Eb => ?_; clear J K' Ea
    refine N1 Eb 157 158 fun K' J ρ q158 => ?_; go_simp; (try go_bits); (try clear q158)
    refine Ln Eb J fun _ Ea => ?_; clear J K' Eb
    refine N1 Ea 157 159 fun K' J ρ q159 => ?_; go_simp; (try clear q159)
    refine Ln Ea J fun _ Eb => ?_; clear J K' Ea
    refine N1 Eb 160 14 fun K' J ρ q14 => ?_; go_simp; (try clear q14)
    refine Ln Eb J fun _ Ea => ?_; clear J K' Eb
    refine N1 Ea 160 10 fun K' J ρ q10 => ?_; go_simp; (try clear q10)
    refine Ln Ea J fun _ Eb => ?_; clear J K' Ea
    refine N2 Eb 160 161 162 fun K' J ρ q161 q162 => ?_; go_simp; (try go_bits); (try clear q161 q162)
    refine Ln Eb J fun _ Ea => ?_; clear J K' Eb
    replace Ea := Ea.turn 163 (v' := .bool false) rfl (by (first | (simp; done) | (simp; omega)))
    refine N2 Ea 157 160 163 fun K' J ρ q160 q163 => ?_; go_simp; (try go_bits); (try clear q160 q163)
    refine Ln Ea J fun _ Eb => ?_; clear J K' Ea
    refine M2 Eb 157 164 fun K' J ρ q157 q164 => ?_; go_simp; (try go_bits); (try clear q157 q164)
    refine Ln Eb J fun _ Ea => ?_; clear J K' Eb
    replace Ea := Ea.turn 165 (v' := .bool false) rfl (by (first | rfl | simp))
    refine late_done [7, 8, 14, 165] Ea hK (fun a hE => ?_); clear hK K Q' Ea; simp only [lk, pick, Nat.reduceEqDiff, ↓reduceIte] at hE
    refine Ks ?_
    refine cond_no hE (t := 165) rfl ?_
    refine Ks ?_
    refine Rs 9 fun Q' K hK => ?_
    refine M1 hE 8 fun K' J ρ q8 => ?_; go_simp; (try clear q8)
    refine Ln hE J fun _ Eb => ?_; clear J K' hE a
    refine M1 Eb 14 fun K' J ρ q14 => ?_; go_simp; (try clear q14)
    refine Ln Eb J fun _ Ea => ?_; clear J K' Eb
    refine M1 Ea 7 fun K' J ρ q7 => ?_; go_simp; (try clear q7)
    refine Ln Ea J fun _ Eb => ?_; clear J K' Ea
    refine M3 Eb 167 168 169 fun K' J ρ q167 q168 q169 => ?_; go_simp; (try go_bits); (try clear q167 q168 q169)
    go_at_call 49; refine (hw.out _ hT).mono ?_; rintro e w8 ⟨rfl, h8⟩
    (try clear r167 r168 r169)
    refine Ln Eb J fun _ Ea => ?_; clear J K' Eb
    refine M1 Ea 170 fun K' J ρ q170 => ?_; go_simp; (try go_bits); (try simp (disch := omega) only [IntWalk.i64_in]); (try clear q170)
    refine Ln Ea J fun _ Eb => ?_; clear J K' Ea
    refine M1 Eb 171 fun K' J ρ q171 => ?_; go_simp; (try clear q171)
    refine Ln Eb J fun _ Ea => ?_; clear J K' Eb
    refine Ly Ea 172 fun K' J => ?_
    refine o0 fun ρ => ?_; go_simp; (try go_bits);
    go_at_call 22; refine (snowed_any _ (hTw.below h8)).mono ?_; rintro e w9 ⟨rfl, k9⟩
    have h89 := h8.trans (k9.mono h8.size)
    refine Ln Ea J fun _ Eb => ?_; clear J K' Ea
    refine M2 Eb 172 173 fun K' J ρ q172 q173 => ?_; go_simp; (try go_bits); (try clear q172 q173)
    refine Ln Eb J fun _ Ea => ?_; clear J K' Eb
    refine M1 Ea 174 fun K' J ρ q174 => ?_; go_simp; (try clear q174)
    refine Ln Ea J fun _ Eb => ?_; clear J K' Ea
    refine late_done [4] Eb hK (fun a hE => ?_); clear hK K Q' Eb; simp only [lk, pick, Nat.reduceEqDiff, ↓reduceIte] at hE
    refine Ks ?_
    exact ret_one hE rfl rfl ⟨rfl, hbV.trans (h89.mono hbV.size)⟩
   ·clear hw
    refine Ks ?_
    refine Rs 14 fun Q' K hK => ?_
    refine M1 hE 14 fun K' J ρ q14 => ?_; go_simp; (try clear q14)
    refine Ln hE J fun _ Eb => ?_; clear J K' hE a
    refine M1 Eb 7 fun K' J ρ q7 => ?_; go_simp; (try clear q7)
    refine Ln Eb J fun _ Ea => ?_; clear J K' Eb
    refine M2 Ea 152 153 fun K' J ρ q152 q153 => ?_; go_simp; (try go_bits); (try simp (disch := omega) only [IntWalk.i64_in]); (try clear q152 q153)
    refine Ln Ea J fun _ Eb => ?_; clear J K' Ea
    refine M1 Eb 5 fun K' J ρ q5 => ?_; go_simp; (try clear q5)
    refine Ln Eb J fun _ Ea => ?_; clear J K' Eb
    refine M2 Ea 154 155 fun K' J ρ q154 q155 => ?_; go_simp; (try go_bits); (try clear q154 q155)
    refine Ln Ea J fun _ Eb => ?_; clear J K' Ea
    replace Eb := Eb.turn 156 (v' := .bool false) rfl (by (first | (simp; done) | (simp; omega)))
    refine M1 Eb 156 fun K' J ρ q156 => ?_; go_simp; (try clear q156)
    refine Ln Eb J fun _ Ea => ?_; clear J K' Eb
    refine N1 Ea 157 11 fun K' J ρ q11 => ?_; go_simp; (try clear q11)
    refine Ln Ea J fun _ Eb => ?_; clear J K' Ea
    refine N1 Eb 157 158 fun K' J ρ q158 => ?_; go_simp; (try go_bits); (try clear q158)
    refine Ln Eb J fun _ Ea => ?_; clear J K' Eb
    refine N1 Ea 157 159 fun K' J ρ q159 => ?_; go_simp; (try clear q159)
    refine Ln Ea J fun _ Eb => ?_; clear J K' Ea
    refine N1 Eb 160 14 fun K' J ρ q14 => ?_; go_simp; (try clear q14)
    refine Ln Eb J fun _ Ea => ?_; clear J K' Eb
    refine N1 Ea 160 10 fun K' J ρ q10 => ?_; go_simp; (try clear q10)
    refine Ln Ea J fun _ Eb => ?_; clear J K' Ea
    refine N2 Eb 160 161 162 fun K' J ρ q161 q162 => ?_; go_simp; (try go_bits); (try clear q161 q162)
    refine Ln Eb J fun _ Ea => ?_; clear J K' Eb
    replace Ea := Ea.turn 163 (v' := .bool true) rfl (by (first | (simp; done) | (simp; omega)))
    refine N2 Ea 157 160 163 fun K' J ρ q160 q163 => ?_; go_simp; (try go_bits); (try clear q160 q163)
    refine Ln Ea J fun _ Eb => ?_; clear J K' Ea
    refine M2 Eb 157 164 fun K' J ρ q157 q164 => ?_; go_simp; (try go_bits); (try clear q157 q164)
    refine Ln Eb J fun _ Ea => ?_; clear J K' Eb
    replace Ea := Ea.turn 165 (v' := .bool true) rfl (by (first | rfl | simp))
    refine late_done [7, 8, 14, 165] Ea hK (fun a hE => ?_); clear hK K Q' Ea; simp only [lk, pick, Nat.reduceEqDiff, ↓reduceIte] at hE
    refine Ks ?_
    refine cond_yes hE (t := 165) rfl ?_
    refine Ks ?_
    refine Rs 2 fun Q' K hK => ?_
    refine M0 fun K' J ρ => ?_; go_simp; (try go_bits);
    go_at_call 22; refine (snowed_any _ hTw).mono ?_; rintro e w9 ⟨rfl, k9⟩
    refine Ln hE J fun _ Eb => ?_; clear J K' hE a
    refine M1 Eb 166 fun K' J ρ q166 => ?_; go_simp; (try clear q166)
    refine Ln Eb J fun _ Ea => ?_; clear J K' Eb
    refine late_done [4] Ea hK (fun a hE => ?_); clear hK K Q' Ea; simp only [lk, pick, Nat.reduceEqDiff, ↓reduceIte] at hE
    refine Ks ?_
    exact ret_one hE rfl rfl ⟨rfl, hbV.trans (k9.mono hbV.size)⟩
set_option maxRecDepth 100000 in
set_option maxHeartbeats 4000000 in
theorem cross_mid (hb : OkB b) (hr : rtB b = true) {h lg : Nat} (hh : h < b.hours.length) (hlg : 1 ≤ lg ∧ lg ≤ 12) (n0 n1 n2 : Int) (T : Option Addr) (tc X : Nat) (w V : World) (hTw : TabW V) (hbV : Below w.heap.size w V) (hT : ArrD V T (nats (freK b b.hours.length))) (hCX : Cells V X [.int .i64 n0, .int .i64 n1, .int .i64 n2]) (a : Act) (hE : Fits 175 [(3, .pointer (some ⟨X, 0, none⟩)), (5, .int .i64 b.hours.length), (6, .int .i64 h), (7, .int .i64 lg), (8, .slice T (freK b b.hours.length).length tc), (9, .int .i64 0), (10, .int .i64 (croV (croB b h lg)).1), (11, .int .i64 (croV (croB b h lg)).2), (12, .int .i64 (if runB b h = 0 then (0, 4) else ((h : Int) + runB b h - 1, 0) : Int × Int).1), (13, .int .i64 (if runB b h = 0 then (0, 4) else ((h : Int) + runB b h - 1, 0) : Int × Int).2)] a) :
    (cr 8 (bodyOf Tryd.f9)).wp Tryd.prog (bodyPost Tryd.prog Tryd.f9 fun e w' => e = .returned (.bool true) ∧ Below w.heap.size w w') a V := by
 have h12 := hb.hours
 have HF := hid fun (V : World) => cross_fin b hb hh hlg n0 n1 n2 T tc X w V
 obtain ⟨f1, f2, f3⟩ := run_facts b (h := h) (by omega)
 have f0 := run_pos b hh
 have CA := hid fun (W : World) (hW : ArrD W T (nats (freK b b.hours.length))) => atFree b hb T tc h W hW
 rw [decide_eq_true hh, Bool.true_and] at CA
 have CAx := fun (i : Nat) (W : World) (hW : ArrD W T (nats (freK b b.hours.length))) => atFree b hb T tc i W hW
 have CWx := fun (g k : Nat) (hg : g ≤ 1000) (hk : k ≤ 1000) (hq : whoB b g k = true) (W : World) (hW : ArrD W T (nats (freK b b.hours.length))) => wholeC b hb T tc hg hk hq W hW
 have hcs : ∀ g, croB b h lg = some g → h ≤ g ∧ (g : Int) ≤ (b.hours.length : Int) - lg ∧ whoB b g lg = true := fun g hc => by
  obtain ⟨g1, g2, g3, _⟩ := croN_some _ _ _ _ hc
  have g4 : lg ≤ runB b g := by
   have h3 : (lg : Int) ≤ runB b g := by unfold crP at g3; exact of_decide_eq_true g3
   omega
  have g5 := (run_facts b (h := g) (by omega)).1
  exact ⟨g1, by omega, who_run g4 (by omega)⟩
 have hwr : whoB b h (runB b h) = true := who_run (Nat.le_refl _) (by omega)
 obtain ⟨r, hr0⟩ : ∃ r, runB b h = r := ⟨_, rfl⟩
 rw [hr0] at f0 f1 f2 f3 hwr hE
 obtain ⟨fl, hfl⟩ : ∃ l, freK b b.hours.length = l := ⟨_, rfl⟩
 rw [hfl] at CA CAx CWx hT hE HF
 obtain ⟨m, hm⟩ : ∃ m, b.hours.length = m := ⟨_, rfl⟩
 rw [hm] at hE hh h12 f1 f3 hcs HF
 simp only [hm] at CAx
 clear hb hfl hr0
 by_cases h0 : r = 0
 ·subst h0
  rw [if_pos rfl] at hE
  simp only at hE
  have hs : safB b h = false := by simpa using f0
  rw [hs] at CA
  cases hc' : croB b h lg with
  | none =>
   rw [hc'] at hE
   simp only [croV] at hE
   clear hcs f1 f2 f3 f0 CAx CWx hwr
   refine wp_seq ?_; refine Ks ?_
   refine Rs 31 fun Q' K hK => ?_
   refine M1 hE 13 fun K' J ρ q13 => ?_; go_simp; (try clear q13)
   refine Ln hE J fun _ Eb => ?_; clear J K' hE a
   refine M1 Eb 70 fun K' J ρ q70 => ?_; go_simp; (try go_bits); (try clear q70)
   refine Ln Eb J fun _ Ea => ?_; clear J K' Eb
   refine M1 Ea 8 fun K' J ρ q8 => ?_; go_simp; (try clear q8)
   refine Ln Ea J fun _ Eb => ?_; clear J K' Ea
   refine M1 Eb 6 fun K' J ρ q6 => ?_; go_simp; (try clear q6)
   refine Ln Eb J fun _ Ea => ?_; clear J K' Eb
   refine M2 Ea 72 73 fun K' J ρ q72 q73 => ?_; go_simp; (try go_bits); (try clear q72 q73)
   go_at_call 39; refine (CA.out _ hT).mono ?_; rintro e w2 ⟨⟨z, hz, rfl⟩, h2⟩
   (try clear r72 r73)
   refine Ln Ea J fun _ Eb => ?_; clear J K' Ea
   refine M1 Eb 74 fun K' J ρ q74 => ?_; go_simp; (try go_bits); (try clear q74)
   refine Ln Eb J fun _ Ea => ?_; clear J K' Eb
   replace Ea := Ea.turn 75 (v' := .bool false) rfl (by (rw [← hz]))
   refine M2 Ea 71 75 fun K' J ρ q71 q75 => ?_; go_simp; (try go_bits); (try clear q71 q75)
   refine Ln Ea J fun _ Eb => ?_; clear J K' Ea
   refine M1 Eb 76 fun K' J ρ q76 => ?_; go_simp; (try clear q76)
   refine Ln Eb J fun _ Ea => ?_; clear J K' Eb
   refine N1 Ea 77 13 fun K' J ρ q13 => ?_; go_simp; (try clear q13)
   refine Ln Ea J fun _ Eb => ?_; clear J K' Ea
   refine N1 Eb 77 78 fun K' J ρ q78 => ?_; go_simp; (try go_bits); (try clear q78)
   refine Ln Eb J fun _ Ea => ?_; clear J K' Eb
   refine N1 Ea 77 79 fun K' J ρ q79 => ?_; go_simp; (try clear q79)
   refine Ln Ea J fun _ Eb => ?_; clear J K' Ea
   refine N1 Eb 80 13 fun K' J ρ q13 => ?_; go_simp; (try clear q13)
   refine Ln Eb J fun _ Ea => ?_; clear J K' Eb
   refine N1 Ea 80 81 fun K' J ρ q81 => ?_; go_simp; (try go_bits); (try clear q81)
   refine Ln Ea J fun _ Eb => ?_; clear J K' Ea
   refine N1 Eb 80 82 fun K' J ρ q82 => ?_; go_simp; (try clear q82)
   refine Ln Eb J fun _ Ea => ?_; clear J K' Eb
   refine N1 Ea 83 12 fun K' J ρ q12 => ?_; go_simp; (try clear q12)
   refine Ln Ea J fun _ Eb => ?_; clear J K' Ea
   refine N1 Eb 83 84 fun K' J ρ q84 => ?_; go_simp; (try go_bits); (try clear q84)
   refine Ln Eb J fun _ Ea => ?_; clear J K' Eb
   refine N2 Ea 80 83 85 fun K' J ρ q83 q85 => ?_; go_simp; (try go_bits); (try clear q83 q85)
   refine Ln Ea J fun _ Eb => ?_; clear J K' Ea
   refine N2 Eb 77 80 86 fun K' J ρ q80 q86 => ?_; go_simp; (try go_bits); (try clear q80 q86)
   refine Ln Eb J fun _ Ea => ?_; clear J K' Eb
   refine M2 Ea 77 87 fun K' J ρ q77 q87 => ?_; go_simp; (try go_bits); (try clear q77 q87)
   refine Ln Ea J fun _ Eb => ?_; clear J K' Ea
   refine M1 Eb 88 fun K' J ρ q88 => ?_; go_simp; (try clear q88)
   refine Ln Eb J fun _ Ea => ?_; clear J K' Eb
   refine N1 Ea 89 11 fun K' J ρ q11 => ?_; go_simp; (try clear q11)
   refine Ln Ea J fun _ Eb => ?_; clear J K' Ea
   refine N1 Eb 89 90 fun K' J ρ q90 => ?_; go_simp; (try go_bits); (try clear q90)
   refine Ln Eb J fun _ Ea => ?_; clear J K' Eb
   refine N1 Ea 89 91 fun K' J ρ q91 => ?_; go_simp; (try clear q91)
   refine Ln Ea J fun _ Eb => ?_; clear J K' Ea
   refine N1 Eb 92 11 fun K' J ρ q11 => ?_; go_simp; (try clear q11)
   refine Ln Eb J fun _ Ea => ?_; clear J K' Eb
   refine N1 Ea 92 93 fun K' J ρ q93 => ?_; go_simp; (try go_bits); (try clear q93)
   refine Ln Ea J fun _ Eb => ?_; clear J K' Ea
   refine N1 Eb 92 94 fun K' J ρ q94 => ?_; go_simp; (try clear q94)
   refine Ln Eb J fun _ Ea => ?_; clear J K' Eb
   refine N1 Ea 95 10 fun K' J ρ q10 => ?_; go_simp; (try clear q10)
   refine Ln Ea J fun _ Eb => ?_; clear J K' Ea
   refine N1 Eb 95 96 fun K' J ρ q96 => ?_; go_simp; (try go_bits); (try clear q96)
   refine Ln Eb J fun _ Ea => ?_; clear J K' Eb
   refine N2 Ea 92 95 97 fun K' J ρ q95 q97 => ?_; go_simp; (try go_bits); (try clear q95 q97)
   refine Ln Ea J fun _ Eb => ?_; clear J K' Ea
   refine N2 Eb 89 92 98 fun K' J ρ q92 q98 => ?_; go_simp; (try go_bits); (try clear q92 q98)
   refine Ln Eb J fun _ Ea => ?_; clear J K' Eb
   refine M2 Ea 89 99 fun K' J ρ q89 q99 => ?_; go_simp; (try go_bits); (try clear q89 q99)
   refine Ln Ea J fun _ Eb => ?_; clear J K' Ea
   replace Eb := Eb.turn 100 (v' := .bool false) rfl (by (first | rfl | simp))
   refine late_done [3, 5, 6, 7, 8, 10, 11, 12, 13, 100] Eb hK (fun a hE => ?_); clear hK K Q' Eb; simp only [lk, pick, Nat.reduceEqDiff, ↓reduceIte] at hE
   clear hz
   have hbw2 := hbV.trans (h2.mono hbV.size)
   replace hT := hT.below h2
   replace hTw := hTw.below h2
   replace hCX := hCX.below h2
   refine Ks ?_
   refine cond_no hE (t := 100) rfl ?_
   refine Ks ?_
   refine Rs 27 fun Q' K hK => ?_
   refine M1 hE 13 fun K' J ρ q13 => ?_; go_simp; (try clear q13)
   refine Ln hE J fun _ Eb => ?_; clear J K' hE a
   refine M1 Eb 101 fun K' J ρ q101 => ?_; go_simp; (try go_bits); (try clear q101)
   refine Ln Eb J fun _ Ea => ?_; clear J K' Eb
   refine M1 Ea 102 fun K' J ρ q102 => ?_; go_simp; (try clear q102)
   refine Ln Ea J fun _ Eb => ?_; clear J K' Ea
   refine Lno Eb 103 ?_
   refine Lu Eb fun _ Ea => ?_
   refine Lno Ea 103 ?_
   refine Lu Ea fun _ Eb => ?_
   refine Lno Eb 103 ?_
   refine Lu Eb fun _ Ea => ?_
   refine Lno Ea 103 ?_
   refine Lu Ea fun _ Eb => ?_
   refine Lno Eb 103 ?_
   refine Lu Eb fun _ Ea => ?_
   refine Lno Ea 103 ?_
   refine Lu Ea fun _ Eb => ?_
   refine Lno Eb 103 ?_
   refine Lu Eb fun _ Ea => ?_
   refine Lun Ea 110 ?_
   refine Lu Ea fun _ Eb => ?_
   refine Lun Eb 110 ?_
   refine Lu Eb fun _ Ea => ?_
   refine Lun Ea 110 ?_
   refine Lu Ea fun _ Eb => ?_
   refine Lun Eb 110 ?_
   refine Lu Eb fun _ Ea => ?_
   refine Lun Ea 110 ?_
   refine Lu Ea fun _ Eb => ?_
   refine Lno Eb 103 ?_
   refine Lu Eb fun _ Ea => ?_
   refine Lno Ea 103 ?_
   refine Lu Ea fun _ Eb => ?_
   refine Lun Eb 117 ?_
   refine Lu Eb fun _ Ea => ?_
   refine Lun Ea 117 ?_
   refine Lu Ea fun _ Eb => ?_
   refine Lun Eb 117 ?_
   refine Lu Eb fun _ Ea => ?_
   refine Lun Ea 117 ?_
   refine Lu Ea fun _ Eb => ?_
   refine Lun Eb 117 ?_
   refine Lu Eb fun _ Ea => ?_
   refine Lun Ea 117 ?_
   refine Lu Ea fun _ Eb => ?_
   refine Lun Eb 117 ?_
   refine Lu Eb fun _ Ea => ?_
   refine Lun Ea 117 ?_
   refine Lu Ea fun _ Eb => ?_
   refine Lno Eb 103 ?_
   refine Lu Eb fun _ Ea => ?_
   refine M2 Ea 103 126 fun K' J ρ q103 q126 => ?_; go_simp; (try go_bits); (try clear q103 q126)
   refine Ln Ea J fun _ Eb => ?_; clear J K' Ea
   replace Eb := Eb.turn 127 (v' := .bool false) rfl (by (first | rfl | simp))
   refine late_done [3, 5, 6, 7, 8, 10, 11, 127] Eb hK (fun a hE => ?_); clear hK K Q' Eb; simp only [lk, pick, Nat.reduceEqDiff, ↓reduceIte] at hE
   refine Ks ?_
   refine cond_no hE (t := 127) rfl ?_
   refine Ks ?_
   refine Rs 18 fun Q' K hK => ?_
   refine M1 hE 11 fun K' J ρ q11 => ?_; go_simp; (try clear q11)
   refine Ln hE J fun _ Eb => ?_; clear J K' hE a
   refine M1 Eb 128 fun K' J ρ q128 => ?_; go_simp; (try go_bits); (try clear q128)
   refine Ln Eb J fun _ Ea => ?_; clear J K' Eb
   refine M1 Ea 129 fun K' J ρ q129 => ?_; go_simp; (try clear q129)
   refine Ln Ea J fun _ Eb => ?_; clear J K' Ea
   refine Lno Eb 130 ?_
   refine Lu Eb fun _ Ea => ?_
   refine Lno Ea 130 ?_
   refine Lu Ea fun _ Eb => ?_
   refine Lno Eb 130 ?_
   refine Lu Eb fun _ Ea => ?_
   refine Lno Ea 130 ?_
   refine Lu Ea fun _ Eb => ?_
   refine Lno Eb 130 ?_
   refine Lu Eb fun _ Ea => ?_
   refine Lno Ea 130 ?_
   refine Lu Ea fun _ Eb => ?_
   refine Lno Eb 130 ?_
   refine Lu Eb fun _ Ea => ?_
   refine Lno Ea 130 ?_
   refine Lu Ea fun _ Eb => ?_
   refine Lun Eb 138 ?_
   refine Lu Eb fun _ Ea => ?_
   refine Lun Ea 138 ?_
   refine Lu Ea fun _ Eb => ?_
   refine Lun Eb 138 ?_
   refine Lu Eb fun _ Ea => ?_
   refine Lun Ea 138 ?_
   refine Lu Ea fun _ Eb => ?_
   refine Lun Eb 138 ?_
   refine Lu Eb fun _ Ea => ?_
   refine Lno Ea 130 ?_
   refine Lu Ea fun _ Eb => ?_
   refine M2 Eb 130 144 fun K' J ρ q130 q144 => ?_; go_simp; (try go_bits); (try clear q130 q144)
   refine Ln Eb J fun _ Ea => ?_; clear J K' Eb
   replace Ea := Ea.turn 145 (v' := .bool false) rfl (by (first | rfl | simp))
   refine late_done [3, 5, 6, 7, 8, 10, 11, 145] Ea hK (fun a hE => ?_); clear hK K Q' Ea; simp only [lk, pick, Nat.reduceEqDiff, ↓reduceIte] at hE
   refine cond_no hE (t := 145) rfl ?_
   refine wp_skip ?_
   refine HF.out _ hTw hbw2 hT hCX _ ?_
   rw [hc']
   simp only [croV]
   exact fits_init [(145, .bool false)] hE
  | some g =>
   obtain ⟨g1, g2, g3⟩ := hcs g hc'
   have CB2 := hid fun (W : World) => btw_yes (n := (g : Int)) (lo := h) (hi := (m : Int) - lg) ⟨by omega, g2⟩ W
   have CW2 := hid fun (W : World) hW => CWx g lg (by omega) (by omega) g3 W hW
   rw [hc'] at hE
   simp only [croV] at hE
   clear hcs f1 f2 f3 f0 CAx CWx hwr
   refine wp_seq ?_; refine Ks ?_
   refine Rs 31 fun Q' K hK => ?_
   refine M1 hE 13 fun K' J ρ q13 => ?_; go_simp; (try clear q13)
   refine Ln hE J fun _ Eb => ?_; clear J K' hE a
   refine M1 Eb 70 fun K' J ρ q70 => ?_; go_simp; (try go_bits); (try clear q70)
   refine Ln Eb J fun _ Ea => ?_; clear J K' Eb
   refine M1 Ea 8 fun K' J ρ q8 => ?_; go_simp; (try clear q8)
   refine Ln Ea J fun _ Eb => ?_; clear J K' Ea
   refine M1 Eb 6 fun K' J ρ q6 => ?_; go_simp; (try clear q6)
   refine Ln Eb J fun _ Ea => ?_; clear J K' Eb
   refine M2 Ea 72 73 fun K' J ρ q72 q73 => ?_; go_simp; (try go_bits); (try clear q72 q73)
   go_at_call 39; refine (CA.out _ hT).mono ?_; rintro e w2 ⟨⟨z, hz, rfl⟩, h2⟩
   (try clear r72 r73)
   refine Ln Ea J fun _ Eb => ?_; clear J K' Ea
   refine M1 Eb 74 fun K' J ρ q74 => ?_; go_simp; (try go_bits); (try clear q74)
   refine Ln Eb J fun _ Ea => ?_; clear J K' Eb
   replace Ea := Ea.turn 75 (v' := .bool false) rfl (by (rw [← hz]))
   refine M2 Ea 71 75 fun K' J ρ q71 q75 => ?_; go_simp; (try go_bits); (try clear q71 q75)
   refine Ln Ea J fun _ Eb => ?_; clear J K' Ea
   refine M1 Eb 76 fun K' J ρ q76 => ?_; go_simp; (try clear q76)
   refine Ln Eb J fun _ Ea => ?_; clear J K' Eb
   refine N1 Ea 77 13 fun K' J ρ q13 => ?_; go_simp; (try clear q13)
   refine Ln Ea J fun _ Eb => ?_; clear J K' Ea
   refine N1 Eb 77 78 fun K' J ρ q78 => ?_; go_simp; (try go_bits); (try clear q78)
   refine Ln Eb J fun _ Ea => ?_; clear J K' Eb
   refine N1 Ea 77 79 fun K' J ρ q79 => ?_; go_simp; (try clear q79)
   refine Ln Ea J fun _ Eb => ?_; clear J K' Ea
   refine N1 Eb 80 13 fun K' J ρ q13 => ?_; go_simp; (try clear q13)
   refine Ln Eb J fun _ Ea => ?_; clear J K' Eb
   refine N1 Ea 80 81 fun K' J ρ q81 => ?_; go_simp; (try go_bits); (try clear q81)
   refine Ln Ea J fun _ Eb => ?_; clear J K' Ea
   refine N1 Eb 80 82 fun K' J ρ q82 => ?_; go_simp; (try clear q82)
   refine Ln Eb J fun _ Ea => ?_; clear J K' Eb
   refine N1 Ea 83 12 fun K' J ρ q12 => ?_; go_simp; (try clear q12)
   refine Ln Ea J fun _ Eb => ?_; clear J K' Ea
   refine N1 Eb 83 84 fun K' J ρ q84 => ?_; go_simp; (try go_bits); (try clear q84)
   refine Ln Eb J fun _ Ea => ?_; clear J K' Eb
   refine N2 Ea 80 83 85 fun K' J ρ q83 q85 => ?_; go_simp; (try go_bits); (try clear q83 q85)
   refine Ln Ea J fun _ Eb => ?_; clear J K' Ea
   refine N2 Eb 77 80 86 fun K' J ρ q80 q86 => ?_; go_simp; (try go_bits); (try clear q80 q86)
   refine Ln Eb J fun _ Ea => ?_; clear J K' Eb
   refine M2 Ea 77 87 fun K' J ρ q77 q87 => ?_; go_simp; (try go_bits); (try clear q77 q87)
   refine Ln Ea J fun _ Eb => ?_; clear J K' Ea
   refine M1 Eb 88 fun K' J ρ q88 => ?_; go_simp; (try clear q88)
   refine Ln Eb J fun _ Ea => ?_; clear J K' Eb
   refine N1 Ea 89 11 fun K' J ρ q11 => ?_; go_simp; (try clear q11)
   refine Ln Ea J fun _ Eb => ?_; clear J K' Ea
   refine N1 Eb 89 90 fun K' J ρ q90 => ?_; go_simp; (try go_bits); (try clear q90)
   refine Ln Eb J fun _ Ea => ?_; clear J K' Eb
   refine N1 Ea 89 91 fun K' J ρ q91 => ?_; go_simp; (try clear q91)
   refine Ln Ea J fun _ Eb => ?_; clear J K' Ea
   refine Lno Eb 92 ?_
   refine Lu Eb fun _ Ea => ?_
   refine Lno Ea 92 ?_
   refine Lu Ea fun _ Eb => ?_
   refine Lno Eb 92 ?_
   refine Lu Eb fun _ Ea => ?_
   refine Lun Ea 95 ?_
   refine Lu Ea fun _ Eb => ?_
   refine Lun Eb 95 ?_
   refine Lu Eb fun _ Ea => ?_
   refine Lno Ea 92 ?_
   refine Lu Ea fun _ Eb => ?_
   refine N2 Eb 89 92 98 fun K' J ρ q92 q98 => ?_; go_simp; (try go_bits); (try clear q92 q98)
   refine Ln Eb J fun _ Ea => ?_; clear J K' Eb
   refine M2 Ea 89 99 fun K' J ρ q89 q99 => ?_; go_simp; (try go_bits); (try clear q89 q99)
   refine Ln Ea J fun _ Eb => ?_; clear J K' Ea
   replace Eb := Eb.turn 100 (v' := .bool false) rfl (by (first | rfl | simp))
   refine late_done [3, 5, 6, 7, 8, 10, 11, 12, 13, 100] Eb hK (fun a hE => ?_); clear hK K Q' Eb; simp only [lk, pick, Nat.reduceEqDiff, ↓reduceIte] at hE
   clear hz
   have hbw2 := hbV.trans (h2.mono hbV.size)
   replace hT := hT.below h2
   replace hTw := hTw.below h2
   replace hCX := hCX.below h2
   refine Ks ?_
   refine cond_no hE (t := 100) rfl ?_
   refine Ks ?_
   refine Rs 27 fun Q' K hK => ?_
   refine M1 hE 13 fun K' J ρ q13 => ?_; go_simp; (try clear q13)
   refine Ln hE J fun _ Eb => ?_; clear J K' hE a
   refine M1 Eb 101 fun K' J ρ q101 => ?_; go_simp; (try go_bits); (try clear q101)
   refine Ln Eb J fun _ Ea => ?_; clear J K' Eb
   refine M1 Ea 102 fun K' J ρ q102 => ?_; go_simp; (try clear q102)
   refine Ln Ea J fun _ Eb => ?_; clear J K' Ea
   refine Lno Eb 103 ?_
   refine Lu Eb fun _ Ea => ?_
   refine Lno Ea 103 ?_
   refine Lu Ea fun _ Eb => ?_
   refine Lno Eb 103 ?_
   refine Lu Eb fun _ Ea => ?_
   refine Lno Ea 103 ?_
   refine Lu Ea fun _ Eb => ?_
   refine Lno Eb 103 ?_
   refine Lu Eb fun _ Ea => ?_
   refine Lno Ea 103 ?_
   refine Lu Ea fun _ Eb => ?_
   refine Lno Eb 103 ?_
   refine Lu Eb fun _ Ea => ?_
   refine Lun Ea 110 ?_
   refine Lu Ea fun _ Eb => ?_
   refine Lun Eb 110 ?_
   refine Lu Eb fun _ Ea => ?_
   refine Lun Ea 110 ?_
   refine Lu Ea fun _ Eb => ?_
   refine Lun Eb 110 ?_
   refine Lu Eb fun _ Ea => ?_
   refine Lun Ea 110 ?_
   refine Lu Ea fun _ Eb => ?_
   refine Lno Eb 103 ?_
   refine Lu Eb fun _ Ea => ?_
   refine Lno Ea 103 ?_
   refine Lu Ea fun _ Eb => ?_
   refine Lun Eb 117 ?_
   refine Lu Eb fun _ Ea => ?_
   refine Lun Ea 117 ?_
   refine Lu Ea fun _ Eb => ?_
   refine Lun Eb 117 ?_
   refine Lu Eb fun _ Ea => ?_
   refine Lun Ea 117 ?_
   refine Lu Ea fun _ Eb => ?_
   refine Lun Eb 117 ?_
   refine Lu Eb fun _ Ea => ?_
   refine Lun Ea 117 ?_
   refine Lu Ea fun _ Eb => ?_
   refine Lun Eb 117 ?_
   refine Lu Eb fun _ Ea => ?_
   refine Lun Ea 117 ?_
   refine Lu Ea fun _ Eb => ?_
   refine Lno Eb 103 ?_
   refine Lu Eb fun _ Ea => ?_
   refine M2 Ea 103 126 fun K' J ρ q103 q126 => ?_; go_simp; (try go_bits); (try clear q103 q126)
   refine Ln Ea J fun _ Eb => ?_; clear J K' Ea
   replace Eb := Eb.turn 127 (v' := .bool false) rfl (by (first | rfl | simp))
   refine late_done [3, 5, 6, 7, 8, 10, 11, 127] Eb hK (fun a hE => ?_); clear hK K Q' Eb; simp only [lk, pick, Nat.reduceEqDiff, ↓reduceIte] at hE
   refine Ks ?_
   refine cond_no hE (t := 127) rfl ?_
   refine Ks ?_
   refine Rs 18 fun Q' K hK => ?_
   refine M1 hE 11 fun K' J ρ q11 => ?_; go_simp; (try clear q11)
   refine Ln hE J fun _ Eb => ?_; clear J K' hE a
   refine M1 Eb 128 fun K' J ρ q128 => ?_; go_simp; (try go_bits); (try clear q128)
   refine Ln Eb J fun _ Ea => ?_; clear J K' Eb
   refine M1 Ea 129 fun K' J ρ q129 => ?_; go_simp; (try clear q129)
   refine Ln Ea J fun _ Eb => ?_; clear J K' Ea
   refine N1 Eb 130 10 fun K' J ρ q10 => ?_; go_simp; (try clear q10)
   refine Ln Eb J fun _ Ea => ?_; clear J K' Eb
   refine N1 Ea 130 6 fun K' J ρ q6 => ?_; go_simp; (try clear q6)
   refine Ln Ea J fun _ Eb => ?_; clear J K' Ea
   refine N1 Eb 130 5 fun K' J ρ q5 => ?_; go_simp; (try clear q5)
   refine Ln Eb J fun _ Ea => ?_; clear J K' Eb
   refine N1 Ea 130 7 fun K' J ρ q7 => ?_; go_simp; (try clear q7)
   refine Ln Ea J fun _ Eb => ?_; clear J K' Ea
   refine N2 Eb 130 133 134 fun K' J ρ q133 q134 => ?_; go_simp; (try go_bits); (try simp (disch := omega) only [IntWalk.i64_in]); (try clear q133 q134)
   refine Ln Eb J fun _ Ea => ?_; clear J K' Eb
   refine N3 Ea 130 131 132 135 fun K' J ρ q131 q132 q135 => ?_; go_simp; (try go_bits); (try clear q131 q132 q135)
   go_at_call 48; refine (CB2.out _).mono ?_; rintro e w6 ⟨rfl, h6⟩
   (try clear r131 r132 r135)
   refine Ln Ea J fun _ Eb => ?_; clear J K' Ea
   refine N1 Eb 130 136 fun K' J ρ q136 => ?_; go_simp; (try go_bits); (try simp (disch := omega) only [IntWalk.i64_in]); (try clear q136)
   refine Ln Eb J fun _ Ea => ?_; clear J K' Eb
   refine N1 Ea 130 137 fun K' J ρ q137 => ?_; go_simp; (try clear q137)
   refine Ln Ea J fun _ Eb => ?_; clear J K' Ea
   refine N1 Eb 138 8 fun K' J ρ q8 => ?_; go_simp; (try clear q8)
   refine Ln Eb J fun _ Ea => ?_; clear J K' Eb
   refine N1 Ea 138 10 fun K' J ρ q10 => ?_; go_simp; (try clear q10)
   refine Ln Ea J fun _ Eb => ?_; clear J K' Ea
   refine N1 Eb 138 7 fun K' J ρ q7 => ?_; go_simp; (try clear q7)
   refine Ln Eb J fun _ Ea => ?_; clear J K' Eb
   refine N3 Ea 138 139 140 141 fun K' J ρ q139 q140 q141 => ?_; go_simp; (try go_bits); (try clear q139 q140 q141)
   go_at_call 49; refine (CW2.out _ (hT.below h6)).mono ?_; rintro e w7 ⟨rfl, h7⟩
   have h67 := h6.trans (h7.mono h6.size)
   (try clear r139 r140 r141)
   refine Ln Ea J fun _ Eb => ?_; clear J K' Ea
   refine N1 Eb 138 142 fun K' J ρ q142 => ?_; go_simp; (try go_bits); (try simp (disch := omega) only [IntWalk.i64_in]); (try clear q142)
   refine Ln Eb J fun _ Ea => ?_; clear J K' Eb
   refine N2 Ea 130 138 143 fun K' J ρ q138 q143 => ?_; go_simp; (try go_bits); (try clear q138 q143)
   refine Ln Ea J fun _ Eb => ?_; clear J K' Ea
   refine M2 Eb 130 144 fun K' J ρ q130 q144 => ?_; go_simp; (try go_bits); (try clear q130 q144)
   refine Ln Eb J fun _ Ea => ?_; clear J K' Eb
   replace Ea := Ea.turn 145 (v' := .bool false) rfl (by (first | rfl | simp))
   refine late_done [3, 5, 6, 7, 8, 10, 11, 145] Ea hK (fun a hE => ?_); clear hK K Q' Ea; simp only [lk, pick, Nat.reduceEqDiff, ↓reduceIte] at hE
   have hbw7 := hbw2.trans (h67.mono hbw2.size)
   replace hT := hT.below h67
   replace hTw := hTw.below h67
   replace hCX := hCX.below h67
   refine cond_no hE (t := 145) rfl ?_
   refine wp_skip ?_
   refine HF.out _ hTw hbw7 hT hCX _ ?_
   rw [hc']
   simp only [croV]
   exact fits_init [(145, .bool false)] hE
 ·rw [if_neg h0] at hE
  simp only at hE
  have hs : safB b h = true := by simpa [h0] using f0
  rw [hs] at CA
  obtain ⟨la, hla⟩ : ∃ la : Nat, (la : Int) = (h : Int) + r - 1 := ⟨h + r - 1, by omega⟩
  rw [← hla] at hE
  have CB1 := hid fun (W : World) => btw_yes (n := (la : Int)) (lo := h) (hi := (m : Int) - 1) ⟨by omega, by omega⟩ W
  have CA2 : Hid (∀ (W : World) (hW : ArrD W T (nats fl)), Calls Tryd.prog 39 #[.slice T fl.length tc, .int .i64 ((la : Int) + 1)] W fun e w' => (∃ z : Int, decide (0 ≤ z) = false ∧ e = .returned (.int .i64 z)) ∧ Below W.heap.size W w') := hid fun W hW => by
   have h9 := CAx (h + r) W hW
   have e1 : (decide (h + r < m) && safB b (h + r)) = false := by
    rcases f3 with f3 | f3
    ·rw [decide_eq_false (by omega)]; rfl
    ·rw [f3, Bool.and_false]
   rw [e1] at h9
   have e2 : ((h + r : Nat) : Int) = (la : Int) + 1 := by omega
   rw [e2] at h9
   exact h9
  have CW1 : Hid (∀ (W : World) (hW : ArrD W T (nats fl)), Calls Tryd.prog 49 #[.slice T fl.length tc, .int .i64 h, .int .i64 ((la : Int) + 1 - h)] W fun e w' => e = .returned (.bool true) ∧ Below W.heap.size W w') := hid fun W hW => by
   have h9 := CWx h r (by omega) (by omega) hwr W hW
   have e2 : (r : Int) = (la : Int) + 1 - h := by omega
   rw [e2] at h9
   exact h9
  have hla1 : la ≤ 1000 := by omega
  cases hc' : croB b h lg with
  | none =>
   rw [hc'] at hE
   simp only [croV] at hE
   clear hcs f1 f2 f3 f0 CAx CWx hwr hla
   refine wp_seq ?_; refine Ks ?_
   refine Rs 31 fun Q' K hK => ?_
   refine M1 hE 13 fun K' J ρ q13 => ?_; go_simp; (try clear q13)
   refine Ln hE J fun _ Eb => ?_; clear J K' hE a
   refine M1 Eb 70 fun K' J ρ q70 => ?_; go_simp; (try go_bits); (try clear q70)
   refine Ln Eb J fun _ Ea => ?_; clear J K' Eb
   refine M1 Ea 8 fun K' J ρ q8 => ?_; go_simp; (try clear q8)
   refine Ln Ea J fun _ Eb => ?_; clear J K' Ea
   refine M1 Eb 6 fun K' J ρ q6 => ?_; go_simp; (try clear q6)
   refine Ln Eb J fun _ Ea => ?_; clear J K' Eb
   refine M2 Ea 72 73 fun K' J ρ q72 q73 => ?_; go_simp; (try go_bits); (try clear q72 q73)
   go_at_call 39; refine (CA.out _ hT).mono ?_; rintro e w2 ⟨⟨z, hz, rfl⟩, h2⟩
   (try clear r72 r73)
   refine Ln Ea J fun _ Eb => ?_; clear J K' Ea
   refine M1 Eb 74 fun K' J ρ q74 => ?_; go_simp; (try go_bits); (try clear q74)
   refine Ln Eb J fun _ Ea => ?_; clear J K' Eb
   replace Ea := Ea.turn 75 (v' := .bool true) rfl (by (rw [← hz]))
   refine M2 Ea 71 75 fun K' J ρ q71 q75 => ?_; go_simp; (try go_bits); (try clear q71 q75)
   refine Ln Ea J fun _ Eb => ?_; clear J K' Ea
   refine M1 Eb 76 fun K' J ρ q76 => ?_; go_simp; (try clear q76)
   refine Ln Eb J fun _ Ea => ?_; clear J K' Eb
   refine N1 Ea 77 13 fun K' J ρ q13 => ?_; go_simp; (try clear q13)
   refine Ln Ea J fun _ Eb => ?_; clear J K' Ea
   refine N1 Eb 77 78 fun K' J ρ q78 => ?_; go_simp; (try go_bits); (try clear q78)
   refine Ln Eb J fun _ Ea => ?_; clear J K' Eb
   refine N1 Ea 77 79 fun K' J ρ q79 => ?_; go_simp; (try clear q79)
   refine Ln Ea J fun _ Eb => ?_; clear J K' Ea
   refine Lno Eb 80 ?_
   refine Lu Eb fun _ Ea => ?_
   refine Lno Ea 80 ?_
   refine Lu Ea fun _ Eb => ?_
   refine Lno Eb 80 ?_
   refine Lu Eb fun _ Ea => ?_
   refine Lun Ea 83 ?_
   refine Lu Ea fun _ Eb => ?_
   refine Lun Eb 83 ?_
   refine Lu Eb fun _ Ea => ?_
   refine Lno Ea 80 ?_
   refine Lu Ea fun _ Eb => ?_
   refine N2 Eb 77 80 86 fun K' J ρ q80 q86 => ?_; go_simp; (try go_bits); (try clear q80 q86)
   refine Ln Eb J fun _ Ea => ?_; clear J K' Eb
   refine M2 Ea 77 87 fun K' J ρ q77 q87 => ?_; go_simp; (try go_bits); (try clear q77 q87)
   refine Ln Ea J fun _ Eb => ?_; clear J K' Ea
   refine M1 Eb 88 fun K' J ρ q88 => ?_; go_simp; (try clear q88)
   refine Ln Eb J fun _ Ea => ?_; clear J K' Eb
   refine N1 Ea 89 11 fun K' J ρ q11 => ?_; go_simp; (try clear q11)
   refine Ln Ea J fun _ Eb => ?_; clear J K' Ea
   refine N1 Eb 89 90 fun K' J ρ q90 => ?_; go_simp; (try go_bits); (try clear q90)
   refine Ln Eb J fun _ Ea => ?_; clear J K' Eb
   refine N1 Ea 89 91 fun K' J ρ q91 => ?_; go_simp; (try clear q91)
   refine Ln Ea J fun _ Eb => ?_; clear J K' Ea
   refine N1 Eb 92 11 fun K' J ρ q11 => ?_; go_simp; (try clear q11)
   refine Ln Eb J fun _ Ea => ?_; clear J K' Eb
   refine N1 Ea 92 93 fun K' J ρ q93 => ?_; go_simp; (try go_bits); (try clear q93)
   refine Ln Ea J fun _ Eb => ?_; clear J K' Ea
   refine N1 Eb 92 94 fun K' J ρ q94 => ?_; go_simp; (try clear q94)
   refine Ln Eb J fun _ Ea => ?_; clear J K' Eb
   refine N1 Ea 95 10 fun K' J ρ q10 => ?_; go_simp; (try clear q10)
   refine Ln Ea J fun _ Eb => ?_; clear J K' Ea
   refine N1 Eb 95 96 fun K' J ρ q96 => ?_; go_simp; (try go_bits); (try clear q96)
   refine Ln Eb J fun _ Ea => ?_; clear J K' Eb
   refine N2 Ea 92 95 97 fun K' J ρ q95 q97 => ?_; go_simp; (try go_bits); (try clear q95 q97)
   refine Ln Ea J fun _ Eb => ?_; clear J K' Ea
   refine N2 Eb 89 92 98 fun K' J ρ q92 q98 => ?_; go_simp; (try go_bits); (try clear q92 q98)
   refine Ln Eb J fun _ Ea => ?_; clear J K' Eb
   refine M2 Ea 89 99 fun K' J ρ q89 q99 => ?_; go_simp; (try go_bits); (try clear q89 q99)
   refine Ln Ea J fun _ Eb => ?_; clear J K' Ea
   replace Eb := Eb.turn 100 (v' := .bool false) rfl (by (first | rfl | simp))
   refine late_done [3, 5, 6, 7, 8, 10, 11, 12, 13, 100] Eb hK (fun a hE => ?_); clear hK K Q' Eb; simp only [lk, pick, Nat.reduceEqDiff, ↓reduceIte] at hE
   clear hz
   have hbw2 := hbV.trans (h2.mono hbV.size)
   replace hT := hT.below h2
   replace hTw := hTw.below h2
   replace hCX := hCX.below h2
   refine Ks ?_
   refine cond_no hE (t := 100) rfl ?_
   refine Ks ?_
   refine Rs 27 fun Q' K hK => ?_
   refine M1 hE 13 fun K' J ρ q13 => ?_; go_simp; (try clear q13)
   refine Ln hE J fun _ Eb => ?_; clear J K' hE a
   refine M1 Eb 101 fun K' J ρ q101 => ?_; go_simp; (try go_bits); (try clear q101)
   refine Ln Eb J fun _ Ea => ?_; clear J K' Eb
   refine M1 Ea 102 fun K' J ρ q102 => ?_; go_simp; (try clear q102)
   refine Ln Ea J fun _ Eb => ?_; clear J K' Ea
   refine N1 Eb 103 12 fun K' J ρ q12 => ?_; go_simp; (try clear q12)
   refine Ln Eb J fun _ Ea => ?_; clear J K' Eb
   refine N1 Ea 103 6 fun K' J ρ q6 => ?_; go_simp; (try clear q6)
   refine Ln Ea J fun _ Eb => ?_; clear J K' Ea
   refine N1 Eb 103 5 fun K' J ρ q5 => ?_; go_simp; (try clear q5)
   refine Ln Eb J fun _ Ea => ?_; clear J K' Eb
   refine N1 Ea 103 106 fun K' J ρ q106 => ?_; go_simp; (try go_bits); (try simp (disch := omega) only [IntWalk.i64_in]); (try clear q106)
   refine Ln Ea J fun _ Eb => ?_; clear J K' Ea
   refine N3 Eb 103 104 105 107 fun K' J ρ q104 q105 q107 => ?_; go_simp; (try go_bits); (try clear q104 q105 q107)
   go_at_call 48; refine (CB1.out _).mono ?_; rintro e w3 ⟨rfl, h3⟩
   (try clear r104 r105 r107)
   refine Ln Eb J fun _ Ea => ?_; clear J K' Eb
   refine N1 Ea 103 108 fun K' J ρ q108 => ?_; go_simp; (try go_bits); (try simp (disch := omega) only [IntWalk.i64_in]); (try clear q108)
   refine Ln Ea J fun _ Eb => ?_; clear J K' Ea
   refine N1 Eb 103 109 fun K' J ρ q109 => ?_; go_simp; (try clear q109)
   refine Ln Eb J fun _ Ea => ?_; clear J K' Eb
   refine N1 Ea 110 8 fun K' J ρ q8 => ?_; go_simp; (try clear q8)
   refine Ln Ea J fun _ Eb => ?_; clear J K' Ea
   refine N1 Eb 110 12 fun K' J ρ q12 => ?_; go_simp; (try clear q12)
   refine Ln Eb J fun _ Ea => ?_; clear J K' Eb
   refine N1 Ea 110 112 fun K' J ρ q112 => ?_; go_simp; (try go_bits); (try simp (disch := omega) only [IntWalk.i64_in]); (try clear q112)
   refine Ln Ea J fun _ Eb => ?_; clear J K' Ea
   refine N2 Eb 110 111 113 fun K' J ρ q111 q113 => ?_; go_simp; (try go_bits); (try clear q111 q113)
   go_at_call 39; refine (CA2.out _ (hT.below h3)).mono ?_; rintro e w4 ⟨⟨z, hz, rfl⟩, h4⟩
   have h34 := h3.trans (h4.mono h3.size)
   (try clear r111 r113)
   refine Ln Eb J fun _ Ea => ?_; clear J K' Eb
   refine N1 Ea 110 114 fun K' J ρ q114 => ?_; go_simp; (try go_bits); (try clear q114)
   refine Ln Ea J fun _ Eb => ?_; clear J K' Ea
   replace Eb := Eb.turn 115 (v' := .bool false) rfl (by (rw [← hz]))
   refine N2 Eb 103 110 115 fun K' J ρ q110 q115 => ?_; go_simp; (try go_bits); (try clear q110 q115)
   refine Ln Eb J fun _ Ea => ?_; clear J K' Eb
   refine N1 Ea 103 116 fun K' J ρ q116 => ?_; go_simp; (try clear q116)
   refine Ln Ea J fun _ Eb => ?_; clear J K' Ea
   refine N1 Eb 117 8 fun K' J ρ q8 => ?_; go_simp; (try clear q8)
   refine Ln Eb J fun _ Ea => ?_; clear J K' Eb
   refine N1 Ea 117 6 fun K' J ρ q6 => ?_; go_simp; (try clear q6)
   refine Ln Ea J fun _ Eb => ?_; clear J K' Ea
   refine N1 Eb 117 12 fun K' J ρ q12 => ?_; go_simp; (try clear q12)
   refine Ln Eb J fun _ Ea => ?_; clear J K' Eb
   refine N1 Ea 117 120 fun K' J ρ q120 => ?_; go_simp; (try go_bits); (try simp (disch := omega) only [IntWalk.i64_in]); (try clear q120)
   refine Ln Ea J fun _ Eb => ?_; clear J K' Ea
   refine N1 Eb 117 6 fun K' J ρ q6 => ?_; go_simp; (try clear q6)
   refine Ln Eb J fun _ Ea => ?_; clear J K' Eb
   refine N2 Ea 117 121 122 fun K' J ρ q121 q122 => ?_; go_simp; (try go_bits); (try simp (disch := omega) only [IntWalk.i64_in]); (try clear q121 q122)
   refine Ln Ea J fun _ Eb => ?_; clear J K' Ea
   refine N3 Eb 117 118 119 123 fun K' J ρ q118 q119 q123 => ?_; go_simp; (try go_bits); (try clear q118 q119 q123)
   go_at_call 49; refine (CW1.out _ (hT.below h34)).mono ?_; rintro e w5 ⟨rfl, h5⟩
   have h35 := h34.trans (h5.mono h34.size)
   (try clear r118 r119 r123)
   refine Ln Eb J fun _ Ea => ?_; clear J K' Eb
   refine N1 Ea 117 124 fun K' J ρ q124 => ?_; go_simp; (try go_bits); (try simp (disch := omega) only [IntWalk.i64_in]); (try clear q124)
   refine Ln Ea J fun _ Eb => ?_; clear J K' Ea
   refine N2 Eb 103 117 125 fun K' J ρ q117 q125 => ?_; go_simp; (try go_bits); (try clear q117 q125)
   refine Ln Eb J fun _ Ea => ?_; clear J K' Eb
   refine M2 Ea 103 126 fun K' J ρ q103 q126 => ?_; go_simp; (try go_bits); (try clear q103 q126)
   refine Ln Ea J fun _ Eb => ?_; clear J K' Ea
   replace Eb := Eb.turn 127 (v' := .bool false) rfl (by (first | rfl | simp))
   refine late_done [3, 5, 6, 7, 8, 10, 11, 127] Eb hK (fun a hE => ?_); clear hK K Q' Eb; simp only [lk, pick, Nat.reduceEqDiff, ↓reduceIte] at hE
   clear hz
   have hbw5 := hbw2.trans (h35.mono hbw2.size)
   replace hT := hT.below h35
   replace hTw := hTw.below h35
   replace hCX := hCX.below h35
   refine Ks ?_
   refine cond_no hE (t := 127) rfl ?_
   refine Ks ?_
   refine Rs 18 fun Q' K hK => ?_
   refine M1 hE 11 fun K' J ρ q11 => ?_; go_simp; (try clear q11)
   refine Ln hE J fun _ Eb => ?_; clear J K' hE a
   refine M1 Eb 128 fun K' J ρ q128 => ?_; go_simp; (try go_bits); (try clear q128)
   refine Ln Eb J fun _ Ea => ?_; clear J K' Eb
   refine M1 Ea 129 fun K' J ρ q129 => ?_; go_simp; (try clear q129)
   refine Ln Ea J fun _ Eb => ?_; clear J K' Ea
   refine Lno Eb 130 ?_
   refine Lu Eb fun _ Ea => ?_
   refine Lno Ea 130 ?_
   refine Lu Ea fun _ Eb => ?_
   refine Lno Eb 130 ?_
   refine Lu Eb fun _ Ea => ?_
   refine Lno Ea 130 ?_
   refine Lu Ea fun _ Eb => ?_
   refine Lno Eb 130 ?_
   refine Lu Eb fun _ Ea => ?_
   refine Lno Ea 130 ?_
   refine Lu Ea fun _ Eb => ?_
   refine Lno Eb 130 ?_
   refine Lu Eb fun _ Ea => ?_
   refine Lno Ea 130 ?_
   refine Lu Ea fun _ Eb => ?_
   refine Lun Eb 138 ?_
   refine Lu Eb fun _ Ea => ?_
   refine Lun Ea 138 ?_
   refine Lu Ea fun _ Eb => ?_
   refine Lun Eb 138 ?_
   refine Lu Eb fun _ Ea => ?_
   refine Lun Ea 138 ?_
   refine Lu Ea fun _ Eb => ?_
   refine Lun Eb 138 ?_
   refine Lu Eb fun _ Ea => ?_
   refine Lno Ea 130 ?_
   refine Lu Ea fun _ Eb => ?_
   refine M2 Eb 130 144 fun K' J ρ q130 q144 => ?_; go_simp; (try go_bits); (try clear q130 q144)
   refine Ln Eb J fun _ Ea => ?_; clear J K' Eb
   replace Ea := Ea.turn 145 (v' := .bool false) rfl (by (first | rfl | simp))
   refine late_done [3, 5, 6, 7, 8, 10, 11, 145] Ea hK (fun a hE => ?_); clear hK K Q' Ea; simp only [lk, pick, Nat.reduceEqDiff, ↓reduceIte] at hE
   refine cond_no hE (t := 145) rfl ?_
   refine wp_skip ?_
   refine HF.out _ hTw hbw5 hT hCX _ ?_
   rw [hc']
   simp only [croV]
   exact fits_init [(145, .bool false)] hE
  | some g =>
   obtain ⟨g1, g2, g3⟩ := hcs g hc'
   have CB2 := hid fun (W : World) => btw_yes (n := (g : Int)) (lo := h) (hi := (m : Int) - lg) ⟨by omega, g2⟩ W
   have CW2 := hid fun (W : World) hW => CWx g lg (by omega) (by omega) g3 W hW
   rw [hc'] at hE
   simp only [croV] at hE
   clear hcs f1 f2 f3 f0 CAx CWx hwr hla
   refine wp_seq ?_; refine Ks ?_
   refine Rs 31 fun Q' K hK => ?_
   refine M1 hE 13 fun K' J ρ q13 => ?_; go_simp; (try clear q13)
   refine Ln hE J fun _ Eb => ?_; clear J K' hE a
   refine M1 Eb 70 fun K' J ρ q70 => ?_; go_simp; (try go_bits); (try clear q70)
   refine Ln Eb J fun _ Ea => ?_; clear J K' Eb
   refine M1 Ea 8 fun K' J ρ q8 => ?_; go_simp; (try clear q8)
   refine Ln Ea J fun _ Eb => ?_; clear J K' Ea
   refine M1 Eb 6 fun K' J ρ q6 => ?_; go_simp; (try clear q6)
   refine Ln Eb J fun _ Ea => ?_; clear J K' Eb
   refine M2 Ea 72 73 fun K' J ρ q72 q73 => ?_; go_simp; (try go_bits); (try clear q72 q73)
   go_at_call 39; refine (CA.out _ hT).mono ?_; rintro e w2 ⟨⟨z, hz, rfl⟩, h2⟩
   (try clear r72 r73)
   refine Ln Ea J fun _ Eb => ?_; clear J K' Ea
   refine M1 Eb 74 fun K' J ρ q74 => ?_; go_simp; (try go_bits); (try clear q74)
   refine Ln Eb J fun _ Ea => ?_; clear J K' Eb
   replace Ea := Ea.turn 75 (v' := .bool true) rfl (by (rw [← hz]))
   refine M2 Ea 71 75 fun K' J ρ q71 q75 => ?_; go_simp; (try go_bits); (try clear q71 q75)
   refine Ln Ea J fun _ Eb => ?_; clear J K' Ea
   refine M1 Eb 76 fun K' J ρ q76 => ?_; go_simp; (try clear q76)
   refine Ln Eb J fun _ Ea => ?_; clear J K' Eb
   refine N1 Ea 77 13 fun K' J ρ q13 => ?_; go_simp; (try clear q13)
   refine Ln Ea J fun _ Eb => ?_; clear J K' Ea
   refine N1 Eb 77 78 fun K' J ρ q78 => ?_; go_simp; (try go_bits); (try clear q78)
   refine Ln Eb J fun _ Ea => ?_; clear J K' Eb
   refine N1 Ea 77 79 fun K' J ρ q79 => ?_; go_simp; (try clear q79)
   refine Ln Ea J fun _ Eb => ?_; clear J K' Ea
   refine Lno Eb 80 ?_
   refine Lu Eb fun _ Ea => ?_
   refine Lno Ea 80 ?_
   refine Lu Ea fun _ Eb => ?_
   refine Lno Eb 80 ?_
   refine Lu Eb fun _ Ea => ?_
   refine Lun Ea 83 ?_
   refine Lu Ea fun _ Eb => ?_
   refine Lun Eb 83 ?_
   refine Lu Eb fun _ Ea => ?_
   refine Lno Ea 80 ?_
   refine Lu Ea fun _ Eb => ?_
   refine N2 Eb 77 80 86 fun K' J ρ q80 q86 => ?_; go_simp; (try go_bits); (try clear q80 q86)
   refine Ln Eb J fun _ Ea => ?_; clear J K' Eb
   refine M2 Ea 77 87 fun K' J ρ q77 q87 => ?_; go_simp; (try go_bits); (try clear q77 q87)
   refine Ln Ea J fun _ Eb => ?_; clear J K' Ea
   refine M1 Eb 88 fun K' J ρ q88 => ?_; go_simp; (try clear q88)
   refine Ln Eb J fun _ Ea => ?_; clear J K' Eb
   refine N1 Ea 89 11 fun K' J ρ q11 => ?_; go_simp; (try clear q11)
   refine Ln Ea J fun _ Eb => ?_; clear J K' Ea
   refine N1 Eb 89 90 fun K' J ρ q90 => ?_; go_simp; (try go_bits); (try clear q90)
   refine Ln Eb J fun _ Ea => ?_; clear J K' Eb
   refine N1 Ea 89 91 fun K' J ρ q91 => ?_; go_simp; (try clear q91)
   refine Ln Ea J fun _ Eb => ?_; clear J K' Ea
   refine Lno Eb 92 ?_
   refine Lu Eb fun _ Ea => ?_
   refine Lno Ea 92 ?_
   refine Lu Ea fun _ Eb => ?_
   refine Lno Eb 92 ?_
   refine Lu Eb fun _ Ea => ?_
   refine Lun Ea 95 ?_
   refine Lu Ea fun _ Eb => ?_
   refine Lun Eb 95 ?_
   refine Lu Eb fun _ Ea => ?_
   refine Lno Ea 92 ?_
   refine Lu Ea fun _ Eb => ?_
   refine N2 Eb 89 92 98 fun K' J ρ q92 q98 => ?_; go_simp; (try go_bits); (try clear q92 q98)
   refine Ln Eb J fun _ Ea => ?_; clear J K' Eb
   refine M2 Ea 89 99 fun K' J ρ q89 q99 => ?_; go_simp; (try go_bits); (try clear q89 q99)
   refine Ln Ea J fun _ Eb => ?_; clear J K' Ea
   replace Eb := Eb.turn 100 (v' := .bool false) rfl (by (first | rfl | simp))
   refine late_done [3, 5, 6, 7, 8, 10, 11, 12, 13, 100] Eb hK (fun a hE => ?_); clear hK K Q' Eb; simp only [lk, pick, Nat.reduceEqDiff, ↓reduceIte] at hE
   clear hz
   have hbw2 := hbV.trans (h2.mono hbV.size)
   replace hT := hT.below h2
   replace hTw := hTw.below h2
   replace hCX := hCX.below h2
   refine Ks ?_
   refine cond_no hE (t := 100) rfl ?_
   refine Ks ?_
   refine Rs 27 fun Q' K hK => ?_
   refine M1 hE 13 fun K' J ρ q13 => ?_; go_simp; (try clear q13)
   refine Ln hE J fun _ Eb => ?_; clear J K' hE a
   refine M1 Eb 101 fun K' J ρ q101 => ?_; go_simp; (try go_bits); (try clear q101)
   refine Ln Eb J fun _ Ea => ?_; clear J K' Eb
   refine M1 Ea 102 fun K' J ρ q102 => ?_; go_simp; (try clear q102)
   refine Ln Ea J fun _ Eb => ?_; clear J K' Ea
   refine N1 Eb 103 12 fun K' J ρ q12 => ?_; go_simp; (try clear q12)
   refine Ln Eb J fun _ Ea => ?_; clear J K' Eb
   refine N1 Ea 103 6 fun K' J ρ q6 => ?_; go_simp; (try clear q6)
   refine Ln Ea J fun _ Eb => ?_; clear J K' Ea
   refine N1 Eb 103 5 fun K' J ρ q5 => ?_; go_simp; (try clear q5)
   refine Ln Eb J fun _ Ea => ?_; clear J K' Eb
   refine N1 Ea 103 106 fun K' J ρ q106 => ?_; go_simp; (try go_bits); (try simp (disch := omega) only [IntWalk.i64_in]); (try clear q106)
   refine Ln Ea J fun _ Eb => ?_; clear J K' Ea
   refine N3 Eb 103 104 105 107 fun K' J ρ q104 q105 q107 => ?_; go_simp; (try go_bits); (try clear q104 q105 q107)
   go_at_call 48; refine (CB1.out _).mono ?_; rintro e w3 ⟨rfl, h3⟩
   (try clear r104 r105 r107)
   refine Ln Eb J fun _ Ea => ?_; clear J K' Eb
   refine N1 Ea 103 108 fun K' J ρ q108 => ?_; go_simp; (try go_bits); (try simp (disch := omega) only [IntWalk.i64_in]); (try clear q108)
   refine Ln Ea J fun _ Eb => ?_; clear J K' Ea
   refine N1 Eb 103 109 fun K' J ρ q109 => ?_; go_simp; (try clear q109)
   refine Ln Eb J fun _ Ea => ?_; clear J K' Eb
   refine N1 Ea 110 8 fun K' J ρ q8 => ?_; go_simp; (try clear q8)
   refine Ln Ea J fun _ Eb => ?_; clear J K' Ea
   refine N1 Eb 110 12 fun K' J ρ q12 => ?_; go_simp; (try clear q12)
   refine Ln Eb J fun _ Ea => ?_; clear J K' Eb
   refine N1 Ea 110 112 fun K' J ρ q112 => ?_; go_simp; (try go_bits); (try simp (disch := omega) only [IntWalk.i64_in]); (try clear q112)
   refine Ln Ea J fun _ Eb => ?_; clear J K' Ea
   refine N2 Eb 110 111 113 fun K' J ρ q111 q113 => ?_; go_simp; (try go_bits); (try clear q111 q113)
   go_at_call 39; refine (CA2.out _ (hT.below h3)).mono ?_; rintro e w4 ⟨⟨z, hz, rfl⟩, h4⟩
   have h34 := h3.trans (h4.mono h3.size)
   (try clear r111 r113)
   refine Ln Eb J fun _ Ea => ?_; clear J K' Eb
   refine N1 Ea 110 114 fun K' J ρ q114 => ?_; go_simp; (try go_bits); (try clear q114)
   refine Ln Ea J fun _ Eb => ?_; clear J K' Ea
   replace Eb := Eb.turn 115 (v' := .bool false) rfl (by (rw [← hz]))
   refine N2 Eb 103 110 115 fun K' J ρ q110 q115 => ?_; go_simp; (try go_bits); (try clear q110 q115)
   refine Ln Eb J fun _ Ea => ?_; clear J K' Eb
   refine N1 Ea 103 116 fun K' J ρ q116 => ?_; go_simp; (try clear q116)
   refine Ln Ea J fun _ Eb => ?_; clear J K' Ea
   refine N1 Eb 117 8 fun K' J ρ q8 => ?_; go_simp; (try clear q8)
   refine Ln Eb J fun _ Ea => ?_; clear J K' Eb
   refine N1 Ea 117 6 fun K' J ρ q6 => ?_; go_simp; (try clear q6)
   refine Ln Ea J fun _ Eb => ?_; clear J K' Ea
   refine N1 Eb 117 12 fun K' J ρ q12 => ?_; go_simp; (try clear q12)
   refine Ln Eb J fun _ Ea => ?_; clear J K' Eb
   refine N1 Ea 117 120 fun K' J ρ q120 => ?_; go_simp; (try go_bits); (try simp (disch := omega) only [IntWalk.i64_in]); (try clear q120)
   refine Ln Ea J fun _ Eb => ?_; clear J K' Ea
   refine N1 Eb 117 6 fun K' J ρ q6 => ?_; go_simp; (try clear q6)
   refine Ln Eb J fun _ Ea => ?_; clear J K' Eb
   refine N2 Ea 117 121 122 fun K' J ρ q121 q122 => ?_; go_simp; (try go_bits); (try simp (disch := omega) only [IntWalk.i64_in]); (try clear q121 q122)
   refine Ln Ea J fun _ Eb => ?_; clear J K' Ea
   refine N3 Eb 117 118 119 123 fun K' J ρ q118 q119 q123 => ?_; go_simp; (try go_bits); (try clear q118 q119 q123)
   go_at_call 49; refine (CW1.out _ (hT.below h34)).mono ?_; rintro e w5 ⟨rfl, h5⟩
   have h35 := h34.trans (h5.mono h34.size)
   (try clear r118 r119 r123)
   refine Ln Eb J fun _ Ea => ?_; clear J K' Eb
   refine N1 Ea 117 124 fun K' J ρ q124 => ?_; go_simp; (try go_bits); (try simp (disch := omega) only [IntWalk.i64_in]); (try clear q124)
   refine Ln Ea J fun _ Eb => ?_; clear J K' Ea
   refine N2 Eb 103 117 125 fun K' J ρ q117 q125 => ?_; go_simp; (try go_bits); (try clear q117 q125)
   refine Ln Eb J fun _ Ea => ?_; clear J K' Eb
   refine M2 Ea 103 126 fun K' J ρ q103 q126 => ?_; go_simp; (try go_bits); (try clear q103 q126)
   refine Ln Ea J fun _ Eb => ?_; clear J K' Ea
   replace Eb := Eb.turn 127 (v' := .bool false) rfl (by (first | rfl | simp))
   refine late_done [3, 5, 6, 7, 8, 10, 11, 127] Eb hK (fun a hE => ?_); clear hK K Q' Eb; simp only [lk, pick, Nat.reduceEqDiff, ↓reduceIte] at hE
   clear hz
   have hbw5 := hbw2.trans (h35.mono hbw2.size)
   replace hT := hT.below h35
   replace hTw := hTw.below h35
   replace hCX := hCX.below h35
   refine Ks ?_
   refine cond_no hE (t := 127) rfl ?_
   refine Ks ?_
   refine Rs 18 fun Q' K hK => ?_
   refine M1 hE 11 fun K' J ρ q11 => ?_; go_simp; (try clear q11)
   refine Ln hE J fun _ Eb => ?_; clear J K' hE a
   refine M1 Eb 128 fun K' J ρ q128 => ?_; go_simp; (try go_bits); (try clear q128)
   refine Ln Eb J fun _ Ea => ?_; clear J K' Eb
   refine M1 Ea 129 fun K' J ρ q129 => ?_; go_simp; (try clear q129)
   refine Ln Ea J fun _ Eb => ?_; clear J K' Ea
   refine N1 Eb 130 10 fun K' J ρ q10 => ?_; go_simp; (try clear q10)
   refine Ln Eb J fun _ Ea => ?_; clear J K' Eb
   refine N1 Ea 130 6 fun K' J ρ q6 => ?_; go_simp; (try clear q6)
   refine Ln Ea J fun _ Eb => ?_; clear J K' Ea
   refine N1 Eb 130 5 fun K' J ρ q5 => ?_; go_simp; (try clear q5)
   refine Ln Eb J fun _ Ea => ?_; clear J K' Eb
   refine N1 Ea 130 7 fun K' J ρ q7 => ?_; go_simp; (try clear q7)
   refine Ln Ea J fun _ Eb => ?_; clear J K' Ea
   refine N2 Eb 130 133 134 fun K' J ρ q133 q134 => ?_; go_simp; (try go_bits); (try simp (disch := omega) only [IntWalk.i64_in]); (try clear q133 q134)
   refine Ln Eb J fun _ Ea => ?_; clear J K' Eb
   refine N3 Ea 130 131 132 135 fun K' J ρ q131 q132 q135 => ?_; go_simp; (try go_bits); (try clear q131 q132 q135)
   go_at_call 48; refine (CB2.out _).mono ?_; rintro e w6 ⟨rfl, h6⟩
   (try clear r131 r132 r135)
   refine Ln Ea J fun _ Eb => ?_; clear J K' Ea
   refine N1 Eb 130 136 fun K' J ρ q136 => ?_; go_simp; (try go_bits); (try simp (disch := omega) only [IntWalk.i64_in]); (try clear q136)
   refine Ln Eb J fun _ Ea => ?_; clear J K' Eb
   refine N1 Ea 130 137 fun K' J ρ q137 => ?_; go_simp; (try clear q137)
   refine Ln Ea J fun _ Eb => ?_; clear J K' Ea
   refine N1 Eb 138 8 fun K' J ρ q8 => ?_; go_simp; (try clear q8)
   refine Ln Eb J fun _ Ea => ?_; clear J K' Eb
   refine N1 Ea 138 10 fun K' J ρ q10 => ?_; go_simp; (try clear q10)
   refine Ln Ea J fun _ Eb => ?_; clear J K' Ea
   refine N1 Eb 138 7 fun K' J ρ q7 => ?_; go_simp; (try clear q7)
   refine Ln Eb J fun _ Ea => ?_; clear J K' Eb
   refine N3 Ea 138 139 140 141 fun K' J ρ q139 q140 q141 => ?_; go_simp; (try go_bits); (try clear q139 q140 q141)
   go_at_call 49; refine (CW2.out _ (hT.below h6)).mono ?_; rintro e w7 ⟨rfl, h7⟩
   have h67 := h6.trans (h7.mono h6.size)
   (try clear r139 r140 r141)
   refine Ln Ea J fun _ Eb => ?_; clear J K' Ea
   refine N1 Eb 138 142 fun K' J ρ q142 => ?_; go_simp; (try go_bits); (try simp (disch := omega) only [IntWalk.i64_in]); (try clear q142)
   refine Ln Eb J fun _ Ea => ?_; clear J K' Eb
   refine N2 Ea 130 138 143 fun K' J ρ q138 q143 => ?_; go_simp; (try go_bits); (try clear q138 q143)
   refine Ln Ea J fun _ Eb => ?_; clear J K' Ea
   refine M2 Eb 130 144 fun K' J ρ q130 q144 => ?_; go_simp; (try go_bits); (try clear q130 q144)
   refine Ln Eb J fun _ Ea => ?_; clear J K' Eb
   replace Ea := Ea.turn 145 (v' := .bool false) rfl (by (first | rfl | simp))
   refine late_done [3, 5, 6, 7, 8, 10, 11, 145] Ea hK (fun a hE => ?_); clear hK K Q' Ea; simp only [lk, pick, Nat.reduceEqDiff, ↓reduceIte] at hE
   have hbw7 := hbw5.trans (h67.mono hbw5.size)
   replace hT := hT.below h67
   replace hTw := hTw.below h67
   replace hCX := hCX.below h67
   refine cond_no hE (t := 145) rfl ?_
   refine wp_skip ?_
   refine HF.out _ hTw hbw7 hT hCX _ ?_
   rw [hc']
   simp only [croV]
   exact fits_init [(145, .bool false)] hE
set_option maxRecDepth 100000 in
set_option maxHeartbeats 4000000 in
theorem cross_bad (ho : b.ok = false) (n0 n1 n2 : Int) (w : World) (hTw : TabW w) (hM : SbAt w H S b) (hh : b.hours.length ≤ 9223372036854775807) (hss : b.sights.length ≤ 9223372036854775807) : Calls Tryd.prog 9 #[.agg (sbV H hcap S scap b).toArray, .agg #[.int .i64 n0, .int .i64 n1, .int .i64 n2]] w fun e w' => e = .returned (.bool true) ∧ Below w.heap.size w w' := by
 have C2 : Hid (∀ W, SbAt W H S b → Calls Tryd.prog 34 #[.agg (sbV H hcap S scap b).toArray] W fun e w' => e = .returned (.bool false) ∧ Below W.heap.size W w') := hid fun W hW => by
  have h := sound_any H hcap S scap b W hW hh hss
  rw [ho] at h
  exact h
 clear ho hh hss
 refine enterE Tryd.func9 rfl Tryd.ntmps9 (by simp) (fun a hE => ?_); simp only [envOf, Nat.zero_add, Nat.reduceAdd] at hE
 refine Ks ?_
 refine Rs 3 fun Q' K hK => ?_
 refine M1 hE 0 fun K' J ρ q0 => ?_; go_simp; (try clear q0)
 refine Ln hE J fun _ Eb => ?_; clear J K' hE a
 refine M1 Eb 1 fun K' J ρ q1 => ?_; go_simp; (try clear q1)
 refine Ln Eb J fun _ Ea => ?_; clear J K' Eb
 refine M0 fun K' J ρ => ?_; go_simp;
 refine Ln Ea J fun _ Eb => ?_; clear J K' Ea
 refine late_done [2, 3] Eb hK (fun a hE => ?_); clear hK K Q' Eb; simp only [lk, pick, Nat.reduceEqDiff, ↓reduceIte] at hE
 obtain ⟨B, hB⟩ : ∃ B, B = w.heap.size := ⟨_, rfl⟩
 obtain ⟨X, hX⟩ : ∃ B, B = w.heap.size + 1 := ⟨_, rfl⟩
 rw [← hX, ← hB] at hE
 refine world_cut (fun wt => Below w.heap.size w wt ∧ Cells wt B (sbV H hcap S scap b) ∧ Cells wt X [.int .i64 n0, .int .i64 n1, .int .i64 n2]) (by rw [hB, hX]; exact cells_two w _ _ _ _) (fun w1 hC => ?_)
 obtain ⟨hbw1, hCB, hCX⟩ := hC
 replace hM := hM.below hbw1
 replace hTw := hTw.below hbw1
 clear hB hX
 have nB := hCB.1; have cB7 := hCB.2 7 _ rfl
 have nX := hCX.1; have cX0 := hCX.2 0 _ rfl; have cX1 := hCX.2 1 _ rfl
 refine Ks ?_
 refine Rs 3 fun Q' K hK => ?_
 refine Lp fun K' J => ?_
 have r2 := hE.at 2 rfl
 refine wp_load_mid 29 (.tmp 2) rfl B 0 (eval_of r2) (sbV H hcap S scap b) _ (fun j u hu => by rw [Nat.zero_add]; exact hCB.2 j u hu) Tryd.underlying29 rfl (by kernel_rfl) ?_
 (try clear r2)
 refine Ln hE J fun _ Eb => ?_; clear J K' hE a
 refine M1 Eb 15 fun K' J ρ q15 => ?_; go_simp; (try go_bits); (try clear q15)
 go_at_call 34; refine (C2.out _ hM).mono ?_; rintro e w2 ⟨rfl, h2⟩
 (try clear r15)
 refine Ln Eb J fun _ Ea => ?_; clear J K' Eb
 refine M1 Ea 16 fun K' J ρ q16 => ?_; go_simp; (try go_bits); (try simp (disch := omega) only [IntWalk.i64_in]); (try clear q16)
 refine Ln Ea J fun _ Eb => ?_; clear J K' Ea
 replace Eb := Eb.turn 17 (v' := .bool true) rfl (by (first | rfl | simp))
 refine late_done [2, 3, 17] Eb hK (fun a hE => ?_); clear hK K Q' Eb; simp only [lk, pick, Nat.reduceEqDiff, ↓reduceIte] at hE
 have hbw2 := hbw1.trans (h2.mono hbw1.size)
 replace hCB := hCB.below h2
 clear nB cB7
 have nB := hCB.1; have cB7 := hCB.2 7 _ rfl
 replace hCX := hCX.below h2
 clear nX cX0 cX1
 have nX := hCX.1; have cX0 := hCX.2 0 _ rfl; have cX1 := hCX.2 1 _ rfl
 replace hM := hM.below h2
 replace hTw := hTw.below h2
 refine Ks ?_
 refine cond_yes hE (t := 17) rfl ?_
 refine Ks ?_
 refine Rs 2 fun Q' K hK => ?_
 refine M0 fun K' J ρ => ?_; go_simp; (try go_bits);
 go_at_call 22; refine (snowed_any _ hTw).mono ?_; rintro e w9 ⟨rfl, k9⟩
 refine Ln hE J fun _ Eb => ?_; clear J K' hE a
 refine M1 Eb 18 fun K' J ρ q18 => ?_; go_simp; (try clear q18)
 refine Ln Eb J fun _ Ea => ?_; clear J K' Eb
 refine late_done [4] Ea hK (fun a hE => ?_); clear hK K Q' Ea; simp only [lk, pick, Nat.reduceEqDiff, ↓reduceIte] at hE
 refine Ks ?_
 exact ret_one hE rfl rfl ⟨rfl, hbw2.trans (k9.mono hbw2.size)⟩
set_option maxRecDepth 100000 in
set_option maxHeartbeats 4000000 in
theorem cross_not (hb : OkB b) (hr : rtB b = false) (n0 n1 n2 : Int) (w : World) (hTw : TabW w) (hM : SbAt w H S b) : Calls Tryd.prog 9 #[.agg (sbV H hcap S scap b).toArray, .agg #[.int .i64 n0, .int .i64 n1, .int .i64 n2]] w fun e w' => e = .returned (.bool true) ∧ Below w.heap.size w w' := by
 have C2 := hid fun (W : World) hW => soundC H hcap S scap b hb W hW
 have h12 := hb.hours
 obtain ⟨hw1, hw2⟩ := windI_range n0 b.hours.length (by omega)
 obtain ⟨h, hh0⟩ : ∃ h : Nat, windI n0 b.hours.length = h := ⟨(windI n0 b.hours.length).toNat, by omega⟩
 have hh : h < b.hours.length := by omega
 have HS := hid hh0
 have HW64 : Hid ((b.hours.length : Int) ≤ 9223372036854775807) := hid (by omega)
 obtain ⟨hv1, hv2⟩ := windI_range n1 12 (by omega)
 obtain ⟨k0, hk0⟩ : ∃ h : Nat, windI n1 12 = h := ⟨(windI n1 12).toNat, by omega⟩
 have hk0l : k0 < 12 := by omega
 have HS1 := hid hk0
 obtain ⟨lg, hlg0⟩ : ∃ lg : Nat, lg = k0 + 1 := ⟨_, rfl⟩
 have hlg : 1 ≤ lg ∧ lg ≤ 12 := by omega
 have hlgI : 1 + (k0 : Int) = lg := by omega
 have CF := hid fun (W : World) hW => freeN H hcap S scap b hb hr W hW
 have CC := hid fun (W : World) hW => crossN H hcap S scap b hb hr hh hlg W hW
 have CU := hid fun (W : World) hW => untilN H hcap S scap b hb hr hh W hW
 clear hb h12 hh hw1 hw2 hh0 hr hv1 hv2 hk0 hlg hlg0
 refine enterE Tryd.func9 rfl Tryd.ntmps9 (by simp) (fun a hE => ?_); simp only [envOf, Nat.zero_add, Nat.reduceAdd] at hE
 refine Ks ?_
 refine Rs 3 fun Q' K hK => ?_
 refine M1 hE 0 fun K' J ρ q0 => ?_; go_simp; (try clear q0)
 refine Ln hE J fun _ Eb => ?_; clear J K' hE a
 refine M1 Eb 1 fun K' J ρ q1 => ?_; go_simp; (try clear q1)
 refine Ln Eb J fun _ Ea => ?_; clear J K' Eb
 refine M0 fun K' J ρ => ?_; go_simp;
 refine Ln Ea J fun _ Eb => ?_; clear J K' Ea
 refine late_done [2, 3] Eb hK (fun a hE => ?_); clear hK K Q' Eb; simp only [lk, pick, Nat.reduceEqDiff, ↓reduceIte] at hE
 obtain ⟨B, hB⟩ : ∃ B, B = w.heap.size := ⟨_, rfl⟩
 obtain ⟨X, hX⟩ : ∃ B, B = w.heap.size + 1 := ⟨_, rfl⟩
 rw [← hX, ← hB] at hE
 refine world_cut (fun wt => Below w.heap.size w wt ∧ Cells wt B (sbV H hcap S scap b) ∧ Cells wt X [.int .i64 n0, .int .i64 n1, .int .i64 n2]) (by rw [hB, hX]; exact cells_two w _ _ _ _) (fun w1 hC => ?_)
 obtain ⟨hbw1, hCB, hCX⟩ := hC
 replace hM := hM.below hbw1
 replace hTw := hTw.below hbw1
 clear hB hX
 have nB := hCB.1; have cB7 := hCB.2 7 _ rfl
 have nX := hCX.1; have cX0 := hCX.2 0 _ rfl; have cX1 := hCX.2 1 _ rfl
 refine Ks ?_
 refine Rs 3 fun Q' K hK => ?_
 refine Lp fun K' J => ?_
 have r2 := hE.at 2 rfl
 refine wp_load_mid 29 (.tmp 2) rfl B 0 (eval_of r2) (sbV H hcap S scap b) _ (fun j u hu => by rw [Nat.zero_add]; exact hCB.2 j u hu) Tryd.underlying29 rfl (by kernel_rfl) ?_
 (try clear r2)
 refine Ln hE J fun _ Eb => ?_; clear J K' hE a
 refine M1 Eb 15 fun K' J ρ q15 => ?_; go_simp; (try go_bits); (try clear q15)
 go_at_call 34; refine (C2.out _ hM).mono ?_; rintro e w2 ⟨rfl, h2⟩
 (try clear r15)
 refine Ln Eb J fun _ Ea => ?_; clear J K' Eb
 refine M1 Ea 16 fun K' J ρ q16 => ?_; go_simp; (try go_bits); (try simp (disch := omega) only [IntWalk.i64_in]); (try clear q16)
 refine Ln Ea J fun _ Eb => ?_; clear J K' Ea
 replace Eb := Eb.turn 17 (v' := .bool false) rfl (by (first | rfl | simp))
 refine late_done [2, 3, 17] Eb hK (fun a hE => ?_); clear hK K Q' Eb; simp only [lk, pick, Nat.reduceEqDiff, ↓reduceIte] at hE
 have hbw2 := hbw1.trans (h2.mono hbw1.size)
 replace hCB := hCB.below h2
 clear nB cB7
 have nB := hCB.1; have cB7 := hCB.2 7 _ rfl
 replace hCX := hCX.below h2
 clear nX cX0 cX1
 have nX := hCX.1; have cX0 := hCX.2 0 _ rfl; have cX1 := hCX.2 1 _ rfl
 replace hM := hM.below h2
 replace hTw := hTw.below h2
 refine Ks ?_
 refine cond_no hE (t := 17) rfl ?_
 refine Ks ?_
 refine Rs 4 fun Q' K hK => ?_
 refine M1 hE 2 fun K' J ρ q2 => ?_; go_simp; (try clear q2)
 refine Ln hE J fun _ Eb => ?_; clear J K' hE a
 refine M1 Eb 19 fun K' J ρ q19 => ?_; go_simp; (try clear q19)
 refine Ln Eb J fun _ Ea => ?_; clear J K' Eb
 refine M1 Ea 20 fun K' J ρ q20 => ?_; go_simp; (try go_bits); (try clear q20)
 refine Ln Ea J fun _ Eb => ?_; clear J K' Ea
 refine M1 Eb 21 fun K' J ρ q21 => ?_; go_simp; (try clear q21)
 refine Ln Eb J fun _ Ea => ?_; clear J K' Eb
 refine late_done [2, 3, 5] Ea hK (fun a hE => ?_); clear hK K Q' Ea; simp only [lk, pick, Nat.reduceEqDiff, ↓reduceIte] at hE
 refine Ks ?_
 refine Rd [9] (fun wt => Below w2.heap.size w2 wt) (fun w1 w2 => Below w1.heap.size w1 w2) [(0, some 22), (1, some 23), (2, some 24), (3, some 25), (4, some 26), (5, some 27), (6, some 28), (7, some 29), (8, some 6)] [22, 23, 24, 25, 26, 27, 28, 29, 6] #[true, true, true, true, true, true, true, true, true, false] [2, 3, 5, 7] hE ((Below.refl _ _).drew) fun Q' K hK => ?_
 refine SeqOps.val ?_ (Sp fun ax wx hS hT' hd K' J => ?_) ?_; rotate_left 1
 ·have r3 := hS.at 3 (by decide) (hE.at 3 rfl); obtain ⟨hcT, hfT, hlT, hmT, hwT, hzT⟩ := bT hT'
  refine o1 r3 fun ρ q3 => ?_; go_simp; (try go_bits);
  exact Jo J hT'
 refine SeqOps.val ?_ (Sp fun ax wx hS hT' hd K' J => ?_) ?_; rotate_left 1
 ·have r22 := Tv hd 0 0 22; obtain ⟨hcT, hfT, hlT, hmT, hwT, hzT⟩ := bT hT'
  refine o1 r22 fun ρ q22 => ?_; go_simp;
  exact Jo J hT'
 refine SeqOps.val ?_ (Sp fun ax wx hS hT' hd K' J => ?_) ?_; rotate_left 1
 ·have r5 := hS.at 5 (by decide) (hE.at 5 rfl); obtain ⟨hcT, hfT, hlT, hmT, hwT, hzT⟩ := bT hT'
  refine o1 r5 fun ρ q5 => ?_; go_simp;
  exact Jo J hT'
 refine SeqOps.val ?_ (Sp fun ax wx hS hT' hd K' J => ?_) ?_; rotate_left 1
 ·have r23 := Tv hd 1 1 23; have r24 := Tv hd 0 2 24; obtain ⟨hcT, hfT, hlT, hmT, hwT, hzT⟩ := bT hT'
  refine o2 r23 r24 fun ρ q23 q24 => ?_; go_simp; (try go_bits);
  go_at_call 40; refine (wind_any n0 _ HW64.out _).mono ?_; rw [HS.out]; rintro e g1 ⟨rfl, rfl⟩
  refine J.out _ _ _ rfl ?_ hT' (Below.refl _ _); rfl
 refine SeqOps.val ?_ (Sp fun ax wx hS hT' hd K' J => ?_) ?_; rotate_left 1
 ·have r3 := hS.at 3 (by decide) (hE.at 3 rfl); obtain ⟨hcT, hfT, hlT, hmT, hwT, hzT⟩ := bT hT'
  refine o1 r3 fun ρ q3 => ?_; go_simp; (try go_bits);
  exact Jo J hT'
 refine SeqOps.val ?_ (Sp fun ax wx hS hT' hd K' J => ?_) ?_; rotate_left 1
 ·have r26 := Tv hd 0 4 26; obtain ⟨hcT, hfT, hlT, hmT, hwT, hzT⟩ := bT hT'
  refine o1 r26 fun ρ q26 => ?_; go_simp;
  exact Jo J hT'
 refine SeqOps.val ?_ (Sp fun ax wx hS hT' hd K' J => ?_) ?_; rotate_left 1
 ·have r27 := Tv hd 0 5 27; obtain ⟨hcT, hfT, hlT, hmT, hwT, hzT⟩ := bT hT'
  refine o1 r27 fun ρ q27 => ?_; go_simp; (try go_bits);
  go_at_call 40; refine (wind_any n1 12 (by decide) _).mono ?_; rw [HS1.out]; rintro e g1 ⟨rfl, rfl⟩
  refine J.out _ _ _ rfl ?_ hT' (Below.refl _ _); rfl
 refine SeqOps.val ?_ (Sp fun ax wx hS hT' hd K' J => ?_) ?_; rotate_left 1
 ·have r28 := Tv hd 0 6 28; obtain ⟨hcT, hfT, hlT, hmT, hwT, hzT⟩ := bT hT'
  refine o1 r28 fun ρ q28 => ?_; go_simp; (try go_bits); (try simp (disch := omega) only [IntWalk.i64_in]);
  exact Jo J hT'
 refine SeqOps.val ?_ (Sp fun ax wx hS hT' hd K' J => ?_) ?_; rotate_left 1
 ·have r25 := Tv hd 4 3 25; obtain ⟨hcT, hfT, hlT, hmT, hwT, hzT⟩ := bT hT'
  refine o1 r25 fun ρ q25 => ?_; go_simp;
  exact Jo J hT'
 refine SeqOps.nil ?_
 intro w3 hBm; (repeat refine Ek ?_)
 refine fun amx hEmx => ?_
 simp only [lk, pick, Nat.reduceEqDiff, ↓reduceIte] at hEmx
 refine M1 hEmx 29 fun K' J ρ q29 => ?_; go_simp; (try clear q29)
 refine Ln hEmx J fun am_1 hEm_1 => ?_; clear J K' hEmx
 refine late_done [2, 3, 5, 6, 7] hEm_1 hK (fun a hE => ?_); clear hK K Q' hEm_1; simp only [lk, pick, Nat.reduceEqDiff, ↓reduceIte] at hE
 have hbw3 := hbw2.trans (hBm.mono hbw2.size)
 replace hCB := hCB.below hBm
 clear nB cB7
 have nB := hCB.1; have cB7 := hCB.2 7 _ rfl
 replace hCX := hCX.below hBm
 clear nX cX0 cX1
 have nX := hCX.1; have cX0 := hCX.2 0 _ rfl; have cX1 := hCX.2 1 _ rfl
 replace hM := hM.below hBm
 replace hTw := hTw.below hBm
 try rw [hlgI] at hE
 refine Ks ?_
 refine Rs 7 fun Q' K hK => ?_
 refine Lp fun K' J => ?_
 have r2 := hE.at 2 rfl
 refine wp_load_mid 29 (.tmp 2) rfl B 0 (eval_of r2) (sbV H hcap S scap b) _ (fun j u hu => by rw [Nat.zero_add]; exact hCB.2 j u hu) Tryd.underlying29 rfl (by kernel_rfl) ?_
 (try clear r2)
 refine Ln hE J fun _ Eb => ?_; clear J K' hE a
 refine M1 Eb 31 fun K' J ρ q31 => ?_; go_simp; (try go_bits); (try clear q31)
 go_at_call 23; refine (CF.out _ hM).mono ?_; rintro e w4 ⟨⟨T, tc, rfl⟩, h4⟩
 (try clear r31)
 refine Ln Eb J fun _ Ea => ?_; clear J K' Eb
 refine M1 Ea 32 fun K' J ρ q32 => ?_; go_simp; (try clear q32)
 refine Ln Ea J fun _ Eb => ?_; clear J K' Ea
 refine M1 Eb 30 fun K' J ρ q30 => ?_; go_simp; (try clear q30)
 refine Ln Eb J fun _ Ea => ?_; clear J K' Eb
 refine M1 Ea 30 fun K' J ρ q30 => ?_; go_simp; (try clear q30)
 refine Ln Ea J fun _ Eb => ?_; clear J K' Ea
 refine M1 Eb 33 fun K' J ρ q33 => ?_; go_simp; (try clear q33)
 refine Ln Eb J fun _ Ea => ?_; clear J K' Eb
 refine M1 Ea 34 fun K' J ρ q34 => ?_; go_simp; (try clear q34)
 refine Ln Ea J fun _ Eb => ?_; clear J K' Ea
 refine late_done [2, 3, 5, 6, 7, 8, 9] Eb hK (fun a hE => ?_); clear hK K Q' Eb; simp only [lk, pick, Nat.reduceEqDiff, ↓reduceIte] at hE
 have hbw4 := hbw3.trans (h4.mono hbw3.size)
 replace hCB := hCB.below h4
 clear nB cB7
 have nB := hCB.1; have cB7 := hCB.2 7 _ rfl
 replace hCX := hCX.below h4
 clear nX cX0 cX1
 have nX := hCX.1; have cX0 := hCX.2 0 _ rfl; have cX1 := hCX.2 1 _ rfl
 replace hM := hM.below h4
 replace hTw := hTw.below h4
 refine Ks ?_
 refine Rs 9 fun Q' K hK => ?_
 refine Lp fun K' J => ?_
 have r2 := hE.at 2 rfl
 refine wp_load_mid 29 (.tmp 2) rfl B 0 (eval_of r2) (sbV H hcap S scap b) _ (fun j u hu => by rw [Nat.zero_add]; exact hCB.2 j u hu) Tryd.underlying29 rfl (by kernel_rfl) ?_
 (try clear r2)
 refine Ln hE J fun _ Eb => ?_; clear J K' hE a
 refine M1 Eb 6 fun K' J ρ q6 => ?_; go_simp; (try clear q6)
 refine Ln Eb J fun _ Ea => ?_; clear J K' Eb
 refine M1 Ea 7 fun K' J ρ q7 => ?_; go_simp; (try clear q7)
 refine Ln Ea J fun _ Eb => ?_; clear J K' Ea
 refine M3 Eb 36 37 38 fun K' J ρ q36 q37 q38 => ?_; go_simp; (try go_bits); (try clear q36 q37 q38)
 go_at_call 28; refine (CC.out _ hM).mono ?_; rintro e w5 ⟨rfl, h5⟩
 (try clear r36 r37 r38)
 refine Ln Eb J fun _ Ea => ?_; clear J K' Eb
 refine M1 Ea 39 fun K' J ρ q39 => ?_; go_simp; (try clear q39)
 refine Ln Ea J fun _ Eb => ?_; clear J K' Ea
 refine M1 Eb 35 fun K' J ρ q35 => ?_; go_simp; (try clear q35)
 refine Ln Eb J fun _ Ea => ?_; clear J K' Eb
 refine M1 Ea 35 fun K' J ρ q35 => ?_; go_simp; (try clear q35)
 refine Ln Ea J fun _ Eb => ?_; clear J K' Ea
 refine M1 Eb 40 fun K' J ρ q40 => ?_; go_simp; (try clear q40)
 refine Ln Eb J fun _ Ea => ?_; clear J K' Eb
 refine M1 Ea 41 fun K' J ρ q41 => ?_; go_simp; (try clear q41)
 refine Ln Ea J fun _ Eb => ?_; clear J K' Ea
 refine late_done [2, 3, 5, 6, 7, 8, 9, 10, 11] Eb hK (fun a hE => ?_); clear hK K Q' Eb; simp only [lk, pick, Nat.reduceEqDiff, ↓reduceIte] at hE
 have hbw5 := hbw4.trans (h5.mono hbw4.size)
 replace hCB := hCB.below h5
 clear nB cB7
 have nB := hCB.1; have cB7 := hCB.2 7 _ rfl
 replace hCX := hCX.below h5
 clear nX cX0 cX1
 have nX := hCX.1; have cX0 := hCX.2 0 _ rfl; have cX1 := hCX.2 1 _ rfl
 replace hM := hM.below h5
 replace hTw := hTw.below h5
 refine Ks ?_
 refine Rs 8 fun Q' K hK => ?_
 refine Lp fun K' J => ?_
 have r2 := hE.at 2 rfl
 refine wp_load_mid 29 (.tmp 2) rfl B 0 (eval_of r2) (sbV H hcap S scap b) _ (fun j u hu => by rw [Nat.zero_add]; exact hCB.2 j u hu) Tryd.underlying29 rfl (by kernel_rfl) ?_
 (try clear r2)
 refine Ln hE J fun _ Eb => ?_; clear J K' hE a
 refine M1 Eb 6 fun K' J ρ q6 => ?_; go_simp; (try clear q6)
 refine Ln Eb J fun _ Ea => ?_; clear J K' Eb
 refine M2 Ea 43 44 fun K' J ρ q43 q44 => ?_; go_simp; (try go_bits); (try clear q43 q44)
 go_at_call 26; refine (CU.out _ hM).mono ?_; rintro e w6 ⟨rfl, h6⟩
 (try clear r43 r44)
 refine Ln Ea J fun _ Eb => ?_; clear J K' Ea
 refine M1 Eb 45 fun K' J ρ q45 => ?_; go_simp; (try clear q45)
 refine Ln Eb J fun _ Ea => ?_; clear J K' Eb
 refine M1 Ea 42 fun K' J ρ q42 => ?_; go_simp; (try clear q42)
 refine Ln Ea J fun _ Eb => ?_; clear J K' Ea
 refine M1 Eb 42 fun K' J ρ q42 => ?_; go_simp; (try clear q42)
 refine Ln Eb J fun _ Ea => ?_; clear J K' Eb
 refine M1 Ea 46 fun K' J ρ q46 => ?_; go_simp; (try clear q46)
 refine Ln Ea J fun _ Eb => ?_; clear J K' Ea
 refine M1 Eb 47 fun K' J ρ q47 => ?_; go_simp; (try clear q47)
 refine Ln Eb J fun _ Ea => ?_; clear J K' Eb
 refine late_done [3, 5, 6, 7, 8, 9, 10, 11, 12, 13] Ea hK (fun a hE => ?_); clear hK K Q' Ea; simp only [lk, pick, Nat.reduceEqDiff, ↓reduceIte] at hE
 have hbw6 := hbw5.trans (h6.mono hbw5.size)
 replace hCB := hCB.below h6
 clear nB cB7
 have nB := hCB.1; have cB7 := hCB.2 7 _ rfl
 replace hCX := hCX.below h6
 clear nX cX0 cX1
 have nX := hCX.1; have cX0 := hCX.2 0 _ rfl; have cX1 := hCX.2 1 _ rfl
 replace hM := hM.below h6
 replace hTw := hTw.below h6
 refine Ks ?_
 refine Rs 2 fun Q' K hK => ?_
 refine M1 hE 9 fun K' J ρ q9 => ?_; go_simp; (try clear q9)
 refine Ln hE J fun _ Eb => ?_; clear J K' hE a
 refine M1 Eb 48 fun K' J ρ q48 => ?_; go_simp; (try go_bits); (try clear q48)
 refine Ln Eb J fun _ Ea => ?_; clear J K' Eb
 replace Ea := Ea.turn 49 (v' := .bool true) rfl (by (first | rfl | simp))
 refine late_done [3, 5, 6, 7, 8, 9, 10, 11, 12, 13, 49] Ea hK (fun a hE => ?_); clear hK K Q' Ea; simp only [lk, pick, Nat.reduceEqDiff, ↓reduceIte] at hE
 refine Ks ?_
 refine cond_yes hE (t := 49) rfl ?_
 refine Ks ?_
 refine Rs 21 fun Q' K hK => ?_
 refine M1 hE 9 fun K' J ρ q9 => ?_; go_simp; (try clear q9)
 refine Ln hE J fun _ Eb => ?_; clear J K' hE a
 refine M1 Eb 50 fun K' J ρ q50 => ?_; go_simp; (try go_bits); (try clear q50)
 refine Ln Eb J fun _ Ea => ?_; clear J K' Eb
 refine M1 Ea 51 fun K' J ρ q51 => ?_; go_simp; (try clear q51)
 refine Ln Ea J fun _ Eb => ?_; clear J K' Ea
 refine N1 Eb 52 11 fun K' J ρ q11 => ?_; go_simp; (try clear q11)
 refine Ln Eb J fun _ Ea => ?_; clear J K' Eb
 refine N1 Ea 52 9 fun K' J ρ q9 => ?_; go_simp; (try clear q9)
 refine Ln Ea J fun _ Eb => ?_; clear J K' Ea
 refine N2 Eb 52 53 54 fun K' J ρ q53 q54 => ?_; go_simp; (try go_bits); (try clear q53 q54)
 refine Ln Eb J fun _ Ea => ?_; clear J K' Eb
 refine M2 Ea 52 55 fun K' J ρ q52 q55 => ?_; go_simp; (try go_bits); (try clear q52 q55)
 refine Ln Ea J fun _ Eb => ?_; clear J K' Ea
 refine M1 Eb 56 fun K' J ρ q56 => ?_; go_simp; (try clear q56)
 refine Ln Eb J fun _ Ea => ?_; clear J K' Eb
 refine N1 Ea 57 13 fun K' J ρ q13 => ?_; go_simp; (try clear q13)
 refine Ln Ea J fun _ Eb => ?_; clear J K' Ea
 refine N1 Eb 57 9 fun K' J ρ q9 => ?_; go_simp; (try clear q9)
 refine Ln Eb J fun _ Ea => ?_; clear J K' Eb
 refine N2 Ea 57 58 59 fun K' J ρ q58 q59 => ?_; go_simp; (try go_bits); (try clear q58 q59)
 refine Ln Ea J fun _ Eb => ?_; clear J K' Ea
 refine M2 Eb 57 60 fun K' J ρ q57 q60 => ?_; go_simp; (try go_bits); (try clear q57 q60)
 refine Ln Eb J fun _ Ea => ?_; clear J K' Eb
 refine M1 Ea 61 fun K' J ρ q61 => ?_; go_simp; (try clear q61)
 refine Ln Ea J fun _ Eb => ?_; clear J K' Ea
 refine N1 Eb 62 8 fun K' J ρ q8 => ?_; go_simp; (try clear q8)
 refine Ln Eb J fun _ Ea => ?_; clear J K' Eb
 refine N1 Ea 62 63 fun K' J ρ q63 => ?_; go_simp; (try go_bits); (try clear q63)
 refine Ln Ea J fun _ Eb => ?_; clear J K' Ea
 refine N1 Eb 62 64 fun K' J ρ q64 => ?_; go_simp; (try go_bits); (try clear q64)
 refine Ln Eb J fun _ Ea => ?_; clear J K' Eb
 refine M2 Ea 62 65 fun K' J ρ q62 q65 => ?_; go_simp; (try go_bits); (try clear q62 q65)
 refine Ln Ea J fun _ Eb => ?_; clear J K' Ea
 refine M1 Eb 66 fun K' J ρ q66 => ?_; go_simp; (try clear q66)
 refine Ln Eb J fun _ Ea => ?_; clear J K' Eb
 refine Ly Ea 67 fun K' J => ?_
 refine o0 fun ρ => ?_; go_simp; (try go_bits);
 go_at_call 22; refine (snowed_any _ hTw).mono ?_; rintro e w9 ⟨rfl, k9⟩
 refine Ln Ea J fun _ Eb => ?_; clear J K' Ea
 refine M2 Eb 67 68 fun K' J ρ q67 q68 => ?_; go_simp; (try go_bits); (try clear q67 q68)
 refine Ln Eb J fun _ Ea => ?_; clear J K' Eb
 refine M1 Ea 69 fun K' J ρ q69 => ?_; go_simp; (try clear q69)
 refine Ln Ea J fun _ Eb => ?_; clear J K' Ea
 refine late_done [4] Eb hK (fun a hE => ?_); clear hK K Q' Eb; simp only [lk, pick, Nat.reduceEqDiff, ↓reduceIte] at hE
 refine Ks ?_
 exact ret_one hE rfl rfl ⟨rfl, hbw6.trans (k9.mono hbw6.size)⟩
set_option maxRecDepth 100000 in
set_option maxHeartbeats 4000000 in
theorem cross_yes (hb : OkB b) (hr : rtB b = true) (n0 n1 n2 : Int) (w : World) (hTw : TabW w) (hM : SbAt w H S b) : Calls Tryd.prog 9 #[.agg (sbV H hcap S scap b).toArray, .agg #[.int .i64 n0, .int .i64 n1, .int .i64 n2]] w fun e w' => e = .returned (.bool true) ∧ Below w.heap.size w w' := by
 have C2 := hid fun (W : World) hW => soundC H hcap S scap b hb W hW
 have h12 := hb.hours
 obtain ⟨hw1, hw2⟩ := windI_range n0 b.hours.length (by omega)
 obtain ⟨h, hh0⟩ : ∃ h : Nat, windI n0 b.hours.length = h := ⟨(windI n0 b.hours.length).toNat, by omega⟩
 have hh : h < b.hours.length := by omega
 have HS := hid hh0
 have HW64 : Hid ((b.hours.length : Int) ≤ 9223372036854775807) := hid (by omega)
 obtain ⟨hv1, hv2⟩ := windI_range n1 12 (by omega)
 obtain ⟨k0, hk0⟩ : ∃ h : Nat, windI n1 12 = h := ⟨(windI n1 12).toNat, by omega⟩
 have hk0l : k0 < 12 := by omega
 have HS1 := hid hk0
 obtain ⟨lg, hlg0⟩ : ∃ lg : Nat, lg = k0 + 1 := ⟨_, rfl⟩
 have hlg : 1 ≤ lg ∧ lg ≤ 12 := by omega
 have hlgI : 1 + (k0 : Int) = lg := by omega
 have CF := hid fun (W : World) hW => freeC H hcap S scap b hb hr W hW
 have CC := hid fun (W : World) hW => crossC H hcap S scap b hb hr hh hlg W hW
 have CU := hid fun (W : World) hW => untilC H hcap S scap b hb hr hh W hW
 have HM := hid fun (T : Option Addr) (tc X : Nat) (V : World) => cross_mid b hb hr hh hlg n0 n1 n2 T tc X w V
 obtain ⟨fl, hfl⟩ : ∃ l, freK b b.hours.length = l := ⟨_, rfl⟩
 obtain ⟨cv, hcv⟩ : ∃ p, croV (croB b h lg) = p := ⟨_, rfl⟩
 obtain ⟨uv, huv⟩ : ∃ p : Int × Int, (if runB b h = 0 then (0, 4) else ((h : Int) + runB b h - 1, 0)) = p := ⟨_, rfl⟩
 rw [hfl] at CF
 rw [hcv] at CC
 rw [huv] at CU
 rw [hfl, hcv, huv] at HM
 obtain ⟨c1, c2⟩ := cv
 obtain ⟨u1, u2⟩ := uv
 simp only at CC CU HM
 clear hb h12 hh hw1 hw2 hh0 hr hv1 hv2 hk0 hlg hlg0 hfl hcv huv
 refine enterE Tryd.func9 rfl Tryd.ntmps9 (by simp) (fun a hE => ?_); simp only [envOf, Nat.zero_add, Nat.reduceAdd] at hE
 refine Ks ?_
 refine Rs 3 fun Q' K hK => ?_
 refine M1 hE 0 fun K' J ρ q0 => ?_; go_simp; (try clear q0)
 refine Ln hE J fun _ Eb => ?_; clear J K' hE a
 refine M1 Eb 1 fun K' J ρ q1 => ?_; go_simp; (try clear q1)
 refine Ln Eb J fun _ Ea => ?_; clear J K' Eb
 refine M0 fun K' J ρ => ?_; go_simp;
 refine Ln Ea J fun _ Eb => ?_; clear J K' Ea
 refine late_done [2, 3] Eb hK (fun a hE => ?_); clear hK K Q' Eb; simp only [lk, pick, Nat.reduceEqDiff, ↓reduceIte] at hE
 obtain ⟨B, hB⟩ : ∃ B, B = w.heap.size := ⟨_, rfl⟩
 obtain ⟨X, hX⟩ : ∃ B, B = w.heap.size + 1 := ⟨_, rfl⟩
 rw [← hX, ← hB] at hE
 refine world_cut (fun wt => Below w.heap.size w wt ∧ Cells wt B (sbV H hcap S scap b) ∧ Cells wt X [.int .i64 n0, .int .i64 n1, .int .i64 n2]) (by rw [hB, hX]; exact cells_two w _ _ _ _) (fun w1 hC => ?_)
 obtain ⟨hbw1, hCB, hCX⟩ := hC
 replace hM := hM.below hbw1
 replace hTw := hTw.below hbw1
 clear hB hX
 have nB := hCB.1; have cB7 := hCB.2 7 _ rfl
 have nX := hCX.1; have cX0 := hCX.2 0 _ rfl; have cX1 := hCX.2 1 _ rfl
 refine Ks ?_
 refine Rs 3 fun Q' K hK => ?_
 refine Lp fun K' J => ?_
 have r2 := hE.at 2 rfl
 refine wp_load_mid 29 (.tmp 2) rfl B 0 (eval_of r2) (sbV H hcap S scap b) _ (fun j u hu => by rw [Nat.zero_add]; exact hCB.2 j u hu) Tryd.underlying29 rfl (by kernel_rfl) ?_
 (try clear r2)
 refine Ln hE J fun _ Eb => ?_; clear J K' hE a
 refine M1 Eb 15 fun K' J ρ q15 => ?_; go_simp; (try go_bits); (try clear q15)
 go_at_call 34; refine (C2.out _ hM).mono ?_; rintro e w2 ⟨rfl, h2⟩
 (try clear r15)
 refine Ln Eb J fun _ Ea => ?_; clear J K' Eb
 refine M1 Ea 16 fun K' J ρ q16 => ?_; go_simp; (try go_bits); (try simp (disch := omega) only [IntWalk.i64_in]); (try clear q16)
 refine Ln Ea J fun _ Eb => ?_; clear J K' Ea
 replace Eb := Eb.turn 17 (v' := .bool false) rfl (by (first | rfl | simp))
 refine late_done [2, 3, 17] Eb hK (fun a hE => ?_); clear hK K Q' Eb; simp only [lk, pick, Nat.reduceEqDiff, ↓reduceIte] at hE
 have hbw2 := hbw1.trans (h2.mono hbw1.size)
 replace hCB := hCB.below h2
 clear nB cB7
 have nB := hCB.1; have cB7 := hCB.2 7 _ rfl
 replace hCX := hCX.below h2
 clear nX cX0 cX1
 have nX := hCX.1; have cX0 := hCX.2 0 _ rfl; have cX1 := hCX.2 1 _ rfl
 replace hM := hM.below h2
 replace hTw := hTw.below h2
 refine Ks ?_
 refine cond_no hE (t := 17) rfl ?_
 refine Ks ?_
 refine Rs 4 fun Q' K hK => ?_
 refine M1 hE 2 fun K' J ρ q2 => ?_; go_simp; (try clear q2)
 refine Ln hE J fun _ Eb => ?_; clear J K' hE a
 refine M1 Eb 19 fun K' J ρ q19 => ?_; go_simp; (try clear q19)
 refine Ln Eb J fun _ Ea => ?_; clear J K' Eb
 refine M1 Ea 20 fun K' J ρ q20 => ?_; go_simp; (try go_bits); (try clear q20)
 refine Ln Ea J fun _ Eb => ?_; clear J K' Ea
 refine M1 Eb 21 fun K' J ρ q21 => ?_; go_simp; (try clear q21)
 refine Ln Eb J fun _ Ea => ?_; clear J K' Eb
 refine late_done [2, 3, 5] Ea hK (fun a hE => ?_); clear hK K Q' Ea; simp only [lk, pick, Nat.reduceEqDiff, ↓reduceIte] at hE
 refine Ks ?_
 refine Rd [9] (fun wt => Below w2.heap.size w2 wt) (fun w1 w2 => Below w1.heap.size w1 w2) [(0, some 22), (1, some 23), (2, some 24), (3, some 25), (4, some 26), (5, some 27), (6, some 28), (7, some 29), (8, some 6)] [22, 23, 24, 25, 26, 27, 28, 29, 6] #[true, true, true, true, true, true, true, true, true, false] [2, 3, 5, 7] hE ((Below.refl _ _).drew) fun Q' K hK => ?_
 refine SeqOps.val ?_ (Sp fun ax wx hS hT' hd K' J => ?_) ?_; rotate_left 1
 ·have r3 := hS.at 3 (by decide) (hE.at 3 rfl); obtain ⟨hcT, hfT, hlT, hmT, hwT, hzT⟩ := bT hT'
  refine o1 r3 fun ρ q3 => ?_; go_simp; (try go_bits);
  exact Jo J hT'
 refine SeqOps.val ?_ (Sp fun ax wx hS hT' hd K' J => ?_) ?_; rotate_left 1
 ·have r22 := Tv hd 0 0 22; obtain ⟨hcT, hfT, hlT, hmT, hwT, hzT⟩ := bT hT'
  refine o1 r22 fun ρ q22 => ?_; go_simp;
  exact Jo J hT'
 refine SeqOps.val ?_ (Sp fun ax wx hS hT' hd K' J => ?_) ?_; rotate_left 1
 ·have r5 := hS.at 5 (by decide) (hE.at 5 rfl); obtain ⟨hcT, hfT, hlT, hmT, hwT, hzT⟩ := bT hT'
  refine o1 r5 fun ρ q5 => ?_; go_simp;
  exact Jo J hT'
 refine SeqOps.val ?_ (Sp fun ax wx hS hT' hd K' J => ?_) ?_; rotate_left 1
 ·have r23 := Tv hd 1 1 23; have r24 := Tv hd 0 2 24; obtain ⟨hcT, hfT, hlT, hmT, hwT, hzT⟩ := bT hT'
  refine o2 r23 r24 fun ρ q23 q24 => ?_; go_simp; (try go_bits);
  go_at_call 40; refine (wind_any n0 _ HW64.out _).mono ?_; rw [HS.out]; rintro e g1 ⟨rfl, rfl⟩
  refine J.out _ _ _ rfl ?_ hT' (Below.refl _ _); rfl
 refine SeqOps.val ?_ (Sp fun ax wx hS hT' hd K' J => ?_) ?_; rotate_left 1
 ·have r3 := hS.at 3 (by decide) (hE.at 3 rfl); obtain ⟨hcT, hfT, hlT, hmT, hwT, hzT⟩ := bT hT'
  refine o1 r3 fun ρ q3 => ?_; go_simp; (try go_bits);
  exact Jo J hT'
 refine SeqOps.val ?_ (Sp fun ax wx hS hT' hd K' J => ?_) ?_; rotate_left 1
 ·have r26 := Tv hd 0 4 26; obtain ⟨hcT, hfT, hlT, hmT, hwT, hzT⟩ := bT hT'
  refine o1 r26 fun ρ q26 => ?_; go_simp;
  exact Jo J hT'
 refine SeqOps.val ?_ (Sp fun ax wx hS hT' hd K' J => ?_) ?_; rotate_left 1
 ·have r27 := Tv hd 0 5 27; obtain ⟨hcT, hfT, hlT, hmT, hwT, hzT⟩ := bT hT'
  refine o1 r27 fun ρ q27 => ?_; go_simp; (try go_bits);
  go_at_call 40; refine (wind_any n1 12 (by decide) _).mono ?_; rw [HS1.out]; rintro e g1 ⟨rfl, rfl⟩
  refine J.out _ _ _ rfl ?_ hT' (Below.refl _ _); rfl
 refine SeqOps.val ?_ (Sp fun ax wx hS hT' hd K' J => ?_) ?_; rotate_left 1
 ·have r28 := Tv hd 0 6 28; obtain ⟨hcT, hfT, hlT, hmT, hwT, hzT⟩ := bT hT'
  refine o1 r28 fun ρ q28 => ?_; go_simp; (try go_bits); (try simp (disch := omega) only [IntWalk.i64_in]);
  exact Jo J hT'
 refine SeqOps.val ?_ (Sp fun ax wx hS hT' hd K' J => ?_) ?_; rotate_left 1
 ·have r25 := Tv hd 4 3 25; obtain ⟨hcT, hfT, hlT, hmT, hwT, hzT⟩ := bT hT'
  refine o1 r25 fun ρ q25 => ?_; go_simp;
  exact Jo J hT'
 refine SeqOps.nil ?_
 intro w3 hBm; (repeat refine Ek ?_)
 refine fun amx hEmx => ?_
 simp only [lk, pick, Nat.reduceEqDiff, ↓reduceIte] at hEmx
 refine M1 hEmx 29 fun K' J ρ q29 => ?_; go_simp; (try clear q29)
 refine Ln hEmx J fun am_1 hEm_1 => ?_; clear J K' hEmx
 refine late_done [2, 3, 5, 6, 7] hEm_1 hK (fun a hE => ?_); clear hK K Q' hEm_1; simp only [lk, pick, Nat.reduceEqDiff, ↓reduceIte] at hE
 have hbw3 := hbw2.trans (hBm.mono hbw2.size)
 replace hCB := hCB.below hBm
 clear nB cB7
 have nB := hCB.1; have cB7 := hCB.2 7 _ rfl
 replace hCX := hCX.below hBm
 clear nX cX0 cX1
 have nX := hCX.1; have cX0 := hCX.2 0 _ rfl; have cX1 := hCX.2 1 _ rfl
 replace hM := hM.below hBm
 replace hTw := hTw.below hBm
 try rw [hlgI] at hE
 refine Ks ?_
 refine Rs 7 fun Q' K hK => ?_
 refine Lp fun K' J => ?_
 have r2 := hE.at 2 rfl
 refine wp_load_mid 29 (.tmp 2) rfl B 0 (eval_of r2) (sbV H hcap S scap b) _ (fun j u hu => by rw [Nat.zero_add]; exact hCB.2 j u hu) Tryd.underlying29 rfl (by kernel_rfl) ?_
 (try clear r2)
 refine Ln hE J fun _ Eb => ?_; clear J K' hE a
 refine M1 Eb 31 fun K' J ρ q31 => ?_; go_simp; (try go_bits); (try clear q31)
 go_at_call 23; refine (CF.out _ hM).mono ?_; rintro e w4 ⟨⟨T, tc, rfl, hT⟩, h4⟩
 (try clear r31)
 refine Ln Eb J fun _ Ea => ?_; clear J K' Eb
 refine M1 Ea 32 fun K' J ρ q32 => ?_; go_simp; (try clear q32)
 refine Ln Ea J fun _ Eb => ?_; clear J K' Ea
 refine M1 Eb 30 fun K' J ρ q30 => ?_; go_simp; (try clear q30)
 refine Ln Eb J fun _ Ea => ?_; clear J K' Eb
 refine M1 Ea 30 fun K' J ρ q30 => ?_; go_simp; (try clear q30)
 refine Ln Ea J fun _ Eb => ?_; clear J K' Ea
 refine M1 Eb 33 fun K' J ρ q33 => ?_; go_simp; (try clear q33)
 refine Ln Eb J fun _ Ea => ?_; clear J K' Eb
 refine M1 Ea 34 fun K' J ρ q34 => ?_; go_simp; (try clear q34)
 refine Ln Ea J fun _ Eb => ?_; clear J K' Ea
 refine late_done [2, 3, 5, 6, 7, 8, 9] Eb hK (fun a hE => ?_); clear hK K Q' Eb; simp only [lk, pick, Nat.reduceEqDiff, ↓reduceIte] at hE
 have hbw4 := hbw3.trans (h4.mono hbw3.size)
 replace hCB := hCB.below h4
 clear nB cB7
 have nB := hCB.1; have cB7 := hCB.2 7 _ rfl
 replace hCX := hCX.below h4
 clear nX cX0 cX1
 have nX := hCX.1; have cX0 := hCX.2 0 _ rfl; have cX1 := hCX.2 1 _ rfl
 replace hM := hM.below h4
 replace hTw := hTw.below h4
 refine Ks ?_
 refine Rs 9 fun Q' K hK => ?_
 refine Lp fun K' J => ?_
 have r2 := hE.at 2 rfl
 refine wp_load_mid 29 (.tmp 2) rfl B 0 (eval_of r2) (sbV H hcap S scap b) _ (fun j u hu => by rw [Nat.zero_add]; exact hCB.2 j u hu) Tryd.underlying29 rfl (by kernel_rfl) ?_
 (try clear r2)
 refine Ln hE J fun _ Eb => ?_; clear J K' hE a
 refine M1 Eb 6 fun K' J ρ q6 => ?_; go_simp; (try clear q6)
 refine Ln Eb J fun _ Ea => ?_; clear J K' Eb
 refine M1 Ea 7 fun K' J ρ q7 => ?_; go_simp; (try clear q7)
 refine Ln Ea J fun _ Eb => ?_; clear J K' Ea
 refine M3 Eb 36 37 38 fun K' J ρ q36 q37 q38 => ?_; go_simp; (try go_bits); (try clear q36 q37 q38)
 go_at_call 28; refine (CC.out _ hM).mono ?_; rintro e w5 ⟨rfl, h5⟩
 (try clear r36 r37 r38)
 refine Ln Eb J fun _ Ea => ?_; clear J K' Eb
 refine M1 Ea 39 fun K' J ρ q39 => ?_; go_simp; (try clear q39)
 refine Ln Ea J fun _ Eb => ?_; clear J K' Ea
 refine M1 Eb 35 fun K' J ρ q35 => ?_; go_simp; (try clear q35)
 refine Ln Eb J fun _ Ea => ?_; clear J K' Eb
 refine M1 Ea 35 fun K' J ρ q35 => ?_; go_simp; (try clear q35)
 refine Ln Ea J fun _ Eb => ?_; clear J K' Ea
 refine M1 Eb 40 fun K' J ρ q40 => ?_; go_simp; (try clear q40)
 refine Ln Eb J fun _ Ea => ?_; clear J K' Eb
 refine M1 Ea 41 fun K' J ρ q41 => ?_; go_simp; (try clear q41)
 refine Ln Ea J fun _ Eb => ?_; clear J K' Ea
 refine late_done [2, 3, 5, 6, 7, 8, 9, 10, 11] Eb hK (fun a hE => ?_); clear hK K Q' Eb; simp only [lk, pick, Nat.reduceEqDiff, ↓reduceIte] at hE
 have hbw5 := hbw4.trans (h5.mono hbw4.size)
 replace hCB := hCB.below h5
 clear nB cB7
 have nB := hCB.1; have cB7 := hCB.2 7 _ rfl
 replace hCX := hCX.below h5
 clear nX cX0 cX1
 have nX := hCX.1; have cX0 := hCX.2 0 _ rfl; have cX1 := hCX.2 1 _ rfl
 replace hM := hM.below h5
 replace hTw := hTw.below h5
 replace hT := hT.below h5
 refine Ks ?_
 refine Rs 8 fun Q' K hK => ?_
 refine Lp fun K' J => ?_
 have r2 := hE.at 2 rfl
 refine wp_load_mid 29 (.tmp 2) rfl B 0 (eval_of r2) (sbV H hcap S scap b) _ (fun j u hu => by rw [Nat.zero_add]; exact hCB.2 j u hu) Tryd.underlying29 rfl (by kernel_rfl) ?_
 (try clear r2)
 refine Ln hE J fun _ Eb => ?_; clear J K' hE a
 refine M1 Eb 6 fun K' J ρ q6 => ?_; go_simp; (try clear q6)
 refine Ln Eb J fun _ Ea => ?_; clear J K' Eb
 refine M2 Ea 43 44 fun K' J ρ q43 q44 => ?_; go_simp; (try go_bits); (try clear q43 q44)
 go_at_call 26; refine (CU.out _ hM).mono ?_; rintro e w6 ⟨rfl, h6⟩
 (try clear r43 r44)
 refine Ln Ea J fun _ Eb => ?_; clear J K' Ea
 refine M1 Eb 45 fun K' J ρ q45 => ?_; go_simp; (try clear q45)
 refine Ln Eb J fun _ Ea => ?_; clear J K' Eb
 refine M1 Ea 42 fun K' J ρ q42 => ?_; go_simp; (try clear q42)
 refine Ln Ea J fun _ Eb => ?_; clear J K' Ea
 refine M1 Eb 42 fun K' J ρ q42 => ?_; go_simp; (try clear q42)
 refine Ln Eb J fun _ Ea => ?_; clear J K' Eb
 refine M1 Ea 46 fun K' J ρ q46 => ?_; go_simp; (try clear q46)
 refine Ln Ea J fun _ Eb => ?_; clear J K' Ea
 refine M1 Eb 47 fun K' J ρ q47 => ?_; go_simp; (try clear q47)
 refine Ln Eb J fun _ Ea => ?_; clear J K' Eb
 refine late_done [3, 5, 6, 7, 8, 9, 10, 11, 12, 13] Ea hK (fun a hE => ?_); clear hK K Q' Ea; simp only [lk, pick, Nat.reduceEqDiff, ↓reduceIte] at hE
 have hbw6 := hbw5.trans (h6.mono hbw5.size)
 replace hCB := hCB.below h6
 clear nB cB7
 have nB := hCB.1; have cB7 := hCB.2 7 _ rfl
 replace hCX := hCX.below h6
 clear nX cX0 cX1
 have nX := hCX.1; have cX0 := hCX.2 0 _ rfl; have cX1 := hCX.2 1 _ rfl
 replace hM := hM.below h6
 replace hTw := hTw.below h6
 replace hT := hT.below h6
 refine Ks ?_
 refine Rs 2 fun Q' K hK => ?_
 refine M1 hE 9 fun K' J ρ q9 => ?_; go_simp; (try clear q9)
 refine Ln hE J fun _ Eb => ?_; clear J K' hE a
 refine M1 Eb 48 fun K' J ρ q48 => ?_; go_simp; (try go_bits); (try clear q48)
 refine Ln Eb J fun _ Ea => ?_; clear J K' Eb
 replace Ea := Ea.turn 49 (v' := .bool false) rfl (by (first | rfl | simp))
 refine late_done [3, 5, 6, 7, 8, 9, 10, 11, 12, 13, 49] Ea hK (fun a hE => ?_); clear hK K Q' Ea; simp only [lk, pick, Nat.reduceEqDiff, ↓reduceIte] at hE
 refine cond_no hE (t := 49) rfl ?_
 refine wp_skip ?_
 exact HM.out T tc X _ hTw hbw6 hT hCX _ (fits_init [(49, .bool false)] hE)
theorem SlopeCrossed_any (n0 n1 n2 : Int) (w : World) (hTw : TabW w) (hM : SbAt w H S b) (hh : b.hours.length ≤ 9223372036854775807) (hss : b.sights.length ≤ 9223372036854775807) : Calls Tryd.prog 9 #[.agg (sbV H hcap S scap b).toArray, .agg #[.int .i64 n0, .int .i64 n1, .int .i64 n2]] w fun e w' => e = .returned (.bool true) ∧ Below w.heap.size w w' := by
 cases ho : b.ok
 ·exact cross_bad H hcap S scap b ho n0 n1 n2 w hTw hM hh hss
 ·have hb := ok_iff.1 ho
  cases hr : rtB b
  ·exact cross_not H hcap S scap b hb hr n0 n1 n2 w hTw hM
  ·exact cross_yes H hcap S scap b hb hr n0 n1 n2 w hTw hM
end
end Go.Proofs.YtkhmcofmjjmjhaaDoor
