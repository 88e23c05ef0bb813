/- Slope: which loads an hour can have. -/
import Derived.Test.YtkhmcofmjjmjhaaDoorKTSf

namespace Go.Proofs.YtkhmcofmjjmjhaaDoor
set_option linter.unusedSimpArgs false
set_option linter.unusedVariables false
open Go Go.RowKit
attribute [local go_sem high] cell_set_wr
attribute [local go_sem low] cell_wr frozen_wr
attribute [local go_sem] wr_set wr_drew wr_drewN wr_alloc wr_new Rho.c Rho.n Rho.g
/-- whether some of the first k loads left lead to load m -/
def ldF (f : Nat → Bool) (x : Hp) (k m : Nat) : Bool := (List.range k).any fun l => f l && x.brings.any fun n => decide (max ((l : Int) - x.sl.settle) 0 + n = (m : Int))
theorem ldF_no {f : Nat → Bool} {x : Hp} {k : Nat} (h : f k = false) (m : Nat) : ldF f x (k + 1) m = ldF f x k m := by
 unfold ldF
 rw [List.range_succ, List.any_append]
 simp [h]
theorem ldF_yes {f : Nat → Bool} {x : Hp} {k : Nat} (h : f k = true) (m : Nat) : ldF f x (k + 1) m = (ldF f x k m || x.brings.any fun n => decide (max ((k : Int) - x.sl.settle) 0 + n = (m : Int))) := by
 unfold ldF
 rw [List.range_succ, List.any_append]
 simp [h]
theorem any_take {α : Type} (p : α → Bool) {l : List α} {j : Nat} (h : j < l.length) : (l.take (j + 1)).any p = ((l.take j).any p || p l[j]) := by
 rw [List.take_succ_eq_append_getElem h, List.any_append]
 simp
set_option maxRecDepth 100000 in
theorem three_box {w V : World} {cs ds : List Value} {f : Nat → Bool} {t : TypeId} (q1 : Below w.heap.size w V) (q2 : Cells V w.heap.size cs) (q3 : w.heap.size + 1 < V.heap.size) (q4 : Row V (w.heap.size + 1) ds) (q5 : V.heap.size = w.heap.size + 1 + 1 := by simp) :
    Below w.heap.size w (V.alloc (.cells (bls f).toArray t)) ∧ Cells (V.alloc (.cells (bls f).toArray t)) w.heap.size cs ∧ (w.heap.size + 1 < (V.alloc (.cells (bls f).toArray t)).heap.size ∧ Row (V.alloc (.cells (bls f).toArray t)) (w.heap.size + 1) ds) ∧ RowD (V.alloc (.cells (bls f).toArray t)) (w.heap.size + 1 + 1) 2000 := by
 have z : Below V.heap.size V (V.alloc (.cells (bls f).toArray t)) := (Below.refl _ _).alloc (Nat.le_refl _) _
 refine ⟨q1.trans (z.mono q1.size), q2.below z, ⟨Nat.lt_of_lt_of_le q3 z.size, q4.below z q3⟩, by simp; omega, bls f, bls_length _, ?_⟩
 have h := row_new V (bls f).toArray t
 rw [q5] at h
 exact h
theorem or_at (a b : Bool) (m i : Nat) : (a || (b || decide ((i : Int) = (m : Int)))) = if m = i then true else a || b := by
 by_cases e : m = i
 ·subst e; simp
 ·have e' : decide ((i : Int) = (m : Int)) = false := by simp; omega
  rw [e', if_neg e, Bool.or_false]
section
variable (S : Option Addr) (scap : Nat) (G : Option Addr) (gcap : Nat) (x : Hp)
set_option maxRecDepth 100000 in
set_option maxHeartbeats 1000000 in
theorem loaded_any (f : Nat → Bool) (w : World) (hM : HpAt w S G x) (hs : 0 ≤ x.sl.settle ∧ x.sl.settle ≤ 30) (hb : x.brings.length ≤ 9223372036854775807) (hn : ∀ k, k < 2000 → f k = true → ∀ n, n ∈ x.brings → (0 ≤ n ∧ n ≤ 2000) ∧ max ((k : Int) - x.sl.settle) 0 + n < 2000) : Calls Tryd.prog 116 #[.agg (hpV S scap G gcap x).toArray, .agg (bls f).toArray] w fun e w' => e = .returned (.agg (bls (ldF f x 2000)).toArray) ∧ Below w.heap.size w w' := by
 have HN := hid hn
 have HS := hid hs
 have HB := hid hb
 clear hn hs hb
 refine enterE Tryd.func116 rfl Tryd.ntmps116 (by simp) (fun a hE => ?_); simp only [envOf, Nat.zero_add, Nat.reduceAdd] at hE
 refine Ks ?_
 refine Rs 3 fun Q' K hK => ?_
 refine M1 hE 0 fun K' J ρ q0 => ?_; go_simp
 refine Ln hE J fun _ Eb => ?_; clear J K' hE a q0
 refine M1 Eb 1 fun K' J ρ q1 => ?_; go_simp
 refine Ln Eb J fun _ Ea => ?_; clear J K' Eb q1
 refine M0 fun K' J ρ => ?_; go_simp;
 refine Ln Ea J fun _ Eb => ?_; clear J K' Ea
 refine Ld [2, 3, 4] Eb hK fun a hE => ?_; clear hK K Q' Eb
 obtain ⟨B, hB⟩ : ∃ B, B = w.heap.size := ⟨_, rfl⟩
 obtain ⟨L, hL⟩ : ∃ B, B = w.heap.size + 1 := ⟨_, rfl⟩
 obtain ⟨R, hR⟩ : ∃ B, B = w.heap.size + 1 + 1 := ⟨_, rfl⟩
 rw [← hR, ← hL, ← hB] at hE
 rw [zero_loads]
 refine world_cut (fun wt => Below w.heap.size w wt ∧ Cells wt B (hpV S scap G gcap x) ∧ (L < wt.heap.size ∧ Row wt L (bls f)) ∧ RowD wt R 2000) ?_ (fun w1 hC => ?_)
 ·rw [hB, hL, hR]; obtain ⟨q1, q2, q3, q4⟩ := box_row w (hpV S scap G gcap x).toArray 113 (bls f).toArray 123; exact three_box q1 q2 q3 q4
 obtain ⟨hbw1, hCB, ⟨hlL, hRL⟩, hRD⟩ := hC
 have hnR : w.heap.size ≤ R := by omega
 have hM1 := hM.below hbw1
 clear hB hR hL
 refine Ks ?_
 refine Rs 1 fun Q' K hK => ?_
 refine M0 fun K' J ρ => ?_; go_simp;
 refine Ln hE J fun _ Eb => ?_; clear J K' hE a
 refine Ld [2, 3, 4, 5] Eb hK fun a hE => ?_; clear hK K Q' Eb
 rw [zero_loads]
 obtain ⟨C, hC⟩ : ∃ B, B = w1.heap.size := ⟨_, rfl⟩
 rw [← hC] at hE
 refine world_cut (fun wt => Below w1.heap.size w1 wt ∧ C < wt.heap.size ∧ Row wt C (bls fun _ => false)) (by rw [hC]; exact ⟨(Below.refl _ _).alloc (Nat.le_refl _) _, by simp, row_new w1 _ _⟩) (fun w2 hCut => ?_)
 obtain ⟨h2, hlC, hRC⟩ := hCut
 have hnC : w1.heap.size ≤ C := Nat.le_of_eq hC.symm
 clear hC
 have hbw2 := hbw1.trans (h2.mono hbw1.size)
 refine Ks ?_
 refine Rs 1 fun Q' K hK => ?_
 refine M0 fun K' J ρ => ?_; go_simp;
 refine Ln hE J fun _ Eb => ?_; clear J K' hE a
 refine Ld [2, 3, 4, 5, 9] Eb hK fun a hE => ?_; clear hK K Q' Eb
 refine Ks ?_
 refine loop_st (fun (k : Nat) a w' => k ≤ 2000 ∧ Fits 31 [(2, .pointer (some ⟨B, 0, none⟩)), (3, .pointer (some ⟨L, 0, none⟩)), (4, .pointer (some ⟨R, 0, none⟩)), (5, .pointer (some ⟨C, 0, none⟩)), (9, .int .i64 k)] a ∧ Below w1.heap.size w1 w' ∧ C < w'.heap.size ∧ Row w' C (bls (ldF f x k))) (fun k => 2000 - k) 0 ⟨Nat.zero_le _, by simpa using hE, h2, hlC, hRC⟩ (fun k a wr hI => ?_)
 clear hE hRC hlC
 obtain ⟨hk, hE, hW, hlC, hRC⟩ := hI
 have hbr := hbw1.trans (hW.mono hbw1.size)
 by_cases hlt : k < 2000
 ·have hltI : (k : Int) < 2000 := by omega
  have c0 : wr.cell? ⟨L, k, none⟩ = some (.bool (f k)) := row_at (hRL.below hW hlL) (bls_at _ hlt)
  refine Ks ?_
  refine Rs 1 fun Q' K hK => ?_
  refine M1 hE 9 fun K' J ρ q9 => ?_; go_simp; (try go_bits)
  refine Ln hE J fun _ Eb => ?_; clear J K' hE a q9
  replace Eb := Eb.turn 10 (v' := .bool true) rfl (by (first | (simp; done) | (simp; omega)))
  refine Ld [2, 3, 4, 5, 9, 10] Eb hK fun a hE => ?_; clear hK K Q' Eb
  refine Ks ?_
  refine cond_yes hE (t := 10) rfl ?_
  refine Ks ?_
  refine Rs 2 fun Q' K hK => ?_
  refine M1 hE 9 fun K' J ρ q9 => ?_; go_simp
  refine Ln hE J fun _ Eb => ?_; clear J K' hE a q9
  refine M1 Eb 11 fun K' J ρ q11 => ?_; go_simp
  refine Ln Eb J fun _ Ea => ?_; clear J K' Eb q11
  refine Ld [2, 3, 4, 5, 6, 9] Ea hK fun a hE => ?_; clear hK K Q' Ea
  cases hv : f k
  ·rw [hv] at c0
   have HV := hid (fun m => ldF_no (x := x) hv m)
   clear hv
   refine Ks ?_
   refine Rs 4 fun Q' K hK => ?_
   refine M1 hE 6 fun K' J ρ q6 => ?_; go_simp
   refine Ln hE J fun _ Eb => ?_; clear J K' hE a q6
   refine M2 Eb 3 12 fun K' J ρ q3 q12 => ?_; go_simp; (try go_bits)
   refine Ln Eb J fun _ Ea => ?_; clear J K' Eb q3 q12
   refine M1 Ea 13 fun K' J ρ q13 => ?_; go_simp
   refine Ln Ea J fun _ Eb => ?_; clear J K' Ea q13
   refine M1 Eb 14 fun K' J ρ q14 => ?_; go_simp; (try go_bits); (try simp (disch := omega) only [IntWalk.i64_in])
   refine Ln Eb J fun _ Ea => ?_; clear J K' Eb q14
   replace Ea := Ea.turn 15 (v' := .bool true) rfl (by (first | rfl | simp))
   refine Ld [2, 3, 4, 5, 6, 9, 15] Ea hK fun a hE => ?_; clear hK K Q' Ea
   refine Ks ?_
   refine cond_yes hE (t := 15) rfl ?_
   refine Ks ?_
   refine Rs 2 fun Q' K hK => ?_
   refine M1 hE 9 fun K' J ρ q9 => ?_; go_simp; (try go_bits); (try simp (disch := omega) only [IntWalk.i64_in])
   refine Ln hE J fun _ Eb => ?_; clear J K' hE a q9
   refine M1 Eb 29 fun K' J ρ q29 => ?_; go_simp
   refine Ln Eb J fun _ Ea => ?_; clear J K' Eb q29
   refine Ld [2, 3, 4, 5, 9] Ea hK fun a hE => ?_; clear hK K Q' Ea
   refine Ks ?_
   exact ⟨k + 1, ⟨hlt, by simpa using hE, hW, hlC, by rw [bls_congr fun i _ => HV.out i]; exact hRC⟩, by omega⟩
  ·rw [hv] at c0
   have HV := hid (fun m => ldF_yes (x := x) hv m)
   have HK := hid (HN.out k hlt hv)
   clear hv
   have d12 : wr.cell? ⟨B, 12, none⟩ = some (.slice G x.brings.length gcap) := (hCB.below hW).2 12 _ rfl
   refine Ks ?_
   refine Rs 4 fun Q' K hK => ?_
   refine M1 hE 6 fun K' J ρ q6 => ?_; go_simp
   refine Ln hE J fun _ Eb => ?_; clear J K' hE a q6
   refine M2 Eb 3 12 fun K' J ρ q3 q12 => ?_; go_simp; (try go_bits)
   refine Ln Eb J fun _ Ea => ?_; clear J K' Eb q3 q12
   refine M1 Ea 13 fun K' J ρ q13 => ?_; go_simp
   refine Ln Ea J fun _ Eb => ?_; clear J K' Ea q13
   refine M1 Eb 14 fun K' J ρ q14 => ?_; go_simp; (try go_bits); (try simp (disch := omega) only [IntWalk.i64_in])
   refine Ln Eb J fun _ Ea => ?_; clear J K' Eb q14
   replace Ea := Ea.turn 15 (v' := .bool false) rfl (by (first | rfl | simp))
   refine Ld [2, 3, 4, 5, 6, 9, 15] Ea hK fun a hE => ?_; clear hK K Q' Ea
   refine Ks ?_
   refine cond_no hE (t := 15) rfl ?_
   refine Ks ?_
   refine Rs 4 fun Q' K hK => ?_
   refine M1 hE 2 fun K' J ρ q2 => ?_; go_simp
   refine Ln hE J fun _ Eb => ?_; clear J K' hE a q2
   refine M1 Eb 16 fun K' J ρ q16 => ?_; go_simp
   refine Ln Eb J fun _ Ea => ?_; clear J K' Eb q16
   refine M1 Ea 17 fun K' J ρ q17 => ?_; go_simp; (try go_bits)
   refine Ln Ea J fun _ Eb => ?_; clear J K' Ea q17
   refine M0 fun K' J ρ => ?_; go_simp;
   refine Ln Eb J fun _ Ea => ?_; clear J K' Eb
   refine Ld [2, 3, 4, 5, 6, 9, 17, 18, 19] Ea hK fun a hE => ?_; clear hK K Q' Ea
   refine Ks ?_
   refine loop_st (fun (j : Nat) a w' => j ≤ x.brings.length ∧ Fits 31 [(2, .pointer (some ⟨B, 0, none⟩)), (3, .pointer (some ⟨L, 0, none⟩)), (4, .pointer (some ⟨R, 0, none⟩)), (5, .pointer (some ⟨C, 0, none⟩)), (6, .int .i64 k), (9, .int .i64 k), (17, .slice G x.brings.length gcap), (18, .int .i64 x.brings.length), (19, .int .i64 j)] a ∧ Below w1.heap.size w1 w' ∧ C < w'.heap.size ∧ Row w' C (bls fun m => ldF f x k m || (x.brings.take j).any fun n => decide (max ((k : Int) - x.sl.settle) 0 + n = (m : Int)))) (fun j => x.brings.length - j) 0 ⟨Nat.zero_le _, by simpa using hE, hW, hlC, by simpa using hRC⟩ (fun j a ws hI => ?_)
   clear hE hRC hlC hW c0 d12 hbr
   obtain ⟨hj, hE, hW, hlC, hRC⟩ := hI
   have hbs := hbw1.trans (hW.mono hbw1.size)
   by_cases hjl : j < x.brings.length
   ·have hjlI : (j : Int) < x.brings.length := by omega
    have hB9 := HB.out
    obtain ⟨b0, o0, hGe, hb0, e0⟩ := (hM1.below hW).2.int hjl
    obtain ⟨⟨hn0, hn1⟩, hn2⟩ := HK.out _ (List.getElem_mem hjl)
    have HT : Hid (∀ m : Nat, ((x.brings.take (j + 1)).any fun n => decide (max ((k : Int) - x.sl.settle) 0 + n = (m : Int))) = (((x.brings.take j).any fun n => decide (max ((k : Int) - x.sl.settle) 0 + n = (m : Int))) || decide (max ((k : Int) - x.sl.settle) 0 + x.brings[j] = (m : Int)))) := hid fun m => any_take _ hjl
    have HLo := hid (fun (W : World) => load_any S scap G gcap x k x.brings[j] W ⟨by omega, by omega⟩ ⟨hn0, hn1⟩ HS.out)
    obtain ⟨n, hne⟩ : ∃ n, x.brings[j] = n := ⟨_, rfl⟩
    rw [hne] at e0 HT HLo hn0 hn1 hn2
    clear hne
    obtain ⟨i, hi⟩ : ∃ i : Nat, max ((k : Int) - x.sl.settle) 0 + n = (i : Int) := ⟨(max ((k : Int) - x.sl.settle) 0 + n).toNat, by omega⟩
    rw [hi] at hn2 HT HLo
    have hi2 : i < 2000 := by omega
    clear hi
    rw [hGe] at HLo
    have hBs := hCB.below hW
    refine Ks ?_
    refine Rs 1 fun Q' K hK => ?_
    refine M2 hE 19 18 fun K' J ρ q19 q18 => ?_; go_simp; (try go_bits)
    refine Ln hE J fun _ Eb => ?_; clear J K' hE a q19 q18
    replace Eb := Eb.turn 20 (v' := .bool true) rfl (by (first | (simp; done) | (simp; omega)))
    refine Ld [2, 3, 4, 5, 6, 9, 17, 18, 19, 20] Eb hK fun a hE => ?_; clear hK K Q' Eb
    refine Ks ?_
    refine cond_yes hE (t := 20) rfl ?_
    refine Ks ?_
    refine Rs 3 fun Q' K hK => ?_
    refine M2 hE 17 19 fun K' J ρ q17 q19 => ?_; go_simp; (try go_bits)
    refine Ln hE J fun _ Eb => ?_; clear J K' hE a q17 q19
    refine M1 Eb 21 fun K' J ρ q21 => ?_; go_simp
    refine Ln Eb J fun _ Ea => ?_; clear J K' Eb q21
    refine M1 Ea 22 fun K' J ρ q22 => ?_; go_simp
    refine Ln Ea J fun _ Eb => ?_; clear J K' Ea q22
    refine Ld [2, 3, 4, 5, 6, 8, 9, 17, 18, 19] Eb hK fun a hE => ?_; clear hK K Q' Eb
    refine Ks ?_
    refine Rs 6 fun Q' K hK => ?_
    refine Lp fun K' J => ?_
    have r2 := hE.at 2 rfl
    refine wp_load_mid 113 (.tmp 2) rfl B 0 (eval_of r2) (hpV S scap G gcap x) _ (fun j u hu => by rw [Nat.zero_add]; exact hBs.2 j u hu) Tryd.underlying113 rfl (by kernel_rfl) ?_
    (try clear r2)
    refine Ln hE J fun _ Eb => ?_; clear J K' hE a
    refine M1 Eb 6 fun K' J ρ q6 => ?_; go_simp
    refine Ln Eb J fun _ Ea => ?_; clear J K' Eb q6
    refine M1 Ea 8 fun K' J ρ q8 => ?_; go_simp
    refine Ln Ea J fun _ Eb => ?_; clear J K' Ea q8
    refine M3 Eb 23 24 25 fun K' J ρ q23 q24 q25 => ?_; go_simp; (try go_bits); (try clear q23 q24 q25)
    go_at_call 123; refine (HLo.out _).mono ?_; rintro e w5 ⟨rfl, h5⟩
    have hRC5 := hRC.below h5 hlC
    have hlC5 := Nat.lt_of_lt_of_le hlC h5.size
    have hW5 := hW.trans (h5.mono hW.size)
    have hwi := (hRC5 i _ (bls_at _ hi2)).2
    (try clear r23 r24 r25)
    refine Ln Eb J fun _ Ea => ?_; clear J K' Eb
    refine M2 Ea 5 26 fun K' J ρ q5 q26 => ?_; go_simp; (try go_bits)
    refine Ln Ea J fun _ Eb => ?_; clear J K' Ea q5 q26
    refine M1 Eb 27 fun K' J ρ q27 => ?_; go_simp; (try clear q27)
    refine late_skip Eb J (fun _ Ea => ?_); clear J K'; clear Eb
    refine Ld [2, 3, 4, 5, 6, 9, 17, 18, 19] Ea hK fun a hE => ?_; clear hK K Q' Ea
    refine world_cut (fun wt => Below w1.heap.size w1 wt ∧ C < wt.heap.size ∧ Row wt C (bls fun m => ldF f x k m || (x.brings.take (j + 1)).any fun n => decide (max ((k : Int) - x.sl.settle) 0 + n = (m : Int)))) ?_ (fun w6 hC => ?_)
    ·refine ⟨hW5.setCell hnC _, by simpa using hlC5, ?_⟩
     have h := hRC5.set (o := i) (v := .bool true) (by rw [bls_length]; exact hi2)
     rw [bls_set] at h
     rw [bls_congr (g := fun m => if m = i then true else ldF f x k m || (x.brings.take j).any fun n => decide (max ((k : Int) - x.sl.settle) 0 + n = (m : Int))) fun m _ => by rw [HT.out m]; exact or_at _ _ m i]
     exact h
    obtain ⟨hW6, hlC6, hRC6⟩ := hC
    refine Ks ?_
    refine Rs 2 fun Q' K hK => ?_
    refine M1 hE 19 fun K' J ρ q19 => ?_; go_simp; (try go_bits); (try simp (disch := omega) only [IntWalk.i64_in])
    refine Ln hE J fun _ Eb => ?_; clear J K' hE a q19
    refine M1 Eb 28 fun K' J ρ q28 => ?_; go_simp
    refine Ln Eb J fun _ Ea => ?_; clear J K' Eb q28
    refine Ld [2, 3, 4, 5, 6, 9, 17, 18, 19] Ea hK fun a hE => ?_; clear hK K Q' Ea
    refine Ks ?_
    exact ⟨j + 1, ⟨hjl, by simpa using hE, hW6, hlC6, hRC6⟩, by omega⟩
   ·have hje : j = x.brings.length := by omega
    subst hje
    rw [List.take_length] at hRC
    refine Ks ?_
    refine Rs 1 fun Q' K hK => ?_
    refine M2 hE 19 18 fun K' J ρ q19 q18 => ?_; go_simp; (try go_bits)
    refine Ln hE J fun _ Eb => ?_; clear J K' hE a q19 q18
    replace Eb := Eb.turn 20 (v' := .bool false) rfl (by simp)
    refine Ld [2, 3, 4, 5, 6, 9, 17, 18, 19, 20] Eb hK fun a hE => ?_; clear hK K Q' Eb
    refine Ks ?_
    refine cond_no hE (t := 20) rfl ?_
    refine Ks ?_
    refine Rs 2 fun Q' K hK => ?_
    refine M1 hE 9 fun K' J ρ q9 => ?_; go_simp; (try go_bits); (try simp (disch := omega) only [IntWalk.i64_in])
    refine Ln hE J fun _ Eb => ?_; clear J K' hE a q9
    refine M1 Eb 29 fun K' J ρ q29 => ?_; go_simp
    refine Ln Eb J fun _ Ea => ?_; clear J K' Eb q29
    refine Ld [2, 3, 4, 5, 9] Ea hK fun a hE => ?_; clear hK K Q' Ea
    refine Ks ?_
    exact ⟨k + 1, ⟨hlt, by simpa using hE, hW, hlC, by rw [bls_congr fun i _ => HV.out i]; exact hRC⟩, by omega⟩
 ·have hke : k = 2000 := by omega
  subst hke
  obtain ⟨hlR, zs, hzs, hRR⟩ := hRD.below hW
  refine Ks ?_
  refine Rs 1 fun Q' K hK => ?_
  refine M1 hE 9 fun K' J ρ q9 => ?_; go_simp; (try go_bits)
  refine Ln hE J fun _ Eb => ?_; clear J K' hE a q9
  replace Eb := Eb.turn 10 (v' := .bool false) rfl (by simp)
  refine Ld [2, 3, 4, 5, 9, 10] Eb hK fun a hE => ?_; clear hK K Q' Eb
  refine Ks ?_
  refine cond_no hE (t := 10) rfl ?_
  refine Ks ?_
  refine Rs 2 fun Q' K hK => ?_
  refine Lp fun K' J => ?_
  have r5 := hE.at 5 rfl
  refine wp_load_mid 123 (.tmp 5) rfl C 0 (eval_of r5) (bls (ldF f x 2000)) _ (fun j u hu => by rw [Nat.zero_add]; exact (hRC j u hu).1) Tryd.underlying123 rfl (by rw [bls_length]; kernel_rfl) ?_
  (try clear r5)
  refine Ln hE J fun _ Eb => ?_; clear J K' hE a
  refine Lp fun K' J => ?_
  have r4 := Eb.at 4 rfl; have r30 := Eb.at 30 rfl
  refine wp_store_mid 123 (.tmp 4) (.tmp 30) rfl R 0 (bls (ldF f x 2000)).toArray (eval_of r4) (eval_of r30) (there_row hRR (by rw [hzs, List.size_toArray, bls_length]; exact Nat.le_refl _)) (by rw [List.size_toArray, bls_length]; kernel_rfl) (bls_one _) ?_
  (try clear r4 r30)
  refine late_skip Eb J (fun _ Ea => ?_); clear J K'; clear Eb
  refine Ld [4] Ea hK fun a hE => ?_; clear hK K Q' Ea
  refine world_cut (fun wt => Below w.heap.size w wt ∧ Row wt R (bls (ldF f x 2000))) ⟨Lib.below_setCells R hnR _ _ hbr, row_all hRR (by rw [hzs, bls_length])⟩ (fun w9 hC => ?_)
  obtain ⟨hb9, hRR9⟩ := hC
  refine Ks ?_
  exact ret_cell hE rfl rfl (fun j u hu => (hRR9 j u hu).1) Tryd.underlying123 rfl (by rw [bls_length]; kernel_rfl) ⟨rfl, hb9⟩
end
end Go.Proofs.YtkhmcofmjjmjhaaDoor
