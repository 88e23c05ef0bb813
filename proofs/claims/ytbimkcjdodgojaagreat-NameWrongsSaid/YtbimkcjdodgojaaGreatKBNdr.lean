/- Name: the reference's Wrong. -/
import Derived.Test.YtbimkcjdodgojaaGreatKBNdq

namespace Go.Proofs.YtbimkcjdodgojaaGreat
set_option linter.unusedSimpArgs false
set_option linter.unusedVariables false
open Go Go.RowKit
attribute [local go_sem high] cell_set_wr
attribute [local go_sem low] cell_wr frozen_wr
attribute [local go_sem] wr_set wr_drew wr_drewN wr_alloc wr_new Rho.c Rho.n Rho.g
theorem ok_with {b : Bk} (h : b.ok = true) (out : List Nat) : (b.without out).ok = true := by
 unfold Bk.ok headB at h ⊢
 simp only [Bool.and_eq_true, decide_eq_true_eq, Bool.not_eq_true', decide_eq_false_iff_not, List.all_eq_true] at h ⊢
 obtain ⟨h1, ⟨⟨h2, h3⟩, h4⟩, h5⟩ := h
 have hl := dropK_len b.lines out b.lines.length
 refine ⟨h1, ⟨⟨?_, h3⟩, h4⟩, fun x hx => h5 x (dropK_mem (Nat.le_refl _) hx)⟩
 show ¬ (9 : Int) < (dropK b.lines out b.lines.length).length
 omega
theorem onesN_le (s n : Nat) : (onesN s n).length ≤ n := by
 unfold onesN
 exact Nat.le_trans (List.length_filter_le _ _) (by simp)
theorem wrap_pow9 (n : Nat) (h : n ≤ 9) : wrap64 (2 ^ n) = ((2 ^ n : Nat) : Int) := by
 have h9 : n = 0 ∨ n = 1 ∨ n = 2 ∨ n = 3 ∨ n = 4 ∨ n = 5 ∨ n = 6 ∨ n = 7 ∨ n = 8 ∨ n = 9 := by omega
 rcases h9 with e | e | e | e | e | e | e | e | e | e <;> subst e <;> simp [wrap64]
theorem wrap_pow1 (n : Nat) (h : n ≤ 9) : wrap64 (wrap64 (2 ^ n) - 1) = ((2 ^ n - 1 : Nat) : Int) := by
 have h9 : n = 0 ∨ n = 1 ∨ n = 2 ∨ n = 3 ∨ n = 4 ∨ n = 5 ∨ n = 6 ∨ n = 7 ∨ n = 8 ∨ n = 9 := by omega
 rcases h9 with e | e | e | e | e | e | e | e | e | e <;> subst e <;> simp [wrap64]
theorem onesN_full (n : Nat) (h : n ≤ 9) : onesN (2 ^ n - 1) n = List.range n := by
 have h9 : n = 0 ∨ n = 1 ∨ n = 2 ∨ n = 3 ∨ n = 4 ∨ n = 5 ∨ n = 6 ∨ n = 7 ∨ n = 8 ∨ n = 9 := by omega
 rcases h9 with e | e | e | e | e | e | e | e | e | e <;> subst e <;> decide +kernel
theorem bestR_len (b : Bk) : ∀ s, (bestR b s).length ≤ b.lines.length
 | 0 => by simp [bestR]
 | s + 1 => by
  unfold bestR
  split
  ·exact onesN_le _ _
  ·exact bestR_len b s
section
variable (A : Option Addr) (cap : Nat) (L : Option Addr) (lcap : Nat) (b : Bk)
set_option maxRecDepth 100000 in
set_option maxHeartbeats 4000000 in
theorem rWrong_full (w : World) (hM : BkAt w A L b) (hs : b.small cap lcap) (hz : ∀ i (h : i < b.ear.alike.length), b.ear.alike[i].size ≤ 9223372036854775807) : Calls Tryz.prog 23 #[.agg (bkV A cap L lcap b).toArray] w fun e w' => (∃ T c, e = .returned (.tuple #[.slice T (pWrongL b).length c, .int .i64 (bkE b)]) ∧ Arr w' w'.heap.size T (nats (pWrongL b))) ∧ Below w.heap.size w w' := by
 have C1 := hid fun W hW => rCheck_any A cap L lcap b W hW hs hz
 cases ho : b.ok
 ·have e0 : bkE b = 20 := by unfold bkE; rw [ho]; rfl
  have e1 : pWrongL b = [] := by unfold pWrongL; rw [ho]; rfl
  rw [e0] at C1 ⊢
  rw [e1]
  clear e0 e1 ho
  simp only [bkV] at C1 ⊢
  refine enterE Tryz.func23 rfl Tryz.ntmps23 (by simp) (fun a hE => ?_); simp only [envOf, Nat.zero_add, Nat.reduceAdd] at hE
  refine Ks ?_
  refine Rs 3 fun Q' K hK => ?_
  refine M1 hE 0 fun K' J ρ q0 => ?_; go_simp
  refine Ln hE J fun _ Eb => ?_; clear J K' hE a q0
  refine M0 fun K' J ρ => ?_; go_simp;
  refine Ln Eb J fun _ Ea => ?_; clear J K' Eb
  refine M0 fun K' J ρ => ?_; go_simp;
  refine Ln Ea J fun _ Eb => ?_; clear J K' Ea
  refine Ld [1] Eb hK fun a hE => ?_; clear hK K Q' Eb
  obtain ⟨B, hBe⟩ : ∃ B, B = w.heap.size := ⟨_, rfl⟩; rw [← hBe] at hE; refine world_cut (fun wt => Below w.heap.size w wt ∧ Cells wt B (bkV A cap L lcap b)) ⟨(Below.refl _ _).alloc (Nat.le_refl _) _, by rw [hBe]; exact cells_new _ _ _⟩ (fun w1 hCut => ?_); obtain ⟨hbw1, hCB⟩ := hCut; clear hBe
  simp only [bkV] at hCB
  replace hM := hM.below hbw1
  obtain ⟨nB, cB0, cB1, cB2, cB3, cB4, cB5, cB6⟩ := hCB.c7
  refine Ks ?_
  refine Rs 3 fun Q' K hK => ?_
  refine M1 hE 1 fun K' J ρ q1 => ?_; go_simp
  refine Ln hE J fun _ Eb => ?_; clear J K' hE a q1
  refine M1 Eb 9 fun K' J ρ q9 => ?_; go_simp; (try go_bits); (try clear q9)
  go_at_call 9; refine (C1.out _ hM).mono ?_; rintro e w2 ⟨rfl, h2⟩; have hbw2 := hbw1.trans (h2.mono hbw1.size); replace hCB := hCB.below h2; clear nB cB0 cB1 cB2 cB3 cB4 cB5 cB6; obtain ⟨nB, cB0, cB1, cB2, cB3, cB4, cB5, cB6⟩ := hCB.c7; replace hM := hM.below h2
  (try clear r9)
  refine Ln Eb J fun _ Ea => ?_; clear J K' Eb
  refine M1 Ea 10 fun K' J ρ q10 => ?_; go_simp
  refine Ln Ea J fun _ Eb => ?_; clear J K' Ea q10
  refine Ld [1, 4] Eb hK fun a hE => ?_; clear hK K Q' Eb
  refine Ks ?_
  refine Rs 2 fun Q' K hK => ?_
  refine M1 hE 4 fun K' J ρ q4 => ?_; go_simp
  refine Ln hE J fun _ Eb => ?_; clear J K' hE a q4
  refine M1 Eb 11 fun K' J ρ q11 => ?_; go_simp; (try go_bits)
  refine Ln Eb J fun _ Ea => ?_; clear J K' Eb q11
  replace Ea := Ea.turn 12 (v' := .bool true) rfl (by (first | rfl | simp))
  refine Ld [1, 4, 12] Ea hK fun a hE => ?_; clear hK K Q' Ea
  refine Ks ?_
  refine cond_yes hE (t := 12) rfl ?_
  refine Ks ?_
  refine Rs 3 fun Q' K hK => ?_
  refine M1 hE 4 fun K' J ρ q4 => ?_; go_simp
  refine Ln hE J fun _ Eb => ?_; clear J K' hE a q4
  refine M0 fun K' J ρ => ?_; go_simp;
  refine Ln Eb J fun _ Ea => ?_; clear J K' Eb
  refine M1 Ea 13 fun K' J ρ q13 => ?_; go_simp
  refine Ln Ea J fun _ Eb => ?_; clear J K' Ea q13
  refine Ld [2, 3] Eb hK fun a hE => ?_; clear hK K Q' Eb
  refine Ks ?_
  exact ret_two hE rfl rfl rfl ⟨⟨none, 0, rfl, fun hx => absurd rfl hx⟩, hbw2⟩
 ·have h9 := ok_nine ho
  have hlost := (ok_lost ho).1
  have e0 : bkE b = 0 := by unfold bkE; rw [ho]; rfl
  have HF : Hid (pWrongL b = bestR b (2 ^ b.lines.length)) := hid (by unfold pWrongL; rw [ho, best_done hlost]; rfl)
  rw [e0] at C1
  have hp512 : 2 ^ b.lines.length ≤ 512 := by
   have := Nat.pow_le_pow_right (n := 2) (by decide) h9
   simpa using this
  have hp0 : 0 < 2 ^ b.lines.length := Nat.pow_pos (by decide)
  have HW := hid (wrap_pow9 b.lines.length h9)
  have HMN : Hid (min b.lines.length 64 = b.lines.length) := hid (by omega)
  have CO : Hid (∀ (s : Nat) (W : World), s ≤ 512 → Calls Tryz.prog 59 #[.int .i64 s, .int .i64 b.lines.length] W fun e w' => (∃ O oc, e = .returned (.slice O (onesN s b.lines.length).length oc) ∧ ArrD w' O (nats (onesN s b.lines.length))) ∧ Below W.heap.size W w') := hid fun s W hs => by
   have h := ones_any s b.lines.length W (by omega) (by omega)
   rw [ones_map, List.length_map, ← nats_ints] at h
   exact h.mono (by
    rintro e w' ⟨O, oc, rfl, _, h1, h2⟩
    exact ⟨⟨O, oc, rfl, h1⟩, h2⟩)
  have CL : Hid (∀ (u v : List Nat) O oc T c W, u.length ≤ 9 → v.length ≤ 9 → ArrD W O (nats u) → ArrD W T (nats v) → Calls Tryz.prog 60 #[.slice O u.length oc, .slice T v.length c] W fun e w' => e = .returned (.bool (lessN u v)) ∧ Below W.heap.size W w') := hid fun u v O oc T c W hu hv hO hT => by
   have h := less_any O T oc c (u.map fun (i : Nat) => (i : Int)) (v.map fun (i : Nat) => (i : Int)) W (by rw [← nats_ints]; exact hO) (by rw [← nats_ints]; exact hT) (by rw [List.length_map]; omega) (by rw [List.length_map]; omega)
   rw [List.length_map, List.length_map, lessN_int] at h
   exact h
  have CW : Hid (∀ (s : Nat) (W : World), s ≤ 512 → BkAt W A L b → Calls Tryz.prog 61 #[.agg (bkV A cap L lcap b).toArray, .int .i64 s] W fun e w' => (∃ A' cap', e = .returned (.agg (bkV A cap A' cap' (b.without (onesN s b.lines.length))).toArray) ∧ (b.without (onesN s b.lines.length)).small cap cap' ∧ BkAt w' A A' (b.without (onesN s b.lines.length))) ∧ Below W.heap.size W w') := hid fun s W hs512 hW => rwithout_any A cap L lcap b s W hW hs h9 (by omega)
  have CA : Hid (∀ (s : Nat) A' cap' (W : World), (b.without (onesN s b.lines.length)).small cap cap' → BkAt W A A' (b.without (onesN s b.lines.length)) → Calls Tryz.prog 42 #[.agg (bkV A cap A' cap' (b.without (onesN s b.lines.length))).toArray] W fun e w' => (∃ O c, e = .returned (.slice O (b.without (onesN s b.lines.length)).ts.length c)) ∧ Below W.heap.size W w') := hid fun s A' cap' W hsm hW => (rAll_len A cap A' cap' (b.without (onesN s b.lines.length)) hsm hz).out (ok_with ho _) W hW
  have CO0 := hid (fun W => CO.out (2 ^ b.lines.length - 1) W (by omega))
  rw [onesN_full b.lines.length h9] at CO0
  have HV1 := hid (wrap_pow1 b.lines.length h9)
  clear ho hz hlost
  rw [e0]
  clear e0
  simp only [bkV] at C1 CW CA ⊢
  refine enterE Tryz.func23 rfl Tryz.ntmps23 (by simp) (fun a hE => ?_); simp only [envOf, Nat.zero_add, Nat.reduceAdd] at hE
  refine Ks ?_
  refine Rs 3 fun Q' K hK => ?_
  refine M1 hE 0 fun K' J ρ q0 => ?_; go_simp
  refine Ln hE J fun _ Eb => ?_; clear J K' hE a q0
  refine M0 fun K' J ρ => ?_; go_simp;
  refine Ln Eb J fun _ Ea => ?_; clear J K' Eb
  refine M0 fun K' J ρ => ?_; go_simp;
  refine Ln Ea J fun _ Eb => ?_; clear J K' Ea
  refine Ld [1] Eb hK fun a hE => ?_; clear hK K Q' Eb
  obtain ⟨B, hBe⟩ : ∃ B, B = w.heap.size := ⟨_, rfl⟩; rw [← hBe] at hE; refine world_cut (fun wt => Below w.heap.size w wt ∧ Cells wt B (bkV A cap L lcap b)) ⟨(Below.refl _ _).alloc (Nat.le_refl _) _, by rw [hBe]; exact cells_new _ _ _⟩ (fun w1 hCut => ?_); obtain ⟨hbw1, hCB⟩ := hCut; clear hBe
  simp only [bkV] at hCB
  replace hM := hM.below hbw1
  obtain ⟨nB, cB0, cB1, cB2, cB3, cB4, cB5, cB6⟩ := hCB.c7
  refine Ks ?_
  refine Rs 3 fun Q' K hK => ?_
  refine M1 hE 1 fun K' J ρ q1 => ?_; go_simp
  refine Ln hE J fun _ Eb => ?_; clear J K' hE a q1
  refine M1 Eb 9 fun K' J ρ q9 => ?_; go_simp; (try go_bits); (try clear q9)
  go_at_call 9; refine (C1.out _ hM).mono ?_; rintro e w2 ⟨rfl, h2⟩; have hbw2 := hbw1.trans (h2.mono hbw1.size); replace hCB := hCB.below h2; clear nB cB0 cB1 cB2 cB3 cB4 cB5 cB6; obtain ⟨nB, cB0, cB1, cB2, cB3, cB4, cB5, cB6⟩ := hCB.c7; replace hM := hM.below h2
  (try clear r9)
  refine Ln Eb J fun _ Ea => ?_; clear J K' Eb
  refine M1 Ea 10 fun K' J ρ q10 => ?_; go_simp
  refine Ln Ea J fun _ Eb => ?_; clear J K' Ea q10
  refine Ld [1, 4] Eb hK fun a hE => ?_; clear hK K Q' Eb
  refine Ks ?_
  refine Rs 2 fun Q' K hK => ?_
  refine M1 hE 4 fun K' J ρ q4 => ?_; go_simp
  refine Ln hE J fun _ Eb => ?_; clear J K' hE a q4
  refine M1 Eb 11 fun K' J ρ q11 => ?_; go_simp; (try go_bits)
  refine Ln Eb J fun _ Ea => ?_; clear J K' Eb q11
  replace Ea := Ea.turn 12 (v' := .bool false) rfl (by (first | rfl | simp))
  refine Ld [1, 4, 12] Ea hK fun a hE => ?_; clear hK K Q' Ea
  refine Ks ?_
  refine cond_no hE (t := 12) rfl ?_
  refine Ks ?_
  refine Rs 4 fun Q' K hK => ?_
  refine M1 hE 1 fun K' J ρ q1 => ?_; go_simp
  refine Ln hE J fun _ Eb => ?_; clear J K' hE a q1
  refine M1 Eb 14 fun K' J ρ q14 => ?_; go_simp
  refine Ln Eb J fun _ Ea => ?_; clear J K' Eb q14
  refine M1 Ea 15 fun K' J ρ q15 => ?_; go_simp; (try go_bits)
  refine Ln Ea J fun _ Eb => ?_; clear J K' Ea q15
  refine M1 Eb 16 fun K' J ρ q16 => ?_; go_simp
  refine Ln Eb J fun _ Ea => ?_; clear J K' Eb q16
  refine Ld [1, 5] Ea hK fun a hE => ?_; clear hK K Q' Ea
  have hT0 : True := trivial
  refine Ks ?_
  refine Rs 6 fun Q' K hK => ?_
  refine M1 hE 5 fun K' J ρ q5 => ?_; go_simp
  refine Ln hE J fun _ Eb => ?_; clear J K' hE a q5
  refine M1 Eb 17 fun K' J ρ q17 => ?_; go_simp; (try go_bits); (try simp (disch := omega) only [IntWalk.i64_in])
  refine Ln Eb J fun _ Ea => ?_; clear J K' Eb q17
  refine M1 Ea 18 fun K' J ρ q18 => ?_; go_simp; (try go_bits); (try simp (disch := omega) only [IntWalk.i64_in])
  refine Ln Ea J fun _ Eb => ?_; clear J K' Ea q18
  refine M1 Eb 5 fun K' J ρ q5 => ?_; go_simp
  refine Ln Eb J fun _ Ea => ?_; clear J K' Eb q5
  refine M2 Ea 19 20 fun K' J ρ q19 q20 => ?_; go_simp; (try go_bits); (try clear q19 q20)
  go_at_call 59; rw [HV1.out]; refine (CO0.out _).mono ?_; rintro e w3 ⟨⟨T0, c0, rfl, hT0⟩, h3⟩
  (try clear r19 r20)
  refine Ln Ea J fun _ Eb => ?_; clear J K' Ea
  refine M1 Eb 21 fun K' J ρ q21 => ?_; go_simp
  refine Ln Eb J fun _ Ea => ?_; clear J K' Eb q21
  refine Ld [1, 5, 6] Ea hK fun a hE => ?_; clear hK K Q' Ea
  have hbw3 := hbw2.trans (h3.mono hbw2.size)
  replace hCB := hCB.below h3
  clear nB cB0 cB1 cB2 cB3 cB4 cB5 cB6
  obtain ⟨nB, cB0, cB1, cB2, cB3, cB4, cB5, cB6⟩ := hCB.c7
  replace hM := hM.below h3
  refine Ks ?_
  refine Rs 1 fun Q' K hK => ?_
  refine M0 fun K' J ρ => ?_; go_simp;
  refine Ln hE J fun _ Eb => ?_; clear J K' hE a
  refine Ld [1, 5, 6, 7] Eb hK fun a hE => ?_; clear hK K Q' Eb
  refine Ks ?_
  refine loop_st (fun (s : Nat) a w' => s ≤ 2 ^ b.lines.length ∧ ∃ T c, Fits 58 [(1, .pointer (some ⟨B, 0, none⟩)), (5, .int .i64 b.lines.length), (6, .slice T (bestR b s).length c), (7, .int .i64 s)] a ∧ Below w3.heap.size w3 w' ∧ ArrD w' T (nats (bestR b s))) (fun s => 2 ^ b.lines.length - s) 0 ⟨Nat.zero_le _, T0, c0, by simpa [bestR] using hE, Below.refl _ _, by simpa [bestR] using hT0⟩ (fun s a wr hI => ?_)
  clear hE hT0
  obtain ⟨hs2, T, c, hE, hW, hT⟩ := hI
  have hbr := hbw3.trans (hW.mono hbw3.size)
  have hMr := hM.below hW
  replace hCB := hCB.below hW
  clear nB cB0 cB1 cB2 cB3 cB4 cB5 cB6 hM
  obtain ⟨nB, cB0, cB1, cB2, cB3, cB4, cB5, cB6⟩ := hCB.c7
  by_cases hlt : s < 2 ^ b.lines.length
  ·have CO1 := hid (fun W => CO.out s W (by omega))
   have CW1 := hid (fun W hW => CW.out s W (by omega) hW)
   have CA1 := hid (fun A' cap' W h1 h2 => CA.out s A' cap' W h1 h2)
   have hu9 := onesN_le s b.lines.length
   have hv9 := bestR_len b s
   have HB : Hid (∀ f r, foreN (onesN s b.lines.length) (bestR b s) = f → rightP b (onesN s b.lines.length) = r → bestR b (s + 1) = if f = true ∧ r = true then onesN s b.lines.length else bestR b s) := hid fun f r h1 h2 => by
    subst h1 h2
    rfl
   have HRt : Hid (rightP b (onesN s b.lines.length) = decide (0 < (b.without (onesN s b.lines.length)).ts.length)) := hid (by
    rw [right_ts]
    cases (b.without (onesN s b.lines.length)).ts with
    | nil => rfl
    | cons x l => simp)
   obtain ⟨out, hout⟩ : ∃ out, onesN s b.lines.length = out := ⟨_, rfl⟩
   obtain ⟨best, hbest⟩ : ∃ x, bestR b s = x := ⟨_, rfl⟩
   rw [hout] at CO1 CW1 CA1 hu9 HB HRt
   rw [hbest] at hE hT hv9 HB
   clear hout hbest
   have CL1 := hid (fun O oc W hO hT' => CL.out out best O oc T c W (by omega) (by omega) hO hT')
   have HFo : Hid (foreN out best = (decide (out.length < best.length) || (decide (out.length = best.length) && lessN out best))) := hid rfl
   obtain ⟨q, hq⟩ : ∃ q, lessN out best = q := ⟨_, rfl⟩
   rw [hq] at CL1 HFo
   clear hq
   obtain ⟨m, hm⟩ : ∃ m, (b.without out).ts.length = m := ⟨_, rfl⟩
   simp only [hm] at CA1 HRt
   clear hm
   refine Ks ?_
   refine Rs 4 fun Q' K hK => ?_
   refine M1 hE 7 fun K' J ρ q7 => ?_; go_simp
   refine Ln hE J fun _ Eb => ?_; clear J K' hE a q7
   refine M1 Eb 5 fun K' J ρ q5 => ?_; go_simp
   refine Ln Eb J fun _ Ea => ?_; clear J K' Eb q5
   refine M1 Ea 23 fun K' J ρ q23 => ?_; go_simp; (try go_bits); (try simp (disch := omega) only [IntWalk.i64_in])
   refine Ln Ea J fun _ Eb => ?_; clear J K' Ea q23
   refine M2 Eb 22 24 fun K' J ρ q22 q24 => ?_; go_simp; (try go_bits)
   refine Ln Eb J fun _ Ea => ?_; clear J K' Eb q22 q24
   replace Ea := Ea.turn 25 (v' := .bool true) rfl (by (rw [HW.out]; exact congrArg Value.bool (decide_eq_true (by omega))))
   refine Ld [1, 5, 6, 7, 25] Ea hK fun a hE => ?_; clear hK K Q' Ea
   refine Ks ?_
   refine cond_yes hE (t := 25) rfl ?_
   refine Ks ?_
   refine Rs 4 fun Q' K hK => ?_
   refine M1 hE 7 fun K' J ρ q7 => ?_; go_simp
   refine Ln hE J fun _ Eb => ?_; clear J K' hE a q7
   refine M1 Eb 5 fun K' J ρ q5 => ?_; go_simp
   refine Ln Eb J fun _ Ea => ?_; clear J K' Eb q5
   refine M2 Ea 28 29 fun K' J ρ q28 q29 => ?_; go_simp; (try go_bits); (try clear q28 q29)
   go_at_call 59; refine (CO1.out _).mono ?_; rintro e w4 ⟨⟨O, oc, rfl, hO⟩, h4⟩
   (try clear r28 r29)
   refine Ln Ea J fun _ Eb => ?_; clear J K' Ea
   refine M1 Eb 30 fun K' J ρ q30 => ?_; go_simp
   refine Ln Eb J fun _ Ea => ?_; clear J K' Eb q30
   refine Ld [1, 5, 6, 7, 8] Ea hK fun a hE => ?_; clear hK K Q' Ea
   have hT4 := hT.below h4
   have hM4 := hMr.below h4
   have hW4 := hW.trans (h4.mono hW.size)
   have hbw4 := hbr.trans (h4.mono hbr.size)
   replace hCB := hCB.below h4
   clear nB cB0 cB1 cB2 cB3 cB4 cB5 cB6
   obtain ⟨nB, cB0, cB1, cB2, cB3, cB4, cB5, cB6⟩ := hCB.c7
   by_cases h1 : out.length < best.length
   ·have HFt : Hid (foreN out best = true) := hid (by rw [HFo.out, decide_eq_true h1]; rfl)
    have HI : (out.length : Int) < best.length := by omega
    clear h1
    refine Ks ?_
    refine Rs 25 fun Q' K hK => ?_
    refine M1 hE 8 fun K' J ρ q8 => ?_; go_simp
    refine Ln hE J fun _ Eb => ?_; clear J K' hE a q8
    refine M1 Eb 31 fun K' J ρ q31 => ?_; go_simp; (try go_bits)
    refine Ln Eb J fun _ Ea => ?_; clear J K' Eb q31
    refine M1 Ea 6 fun K' J ρ q6 => ?_; go_simp
    refine Ln Ea J fun _ Eb => ?_; clear J K' Ea q6
    refine M1 Eb 33 fun K' J ρ q33 => ?_; go_simp; (try go_bits)
    refine Ln Eb J fun _ Ea => ?_; clear J K' Eb q33
    refine M2 Ea 32 34 fun K' J ρ q32 q34 => ?_; go_simp; (try go_bits)
    refine Ln Ea J fun _ Eb => ?_; clear J K' Ea q32 q34
    replace Eb := Eb.turn 35 (v' := .bool true) rfl (by (first | (simp; done) | (simp; omega)))
    refine M1 Eb 35 fun K' J ρ q35 => ?_; go_simp
    refine Ln Eb J fun _ Ea => ?_; clear J K' Eb q35
    refine Lno Ea 36 ?_
    refine Lu Ea fun _ Eb => ?_
    refine Lno Eb 36 ?_
    refine Lu Eb fun _ Ea => ?_
    refine Lno Ea 36 ?_
    refine Lu Ea fun _ Eb => ?_
    refine Lno Eb 36 ?_
    refine Lu Eb fun _ Ea => ?_
    refine Lno Ea 36 ?_
    refine Lu Ea fun _ Eb => ?_
    refine Lno Eb 36 ?_
    refine Lu Eb fun _ Ea => ?_
    refine Lun Ea 42 ?_
    refine Lu Ea fun _ Eb => ?_
    refine Lun Eb 42 ?_
    refine Lu Eb fun _ Ea => ?_
    refine Lun Ea 42 ?_
    refine Lu Ea fun _ Eb => ?_
    refine Lno Eb 36 ?_
    refine Lu Eb fun _ Ea => ?_
    refine M2 Ea 36 46 fun K' J ρ q36 q46 => ?_; go_simp; (try go_bits)
    refine Ln Ea J fun _ Eb => ?_; clear J K' Ea q36 q46
    refine M1 Eb 47 fun K' J ρ q47 => ?_; go_simp
    refine Ln Eb J fun _ Ea => ?_; clear J K' Eb q47
    refine N1 Ea 48 1 fun K' J ρ q1 => ?_; go_simp
    refine Ln Ea J fun _ Eb => ?_; clear J K' Ea q1
    refine N1 Eb 48 7 fun K' J ρ q7 => ?_; go_simp
    refine Ln Eb J fun _ Ea => ?_; clear J K' Eb q7
    refine N2 Ea 48 49 50 fun K' J ρ q49 q50 => ?_; go_simp; (try go_bits); (try clear q49 q50)
    go_at_call 61; refine (CW1.out _ hM4).mono ?_; rintro e w5 ⟨⟨A', c', rfl, hsm, hMx⟩, h5⟩
    (try clear r49 r50)
    refine Ln Ea J fun _ Eb => ?_; clear J K' Ea
    refine N1 Eb 48 51 fun K' J ρ q51 => ?_; go_simp; (try go_bits); (try clear q51)
    go_at_call 42; refine (CA1.out _ _ _ hsm hMx).mono ?_; rintro e w6 ⟨⟨O2, oc2, rfl⟩, h6⟩
    (try clear r51)
    refine Ln Eb J fun _ Ea => ?_; clear J K' Eb
    refine N1 Ea 48 52 fun K' J ρ q52 => ?_; go_simp; (try go_bits)
    refine Ln Ea J fun _ Eb => ?_; clear J K' Ea q52
    refine N1 Eb 48 53 fun K' J ρ q53 => ?_; go_simp; (try go_bits)
    refine Ln Eb J fun _ Ea => ?_; clear J K' Eb q53
    refine M2 Ea 48 54 fun K' J ρ q48 q54 => ?_; go_simp; (try go_bits)
    refine Ln Ea J fun _ Eb => ?_; clear J K' Ea q48 q54
    refine Ld [1, 5, 6, 7, 8, 55] Eb hK fun a hE => ?_; clear hK K Q' Eb
    have h56 := h5.trans (h6.mono h5.size)
    have hW6 := hW4.trans (h56.mono hW4.size)
    refine Ks ?_
    refine cond_part hE (t := 55) rfl (fun h => ?_) (fun h => ?_)
    ·have HY : Hid (rightP b out = true) := hid (by rw [HRt.out]; exact h)
     clear h
     refine Ks ?_
     refine Rs 2 fun Q' K hK => ?_
     refine M1 hE 8 fun K' J ρ q8 => ?_; go_simp
     refine Ln hE J fun _ Eb => ?_; clear J K' hE a q8
     refine M1 Eb 56 fun K' J ρ q56 => ?_; go_simp
     refine Ln Eb J fun _ Ea => ?_; clear J K' Eb q56
     refine Ld [1, 5, 6, 7] Ea hK fun a hE => ?_; clear hK K Q' Ea
     refine Ks ?_
     refine Rs 3 fun Q' K hK => ?_
     refine M1 hE 7 fun K' J ρ q7 => ?_; go_simp
     refine Ln hE J fun _ Eb => ?_; clear J K' hE a q7
     refine M1 Eb 26 fun K' J ρ q26 => ?_; go_simp; (try go_bits); (try simp (disch := omega) only [IntWalk.i64_in])
     refine Ln Eb J fun _ Ea => ?_; clear J K' Eb q26
     refine M1 Ea 27 fun K' J ρ q27 => ?_; go_simp
     refine Ln Ea J fun _ Eb => ?_; clear J K' Ea q27
     refine Ld [1, 5, 6, 7] Eb hK fun a hE => ?_; clear hK K Q' Eb
     refine Ks ?_
     exact ⟨s + 1, ⟨by omega, O, oc, by rw [HB.out true true HFt.out HY.out, if_pos ⟨rfl, rfl⟩]; simpa using hE, hW6, by rw [HB.out true true HFt.out HY.out, if_pos ⟨rfl, rfl⟩]; exact hO.below h56⟩, by omega⟩
    ·have HY : Hid (rightP b out = false) := hid (by rw [HRt.out]; exact h)
     clear h
     refine Ks ?_
     refine Rs 3 fun Q' K hK => ?_
     refine M1 hE 7 fun K' J ρ q7 => ?_; go_simp
     refine Ln hE J fun _ Eb => ?_; clear J K' hE a q7
     refine M1 Eb 26 fun K' J ρ q26 => ?_; go_simp; (try go_bits); (try simp (disch := omega) only [IntWalk.i64_in])
     refine Ln Eb J fun _ Ea => ?_; clear J K' Eb q26
     refine M1 Ea 27 fun K' J ρ q27 => ?_; go_simp
     refine Ln Ea J fun _ Eb => ?_; clear J K' Ea q27
     refine Ld [1, 5, 6, 7] Eb hK fun a hE => ?_; clear hK K Q' Eb
     refine Ks ?_
     exact ⟨s + 1, ⟨by omega, T, c, by rw [HB.out true false HFt.out HY.out, if_neg (by simp)]; simpa using hE, hW6, by rw [HB.out true false HFt.out HY.out, if_neg (by simp)]; exact hT4.below h56⟩, by omega⟩
   ·have hnI : ¬ (out.length : Int) < best.length := by omega
    by_cases h2 : out.length = best.length
    ·have HI2 : Hid (out.length = best.length) := hid h2
     cases hqv : q
     ·rw [hqv] at CL1
      have HFt : Hid (foreN out best = false) := hid (by rw [HFo.out, decide_eq_false h1, hqv]; simp)
      clear h1 h2
      have HNI := hid hnI
      clear hnI
      refine Ks ?_
      refine Rs 25 fun Q' K hK => ?_
      refine M1 hE 8 fun K' J ρ q8 => ?_; go_simp
      refine Ln hE J fun _ Eb => ?_; clear J K' hE a q8
      refine M1 Eb 31 fun K' J ρ q31 => ?_; go_simp; (try go_bits)
      refine Ln Eb J fun _ Ea => ?_; clear J K' Eb q31
      refine M1 Ea 6 fun K' J ρ q6 => ?_; go_simp
      refine Ln Ea J fun _ Eb => ?_; clear J K' Ea q6
      refine M1 Eb 33 fun K' J ρ q33 => ?_; go_simp; (try go_bits)
      refine Ln Eb J fun _ Ea => ?_; clear J K' Eb q33
      refine M2 Ea 32 34 fun K' J ρ q32 q34 => ?_; go_simp; (try go_bits)
      refine Ln Ea J fun _ Eb => ?_; clear J K' Ea q32 q34
      replace Eb := Eb.turn 35 (v' := .bool false) rfl (by (simp; have := HNI.out; omega))
      refine M1 Eb 35 fun K' J ρ q35 => ?_; go_simp
      refine Ln Eb J fun _ Ea => ?_; clear J K' Eb q35
      refine N1 Ea 36 8 fun K' J ρ q8 => ?_; go_simp
      refine Ln Ea J fun _ Eb => ?_; clear J K' Ea q8
      refine N1 Eb 36 37 fun K' J ρ q37 => ?_; go_simp; (try go_bits)
      refine Ln Eb J fun _ Ea => ?_; clear J K' Eb q37
      refine N1 Ea 36 6 fun K' J ρ q6 => ?_; go_simp
      refine Ln Ea J fun _ Eb => ?_; clear J K' Ea q6
      refine N1 Eb 36 39 fun K' J ρ q39 => ?_; go_simp; (try go_bits)
      refine Ln Eb J fun _ Ea => ?_; clear J K' Eb q39
      refine N2 Ea 36 38 40 fun K' J ρ q38 q40 => ?_; go_simp; (try go_bits)
      refine Ln Ea J fun _ Eb => ?_; clear J K' Ea q38 q40
      replace Eb := Eb.turn 41 (v' := .bool true) rfl (by (rw [HI2.out]; simp))
      refine N1 Eb 36 41 fun K' J ρ q41 => ?_; go_simp
      refine Ln Eb J fun _ Ea => ?_; clear J K' Eb q41
      refine N1 Ea 42 8 fun K' J ρ q8 => ?_; go_simp
      refine Ln Ea J fun _ Eb => ?_; clear J K' Ea q8
      refine N1 Eb 42 6 fun K' J ρ q6 => ?_; go_simp
      refine Ln Eb J fun _ Ea => ?_; clear J K' Eb q6
      refine N2 Ea 42 43 44 fun K' J ρ q43 q44 => ?_; go_simp; (try go_bits); (try clear q43 q44)
      go_at_call 60; refine (CL1.out _ _ _ hO hT4).mono ?_; rintro e w5 ⟨rfl, h5⟩
      (try clear r43 r44)
      refine Ln Ea J fun _ Eb => ?_; clear J K' Ea
      refine N2 Eb 36 42 45 fun K' J ρ q42 q45 => ?_; go_simp; (try go_bits)
      refine Ln Eb J fun _ Ea => ?_; clear J K' Eb q42 q45
      refine M2 Ea 36 46 fun K' J ρ q36 q46 => ?_; go_simp; (try go_bits)
      refine Ln Ea J fun _ Eb => ?_; clear J K' Ea q36 q46
      refine M1 Eb 47 fun K' J ρ q47 => ?_; go_simp
      refine Ln Eb J fun _ Ea => ?_; clear J K' Eb q47
      refine Lno Ea 48 ?_
      refine Lu Ea fun _ Eb => ?_
      refine Lno Eb 48 ?_
      refine Lu Eb fun _ Ea => ?_
      refine Lno Ea 48 ?_
      refine Lu Ea fun _ Eb => ?_
      refine Lno Eb 48 ?_
      refine Lu Eb fun _ Ea => ?_
      refine Lno Ea 48 ?_
      refine Lu Ea fun _ Eb => ?_
      refine Lno Eb 48 ?_
      refine Lu Eb fun _ Ea => ?_
      refine M2 Ea 48 54 fun K' J ρ q48 q54 => ?_; go_simp; (try go_bits)
      refine Ln Ea J fun _ Eb => ?_; clear J K' Ea q48 q54
      replace Eb := Eb.turn 55 (v' := .bool false) rfl (by (first | rfl | simp))
      refine Ld [1, 5, 6, 7, 8, 55] Eb hK fun a hE => ?_; clear hK K Q' Eb
      refine Ks ?_
      refine cond_no hE (t := 55) rfl ?_
      refine Ks ?_
      refine Rs 3 fun Q' K hK => ?_
      refine M1 hE 7 fun K' J ρ q7 => ?_; go_simp
      refine Ln hE J fun _ Eb => ?_; clear J K' hE a q7
      refine M1 Eb 26 fun K' J ρ q26 => ?_; go_simp; (try go_bits); (try simp (disch := omega) only [IntWalk.i64_in])
      refine Ln Eb J fun _ Ea => ?_; clear J K' Eb q26
      refine M1 Ea 27 fun K' J ρ q27 => ?_; go_simp
      refine Ln Ea J fun _ Eb => ?_; clear J K' Ea q27
      refine Ld [1, 5, 6, 7] Eb hK fun a hE => ?_; clear hK K Q' Eb
      refine Ks ?_
      exact ⟨s + 1, ⟨by omega, T, c, by rw [HB.out false _ HFt.out rfl, if_neg (by simp)]; simpa using hE, hW4.trans (h5.mono hW4.size), by rw [HB.out false _ HFt.out rfl, if_neg (by simp)]; exact hT4.below h5⟩, by omega⟩
     ·rw [hqv] at CL1
      have HFt : Hid (foreN out best = true) := hid (by rw [HFo.out, decide_eq_true h2, hqv]; simp)
      clear h1 h2
      have HNI := hid hnI
      clear hnI
      refine Ks ?_
      refine Rs 25 fun Q' K hK => ?_
      refine M1 hE 8 fun K' J ρ q8 => ?_; go_simp
      refine Ln hE J fun _ Eb => ?_; clear J K' hE a q8
      refine M1 Eb 31 fun K' J ρ q31 => ?_; go_simp; (try go_bits)
      refine Ln Eb J fun _ Ea => ?_; clear J K' Eb q31
      refine M1 Ea 6 fun K' J ρ q6 => ?_; go_simp
      refine Ln Ea J fun _ Eb => ?_; clear J K' Ea q6
      refine M1 Eb 33 fun K' J ρ q33 => ?_; go_simp; (try go_bits)
      refine Ln Eb J fun _ Ea => ?_; clear J K' Eb q33
      refine M2 Ea 32 34 fun K' J ρ q32 q34 => ?_; go_simp; (try go_bits)
      refine Ln Ea J fun _ Eb => ?_; clear J K' Ea q32 q34
      replace Eb := Eb.turn 35 (v' := .bool false) rfl (by (simp; have := HNI.out; omega))
      refine M1 Eb 35 fun K' J ρ q35 => ?_; go_simp
      refine Ln Eb J fun _ Ea => ?_; clear J K' Eb q35
      refine N1 Ea 36 8 fun K' J ρ q8 => ?_; go_simp
      refine Ln Ea J fun _ Eb => ?_; clear J K' Ea q8
      refine N1 Eb 36 37 fun K' J ρ q37 => ?_; go_simp; (try go_bits)
      refine Ln Eb J fun _ Ea => ?_; clear J K' Eb q37
      refine N1 Ea 36 6 fun K' J ρ q6 => ?_; go_simp
      refine Ln Ea J fun _ Eb => ?_; clear J K' Ea q6
      refine N1 Eb 36 39 fun K' J ρ q39 => ?_; go_simp; (try go_bits)
      refine Ln Eb J fun _ Ea => ?_; clear J K' Eb q39
      refine N2 Ea 36 38 40 fun K' J ρ q38 q40 => ?_; go_simp; (try go_bits)
      refine Ln Ea J fun _ Eb => ?_; clear J K' Ea q38 q40
      replace Eb := Eb.turn 41 (v' := .bool true) rfl (by (rw [HI2.out]; simp))
      refine N1 Eb 36 41 fun K' J ρ q41 => ?_; go_simp
      refine Ln Eb J fun _ Ea => ?_; clear J K' Eb q41
      refine N1 Ea 42 8 fun K' J ρ q8 => ?_; go_simp
      refine Ln Ea J fun _ Eb => ?_; clear J K' Ea q8
      refine N1 Eb 42 6 fun K' J ρ q6 => ?_; go_simp
      refine Ln Eb J fun _ Ea => ?_; clear J K' Eb q6
      refine N2 Ea 42 43 44 fun K' J ρ q43 q44 => ?_; go_simp; (try go_bits); (try clear q43 q44)
      go_at_call 60; refine (CL1.out _ _ _ hO hT4).mono ?_; rintro e w5 ⟨rfl, h5⟩; replace hCB := hCB.below h5; clear nB cB0 cB1 cB2 cB3 cB4 cB5 cB6; obtain ⟨nB, cB0, cB1, cB2, cB3, cB4, cB5, cB6⟩ := hCB.c7
      (try clear r43 r44)
      refine Ln Ea J fun _ Eb => ?_; clear J K' Ea
      refine N2 Eb 36 42 45 fun K' J ρ q42 q45 => ?_; go_simp; (try go_bits)
      refine Ln Eb J fun _ Ea => ?_; clear J K' Eb q42 q45
      refine M2 Ea 36 46 fun K' J ρ q36 q46 => ?_; go_simp; (try go_bits)
      refine Ln Ea J fun _ Eb => ?_; clear J K' Ea q36 q46
      refine M1 Eb 47 fun K' J ρ q47 => ?_; go_simp
      refine Ln Eb J fun _ Ea => ?_; clear J K' Eb q47
      refine N1 Ea 48 1 fun K' J ρ q1 => ?_; go_simp
      refine Ln Ea J fun _ Eb => ?_; clear J K' Ea q1
      refine N1 Eb 48 7 fun K' J ρ q7 => ?_; go_simp
      refine Ln Eb J fun _ Ea => ?_; clear J K' Eb q7
      refine N2 Ea 48 49 50 fun K' J ρ q49 q50 => ?_; go_simp; (try go_bits); (try clear q49 q50)
      go_at_call 61; refine (CW1.out _ (hM4.below h5)).mono ?_; rintro e w6 ⟨⟨A', c', rfl, hsm, hMx⟩, h6⟩
      (try clear r49 r50)
      refine Ln Ea J fun _ Eb => ?_; clear J K' Ea
      refine N1 Eb 48 51 fun K' J ρ q51 => ?_; go_simp; (try go_bits); (try clear q51)
      go_at_call 42; refine (CA1.out _ _ _ hsm hMx).mono ?_; rintro e w7 ⟨⟨O2, oc2, rfl⟩, h7⟩
      (try clear r51)
      refine Ln Eb J fun _ Ea => ?_; clear J K' Eb
      refine N1 Ea 48 52 fun K' J ρ q52 => ?_; go_simp; (try go_bits)
      refine Ln Ea J fun _ Eb => ?_; clear J K' Ea q52
      refine N1 Eb 48 53 fun K' J ρ q53 => ?_; go_simp; (try go_bits)
      refine Ln Eb J fun _ Ea => ?_; clear J K' Eb q53
      refine M2 Ea 48 54 fun K' J ρ q48 q54 => ?_; go_simp; (try go_bits)
      refine Ln Ea J fun _ Eb => ?_; clear J K' Ea q48 q54
      refine Ld [1, 5, 6, 7, 8, 55] Eb hK fun a hE => ?_; clear hK K Q' Eb
      have h57 := h5.trans ((h6.trans (h7.mono h6.size)).mono h5.size)
      have hW7 := hW4.trans (h57.mono hW4.size)
      refine Ks ?_
      refine cond_part hE (t := 55) rfl (fun h => ?_) (fun h => ?_)
      ·have HY : Hid (rightP b out = true) := hid (by rw [HRt.out]; exact h)
       clear h
       refine Ks ?_
       refine Rs 2 fun Q' K hK => ?_
       refine M1 hE 8 fun K' J ρ q8 => ?_; go_simp
       refine Ln hE J fun _ Eb => ?_; clear J K' hE a q8
       refine M1 Eb 56 fun K' J ρ q56 => ?_; go_simp
       refine Ln Eb J fun _ Ea => ?_; clear J K' Eb q56
       refine Ld [1, 5, 6, 7] Ea hK fun a hE => ?_; clear hK K Q' Ea
       refine Ks ?_
       refine Rs 3 fun Q' K hK => ?_
       refine M1 hE 7 fun K' J ρ q7 => ?_; go_simp
       refine Ln hE J fun _ Eb => ?_; clear J K' hE a q7
       refine M1 Eb 26 fun K' J ρ q26 => ?_; go_simp; (try go_bits); (try simp (disch := omega) only [IntWalk.i64_in])
       refine Ln Eb J fun _ Ea => ?_; clear J K' Eb q26
       refine M1 Ea 27 fun K' J ρ q27 => ?_; go_simp
       refine Ln Ea J fun _ Eb => ?_; clear J K' Ea q27
       refine Ld [1, 5, 6, 7] Eb hK fun a hE => ?_; clear hK K Q' Eb
       refine Ks ?_
       exact ⟨s + 1, ⟨by omega, O, oc, by rw [HB.out true true HFt.out HY.out, if_pos ⟨rfl, rfl⟩]; simpa using hE, hW7, by rw [HB.out true true HFt.out HY.out, if_pos ⟨rfl, rfl⟩]; exact hO.below h57⟩, by omega⟩
      ·have HY : Hid (rightP b out = false) := hid (by rw [HRt.out]; exact h)
       clear h
       refine Ks ?_
       refine Rs 3 fun Q' K hK => ?_
       refine M1 hE 7 fun K' J ρ q7 => ?_; go_simp
       refine Ln hE J fun _ Eb => ?_; clear J K' hE a q7
       refine M1 Eb 26 fun K' J ρ q26 => ?_; go_simp; (try go_bits); (try simp (disch := omega) only [IntWalk.i64_in])
       refine Ln Eb J fun _ Ea => ?_; clear J K' Eb q26
       refine M1 Ea 27 fun K' J ρ q27 => ?_; go_simp
       refine Ln Ea J fun _ Eb => ?_; clear J K' Ea q27
       refine Ld [1, 5, 6, 7] Eb hK fun a hE => ?_; clear hK K Q' Eb
       refine Ks ?_
       exact ⟨s + 1, ⟨by omega, T, c, by rw [HB.out true false HFt.out HY.out, if_neg (by simp)]; simpa using hE, hW7, by rw [HB.out true false HFt.out HY.out, if_neg (by simp)]; exact hT4.below h57⟩, by omega⟩
    ·have HFt : Hid (foreN out best = false) := hid (by rw [HFo.out, decide_eq_false h1, decide_eq_false h2]; rfl)
     have HNI := hid hnI
     have HI2 := hid h2
     clear h1 h2 hnI
     refine Ks ?_
     refine Rs 25 fun Q' K hK => ?_
     refine M1 hE 8 fun K' J ρ q8 => ?_; go_simp
     refine Ln hE J fun _ Eb => ?_; clear J K' hE a q8
     refine M1 Eb 31 fun K' J ρ q31 => ?_; go_simp; (try go_bits)
     refine Ln Eb J fun _ Ea => ?_; clear J K' Eb q31
     refine M1 Ea 6 fun K' J ρ q6 => ?_; go_simp
     refine Ln Ea J fun _ Eb => ?_; clear J K' Ea q6
     refine M1 Eb 33 fun K' J ρ q33 => ?_; go_simp; (try go_bits)
     refine Ln Eb J fun _ Ea => ?_; clear J K' Eb q33
     refine M2 Ea 32 34 fun K' J ρ q32 q34 => ?_; go_simp; (try go_bits)
     refine Ln Ea J fun _ Eb => ?_; clear J K' Ea q32 q34
     replace Eb := Eb.turn 35 (v' := .bool false) rfl (by (simp; have := HNI.out; omega))
     refine M1 Eb 35 fun K' J ρ q35 => ?_; go_simp
     refine Ln Eb J fun _ Ea => ?_; clear J K' Eb q35
     refine N1 Ea 36 8 fun K' J ρ q8 => ?_; go_simp
     refine Ln Ea J fun _ Eb => ?_; clear J K' Ea q8
     refine N1 Eb 36 37 fun K' J ρ q37 => ?_; go_simp; (try go_bits)
     refine Ln Eb J fun _ Ea => ?_; clear J K' Eb q37
     refine N1 Ea 36 6 fun K' J ρ q6 => ?_; go_simp
     refine Ln Ea J fun _ Eb => ?_; clear J K' Ea q6
     refine N1 Eb 36 39 fun K' J ρ q39 => ?_; go_simp; (try go_bits)
     refine Ln Eb J fun _ Ea => ?_; clear J K' Eb q39
     refine N2 Ea 36 38 40 fun K' J ρ q38 q40 => ?_; go_simp; (try go_bits)
     refine Ln Ea J fun _ Eb => ?_; clear J K' Ea q38 q40
     replace Eb := Eb.turn 41 (v' := .bool false) rfl (by (simp; have := HI2.out; omega))
     refine N1 Eb 36 41 fun K' J ρ q41 => ?_; go_simp
     refine Ln Eb J fun _ Ea => ?_; clear J K' Eb q41
     refine Lno Ea 42 ?_
     refine Lu Ea fun _ Eb => ?_
     refine Lno Eb 42 ?_
     refine Lu Eb fun _ Ea => ?_
     refine Lno Ea 42 ?_
     refine Lu Ea fun _ Eb => ?_
     refine N2 Eb 36 42 45 fun K' J ρ q42 q45 => ?_; go_simp; (try go_bits)
     refine Ln Eb J fun _ Ea => ?_; clear J K' Eb q42 q45
     refine M2 Ea 36 46 fun K' J ρ q36 q46 => ?_; go_simp; (try go_bits)
     refine Ln Ea J fun _ Eb => ?_; clear J K' Ea q36 q46
     refine M1 Eb 47 fun K' J ρ q47 => ?_; go_simp
     refine Ln Eb J fun _ Ea => ?_; clear J K' Eb q47
     refine Lno Ea 48 ?_
     refine Lu Ea fun _ Eb => ?_
     refine Lno Eb 48 ?_
     refine Lu Eb fun _ Ea => ?_
     refine Lno Ea 48 ?_
     refine Lu Ea fun _ Eb => ?_
     refine Lno Eb 48 ?_
     refine Lu Eb fun _ Ea => ?_
     refine Lno Ea 48 ?_
     refine Lu Ea fun _ Eb => ?_
     refine Lno Eb 48 ?_
     refine Lu Eb fun _ Ea => ?_
     refine M2 Ea 48 54 fun K' J ρ q48 q54 => ?_; go_simp; (try go_bits)
     refine Ln Ea J fun _ Eb => ?_; clear J K' Ea q48 q54
     replace Eb := Eb.turn 55 (v' := .bool false) rfl (by (first | rfl | simp))
     refine Ld [1, 5, 6, 7, 8, 55] Eb hK fun a hE => ?_; clear hK K Q' Eb
     refine Ks ?_
     refine cond_no hE (t := 55) rfl ?_
     refine Ks ?_
     refine Rs 3 fun Q' K hK => ?_
     refine M1 hE 7 fun K' J ρ q7 => ?_; go_simp
     refine Ln hE J fun _ Eb => ?_; clear J K' hE a q7
     refine M1 Eb 26 fun K' J ρ q26 => ?_; go_simp; (try go_bits); (try simp (disch := omega) only [IntWalk.i64_in])
     refine Ln Eb J fun _ Ea => ?_; clear J K' Eb q26
     refine M1 Ea 27 fun K' J ρ q27 => ?_; go_simp
     refine Ln Ea J fun _ Eb => ?_; clear J K' Ea q27
     refine Ld [1, 5, 6, 7] Eb hK fun a hE => ?_; clear hK K Q' Eb
     refine Ks ?_
     exact ⟨s + 1, ⟨by omega, T, c, by rw [HB.out false _ HFt.out rfl, if_neg (by simp)]; simpa using hE, hW4, by rw [HB.out false _ HFt.out rfl, if_neg (by simp)]; exact hT4⟩, by omega⟩
  ·have hse : s = 2 ^ b.lines.length := by omega
   have HSE := hid hse
   clear hse
   refine Ks ?_
   refine Rs 4 fun Q' K hK => ?_
   refine M1 hE 7 fun K' J ρ q7 => ?_; go_simp
   refine Ln hE J fun _ Eb => ?_; clear J K' hE a q7
   refine M1 Eb 5 fun K' J ρ q5 => ?_; go_simp
   refine Ln Eb J fun _ Ea => ?_; clear J K' Eb q5
   refine M1 Ea 23 fun K' J ρ q23 => ?_; go_simp; (try go_bits); (try simp (disch := omega) only [IntWalk.i64_in])
   refine Ln Ea J fun _ Eb => ?_; clear J K' Ea q23
   refine M2 Eb 22 24 fun K' J ρ q22 q24 => ?_; go_simp; (try go_bits)
   refine Ln Eb J fun _ Ea => ?_; clear J K' Eb q22 q24
   replace Ea := Ea.turn 25 (v' := .bool false) rfl (by (rw [HW.out]; exact congrArg Value.bool (decide_eq_false (by have := HSE.out; omega))))
   refine Ld [1, 5, 6, 7, 25] Ea hK fun a hE => ?_; clear hK K Q' Ea
   refine Ks ?_
   refine cond_no hE (t := 25) rfl ?_
   refine Ks ?_
   refine Rs 3 fun Q' K hK => ?_
   refine M1 hE 6 fun K' J ρ q6 => ?_; go_simp
   refine Ln hE J fun _ Eb => ?_; clear J K' hE a q6
   refine M1 Eb 57 fun K' J ρ q57 => ?_; go_simp
   refine Ln Eb J fun _ Ea => ?_; clear J K' Eb q57
   refine M0 fun K' J ρ => ?_; go_simp;
   refine Ln Ea J fun _ Eb => ?_; clear J K' Ea
   refine Ld [2, 3] Eb hK fun a hE => ?_; clear hK K Q' Eb
   refine Ks ?_
   exact ret_two hE rfl rfl rfl ⟨⟨T, c, by rw [HF.out, ← HSE.out], by rw [HF.out, ← HSE.out]; exact hT⟩, hbr⟩
end
end Go.Proofs.YtbimkcjdodgojaaGreat
