/- Name: the reference's Can, over what its can says. -/
import Derived.Test.YtbimkcjdodgojaaGreatKNdd
import Derived.Test.YtbimkcjdodgojaaGreatKNo
import Derived.Test.YtbimkcjdodgojaaGreatKNbd

namespace Go.Proofs.YtbimkcjdodgojaaGreat
set_option linter.unusedSimpArgs false
set_option linter.unusedVariables false
open Go Go.RowKit
attribute [local go_sem high] cell_set_wr
attribute [local go_sem low] cell_wr frozen_wr
attribute [local go_sem] wr_set wr_drew wr_drewN wr_alloc wr_new Rho.c Rho.n Rho.g
theorem line_ok {b : Bk} (ho : b.ok = true) (n : Int) : lineOfB b n 0 1 = inLines b n := by
 unfold lineOfB
 cases h : inLines b n
 ·rfl
 ·unfold inLines at h
  simp only [Bool.and_eq_true, decide_eq_true_eq] at h
  have hk : n.toNat < b.lines.length := by omega
  unfold Bk.ok at ho
  simp only [Bool.and_eq_true, List.all_eq_true] at ho
  have h1 := ho.2.2 b.lines[n.toNat] (List.getElem_mem hk)
  unfold lineB at h1
  rw [Bool.and_eq_true, Bool.and_eq_true] at h1
  have e : b.at n = b.lines[n.toNat] := by
   unfold Bk.at
   rw [List.getD_eq_getElem?_getD]; simp [hk]
  rw [e, h1.1.1]
  rfl
section
variable (A : Option Addr) (cap : Nat) (L : Option Addr) (lcap : Nat) (b : Bk)
set_option maxRecDepth 100000 in
set_option maxHeartbeats 2000000 in
theorem rCan_any (n m : Int) (w : World) (hM : BkAt w A L b) (hs : b.small cap lcap) (hz : ∀ i (h : i < b.ear.alike.length), b.ear.alike[i].size ≤ 9223372036854775807)
    (HC : Hid (b.ok = true → ∀ (i k : Nat) (W : World), i < b.lines.length → k < b.lines.length → BkAt W A L b → Calls Tryz.prog 31 #[.agg (bkV A cap L lcap b).toArray, .int .i64 i, .int .i64 k] W fun e w' => e = .returned (.bool (canL b (b.lines.getD i zeroLn) (b.lines.getD k zeroLn))) ∧ Below W.heap.size W w')) :
    Calls Tryz.prog 7 #[.agg (bkV A cap L lcap b).toArray, .int .i64 n, .int .i64 m] w fun e w' => e = .returned (.tuple #[.bool (pCanR b n m).1, .int .i64 (pCanR b n m).2]) ∧ Below w.heap.size w w' := by
 have C1 : Hid (∀ W, BkAt W A L b → Calls Tryz.prog 9 #[.agg (bkV A cap L lcap b).toArray] W fun e w' => e = .returned (.int .i64 (bkE b)) ∧ Below W.heap.size W w') := hid fun W hW => rCheck_any A cap L lcap b W hW hs hz
 have C2 : Hid (∀ k W, Calls Tryz.prog 30 #[.agg (bkV A cap L lcap b).toArray, .int .i64 k] W fun e w' => e = .returned (.bool (inLines b k)) ∧ Below W.heap.size W w') := hid fun k W => risLine_any A cap L lcap b k W hs
 cases ho : b.ok
 ·have e0 : bkE b = 20 := by unfold bkE; rw [ho]; rfl
  have e1 : pCanR b n m = (false, 20) := by unfold pCanR; rw [ho]; rfl
  rw [e0] at C1
  rw [e1]
  clear e0 e1 ho HC
  simp only [bkV] at C1 ⊢
  refine enterE Tryz.func7 rfl Tryz.ntmps7 (by simp) (fun a hE => ?_); simp only [envOf, Nat.zero_add, Nat.reduceAdd] at hE
  refine Ks ?_
  refine Rs 3 fun Q' K hK => ?_
  refine M1 hE 0 fun K' J ρ q0 => ?_; go_simp; (try clear q0)
  refine Ln hE J fun _ Eb => ?_; clear J K' hE a
  refine M0 fun K' J ρ => ?_; go_simp;
  refine Ln Eb J fun _ Ea => ?_; clear J K' Eb
  refine M0 fun K' J ρ => ?_; go_simp;
  refine Ln Ea J fun _ Eb => ?_; clear J K' Ea
  refine late_done [3] Eb hK (fun a hE => ?_); clear hK K Q' Eb; simp only [lk, pick, Nat.reduceEqDiff, ↓reduceIte] at hE
  obtain ⟨B, hBe⟩ : ∃ B, B = w.heap.size := ⟨_, rfl⟩; rw [← hBe] at hE; refine world_cut (fun wt => Below w.heap.size w wt ∧ Cells wt B (bkV A cap L lcap b)) ⟨(Below.refl _ _).alloc (Nat.le_refl _) _, by rw [hBe]; exact cells_new _ _ _⟩ (fun w1 hCut => ?_); obtain ⟨hbw1, hCB⟩ := hCut; clear hBe
  have hM1 := hM.below hbw1
  simp only [bkV] at hCB
  have nB := hCB.1; have cB0 := hCB.2 0 _ rfl; have cB1 := hCB.2 1 _ rfl; have cB2 := hCB.2 2 _ rfl; have cB3 := hCB.2 3 _ rfl; have cB4 := hCB.2 4 _ rfl; have cB5 := hCB.2 5 _ rfl; have cB6 := hCB.2 6 _ rfl
  refine Ks ?_
  refine Rs 3 fun Q' K hK => ?_
  refine M1 hE 3 fun K' J ρ q3 => ?_; go_simp; (try clear q3)
  refine Ln hE J fun _ Eb => ?_; clear J K' hE a
  refine M1 Eb 9 fun K' J ρ q9 => ?_; go_simp; (try go_bits); (try clear q9)
  go_at_call 9; refine (C1.out _ hM1).mono ?_; rintro e w2 ⟨rfl, h2⟩
  (try clear r9)
  refine Ln Eb J fun _ Ea => ?_; clear J K' Eb
  refine M1 Ea 10 fun K' J ρ q10 => ?_; go_simp; (try clear q10)
  refine Ln Ea J fun _ Eb => ?_; clear J K' Ea
  refine late_done [8] Eb hK (fun a hE => ?_); clear hK K Q' Eb; simp only [lk, pick, Nat.reduceEqDiff, ↓reduceIte] at hE
  refine Ks ?_
  refine Rs 2 fun Q' K hK => ?_
  refine M1 hE 8 fun K' J ρ q8 => ?_; go_simp; (try clear q8)
  refine Ln hE J fun _ Eb => ?_; clear J K' hE a
  refine M1 Eb 11 fun K' J ρ q11 => ?_; go_simp; (try go_bits); (try clear q11)
  refine Ln Eb J fun _ Ea => ?_; clear J K' Eb
  replace Ea := Ea.turn 12 (v' := .bool true) rfl (by (first | rfl | simp))
  refine late_done [8, 12] Ea hK (fun a hE => ?_); clear hK K Q' Ea; simp only [lk, pick, Nat.reduceEqDiff, ↓reduceIte] at hE
  refine Ks ?_
  refine cond_yes hE (t := 12) rfl ?_
  refine Ks ?_
  refine Rs 3 fun Q' K hK => ?_
  refine M1 hE 8 fun K' J ρ q8 => ?_; go_simp; (try clear q8)
  refine Ln hE J fun _ Eb => ?_; clear J K' hE a
  refine M0 fun K' J ρ => ?_; go_simp;
  refine Ln Eb J fun _ Ea => ?_; clear J K' Eb
  refine M1 Ea 13 fun K' J ρ q13 => ?_; go_simp; (try clear q13)
  refine Ln Ea J fun _ Eb => ?_; clear J K' Ea
  refine late_done [6, 7] Eb hK (fun a hE => ?_); clear hK K Q' Eb; simp only [lk, pick, Nat.reduceEqDiff, ↓reduceIte] at hE
  refine Ks ?_
  exact ret_two hE rfl rfl rfl ⟨rfl, hbw1.trans (h2.mono hbw1.size)⟩
 ·have e0 : bkE b = 0 := by unfold bkE; rw [ho]; rfl
  rw [e0] at C1
  have C3 := hid (HC.out ho)
  have HP : Hid (∀ q1 q2, inLines b n = q1 → inLines b m = q2 → pCanR b n m = if q1 && q2 then (canL b (b.at n) (b.at m), 0) else (false, 21)) := hid fun q1 q2 h1 h2 => by
   unfold pCanR
   rw [ho, line_ok ho, line_ok ho, h1, h2]
   rfl
  have HN : Hid (∀ z, inLines b z = true → ∃ k : Nat, z = k ∧ k < b.lines.length ∧ b.at z = b.lines.getD k zeroLn) := hid fun z h => by
   unfold inLines at h
   simp only [Bool.and_eq_true, decide_eq_true_eq] at h
   exact ⟨z.toNat, by omega, by omega, rfl⟩
  clear e0 ho HC
  obtain ⟨q1, hq1⟩ : ∃ q, inLines b n = q := ⟨_, rfl⟩
  obtain ⟨q2, hq2⟩ : ∃ q, inLines b m = q := ⟨_, rfl⟩
  have H1 := hid hq1
  have H2 := hid hq2
  clear hq1 hq2
  simp only [bkV] at C1 C2 C3 ⊢
  refine enterE Tryz.func7 rfl Tryz.ntmps7 (by simp) (fun a hE => ?_); simp only [envOf, Nat.zero_add, Nat.reduceAdd] at hE
  refine Ks ?_
  refine Rs 3 fun Q' K hK => ?_
  refine M1 hE 0 fun K' J ρ q0 => ?_; go_simp; (try clear q0)
  refine Ln hE J fun _ Eb => ?_; clear J K' hE a
  refine M0 fun K' J ρ => ?_; go_simp;
  refine Ln Eb J fun _ Ea => ?_; clear J K' Eb
  refine M0 fun K' J ρ => ?_; go_simp;
  refine Ln Ea J fun _ Eb => ?_; clear J K' Ea
  refine late_done [1, 2, 3] Eb hK (fun a hE => ?_); clear hK K Q' Eb; simp only [lk, pick, Nat.reduceEqDiff, ↓reduceIte] at hE
  obtain ⟨B, hBe⟩ : ∃ B, B = w.heap.size := ⟨_, rfl⟩; rw [← hBe] at hE; refine world_cut (fun wt => Below w.heap.size w wt ∧ Cells wt B (bkV A cap L lcap b)) ⟨(Below.refl _ _).alloc (Nat.le_refl _) _, by rw [hBe]; exact cells_new _ _ _⟩ (fun w1 hCut => ?_); obtain ⟨hbw1, hCB⟩ := hCut; clear hBe
  have hM1 := hM.below hbw1
  simp only [bkV] at hCB
  have nB := hCB.1; have cB0 := hCB.2 0 _ rfl; have cB1 := hCB.2 1 _ rfl; have cB2 := hCB.2 2 _ rfl; have cB3 := hCB.2 3 _ rfl; have cB4 := hCB.2 4 _ rfl; have cB5 := hCB.2 5 _ rfl; have cB6 := hCB.2 6 _ rfl
  refine Ks ?_
  refine Rs 3 fun Q' K hK => ?_
  refine M1 hE 3 fun K' J ρ q3 => ?_; go_simp; (try clear q3)
  refine Ln hE J fun _ Eb => ?_; clear J K' hE a
  refine M1 Eb 9 fun K' J ρ q9 => ?_; go_simp; (try go_bits); (try clear q9)
  go_at_call 9; refine (C1.out _ hM1).mono ?_; rintro e w2 ⟨rfl, h2⟩
  (try clear r9)
  refine Ln Eb J fun _ Ea => ?_; clear J K' Eb
  refine M1 Ea 10 fun K' J ρ q10 => ?_; go_simp; (try clear q10)
  refine Ln Ea J fun _ Eb => ?_; clear J K' Ea
  refine late_done [1, 2, 3, 8] Eb hK (fun a hE => ?_); clear hK K Q' Eb; simp only [lk, pick, Nat.reduceEqDiff, ↓reduceIte] at hE
  have hb2 := hbw1.trans (h2.mono hbw1.size)
  replace hCB := hCB.below h2
  clear nB cB0 cB1 cB2 cB3 cB4 cB5 cB6 hM1
  have nB := hCB.1; have cB0 := hCB.2 0 _ rfl; have cB1 := hCB.2 1 _ rfl; have cB2 := hCB.2 2 _ rfl; have cB3 := hCB.2 3 _ rfl; have cB4 := hCB.2 4 _ rfl; have cB5 := hCB.2 5 _ rfl; have cB6 := hCB.2 6 _ rfl
  refine Ks ?_
  refine Rs 2 fun Q' K hK => ?_
  refine M1 hE 8 fun K' J ρ q8 => ?_; go_simp; (try clear q8)
  refine Ln hE J fun _ Eb => ?_; clear J K' hE a
  refine M1 Eb 11 fun K' J ρ q11 => ?_; go_simp; (try go_bits); (try clear q11)
  refine Ln Eb J fun _ Ea => ?_; clear J K' Eb
  replace Ea := Ea.turn 12 (v' := .bool false) rfl (by (first | rfl | simp))
  refine late_done [1, 2, 3, 12] Ea hK (fun a hE => ?_); clear hK K Q' Ea; simp only [lk, pick, Nat.reduceEqDiff, ↓reduceIte] at hE
  refine Ks ?_
  refine cond_no hE (t := 12) rfl ?_
  refine Ks ?_
  cases hv1 : q1
  ·have HV := hid hv1
   clear hv1
   refine Rs 10 fun Q' K hK => ?_
   refine M1 hE 3 fun K' J ρ q3 => ?_; go_simp; (try clear q3)
   refine Ln hE J fun _ Eb => ?_; clear J K' hE a
   refine M1 Eb 1 fun K' J ρ q1 => ?_; go_simp; (try clear q1)
   refine Ln Eb J fun _ Ea => ?_; clear J K' Eb
   refine M2 Ea 14 15 fun K' J ρ q14 q15 => ?_; go_simp; (try go_bits); (try clear q14 q15)
   go_at_call 30; refine (C2.out n _).mono ?_; rw [H1.out, HV.out]; rintro e w3 ⟨rfl, h3⟩
   (try clear r14 r15)
   refine Ln Ea J fun _ Eb => ?_; clear J K' Ea
   refine M1 Eb 16 fun K' J ρ q16 => ?_; go_simp; (try go_bits); (try simp (disch := omega) only [IntWalk.i64_in]); (try clear q16)
   refine Ln Eb J fun _ Ea => ?_; clear J K' Eb
   replace Ea := Ea.turn 17 (v' := .bool true) rfl (by (first | rfl | simp))
   refine M1 Ea 17 fun K' J ρ q17 => ?_; go_simp; (try clear q17)
   refine Ln Ea J fun _ Eb => ?_; clear J K' Ea
   refine Lno Eb 18 ?_
   refine Lu Eb fun _ Ea => ?_
   refine Lno Ea 18 ?_
   refine Lu Ea fun _ Eb => ?_
   refine Lno Eb 18 ?_
   refine Lu Eb fun _ Ea => ?_
   refine Lno Ea 18 ?_
   refine Lu Ea fun _ Eb => ?_
   refine M2 Eb 18 22 fun K' J ρ q18 q22 => ?_; go_simp; (try go_bits); (try clear q18 q22)
   refine Ln Eb J fun _ Ea => ?_; clear J K' Eb
   refine late_done [23] Ea hK (fun a hE => ?_); clear hK K Q' Ea; simp only [lk, pick, Nat.reduceEqDiff, ↓reduceIte] at hE
   refine Ks ?_
   refine cond_yes hE (t := 23) rfl ?_
   refine Ks ?_
   refine Rs 2 fun Q' K hK => ?_
   refine M0 fun K' J ρ => ?_; go_simp;
   refine Ln hE J fun _ Eb => ?_; clear J K' hE a
   refine M0 fun K' J ρ => ?_; go_simp;
   refine Ln Eb J fun _ Ea => ?_; clear J K' Eb
   refine late_done [6, 7] Ea hK (fun a hE => ?_); clear hK K Q' Ea; simp only [lk, pick, Nat.reduceEqDiff, ↓reduceIte] at hE
   refine Ks ?_
   exact ret_two hE rfl rfl rfl ⟨by rw [HP.out _ _ H1.out H2.out, HV.out]; rfl, hb2.trans (h3.mono hb2.size)⟩
  ·have HV := hid hv1
   clear hv1
   refine Rs 10 fun Q' K hK => ?_
   refine M1 hE 3 fun K' J ρ q3 => ?_; go_simp; (try clear q3)
   refine Ln hE J fun _ Eb => ?_; clear J K' hE a
   refine M1 Eb 1 fun K' J ρ q1 => ?_; go_simp; (try clear q1)
   refine Ln Eb J fun _ Ea => ?_; clear J K' Eb
   refine M2 Ea 14 15 fun K' J ρ q14 q15 => ?_; go_simp; (try go_bits); (try clear q14 q15)
   go_at_call 30; refine (C2.out n _).mono ?_; rw [H1.out, HV.out]; rintro e w3 ⟨rfl, h3⟩; have hCB3 := hCB.below h3; have n3 := hCB3.1; have c30 := hCB3.2 0 _ rfl; have c31 := hCB3.2 1 _ rfl; have c32 := hCB3.2 2 _ rfl; have c33 := hCB3.2 3 _ rfl; have c34 := hCB3.2 4 _ rfl; have c35 := hCB3.2 5 _ rfl; have c36 := hCB3.2 6 _ rfl
   (try clear r14 r15)
   refine Ln Ea J fun _ Eb => ?_; clear J K' Ea
   refine M1 Eb 16 fun K' J ρ q16 => ?_; go_simp; (try go_bits); (try simp (disch := omega) only [IntWalk.i64_in]); (try clear q16)
   refine Ln Eb J fun _ Ea => ?_; clear J K' Eb
   replace Ea := Ea.turn 17 (v' := .bool false) rfl (by (first | rfl | simp))
   refine M1 Ea 17 fun K' J ρ q17 => ?_; go_simp; (try clear q17)
   refine Ln Ea J fun _ Eb => ?_; clear J K' Ea
   refine N1 Eb 18 3 fun K' J ρ q3 => ?_; go_simp; (try clear q3)
   refine Ln Eb J fun _ Ea => ?_; clear J K' Eb
   refine N1 Ea 18 2 fun K' J ρ q2 => ?_; go_simp; (try clear q2)
   refine Ln Ea J fun _ Eb => ?_; clear J K' Ea
   refine N2 Eb 18 19 20 fun K' J ρ q19 q20 => ?_; go_simp; (try go_bits); (try clear q19 q20)
   go_at_call 30; refine (C2.out m _).mono ?_; rw [H2.out]; rintro e w4 ⟨rfl, h4⟩
   (try clear r19 r20)
   refine Ln Eb J fun _ Ea => ?_; clear J K' Eb
   refine N1 Ea 18 21 fun K' J ρ q21 => ?_; go_simp; (try go_bits); (try simp (disch := omega) only [IntWalk.i64_in]); (try clear q21)
   refine Ln Ea J fun _ Eb => ?_; clear J K' Ea
   replace Eb := Eb.turn 22 (v' := .bool (!q2)) rfl (by (first | rfl | simp))
   refine M2 Eb 18 22 fun K' J ρ q18 q22 => ?_; go_simp; (try go_bits); (try clear q18 q22)
   refine Ln Eb J fun _ Ea => ?_; clear J K' Eb
   replace Ea := Ea.turn 23 (v' := .bool (!q2)) rfl (by (first | rfl | simp))
   refine late_done [1, 2, 3, 23] Ea hK (fun a hE => ?_); clear hK K Q' Ea; simp only [lk, pick, Nat.reduceEqDiff, ↓reduceIte] at hE
   have hb3 := hb2.trans (h3.mono hb2.size)
   have hb4 := hb3.trans (h4.mono hb3.size)
   have hM4 := hM.below hb4
   replace hCB := hCB3.below h4
   clear nB cB0 cB1 cB2 cB3 cB4 cB5 cB6 n3 c30 c31 c32 c33 c34 c35 c36 hCB3
   have nB := hCB.1; have cB0 := hCB.2 0 _ rfl; have cB1 := hCB.2 1 _ rfl; have cB2 := hCB.2 2 _ rfl; have cB3 := hCB.2 3 _ rfl; have cB4 := hCB.2 4 _ rfl; have cB5 := hCB.2 5 _ rfl; have cB6 := hCB.2 6 _ rfl
   refine Ks ?_
   cases hv2 : q2
   ·rw [hv2] at hE
    have HV2 := hid hv2
    clear hv2
    refine cond_yes hE (t := 23) rfl ?_
    refine Ks ?_
    refine Rs 2 fun Q' K hK => ?_
    refine M0 fun K' J ρ => ?_; go_simp;
    refine Ln hE J fun _ Eb => ?_; clear J K' hE a
    refine M0 fun K' J ρ => ?_; go_simp;
    refine Ln Eb J fun _ Ea => ?_; clear J K' Eb
    refine late_done [6, 7] Ea hK (fun a hE => ?_); clear hK K Q' Ea; simp only [lk, pick, Nat.reduceEqDiff, ↓reduceIte] at hE
    refine Ks ?_
    exact ret_two hE rfl rfl rfl ⟨by rw [HP.out _ _ H1.out H2.out, HV.out, HV2.out]; rfl, hb4⟩
   ·rw [hv2] at hE
    have HV2 := hid hv2
    clear hv2
    refine cond_no hE (t := 23) rfl ?_
    refine Ks ?_
    obtain ⟨i, rfl, hi, ei⟩ := HN.out n (by rw [H1.out, HV.out])
    obtain ⟨k, rfl, hk, ek⟩ := HN.out m (by rw [H2.out, HV2.out])
    have EI := hid ei
    have EK := hid ek
    clear ei ek
    refine Rs 6 fun Q' K hK => ?_
    refine M1 hE 3 fun K' J ρ q3 => ?_; go_simp; (try clear q3)
    refine Ln hE J fun _ Eb => ?_; clear J K' hE a
    refine M1 Eb 1 fun K' J ρ q1 => ?_; go_simp; (try clear q1)
    refine Ln Eb J fun _ Ea => ?_; clear J K' Eb
    refine M1 Ea 2 fun K' J ρ q2 => ?_; go_simp; (try clear q2)
    refine Ln Ea J fun _ Eb => ?_; clear J K' Ea
    refine M3 Eb 24 25 26 fun K' J ρ q24 q25 q26 => ?_; go_simp; (try go_bits); (try clear q24 q25 q26)
    go_at_call 31; refine (C3.out i k _ hi hk hM4).mono ?_; rintro e w5 ⟨rfl, h5⟩
    (try clear r24 r25 r26)
    refine Ln Eb J fun _ Ea => ?_; clear J K' Eb
    refine M1 Ea 27 fun K' J ρ q27 => ?_; go_simp; (try clear q27)
    refine Ln Ea J fun _ Eb => ?_; clear J K' Ea
    refine M0 fun K' J ρ => ?_; go_simp;
    refine Ln Eb J fun _ Ea => ?_; clear J K' Eb
    refine late_done [6, 7] Ea hK (fun a hE => ?_); clear hK K Q' Ea; simp only [lk, pick, Nat.reduceEqDiff, ↓reduceIte] at hE
    refine Ks ?_
    exact ret_two hE rfl rfl rfl ⟨by rw [HP.out _ _ H1.out H2.out, HV.out, HV2.out, EI.out, EK.out]; simp [hi, hk], hb4.trans (h5.mono hb4.size)⟩
set_option maxRecDepth 100000 in
set_option maxHeartbeats 2000000 in
theorem rTruths_any (w : World) (hM : BkAt w A L b) (hs : b.small cap lcap) (hz : ∀ i (h : i < b.ear.alike.length), b.ear.alike[i].size ≤ 9223372036854775807)
    (HC : Hid (b.ok = true → ∀ (W : World), BkAt W A L b → Calls Tryz.prog 42 #[.agg (bkV A cap L lcap b).toArray] W fun e w' => (∃ O c, e = .returned (.slice O b.ts.length c)) ∧ Below W.heap.size W w')) :
    Calls Tryz.prog 13 #[.agg (bkV A cap L lcap b).toArray] w fun e w' => e = .returned (.tuple #[.int .i64 (pTruthsR b).1, .int .i64 (pTruthsR b).2]) ∧ Below w.heap.size w w' := by
 have C1 : Hid (∀ W, BkAt W A L b → Calls Tryz.prog 9 #[.agg (bkV A cap L lcap b).toArray] W fun e w' => e = .returned (.int .i64 (bkE b)) ∧ Below W.heap.size W w') := hid fun W hW => rCheck_any A cap L lcap b W hW hs hz
 cases ho : b.ok
 ·have e0 : bkE b = 20 := by unfold bkE; rw [ho]; rfl
  have e1 : pTruthsR b = (0, 20) := by unfold pTruthsR; rw [ho]; rfl
  rw [e0] at C1
  rw [e1]
  clear e0 e1 ho HC
  simp only [bkV] at C1 ⊢
  refine enterE Tryz.func13 rfl Tryz.ntmps13 (by simp) (fun a hE => ?_); simp only [envOf, Nat.zero_add, Nat.reduceAdd] at hE
  refine Ks ?_
  refine Rs 3 fun Q' K hK => ?_
  refine M1 hE 0 fun K' J ρ q0 => ?_; go_simp; (try clear q0)
  refine Ln hE J fun _ Eb => ?_; clear J K' hE a
  refine M0 fun K' J ρ => ?_; go_simp;
  refine Ln Eb J fun _ Ea => ?_; clear J K' Eb
  refine M0 fun K' J ρ => ?_; go_simp;
  refine Ln Ea J fun _ Eb => ?_; clear J K' Ea
  refine late_done [1] Eb hK (fun a hE => ?_); clear hK K Q' Eb; simp only [lk, pick, Nat.reduceEqDiff, ↓reduceIte] at hE
  obtain ⟨B, hBe⟩ : ∃ B, B = w.heap.size := ⟨_, rfl⟩; rw [← hBe] at hE; refine world_cut (fun wt => Below w.heap.size w wt ∧ Cells wt B (bkV A cap L lcap b)) ⟨(Below.refl _ _).alloc (Nat.le_refl _) _, by rw [hBe]; exact cells_new _ _ _⟩ (fun w1 hCut => ?_); obtain ⟨hbw1, hCB⟩ := hCut; clear hBe
  have hM1 := hM.below hbw1
  simp only [bkV] at hCB
  have nB := hCB.1; have cB0 := hCB.2 0 _ rfl; have cB1 := hCB.2 1 _ rfl; have cB2 := hCB.2 2 _ rfl; have cB3 := hCB.2 3 _ rfl; have cB4 := hCB.2 4 _ rfl; have cB5 := hCB.2 5 _ rfl; have cB6 := hCB.2 6 _ rfl
  refine Ks ?_
  refine Rs 3 fun Q' K hK => ?_
  refine M1 hE 1 fun K' J ρ q1 => ?_; go_simp; (try clear q1)
  refine Ln hE J fun _ Eb => ?_; clear J K' hE a
  refine M1 Eb 5 fun K' J ρ q5 => ?_; go_simp; (try go_bits); (try clear q5)
  go_at_call 9; refine (C1.out _ hM1).mono ?_; rintro e w2 ⟨rfl, h2⟩
  (try clear r5)
  refine Ln Eb J fun _ Ea => ?_; clear J K' Eb
  refine M1 Ea 6 fun K' J ρ q6 => ?_; go_simp; (try clear q6)
  refine Ln Ea J fun _ Eb => ?_; clear J K' Ea
  refine late_done [4] Eb hK (fun a hE => ?_); clear hK K Q' Eb; simp only [lk, pick, Nat.reduceEqDiff, ↓reduceIte] at hE
  refine Ks ?_
  refine Rs 2 fun Q' K hK => ?_
  refine M1 hE 4 fun K' J ρ q4 => ?_; go_simp; (try clear q4)
  refine Ln hE J fun _ Eb => ?_; clear J K' hE a
  refine M1 Eb 7 fun K' J ρ q7 => ?_; go_simp; (try go_bits); (try clear q7)
  refine Ln Eb J fun _ Ea => ?_; clear J K' Eb
  replace Ea := Ea.turn 8 (v' := .bool true) rfl (by (first | rfl | simp))
  refine late_done [4, 8] Ea hK (fun a hE => ?_); clear hK K Q' Ea; simp only [lk, pick, Nat.reduceEqDiff, ↓reduceIte] at hE
  refine Ks ?_
  refine cond_yes hE (t := 8) rfl ?_
  refine Ks ?_
  refine Rs 3 fun Q' K hK => ?_
  refine M1 hE 4 fun K' J ρ q4 => ?_; go_simp; (try clear q4)
  refine Ln hE J fun _ Eb => ?_; clear J K' hE a
  refine M0 fun K' J ρ => ?_; go_simp;
  refine Ln Eb J fun _ Ea => ?_; clear J K' Eb
  refine M1 Ea 9 fun K' J ρ q9 => ?_; go_simp; (try clear q9)
  refine Ln Ea J fun _ Eb => ?_; clear J K' Ea
  refine late_done [2, 3] Eb hK (fun a hE => ?_); clear hK K Q' Eb; simp only [lk, pick, Nat.reduceEqDiff, ↓reduceIte] at hE
  refine Ks ?_
  exact ret_two hE rfl rfl rfl ⟨rfl, hbw1.trans (h2.mono hbw1.size)⟩
 ·have e0 : bkE b = 0 := by unfold bkE; rw [ho]; rfl
  have e1 : pTruthsR b = ((b.ts.length : Int), 0) := by unfold pTruthsR; rw [ho]; rfl
  rw [e0] at C1
  rw [e1]
  have C3 := hid (HC.out ho)
  clear e0 e1 ho HC
  obtain ⟨m, hm⟩ : ∃ m, b.ts.length = m := ⟨_, rfl⟩
  rw [hm] at C3 ⊢
  clear hm
  simp only [bkV] at C1 C3 ⊢
  refine enterE Tryz.func13 rfl Tryz.ntmps13 (by simp) (fun a hE => ?_); simp only [envOf, Nat.zero_add, Nat.reduceAdd] at hE
  refine Ks ?_
  refine Rs 3 fun Q' K hK => ?_
  refine M1 hE 0 fun K' J ρ q0 => ?_; go_simp; (try clear q0)
  refine Ln hE J fun _ Eb => ?_; clear J K' hE a
  refine M0 fun K' J ρ => ?_; go_simp;
  refine Ln Eb J fun _ Ea => ?_; clear J K' Eb
  refine M0 fun K' J ρ => ?_; go_simp;
  refine Ln Ea J fun _ Eb => ?_; clear J K' Ea
  refine late_done [1] Eb hK (fun a hE => ?_); clear hK K Q' Eb; simp only [lk, pick, Nat.reduceEqDiff, ↓reduceIte] at hE
  obtain ⟨B, hBe⟩ : ∃ B, B = w.heap.size := ⟨_, rfl⟩; rw [← hBe] at hE; refine world_cut (fun wt => Below w.heap.size w wt ∧ Cells wt B (bkV A cap L lcap b)) ⟨(Below.refl _ _).alloc (Nat.le_refl _) _, by rw [hBe]; exact cells_new _ _ _⟩ (fun w1 hCut => ?_); obtain ⟨hbw1, hCB⟩ := hCut; clear hBe
  have hM1 := hM.below hbw1
  simp only [bkV] at hCB
  have nB := hCB.1; have cB0 := hCB.2 0 _ rfl; have cB1 := hCB.2 1 _ rfl; have cB2 := hCB.2 2 _ rfl; have cB3 := hCB.2 3 _ rfl; have cB4 := hCB.2 4 _ rfl; have cB5 := hCB.2 5 _ rfl; have cB6 := hCB.2 6 _ rfl
  refine Ks ?_
  refine Rs 3 fun Q' K hK => ?_
  refine M1 hE 1 fun K' J ρ q1 => ?_; go_simp; (try clear q1)
  refine Ln hE J fun _ Eb => ?_; clear J K' hE a
  refine M1 Eb 5 fun K' J ρ q5 => ?_; go_simp; (try go_bits); (try clear q5)
  go_at_call 9; refine (C1.out _ hM1).mono ?_; rintro e w2 ⟨rfl, h2⟩
  (try clear r5)
  refine Ln Eb J fun _ Ea => ?_; clear J K' Eb
  refine M1 Ea 6 fun K' J ρ q6 => ?_; go_simp; (try clear q6)
  refine Ln Ea J fun _ Eb => ?_; clear J K' Ea
  refine late_done [1, 4] Eb hK (fun a hE => ?_); clear hK K Q' Eb; simp only [lk, pick, Nat.reduceEqDiff, ↓reduceIte] at hE
  have hb2 := hbw1.trans (h2.mono hbw1.size)
  have hM2 := hM.below hb2
  replace hCB := hCB.below h2
  clear nB cB0 cB1 cB2 cB3 cB4 cB5 cB6 hM1
  have nB := hCB.1; have cB0 := hCB.2 0 _ rfl; have cB1 := hCB.2 1 _ rfl; have cB2 := hCB.2 2 _ rfl; have cB3 := hCB.2 3 _ rfl; have cB4 := hCB.2 4 _ rfl; have cB5 := hCB.2 5 _ rfl; have cB6 := hCB.2 6 _ rfl
  refine Ks ?_
  refine Rs 2 fun Q' K hK => ?_
  refine M1 hE 4 fun K' J ρ q4 => ?_; go_simp; (try clear q4)
  refine Ln hE J fun _ Eb => ?_; clear J K' hE a
  refine M1 Eb 7 fun K' J ρ q7 => ?_; go_simp; (try go_bits); (try clear q7)
  refine Ln Eb J fun _ Ea => ?_; clear J K' Eb
  replace Ea := Ea.turn 8 (v' := .bool false) rfl (by (first | rfl | simp))
  refine late_done [1, 8] Ea hK (fun a hE => ?_); clear hK K Q' Ea; simp only [lk, pick, Nat.reduceEqDiff, ↓reduceIte] at hE
  refine Ks ?_
  refine cond_no hE (t := 8) rfl ?_
  refine Ks ?_
  refine Rs 5 fun Q' K hK => ?_
  refine M1 hE 1 fun K' J ρ q1 => ?_; go_simp; (try clear q1)
  refine Ln hE J fun _ Eb => ?_; clear J K' hE a
  refine M1 Eb 10 fun K' J ρ q10 => ?_; go_simp; (try go_bits); (try clear q10)
  go_at_call 42; refine (C3.out _ hM2).mono ?_; rintro e w3 ⟨⟨O, oc, rfl⟩, h3⟩
  (try clear r10)
  refine Ln Eb J fun _ Ea => ?_; clear J K' Eb
  refine M1 Ea 11 fun K' J ρ q11 => ?_; go_simp; (try go_bits); (try clear q11)
  refine Ln Ea J fun _ Eb => ?_; clear J K' Ea
  refine M1 Eb 12 fun K' J ρ q12 => ?_; go_simp; (try clear q12)
  refine Ln Eb J fun _ Ea => ?_; clear J K' Eb
  refine M0 fun K' J ρ => ?_; go_simp;
  refine Ln Ea J fun _ Eb => ?_; clear J K' Ea
  refine late_done [2, 3] Eb hK (fun a hE => ?_); clear hK K Q' Eb; simp only [lk, pick, Nat.reduceEqDiff, ↓reduceIte] at hE
  refine Ks ?_
  exact ret_two hE rfl rfl rfl ⟨rfl, hb2.trans (h3.mono hb2.size)⟩
end
end Go.Proofs.YtbimkcjdodgojaaGreat
