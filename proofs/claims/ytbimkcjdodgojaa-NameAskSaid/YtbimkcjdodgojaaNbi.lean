/- Name: the law's check of books. -/
import Derived.Test.YtbimkcjdodgojaaNbh
namespace Go.Proofs.Ytbimkcjdodgojaa
set_option linter.unusedSimpArgs false
set_option linter.unusedVariables false
open Go.RowKit
attribute [local go_sem high] cell_set_wr
attribute [local go_sem low] cell_wr frozen_wr
attribute [local go_sem] wr_set wr_drew wr_drewN wr_alloc wr_new Rho.c Rho.n Rho.g

theorem bk_parts {b : Bk} (h : b.ok = true) : b.ear.ok = true ∧ b.lines.length ≤ 9 ∧ (0 ≤ b.lo ∧ b.lo ≤ b.hi ∧ b.hi ≤ 1439) ∧ (0 ≤ b.lost ∧ b.lost ≤ 9) ∧ ∀ i (h : i < b.lines.length), lineB b.lines[i] = true := by
 unfold Bk.ok headB wayB at h
 simp only [Bool.and_eq_true, decide_eq_true_eq, Bool.not_eq_true', decide_eq_false_iff_not, List.all_eq_true] at h
 obtain ⟨h1, ⟨⟨h2, ⟨h3, h4⟩, h5⟩, h6, h7⟩, h8⟩ := h
 exact ⟨h1, by omega, ⟨h3, h4, h5⟩, ⟨h6, h7⟩, fun i hi => h8 _ (List.getElem_mem hi)⟩
set_option maxRecDepth 100000 in
set_option maxHeartbeats 2000000 in
theorem sound_any (A : Option Addr) (cap : Nat) (L : Option Addr) (lcap : Nat) (b : Bk) (w : World) (hM : BkAt w A L b) (hs : b.small cap lcap) : Calls Try.prog 16 #[.agg (bkV A cap L lcap b).toArray] w fun e w' => e = .returned (.bool b.ok) ∧ Below w.heap.size w w' := by
 have C : Hid (∀ W, BkAt W A L b → Calls Try.prog 44 #[.agg (bkV A cap L lcap b).toArray] W fun e w' => e = .returned (.int .i64 (bkE b)) ∧ Below W.heap.size W w') := hid fun W hW => pCheck_any A cap L lcap b W hW hs
 cases ho : b.ok
 ·have e0 : bkE b = 20 := by unfold bkE; rw [ho]; rfl
  rw [e0] at C
  clear e0 ho
  simp only [bkV] at C ⊢
  refine enterE Try.func16 rfl Try.ntmps16 (by simp) (fun a hE => ?_); simp only [envOf, Nat.zero_add, Nat.reduceAdd] at hE
  refine Ks ?_
  refine Rs 2 fun Q' K hK => ?_
  refine M1 hE 0 fun K' J ρ q0 => ?_; go_simp; (try clear q0)
  refine Ln hE J fun _ Eb => ?_; clear J K' hE a
  refine M0 fun K' J ρ => ?_; go_simp;
  refine Ln Eb J fun _ Ea => ?_; clear J K' Eb
  refine late_done [1, 2] Ea hK (fun a hE => ?_); clear hK K Q' Ea; simp only [lk, pick, Nat.reduceEqDiff, ↓reduceIte] at hE
  obtain ⟨B, hBe⟩ : ∃ B, B = w.heap.size := ⟨_, rfl⟩; rw [← hBe] at hE; refine world_cut (fun wt => Below w.heap.size w wt ∧ Cells wt B (bkV A cap L lcap b)) ⟨(Below.refl _ _).alloc (Nat.le_refl _) _, by rw [hBe]; exact cells_new _ _ _⟩ (fun w1 hCut => ?_); obtain ⟨hbw1, hCB⟩ := hCut; clear hBe
  have hM1 := hM.below hbw1
  simp only [bkV] at hCB
  have nB := hCB.1; have cB0 := hCB.2 0 _ rfl; have cB1 := hCB.2 1 _ rfl; have cB2 := hCB.2 2 _ rfl; have cB3 := hCB.2 3 _ rfl; have cB4 := hCB.2 4 _ rfl; have cB5 := hCB.2 5 _ rfl; have cB6 := hCB.2 6 _ rfl
  refine Ks ?_
  refine Rs 25 fun Q' K hK => ?_
  refine M1 hE 1 fun K' J ρ q1 => ?_; go_simp; (try clear q1)
  refine Ln hE J fun _ Eb => ?_; clear J K' hE a
  refine M1 Eb 6 fun K' J ρ q6 => ?_; go_simp; (try go_bits); (try clear q6)
  go_at_call 44; refine (C.out _ hM1).mono ?_; rintro e w2 ⟨rfl, h2⟩
  (try clear r6)
  refine Ln Eb J fun _ Ea => ?_; clear J K' Eb
  refine M1 Ea 7 fun K' J ρ q7 => ?_; go_simp; (try go_bits); (try clear q7)
  refine Ln Ea J fun _ Eb => ?_; clear J K' Ea
  refine M1 Eb 8 fun K' J ρ q8 => ?_; go_simp; (try clear q8)
  refine Ln Eb J fun _ Ea => ?_; clear J K' Eb
  refine Lno Ea 9 ?_
  refine Lu Ea fun _ Eb => ?_
  refine Lno Eb 9 ?_
  refine Lu Eb fun _ Ea => ?_
  refine Lno Ea 9 ?_
  refine Lu Ea fun _ Eb => ?_
  refine M2 Eb 9 12 fun K' J ρ q9 q12 => ?_; go_simp; (try go_bits); (try clear q9 q12)
  refine Ln Eb J fun _ Ea => ?_; clear J K' Eb
  refine M1 Ea 13 fun K' J ρ q13 => ?_; go_simp; (try clear q13)
  refine Ln Ea J fun _ Eb => ?_; clear J K' Ea
  refine Lno Eb 14 ?_
  refine Lu Eb fun _ Ea => ?_
  refine Lno Ea 14 ?_
  refine Lu Ea fun _ Eb => ?_
  refine Lno Eb 14 ?_
  refine Lu Eb fun _ Ea => ?_
  refine Lno Ea 14 ?_
  refine Lu Ea fun _ Eb => ?_
  refine M2 Eb 14 18 fun K' J ρ q14 q18 => ?_; go_simp; (try go_bits); (try clear q14 q18)
  refine Ln Eb J fun _ Ea => ?_; clear J K' Eb
  refine M1 Ea 19 fun K' J ρ q19 => ?_; go_simp; (try clear q19)
  refine Ln Ea J fun _ Eb => ?_; clear J K' Ea
  refine Lno Eb 20 ?_
  refine Lu Eb fun _ Ea => ?_
  refine Lno Ea 20 ?_
  refine Lu Ea fun _ Eb => ?_
  refine Lno Eb 20 ?_
  refine Lu Eb fun _ Ea => ?_
  refine M2 Ea 20 23 fun K' J ρ q20 q23 => ?_; go_simp; (try go_bits); (try clear q20 q23)
  refine Ln Ea J fun _ Eb => ?_; clear J K' Ea
  refine M1 Eb 24 fun K' J ρ q24 => ?_; go_simp; (try clear q24)
  refine Ln Eb J fun _ Ea => ?_; clear J K' Eb
  refine Lno Ea 25 ?_
  refine Lu Ea fun _ Eb => ?_
  refine Lno Eb 25 ?_
  refine Lu Eb fun _ Ea => ?_
  refine Lno Ea 25 ?_
  refine Lu Ea fun _ Eb => ?_
  refine M2 Eb 25 28 fun K' J ρ q25 q28 => ?_; go_simp; (try go_bits); (try clear q25 q28)
  refine Ln Eb J fun _ Ea => ?_; clear J K' Eb
  refine M1 Ea 29 fun K' J ρ q29 => ?_; go_simp; (try clear q29)
  refine Ln Ea J fun _ Eb => ?_; clear J K' Ea
  refine late_done [1, 3] Eb hK (fun a hE => ?_); clear hK K Q' Eb; simp only [lk, pick, Nat.reduceEqDiff, ↓reduceIte] at hE
  have hb2 := hbw1.trans (h2.mono hbw1.size)
  refine Ks ?_
  refine Rs 1 fun Q' K hK => ?_
  refine M0 fun K' J ρ => ?_; go_simp;
  refine Ln hE J fun _ Eb => ?_; clear J K' hE a
  refine late_done [1, 3, 4] Eb hK (fun a hE => ?_); clear hK K Q' Eb; simp only [lk, pick, Nat.reduceEqDiff, ↓reduceIte] at hE
  refine Ks ?_
  refine loop_st (fun (_ : Nat) a w' => Fits 59 [(1, .pointer (some ⟨B, 0, none⟩)), (3, .bool false), (4, .int .i64 0)] a ∧ Below w2.heap.size w2 w') (fun k => k) 0 ⟨by simpa using hE, Below.refl _ _⟩ (fun k a w' hI => ?_)
  clear hE
  obtain ⟨hE, hW⟩ := hI
  obtain ⟨wr, hwr⟩ : ∃ x, x = w' := ⟨_, rfl⟩
  subst hwr
  refine Ks ?_
  refine Rs 8 fun Q' K hK => ?_
  refine M1 hE 3 fun K' J ρ q3 => ?_; go_simp; (try clear q3)
  refine Ln hE J fun _ Eb => ?_; clear J K' hE a
  refine M1 Eb 30 fun K' J ρ q30 => ?_; go_simp; (try clear q30)
  refine Ln Eb J fun _ Ea => ?_; clear J K' Eb
  refine Lno Ea 31 ?_
  refine Lu Ea fun _ Eb => ?_
  refine Lno Eb 31 ?_
  refine Lu Eb fun _ Ea => ?_
  refine Lno Ea 31 ?_
  refine Lu Ea fun _ Eb => ?_
  refine Lno Eb 31 ?_
  refine Lu Eb fun _ Ea => ?_
  refine Lno Ea 31 ?_
  refine Lu Ea fun _ Eb => ?_
  refine M2 Eb 31 36 fun K' J ρ q31 q36 => ?_; go_simp; (try go_bits); (try clear q31 q36)
  refine Ln Eb J fun _ Ea => ?_; clear J K' Eb
  refine late_done [3, 37] Ea hK (fun a hE => ?_); clear hK K Q' Ea; simp only [lk, pick, Nat.reduceEqDiff, ↓reduceIte] at hE
  refine Ks ?_
  refine cond_no hE (t := 37) rfl ?_
  refine Ks ?_
  refine Rs 2 fun Q' K hK => ?_
  refine M1 hE 3 fun K' J ρ q3 => ?_; go_simp; (try clear q3)
  refine Ln hE J fun _ Eb => ?_; clear J K' hE a
  refine M1 Eb 58 fun K' J ρ q58 => ?_; go_simp; (try clear q58)
  refine Ln Eb J fun _ Ea => ?_; clear J K' Eb
  refine late_done [2] Ea hK (fun a hE => ?_); clear hK K Q' Ea; simp only [lk, pick, Nat.reduceEqDiff, ↓reduceIte] at hE
  refine Ks ?_
  exact ret_one hE rfl rfl ⟨rfl, hb2.trans (hW.mono hb2.size)⟩
 ·have e0 : bkE b = 0 := by unfold bkE; rw [ho]; rfl
  rw [e0] at C
  obtain ⟨p1, p2, p3, p4, p5⟩ := bk_parts ho
  have hl9 : (b.lines.length : Int) ≤ 9 := by omega
  have HEa : Hid (∀ W, BkAt W A L b → Calls Try.prog 26 #[.agg #[.slice A b.ear.alike.length cap, .string b.ear.mute, .int .i64 b.ear.slips]] W fun e w' => e = .returned (.bool true) ∧ Below W.heap.size W w') := hid fun W hW => by
   have h := lheard_any A cap b.ear.alike b.ear.mute b.ear.slips W hW.1 hs.1 hs.2.1 hs.2.2.2.2.1
   rw [show Ear.ok ⟨b.ear.alike, b.ear.mute, b.ear.slips⟩ = true from p1] at h
   exact h
  have HS1 : Hid ((decide ((0 : Int) ≤ b.lo) && (decide (b.lo ≤ b.hi) && decide (b.hi ≤ 1439))) = true) := hid (by simp [p3.1, p3.2.1, p3.2.2])
  have HS2 : Hid ((decide ((0 : Int) ≤ b.lost) && decide (b.lost ≤ 9)) = true) := hid (by simp [p4.1, p4.2])
  have HLn : Hid (∀ i (h : i < b.lines.length), (decide ((0 : Int) ≤ b.lines[i].book) && decide (b.lines[i].book ≤ 1)) = true ∧ (decide ((0 : Int) ≤ b.lines[i].minute) && decide (b.lines[i].minute ≤ 1439)) = true ∧ nameB b.lines[i].heard.data.toList = true ∧ b.lines[i].heard.size ≤ 9223372036854775807) := hid fun i h => by
   have h1 := p5 i h
   unfold lineB at h1
   rw [Bool.and_eq_true, Bool.and_eq_true] at h1
   exact ⟨h1.1.1, h1.1.2, h1.2, hs.2.2.2.2.2 i h⟩
  clear e0 ho p1 p2 p3 p4 p5
  simp only [bkV] at C ⊢
  refine enterE Try.func16 rfl Try.ntmps16 (by simp) (fun a hE => ?_); simp only [envOf, Nat.zero_add, Nat.reduceAdd] at hE
  refine Ks ?_
  refine Rs 2 fun Q' K hK => ?_
  refine M1 hE 0 fun K' J ρ q0 => ?_; go_simp; (try clear q0)
  refine Ln hE J fun _ Eb => ?_; clear J K' hE a
  refine M0 fun K' J ρ => ?_; go_simp;
  refine Ln Eb J fun _ Ea => ?_; clear J K' Eb
  refine late_done [1, 2] Ea hK (fun a hE => ?_); clear hK K Q' Ea; simp only [lk, pick, Nat.reduceEqDiff, ↓reduceIte] at hE
  obtain ⟨B, hBe⟩ : ∃ B, B = w.heap.size := ⟨_, rfl⟩; rw [← hBe] at hE; refine world_cut (fun wt => Below w.heap.size w wt ∧ Cells wt B (bkV A cap L lcap b)) ⟨(Below.refl _ _).alloc (Nat.le_refl _) _, by rw [hBe]; exact cells_new _ _ _⟩ (fun w1 hCut => ?_); obtain ⟨hbw1, hCB⟩ := hCut; clear hBe
  have hM1 := hM.below hbw1
  simp only [bkV] at hCB
  have nB := hCB.1; have cB0 := hCB.2 0 _ rfl; have cB1 := hCB.2 1 _ rfl; have cB2 := hCB.2 2 _ rfl; have cB3 := hCB.2 3 _ rfl; have cB4 := hCB.2 4 _ rfl; have cB5 := hCB.2 5 _ rfl; have cB6 := hCB.2 6 _ rfl
  refine Ks ?_
  refine Rs 25 fun Q' K hK => ?_
  refine M1 hE 1 fun K' J ρ q1 => ?_; go_simp; (try clear q1)
  refine Ln hE J fun _ Eb => ?_; clear J K' hE a
  refine M1 Eb 6 fun K' J ρ q6 => ?_; go_simp; (try go_bits); (try clear q6)
  go_at_call 44; refine (C.out _ hM1).mono ?_; rintro e w2 ⟨rfl, h2⟩; have hM2 := hM1.below h2; have hCB2 := hCB.below h2; have n2 := hCB2.1; have c20 := hCB2.2 0 _ rfl; have c21 := hCB2.2 1 _ rfl; have c22 := hCB2.2 2 _ rfl
  (try clear r6)
  refine Ln Eb J fun _ Ea => ?_; clear J K' Eb
  refine M1 Ea 7 fun K' J ρ q7 => ?_; go_simp; (try go_bits); (try clear q7)
  refine Ln Ea J fun _ Eb => ?_; clear J K' Ea
  refine M1 Eb 8 fun K' J ρ q8 => ?_; go_simp; (try clear q8)
  refine Ln Eb J fun _ Ea => ?_; clear J K' Eb
  refine N1 Ea 9 1 fun K' J ρ q1 => ?_; go_simp; (try clear q1)
  refine Ln Ea J fun _ Eb => ?_; clear J K' Ea
  refine N1 Eb 9 10 fun K' J ρ q10 => ?_; go_simp; (try clear q10)
  refine Ln Eb J fun _ Ea => ?_; clear J K' Eb
  refine N1 Ea 9 11 fun K' J ρ q11 => ?_; go_simp; (try go_bits); (try clear q11)
  go_at_call 26; refine (HEa.out _ hM2).mono ?_; rintro e w3 ⟨rfl, h3⟩; have hCB3 := hCB2.below h3; have n3 := hCB3.1; have c33 := hCB3.2 3 _ rfl; have c34 := hCB3.2 4 _ rfl; have c35 := hCB3.2 5 _ rfl
  (try clear r11)
  refine Ln Ea J fun _ Eb => ?_; clear J K' Ea
  refine M2 Eb 9 12 fun K' J ρ q9 q12 => ?_; go_simp; (try go_bits); (try clear q9 q12)
  refine Ln Eb J fun _ Ea => ?_; clear J K' Eb
  refine M1 Ea 13 fun K' J ρ q13 => ?_; go_simp; (try clear q13)
  refine Ln Ea J fun _ Eb => ?_; clear J K' Ea
  refine N1 Eb 14 1 fun K' J ρ q1 => ?_; go_simp; (try clear q1)
  refine Ln Eb J fun _ Ea => ?_; clear J K' Eb
  refine N1 Ea 14 15 fun K' J ρ q15 => ?_; go_simp; (try clear q15)
  refine Ln Ea J fun _ Eb => ?_; clear J K' Ea
  refine N1 Eb 14 16 fun K' J ρ q16 => ?_; go_simp; (try go_bits); (try clear q16)
  refine Ln Eb J fun _ Ea => ?_; clear J K' Eb
  refine N1 Ea 14 17 fun K' J ρ q17 => ?_; go_simp; (try go_bits); (try clear q17)
  refine Ln Ea J fun _ Eb => ?_; clear J K' Ea
  refine M2 Eb 14 18 fun K' J ρ q14 q18 => ?_; go_simp; (try go_bits); (try clear q14 q18)
  refine Ln Eb J fun _ Ea => ?_; clear J K' Eb
  refine M1 Ea 19 fun K' J ρ q19 => ?_; go_simp; (try clear q19)
  refine Ln Ea J fun _ Eb => ?_; clear J K' Ea
  refine N1 Eb 20 1 fun K' J ρ q1 => ?_; go_simp; (try clear q1)
  refine Ln Eb J fun _ Ea => ?_; clear J K' Eb
  refine N1 Ea 20 21 fun K' J ρ q21 => ?_; go_simp; (try clear q21)
  refine Ln Ea J fun _ Eb => ?_; clear J K' Ea
  refine N1 Eb 20 22 fun K' J ρ q22 => ?_; go_simp; (try go_bits); (try clear q22)
  go_at_call 55; refine (spans_any _ _ _ _ _).mono ?_; rw [HS1.out]; rintro e w4 ⟨rfl, h4⟩; have hCB4 := hCB3.below h4; have n4 := hCB4.1; have c46 := hCB4.2 6 _ rfl
  (try clear r22)
  refine Ln Eb J fun _ Ea => ?_; clear J K' Eb
  refine M2 Ea 20 23 fun K' J ρ q20 q23 => ?_; go_simp; (try go_bits); (try clear q20 q23)
  refine Ln Ea J fun _ Eb => ?_; clear J K' Ea
  refine M1 Eb 24 fun K' J ρ q24 => ?_; go_simp; (try clear q24)
  refine Ln Eb J fun _ Ea => ?_; clear J K' Eb
  refine N1 Ea 25 1 fun K' J ρ q1 => ?_; go_simp; (try clear q1)
  refine Ln Ea J fun _ Eb => ?_; clear J K' Ea
  refine N1 Eb 25 26 fun K' J ρ q26 => ?_; go_simp; (try clear q26)
  refine Ln Eb J fun _ Ea => ?_; clear J K' Eb
  refine N1 Ea 25 27 fun K' J ρ q27 => ?_; go_simp; (try go_bits); (try clear q27)
  go_at_call 25; refine (between_any _ _ _ _).mono ?_; rw [HS2.out]; rintro e w5 ⟨rfl, rfl⟩
  (try clear r27)
  refine Ln Ea J fun _ Eb => ?_; clear J K' Ea
  refine M2 Eb 25 28 fun K' J ρ q25 q28 => ?_; go_simp; (try go_bits); (try clear q25 q28)
  refine Ln Eb J fun _ Ea => ?_; clear J K' Eb
  refine M1 Ea 29 fun K' J ρ q29 => ?_; go_simp; (try clear q29)
  refine Ln Ea J fun _ Eb => ?_; clear J K' Ea
  refine late_done [1, 3] Eb hK (fun a hE => ?_); clear hK K Q' Eb; simp only [lk, pick, Nat.reduceEqDiff, ↓reduceIte] at hE
  have h14 := h2.trans ((h3.trans (h4.mono h3.size)).mono h2.size)
  have hb4 := hbw1.trans (h14.mono hbw1.size)
  have hM4 := hM.below hb4
  clear nB cB0 cB1 cB2 cB3 cB4 cB5 cB6 n2 c20 c21 c22 n3 c33 c34 c35 n4 c46 hCB hl9 hM1 hM2 hCB2 hCB3 h2 h3 h4 C HEa
  refine Ks ?_
  refine Rs 1 fun Q' K hK => ?_
  refine M0 fun K' J ρ => ?_; go_simp;
  refine Ln hE J fun _ Eb => ?_; clear J K' hE a
  refine late_done [1, 3, 4] Eb hK (fun a hE => ?_); clear hK K Q' Eb; simp only [lk, pick, Nat.reduceEqDiff, ↓reduceIte] at hE
  refine Ks ?_
  refine loop_st (fun (k : Nat) a w' => k ≤ b.lines.length ∧ Fits 59 [(1, .pointer (some ⟨B, 0, none⟩)), (3, .bool true), (4, .int .i64 k)] a ∧ Below w4.heap.size w4 w') (fun k => b.lines.length - k) 0 ⟨Nat.zero_le _, by simpa using hE, Below.refl _ _⟩ (fun k a w' hI => ?_)
  clear hE
  obtain ⟨hk, hE, hW⟩ := hI
  obtain ⟨wr, hwr⟩ : ∃ x, x = w' := ⟨_, rfl⟩
  subst hwr
  have hCr := hCB4.below hW
  have nr := hCr.1
  have cr3 := hCr.2 3 _ rfl
  refine Ks ?_
  refine Rs 8 fun Q' K hK => ?_
  refine M1 hE 3 fun K' J ρ q3 => ?_; go_simp; (try clear q3)
  refine Ln hE J fun _ Eb => ?_; clear J K' hE a
  refine M1 Eb 30 fun K' J ρ q30 => ?_; go_simp; (try clear q30)
  refine Ln Eb J fun _ Ea => ?_; clear J K' Eb
  refine N1 Ea 31 4 fun K' J ρ q4 => ?_; go_simp; (try clear q4)
  refine Ln Ea J fun _ Eb => ?_; clear J K' Ea
  refine N1 Eb 31 1 fun K' J ρ q1 => ?_; go_simp; (try clear q1)
  refine Ln Eb J fun _ Ea => ?_; clear J K' Eb
  refine N1 Ea 31 33 fun K' J ρ q33 => ?_; go_simp; (try clear q33)
  refine Ln Ea J fun _ Eb => ?_; clear J K' Ea
  refine N1 Eb 31 34 fun K' J ρ q34 => ?_; go_simp; (try go_bits); (try clear q34)
  refine Ln Eb J fun _ Ea => ?_; clear J K' Eb
  refine N2 Ea 31 32 35 fun K' J ρ q32 q35 => ?_; go_simp; (try go_bits); (try clear q32 q35)
  refine Ln Ea J fun _ Eb => ?_; clear J K' Ea
  refine M2 Eb 31 36 fun K' J ρ q31 q36 => ?_; go_simp; (try go_bits); (try clear q31 q36)
  refine Ln Eb J fun _ Ea => ?_; clear J K' Eb
  refine late_done [1, 3, 4, 37] Ea hK (fun a hE => ?_); clear hK K Q' Ea; simp only [lk, pick, Nat.reduceEqDiff, ↓reduceIte] at hE
  refine Ks ?_
  refine cond_part hE (t := 37) rfl (fun h => ?_) (fun h => ?_)
  ·have hlt : k < b.lines.length := by have := of_decide_eq_true h; omega
   clear h
   have hltI : (k : Int) < b.lines.length := by omega
   have hl63 := hs.2.2.2.1
   obtain ⟨b0, o0, rfl, hb0, c0, c1, c2⟩ := (hM4.below hW).2.nl hlt
   obtain ⟨q1, q2, q3, q4⟩ := HLn.out k hlt
   obtain ⟨ln, hln⟩ : ∃ ln, b.lines[k] = ln := ⟨_, rfl⟩
   rw [hln] at c0 c1 c2 q1 q2 q3 q4
   have Q1 := hid q1
   have Q2 := hid q2
   have Q3 := hid q3
   have Q4 := hid q4
   clear q1 q2 q3 q4 hln
   refine Ks ?_
   refine Rs 7 fun Q' K hK => ?_
   refine M1 hE 1 fun K' J ρ q1 => ?_; go_simp; (try clear q1)
   refine Ln hE J fun _ Eb => ?_; clear J K' hE a
   refine M1 Eb 40 fun K' J ρ q40 => ?_; go_simp; (try clear q40)
   refine Ln Eb J fun _ Ea => ?_; clear J K' Eb
   refine M1 Ea 4 fun K' J ρ q4 => ?_; go_simp; (try clear q4)
   refine Ln Ea J fun _ Eb => ?_; clear J K' Ea
   refine M2 Eb 41 42 fun K' J ρ q41 q42 => ?_; go_simp; (try go_bits); (try clear q41 q42)
   refine Ln Eb J fun _ Ea => ?_; clear J K' Eb
   refine M1 Ea 43 fun K' J ρ q43 => ?_; go_simp; (try clear q43)
   refine Ln Ea J fun _ Eb => ?_; clear J K' Ea
   refine M0 fun K' J ρ => ?_; go_simp;
   refine Ln Eb J fun _ Ea => ?_; clear J K' Eb
   refine M2 Ea 5 44 fun K' J ρ q5 q44 => ?_; go_simp; (try clear q5 q44)
   refine late_skip Ea J (fun _ Eb => ?_); clear J K'; clear Ea
   refine late_done [1, 3, 4, 5] Eb hK (fun a hE => ?_); clear hK K Q' Eb; simp only [lk, pick, Nat.reduceEqDiff, ↓reduceIte] at hE
   obtain ⟨S, hSe⟩ : ∃ B, B = wr.heap.size := ⟨_, rfl⟩; rw [← hSe] at hE; refine world_cut (fun wt => Below wr.heap.size wr wt ∧ Cells wt S [.int .i64 ln.book, .int .i64 ln.minute, .string ln.heard]) ⟨(Below.refl _ _).alloc (Nat.le_refl _) _, by rw [hSe]; exact cells_new _ _ _⟩ (fun wx hCut => ?_); obtain ⟨hbwx, hCS⟩ := hCut; clear hSe
   clear c0 c1 c2 nr cr3
   have nS := hCS.1; have cS0 := hCS.2 0 _ rfl; have cS1 := hCS.2 1 _ rfl; have cS2 := hCS.2 2 _ rfl
   refine Ks ?_
   refine Rs 14 fun Q' K hK => ?_
   refine M1 hE 5 fun K' J ρ q5 => ?_; go_simp; (try clear q5)
   refine Ln hE J fun _ Eb => ?_; clear J K' hE a
   refine M1 Eb 45 fun K' J ρ q45 => ?_; go_simp; (try clear q45)
   refine Ln Eb J fun _ Ea => ?_; clear J K' Eb
   refine M1 Ea 46 fun K' J ρ q46 => ?_; go_simp; (try go_bits); (try clear q46)
   go_at_call 25; refine (between_any _ _ _ _).mono ?_; rw [Q1.out]; rintro e w5 ⟨rfl, rfl⟩
   (try clear r46)
   refine Ln Ea J fun _ Eb => ?_; clear J K' Ea
   refine M1 Eb 47 fun K' J ρ q47 => ?_; go_simp; (try clear q47)
   refine Ln Eb J fun _ Ea => ?_; clear J K' Eb
   refine N1 Ea 48 5 fun K' J ρ q5 => ?_; go_simp; (try clear q5)
   refine Ln Ea J fun _ Eb => ?_; clear J K' Ea
   refine N1 Eb 48 49 fun K' J ρ q49 => ?_; go_simp; (try clear q49)
   refine Ln Eb J fun _ Ea => ?_; clear J K' Eb
   refine N1 Ea 48 50 fun K' J ρ q50 => ?_; go_simp; (try go_bits); (try clear q50)
   go_at_call 25; refine (between_any _ _ _ _).mono ?_; rw [Q2.out]; rintro e w5 ⟨rfl, rfl⟩
   (try clear r50)
   refine Ln Ea J fun _ Eb => ?_; clear J K' Ea
   refine M2 Eb 48 51 fun K' J ρ q48 q51 => ?_; go_simp; (try go_bits); (try clear q48 q51)
   refine Ln Eb J fun _ Ea => ?_; clear J K' Eb
   refine M1 Ea 52 fun K' J ρ q52 => ?_; go_simp; (try clear q52)
   refine Ln Ea J fun _ Eb => ?_; clear J K' Ea
   refine N1 Eb 53 5 fun K' J ρ q5 => ?_; go_simp; (try clear q5)
   refine Ln Eb J fun _ Ea => ?_; clear J K' Eb
   refine N1 Ea 53 54 fun K' J ρ q54 => ?_; go_simp; (try clear q54)
   refine Ln Ea J fun _ Eb => ?_; clear J K' Ea
   refine N1 Eb 53 55 fun K' J ρ q55 => ?_; go_simp; (try go_bits); (try clear q55)
   go_at_call 27; refine (rNames_any _ _ Q4.out).mono ?_; rw [Q3.out]; rintro e w5 ⟨rfl, rfl⟩
   (try clear r55)
   refine Ln Eb J fun _ Ea => ?_; clear J K' Eb
   refine M2 Ea 53 56 fun K' J ρ q53 q56 => ?_; go_simp; (try go_bits); (try clear q53 q56)
   refine Ln Ea J fun _ Eb => ?_; clear J K' Ea
   refine M1 Eb 57 fun K' J ρ q57 => ?_; go_simp; (try clear q57)
   refine Ln Eb J fun _ Ea => ?_; clear J K' Eb
   refine late_done [1, 3, 4] Ea hK (fun a hE => ?_); clear hK K Q' Ea; simp only [lk, pick, Nat.reduceEqDiff, ↓reduceIte] at hE
   refine Ks ?_
   refine Rs 3 fun Q' K hK => ?_
   refine M1 hE 4 fun K' J ρ q4 => ?_; go_simp; (try clear q4)
   refine Ln hE J fun _ Eb => ?_; clear J K' hE a
   refine M1 Eb 38 fun K' J ρ q38 => ?_; go_simp; (try go_bits); (try simp (disch := omega) only [IntWalk.i64_in]); (try clear q38)
   refine Ln Eb J fun _ Ea => ?_; clear J K' Eb
   refine M1 Ea 39 fun K' J ρ q39 => ?_; go_simp; (try clear q39)
   refine Ln Ea J fun _ Eb => ?_; clear J K' Ea
   refine late_done [1, 3, 4] Eb hK (fun a hE => ?_); clear hK K Q' Eb; simp only [lk, pick, Nat.reduceEqDiff, ↓reduceIte] at hE
   refine Ks ?_
   exact ⟨k + 1, ⟨hlt, by simpa using hE, hW.trans (hbwx.mono hW.size)⟩, by omega⟩
  ·refine Ks ?_
   refine Rs 2 fun Q' K hK => ?_
   refine M1 hE 3 fun K' J ρ q3 => ?_; go_simp; (try clear q3)
   refine Ln hE J fun _ Eb => ?_; clear J K' hE a
   refine M1 Eb 58 fun K' J ρ q58 => ?_; go_simp; (try clear q58)
   refine Ln Eb J fun _ Ea => ?_; clear J K' Eb
   refine late_done [2] Ea hK (fun a hE => ?_); clear hK K Q' Ea; simp only [lk, pick, Nat.reduceEqDiff, ↓reduceIte] at hE
   refine Ks ?_
   exact ret_one hE rfl rfl ⟨rfl, hb4.trans (hW.mono hb4.size)⟩
end Go.Proofs.Ytbimkcjdodgojaa
