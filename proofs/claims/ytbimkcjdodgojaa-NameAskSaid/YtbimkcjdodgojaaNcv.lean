/- Name: the law of what is best asked, walked. -/
import Derived.Test.YtbimkcjdodgojaaNcu
import Derived.Test.YtbimkcjdodgojaaNbf
namespace Go.Proofs.Ytbimkcjdodgojaa
set_option linter.unusedSimpArgs false
set_option linter.unusedVariables false
open Go Go.RowKit
attribute [local go_sem high] cell_set_wr
attribute [local go_sem low] cell_wr frozen_wr
attribute [local go_sem] wr_set wr_drew wr_drewN wr_alloc wr_new Rho.c Rho.n Rho.g

section
variable (A : Option Addr) (cap : Nat) (L : Option Addr) (lcap : Nat) (b : Bk)
set_option maxRecDepth 100000 in
set_option maxHeartbeats 2000000 in
theorem ask_bad (ho : b.ok = false) (n : Int) (w : World) (hM : BkAt w A L b) (hs : b.small cap lcap) : Calls Try.prog 9 #[.agg (bkV A cap L lcap b).toArray, .int .i64 n] w fun e w' => e = .returned (.bool true) ∧ Below w.heap.size w w' := by
 have C1 : Hid (∀ W, BkAt W A L b → Calls Try.prog 41 #[.agg (bkV A cap L lcap b).toArray] W fun e w' => e = .returned (.tuple #[.int .i64 0, .int .i64 20]) ∧ Below W.heap.size W w') := hid fun W hW => by
  have h := pAsk_any A cap L lcap b W hW hs
  have e1 : setE b true = 20 := by unfold setE refE; rw [ho]; rfl
  have e2 : pAskR b = (0, 20) := by unfold pAskR; rw [e1]; rfl
  rw [e2] at h
  exact h
 have C2 : Hid (∀ W, BkAt W A L b → Calls Try.prog 16 #[.agg (bkV A cap L lcap b).toArray] W fun e w' => e = .returned (.bool false) ∧ Below W.heap.size W w') := hid fun W hW => by
  have h := sound_any A cap L lcap b W hW hs
  rw [ho] at h
  exact h
 clear ho
 simp only [bkV] at C1 C2 ⊢
 refine enterE Try.func9 rfl Try.ntmps9 (by simp) (fun a hE => ?_); simp only [envOf, Nat.zero_add, Nat.reduceAdd] at hE
 refine Ks ?_
 refine Rs 2 fun Q' K hK => ?_
 refine M1 hE 0 fun K' J ρ q0 => ?_; go_simp; (try clear q0)
 refine Ln hE J fun _ Eb => ?_; clear J K' hE a
 refine M0 fun K' J ρ => ?_; go_simp;
 refine Ln Eb J fun _ Ea => ?_; clear J K' Eb
 refine late_done [2] Ea hK (fun a hE => ?_); clear hK K Q' Ea; simp only [lk, pick, Nat.reduceEqDiff, ↓reduceIte] at hE
 obtain ⟨B, hBe⟩ : ∃ B, B = w.heap.size := ⟨_, rfl⟩; rw [← hBe] at hE; refine world_cut (fun wt => Below w.heap.size w wt ∧ Cells wt B (bkV A cap L lcap b)) ⟨(Below.refl _ _).alloc (Nat.le_refl _) _, by rw [hBe]; exact cells_new _ _ _⟩ (fun w1 hCut => ?_); obtain ⟨hbw1, hCB⟩ := hCut; clear hBe
 have hM1 := hM.below hbw1
 simp only [bkV] at hCB
 have nB := hCB.1; have cB0 := hCB.2 0 _ rfl; have cB1 := hCB.2 1 _ rfl; have cB2 := hCB.2 2 _ rfl; have cB3 := hCB.2 3 _ rfl; have cB4 := hCB.2 4 _ rfl; have cB5 := hCB.2 5 _ rfl; have cB6 := hCB.2 6 _ rfl
 refine Ks ?_
 refine Rs 7 fun Q' K hK => ?_
 refine M1 hE 2 fun K' J ρ q2 => ?_; go_simp; (try clear q2)
 refine Ln hE J fun _ Eb => ?_; clear J K' hE a
 refine M1 Eb 15 fun K' J ρ q15 => ?_; go_simp; (try go_bits); (try clear q15)
 go_at_call 41; refine (C1.out _ hM1).mono ?_; rintro e w2 ⟨rfl, h2⟩
 (try clear r15)
 refine Ln Eb J fun _ Ea => ?_; clear J K' Eb
 refine M1 Ea 16 fun K' J ρ q16 => ?_; go_simp; (try clear q16)
 refine Ln Ea J fun _ Eb => ?_; clear J K' Ea
 refine M1 Eb 14 fun K' J ρ q14 => ?_; go_simp; (try clear q14)
 refine Ln Eb J fun _ Ea => ?_; clear J K' Eb
 refine M1 Ea 14 fun K' J ρ q14 => ?_; go_simp; (try clear q14)
 refine Ln Ea J fun _ Eb => ?_; clear J K' Ea
 refine M1 Eb 17 fun K' J ρ q17 => ?_; go_simp; (try clear q17)
 refine Ln Eb J fun _ Ea => ?_; clear J K' Eb
 refine M1 Ea 18 fun K' J ρ q18 => ?_; go_simp; (try clear q18)
 refine Ln Ea J fun _ Eb => ?_; clear J K' Ea
 refine late_done [2, 5, 6] Eb hK (fun a hE => ?_); clear hK K Q' Eb; simp only [lk, pick, Nat.reduceEqDiff, ↓reduceIte] at hE
 have hb2 := hbw1.trans (h2.mono hbw1.size)
 have hM2 := hM.below hb2
 replace hCB := hCB.below h2
 clear nB cB0 cB1 cB2 cB3 cB4 cB5 cB6
 have nB := hCB.1; have cB0 := hCB.2 0 _ rfl; have cB1 := hCB.2 1 _ rfl; have cB2 := hCB.2 2 _ rfl; have cB3 := hCB.2 3 _ rfl; have cB4 := hCB.2 4 _ rfl; have cB5 := hCB.2 5 _ rfl; have cB6 := hCB.2 6 _ rfl
 refine Ks ?_
 refine Rs 3 fun Q' K hK => ?_
 refine M1 hE 2 fun K' J ρ q2 => ?_; go_simp; (try clear q2)
 refine Ln hE J fun _ Eb => ?_; clear J K' hE a
 refine M1 Eb 19 fun K' J ρ q19 => ?_; go_simp; (try go_bits); (try clear q19)
 go_at_call 16; refine (C2.out _ hM2).mono ?_; rintro e w3 ⟨rfl, h3⟩
 (try clear r19)
 refine Ln Eb J fun _ Ea => ?_; clear J K' Eb
 refine M1 Ea 20 fun K' J ρ q20 => ?_; go_simp; (try go_bits); (try simp (disch := omega) only [IntWalk.i64_in]); (try clear q20)
 refine Ln Ea J fun _ Eb => ?_; clear J K' Ea
 refine late_done [5, 6, 21] Eb hK (fun a hE => ?_); clear hK K Q' Eb; simp only [lk, pick, Nat.reduceEqDiff, ↓reduceIte] at hE
 refine Ks ?_
 refine cond_yes hE (t := 21) rfl ?_
 refine Ks ?_
 refine Rs 10 fun Q' K hK => ?_
 refine M1 hE 6 fun K' J ρ q6 => ?_; go_simp; (try clear q6)
 refine Ln hE J fun _ Eb => ?_; clear J K' hE a
 refine M1 Eb 22 fun K' J ρ q22 => ?_; go_simp; (try go_bits); (try clear q22)
 refine Ln Eb J fun _ Ea => ?_; clear J K' Eb
 replace Ea := Ea.turn 23 (v' := .bool true) rfl (by (first | rfl | simp))
 refine M1 Ea 23 fun K' J ρ q23 => ?_; go_simp; (try clear q23)
 refine Ln Ea J fun _ Eb => ?_; clear J K' Ea
 refine N1 Eb 24 5 fun K' J ρ q5 => ?_; go_simp; (try clear q5)
 refine Ln Eb J fun _ Ea => ?_; clear J K' Eb
 refine N1 Ea 24 25 fun K' J ρ q25 => ?_; go_simp; (try go_bits); (try clear q25)
 refine Ln Ea J fun _ Eb => ?_; clear J K' Ea
 replace Eb := Eb.turn 26 (v' := .bool true) rfl (by (first | rfl | simp))
 refine M2 Eb 24 26 fun K' J ρ q24 q26 => ?_; go_simp; (try go_bits); (try clear q24 q26)
 refine Ln Eb J fun _ Ea => ?_; clear J K' Eb
 replace Ea := Ea.turn 27 (v' := .bool true) rfl (by (first | rfl | simp))
 refine M1 Ea 27 fun K' J ρ q27 => ?_; go_simp; (try clear q27)
 refine Ln Ea J fun _ Eb => ?_; clear J K' Ea
 refine Ly Eb 28 fun K' J => ?_
 refine o0 fun ρ => ?_; go_simp; (try go_bits);
 go_at_call 15; refine (written_any _).mono ?_; rintro e w4 ⟨rfl, h4⟩
 refine Ln Eb J fun _ Ea => ?_; clear J K' Eb
 refine M2 Ea 28 29 fun K' J ρ q28 q29 => ?_; go_simp; (try go_bits); (try clear q28 q29)
 refine Ln Ea J fun _ Eb => ?_; clear J K' Ea
 refine M1 Eb 30 fun K' J ρ q30 => ?_; go_simp; (try clear q30)
 refine Ln Eb J fun _ Ea => ?_; clear J K' Eb
 refine late_done [4] Ea hK (fun a hE => ?_); clear hK K Q' Ea; simp only [lk, pick, Nat.reduceEqDiff, ↓reduceIte] at hE
 refine Ks ?_
 exact ret_one hE rfl rfl ⟨rfl, hb2.trans ((h3.trans (h4.mono h3.size)).mono hb2.size)⟩
set_option maxRecDepth 100000 in
set_option maxHeartbeats 4000000 in
theorem ask_good (ho : b.ok = true) (n : Int) (w : World) (hM : BkAt w A L b) (hs : b.small cap lcap) : Calls Try.prog 9 #[.agg (bkV A cap L lcap b).toArray, .int .i64 n] w fun e w' => e = .returned (.bool true) ∧ Below w.heap.size w w' := by
 have h9 := ok_nine ho
 have hfew := ts_few h9
 have HS := hid (set_ok ho)
 obtain ⟨m, hm⟩ : ∃ m, b.ts.length = m := ⟨_, rfl⟩
 obtain ⟨av, ev, hpe, hcase⟩ : ∃ av ev : Int, pAskR b = (av, ev) ∧ ((m = 0 ∧ av = 0 ∧ ev = 22) ∨ (m = 1 ∧ av = 0 ∧ ev = 4) ∨ (2 ≤ m ∧ av = (askP (worstP b) b.lines.length : Nat) ∧ ev = 0)) := by
  have hset := HS.out
  rw [hm] at hset
  unfold pAskR
  by_cases m0 : m = 0
  ·rw [if_pos m0] at hset
   rw [hset]
   exact ⟨_, _, rfl, .inl ⟨m0, rfl, rfl⟩⟩
  ·rw [if_neg m0] at hset
   rw [hset, if_pos rfl, hm]
   by_cases m1 : m = 1
   ·rw [if_pos m1]
    exact ⟨_, _, rfl, .inr (.inl ⟨m1, rfl, rfl⟩)⟩
   ·rw [if_neg m1]
    exact ⟨_, _, rfl, .inr (.inr ⟨by omega, rfl, rfl⟩)⟩
 have C1 : Hid (∀ W, BkAt W A L b → Calls Try.prog 41 #[.agg (bkV A cap L lcap b).toArray] W fun e w' => e = .returned (.tuple #[.int .i64 av, .int .i64 ev]) ∧ Below W.heap.size W w') := hid fun W hW => by
  have h := pAsk_any A cap L lcap b W hW hs
  rw [hpe] at h
  exact h
 have C2 : Hid (∀ W, BkAt W A L b → Calls Try.prog 16 #[.agg (bkV A cap L lcap b).toArray] W fun e w' => e = .returned (.bool true) ∧ Below W.heap.size W w') := hid fun W hW => by
  have h := sound_any A cap L lcap b W hW hs
  rw [ho] at h
  exact h
 have C3 : Hid (∀ W, BkAt W A L b → Calls Try.prog 30 #[.agg (bkV A cap L lcap b).toArray] W fun e w' => e = .returned (.tuple #[.int .i64 m, .int .i64 0]) ∧ Below W.heap.size W w') := hid fun W hW => by
  have h := pTruths_any A cap L lcap b W hW hs
  unfold pTruthsR at h
  rw [ho, hm] at h
  exact h
 have C4 : Hid (∀ i0 : Nat, i0 < b.lines.length → ∀ W, BkAt W A L b → Calls Try.prog 42 #[.agg (bkV A cap L lcap b).toArray, .int .i64 i0, .int .i64 m] W fun e w' => e = .returned (.tuple #[.int .i64 (worstP b i0), .bool true]) ∧ Below W.heap.size W w') := hid fun i0 hi W hW => by
  have h := worst_any A cap L lcap b ho i0 hi W hW hs
  rw [hm] at h
  exact h
 have hn0 : 2 ≤ m → 0 < b.lines.length := fun h2 => by
  rcases Nat.eq_zero_or_pos b.lines.length with h | h
  ·exfalso
   have : b.ts.length ≤ 1 := by
    unfold Bk.ts
    rw [h]
    unfold fromP
    split <;> simp
   omega
  ·exact h
 rw [hm] at hfew
 have HN0 := hid hn0
 clear hm hpe ho hn0
 simp only [bkV] at C1 C2 C3 C4 ⊢
 refine enterE Try.func9 rfl Try.ntmps9 (by simp) (fun a hE => ?_); simp only [envOf, Nat.zero_add, Nat.reduceAdd] at hE
 refine Ks ?_
 refine Rs 2 fun Q' K hK => ?_
 refine M1 hE 0 fun K' J ρ q0 => ?_; go_simp; (try clear q0)
 refine Ln hE J fun _ Eb => ?_; clear J K' hE a
 refine M0 fun K' J ρ => ?_; go_simp;
 refine Ln Eb J fun _ Ea => ?_; clear J K' Eb
 refine late_done [1, 2] Ea hK (fun a hE => ?_); clear hK K Q' Ea; simp only [lk, pick, Nat.reduceEqDiff, ↓reduceIte] at hE
 obtain ⟨B, hBe⟩ : ∃ B, B = w.heap.size := ⟨_, rfl⟩; rw [← hBe] at hE; refine world_cut (fun wt => Below w.heap.size w wt ∧ Cells wt B (bkV A cap L lcap b)) ⟨(Below.refl _ _).alloc (Nat.le_refl _) _, by rw [hBe]; exact cells_new _ _ _⟩ (fun w1 hCut => ?_); obtain ⟨hbw1, hCB⟩ := hCut; clear hBe
 have hM1 := hM.below hbw1
 simp only [bkV] at hCB
 have nB := hCB.1; have cB0 := hCB.2 0 _ rfl; have cB1 := hCB.2 1 _ rfl; have cB2 := hCB.2 2 _ rfl; have cB3 := hCB.2 3 _ rfl; have cB4 := hCB.2 4 _ rfl; have cB5 := hCB.2 5 _ rfl; have cB6 := hCB.2 6 _ rfl
 refine Ks ?_
 refine Rs 7 fun Q' K hK => ?_
 refine M1 hE 2 fun K' J ρ q2 => ?_; go_simp; (try clear q2)
 refine Ln hE J fun _ Eb => ?_; clear J K' hE a
 refine M1 Eb 15 fun K' J ρ q15 => ?_; go_simp; (try go_bits); (try clear q15)
 go_at_call 41; refine (C1.out _ hM1).mono ?_; rintro e w2 ⟨rfl, h2⟩
 (try clear r15)
 refine Ln Eb J fun _ Ea => ?_; clear J K' Eb
 refine M1 Ea 16 fun K' J ρ q16 => ?_; go_simp; (try clear q16)
 refine Ln Ea J fun _ Eb => ?_; clear J K' Ea
 refine M1 Eb 14 fun K' J ρ q14 => ?_; go_simp; (try clear q14)
 refine Ln Eb J fun _ Ea => ?_; clear J K' Eb
 refine M1 Ea 14 fun K' J ρ q14 => ?_; go_simp; (try clear q14)
 refine Ln Ea J fun _ Eb => ?_; clear J K' Ea
 refine M1 Eb 17 fun K' J ρ q17 => ?_; go_simp; (try clear q17)
 refine Ln Eb J fun _ Ea => ?_; clear J K' Eb
 refine M1 Ea 18 fun K' J ρ q18 => ?_; go_simp; (try clear q18)
 refine Ln Ea J fun _ Eb => ?_; clear J K' Ea
 refine late_done [1, 2, 5, 6] Eb hK (fun a hE => ?_); clear hK K Q' Eb; simp only [lk, pick, Nat.reduceEqDiff, ↓reduceIte] at hE
 have hb2 := hbw1.trans (h2.mono hbw1.size)
 have hM2 := hM.below hb2
 replace hCB := hCB.below h2
 clear nB cB0 cB1 cB2 cB3 cB4 cB5 cB6 hM1
 have nB := hCB.1; have cB0 := hCB.2 0 _ rfl; have cB1 := hCB.2 1 _ rfl; have cB2 := hCB.2 2 _ rfl; have cB3 := hCB.2 3 _ rfl; have cB4 := hCB.2 4 _ rfl; have cB5 := hCB.2 5 _ rfl; have cB6 := hCB.2 6 _ rfl
 refine Ks ?_
 refine Rs 3 fun Q' K hK => ?_
 refine M1 hE 2 fun K' J ρ q2 => ?_; go_simp; (try clear q2)
 refine Ln hE J fun _ Eb => ?_; clear J K' hE a
 refine M1 Eb 19 fun K' J ρ q19 => ?_; go_simp; (try go_bits); (try clear q19)
 go_at_call 16; refine (C2.out _ hM2).mono ?_; rintro e w3 ⟨rfl, h3⟩
 (try clear r19)
 refine Ln Eb J fun _ Ea => ?_; clear J K' Eb
 refine M1 Ea 20 fun K' J ρ q20 => ?_; go_simp; (try go_bits); (try simp (disch := omega) only [IntWalk.i64_in]); (try clear q20)
 refine Ln Ea J fun _ Eb => ?_; clear J K' Ea
 refine late_done [1, 2, 5, 6, 21] Eb hK (fun a hE => ?_); clear hK K Q' Eb; simp only [lk, pick, Nat.reduceEqDiff, ↓reduceIte] at hE
 have hb3 := hb2.trans (h3.mono hb2.size)
 have hM3 := hM.below hb3
 replace hCB := hCB.below h3
 clear nB cB0 cB1 cB2 cB3 cB4 cB5 cB6 hM2
 have nB := hCB.1; have cB0 := hCB.2 0 _ rfl; have cB1 := hCB.2 1 _ rfl; have cB2 := hCB.2 2 _ rfl; have cB3 := hCB.2 3 _ rfl; have cB4 := hCB.2 4 _ rfl; have cB5 := hCB.2 5 _ rfl; have cB6 := hCB.2 6 _ rfl
 refine Ks ?_
 refine cond_no hE (t := 21) rfl ?_
 refine Ks ?_
 refine Rs 7 fun Q' K hK => ?_
 refine M1 hE 2 fun K' J ρ q2 => ?_; go_simp; (try clear q2)
 refine Ln hE J fun _ Eb => ?_; clear J K' hE a
 refine M1 Eb 32 fun K' J ρ q32 => ?_; go_simp; (try go_bits); (try clear q32)
 go_at_call 30; refine (C3.out _ hM3).mono ?_; rintro e w4 ⟨rfl, h4⟩
 (try clear r32)
 refine Ln Eb J fun _ Ea => ?_; clear J K' Eb
 refine M1 Ea 33 fun K' J ρ q33 => ?_; go_simp; (try clear q33)
 refine Ln Ea J fun _ Eb => ?_; clear J K' Ea
 refine M1 Eb 31 fun K' J ρ q31 => ?_; go_simp; (try clear q31)
 refine Ln Eb J fun _ Ea => ?_; clear J K' Eb
 refine M1 Ea 31 fun K' J ρ q31 => ?_; go_simp; (try clear q31)
 refine Ln Ea J fun _ Eb => ?_; clear J K' Ea
 refine M1 Eb 34 fun K' J ρ q34 => ?_; go_simp; (try clear q34)
 refine Ln Eb J fun _ Ea => ?_; clear J K' Eb
 refine M1 Ea 35 fun K' J ρ q35 => ?_; go_simp; (try clear q35)
 refine Ln Ea J fun _ Eb => ?_; clear J K' Ea
 refine late_done [1, 2, 5, 6, 7, 8] Eb hK (fun a hE => ?_); clear hK K Q' Eb; simp only [lk, pick, Nat.reduceEqDiff, ↓reduceIte] at hE
 have hb4 := hb3.trans (h4.mono hb3.size)
 have hM4 := hM.below hb4
 replace hCB := hCB.below h4
 clear nB cB0 cB1 cB2 cB3 cB4 cB5 cB6 hM3
 have nB := hCB.1; have cB0 := hCB.2 0 _ rfl; have cB1 := hCB.2 1 _ rfl; have cB2 := hCB.2 2 _ rfl; have cB3 := hCB.2 3 _ rfl; have cB4 := hCB.2 4 _ rfl; have cB5 := hCB.2 5 _ rfl; have cB6 := hCB.2 6 _ rfl
 refine Ks ?_
 rcases hcase with ⟨hm0, rfl, rfl⟩ | ⟨hm1, rfl, rfl⟩ | ⟨hm2, rfl, rfl⟩
 ·skip
  subst hm0
  refine Rs 16 fun Q' K hK => ?_
  refine M1 hE 8 fun K' J ρ q8 => ?_; go_simp; (try clear q8)
  refine Ln hE J fun _ Eb => ?_; clear J K' hE a
  refine M1 Eb 36 fun K' J ρ q36 => ?_; go_simp; (try go_bits); (try clear q36)
  refine Ln Eb J fun _ Ea => ?_; clear J K' Eb
  replace Ea := Ea.turn 37 (v' := .bool false) rfl (by (first | rfl | simp))
  refine M1 Ea 37 fun K' J ρ q37 => ?_; go_simp; (try clear q37)
  refine Ln Ea J fun _ Eb => ?_; clear J K' Ea
  refine N1 Eb 38 6 fun K' J ρ q6 => ?_; go_simp; (try clear q6)
  refine Ln Eb J fun _ Ea => ?_; clear J K' Eb
  refine N1 Ea 38 39 fun K' J ρ q39 => ?_; go_simp; (try go_bits); (try clear q39)
  refine Ln Ea J fun _ Eb => ?_; clear J K' Ea
  replace Eb := Eb.turn 40 (v' := .bool false) rfl (by (first | rfl | (simp; done) | (simp; omega)))
  refine N1 Eb 38 7 fun K' J ρ q7 => ?_; go_simp; (try clear q7)
  refine Ln Eb J fun _ Ea => ?_; clear J K' Eb
  refine N1 Ea 38 41 fun K' J ρ q41 => ?_; go_simp; (try go_bits); (try clear q41)
  refine Ln Ea J fun _ Eb => ?_; clear J K' Ea
  replace Eb := Eb.turn 42 (v' := .bool false) rfl (by (first | rfl | (simp; done) | (simp; omega)))
  refine N2 Eb 38 40 42 fun K' J ρ q40 q42 => ?_; go_simp; (try go_bits); (try clear q40 q42)
  refine Ln Eb J fun _ Ea => ?_; clear J K' Eb
  replace Ea := Ea.turn 43 (v' := .bool false) rfl (by (first | rfl | simp))
  refine M2 Ea 38 43 fun K' J ρ q38 q43 => ?_; go_simp; (try go_bits); (try clear q38 q43)
  refine Ln Ea J fun _ Eb => ?_; clear J K' Ea
  refine M1 Eb 44 fun K' J ρ q44 => ?_; go_simp; (try clear q44)
  refine Ln Eb J fun _ Ea => ?_; clear J K' Eb
  refine N1 Ea 45 6 fun K' J ρ q6 => ?_; go_simp; (try clear q6)
  refine Ln Ea J fun _ Eb => ?_; clear J K' Ea
  refine N1 Eb 45 46 fun K' J ρ q46 => ?_; go_simp; (try go_bits); (try clear q46)
  refine Ln Eb J fun _ Ea => ?_; clear J K' Eb
  replace Ea := Ea.turn 47 (v' := .bool true) rfl (by (first | rfl | (simp; done) | (simp; omega)))
  refine N1 Ea 45 7 fun K' J ρ q7 => ?_; go_simp; (try clear q7)
  refine Ln Ea J fun _ Eb => ?_; clear J K' Ea
  refine N1 Eb 45 48 fun K' J ρ q48 => ?_; go_simp; (try go_bits); (try clear q48)
  refine Ln Eb J fun _ Ea => ?_; clear J K' Eb
  replace Ea := Ea.turn 49 (v' := .bool true) rfl (by (first | rfl | (simp; done) | (simp; omega)))
  refine N2 Ea 45 47 49 fun K' J ρ q47 q49 => ?_; go_simp; (try go_bits); (try clear q47 q49)
  refine Ln Ea J fun _ Eb => ?_; clear J K' Ea
  replace Eb := Eb.turn 50 (v' := .bool false) rfl (by (first | rfl | simp))
  refine M2 Eb 45 50 fun K' J ρ q45 q50 => ?_; go_simp; (try go_bits); (try clear q45 q50)
  refine Ln Eb J fun _ Ea => ?_; clear J K' Eb
  refine late_done [1, 2, 5, 6, 7, 51] Ea hK (fun a hE => ?_); clear hK K Q' Ea; simp only [lk, pick, Nat.reduceEqDiff, ↓reduceIte] at hE
  refine Ks ?_
  refine cond_no hE (t := 51) rfl ?_
  refine Ks ?_
  refine Rs 2 fun Q' K hK => ?_
  refine M1 hE 6 fun K' J ρ q6 => ?_; go_simp; (try clear q6)
  refine Ln hE J fun _ Eb => ?_; clear J K' hE a
  refine M1 Eb 52 fun K' J ρ q52 => ?_; go_simp; (try go_bits); (try clear q52)
  refine Ln Eb J fun _ Ea => ?_; clear J K' Eb
  replace Ea := Ea.turn 53 (v' := .bool true) rfl (by (first | rfl | simp))
  refine late_done [5, 6, 53] Ea hK (fun a hE => ?_); clear hK K Q' Ea; simp only [lk, pick, Nat.reduceEqDiff, ↓reduceIte] at hE
  refine Ks ?_
  refine cond_yes hE (t := 53) rfl ?_
  refine Ks ?_
  refine Rs 14 fun Q' K hK => ?_
  refine M1 hE 6 fun K' J ρ q6 => ?_; go_simp; (try clear q6)
  refine Ln hE J fun _ Eb => ?_; clear J K' hE a
  refine M1 Eb 54 fun K' J ρ q54 => ?_; go_simp; (try go_bits); (try clear q54)
  refine Ln Eb J fun _ Ea => ?_; clear J K' Eb
  replace Ea := Ea.turn 55 (v' := .bool false) rfl (by (first | rfl | simp))
  refine M1 Ea 55 fun K' J ρ q55 => ?_; go_simp; (try clear q55)
  refine Ln Ea J fun _ Eb => ?_; clear J K' Ea
  refine N1 Eb 56 6 fun K' J ρ q6 => ?_; go_simp; (try clear q6)
  refine Ln Eb J fun _ Ea => ?_; clear J K' Eb
  refine N1 Ea 56 57 fun K' J ρ q57 => ?_; go_simp; (try go_bits); (try clear q57)
  refine Ln Ea J fun _ Eb => ?_; clear J K' Ea
  replace Eb := Eb.turn 58 (v' := .bool true) rfl (by (first | rfl | simp))
  refine M2 Eb 56 58 fun K' J ρ q56 q58 => ?_; go_simp; (try go_bits); (try clear q56 q58)
  refine Ln Eb J fun _ Ea => ?_; clear J K' Eb
  replace Ea := Ea.turn 59 (v' := .bool true) rfl (by (first | rfl | simp))
  refine M1 Ea 59 fun K' J ρ q59 => ?_; go_simp; (try clear q59)
  refine Ln Ea J fun _ Eb => ?_; clear J K' Ea
  refine N1 Eb 60 5 fun K' J ρ q5 => ?_; go_simp; (try clear q5)
  refine Ln Eb J fun _ Ea => ?_; clear J K' Eb
  refine N1 Ea 60 61 fun K' J ρ q61 => ?_; go_simp; (try go_bits); (try clear q61)
  refine Ln Ea J fun _ Eb => ?_; clear J K' Ea
  replace Eb := Eb.turn 62 (v' := .bool true) rfl (by (first | rfl | simp))
  refine M2 Eb 60 62 fun K' J ρ q60 q62 => ?_; go_simp; (try go_bits); (try clear q60 q62)
  refine Ln Eb J fun _ Ea => ?_; clear J K' Eb
  replace Ea := Ea.turn 63 (v' := .bool true) rfl (by (first | rfl | simp))
  refine M1 Ea 63 fun K' J ρ q63 => ?_; go_simp; (try clear q63)
  refine Ln Ea J fun _ Eb => ?_; clear J K' Ea
  refine Ly Eb 64 fun K' J => ?_
  refine o0 fun ρ => ?_; go_simp; (try go_bits);
  go_at_call 15; refine (written_any _).mono ?_; rintro e w5 ⟨rfl, h5⟩
  refine Ln Eb J fun _ Ea => ?_; clear J K' Eb
  refine M2 Ea 64 65 fun K' J ρ q64 q65 => ?_; go_simp; (try go_bits); (try clear q64 q65)
  refine Ln Ea J fun _ Eb => ?_; clear J K' Ea
  refine M1 Eb 66 fun K' J ρ q66 => ?_; go_simp; (try clear q66)
  refine Ln Eb J fun _ Ea => ?_; clear J K' Eb
  refine late_done [4] Ea hK (fun a hE => ?_); clear hK K Q' Ea; simp only [lk, pick, Nat.reduceEqDiff, ↓reduceIte] at hE
  refine Ks ?_
  exact ret_one hE rfl rfl ⟨rfl, hb4.trans (h5.mono hb4.size)⟩
 ·skip
  subst hm1
  refine Rs 16 fun Q' K hK => ?_
  refine M1 hE 8 fun K' J ρ q8 => ?_; go_simp; (try clear q8)
  refine Ln hE J fun _ Eb => ?_; clear J K' hE a
  refine M1 Eb 36 fun K' J ρ q36 => ?_; go_simp; (try go_bits); (try clear q36)
  refine Ln Eb J fun _ Ea => ?_; clear J K' Eb
  replace Ea := Ea.turn 37 (v' := .bool false) rfl (by (first | rfl | simp))
  refine M1 Ea 37 fun K' J ρ q37 => ?_; go_simp; (try clear q37)
  refine Ln Ea J fun _ Eb => ?_; clear J K' Ea
  refine N1 Eb 38 6 fun K' J ρ q6 => ?_; go_simp; (try clear q6)
  refine Ln Eb J fun _ Ea => ?_; clear J K' Eb
  refine N1 Ea 38 39 fun K' J ρ q39 => ?_; go_simp; (try go_bits); (try clear q39)
  refine Ln Ea J fun _ Eb => ?_; clear J K' Ea
  replace Eb := Eb.turn 40 (v' := .bool true) rfl (by (first | rfl | (simp; done) | (simp; omega)))
  refine N1 Eb 38 7 fun K' J ρ q7 => ?_; go_simp; (try clear q7)
  refine Ln Eb J fun _ Ea => ?_; clear J K' Eb
  refine N1 Ea 38 41 fun K' J ρ q41 => ?_; go_simp; (try go_bits); (try clear q41)
  refine Ln Ea J fun _ Eb => ?_; clear J K' Ea
  replace Eb := Eb.turn 42 (v' := .bool true) rfl (by (first | rfl | (simp; done) | (simp; omega)))
  refine N2 Eb 38 40 42 fun K' J ρ q40 q42 => ?_; go_simp; (try go_bits); (try clear q40 q42)
  refine Ln Eb J fun _ Ea => ?_; clear J K' Eb
  replace Ea := Ea.turn 43 (v' := .bool false) rfl (by (first | rfl | simp))
  refine M2 Ea 38 43 fun K' J ρ q38 q43 => ?_; go_simp; (try go_bits); (try clear q38 q43)
  refine Ln Ea J fun _ Eb => ?_; clear J K' Ea
  refine M1 Eb 44 fun K' J ρ q44 => ?_; go_simp; (try clear q44)
  refine Ln Eb J fun _ Ea => ?_; clear J K' Eb
  refine N1 Ea 45 6 fun K' J ρ q6 => ?_; go_simp; (try clear q6)
  refine Ln Ea J fun _ Eb => ?_; clear J K' Ea
  refine N1 Eb 45 46 fun K' J ρ q46 => ?_; go_simp; (try go_bits); (try clear q46)
  refine Ln Eb J fun _ Ea => ?_; clear J K' Eb
  replace Ea := Ea.turn 47 (v' := .bool false) rfl (by (first | rfl | (simp; done) | (simp; omega)))
  refine N1 Ea 45 7 fun K' J ρ q7 => ?_; go_simp; (try clear q7)
  refine Ln Ea J fun _ Eb => ?_; clear J K' Ea
  refine N1 Eb 45 48 fun K' J ρ q48 => ?_; go_simp; (try go_bits); (try clear q48)
  refine Ln Eb J fun _ Ea => ?_; clear J K' Eb
  replace Ea := Ea.turn 49 (v' := .bool false) rfl (by (first | rfl | (simp; done) | (simp; omega)))
  refine N2 Ea 45 47 49 fun K' J ρ q47 q49 => ?_; go_simp; (try go_bits); (try clear q47 q49)
  refine Ln Ea J fun _ Eb => ?_; clear J K' Ea
  replace Eb := Eb.turn 50 (v' := .bool false) rfl (by (first | rfl | simp))
  refine M2 Eb 45 50 fun K' J ρ q45 q50 => ?_; go_simp; (try go_bits); (try clear q45 q50)
  refine Ln Eb J fun _ Ea => ?_; clear J K' Eb
  refine late_done [1, 2, 5, 6, 7, 51] Ea hK (fun a hE => ?_); clear hK K Q' Ea; simp only [lk, pick, Nat.reduceEqDiff, ↓reduceIte] at hE
  refine Ks ?_
  refine cond_no hE (t := 51) rfl ?_
  refine Ks ?_
  refine Rs 2 fun Q' K hK => ?_
  refine M1 hE 6 fun K' J ρ q6 => ?_; go_simp; (try clear q6)
  refine Ln hE J fun _ Eb => ?_; clear J K' hE a
  refine M1 Eb 52 fun K' J ρ q52 => ?_; go_simp; (try go_bits); (try clear q52)
  refine Ln Eb J fun _ Ea => ?_; clear J K' Eb
  replace Ea := Ea.turn 53 (v' := .bool true) rfl (by (first | rfl | simp))
  refine late_done [5, 6, 53] Ea hK (fun a hE => ?_); clear hK K Q' Ea; simp only [lk, pick, Nat.reduceEqDiff, ↓reduceIte] at hE
  refine Ks ?_
  refine cond_yes hE (t := 53) rfl ?_
  refine Ks ?_
  refine Rs 14 fun Q' K hK => ?_
  refine M1 hE 6 fun K' J ρ q6 => ?_; go_simp; (try clear q6)
  refine Ln hE J fun _ Eb => ?_; clear J K' hE a
  refine M1 Eb 54 fun K' J ρ q54 => ?_; go_simp; (try go_bits); (try clear q54)
  refine Ln Eb J fun _ Ea => ?_; clear J K' Eb
  replace Ea := Ea.turn 55 (v' := .bool true) rfl (by (first | rfl | simp))
  refine M1 Ea 55 fun K' J ρ q55 => ?_; go_simp; (try clear q55)
  refine Ln Ea J fun _ Eb => ?_; clear J K' Ea
  refine Lno Eb 56 ?_
  refine Lu Eb fun _ Ea => ?_
  refine Lno Ea 56 ?_
  refine Lu Ea fun _ Eb => ?_
  refine M2 Eb 56 58 fun K' J ρ q56 q58 => ?_; go_simp; (try go_bits); (try clear q56 q58)
  refine Ln Eb J fun _ Ea => ?_; clear J K' Eb
  replace Ea := Ea.turn 59 (v' := .bool true) rfl (by (first | rfl | simp))
  refine M1 Ea 59 fun K' J ρ q59 => ?_; go_simp; (try clear q59)
  refine Ln Ea J fun _ Eb => ?_; clear J K' Ea
  refine N1 Eb 60 5 fun K' J ρ q5 => ?_; go_simp; (try clear q5)
  refine Ln Eb J fun _ Ea => ?_; clear J K' Eb
  refine N1 Ea 60 61 fun K' J ρ q61 => ?_; go_simp; (try go_bits); (try clear q61)
  refine Ln Ea J fun _ Eb => ?_; clear J K' Ea
  replace Eb := Eb.turn 62 (v' := .bool true) rfl (by (first | rfl | simp))
  refine M2 Eb 60 62 fun K' J ρ q60 q62 => ?_; go_simp; (try go_bits); (try clear q60 q62)
  refine Ln Eb J fun _ Ea => ?_; clear J K' Eb
  replace Ea := Ea.turn 63 (v' := .bool true) rfl (by (first | rfl | simp))
  refine M1 Ea 63 fun K' J ρ q63 => ?_; go_simp; (try clear q63)
  refine Ln Ea J fun _ Eb => ?_; clear J K' Ea
  refine Ly Eb 64 fun K' J => ?_
  refine o0 fun ρ => ?_; go_simp; (try go_bits);
  go_at_call 15; refine (written_any _).mono ?_; rintro e w5 ⟨rfl, h5⟩
  refine Ln Eb J fun _ Ea => ?_; clear J K' Eb
  refine M2 Ea 64 65 fun K' J ρ q64 q65 => ?_; go_simp; (try go_bits); (try clear q64 q65)
  refine Ln Ea J fun _ Eb => ?_; clear J K' Ea
  refine M1 Eb 66 fun K' J ρ q66 => ?_; go_simp; (try clear q66)
  refine Ln Eb J fun _ Ea => ?_; clear J K' Eb
  refine late_done [4] Ea hK (fun a hE => ?_); clear hK K Q' Ea; simp only [lk, pick, Nat.reduceEqDiff, ↓reduceIte] at hE
  refine Ks ?_
  exact ret_one hE rfl rfl ⟨rfl, hb4.trans (h5.mono hb4.size)⟩
 ·have hnp := HN0.out hm2
  have hal := ask_lt (worstP b) b.lines.length hnp
  have HAF := hid (ask_first (worstP b) b.lines.length)
  obtain ⟨p, hp⟩ : ∃ p, askP (worstP b) b.lines.length = p := ⟨_, rfl⟩
  rw [hp] at hal HAF hE
  clear hp
  refine Rs 16 fun Q' K hK => ?_
  refine M1 hE 8 fun K' J ρ q8 => ?_; go_simp; (try clear q8)
  refine Ln hE J fun _ Eb => ?_; clear J K' hE a
  refine M1 Eb 36 fun K' J ρ q36 => ?_; go_simp; (try go_bits); (try clear q36)
  refine Ln Eb J fun _ Ea => ?_; clear J K' Eb
  replace Ea := Ea.turn 37 (v' := .bool false) rfl (by (first | rfl | simp))
  refine M1 Ea 37 fun K' J ρ q37 => ?_; go_simp; (try clear q37)
  refine Ln Ea J fun _ Eb => ?_; clear J K' Ea
  refine N1 Eb 38 6 fun K' J ρ q6 => ?_; go_simp; (try clear q6)
  refine Ln Eb J fun _ Ea => ?_; clear J K' Eb
  refine N1 Ea 38 39 fun K' J ρ q39 => ?_; go_simp; (try go_bits); (try clear q39)
  refine Ln Ea J fun _ Eb => ?_; clear J K' Ea
  replace Eb := Eb.turn 40 (v' := .bool false) rfl (by (first | rfl | (simp; done) | (simp; omega)))
  refine N1 Eb 38 7 fun K' J ρ q7 => ?_; go_simp; (try clear q7)
  refine Ln Eb J fun _ Ea => ?_; clear J K' Eb
  refine N1 Ea 38 41 fun K' J ρ q41 => ?_; go_simp; (try go_bits); (try clear q41)
  refine Ln Ea J fun _ Eb => ?_; clear J K' Ea
  replace Eb := Eb.turn 42 (v' := .bool false) rfl (by (first | rfl | (simp; done) | (simp; omega)))
  refine N2 Eb 38 40 42 fun K' J ρ q40 q42 => ?_; go_simp; (try go_bits); (try clear q40 q42)
  refine Ln Eb J fun _ Ea => ?_; clear J K' Eb
  replace Ea := Ea.turn 43 (v' := .bool false) rfl (by (first | rfl | simp))
  refine M2 Ea 38 43 fun K' J ρ q38 q43 => ?_; go_simp; (try go_bits); (try clear q38 q43)
  refine Ln Ea J fun _ Eb => ?_; clear J K' Ea
  refine M1 Eb 44 fun K' J ρ q44 => ?_; go_simp; (try clear q44)
  refine Ln Eb J fun _ Ea => ?_; clear J K' Eb
  refine N1 Ea 45 6 fun K' J ρ q6 => ?_; go_simp; (try clear q6)
  refine Ln Ea J fun _ Eb => ?_; clear J K' Ea
  refine N1 Eb 45 46 fun K' J ρ q46 => ?_; go_simp; (try go_bits); (try clear q46)
  refine Ln Eb J fun _ Ea => ?_; clear J K' Eb
  replace Ea := Ea.turn 47 (v' := .bool false) rfl (by (first | rfl | (simp; done) | (simp; omega)))
  refine N1 Ea 45 7 fun K' J ρ q7 => ?_; go_simp; (try clear q7)
  refine Ln Ea J fun _ Eb => ?_; clear J K' Ea
  refine N1 Eb 45 48 fun K' J ρ q48 => ?_; go_simp; (try go_bits); (try clear q48)
  refine Ln Eb J fun _ Ea => ?_; clear J K' Eb
  replace Ea := Ea.turn 49 (v' := .bool false) rfl (by (first | rfl | (simp; done) | (simp; omega)))
  refine N2 Ea 45 47 49 fun K' J ρ q47 q49 => ?_; go_simp; (try go_bits); (try clear q47 q49)
  refine Ln Ea J fun _ Eb => ?_; clear J K' Ea
  replace Eb := Eb.turn 50 (v' := .bool false) rfl (by (first | rfl | simp))
  refine M2 Eb 45 50 fun K' J ρ q45 q50 => ?_; go_simp; (try go_bits); (try clear q45 q50)
  refine Ln Eb J fun _ Ea => ?_; clear J K' Eb
  refine late_done [1, 2, 5, 6, 7, 51] Ea hK (fun a hE => ?_); clear hK K Q' Ea; simp only [lk, pick, Nat.reduceEqDiff, ↓reduceIte] at hE
  refine Ks ?_
  refine cond_no hE (t := 51) rfl ?_
  refine Ks ?_
  refine Rs 2 fun Q' K hK => ?_
  refine M1 hE 6 fun K' J ρ q6 => ?_; go_simp; (try clear q6)
  refine Ln hE J fun _ Eb => ?_; clear J K' hE a
  refine M1 Eb 52 fun K' J ρ q52 => ?_; go_simp; (try go_bits); (try clear q52)
  refine Ln Eb J fun _ Ea => ?_; clear J K' Eb
  replace Ea := Ea.turn 53 (v' := .bool false) rfl (by (first | rfl | simp))
  refine late_done [1, 2, 5, 6, 7, 53] Ea hK (fun a hE => ?_); clear hK K Q' Ea; simp only [lk, pick, Nat.reduceEqDiff, ↓reduceIte] at hE
  refine Ks ?_
  refine cond_no hE (t := 53) rfl ?_
  refine Ks ?_
  refine Rs 7 fun Q' K hK => ?_
  refine M1 hE 5 fun K' J ρ q5 => ?_; go_simp; (try clear q5)
  refine Ln hE J fun _ Eb => ?_; clear J K' hE a
  refine M1 Eb 2 fun K' J ρ q2 => ?_; go_simp; (try clear q2)
  refine Ln Eb J fun _ Ea => ?_; clear J K' Eb
  refine M1 Ea 68 fun K' J ρ q68 => ?_; go_simp; (try clear q68)
  refine Ln Ea J fun _ Eb => ?_; clear J K' Ea
  refine M1 Eb 69 fun K' J ρ q69 => ?_; go_simp; (try go_bits); (try clear q69)
  refine Ln Eb J fun _ Ea => ?_; clear J K' Eb
  refine M1 Ea 70 fun K' J ρ q70 => ?_; go_simp; (try go_bits); (try simp (disch := omega) only [IntWalk.i64_in]); (try clear q70)
  refine Ln Ea J fun _ Eb => ?_; clear J K' Ea
  refine M2 Eb 67 71 fun K' J ρ q67 q71 => ?_; go_simp; (try go_bits); (try clear q67 q71)
  go_at_call 25; refine (between_any _ _ _ _).mono ?_; rintro e g1 ⟨rfl, rfl⟩
  (try clear r67 r71)
  refine Ln Eb J fun _ Ea => ?_; clear J K' Eb
  refine M1 Ea 72 fun K' J ρ q72 => ?_; go_simp; (try go_bits); (try simp (disch := omega) only [IntWalk.i64_in]); (try clear q72)
  refine Ln Ea J fun _ Eb => ?_; clear J K' Ea
  replace Eb := Eb.turn 73 (v' := .bool false) rfl (by (first | rfl | (simp; done) | (simp; omega)))
  refine late_done [1, 2, 5, 7, 73] Eb hK (fun a hE => ?_); clear hK K Q' Eb; simp only [lk, pick, Nat.reduceEqDiff, ↓reduceIte] at hE
  refine Ks ?_
  refine cond_no hE (t := 73) rfl ?_
  refine Ks ?_
  have hwi := windI_range n (b.lines.length : Int) (by omega)
  obtain ⟨k, hk⟩ : ∃ k : Nat, windI n (b.lines.length : Int) = k := ⟨(windI n (b.lines.length : Int)).toNat, by omega⟩
  have hkl : k < b.lines.length := by omega
  have HK := hid hk
  clear hk hwi
  refine Rs 6 fun Q' K hK => ?_
  refine M1 hE 1 fun K' J ρ q1 => ?_; go_simp; (try clear q1)
  refine Ln hE J fun _ Eb => ?_; clear J K' hE a
  refine M1 Eb 2 fun K' J ρ q2 => ?_; go_simp; (try clear q2)
  refine Ln Eb J fun _ Ea => ?_; clear J K' Eb
  refine M1 Ea 75 fun K' J ρ q75 => ?_; go_simp; (try clear q75)
  refine Ln Ea J fun _ Eb => ?_; clear J K' Ea
  refine M1 Eb 76 fun K' J ρ q76 => ?_; go_simp; (try go_bits); (try clear q76)
  refine Ln Eb J fun _ Ea => ?_; clear J K' Eb
  refine M2 Ea 74 77 fun K' J ρ q74 q77 => ?_; go_simp; (try go_bits); (try clear q74 q77)
  go_at_call 37; refine (wind_any _ _ (by omega) _).mono ?_; rw [HK.out]; rintro e g1 ⟨rfl, rfl⟩
  (try clear r74 r77)
  refine Ln Ea J fun _ Eb => ?_; clear J K' Ea
  refine M1 Eb 78 fun K' J ρ q78 => ?_; go_simp; (try clear q78)
  refine Ln Eb J fun _ Ea => ?_; clear J K' Eb
  refine late_done [1, 2, 5, 7, 9] Ea hK (fun a hE => ?_); clear hK K Q' Ea; simp only [lk, pick, Nat.reduceEqDiff, ↓reduceIte] at hE
  refine Ks ?_
  refine Rs 9 fun Q' K hK => ?_
  refine M1 hE 2 fun K' J ρ q2 => ?_; go_simp; (try clear q2)
  refine Ln hE J fun _ Eb => ?_; clear J K' hE a
  refine M1 Eb 5 fun K' J ρ q5 => ?_; go_simp; (try clear q5)
  refine Ln Eb J fun _ Ea => ?_; clear J K' Eb
  refine M1 Ea 7 fun K' J ρ q7 => ?_; go_simp; (try clear q7)
  refine Ln Ea J fun _ Eb => ?_; clear J K' Ea
  refine M3 Eb 80 81 82 fun K' J ρ q80 q81 q82 => ?_; go_simp; (try go_bits); (try clear q80 q81 q82)
  go_at_call 42; refine (C4.out p hal _ hM4).mono ?_; rintro e w5 ⟨rfl, h5⟩
  (try clear r80 r81 r82)
  refine Ln Eb J fun _ Ea => ?_; clear J K' Eb
  refine M1 Ea 83 fun K' J ρ q83 => ?_; go_simp; (try clear q83)
  refine Ln Ea J fun _ Eb => ?_; clear J K' Ea
  refine M1 Eb 79 fun K' J ρ q79 => ?_; go_simp; (try clear q79)
  refine Ln Eb J fun _ Ea => ?_; clear J K' Eb
  refine M1 Ea 79 fun K' J ρ q79 => ?_; go_simp; (try clear q79)
  refine Ln Ea J fun _ Eb => ?_; clear J K' Ea
  refine M1 Eb 84 fun K' J ρ q84 => ?_; go_simp; (try clear q84)
  refine Ln Eb J fun _ Ea => ?_; clear J K' Eb
  refine M1 Ea 85 fun K' J ρ q85 => ?_; go_simp; (try clear q85)
  refine Ln Ea J fun _ Eb => ?_; clear J K' Ea
  refine late_done [2, 5, 7, 9, 10, 11] Eb hK (fun a hE => ?_); clear hK K Q' Eb; simp only [lk, pick, Nat.reduceEqDiff, ↓reduceIte] at hE
  have hb5 := hb4.trans (h5.mono hb4.size)
  have hM5 := hM.below hb5
  replace hCB := hCB.below h5
  clear nB cB0 cB1 cB2 cB3 cB4 cB5 cB6 hM4
  have nB := hCB.1; have cB0 := hCB.2 0 _ rfl; have cB1 := hCB.2 1 _ rfl; have cB2 := hCB.2 2 _ rfl; have cB3 := hCB.2 3 _ rfl; have cB4 := hCB.2 4 _ rfl; have cB5 := hCB.2 5 _ rfl; have cB6 := hCB.2 6 _ rfl
  refine Ks ?_
  refine Rs 9 fun Q' K hK => ?_
  refine M1 hE 2 fun K' J ρ q2 => ?_; go_simp; (try clear q2)
  refine Ln hE J fun _ Eb => ?_; clear J K' hE a
  refine M1 Eb 9 fun K' J ρ q9 => ?_; go_simp; (try clear q9)
  refine Ln Eb J fun _ Ea => ?_; clear J K' Eb
  refine M1 Ea 7 fun K' J ρ q7 => ?_; go_simp; (try clear q7)
  refine Ln Ea J fun _ Eb => ?_; clear J K' Ea
  refine M3 Eb 87 88 89 fun K' J ρ q87 q88 q89 => ?_; go_simp; (try go_bits); (try clear q87 q88 q89)
  go_at_call 42; refine (C4.out k hkl _ hM5).mono ?_; rintro e w6 ⟨rfl, h6⟩
  (try clear r87 r88 r89)
  refine Ln Eb J fun _ Ea => ?_; clear J K' Eb
  refine M1 Ea 90 fun K' J ρ q90 => ?_; go_simp; (try clear q90)
  refine Ln Ea J fun _ Eb => ?_; clear J K' Ea
  refine M1 Eb 86 fun K' J ρ q86 => ?_; go_simp; (try clear q86)
  refine Ln Eb J fun _ Ea => ?_; clear J K' Eb
  refine M1 Ea 86 fun K' J ρ q86 => ?_; go_simp; (try clear q86)
  refine Ln Ea J fun _ Eb => ?_; clear J K' Ea
  refine M1 Eb 91 fun K' J ρ q91 => ?_; go_simp; (try clear q91)
  refine Ln Eb J fun _ Ea => ?_; clear J K' Eb
  refine M1 Ea 92 fun K' J ρ q92 => ?_; go_simp; (try clear q92)
  refine Ln Ea J fun _ Eb => ?_; clear J K' Ea
  refine late_done [5, 9, 10, 11, 12, 13] Eb hK (fun a hE => ?_); clear hK K Q' Eb; simp only [lk, pick, Nat.reduceEqDiff, ↓reduceIte] at hE
  have hb6 := hb5.trans (h6.mono hb5.size)
  clear nB cB0 cB1 cB2 cB3 cB4 cB5 cB6 hM5
  refine Ks ?_
  obtain ⟨f1, f2⟩ := HAF.out k hkl
  obtain ⟨x, hx⟩ : ∃ x, worstP b p = x := ⟨_, rfl⟩
  obtain ⟨y, hy⟩ : ∃ y, worstP b k = y := ⟨_, rfl⟩
  rw [hx, hy] at hE f1 f2
  clear hx hy
  by_cases hxy : x < y
  ·skip
   refine Rs 23 fun Q' K hK => ?_
   refine M1 hE 11 fun K' J ρ q11 => ?_; go_simp; (try clear q11)
   refine Ln hE J fun _ Eb => ?_; clear J K' hE a
   refine M1 Eb 93 fun K' J ρ q93 => ?_; go_simp; (try clear q93)
   refine Ln Eb J fun _ Ea => ?_; clear J K' Eb
   refine N1 Ea 94 13 fun K' J ρ q13 => ?_; go_simp; (try clear q13)
   refine Ln Ea J fun _ Eb => ?_; clear J K' Ea
   refine M2 Eb 94 95 fun K' J ρ q94 q95 => ?_; go_simp; (try go_bits); (try clear q94 q95)
   refine Ln Eb J fun _ Ea => ?_; clear J K' Eb
   replace Ea := Ea.turn 96 (v' := .bool true) rfl (by (first | rfl | simp))
   refine M1 Ea 96 fun K' J ρ q96 => ?_; go_simp; (try clear q96)
   refine Ln Ea J fun _ Eb => ?_; clear J K' Ea
   refine N1 Eb 97 10 fun K' J ρ q10 => ?_; go_simp; (try clear q10)
   refine Ln Eb J fun _ Ea => ?_; clear J K' Eb
   refine N1 Ea 97 12 fun K' J ρ q12 => ?_; go_simp; (try clear q12)
   refine Ln Ea J fun _ Eb => ?_; clear J K' Ea
   refine N2 Eb 97 98 99 fun K' J ρ q98 q99 => ?_; go_simp; (try go_bits); (try clear q98 q99)
   refine Ln Eb J fun _ Ea => ?_; clear J K' Eb
   replace Ea := Ea.turn 100 (v' := .bool true) rfl (by (simp [hxy]))
   refine N1 Ea 97 100 fun K' J ρ q100 => ?_; go_simp; (try clear q100)
   refine Ln Ea J fun _ Eb => ?_; clear J K' Ea
   refine Lno Eb 101 ?_
   refine Lu Eb fun _ Ea => ?_
   refine Lno Ea 101 ?_
   refine Lu Ea fun _ Eb => ?_
   refine Lno Eb 101 ?_
   refine Lu Eb fun _ Ea => ?_
   refine Lno Ea 101 ?_
   refine Lu Ea fun _ Eb => ?_
   refine Lun Eb 105 ?_
   refine Lu Eb fun _ Ea => ?_
   refine Lun Ea 105 ?_
   refine Lu Ea fun _ Eb => ?_
   refine Lun Eb 105 ?_
   refine Lu Eb fun _ Ea => ?_
   refine Lno Ea 101 ?_
   refine Lu Ea fun _ Eb => ?_
   refine N2 Eb 97 101 109 fun K' J ρ q101 q109 => ?_; go_simp; (try go_bits); (try clear q101 q109)
   refine Ln Eb J fun _ Ea => ?_; clear J K' Eb
   replace Ea := Ea.turn 110 (v' := .bool true) rfl (by (first | rfl | simp))
   refine M2 Ea 97 110 fun K' J ρ q97 q110 => ?_; go_simp; (try go_bits); (try clear q97 q110)
   refine Ln Ea J fun _ Eb => ?_; clear J K' Ea
   replace Eb := Eb.turn 111 (v' := .bool true) rfl (by (first | rfl | simp))
   refine M1 Eb 111 fun K' J ρ q111 => ?_; go_simp; (try clear q111)
   refine Ln Eb J fun _ Ea => ?_; clear J K' Eb
   refine Ly Ea 112 fun K' J => ?_
   refine o0 fun ρ => ?_; go_simp; (try go_bits);
   go_at_call 15; refine (written_any _).mono ?_; rintro e w7 ⟨rfl, h7⟩
   refine Ln Ea J fun _ Eb => ?_; clear J K' Ea
   refine M2 Eb 112 113 fun K' J ρ q112 q113 => ?_; go_simp; (try go_bits); (try clear q112 q113)
   refine Ln Eb J fun _ Ea => ?_; clear J K' Eb
   refine M1 Ea 114 fun K' J ρ q114 => ?_; go_simp; (try clear q114)
   refine Ln Ea J fun _ Eb => ?_; clear J K' Ea
   refine late_done [4] Eb hK (fun a hE => ?_); clear hK K Q' Eb; simp only [lk, pick, Nat.reduceEqDiff, ↓reduceIte] at hE
   refine Ks ?_
   exact ret_one hE rfl rfl ⟨rfl, hb6.trans (h7.mono hb6.size)⟩
  ·have hxe : x = y := by omega
   have hpk : (p : Int) ≤ k := by have := f2 hxe; omega
   refine Rs 23 fun Q' K hK => ?_
   refine M1 hE 11 fun K' J ρ q11 => ?_; go_simp; (try clear q11)
   refine Ln hE J fun _ Eb => ?_; clear J K' hE a
   refine M1 Eb 93 fun K' J ρ q93 => ?_; go_simp; (try clear q93)
   refine Ln Eb J fun _ Ea => ?_; clear J K' Eb
   refine N1 Ea 94 13 fun K' J ρ q13 => ?_; go_simp; (try clear q13)
   refine Ln Ea J fun _ Eb => ?_; clear J K' Ea
   refine M2 Eb 94 95 fun K' J ρ q94 q95 => ?_; go_simp; (try go_bits); (try clear q94 q95)
   refine Ln Eb J fun _ Ea => ?_; clear J K' Eb
   replace Ea := Ea.turn 96 (v' := .bool true) rfl (by (first | rfl | simp))
   refine M1 Ea 96 fun K' J ρ q96 => ?_; go_simp; (try clear q96)
   refine Ln Ea J fun _ Eb => ?_; clear J K' Ea
   refine N1 Eb 97 10 fun K' J ρ q10 => ?_; go_simp; (try clear q10)
   refine Ln Eb J fun _ Ea => ?_; clear J K' Eb
   refine N1 Ea 97 12 fun K' J ρ q12 => ?_; go_simp; (try clear q12)
   refine Ln Ea J fun _ Eb => ?_; clear J K' Ea
   refine N2 Eb 97 98 99 fun K' J ρ q98 q99 => ?_; go_simp; (try go_bits); (try clear q98 q99)
   refine Ln Eb J fun _ Ea => ?_; clear J K' Eb
   replace Ea := Ea.turn 100 (v' := .bool false) rfl (by (simp [hxy]))
   refine N1 Ea 97 100 fun K' J ρ q100 => ?_; go_simp; (try clear q100)
   refine Ln Ea J fun _ Eb => ?_; clear J K' Ea
   refine N1 Eb 101 10 fun K' J ρ q10 => ?_; go_simp; (try clear q10)
   refine Ln Eb J fun _ Ea => ?_; clear J K' Eb
   refine N1 Ea 101 12 fun K' J ρ q12 => ?_; go_simp; (try clear q12)
   refine Ln Ea J fun _ Eb => ?_; clear J K' Ea
   refine N2 Eb 101 102 103 fun K' J ρ q102 q103 => ?_; go_simp; (try go_bits); (try clear q102 q103)
   refine Ln Eb J fun _ Ea => ?_; clear J K' Eb
   replace Ea := Ea.turn 104 (v' := .bool true) rfl (by (simp [hxe]))
   refine N1 Ea 101 104 fun K' J ρ q104 => ?_; go_simp; (try clear q104)
   refine Ln Ea J fun _ Eb => ?_; clear J K' Ea
   refine N1 Eb 105 5 fun K' J ρ q5 => ?_; go_simp; (try clear q5)
   refine Ln Eb J fun _ Ea => ?_; clear J K' Eb
   refine N1 Ea 105 9 fun K' J ρ q9 => ?_; go_simp; (try clear q9)
   refine Ln Ea J fun _ Eb => ?_; clear J K' Ea
   refine N2 Eb 105 106 107 fun K' J ρ q106 q107 => ?_; go_simp; (try go_bits); (try clear q106 q107)
   refine Ln Eb J fun _ Ea => ?_; clear J K' Eb
   replace Ea := Ea.turn 108 (v' := .bool true) rfl (by (first | (simp [hpk]; done) | (simp; omega)))
   refine N2 Ea 101 105 108 fun K' J ρ q105 q108 => ?_; go_simp; (try go_bits); (try clear q105 q108)
   refine Ln Ea J fun _ Eb => ?_; clear J K' Ea
   replace Eb := Eb.turn 109 (v' := .bool true) rfl (by (first | rfl | simp))
   refine N2 Eb 97 101 109 fun K' J ρ q101 q109 => ?_; go_simp; (try go_bits); (try clear q101 q109)
   refine Ln Eb J fun _ Ea => ?_; clear J K' Eb
   replace Ea := Ea.turn 110 (v' := .bool true) rfl (by (first | rfl | simp))
   refine M2 Ea 97 110 fun K' J ρ q97 q110 => ?_; go_simp; (try go_bits); (try clear q97 q110)
   refine Ln Ea J fun _ Eb => ?_; clear J K' Ea
   replace Eb := Eb.turn 111 (v' := .bool true) rfl (by (first | rfl | simp))
   refine M1 Eb 111 fun K' J ρ q111 => ?_; go_simp; (try clear q111)
   refine Ln Eb J fun _ Ea => ?_; clear J K' Eb
   refine Ly Ea 112 fun K' J => ?_
   refine o0 fun ρ => ?_; go_simp; (try go_bits);
   go_at_call 15; refine (written_any _).mono ?_; rintro e w7 ⟨rfl, h7⟩
   refine Ln Ea J fun _ Eb => ?_; clear J K' Ea
   refine M2 Eb 112 113 fun K' J ρ q112 q113 => ?_; go_simp; (try go_bits); (try clear q112 q113)
   refine Ln Eb J fun _ Ea => ?_; clear J K' Eb
   refine M1 Ea 114 fun K' J ρ q114 => ?_; go_simp; (try clear q114)
   refine Ln Ea J fun _ Eb => ?_; clear J K' Ea
   refine late_done [4] Eb hK (fun a hE => ?_); clear hK K Q' Eb; simp only [lk, pick, Nat.reduceEqDiff, ↓reduceIte] at hE
   refine Ks ?_
   exact ret_one hE rfl rfl ⟨rfl, hb6.trans (h7.mono hb6.size)⟩
theorem nask_any (n : Int) (w : World) (hM : BkAt w A L b) (hs : b.small cap lcap) : Calls Try.prog 9 #[.agg (bkV A cap L lcap b).toArray, .int .i64 n] w fun e w' => e = .returned (.bool true) ∧ Below w.heap.size w w' := by
 cases ho : b.ok
 ·exact ask_bad A cap L lcap b ho n w hM hs
 ·exact ask_good A cap L lcap b ho n w hM hs
end
end Go.Proofs.Ytbimkcjdodgojaa
