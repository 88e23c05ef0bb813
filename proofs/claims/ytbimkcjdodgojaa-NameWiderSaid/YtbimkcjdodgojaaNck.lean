/- Name: the law of wider books, walked: its head, and all of it. -/
import Derived.Test.YtbimkcjdodgojaaNcj
namespace Go.Proofs.Ytbimkcjdodgojaa
set_option linter.unusedSimpArgs false
set_option linter.unusedVariables false
open Go Go.RowKit
attribute [local go_sem high] cell_set_wr
attribute [local go_sem low] cell_wr frozen_wr
attribute [local go_sem] wr_set wr_drew wr_drewN wr_alloc wr_new Rho.c Rho.n Rho.g

theorem ok_lost {b : Bk} (h : b.ok = true) (l : Int) (h1 : 0 ≤ l) (h2 : l ≤ 9) : ({ b with lost := l } : Bk).ok = true := by
 unfold Bk.ok headB at h ⊢
 simp only [Bool.and_eq_true, decide_eq_true_eq] at h ⊢
 exact ⟨h.1, ⟨h.2.1.1, h1, h2⟩, h.2.2⟩
theorem ok_way {b : Bk} (h : b.ok = true) (l z : Int) (h1 : 0 ≤ l) (h2 : l ≤ z) (h3 : z ≤ 1439) : ({ b with lo := l, hi := z } : Bk).ok = true := by
 unfold Bk.ok headB at h ⊢
 simp only [Bool.and_eq_true, decide_eq_true_eq] at h ⊢
 refine ⟨h.1, ⟨⟨h.2.1.1.1, ?_⟩, h.2.1.2⟩, h.2.2⟩
 unfold wayB
 simp only [Bool.and_eq_true, decide_eq_true_eq]
 exact ⟨⟨h1, h2⟩, h3⟩
theorem ok_slips {b : Bk} (h : b.ok = true) (s : Int) (h1 : 0 ≤ s) (h2 : s ≤ 3) : ({ b with ear := { b.ear with slips := s } } : Bk).ok = true := by
 unfold Bk.ok Ear.ok at h ⊢
 simp only [Bool.and_eq_true, decide_eq_true_eq] at h ⊢
 exact ⟨⟨h.1.1, h.1.2.1, h1, h2⟩, h.2⟩
theorem ear_slips {b : Bk} (h : b.ok = true) : 0 ≤ b.ear.slips ∧ b.ear.slips ≤ 3 := by
 unfold Bk.ok Ear.ok at h
 simp only [Bool.and_eq_true, decide_eq_true_eq] at h
 exact h.1.2.2
section
variable (A : Option Addr) (cap : Nat) (L : Option Addr) (lcap : Nat) (b : Bk)
set_option maxRecDepth 100000 in
set_option maxHeartbeats 4000000 in
theorem wider_bad (ho : b.ok = false) (T : Option Addr) (tc : Nat) (ns : List Int) (n : Int) (w : World) (hM : BkAt w A L b) (hs : b.small cap lcap) : Calls Try.prog 8 #[.agg (bkV A cap L lcap b).toArray, .slice T ns.length tc, .int .i64 n] w fun e w' => e = .returned (.bool true) ∧ Below w.heap.size w w' := by
 have C2 : Hid (∀ W, BkAt W A L b → Calls Try.prog 16 #[.agg (bkV A cap L lcap b).toArray] W fun e w' => e = .returned (.bool false) ∧ Below W.heap.size W w') := hid fun W hW => by
  have h := sound_any A cap L lcap b W hW hs
  rw [ho] at h
  exact h
 clear ho
 simp only [bkV] at C2 ⊢
 refine enterE Try.func8 rfl Try.ntmps8 (by simp) (fun a hE => ?_); simp only [envOf, Nat.zero_add, Nat.reduceAdd] at hE
 refine Ks ?_
 refine Rs 2 fun Q' K hK => ?_
 refine M1 hE 0 fun K' J ρ q0 => ?_; go_simp; (try clear q0)
 refine Ln hE J fun _ Eb => ?_; clear J K' hE a
 refine M0 fun K' J ρ => ?_; go_simp;
 refine Ln Eb J fun _ Ea => ?_; clear J K' Eb
 refine late_done [3] Ea hK (fun a hE => ?_); clear hK K Q' Ea; simp only [lk, pick, Nat.reduceEqDiff, ↓reduceIte] at hE
 obtain ⟨B, hBe⟩ : ∃ B, B = w.heap.size := ⟨_, rfl⟩; rw [← hBe] at hE; refine world_cut (fun wt => Below w.heap.size w wt ∧ Cells wt B (bkV A cap L lcap b)) ⟨(Below.refl _ _).alloc (Nat.le_refl _) _, by rw [hBe]; exact cells_new _ _ _⟩ (fun w1 hCut => ?_); obtain ⟨hbw1, hCB⟩ := hCut; clear hBe
 have hM1 := hM.below hbw1
 simp only [bkV] at hCB
 have nB := hCB.1; have cB0 := hCB.2 0 _ rfl; have cB1 := hCB.2 1 _ rfl; have cB2 := hCB.2 2 _ rfl; have cB3 := hCB.2 3 _ rfl; have cB4 := hCB.2 4 _ rfl; have cB5 := hCB.2 5 _ rfl; have cB6 := hCB.2 6 _ rfl
 refine Ks ?_
 refine Rs 3 fun Q' K hK => ?_
 refine M1 hE 3 fun K' J ρ q3 => ?_; go_simp; (try clear q3)
 refine Ln hE J fun _ Eb => ?_; clear J K' hE a
 refine M1 Eb 26 fun K' J ρ q26 => ?_; go_simp; (try go_bits); (try clear q26)
 go_at_call 16; refine (C2.out _ hM1).mono ?_; rintro e w2 ⟨rfl, h2⟩
 (try clear r26)
 refine Ln Eb J fun _ Ea => ?_; clear J K' Eb
 refine M1 Ea 27 fun K' J ρ q27 => ?_; go_simp; (try go_bits); (try simp (disch := omega) only [IntWalk.i64_in]); (try clear q27)
 refine Ln Ea J fun _ Eb => ?_; clear J K' Ea
 refine late_done [3, 28] Eb hK (fun a hE => ?_); clear hK K Q' Eb; simp only [lk, pick, Nat.reduceEqDiff, ↓reduceIte] at hE
 refine Ks ?_
 refine cond_yes hE (t := 28) rfl ?_
 refine Ks ?_
 refine Rs 2 fun Q' K hK => ?_
 refine M0 fun K' J ρ => ?_; go_simp; (try go_bits);
 go_at_call 15; refine (written_any _).mono ?_; rintro e w3 ⟨rfl, h3⟩
 refine Ln hE J fun _ Eb => ?_; clear J K' hE a
 refine M1 Eb 29 fun K' J ρ q29 => ?_; go_simp; (try clear q29)
 refine Ln Eb J fun _ Ea => ?_; clear J K' Eb
 refine late_done [6] Ea hK (fun a hE => ?_); clear hK K Q' Ea; simp only [lk, pick, Nat.reduceEqDiff, ↓reduceIte] at hE
 refine Ks ?_
 exact ret_one hE rfl rfl ⟨rfl, hbw1.trans ((h2.trans (h3.mono h2.size)).mono hbw1.size)⟩
set_option maxRecDepth 100000 in
set_option maxHeartbeats 4000000 in
theorem wider_head (ho : b.ok = true) (T : Option Addr) (tc : Nat) (ns : List Int) (n : Int) (w : World) (hM : BkAt w A L b) (hs : b.small cap lcap) (hT : Arr w w.heap.size T (ints ns))
    (HMid : Hid (∀ x : Bk, Wider b x → x.ok = true → x.small cap lcap → ∀ (B X : Nat) (V : World) (a : Act), BkAt V A L b → BkAt V A L x → Below w.heap.size w V → Arr V V.heap.size T (ints ns) → Cells V B (bkV A cap L lcap b) → Cells V X (bkV A cap L lcap x) → Fits 194 [(1, .slice T ns.length tc), (3, .pointer (some ⟨B, 0, none⟩)), (7, .pointer (some ⟨X, 0, none⟩))] a →
     (cr 4 (bodyOf Try.f8)).wp Try.prog (bodyPost Try.prog Try.f8 fun e w' => e = .returned (.bool true) ∧ Below w.heap.size w w') a V)) :
    Calls Try.prog 8 #[.agg (bkV A cap L lcap b).toArray, .slice T ns.length tc, .int .i64 n] w fun e w' => e = .returned (.bool true) ∧ Below w.heap.size w w' := by
 have C2 : Hid (∀ W, BkAt W A L b → Calls Try.prog 16 #[.agg (bkV A cap L lcap b).toArray] W fun e w' => e = .returned (.bool true) ∧ Below W.heap.size W w') := hid fun W hW => by
  have h := sound_any A cap L lcap b W hW hs
  rw [ho] at h
  exact h
 obtain ⟨_, _, ⟨p1, p2, p3⟩, ⟨p4, p5⟩, _⟩ := bk_parts ho
 obtain ⟨p6, p7⟩ := ear_slips ho
 have HO := hid ho
 obtain ⟨r, hr⟩ : ∃ r, windI n 3 = r := ⟨_, rfl⟩
 have HR := hid hr
 clear hr ho
 simp only [bkV] at C2 ⊢
 refine enterE Try.func8 rfl Try.ntmps8 (by simp) (fun a hE => ?_); simp only [envOf, Nat.zero_add, Nat.reduceAdd] at hE
 refine Ks ?_
 refine Rs 2 fun Q' K hK => ?_
 refine M1 hE 0 fun K' J ρ q0 => ?_; go_simp; (try clear q0)
 refine Ln hE J fun _ Eb => ?_; clear J K' hE a
 refine M0 fun K' J ρ => ?_; go_simp;
 refine Ln Eb J fun _ Ea => ?_; clear J K' Eb
 refine late_done [1, 2, 3] Ea hK (fun a hE => ?_); clear hK K Q' Ea; simp only [lk, pick, Nat.reduceEqDiff, ↓reduceIte] at hE
 obtain ⟨B, hBe⟩ : ∃ B, B = w.heap.size := ⟨_, rfl⟩; rw [← hBe] at hE; refine world_cut (fun wt => Below w.heap.size w wt ∧ Cells wt B (bkV A cap L lcap b)) ⟨(Below.refl _ _).alloc (Nat.le_refl _) _, by rw [hBe]; exact cells_new _ _ _⟩ (fun w1 hCut => ?_); obtain ⟨hbw1, hCB⟩ := hCut; clear hBe
 have hM1 := hM.below hbw1
 simp only [bkV] at hCB
 have nB := hCB.1; have cB0 := hCB.2 0 _ rfl; have cB1 := hCB.2 1 _ rfl; have cB2 := hCB.2 2 _ rfl; have cB3 := hCB.2 3 _ rfl; have cB4 := hCB.2 4 _ rfl; have cB5 := hCB.2 5 _ rfl; have cB6 := hCB.2 6 _ rfl
 refine Ks ?_
 refine Rs 3 fun Q' K hK => ?_
 refine M1 hE 3 fun K' J ρ q3 => ?_; go_simp; (try clear q3)
 refine Ln hE J fun _ Eb => ?_; clear J K' hE a
 refine M1 Eb 26 fun K' J ρ q26 => ?_; go_simp; (try go_bits); (try clear q26)
 go_at_call 16; refine (C2.out _ hM1).mono ?_; rintro e2 w2 ⟨rfl, h2⟩
 (try clear r26)
 refine Ln Eb J fun _ Ea => ?_; clear J K' Eb
 refine M1 Ea 27 fun K' J ρ q27 => ?_; go_simp; (try go_bits); (try simp (disch := omega) only [IntWalk.i64_in]); (try clear q27)
 refine Ln Ea J fun _ Eb => ?_; clear J K' Ea
 refine late_done [1, 2, 3, 28] Eb hK (fun a hE => ?_); clear hK K Q' Eb; simp only [lk, pick, Nat.reduceEqDiff, ↓reduceIte] at hE
 have hb2 := hbw1.trans (h2.mono hbw1.size)
 replace hCB := hCB.below h2
 clear nB cB0 cB1 cB2 cB3 cB4 cB5 cB6 hM1 h2 hbw1
 have nB := hCB.1; have cB0 := hCB.2 0 _ rfl; have cB1 := hCB.2 1 _ rfl; have cB2 := hCB.2 2 _ rfl; have cB3 := hCB.2 3 _ rfl; have cB4 := hCB.2 4 _ rfl; have cB5 := hCB.2 5 _ rfl; have cB6 := hCB.2 6 _ rfl
 refine Ks ?_
 refine cond_no hE (t := 28) rfl ?_
 refine Ks ?_
 refine Rs 3 fun Q' K hK => ?_
 refine M1 hE 3 fun K' J ρ q3 => ?_; go_simp; (try clear q3)
 refine Ln hE J fun _ Eb => ?_; clear J K' hE a
 refine M0 fun K' J ρ => ?_; go_simp;
 refine Ln Eb J fun _ Ea => ?_; clear J K' Eb
 refine M2 Ea 7 30 fun K' J ρ q7 q30 => ?_; go_simp; (try clear q7 q30)
 refine late_skip Ea J (fun _ Eb => ?_); clear J K'; clear Ea
 refine late_done [1, 2, 3, 7] Eb hK (fun a hE => ?_); clear hK K Q' Eb; simp only [lk, pick, Nat.reduceEqDiff, ↓reduceIte] at hE
 obtain ⟨X, hXe⟩ : ∃ B, B = w2.heap.size := ⟨_, rfl⟩; have hnX : w2.heap.size ≤ X := Nat.le_of_eq hXe.symm; rw [← hXe] at hE; refine world_cut (fun wt => Below w2.heap.size w2 wt ∧ X < wt.heap.size ∧ Row wt X (bkV A cap L lcap b)) ⟨(Below.refl _ _).alloc (Nat.le_refl _) _, by rw [hXe]; simp, by rw [hXe]; exact row_new _ _ _⟩ (fun w3 hCut => ?_); obtain ⟨hbw3, hlX, hRX⟩ := hCut; clear hXe
 have hb3 := hb2.trans (hbw3.mono hb2.size)
 replace hCB := hCB.below hbw3
 have hBX : B ≠ X := by have := nB; omega
 have hXw : w.heap.size ≤ X := Nat.le_trans hb2.size hnX
 simp only [bkV] at hRX
 clear nB cB0 cB1 cB2 cB3 cB4 cB5 cB6 hbw3 hb2 hnX
 have nB := hCB.1
 have cB2 := hCB.2 2 _ rfl
 have cB4 := hCB.2 4 _ rfl
 have cB5 := hCB.2 5 _ rfl
 have cB6 := hCB.2 6 _ rfl
 refine Ks ?_
 refine Rs 2 fun Q' K hK => ?_
 refine M1 hE 2 fun K' J ρ q2 => ?_; go_simp; (try clear q2)
 refine Ln hE J fun _ Eb => ?_; clear J K' hE a
 refine M1 Eb 31 fun K' J ρ q31 => ?_; go_simp; (try go_bits); (try clear q31)
 go_at_call 37; refine (wind_any n 3 (by decide) _).mono ?_; rw [HR.out]; rintro e g1 ⟨rfl, rfl⟩
 (try clear r31)
 refine Ln Eb J fun _ Ea => ?_; clear J K' Eb
 refine late_done [1, 3, 7, 32] Ea hK (fun a hE => ?_); clear hK K Q' Ea; simp only [lk, pick, Nat.reduceEqDiff, ↓reduceIte] at hE
 refine Ks ?_
 by_cases g0 : r = 0
 ·skip
  refine Rs 2 fun Q' K hK => ?_
  refine M1 hE 32 fun K' J ρ q32 => ?_; go_simp; (try go_bits); (try clear q32)
  refine Ln hE J fun _ Eb => ?_; clear J K' hE a
  replace Eb := Eb.turn 41 (v' := .bool true) rfl (by (simp [g0]))
  refine M1 Eb 41 fun K' J ρ q41 => ?_; go_simp; (try clear q41)
  refine Ln Eb J fun _ Ea => ?_; clear J K' Eb
  refine late_done [1, 3, 7, 32, 40] Ea hK (fun a hE => ?_); clear hK K Q' Ea; simp only [lk, pick, Nat.reduceEqDiff, ↓reduceIte] at hE
  refine Ks ?_
  refine cond_yes hE (t := 40) rfl ?_
  refine Ks ?_
  have y6 := (hRX 6 _ rfl).2
  refine Rs 6 fun Q' K hK => ?_
  refine M1 hE 3 fun K' J ρ q3 => ?_; go_simp; (try clear q3)
  refine Ln hE J fun _ Eb => ?_; clear J K' hE a
  refine M1 Eb 42 fun K' J ρ q42 => ?_; go_simp; (try clear q42)
  refine Ln Eb J fun _ Ea => ?_; clear J K' Eb
  refine M1 Ea 43 fun K' J ρ q43 => ?_; go_simp; (try go_bits); (try simp (disch := omega) only [IntWalk.i64_in]); (try clear q43)
  refine Ln Ea J fun _ Eb => ?_; clear J K' Ea
  refine M1 Eb 44 fun K' J ρ q44 => ?_; go_simp; (try go_bits); (try clear q44)
  refine Ln Eb J fun _ Ea => ?_; clear J K' Eb
  replace Ea := Ea.turn 45 (v' := .int .i64 (min 9 (b.lost + 1))) rfl (by (first | rfl | (congr 1; omega) | (simp; omega)))
  refine M1 Ea 7 fun K' J ρ q7 => ?_; go_simp; (try clear q7)
  refine Ln Ea J fun _ Eb => ?_; clear J K' Ea
  refine M2 Eb 46 45 fun K' J ρ q46 q45 => ?_; go_simp; (try clear q46 q45)
  refine late_skip Eb J (fun _ Ea => ?_); clear J K'; clear Eb
  refine late_done [1, 3, 7] Ea hK (fun a hE => ?_); clear hK K Q' Ea; simp only [lk, pick, Nat.reduceEqDiff, ↓reduceIte] at hE
  refine world_cut (fun wt => Below w.heap.size w wt ∧ Cells wt B (bkV A cap L lcap b) ∧ Cells wt X (bkV A cap L lcap ({ b with lost := min 9 (b.lost + 1) } : Bk))) ?_ (fun w5 hC => ?_)
  ·refine ⟨hb3.setCell hXw _, ⟨by have := hCB.1; simp; omega, fun j u hu => ?_⟩, row_cells (hRX.set (o := 6) (v := .int .i64 (min 9 (b.lost + 1))) (by simp)) (by simp; omega)⟩
   rw [World.cell?_setCell_other _ _ _ _ (by intro e; have := congrArg Addr.block e; simp only at this; omega)]
   exact hCB.2 j u hu
  obtain ⟨hb5, hCB5, hCX5⟩ := hC
  refine KsE ?_
  have hM5 := hM.below hb5
  refine HMid.out ({ b with lost := min 9 (b.lost + 1) } : Bk) ⟨rfl, rfl, rfl, Int.le_refl _, Int.le_refl _, Int.le_refl _, by show b.lost ≤ min 9 (b.lost + 1); omega⟩ (ok_lost HO.out _ (by omega) (by omega)) hs B X w5 _ hM5 hM5 hb5 ((hT.below hb5).more hb5.size) hCB5 hCX5 (hE.keep [1, 3, 7])
 ·skip
  refine Rs 2 fun Q' K hK => ?_
  refine M1 hE 32 fun K' J ρ q32 => ?_; go_simp; (try go_bits); (try clear q32)
  refine Ln hE J fun _ Eb => ?_; clear J K' hE a
  replace Eb := Eb.turn 41 (v' := .bool false) rfl (by (simp [g0]))
  refine M1 Eb 41 fun K' J ρ q41 => ?_; go_simp; (try clear q41)
  refine Ln Eb J fun _ Ea => ?_; clear J K' Eb
  refine late_done [1, 3, 7, 32, 40] Ea hK (fun a hE => ?_); clear hK K Q' Ea; simp only [lk, pick, Nat.reduceEqDiff, ↓reduceIte] at hE
  refine Ks ?_
  refine cond_no hE (t := 40) rfl ?_
  refine Ks ?_
  by_cases g1 : r = 1
  ·skip
   refine Rs 2 fun Q' K hK => ?_
   refine M1 hE 32 fun K' J ρ q32 => ?_; go_simp; (try go_bits); (try clear q32)
   refine Ln hE J fun _ Eb => ?_; clear J K' hE a
   replace Eb := Eb.turn 48 (v' := .bool true) rfl (by (simp [g1]))
   refine M1 Eb 48 fun K' J ρ q48 => ?_; go_simp; (try clear q48)
   refine Ln Eb J fun _ Ea => ?_; clear J K' Eb
   refine late_done [1, 3, 7, 32, 47] Ea hK (fun a hE => ?_); clear hK K Q' Ea; simp only [lk, pick, Nat.reduceEqDiff, ↓reduceIte] at hE
   refine Ks ?_
   refine cond_yes hE (t := 47) rfl ?_
   refine Ks ?_
   have y4 := (hRX 4 _ rfl).2
   have y5 := (hRX 5 _ rfl).2
   refine Rs 13 fun Q' K hK => ?_
   refine M1 hE 3 fun K' J ρ q3 => ?_; go_simp; (try clear q3)
   refine Ln hE J fun _ Eb => ?_; clear J K' hE a
   refine M1 Eb 49 fun K' J ρ q49 => ?_; go_simp; (try clear q49)
   refine Ln Eb J fun _ Ea => ?_; clear J K' Eb
   refine M1 Ea 50 fun K' J ρ q50 => ?_; go_simp; (try clear q50)
   refine Ln Ea J fun _ Eb => ?_; clear J K' Ea
   refine M1 Eb 51 fun K' J ρ q51 => ?_; go_simp; (try go_bits); (try simp (disch := omega) only [IntWalk.i64_in]); (try clear q51)
   refine Ln Eb J fun _ Ea => ?_; clear J K' Eb
   refine M1 Ea 52 fun K' J ρ q52 => ?_; go_simp; (try go_bits); (try clear q52)
   refine Ln Ea J fun _ Eb => ?_; clear J K' Ea
   replace Eb := Eb.turn 53 (v' := .int .i64 (max 0 (b.lo - 20))) rfl (by (first | rfl | (congr 1; omega) | (simp; omega)))
   refine M1 Eb 3 fun K' J ρ q3 => ?_; go_simp; (try clear q3)
   refine Ln Eb J fun _ Ea => ?_; clear J K' Eb
   refine M1 Ea 54 fun K' J ρ q54 => ?_; go_simp; (try clear q54)
   refine Ln Ea J fun _ Eb => ?_; clear J K' Ea
   refine M1 Eb 55 fun K' J ρ q55 => ?_; go_simp; (try clear q55)
   refine Ln Eb J fun _ Ea => ?_; clear J K' Eb
   refine M1 Ea 56 fun K' J ρ q56 => ?_; go_simp; (try go_bits); (try simp (disch := omega) only [IntWalk.i64_in]); (try clear q56)
   refine Ln Ea J fun _ Eb => ?_; clear J K' Ea
   refine M1 Eb 57 fun K' J ρ q57 => ?_; go_simp; (try go_bits); (try clear q57)
   refine Ln Eb J fun _ Ea => ?_; clear J K' Eb
   replace Ea := Ea.turn 58 (v' := .int .i64 (min 1439 (b.hi + 20))) rfl (by (first | rfl | (congr 1; omega) | (simp; omega)))
   refine M2 Ea 53 58 fun K' J ρ q53 q58 => ?_; go_simp; (try go_bits); (try clear q53 q58)
   go_at_call 39; refine (to_any _ _ _).mono ?_; rintro e w4 ⟨rfl, h4⟩; have y4 := ((hRX.below h4 hlX) 4 _ rfl).2; have y5 := ((hRX.below h4 hlX) 5 _ rfl).2
   (try clear r53 r58)
   refine Ln Ea J fun _ Eb => ?_; clear J K' Ea
   refine M1 Eb 7 fun K' J ρ q7 => ?_; go_simp; (try clear q7)
   refine Ln Eb J fun _ Ea => ?_; clear J K' Eb
   refine M2 Ea 60 59 fun K' J ρ q60 q59 => ?_; go_simp; (try clear q60 q59)
   refine late_skip Ea J (fun _ Eb => ?_); clear J K'; clear Ea
   refine late_done [1, 3, 7] Eb hK (fun a hE => ?_); clear hK K Q' Eb; simp only [lk, pick, Nat.reduceEqDiff, ↓reduceIte] at hE
   replace hRX := hRX.below h4 hlX
   replace hCB := hCB.below h4
   replace hb3 := hb3.trans (h4.mono hb3.size)
   replace hlX := Nat.lt_of_lt_of_le hlX h4.size
   refine world_cut (fun wt => Below w.heap.size w wt ∧ Cells wt B (bkV A cap L lcap b) ∧ Cells wt X (bkV A cap L lcap ({ b with lo := max 0 (b.lo - 20), hi := min 1439 (b.hi + 20) } : Bk))) ?_ (fun w5 hC => ?_)
   ·refine ⟨(hb3.setCell hXw _).setCell hXw _, ⟨by have := hCB.1; simp; omega, fun j u hu => ?_⟩, row_cells ((hRX.set (o := 4) (v := .int .i64 (max 0 (b.lo - 20))) (by simp)).set (o := 5) (v := .int .i64 (min 1439 (b.hi + 20))) (by simp)) (by simp; omega)⟩
    rw [World.cell?_setCell_other _ _ _ _ (by intro e; have := congrArg Addr.block e; simp only at this; omega)]; rw [World.cell?_setCell_other _ _ _ _ (by intro e; have := congrArg Addr.block e; simp only at this; omega)]
    exact hCB.2 j u hu
   obtain ⟨hb5, hCB5, hCX5⟩ := hC
   refine KsE ?_
   have hM5 := hM.below hb5
   refine HMid.out ({ b with lo := max 0 (b.lo - 20), hi := min 1439 (b.hi + 20) } : Bk) ⟨rfl, rfl, rfl, Int.le_refl _, by show max 0 (b.lo - 20) ≤ b.lo; omega, by show b.hi ≤ min 1439 (b.hi + 20); omega, Int.le_refl _⟩ (ok_way HO.out _ _ (by omega) (by omega) (by omega)) hs B X w5 _ hM5 hM5 hb5 ((hT.below hb5).more hb5.size) hCB5 hCX5 (hE.keep [1, 3, 7])
  ·skip
   refine Rs 2 fun Q' K hK => ?_
   refine M1 hE 32 fun K' J ρ q32 => ?_; go_simp; (try go_bits); (try clear q32)
   refine Ln hE J fun _ Eb => ?_; clear J K' hE a
   replace Eb := Eb.turn 48 (v' := .bool false) rfl (by (simp [g1]))
   refine M1 Eb 48 fun K' J ρ q48 => ?_; go_simp; (try clear q48)
   refine Ln Eb J fun _ Ea => ?_; clear J K' Eb
   refine late_done [1, 3, 7, 32, 47] Ea hK (fun a hE => ?_); clear hK K Q' Ea; simp only [lk, pick, Nat.reduceEqDiff, ↓reduceIte] at hE
   refine Ks ?_
   refine cond_no hE (t := 47) rfl ?_
   refine Ks ?_
   have y2 := (hRX 2 _ rfl).2
   refine Rs 8 fun Q' K hK => ?_
   refine M1 hE 3 fun K' J ρ q3 => ?_; go_simp; (try clear q3)
   refine Ln hE J fun _ Eb => ?_; clear J K' hE a
   refine M1 Eb 33 fun K' J ρ q33 => ?_; go_simp; (try clear q33)
   refine Ln Eb J fun _ Ea => ?_; clear J K' Eb
   refine M1 Ea 34 fun K' J ρ q34 => ?_; go_simp; (try clear q34)
   refine Ln Ea J fun _ Eb => ?_; clear J K' Ea
   refine M1 Eb 35 fun K' J ρ q35 => ?_; go_simp; (try go_bits); (try simp (disch := omega) only [IntWalk.i64_in]); (try clear q35)
   refine Ln Eb J fun _ Ea => ?_; clear J K' Eb
   refine M1 Ea 36 fun K' J ρ q36 => ?_; go_simp; (try go_bits); (try clear q36)
   refine Ln Ea J fun _ Eb => ?_; clear J K' Ea
   replace Eb := Eb.turn 37 (v' := .int .i64 (min 3 (b.ear.slips + 1))) rfl (by (first | rfl | (congr 1; omega) | (simp; omega)))
   refine M1 Eb 7 fun K' J ρ q7 => ?_; go_simp; (try clear q7)
   refine Ln Eb J fun _ Ea => ?_; clear J K' Eb
   refine M1 Ea 38 fun K' J ρ q38 => ?_; go_simp; (try clear q38)
   refine Ln Ea J fun _ Eb => ?_; clear J K' Ea
   refine M2 Eb 39 37 fun K' J ρ q39 q37 => ?_; go_simp; (try clear q39 q37)
   refine late_skip Eb J (fun _ Ea => ?_); clear J K'; clear Eb
   refine late_done [1, 3, 7] Ea hK (fun a hE => ?_); clear hK K Q' Ea; simp only [lk, pick, Nat.reduceEqDiff, ↓reduceIte] at hE
   refine world_cut (fun wt => Below w.heap.size w wt ∧ Cells wt B (bkV A cap L lcap b) ∧ Cells wt X (bkV A cap L lcap ({ b with ear := { b.ear with slips := min 3 (b.ear.slips + 1) } } : Bk))) ?_ (fun w5 hC => ?_)
   ·refine ⟨hb3.setCell hXw _, ⟨by have := hCB.1; simp; omega, fun j u hu => ?_⟩, row_cells (hRX.set (o := 2) (v := .int .i64 (min 3 (b.ear.slips + 1))) (by simp)) (by simp; omega)⟩
    rw [World.cell?_setCell_other _ _ _ _ (by intro e; have := congrArg Addr.block e; simp only at this; omega)]
    exact hCB.2 j u hu
   obtain ⟨hb5, hCB5, hCX5⟩ := hC
   refine KsE ?_
   have hM5 := hM.below hb5
   refine HMid.out ({ b with ear := { b.ear with slips := min 3 (b.ear.slips + 1) } } : Bk) ⟨rfl, rfl, rfl, by show b.ear.slips ≤ min 3 (b.ear.slips + 1); omega, Int.le_refl _, Int.le_refl _, Int.le_refl _⟩ (ok_slips HO.out _ (by omega) (by omega)) hs B X w5 _ hM5 hM5 hb5 ((hT.below hb5).more hb5.size) hCB5 hCX5 (hE.keep [1, 3, 7])
theorem nwider_any (T : Option Addr) (tc : Nat) (ns : List Int) (n : Int) (w : World) (hM : BkAt w A L b) (hs : b.small cap lcap) (hT : Arr w w.heap.size T (ints ns)) (hn : ns.length ≤ 9223372036854775807) : Calls Try.prog 8 #[.agg (bkV A cap L lcap b).toArray, .slice T ns.length tc, .int .i64 n] w fun e w' => e = .returned (.bool true) ∧ Below w.heap.size w w' := by
 cases ho : b.ok
 ·exact wider_bad A cap L lcap b ho T tc ns n w hM hs
 ·refine wider_head A cap L lcap b ho T tc ns n w hM hs hT (hid fun x hx hox hsx B X V a hMV hMx hb hTV hCB hCX hE => ?_)
  have h9 := ok_nine ho
  have hl0 := (bk_parts ho).2.2.2.1.1
  have hle := hx.ts.length_le
  have tru : ∀ (y : Bk), y.ok = true → y.small cap lcap → ∀ W, BkAt W A L y → Calls Try.prog 30 #[.agg (bkV A cap L lcap y).toArray] W fun e w' => e = .returned (.tuple #[.int .i64 y.ts.length, .int .i64 0]) ∧ Below W.heap.size W w' := fun y hy hsy W hW => by
   have h := pTruths_any A cap L lcap y W hW hsy
   unfold pTruthsR at h
   rw [hy] at h
   exact h
  have wro : ∀ (y : Bk), y.ok = true → y.small cap lcap → ∀ W, BkAt W A L y → Calls Try.prog 21 #[.agg (bkV A cap L lcap y).toArray] W fun e w' => (∃ T c, e = .returned (.tuple #[.slice T (wrongP y).length c, .int .i64 0])) ∧ Below W.heap.size W w' := fun y hy hsy W hW => by
   have h := pWrong_any A cap L lcap y W hW hsy
   have e1 : pWrongL y = wrongP y := by unfold pWrongL; rw [hy]; rfl
   have e2 : bkE y = 0 := by unfold bkE; rw [hy]; rfl
   rw [e1, e2] at h
   exact h.mono (by
    rintro e w' ⟨⟨T, c, rfl, _⟩, h2⟩
    exact ⟨⟨T, c, rfl⟩, h2⟩)
  have tr : ∀ (y : Bk), y.ok = true → y.small cap lcap → ∀ (t : Prs), t.length ≤ 9 → ∀ O oc W, BkAt W A L y → Arr W W.heap.size O (pairsV t) → Calls Try.prog 18 #[.agg (bkV A cap L lcap y).toArray, .slice O t.length oc] W fun e w' => e = .returned (.tuple #[.bool (decide (t ∈ y.ts)), .int .i64 0]) ∧ Below W.heap.size W w' := fun y hy hsy t ht O oc W hW hO => by
   have h := pIsTruth_any A cap L lcap y O oc (t.map castP) W hW hsy (by rw [pairs_cast]; exact hO) (by rw [List.length_map]; omega)
   rw [is_truth hy, List.length_map] at h
   exact h
  have wl9 : (wrongP b).length ≤ 9 := by
   have := incN_len (wrong_lawN hl0).1
   omega
  refine wider_mid A cap L lcap b x hs hsx T tc ns b.ts.length x.ts.length (wrongP b) (wrongP x) hle (hx.wrong hl0) wl9 (hid fun W hW hTW => drawn_any A cap L lcap b ho T tc ns W hW hs hTW hn) h9
   (hid fun t ht => ⟨decide (t ∈ b.ts), decide (t ∈ x.ts), fun h => decide_eq_true (hx.ts.subset (of_decide_eq_true h)), fun O oc W hW hO => tr b ho hs t ht O oc W hW hO, fun O oc W hW hO => tr x hox hsx t ht O oc W hW hO⟩)
   (hid (tru b ho hs)) (hid (tru x hox hsx)) (hid (wro b ho hs)) (hid (wro x hox hsx)) (hid fun hm B X w W a hMW hMWx hb hCB hCX hE => ?_) B X w V hMV hMx hb hTV hCB hCX a hE
  have hne : b.ts.length ≠ 0 := by omega
  have s1 : setE b true = 0 := by rw [set_ok ho, if_neg hne]
  have s2 : setE x true = 0 := by rw [set_ok hox, if_neg (by omega)]
  have hx9 : x.lines.length ≤ 9 := ok_nine hox
  refine wider_end A cap L lcap b x hs hsx (pJoinedL b) (pJoinedL x) (pPeopleR b).1 (pPeopleR b).2 (pPeopleR x).1 (pPeopleR x).2 (joined_len hx9) (joined_len h9) (hid (hx.people ho hox hne)) (hid fun p hp => hx.joined ho hox hne p hp)
   (hid fun W hW => ?_) (hid fun W hW => ?_) (hid fun W hW => ?_) (hid fun W hW => ?_) B X w W hMW hMWx hb hCB hCX a hE
  ·have h := pJoined_any A cap L lcap b W hW hs
   rw [s1] at h
   exact h
  ·have h := pJoined_any A cap L lcap x W hW hsx
   rw [s2] at h
   exact h
  ·have h := pPeople_any A cap L lcap b W hW hs
   rw [s1] at h
   exact h
  ·have h := pPeople_any A cap L lcap x W hW hsx
   rw [s2] at h
   exact h
end
end Go.Proofs.Ytbimkcjdodgojaa
