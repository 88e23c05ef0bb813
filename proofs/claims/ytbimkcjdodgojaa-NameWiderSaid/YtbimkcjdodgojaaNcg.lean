/- Name: the law's held: are pairs a truth? -/
import Derived.Test.YtbimkcjdodgojaaNcf
namespace Go.Proofs.Ytbimkcjdodgojaa
set_option linter.unusedSimpArgs false
set_option linter.unusedVariables false
open Go Go.RowKit
attribute [local go_sem high] cell_set_wr
attribute [local go_sem low] cell_wr frozen_wr
attribute [local go_sem] wr_set wr_drew wr_drewN wr_alloc wr_new Rho.c Rho.n Rho.g

theorem book_ok {b : Bk} (ho : b.ok = true) {j : Nat} (hj : j < b.lines.length) : 0 ≤ b.lines[j].book ∧ b.lines[j].book ≤ 1 := by
 have hl : lineB b.lines[j] = true := by
  unfold Bk.ok at ho
  rw [Bool.and_eq_true, Bool.and_eq_true] at ho
  exact List.all_eq_true.1 ho.2.2 _ (List.getElem_mem hj)
 unfold lineB at hl
 simp only [Bool.and_eq_true, decide_eq_true_eq] at hl
 exact hl.1.1
section
variable (A : Option Addr) (cap : Nat) (L : Option Addr) (lcap : Nat) (b : Bk)
set_option maxRecDepth 100000 in
set_option maxHeartbeats 4000000 in
theorem held_any (ho : b.ok = true) (G : Option Addr) (gc : Nat) (t : Prs) (hOk0 : OkP (couldsP b) 0 b.lines.length [] t) (w : World) (hM : BkAt w A L b) (hs : b.small cap lcap) (hG : Arr w w.heap.size G (pairsV t)) :
    Calls Try.prog 31 #[.agg (bkV A cap L lcap b).toArray, .slice G t.length gc] w fun e w' => e = .returned (.bool (decide ((b.lines.length : Int) - 2 * t.length ≤ b.lost))) ∧ Below w.heap.size w w' := by
 have h9 := ok_nine ho
 have htl9 : t.length ≤ 9 := by
  rcases hOk0.len with h | h
  ·omega
  ·rw [h]; exact Nat.zero_le _
 have HC : Hid (∀ (i k : Nat) (W : World), i < b.lines.length → k < b.lines.length → canL b (b.lines.getD i zeroLn) (b.lines.getD k zeroLn) = true → BkAt W A L b → Calls Try.prog 23 #[.agg (bkV A cap L lcap b).toArray, .int .i64 i, .int .i64 k] W fun e w' => e = .returned (.tuple #[.bool true, .int .i64 0]) ∧ Below W.heap.size W w') := hid fun i k W hi hk hc hW => by
  have h := pCan_any A cap L lcap b i k W hW hs
  rw [can_in ho hi hk, hc] at h
  exact h
 clear ho
 simp only [bkV] at HC ⊢
 refine enterE Try.func31 rfl Try.ntmps31 (by simp) (fun a hE => ?_); simp only [envOf, Nat.zero_add, Nat.reduceAdd] at hE
 refine Ks ?_
 refine Rs 2 fun Q' K hK => ?_
 refine M1 hE 0 fun K' J ρ q0 => ?_; go_simp; (try clear q0)
 refine Ln hE J fun _ Eb => ?_; clear J K' hE a
 refine M0 fun K' J ρ => ?_; go_simp;
 refine Ln Eb J fun _ Ea => ?_; clear J K' Eb
 refine late_done [1, 2] Ea hK (fun a hE => ?_); clear hK K Q' Ea; simp only [lk, pick, Nat.reduceEqDiff, ↓reduceIte] at hE
 obtain ⟨B, hBe⟩ : ∃ B, B = w.heap.size := ⟨_, rfl⟩; rw [← hBe] at hE; refine world_cut (fun wt => Below w.heap.size w wt ∧ Cells wt B (bkV A cap L lcap b)) ⟨(Below.refl _ _).alloc (Nat.le_refl _) _, by rw [hBe]; exact cells_new _ _ _⟩ (fun w1 hCut => ?_); obtain ⟨hbw1, hCB⟩ := hCut; clear hBe
 simp only [bkV] at hCB
 refine Ks ?_
 refine Rs 2 fun Q' K hK => ?_
 refine M0 fun K' J ρ => ?_; go_simp;
 refine Ln hE J fun _ Eb => ?_; clear J K' hE a
 refine M0 fun K' J ρ => ?_; go_simp;
 refine Ln Eb J fun _ Ea => ?_; clear J K' Eb
 refine late_done [1, 2, 5, 6] Ea hK (fun a hE => ?_); clear hK K Q' Ea; simp only [lk, pick, Nat.reduceEqDiff, ↓reduceIte] at hE
 refine Ks ?_
 refine Rs 1 fun Q' K hK => ?_
 refine M0 fun K' J ρ => ?_; go_simp;
 refine Ln hE J fun _ Eb => ?_; clear J K' hE a
 refine late_done [1, 2, 5, 6, 7] Eb hK (fun a hE => ?_); clear hK K Q' Eb; simp only [lk, pick, Nat.reduceEqDiff, ↓reduceIte] at hE
 refine Ks ?_
 refine loop_st (fun (i : Nat) a w' => ∃ (s : Nat) (l : Int) (k : Nat), i ≤ t.length ∧ Fits 75 [(1, .slice G t.length gc), (2, .pointer (some ⟨B, 0, none⟩)), (5, .int .i64 s), (6, .int .i64 l), (7, .int .i64 i)] a ∧ Below w1.heap.size w1 w' ∧ OkP (couldsP b) k b.lines.length (t.take i) (t.drop i) ∧ l < k ∧ s < 512 ∧ ∀ o, hasB s o = usedP (t.take i) o) (fun i => t.length - i) 0 ?_ (fun i a w' hI => ?_)
 ·exact ⟨0, -1, 0, Nat.zero_le _, by simpa using hE, Below.refl _ _, hOk0, by omega, by omega, fun o => by simp [hasB, usedP]⟩
 clear hE hOk0
 obtain ⟨s, l, k, hi, hE, hW, hOk, hlk, hs512, hU⟩ := hI
 obtain ⟨wr, hwr⟩ : ∃ x, x = w' := ⟨_, rfl⟩
 subst hwr
 have hCr := hCB.below hW
 have hW0 := hbw1.trans (hW.mono hbw1.size)
 refine Ks ?_
 refine Rs 4 fun Q' K hK => ?_
 refine M1 hE 7 fun K' J ρ q7 => ?_; go_simp; (try clear q7)
 refine Ln hE J fun _ Eb => ?_; clear J K' hE a
 refine M1 Eb 1 fun K' J ρ q1 => ?_; go_simp; (try clear q1)
 refine Ln Eb J fun _ Ea => ?_; clear J K' Eb
 refine M1 Ea 12 fun K' J ρ q12 => ?_; go_simp; (try go_bits); (try clear q12)
 refine Ln Ea J fun _ Eb => ?_; clear J K' Ea
 refine M2 Eb 11 13 fun K' J ρ q11 q13 => ?_; go_simp; (try go_bits); (try clear q11 q13)
 refine Ln Eb J fun _ Ea => ?_; clear J K' Eb
 refine late_done [1, 2, 5, 6, 7, 14] Ea hK (fun a hE => ?_); clear hK K Q' Ea; simp only [lk, pick, Nat.reduceEqDiff, ↓reduceIte] at hE
 refine Ks ?_
 refine cond_part hE (t := 14) rfl (fun h => ?_) (fun h => ?_)
 ·have hlt : i < t.length := by have := of_decide_eq_true h; omega
  clear h
  have hltI : (i : Int) < t.length := by omega
  have hGr := (hG.below hW0).more hW0.size
  obtain ⟨gb, go, rfl, hgb, p0, p1⟩ := hGr.pr hlt
  rw [List.drop_eq_getElem_cons hlt] at hOk
  have htk := List.take_succ_eq_append_getElem hlt
  obtain ⟨p, hp⟩ : ∃ p, t[i] = p := ⟨_, rfl⟩
  rw [hp] at p0 p1 hOk htk
  clear hp
  obtain ⟨o1, o2, o3, o4, o5⟩ := hOk
  rw [← htk] at o5
  obtain ⟨m1, m2, m3, m4⟩ := (mem_coulds b p.1 p.2).1 o3
  have hH : hasB s p.2 = false := by rw [hU]; exact o4
  have hU2 : ∀ o, hasB (s ||| 2 ^ p.2) o = usedP (t.take (i + 1)) o := fun o => by
   rw [has_or, hU, htk, show (p : Nat × Nat) = (p.1, p.2) from rfl, used_snoc]
  have HU2 := hid hU2
  have HO5 := hid o5
  have hM1 := hM.below hW0
  obtain ⟨bx, ox, rfl, hbx, x0, x1, x2⟩ := hM1.2.nl m1
  have hzb : b.lines[p.1].book = 0 := by
   unfold zB at m3
   rw [List.getD_eq_getElem?_getD] at m3
   simpa [m1] using m3
  rw [hzb] at x0
  have HC2 := hid (fun W => HC.out p.1 p.2 W m1 m2 m4)
  have hp9 := pow_lt p.2 (by omega)
  have hl1 : ¬ (p.1 : Int) ≤ l := by omega
  clear o3 o4 o5 hU hU2 htk x1 x2 hzb m3 m4
  refine Ks ?_
  refine Rs 6 fun Q' K hK => ?_
  refine M1 hE 1 fun K' J ρ q1 => ?_; go_simp; (try clear q1)
  refine Ln hE J fun _ Eb => ?_; clear J K' hE a
  refine M1 Eb 7 fun K' J ρ q7 => ?_; go_simp; (try clear q7)
  refine Ln Eb J fun _ Ea => ?_; clear J K' Eb
  refine M2 Ea 17 18 fun K' J ρ q17 q18 => ?_; go_simp; (try go_bits); (try clear q17 q18)
  refine Ln Ea J fun _ Eb => ?_; clear J K' Ea
  refine M1 Eb 19 fun K' J ρ q19 => ?_; go_simp; (try clear q19)
  refine Ln Eb J fun _ Ea => ?_; clear J K' Eb
  refine M0 fun K' J ρ => ?_; go_simp;
  refine Ln Ea J fun _ Eb => ?_; clear J K' Ea
  refine M2 Eb 8 20 fun K' J ρ q8 q20 => ?_; go_simp; (try clear q8 q20)
  refine late_skip Eb J (fun _ Ea => ?_); clear J K'; clear Eb
  refine late_done [1, 2, 5, 6, 7, 8] Ea hK (fun a hE => ?_); clear hK K Q' Ea; simp only [lk, pick, Nat.reduceEqDiff, ↓reduceIte] at hE
  obtain ⟨F, hFe⟩ : ∃ B, B = wr.heap.size := ⟨_, rfl⟩; rw [← hFe] at hE; refine world_cut (fun wt => Below wr.heap.size wr wt ∧ Cells wt F [.int .i64 p.1, .int .i64 p.2]) ⟨(Below.refl _ _).alloc (Nat.le_refl _) _, by rw [hFe]; exact cells_new _ _ _⟩ (fun w2 hCut => ?_); obtain ⟨hbw2, hCF⟩ := hCut; clear hFe
  have hW2 := hW.trans (hbw2.mono hW.size)
  have hCr2 := hCB.below hW2
  have hM2 := hM1.below hbw2
  have z0 := (hbw2.cell (p := ⟨bx, ox + p.1 * 3, none⟩) hbx).trans x0
  have nx : bx < w2.heap.size := Nat.lt_of_lt_of_le hbx hbw2.size
  clear p0 p1 x0 hGr
  have nF := hCF.1; have cF0 := hCF.2 0 _ rfl; have cF1 := hCF.2 1 _ rfl
  have nB := hCr2.1
  have cB0 := hCr2.2 0 _ rfl
  have cB1 := hCr2.2 1 _ rfl
  have cB2 := hCr2.2 2 _ rfl
  have cB3 := hCr2.2 3 _ rfl
  have cB4 := hCr2.2 4 _ rfl
  have cB5 := hCr2.2 5 _ rfl
  have cB6 := hCr2.2 6 _ rfl
  refine Ks ?_
  refine Rs 11 fun Q' K hK => ?_
  refine M1 hE 2 fun K' J ρ q2 => ?_; go_simp; (try clear q2)
  refine Ln hE J fun _ Eb => ?_; clear J K' hE a
  refine M1 Eb 8 fun K' J ρ q8 => ?_; go_simp; (try clear q8)
  refine Ln Eb J fun _ Ea => ?_; clear J K' Eb
  refine M1 Ea 23 fun K' J ρ q23 => ?_; go_simp; (try clear q23)
  refine Ln Ea J fun _ Eb => ?_; clear J K' Ea
  refine M1 Eb 8 fun K' J ρ q8 => ?_; go_simp; (try clear q8)
  refine Ln Eb J fun _ Ea => ?_; clear J K' Eb
  refine M1 Ea 25 fun K' J ρ q25 => ?_; go_simp; (try clear q25)
  refine Ln Ea J fun _ Eb => ?_; clear J K' Ea
  refine M3 Eb 22 24 26 fun K' J ρ q22 q24 q26 => ?_; go_simp; (try go_bits); (try clear q22 q24 q26)
  go_at_call 23; refine (HC2.out _ hM2).mono ?_; rintro e w3 ⟨rfl, h3⟩
  (try clear r22 r24 r26)
  refine Ln Eb J fun _ Ea => ?_; clear J K' Eb
  refine M1 Ea 27 fun K' J ρ q27 => ?_; go_simp; (try clear q27)
  refine Ln Ea J fun _ Eb => ?_; clear J K' Ea
  refine M1 Eb 21 fun K' J ρ q21 => ?_; go_simp; (try clear q21)
  refine Ln Eb J fun _ Ea => ?_; clear J K' Eb
  refine M1 Ea 21 fun K' J ρ q21 => ?_; go_simp; (try clear q21)
  refine Ln Ea J fun _ Eb => ?_; clear J K' Ea
  refine M1 Eb 28 fun K' J ρ q28 => ?_; go_simp; (try clear q28)
  refine Ln Eb J fun _ Ea => ?_; clear J K' Eb
  refine M1 Ea 29 fun K' J ρ q29 => ?_; go_simp; (try clear q29)
  refine Ln Ea J fun _ Eb => ?_; clear J K' Ea
  refine late_done [1, 2, 5, 6, 7, 8, 9, 10] Eb hK (fun a hE => ?_); clear hK K Q' Eb; simp only [lk, pick, Nat.reduceEqDiff, ↓reduceIte] at hE
  clear nB cB0 cB1 cB2 cB3 cB4 cB5 cB6 nF cF0 cF1
  have hW3 := hW2.trans (h3.mono hW2.size)
  have hCr3 := hCB.below hW3
  have hCF3 := hCF.below h3
  have y0 := (h3.cell (p := ⟨bx, ox + p.1 * 3, none⟩) nx).trans z0
  have nx3 : bx < w3.heap.size := Nat.lt_of_lt_of_le nx h3.size
  clear z0 nx hCF
  have nB := hCr3.1
  have cB3 := hCr3.2 3 _ rfl
  have nF := hCF3.1
  have cF0 := hCF3.2 0 _ rfl
  have cF1 := hCF3.2 1 _ rfl
  refine Ks ?_
  refine Rs 28 fun Q' K hK => ?_
  refine M1 hE 10 fun K' J ρ q10 => ?_; go_simp; (try clear q10)
  refine Ln hE J fun _ Eb => ?_; clear J K' hE a
  refine M1 Eb 30 fun K' J ρ q30 => ?_; go_simp; (try go_bits); (try clear q30)
  refine Ln Eb J fun _ Ea => ?_; clear J K' Eb
  replace Ea := Ea.turn 31 (v' := .bool false) rfl (by (first | rfl | simp))
  refine M1 Ea 31 fun K' J ρ q31 => ?_; go_simp; (try clear q31)
  refine Ln Ea J fun _ Eb => ?_; clear J K' Ea
  refine N1 Eb 32 9 fun K' J ρ q9 => ?_; go_simp; (try clear q9)
  refine Ln Eb J fun _ Ea => ?_; clear J K' Eb
  refine N1 Ea 32 33 fun K' J ρ q33 => ?_; go_simp; (try go_bits); (try simp (disch := omega) only [IntWalk.i64_in]); (try clear q33)
  refine Ln Ea J fun _ Eb => ?_; clear J K' Ea
  replace Eb := Eb.turn 34 (v' := .bool false) rfl (by (first | rfl | simp))
  refine M2 Eb 32 34 fun K' J ρ q32 q34 => ?_; go_simp; (try go_bits); (try clear q32 q34)
  refine Ln Eb J fun _ Ea => ?_; clear J K' Eb
  refine M1 Ea 35 fun K' J ρ q35 => ?_; go_simp; (try clear q35)
  refine Ln Ea J fun _ Eb => ?_; clear J K' Ea
  refine N1 Eb 36 2 fun K' J ρ q2 => ?_; go_simp; (try clear q2)
  refine Ln Eb J fun _ Ea => ?_; clear J K' Eb
  refine N1 Ea 36 37 fun K' J ρ q37 => ?_; go_simp; (try clear q37)
  refine Ln Ea J fun _ Eb => ?_; clear J K' Ea
  refine N1 Eb 36 8 fun K' J ρ q8 => ?_; go_simp; (try clear q8)
  refine Ln Eb J fun _ Ea => ?_; clear J K' Eb
  refine N1 Ea 36 39 fun K' J ρ q39 => ?_; go_simp; (try clear q39)
  refine Ln Ea J fun _ Eb => ?_; clear J K' Ea
  refine N2 Eb 36 38 40 fun K' J ρ q38 q40 => ?_; go_simp; (try go_bits); (try clear q38 q40)
  refine Ln Eb J fun _ Ea => ?_; clear J K' Eb
  refine N1 Ea 36 41 fun K' J ρ q41 => ?_; go_simp; (try clear q41)
  refine Ln Ea J fun _ Eb => ?_; clear J K' Ea
  refine N1 Eb 36 42 fun K' J ρ q42 => ?_; go_simp; (try clear q42)
  refine Ln Eb J fun _ Ea => ?_; clear J K' Eb
  refine N1 Ea 36 43 fun K' J ρ q43 => ?_; go_simp; (try go_bits); (try clear q43)
  refine Ln Ea J fun _ Eb => ?_; clear J K' Ea
  replace Eb := Eb.turn 44 (v' := .bool false) rfl (by (first | rfl | simp))
  refine M2 Eb 36 44 fun K' J ρ q36 q44 => ?_; go_simp; (try go_bits); (try clear q36 q44)
  refine Ln Eb J fun _ Ea => ?_; clear J K' Eb
  refine M1 Ea 45 fun K' J ρ q45 => ?_; go_simp; (try clear q45)
  refine Ln Ea J fun _ Eb => ?_; clear J K' Ea
  refine N1 Eb 46 8 fun K' J ρ q8 => ?_; go_simp; (try clear q8)
  refine Ln Eb J fun _ Ea => ?_; clear J K' Eb
  refine N1 Ea 46 47 fun K' J ρ q47 => ?_; go_simp; (try clear q47)
  refine Ln Ea J fun _ Eb => ?_; clear J K' Ea
  refine N1 Eb 46 6 fun K' J ρ q6 => ?_; go_simp; (try clear q6)
  refine Ln Eb J fun _ Ea => ?_; clear J K' Eb
  refine N2 Ea 46 48 49 fun K' J ρ q48 q49 => ?_; go_simp; (try go_bits); (try clear q48 q49)
  refine Ln Ea J fun _ Eb => ?_; clear J K' Ea
  replace Eb := Eb.turn 50 (v' := .bool false) rfl (by (simp [hl1]))
  refine M2 Eb 46 50 fun K' J ρ q46 q50 => ?_; go_simp; (try go_bits); (try clear q46 q50)
  refine Ln Eb J fun _ Ea => ?_; clear J K' Eb
  refine M1 Ea 51 fun K' J ρ q51 => ?_; go_simp; (try clear q51)
  refine Ln Ea J fun _ Eb => ?_; clear J K' Ea
  refine N1 Eb 52 5 fun K' J ρ q5 => ?_; go_simp; (try clear q5)
  refine Ln Eb J fun _ Ea => ?_; clear J K' Eb
  refine N1 Ea 52 8 fun K' J ρ q8 => ?_; go_simp; (try clear q8)
  refine Ln Ea J fun _ Eb => ?_; clear J K' Ea
  refine N1 Eb 52 54 fun K' J ρ q54 => ?_; go_simp; (try clear q54)
  refine Ln Eb J fun _ Ea => ?_; clear J K' Eb
  refine N2 Ea 52 53 55 fun K' J ρ q53 q55 => ?_; go_simp; (try go_bits); (try clear q53 q55)
  go_at_call 74; refine (has_any s p.2 _ (by omega) (by omega)).mono ?_; rw [hH]; rintro e w4 ⟨rfl, rfl⟩
  (try clear r53 r55)
  refine Ln Ea J fun _ Eb => ?_; clear J K' Ea
  refine M2 Eb 52 56 fun K' J ρ q52 q56 => ?_; go_simp; (try go_bits); (try clear q52 q56)
  refine Ln Eb J fun _ Ea => ?_; clear J K' Eb
  refine late_done [1, 2, 5, 6, 7, 8, 57] Ea hK (fun a hE => ?_); clear hK K Q' Ea; simp only [lk, pick, Nat.reduceEqDiff, ↓reduceIte] at hE
  refine Ks ?_
  refine cond_no hE (t := 57) rfl ?_
  refine Ks ?_
  refine region_drawn_app [8] (fun wt => Below w3.heap.size w3 wt) (fun _ => True) (fun w1 w2 => Below w1.heap.size w1 w2) (fun w1 w2 => Below w1.heap.size w1 w2) [(0, some 58), (1, some 59), (2, some 60), (3, some 61), (4, some 62), (5, some 63), (7, some 5)] [0, 1, 2, 3, 4, 5, 6, 7] [58, 59, 60, 61, 62, 63, 5, 64] 6 64 7 5 (fun v _ => v = .int .i64 p.1) #[true, true, true, true, true, true, true, true, false] [1, 2, 6, 7] hE (fun _ _ _ _ h => h) (fun _ _ _ _ => trivial) (by kernel_rfl) (by kernel_rfl) (by kernel_rfl) (by kernel_rfl) (by kernel_rfl) (by kernel_rfl) (by kernel_rfl) (by kernel_rfl) (by kernel_rfl) (by kernel_rfl) (by kernel_rfl) (by kernel_rfl) (by kernel_rfl) (by kernel_rfl) (by kernel_rfl) (by decide) (by kernel_rfl) (by kernel_rfl) ((Below.refl _ _).drew) (trivial) (fun Q' K hK => ?_)
  refine SeqA.val ?_ (Sp fun ax wx hS hT' hd K' J => ?_) ?_; rotate_left 1
  ·have r5 := hS.at 5 (by kernel_rfl) (hE.at 5 rfl); obtain ⟨hcT, hfT, hlT, hmT, hwT, hzT⟩ := bT hT'
   refine Go.Proofs.Ytbimkcjdodgojaa.o1 r5 fun ρ q5 => ?_; go_simp;
   exact Jo J hT'
  refine SeqA.val ?_ (Sp fun ax wx hS hT' hd K' J => ?_) ?_; rotate_left 1
  ·have r8 := hS.at 8 (by kernel_rfl) (hE.at 8 rfl); obtain ⟨hcT, hfT, hlT, hmT, hwT, hzT⟩ := bT hT'
   refine Go.Proofs.Ytbimkcjdodgojaa.o1 r8 fun ρ q8 => ?_; go_simp;
   exact Jo J hT'
  refine SeqA.val ?_ (Sp fun ax wx hS hT' hd K' J => ?_) ?_; rotate_left 1
  ·have r59 := Tv hd 0 1 59; obtain ⟨hcT, hfT, hlT, hmT, hwT, hzT⟩ := bT hT'
   refine Go.Proofs.Ytbimkcjdodgojaa.o1 r59 fun ρ q59 => ?_; go_simp;
   exact Jo J hT'
  refine SeqA.val ?_ (Sp fun ax wx hS hT' hd K' J => ?_) ?_; rotate_left 1
  ·have r60 := Tv hd 0 2 60; obtain ⟨hcT, hfT, hlT, hmT, hwT, hzT⟩ := bT hT'
   refine Go.Proofs.Ytbimkcjdodgojaa.o1 r60 fun ρ q60 => ?_; go_simp; (try go_bits); (try simp (disch := omega) only [IntWalk.i64_in]);
   exact Jo J hT'
  refine SeqA.val ?_ (Sp fun ax wx hS hT' hd K' J => ?_) ?_; rotate_left 1
  ·have r58 := Tv hd 3 0 58; have r61 := Tv hd 0 3 61; obtain ⟨hcT, hfT, hlT, hmT, hwT, hzT⟩ := bT hT'
   refine Go.Proofs.Ytbimkcjdodgojaa.o2 r58 r61 fun ρ q58 q61 => ?_; go_simp; (try go_bits);
   exact Jo J hT'
  refine SeqA.val ?_ (Sp fun ax wx hS hT' hd K' J => ?_) ?_; rotate_left 1
  ·have r8 := hS.at 8 (by kernel_rfl) (hE.at 8 rfl); obtain ⟨hcT, hfT, hlT, hmT, hwT, hzT⟩ := bT hT'
   refine Go.Proofs.Ytbimkcjdodgojaa.o1 r8 fun ρ q8 => ?_; go_simp;
   exact Jo J hT'
  refine SeqA.val ?_ (Sp fun ax wx hS hT' hd K' J => ?_) ?_; rotate_left 1
  ·have r62 := Tv hd 1 4 62; obtain ⟨hcT, hfT, hlT, hmT, hwT, hzT⟩ := bT hT'
   refine Go.Proofs.Ytbimkcjdodgojaa.o1 r62 fun ρ q62 => ?_; go_simp;
   exact Jo J hT'
  refine SeqA.nil ?_
  refine ⟨List.forall_mem_cons.2 ⟨.inr (.inr (fun _ _ _ _ h => h)), List.forall_mem_cons.2 ⟨.inr (.inr (fun _ _ _ _ h => h)), List.forall_mem_cons.2 ⟨.inr (.inr (fun _ _ _ _ h => h)), List.forall_mem_cons.2 ⟨.inr (.inr (fun _ _ _ _ h => h)), List.forall_mem_cons.2 ⟨.inr (.inr (fun _ _ _ _ h => h)), List.forall_mem_cons.2 ⟨.inr (.inr (fun _ _ _ _ h => h)), List.forall_mem_cons.2 ⟨.inr (.inr (fun _ _ _ _ h => h)), List.forall_mem_cons.2 ⟨.inl rfl, fun _ h => absurd h List.not_mem_nil⟩⟩⟩⟩⟩⟩⟩⟩, StepApp.plain (by (first | (simp only [List.getElem?_toArray, List.getElem?_cons_succ, List.getElem?_cons_zero]; rfl) | rfl)) rfl (fun ax wx hS hT' hP' hd K' J => ?_), ?_⟩
  ·have r63 := Tv hd 1 5 63; obtain ⟨hcT, hfT, hlT, hmT, hwT, hzT⟩ := bT hT'
   refine Go.Proofs.Ytbimkcjdodgojaa.o1 r63 fun ρ q63 => ?_; go_simp;
   exact J.out _ _ _ rfl rfl hT' (Below.refl _ _)
  intro w4 hBl; (repeat refine Ek ?_)
  refine fun ax hEx => ?_
  simp only [lk, pick, Nat.reduceEqDiff, ↓reduceIte] at hEx
  refine M1 hEx 64 fun K' J ρ q64 => ?_; go_simp; (try clear q64)
  refine Ln hEx J fun _ Eb => ?_; clear J K' hEx
  refine late_done [1, 2, 5, 6, 7] Eb hK (fun a hE => ?_); clear hK K Q' Eb; simp only [lk, pick, Nat.reduceEqDiff, ↓reduceIte] at hE
  replace hE := hE.turn 5 (v' := .int .i64 ((s ||| 2 ^ p.2 : Nat) : Int)) rfl (by rw [← or64 s (2 ^ p.2) hs512 hp9, ← wrap_pow p.2 (by omega)])
  refine Ks ?_
  refine Rs 3 fun Q' K hK => ?_
  refine M1 hE 7 fun K' J ρ q7 => ?_; go_simp; (try clear q7)
  refine Ln hE J fun _ Eb => ?_; clear J K' hE a
  refine M1 Eb 15 fun K' J ρ q15 => ?_; go_simp; (try go_bits); (try simp (disch := omega) only [IntWalk.i64_in]); (try clear q15)
  refine Ln Eb J fun _ Ea => ?_; clear J K' Eb
  refine M1 Ea 16 fun K' J ρ q16 => ?_; go_simp; (try clear q16)
  refine Ln Ea J fun _ Eb => ?_; clear J K' Ea
  refine late_done [1, 2, 5, 6, 7] Eb hK (fun a hE => ?_); clear hK K Q' Eb; simp only [lk, pick, Nat.reduceEqDiff, ↓reduceIte] at hE
  refine Ks ?_
  refine ⟨i + 1, ⟨s ||| 2 ^ p.2, p.1, p.1 + 1, hlt, ?_, hW3.trans (hBl.mono hW3.size), HO5.out, by omega, ?_, HU2.out⟩, by omega⟩
  ·simpa using hE
  ·have := Nat.or_lt_two_pow (n := 9) (x := s) (y := 2 ^ p.2) (by simpa using hs512) (by simpa using hp9)
   simpa using this
 ·have nB := hCr.1
  have cB3 := hCr.2 3 _ rfl
  have cB6 := hCr.2 6 _ rfl
  refine Ks ?_
  refine Rs 11 fun Q' K hK => ?_
  refine M1 hE 2 fun K' J ρ q2 => ?_; go_simp; (try clear q2)
  refine Ln hE J fun _ Eb => ?_; clear J K' hE a
  refine M1 Eb 65 fun K' J ρ q65 => ?_; go_simp; (try clear q65)
  refine Ln Eb J fun _ Ea => ?_; clear J K' Eb
  refine M1 Ea 66 fun K' J ρ q66 => ?_; go_simp; (try go_bits); (try clear q66)
  refine Ln Ea J fun _ Eb => ?_; clear J K' Ea
  refine M1 Eb 1 fun K' J ρ q1 => ?_; go_simp; (try clear q1)
  refine Ln Eb J fun _ Ea => ?_; clear J K' Eb
  refine M1 Ea 68 fun K' J ρ q68 => ?_; go_simp; (try go_bits); (try clear q68)
  refine Ln Ea J fun _ Eb => ?_; clear J K' Ea
  refine M1 Eb 69 fun K' J ρ q69 => ?_; go_simp; (try go_bits); (try simp (disch := omega) only [IntWalk.i64_in]); (try clear q69)
  refine Ln Eb J fun _ Ea => ?_; clear J K' Eb
  refine M2 Ea 67 70 fun K' J ρ q67 q70 => ?_; go_simp; (try go_bits); (try simp (disch := omega) only [IntWalk.i64_in]); (try clear q67 q70)
  refine Ln Ea J fun _ Eb => ?_; clear J K' Ea
  refine M1 Eb 2 fun K' J ρ q2 => ?_; go_simp; (try clear q2)
  refine Ln Eb J fun _ Ea => ?_; clear J K' Eb
  refine M1 Ea 72 fun K' J ρ q72 => ?_; go_simp; (try clear q72)
  refine Ln Ea J fun _ Eb => ?_; clear J K' Ea
  refine M2 Eb 71 73 fun K' J ρ q71 q73 => ?_; go_simp; (try go_bits); (try clear q71 q73)
  refine Ln Eb J fun _ Ea => ?_; clear J K' Eb
  refine M1 Ea 74 fun K' J ρ q74 => ?_; go_simp; (try clear q74)
  refine Ln Ea J fun _ Eb => ?_; clear J K' Ea
  refine late_done [4] Eb hK (fun a hE => ?_); clear hK K Q' Eb; simp only [lk, pick, Nat.reduceEqDiff, ↓reduceIte] at hE
  refine Ks ?_
  exact ret_one hE rfl rfl ⟨rfl, hW0⟩
end
end Go.Proofs.Ytbimkcjdodgojaa
