/- Name: the law of Check, Can, IsTruth and Truths, walked. -/
import Derived.Test.YtbimkcjdodgojaaGreatKNdl
import Derived.Test.YtbimkcjdodgojaaGreatKNbf

namespace Go.Proofs.YtbimkcjdodgojaaGreat
set_option linter.unusedSimpArgs false
set_option linter.unusedVariables false
open Go Go.RowKit
attribute [local go_sem high] cell_set_wr
attribute [local go_sem low] cell_wr frozen_wr
attribute [local go_sem] wr_set wr_drew wr_drewN wr_alloc wr_new Rho.c Rho.n Rho.g
theorem cells_two (w : World) (a b : Array Value) (ta tb : TypeId) : Below w.heap.size w ((w.alloc (.cells a ta)).alloc (.cells b tb)) ∧ Cells ((w.alloc (.cells a ta)).alloc (.cells b tb)) w.heap.size a.toList ∧ Cells ((w.alloc (.cells a ta)).alloc (.cells b tb)) (w.heap.size + 1) b.toList := by
 have h1 : (w.alloc (.cells a ta)).heap.size = w.heap.size + 1 := by simp
 have k1 := cells_new w a ta
 have k2 := cells_new (w.alloc (.cells a ta)) b tb
 rw [h1] at k2
 have b2 := (Below.refl (w.alloc (.cells a ta)).heap.size (w.alloc (.cells a ta))).alloc (Nat.le_refl _) (.cells b tb)
 exact ⟨((Below.refl _ _).alloc (Nat.le_refl _) _).alloc (by rw [h1]; omega) _, k1.below b2, k2⟩
section
variable (A : Option Addr) (cap : Nat) (L : Option Addr) (lcap : Nat) (b : Bk)
set_option maxRecDepth 100000 in
set_option maxHeartbeats 4000000 in
theorem ncans_any (n m : Int) (G : Option Addr) (d : Nat) (ps : IPrs) (w : World) (hM : BkAt w A L b) (hs : b.small cap lcap) (hG : Arr w w.heap.size G (pairsI ps)) (hps : ps.length ≤ 9223372036854775807) (hz : ∀ i (h : i < b.ear.alike.length), b.ear.alike[i].size ≤ 9223372036854775807) : Calls Tryz.prog 3 #[.agg (bkV A cap L lcap b).toArray, .agg #[.int .i64 n, .int .i64 m], .slice G ps.length d] w fun e w' => e = .returned (.bool true) ∧ Below w.heap.size w w' := by
 have C1 := hid fun W hW => pCan_any A cap L lcap b n m W hW hs
 have C2 := hid fun W hW => rCan_full A cap L lcap b n m W hW hs hz
 have C3 := hid fun W hW => pCheck_any A cap L lcap b W hW hs
 have C4 := hid fun W hW => rCheck_any A cap L lcap b W hW hs hz
 have C5 := hid fun W hW hG => pIsTruth_any A cap L lcap b G d ps W hW hs hG hps
 have C6 := hid fun W hW hG => rIsTruth_full A cap L lcap b G d ps W hW hs hG hps hz
 have C7 := hid fun W hW => pTruths_any A cap L lcap b W hW hs
 have C8 := hid fun W hW => rTruths_full A cap L lcap b W hW hs hz
 obtain ⟨p1, hp1⟩ : ∃ p, (pCanR b n m).1 = p := ⟨_, rfl⟩
 obtain ⟨p2, hp2⟩ : ∃ p, (pCanR b n m).2 = p := ⟨_, rfl⟩
 obtain ⟨p3, hp3⟩ : ∃ p, bkE b = p := ⟨_, rfl⟩
 obtain ⟨p4, hp4⟩ : ∃ p, (pIsTruthR b ps).1 = p := ⟨_, rfl⟩
 obtain ⟨p5, hp5⟩ : ∃ p, (pIsTruthR b ps).2 = p := ⟨_, rfl⟩
 obtain ⟨p6, hp6⟩ : ∃ p, (pTruthsR b).1 = p := ⟨_, rfl⟩
 obtain ⟨p7, hp7⟩ : ∃ p, (pTruthsR b).2 = p := ⟨_, rfl⟩
 rw [hp1, hp2] at C1 C2
 rw [hp3] at C3 C4
 rw [hp4, hp5] at C5 C6
 rw [hp6, hp7] at C7 C8
 clear hp1 hp2 hp3 hp4 hp5 hp6 hp7 hz
 have hA : ArrD w G (pairsI ps) := hG
 clear hG
 simp only [bkV] at C1 C2 C3 C4 C5 C6 C7 C8 ⊢
 refine enterE Tryz.func3 rfl Tryz.ntmps3 (by simp) (fun a hE => ?_); simp only [envOf, Nat.zero_add, Nat.reduceAdd] at hE
 refine Ks ?_
 refine Rs 3 fun Q' K hK => ?_
 refine M1 hE 0 fun K' J ρ q0 => ?_; go_simp; (try clear q0)
 refine Ln hE J fun _ Eb => ?_; clear J K' hE a
 refine M1 Eb 1 fun K' J ρ q1 => ?_; go_simp; (try clear q1)
 refine Ln Eb J fun _ Ea => ?_; clear J K' Eb
 refine M0 fun K' J ρ => ?_; go_simp;
 refine Ln Ea J fun _ Eb => ?_; clear J K' Ea
 refine late_done [2, 3, 4] Eb hK (fun a hE => ?_); clear hK K Q' Eb; simp only [lk, pick, Nat.reduceEqDiff, ↓reduceIte] at hE
 obtain ⟨B, hXe⟩ : ∃ B, B = w.heap.size := ⟨_, rfl⟩; obtain ⟨C, hYe⟩ : ∃ B, B = w.heap.size + 1 := ⟨_, rfl⟩; rw [← hYe, ← hXe] at hE; refine world_cut (fun wt => Below w.heap.size w wt ∧ Cells wt B [.slice A b.ear.alike.length cap, .string b.ear.mute, .int .i64 b.ear.slips, .slice L b.lines.length lcap, .int .i64 b.lo, .int .i64 b.hi, .int .i64 b.lost] ∧ Cells wt C [.int .i64 n, .int .i64 m]) (by rw [hXe, hYe]; exact cells_two _ _ _ _ _) (fun w1 hCut => ?_); obtain ⟨hbw1, hCB, hCC⟩ := hCut; clear hXe hYe
 replace hM := hM.below hbw1
 replace hA := hA.below hbw1
 have nB := hCB.1; have cB0 := hCB.2 0 _ rfl; have cB1 := hCB.2 1 _ rfl; have cB2 := hCB.2 2 _ rfl; have cB3 := hCB.2 3 _ rfl; have cB4 := hCB.2 4 _ rfl; have cB5 := hCB.2 5 _ rfl; have cB6 := hCB.2 6 _ rfl
 have nC := hCC.1; have cC0 := hCC.2 0 _ rfl; have cC1 := hCC.2 1 _ rfl
 refine Ks ?_
 refine Rs 11 fun Q' K hK => ?_
 refine M1 hE 3 fun K' J ρ q3 => ?_; go_simp; (try clear q3)
 refine Ln hE J fun _ Eb => ?_; clear J K' hE a
 refine M1 Eb 4 fun K' J ρ q4 => ?_; go_simp; (try go_bits); (try clear q4)
 refine Ln Eb J fun _ Ea => ?_; clear J K' Eb
 refine M1 Ea 15 fun K' J ρ q15 => ?_; go_simp; (try clear q15)
 refine Ln Ea J fun _ Eb => ?_; clear J K' Ea
 refine M1 Eb 4 fun K' J ρ q4 => ?_; go_simp; (try go_bits); (try clear q4)
 refine Ln Eb J fun _ Ea => ?_; clear J K' Eb
 refine M1 Ea 17 fun K' J ρ q17 => ?_; go_simp; (try clear q17)
 refine Ln Ea J fun _ Eb => ?_; clear J K' Ea
 refine M3 Eb 14 16 18 fun K' J ρ q14 q16 q18 => ?_; go_simp; (try go_bits); (try clear q14 q16 q18)
 go_at_call 6; refine (C1.out _ hM).mono ?_; rintro e w2 ⟨rfl, h2⟩; have hbw2 := hbw1.trans (h2.mono hbw1.size); replace hCB := hCB.below h2; clear nB cB0 cB1 cB2 cB3 cB4 cB5 cB6; have nB := hCB.1; have cB0 := hCB.2 0 _ rfl; have cB1 := hCB.2 1 _ rfl; have cB2 := hCB.2 2 _ rfl; have cB3 := hCB.2 3 _ rfl; have cB4 := hCB.2 4 _ rfl; have cB5 := hCB.2 5 _ rfl; have cB6 := hCB.2 6 _ rfl; replace hCC := hCC.below h2; clear nC cC0 cC1; have nC := hCC.1; have cC0 := hCC.2 0 _ rfl; have cC1 := hCC.2 1 _ rfl; replace hM := hM.below h2; replace hA := hA.below h2
 (try clear r14 r16 r18)
 refine Ln Eb J fun _ Ea => ?_; clear J K' Eb
 refine M1 Ea 19 fun K' J ρ q19 => ?_; go_simp; (try clear q19)
 refine Ln Ea J fun _ Eb => ?_; clear J K' Ea
 refine M1 Eb 13 fun K' J ρ q13 => ?_; go_simp; (try clear q13)
 refine Ln Eb J fun _ Ea => ?_; clear J K' Eb
 refine M1 Ea 13 fun K' J ρ q13 => ?_; go_simp; (try clear q13)
 refine Ln Ea J fun _ Eb => ?_; clear J K' Ea
 refine M1 Eb 20 fun K' J ρ q20 => ?_; go_simp; (try clear q20)
 refine Ln Eb J fun _ Ea => ?_; clear J K' Eb
 refine M1 Ea 21 fun K' J ρ q21 => ?_; go_simp; (try clear q21)
 refine Ln Ea J fun _ Eb => ?_; clear J K' Ea
 refine late_done [2, 3, 4, 7, 8] Eb hK (fun a hE => ?_); clear hK K Q' Eb; simp only [lk, pick, Nat.reduceEqDiff, ↓reduceIte] at hE
 refine Ks ?_
 refine Rs 11 fun Q' K hK => ?_
 refine M1 hE 3 fun K' J ρ q3 => ?_; go_simp; (try clear q3)
 refine Ln hE J fun _ Eb => ?_; clear J K' hE a
 refine M1 Eb 4 fun K' J ρ q4 => ?_; go_simp; (try go_bits); (try clear q4)
 refine Ln Eb J fun _ Ea => ?_; clear J K' Eb
 refine M1 Ea 24 fun K' J ρ q24 => ?_; go_simp; (try clear q24)
 refine Ln Ea J fun _ Eb => ?_; clear J K' Ea
 refine M1 Eb 4 fun K' J ρ q4 => ?_; go_simp; (try go_bits); (try clear q4)
 refine Ln Eb J fun _ Ea => ?_; clear J K' Eb
 refine M1 Ea 26 fun K' J ρ q26 => ?_; go_simp; (try clear q26)
 refine Ln Ea J fun _ Eb => ?_; clear J K' Ea
 refine M3 Eb 23 25 27 fun K' J ρ q23 q25 q27 => ?_; go_simp; (try go_bits); (try clear q23 q25 q27)
 go_at_call 7; refine (C2.out _ hM).mono ?_; rintro e w3 ⟨rfl, h3⟩; have hbw3 := hbw2.trans (h3.mono hbw2.size); replace hCB := hCB.below h3; clear nB cB0 cB1 cB2 cB3 cB4 cB5 cB6; have nB := hCB.1; have cB0 := hCB.2 0 _ rfl; have cB1 := hCB.2 1 _ rfl; have cB2 := hCB.2 2 _ rfl; have cB3 := hCB.2 3 _ rfl; have cB4 := hCB.2 4 _ rfl; have cB5 := hCB.2 5 _ rfl; have cB6 := hCB.2 6 _ rfl; replace hCC := hCC.below h3; clear nC cC0 cC1; have nC := hCC.1; have cC0 := hCC.2 0 _ rfl; have cC1 := hCC.2 1 _ rfl; replace hM := hM.below h3; replace hA := hA.below h3
 (try clear r23 r25 r27)
 refine Ln Eb J fun _ Ea => ?_; clear J K' Eb
 refine M1 Ea 28 fun K' J ρ q28 => ?_; go_simp; (try clear q28)
 refine Ln Ea J fun _ Eb => ?_; clear J K' Ea
 refine M1 Eb 22 fun K' J ρ q22 => ?_; go_simp; (try clear q22)
 refine Ln Eb J fun _ Ea => ?_; clear J K' Eb
 refine M1 Ea 22 fun K' J ρ q22 => ?_; go_simp; (try clear q22)
 refine Ln Ea J fun _ Eb => ?_; clear J K' Ea
 refine M1 Eb 29 fun K' J ρ q29 => ?_; go_simp; (try clear q29)
 refine Ln Eb J fun _ Ea => ?_; clear J K' Eb
 refine M1 Ea 30 fun K' J ρ q30 => ?_; go_simp; (try clear q30)
 refine Ln Ea J fun _ Eb => ?_; clear J K' Ea
 refine late_done [2, 3, 7, 8, 9, 10] Eb hK (fun a hE => ?_); clear hK K Q' Eb; simp only [lk, pick, Nat.reduceEqDiff, ↓reduceIte] at hE
 refine Ks ?_
 refine Rd [] (fun wt => Below w3.heap.size w3 wt) (fun w1 w2 => Below w1.heap.size w1 w2) [(0, some 31), (1, some 32), (2, some 33), (3, some 34), (4, some 35), (5, some 36), (6, some 37), (7, some 38), (8, some 39), (9, some 40), (10, some 41), (11, some 42), (12, some 43), (13, some 44), (14, some 45)] [31, 32, 33, 34, 35, 36, 37, 38, 39, 40, 41, 42, 43, 44, 45] #[true, true, true, true, true, true, true, true, true, true, true, true, true, true, true] [2, 3] hE ((Below.refl _ _).drew) fun Q' K hK => ?_
 refine SeqOps.val ?_ (Sp fun ax wx hS hT' hd K' J => ?_) ?_; rotate_left 1
 ·have r7 := hS.at 7 (by decide) (hE.at 7 rfl); obtain ⟨hcT, hfT, hlT, hmT, hwT, hzT⟩ := bT hT'
  refine o1 r7 fun ρ q7 => ?_; go_simp;
  exact Jo J hT'
 refine SeqOps.val ?_ (Sp fun ax wx hS hT' hd K' J => ?_) ?_; rotate_left 1
 ·have r9 := hS.at 9 (by decide) (hE.at 9 rfl); obtain ⟨hcT, hfT, hlT, hmT, hwT, hzT⟩ := bT hT'
  refine o1 r9 fun ρ q9 => ?_; go_simp;
  exact Jo J hT'
 refine SeqOps.val ?_ (Sp fun ax wx hS hT' hd K' J => ?_) ?_; rotate_left 1
 ·have r31 := Tv hd 1 0 31; have r32 := Tv hd 0 1 32; obtain ⟨hcT, hfT, hlT, hmT, hwT, hzT⟩ := bT hT'
  refine o2 r31 r32 fun ρ q31 q32 => ?_; go_simp; (try go_bits);
  exact Jo J hT'
 refine SeqOps.val ?_ (Sp fun ax wx hS hT' hd K' J => ?_) ?_; rotate_left 1
 ·have r33 := Tv hd 0 2 33; obtain ⟨hcT, hfT, hlT, hmT, hwT, hzT⟩ := bT hT'
  refine o1 r33 fun ρ q33 => ?_; go_simp;
  exact Jo J hT'
 refine SeqOps.val ?_ (Sy 0 34 fun ax wx hS hT' hd K' J => ?_) ?_; rotate_left 1
 ·have r8 := hS.at 8 (by decide) (hE.at 8 rfl); obtain ⟨hcT, hfT, hlT, hmT, hwT, hzT⟩ := bT hT'
  refine o1 r8 fun ρ q8 => ?_; go_simp;
  exact Jo J hT'
 refine SeqOps.val ?_ (Sy 1 34 fun ax wx hS hT' hd K' J => ?_) ?_; rotate_left 1
 ·have r10 := hS.at 10 (by decide) (hE.at 10 rfl); obtain ⟨hcT, hfT, hlT, hmT, hwT, hzT⟩ := bT hT'
  refine o1 r10 fun ρ q10 => ?_; go_simp;
  exact Jo J hT'
 refine SeqOps.val ?_ (Sy 2 34 fun ax wx hS hT' hd K' J => ?_) ?_; rotate_left 1
 ·have r35 := Tv hd 1 4 35; have r36 := Tv hd 0 5 36; obtain ⟨hcT, hfT, hlT, hmT, hwT, hzT⟩ := bT hT'
  refine o2 r35 r36 fun ρ q35 q36 => ?_; go_simp; (try go_bits);
  exact Jo J hT'
 refine SeqOps.val ?_ (Sp fun ax wx hS hT' hd K' J => ?_) ?_; rotate_left 1
 ·have r34 := Tv hd 3 3 34; have r37 := Tv hd 0 6 37; obtain ⟨hcT, hfT, hlT, hmT, hwT, hzT⟩ := bT hT'
  refine o2 r34 r37 fun ρ q34 q37 => ?_; go_simp; (try go_bits);
  exact Jo J hT'
 refine SeqOps.val ?_ (Sp fun ax wx hS hT' hd K' J => ?_) ?_; rotate_left 1
 ·have r38 := Tv hd 0 7 38; obtain ⟨hcT, hfT, hlT, hmT, hwT, hzT⟩ := bT hT'
  refine o1 r38 fun ρ q38 => ?_; go_simp;
  exact Jo J hT'
 refine SeqOps.val ?_ (Sy 0 39 fun ax wx hS hT' hd K' J => ?_) ?_; rotate_left 1
 ·have r3 := hS.at 3 (by decide) (hE.at 3 rfl); obtain ⟨hcT, hfT, hlT, hmT, hwT, hzT⟩ := bT hT'
  refine o1 r3 fun ρ q3 => ?_; go_simp;
  exact Jo J hT'
 refine SeqOps.val ?_ (Sy 1 39 fun ax wx hS hT' hd K' J => ?_) ?_; rotate_left 1
 ·have r40 := Tv hd 0 9 40; obtain ⟨hcT, hfT, hlT, hmT, hwT, hzT⟩ := bT hT'
  refine o1 r40 fun ρ q40 => ?_; go_simp; (try go_bits);
  go_at_call 8; refine (C3.out _ (hM.below hT')).mono ?_; rintro e g1 ⟨rfl, k1⟩
  refine J.out _ _ _ rfl ?_ (hT'.trans (k1.mono hT'.size)) k1; rfl
 refine SeqOps.val ?_ (Sy 2 39 fun ax wx hS hT' hd K' J => ?_) ?_; rotate_left 1
 ·have r3 := hS.at 3 (by decide) (hE.at 3 rfl); obtain ⟨hcT, hfT, hlT, hmT, hwT, hzT⟩ := bT hT'
  refine o1 r3 fun ρ q3 => ?_; go_simp;
  exact Jo J hT'
 refine SeqOps.val ?_ (Sy 3 39 fun ax wx hS hT' hd K' J => ?_) ?_; rotate_left 1
 ·have r42 := Tv hd 0 11 42; obtain ⟨hcT, hfT, hlT, hmT, hwT, hzT⟩ := bT hT'
  refine o1 r42 fun ρ q42 => ?_; go_simp; (try go_bits);
  go_at_call 9; refine (C4.out _ (hM.below hT')).mono ?_; rintro e g1 ⟨rfl, k1⟩
  refine J.out _ _ _ rfl ?_ (hT'.trans (k1.mono hT'.size)) k1; rfl
 refine SeqOps.val ?_ (Sy 4 39 fun ax wx hS hT' hd K' J => ?_) ?_; rotate_left 1
 ·have r41 := Tv hd 2 10 41; have r43 := Tv hd 0 12 43; obtain ⟨hcT, hfT, hlT, hmT, hwT, hzT⟩ := bT hT'
  refine o2 r41 r43 fun ρ q41 q43 => ?_; go_simp; (try go_bits);
  exact Jo J hT'
 refine SeqOps.val ?_ (Sp fun ax wx hS hT' hd K' J => ?_) ?_; rotate_left 1
 ·have r39 := Tv hd 5 8 39; have r44 := Tv hd 0 13 44; obtain ⟨hcT, hfT, hlT, hmT, hwT, hzT⟩ := bT hT'
  refine o2 r39 r44 fun ρ q39 q44 => ?_; go_simp; (try go_bits);
  exact Jo J hT'
 refine SeqOps.nil ?_
 intro v5 hBq5; (repeat refine Ek ?_)
 refine fun aq5x hEq5x => ?_
 simp only [lk, pick, Nat.reduceEqDiff, ↓reduceIte] at hEq5x
 refine late_done [2, 3, 45] hEq5x hK (fun a hE => ?_); clear hK K Q' hEq5x; simp only [lk, pick, Nat.reduceEqDiff, ↓reduceIte] at hE
 have hbv5 := hbw3.trans (hBq5.mono hbw3.size)
 replace hCB := hCB.below hBq5
 clear nB cB0 cB1 cB2 cB3 cB4 cB5 cB6
 have nB := hCB.1; have cB0 := hCB.2 0 _ rfl; have cB1 := hCB.2 1 _ rfl; have cB2 := hCB.2 2 _ rfl; have cB3 := hCB.2 3 _ rfl; have cB4 := hCB.2 4 _ rfl; have cB5 := hCB.2 5 _ rfl; have cB6 := hCB.2 6 _ rfl
 replace hCC := hCC.below hBq5
 clear nC cC0 cC1
 have nC := hCC.1; have cC0 := hCC.2 0 _ rfl; have cC1 := hCC.2 1 _ rfl
 replace hM := hM.below hBq5
 replace hA := hA.below hBq5
 replace hE := hE.turn 45 (v' := .bool false) rfl (by first | rfl | simp)
 refine Ks ?_
 refine cond_no hE (t := 45) rfl ?_
 refine Ks ?_
 refine Rs 8 fun Q' K hK => ?_
 refine M1 hE 3 fun K' J ρ q3 => ?_; go_simp; (try clear q3)
 refine Ln hE J fun _ Eb => ?_; clear J K' hE a
 refine M1 Eb 2 fun K' J ρ q2 => ?_; go_simp; (try clear q2)
 refine Ln Eb J fun _ Ea => ?_; clear J K' Eb
 refine M2 Ea 47 48 fun K' J ρ q47 q48 => ?_; go_simp; (try go_bits); (try clear q47 q48)
 go_at_call 10; refine (C5.out _ hM hA).mono ?_; rintro e w6 ⟨rfl, h6⟩; have hbw6 := hbv5.trans (h6.mono hbv5.size); replace hCB := hCB.below h6; clear nB cB0 cB1 cB2 cB3 cB4 cB5 cB6; have nB := hCB.1; have cB0 := hCB.2 0 _ rfl; have cB1 := hCB.2 1 _ rfl; have cB2 := hCB.2 2 _ rfl; have cB3 := hCB.2 3 _ rfl; have cB4 := hCB.2 4 _ rfl; have cB5 := hCB.2 5 _ rfl; have cB6 := hCB.2 6 _ rfl; replace hCC := hCC.below h6; clear nC cC0 cC1; have nC := hCC.1; have cC0 := hCC.2 0 _ rfl; have cC1 := hCC.2 1 _ rfl; replace hM := hM.below h6; replace hA := hA.below h6
 (try clear r47 r48)
 refine Ln Ea J fun _ Eb => ?_; clear J K' Ea
 refine M1 Eb 49 fun K' J ρ q49 => ?_; go_simp; (try clear q49)
 refine Ln Eb J fun _ Ea => ?_; clear J K' Eb
 refine M1 Ea 46 fun K' J ρ q46 => ?_; go_simp; (try clear q46)
 refine Ln Ea J fun _ Eb => ?_; clear J K' Ea
 refine M1 Eb 46 fun K' J ρ q46 => ?_; go_simp; (try clear q46)
 refine Ln Eb J fun _ Ea => ?_; clear J K' Eb
 refine M1 Ea 50 fun K' J ρ q50 => ?_; go_simp; (try clear q50)
 refine Ln Ea J fun _ Eb => ?_; clear J K' Ea
 refine M1 Eb 51 fun K' J ρ q51 => ?_; go_simp; (try clear q51)
 refine Ln Eb J fun _ Ea => ?_; clear J K' Eb
 refine late_done [2, 3, 7, 8] Ea hK (fun a hE => ?_); clear hK K Q' Ea; simp only [lk, pick, Nat.reduceEqDiff, ↓reduceIte] at hE
 refine Ks ?_
 refine Rs 8 fun Q' K hK => ?_
 refine M1 hE 3 fun K' J ρ q3 => ?_; go_simp; (try clear q3)
 refine Ln hE J fun _ Eb => ?_; clear J K' hE a
 refine M1 Eb 2 fun K' J ρ q2 => ?_; go_simp; (try clear q2)
 refine Ln Eb J fun _ Ea => ?_; clear J K' Eb
 refine M2 Ea 53 54 fun K' J ρ q53 q54 => ?_; go_simp; (try go_bits); (try clear q53 q54)
 go_at_call 11; refine (C6.out _ hM hA).mono ?_; rintro e w7 ⟨rfl, h7⟩; have hbw7 := hbw6.trans (h7.mono hbw6.size); replace hCB := hCB.below h7; clear nB cB0 cB1 cB2 cB3 cB4 cB5 cB6; have nB := hCB.1; have cB0 := hCB.2 0 _ rfl; have cB1 := hCB.2 1 _ rfl; have cB2 := hCB.2 2 _ rfl; have cB3 := hCB.2 3 _ rfl; have cB4 := hCB.2 4 _ rfl; have cB5 := hCB.2 5 _ rfl; have cB6 := hCB.2 6 _ rfl; replace hCC := hCC.below h7; clear nC cC0 cC1; have nC := hCC.1; have cC0 := hCC.2 0 _ rfl; have cC1 := hCC.2 1 _ rfl; replace hM := hM.below h7; replace hA := hA.below h7
 (try clear r53 r54)
 refine Ln Ea J fun _ Eb => ?_; clear J K' Ea
 refine M1 Eb 55 fun K' J ρ q55 => ?_; go_simp; (try clear q55)
 refine Ln Eb J fun _ Ea => ?_; clear J K' Eb
 refine M1 Ea 52 fun K' J ρ q52 => ?_; go_simp; (try clear q52)
 refine Ln Ea J fun _ Eb => ?_; clear J K' Ea
 refine M1 Eb 52 fun K' J ρ q52 => ?_; go_simp; (try clear q52)
 refine Ln Eb J fun _ Ea => ?_; clear J K' Eb
 refine M1 Ea 56 fun K' J ρ q56 => ?_; go_simp; (try clear q56)
 refine Ln Ea J fun _ Eb => ?_; clear J K' Ea
 refine M1 Eb 57 fun K' J ρ q57 => ?_; go_simp; (try clear q57)
 refine Ln Eb J fun _ Ea => ?_; clear J K' Eb
 refine late_done [3, 7, 8, 9, 10] Ea hK (fun a hE => ?_); clear hK K Q' Ea; simp only [lk, pick, Nat.reduceEqDiff, ↓reduceIte] at hE
 refine Ks ?_
 refine Rs 8 fun Q' K hK => ?_
 refine M1 hE 7 fun K' J ρ q7 => ?_; go_simp; (try clear q7)
 refine Ln hE J fun _ Eb => ?_; clear J K' hE a
 refine M1 Eb 9 fun K' J ρ q9 => ?_; go_simp; (try clear q9)
 refine Ln Eb J fun _ Ea => ?_; clear J K' Eb
 refine M2 Ea 58 59 fun K' J ρ q58 q59 => ?_; go_simp; (try go_bits); (try clear q58 q59)
 refine Ln Ea J fun _ Eb => ?_; clear J K' Ea
 refine M1 Eb 60 fun K' J ρ q60 => ?_; go_simp; (try clear q60)
 refine Ln Eb J fun _ Ea => ?_; clear J K' Eb
 refine N1 Ea 61 8 fun K' J ρ q8 => ?_; go_simp; (try clear q8)
 refine Ln Ea J fun _ Eb => ?_; clear J K' Ea
 refine N1 Eb 61 10 fun K' J ρ q10 => ?_; go_simp; (try clear q10)
 refine Ln Eb J fun _ Ea => ?_; clear J K' Eb
 refine N2 Ea 61 62 63 fun K' J ρ q62 q63 => ?_; go_simp; (try go_bits); (try clear q62 q63)
 refine Ln Ea J fun _ Eb => ?_; clear J K' Ea
 refine M2 Eb 61 64 fun K' J ρ q61 q64 => ?_; go_simp; (try go_bits); (try clear q61 q64)
 refine Ln Eb J fun _ Ea => ?_; clear J K' Eb
 replace Ea := Ea.turn 65 (v' := .bool false) rfl (by (first | rfl | simp))
 refine late_done [3, 65] Ea hK (fun a hE => ?_); clear hK K Q' Ea; simp only [lk, pick, Nat.reduceEqDiff, ↓reduceIte] at hE
 refine Ks ?_
 refine cond_no hE (t := 65) rfl ?_
 refine Ks ?_
 refine Rs 7 fun Q' K hK => ?_
 refine M1 hE 3 fun K' J ρ q3 => ?_; go_simp; (try clear q3)
 refine Ln hE J fun _ Eb => ?_; clear J K' hE a
 refine M1 Eb 67 fun K' J ρ q67 => ?_; go_simp; (try go_bits); (try clear q67)
 go_at_call 12; refine (C7.out _ hM).mono ?_; rintro e w8 ⟨rfl, h8⟩; have hbw8 := hbw7.trans (h8.mono hbw7.size); replace hCB := hCB.below h8; clear nB cB0 cB1 cB2 cB3 cB4 cB5 cB6; have nB := hCB.1; have cB0 := hCB.2 0 _ rfl; have cB1 := hCB.2 1 _ rfl; have cB2 := hCB.2 2 _ rfl; have cB3 := hCB.2 3 _ rfl; have cB4 := hCB.2 4 _ rfl; have cB5 := hCB.2 5 _ rfl; have cB6 := hCB.2 6 _ rfl; replace hCC := hCC.below h8; clear nC cC0 cC1; have nC := hCC.1; have cC0 := hCC.2 0 _ rfl; have cC1 := hCC.2 1 _ rfl; replace hM := hM.below h8; replace hA := hA.below h8
 (try clear r67)
 refine Ln Eb J fun _ Ea => ?_; clear J K' Eb
 refine M1 Ea 68 fun K' J ρ q68 => ?_; go_simp; (try clear q68)
 refine Ln Ea J fun _ Eb => ?_; clear J K' Ea
 refine M1 Eb 66 fun K' J ρ q66 => ?_; go_simp; (try clear q66)
 refine Ln Eb J fun _ Ea => ?_; clear J K' Eb
 refine M1 Ea 66 fun K' J ρ q66 => ?_; go_simp; (try clear q66)
 refine Ln Ea J fun _ Eb => ?_; clear J K' Ea
 refine M1 Eb 69 fun K' J ρ q69 => ?_; go_simp; (try clear q69)
 refine Ln Eb J fun _ Ea => ?_; clear J K' Eb
 refine M1 Ea 70 fun K' J ρ q70 => ?_; go_simp; (try clear q70)
 refine Ln Ea J fun _ Eb => ?_; clear J K' Ea
 refine late_done [3, 8, 11] Eb hK (fun a hE => ?_); clear hK K Q' Eb; simp only [lk, pick, Nat.reduceEqDiff, ↓reduceIte] at hE
 refine Ks ?_
 refine Rs 7 fun Q' K hK => ?_
 refine M1 hE 3 fun K' J ρ q3 => ?_; go_simp; (try clear q3)
 refine Ln hE J fun _ Eb => ?_; clear J K' hE a
 refine M1 Eb 72 fun K' J ρ q72 => ?_; go_simp; (try go_bits); (try clear q72)
 go_at_call 13; refine (C8.out _ hM).mono ?_; rintro e w9 ⟨rfl, h9⟩; have hbw9 := hbw8.trans (h9.mono hbw8.size); replace hCB := hCB.below h9; clear nB cB0 cB1 cB2 cB3 cB4 cB5 cB6; have nB := hCB.1; have cB0 := hCB.2 0 _ rfl; have cB1 := hCB.2 1 _ rfl; have cB2 := hCB.2 2 _ rfl; have cB3 := hCB.2 3 _ rfl; have cB4 := hCB.2 4 _ rfl; have cB5 := hCB.2 5 _ rfl; have cB6 := hCB.2 6 _ rfl; replace hCC := hCC.below h9; clear nC cC0 cC1; have nC := hCC.1; have cC0 := hCC.2 0 _ rfl; have cC1 := hCC.2 1 _ rfl; replace hM := hM.below h9; replace hA := hA.below h9
 (try clear r72)
 refine Ln Eb J fun _ Ea => ?_; clear J K' Eb
 refine M1 Ea 73 fun K' J ρ q73 => ?_; go_simp; (try clear q73)
 refine Ln Ea J fun _ Eb => ?_; clear J K' Ea
 refine M1 Eb 71 fun K' J ρ q71 => ?_; go_simp; (try clear q71)
 refine Ln Eb J fun _ Ea => ?_; clear J K' Eb
 refine M1 Ea 71 fun K' J ρ q71 => ?_; go_simp; (try clear q71)
 refine Ln Ea J fun _ Eb => ?_; clear J K' Ea
 refine M1 Eb 74 fun K' J ρ q74 => ?_; go_simp; (try clear q74)
 refine Ln Eb J fun _ Ea => ?_; clear J K' Eb
 refine M1 Ea 75 fun K' J ρ q75 => ?_; go_simp; (try clear q75)
 refine Ln Ea J fun _ Eb => ?_; clear J K' Ea
 refine late_done [8, 10, 11, 12] Eb hK (fun a hE => ?_); clear hK K Q' Eb; simp only [lk, pick, Nat.reduceEqDiff, ↓reduceIte] at hE
 refine Ks ?_
 refine Rs 12 fun Q' K hK => ?_
 refine M1 hE 11 fun K' J ρ q11 => ?_; go_simp; (try clear q11)
 refine Ln hE J fun _ Eb => ?_; clear J K' hE a
 refine M1 Eb 12 fun K' J ρ q12 => ?_; go_simp; (try clear q12)
 refine Ln Eb J fun _ Ea => ?_; clear J K' Eb
 refine M2 Ea 76 77 fun K' J ρ q76 q77 => ?_; go_simp; (try go_bits); (try clear q76 q77)
 refine Ln Ea J fun _ Eb => ?_; clear J K' Ea
 refine M1 Eb 78 fun K' J ρ q78 => ?_; go_simp; (try clear q78)
 refine Ln Eb J fun _ Ea => ?_; clear J K' Eb
 refine N1 Ea 79 8 fun K' J ρ q8 => ?_; go_simp; (try clear q8)
 refine Ln Ea J fun _ Eb => ?_; clear J K' Ea
 refine N1 Eb 79 10 fun K' J ρ q10 => ?_; go_simp; (try clear q10)
 refine Ln Eb J fun _ Ea => ?_; clear J K' Eb
 refine N2 Ea 79 80 81 fun K' J ρ q80 q81 => ?_; go_simp; (try go_bits); (try clear q80 q81)
 refine Ln Ea J fun _ Eb => ?_; clear J K' Ea
 refine M2 Eb 79 82 fun K' J ρ q79 q82 => ?_; go_simp; (try go_bits); (try clear q79 q82)
 refine Ln Eb J fun _ Ea => ?_; clear J K' Eb
 refine M1 Ea 83 fun K' J ρ q83 => ?_; go_simp; (try clear q83)
 refine Ln Ea J fun _ Eb => ?_; clear J K' Ea
 refine Ly Eb 84 fun K' J => ?_
 refine o0 fun ρ => ?_; go_simp; (try go_bits);
 go_at_call 14; refine (written_any _).mono ?_; rintro e w10 ⟨rfl, h10⟩; have hbw10 := hbw9.trans (h10.mono hbw9.size); replace hCB := hCB.below h10; clear nB cB0 cB1 cB2 cB3 cB4 cB5 cB6; have nB := hCB.1; have cB0 := hCB.2 0 _ rfl; have cB1 := hCB.2 1 _ rfl; have cB2 := hCB.2 2 _ rfl; have cB3 := hCB.2 3 _ rfl; have cB4 := hCB.2 4 _ rfl; have cB5 := hCB.2 5 _ rfl; have cB6 := hCB.2 6 _ rfl; replace hCC := hCC.below h10; clear nC cC0 cC1; have nC := hCC.1; have cC0 := hCC.2 0 _ rfl; have cC1 := hCC.2 1 _ rfl; replace hM := hM.below h10; replace hA := hA.below h10
 refine Ln Eb J fun _ Ea => ?_; clear J K' Eb
 refine M2 Ea 84 85 fun K' J ρ q84 q85 => ?_; go_simp; (try go_bits); (try clear q84 q85)
 refine Ln Ea J fun _ Eb => ?_; clear J K' Ea
 refine M1 Eb 86 fun K' J ρ q86 => ?_; go_simp; (try clear q86)
 refine Ln Eb J fun _ Ea => ?_; clear J K' Eb
 refine late_done [6] Ea hK (fun a hE => ?_); clear hK K Q' Ea; simp only [lk, pick, Nat.reduceEqDiff, ↓reduceIte] at hE
 refine Ks ?_
 exact ret_one hE rfl rfl ⟨rfl, hbw10⟩
end
end Go.Proofs.YtbimkcjdodgojaaGreat
