/- Slope: the law's examples. -/
import Derived.Test.YtkhmcofmjjmjhaaDoorKLScb

namespace Go.Proofs.YtkhmcofmjjmjhaaDoor
set_option linter.unusedSimpArgs false
set_option linter.unusedVariables false
open Go Go.RowKit
attribute [local go_sem high] cell_set_wr
attribute [local go_sem low] cell_wr frozen_wr
attribute [local go_sem] wr_set wr_drew wr_drewN wr_alloc wr_new Rho.c Rho.n Rho.g
section
variable {w : World} {H S : Option Addr}
theorem poleC (w : World) : Calls Tryd.prog 46 #[.int .i64 1, .int .i64 39, .int .i64 60] w fun e w' => e = .returned (.agg #[.int .i64 1, .bool false, .int .i64 39, .int .i64 60]) ∧ Below w.heap.size w w' := pole_any 1 39 60 w
theorem fellC (h : Int) (w : World) : Calls Tryd.prog 47 #[.int .i64 h] w fun e w' => e = .returned (.agg #[.int .i64 h, .bool true, .int .i64 0, .int .i64 2000]) ∧ Below w.heap.size w w' := fell_any h w
theorem book0 (w : World) : Calls Tryd.prog 53 #[.slice none 0 0] w fun e w' => (∃ H, e = .returned (.agg (sbV H 4 none 0 (chB [])).toArray) ∧ SbAt w' H none (chB [])) ∧ Below w.heap.size w w' := book_any none 0 [] w (fun h => absurd rfl h)
theorem book1 {x : Si} (hS : ArrD w S (sis [x])) : Calls Tryd.prog 53 #[.slice S 1 1] w fun e w' => (∃ H, e = .returned (.agg (sbV H 4 S 1 (chB [x])).toArray) ∧ SbAt w' H S (chB [x])) ∧ Below w.heap.size w w' := book_any S 1 [x] w hS
theorem book2 {x y : Si} (hS : ArrD w S (sis [x, y])) : Calls Tryd.prog 53 #[.slice S 2 2] w fun e w' => (∃ H, e = .returned (.agg (sbV H 4 S 2 (chB [x, y])).toArray) ∧ SbAt w' H S (chB [x, y])) ∧ Below w.heap.size w w' := book_any S 2 [x, y] w hS
theorem wLoad (hM : SbAt w H none (chB [])) : Calls Tryd.prog 18 #[.agg (sbV H 4 none 0 (chB [])).toArray, .int .i64 2] w fun e w' => e = .returned (.tuple #[.agg #[.int .i64 6, .int .i64 71], .int .i64 0]) ∧ Below w.heap.size w w' := by
 have h := pLoad_any H 4 none 0 (chB []) 2 w hM (by rw [ch_len]; decide) (Nat.zero_le _); rw [ch_load, ch_loadE] at h; exact h
theorem wFree (hM : SbAt w H S (chB [poS 1 39 60])) : Calls Tryd.prog 23 #[.agg (sbV H 4 S 1 (chB [poS 1 39 60])).toArray] w fun e w' => (∃ T c, e = .returned (.tuple #[.slice T 2 c, .int .i64 0]) ∧ ArrD w' T (ints [0, 1])) ∧ Below w.heap.size w w' := by
 have h := pFree_any H 4 S 1 (chB [poS 1 39 60]) w hM (by rw [ch_len]; decide) (by show 1 ≤ _; decide); rw [ch_free, ch_freeE] at h; exact h
theorem wCross (hM : SbAt w H S (chB [poS 1 39 60])) : Calls Tryd.prog 28 #[.agg (sbV H 4 S 1 (chB [poS 1 39 60])).toArray, .int .i64 0, .int .i64 2] w fun e w' => e = .returned (.tuple #[.int .i64 0, .int .i64 0]) ∧ Below w.heap.size w w' := by
 have h := pCross_any H 4 S 1 (chB [poS 1 39 60]) 0 2 w hM (by rw [ch_len]; decide) (by show 1 ≤ _; decide); rw [ch_cross] at h; exact h
theorem wUntil (hM : SbAt w H S (chB [feS 1])) : Calls Tryd.prog 26 #[.agg (sbV H 4 S 1 (chB [feS 1])).toArray, .int .i64 2] w fun e w' => e = .returned (.tuple #[.int .i64 3, .int .i64 0]) ∧ Below w.heap.size w w' := by
 have h := pUntil_any H 4 S 1 (chB [feS 1]) 2 w hM (by rw [ch_len]; decide) (by show 1 ≤ _; decide); rw [ch_until] at h; exact h
theorem wSafe (hM : SbAt w H none (chB [])) : Calls Tryd.prog 20 #[.agg (sbV H 4 none 0 (chB [])).toArray, .int .i64 0] w fun e w' => e = .returned (.tuple #[.bool true, .int .i64 0]) ∧ Below w.heap.size w w' := by
 have h := pSafe_any H 4 none 0 (chB []) 0 w hM (by rw [ch_len]; decide) (Nat.zero_le _); rw [ch_safe, ch_safeE] at h; exact h
theorem wRight (hM : SbAt w H S (chB [feS 0, poS 1 39 60])) : Calls Tryd.prog 14 #[.agg (sbV H 4 S 2 (chB [feS 0, poS 1 39 60])).toArray] w fun e w' => e = .returned (.tuple #[.bool false, .int .i64 0]) ∧ Below w.heap.size w w' := by
 have h := pRight_any H 4 S 2 (chB [feS 0, poS 1 39 60]) w hM (by rw [ch_len]; decide) (by show 2 ≤ _; decide); rw [ch_right, ch_rightE] at h; exact h
theorem wWrong (hM : SbAt w H S (chB [feS 0, poS 1 39 60])) : Calls Tryd.prog 32 #[.agg (sbV H 4 S 2 (chB [feS 0, poS 1 39 60])).toArray] w fun e w' => (∃ T c, e = .returned (.tuple #[.slice T 1 c, .int .i64 0]) ∧ ArrD w' T (ints [0])) ∧ Below w.heap.size w w' := by
 have h := pWrong_any H 4 S 2 (chB [feS 0, poS 1 39 60]) w hM (by rw [ch_len]; decide) (by show 2 ≤ _; decide); rw [ch_wrong, ch_rightE] at h; exact h
theorem wFalls (hM : SbAt w H none (chB [])) (hT : TabW w) : Calls Tryd.prog 30 #[.agg (sbV H 4 none 0 (chB [])).toArray] w fun e w' => e = .returned (.tuple #[.agg #[.int .i64 0, .int .i64 1], .int .i64 0]) ∧ Below w.heap.size w w' := by
 have h := pFalls_any H 4 none 0 (chB []) w hM hT (by rw [ch_len]; decide) (Nat.zero_le _); rw [ch_falls, ch_fallsE] at h; exact h
theorem wEq2 {A B : Option Addr} {n m : Nat} (hA : ArrD w A (ints [0, 1])) (hB : ArrD w B (ints [0, 1])) : Calls Tryd.prog 25 #[.slice A 2 n, .slice B 2 m] w fun e w' => e = .returned (.bool true) ∧ Below w.heap.size w w' := bequal_any A B n m [0, 1] [0, 1] w hA hB (by decide)
theorem wEq1 {A B : Option Addr} {n m : Nat} (hA : ArrD w A (ints [0])) (hB : ArrD w B (ints [0])) : Calls Tryd.prog 25 #[.slice A 1 n, .slice B 1 m] w fun e w' => e = .returned (.bool true) ∧ Below w.heap.size w w' := bequal_any A B n m [0] [0] w hA hB (by decide)
set_option maxRecDepth 100000 in
set_option maxHeartbeats 4000000 in
theorem snowed_any (w : World) (hTw : TabW w) : Calls Tryd.prog 22 #[] w fun e w' => e = .returned (.bool true) ∧ Below w.heap.size w w' := by
 refine En Tryd.func22 Tryd.ntmps22 fun a hE => ?_; refine Ks ?_; refine Rs 1 fun Q' K hK => ?_; refine M0 fun K' J ρ => ?_; go_simp; refine Ln hE J fun _ Eb => ?_; clear J K' hE a; refine Ld [0] Eb hK fun a hE => ?_; clear hK K Q' Eb; refine Ks ?_; refine Rs 8 fun Q' K hK => ?_; refine M0 fun K' J ρ => ?_; go_simp; (try go_bits); go_at_call 53; refine (book0 _).mono ?_; rintro e v1 ⟨⟨H, rfl, hM⟩, h12⟩; refine Ln hE J fun _ Eb => ?_; clear J K' hE a; refine M1 Eb 15 fun K' J ρ q15 => ?_; go_simp; (try go_bits); (try clear q15); go_at_call 18; refine (wLoad hM).mono ?_; rintro e v2 ⟨rfl, h2⟩; replace h12 := h12.trans (h2.mono h12.size); (try clear r15); refine Ln Eb J fun _ Ea => ?_; clear J K' Eb; refine M1 Ea 16 fun K' J ρ q16 => ?_; go_simp; refine Ln Ea J fun _ Eb => ?_; clear J K' Ea q16; refine M1 Eb 14 fun K' J ρ q14 => ?_; go_simp; refine Ln Eb J fun _ Ea => ?_; clear J K' Eb q14; refine M1 Ea 14 fun K' J ρ q14 => ?_; go_simp; refine Ln Ea J fun _ Eb => ?_; clear J K' Ea q14; refine M0 fun K' J ρ => ?_; go_simp; refine Ln Eb J fun _ Ea => ?_; clear J K' Eb; refine M2 Ea 1 17 fun K' J ρ q1 q17 => ?_; go_simp; (try clear q1 q17); refine late_skip Ea J (fun _ Eb => ?_); clear J K'; clear Ea; refine M1 Eb 18 fun K' J ρ q18 => ?_; go_simp; refine Ln Eb J fun _ Ea => ?_; clear J K' Eb q18; refine Ld [1, 2] Ea hK fun a hE => ?_; clear hK K Q' Ea; obtain ⟨S, hSe⟩ : ∃ B, B = v2.heap.size := ⟨_, rfl⟩; rw [← hSe] at hE; refine world_cut (fun wt => Below v2.heap.size v2 wt ∧ Cells wt S [.int .i64 6, .int .i64 71]) ⟨(Below.refl _ _).alloc (Nat.le_refl _) _, by rw [hSe]; exact cells_new _ _ _⟩ (fun u1 hCut => ?_); obtain ⟨hbu1, hCS⟩ := hCut; clear hSe
 have hb := h12.trans (hbu1.mono h12.size); clear hM h2 h12 hbu1; refine Ks ?_; refine Rs 9 fun Q' K hK => ?_; refine M0 fun K' J ρ => ?_; go_simp; (try go_bits); go_at_call 46; refine (poleC _).mono ?_; rintro e v3 ⟨rfl, k1⟩; refine Ln hE J fun _ Eb => ?_; clear J K' hE a; refine Lp fun K' J => ?_; have r20 := Eb.at 20 rfl; refine wp_buildN 27 68 1 _ rfl [.agg #[.int .i64 1, .bool false, .int .i64 39, .int .i64 60]] (sis [poS 1 39 60]) 4 (by simp [eval_of r20]) Tryd.underlying27 (by kernel_rfl) (by kernel_rfl) rfl (by simp [Value.cells]) (by simp [Value.cells, sis, poS, feS, Si.cells]) (by decide) (by decide) (by decide) ?_; (try clear r20); refine Ln Eb J fun _ Ea => ?_; clear J K' Eb; refine M1 Ea 21 fun K' J ρ q21 => ?_; go_simp; (try go_bits); (try clear q21); have k8 : Below v3.heap.size v3 (v3.alloc (.cells (sis [poS 1 39 60]).toArray 68)) := (Below.refl _ _).alloc (Nat.le_refl _) _; go_at_call 53; refine (book1 ((arr_new v3 _ _).more (by simp))).mono ?_; rintro e v4 ⟨⟨H, rfl, hM⟩, h1⟩; have h12 := k1.trans ((k8.trans (h1.mono k8.size)).mono k1.size); (try clear r21); refine Ln Ea J fun _ Eb => ?_; clear J K' Ea; refine M1 Eb 22 fun K' J ρ q22 => ?_; go_simp; (try go_bits); (try clear q22); go_at_call 23; refine (wFree hM).mono ?_; rintro e v5 ⟨⟨T, c, rfl, hT⟩, h2⟩; replace h12 := h12.trans (h2.mono h12.size); (try clear r22); refine Ln Eb J fun _ Ea => ?_; clear J K' Eb; refine M1 Ea 23 fun K' J ρ q23 => ?_; go_simp; refine Ln Ea J fun _ Eb => ?_; clear J K' Ea q23; refine M1 Eb 19 fun K' J ρ q19 => ?_; go_simp
 refine Ln Eb J fun _ Ea => ?_; clear J K' Eb q19; refine M1 Ea 19 fun K' J ρ q19 => ?_; go_simp; refine Ln Ea J fun _ Eb => ?_; clear J K' Ea q19; refine M1 Eb 24 fun K' J ρ q24 => ?_; go_simp; refine Ln Eb J fun _ Ea => ?_; clear J K' Eb q24; refine M1 Ea 25 fun K' J ρ q25 => ?_; go_simp; refine Ln Ea J fun _ Eb => ?_; clear J K' Ea q25; refine Ld [1, 2, 3, 4] Eb hK fun a hE => ?_; clear hK K Q' Eb; replace hb := hb.trans (h12.mono hb.size); replace hCS := hCS.below h12; clear hM h1 h2 k1 k8 h12; refine Ks ?_; refine Rs 9 fun Q' K hK => ?_; refine M0 fun K' J ρ => ?_; go_simp; (try go_bits); go_at_call 46; refine (poleC _).mono ?_; rintro e v6 ⟨rfl, k1⟩; refine Ln hE J fun _ Eb => ?_; clear J K' hE a; refine Lp fun K' J => ?_; have r27 := Eb.at 27 rfl; refine wp_buildN 27 68 1 _ rfl [.agg #[.int .i64 1, .bool false, .int .i64 39, .int .i64 60]] (sis [poS 1 39 60]) 4 (by simp [eval_of r27]) Tryd.underlying27 (by kernel_rfl) (by kernel_rfl) rfl (by simp [Value.cells]) (by simp [Value.cells, sis, poS, feS, Si.cells]) (by decide) (by decide) (by decide) ?_; (try clear r27); refine Ln Eb J fun _ Ea => ?_; clear J K' Eb; refine M1 Ea 28 fun K' J ρ q28 => ?_; go_simp; (try go_bits); (try clear q28); have k8 : Below v6.heap.size v6 (v6.alloc (.cells (sis [poS 1 39 60]).toArray 68)) := (Below.refl _ _).alloc (Nat.le_refl _) _; go_at_call 53; refine (book1 ((arr_new v6 _ _).more (by simp))).mono ?_; rintro e v7 ⟨⟨H, rfl, hM⟩, h1⟩; have h12 := k1.trans ((k8.trans (h1.mono k8.size)).mono k1.size)
 (try clear r28); refine Ln Ea J fun _ Eb => ?_; clear J K' Ea; refine M1 Eb 29 fun K' J ρ q29 => ?_; go_simp; (try go_bits); (try clear q29); go_at_call 28; refine (wCross hM).mono ?_; rintro e v8 ⟨rfl, h2⟩; replace h12 := h12.trans (h2.mono h12.size); (try clear r29); refine Ln Eb J fun _ Ea => ?_; clear J K' Eb; refine M1 Ea 30 fun K' J ρ q30 => ?_; go_simp; refine Ln Ea J fun _ Eb => ?_; clear J K' Ea q30; refine M1 Eb 26 fun K' J ρ q26 => ?_; go_simp; refine Ln Eb J fun _ Ea => ?_; clear J K' Eb q26; refine M1 Ea 26 fun K' J ρ q26 => ?_; go_simp; refine Ln Ea J fun _ Eb => ?_; clear J K' Ea q26; refine M1 Eb 31 fun K' J ρ q31 => ?_; go_simp; refine Ln Eb J fun _ Ea => ?_; clear J K' Eb q31; refine M1 Ea 32 fun K' J ρ q32 => ?_; go_simp; refine Ln Ea J fun _ Eb => ?_; clear J K' Ea q32; refine Ld [1, 2, 3, 4, 5, 6] Eb hK fun a hE => ?_; clear hK K Q' Eb; replace hb := hb.trans (h12.mono hb.size); replace hCS := hCS.below h12; replace hT := hT.below h12; clear hM h1 h2 k1 k8 h12; refine Ks ?_; refine Rs 9 fun Q' K hK => ?_; refine M0 fun K' J ρ => ?_; go_simp; (try go_bits); go_at_call 47; refine (fellC 1 _).mono ?_; rintro e v9 ⟨rfl, k1⟩; refine Ln hE J fun _ Eb => ?_; clear J K' hE a; refine Lp fun K' J => ?_; have r34 := Eb.at 34 rfl; refine wp_buildN 27 68 1 _ rfl [.agg #[.int .i64 1, .bool true, .int .i64 0, .int .i64 2000]] (sis [feS 1]) 4 (by simp [eval_of r34]) Tryd.underlying27 (by kernel_rfl) (by kernel_rfl) rfl (by simp [Value.cells]) (by simp [Value.cells, sis, poS, feS, Si.cells]) (by decide) (by decide) (by decide) ?_
 (try clear r34); refine Ln Eb J fun _ Ea => ?_; clear J K' Eb; refine M1 Ea 35 fun K' J ρ q35 => ?_; go_simp; (try go_bits); (try clear q35); have k8 : Below v9.heap.size v9 (v9.alloc (.cells (sis [feS 1]).toArray 68)) := (Below.refl _ _).alloc (Nat.le_refl _) _; go_at_call 53; refine (book1 ((arr_new v9 _ _).more (by simp))).mono ?_; rintro e v10 ⟨⟨H, rfl, hM⟩, h1⟩; have h12 := k1.trans ((k8.trans (h1.mono k8.size)).mono k1.size); (try clear r35); refine Ln Ea J fun _ Eb => ?_; clear J K' Ea; refine M1 Eb 36 fun K' J ρ q36 => ?_; go_simp; (try go_bits); (try clear q36); go_at_call 26; refine (wUntil hM).mono ?_; rintro e v11 ⟨rfl, h2⟩; replace h12 := h12.trans (h2.mono h12.size); (try clear r36); refine Ln Eb J fun _ Ea => ?_; clear J K' Eb; refine M1 Ea 37 fun K' J ρ q37 => ?_; go_simp; refine Ln Ea J fun _ Eb => ?_; clear J K' Ea q37; refine M1 Eb 33 fun K' J ρ q33 => ?_; go_simp; refine Ln Eb J fun _ Ea => ?_; clear J K' Eb q33; refine M1 Ea 33 fun K' J ρ q33 => ?_; go_simp; refine Ln Ea J fun _ Eb => ?_; clear J K' Ea q33; refine M1 Eb 38 fun K' J ρ q38 => ?_; go_simp; refine Ln Eb J fun _ Ea => ?_; clear J K' Eb q38; refine M1 Ea 39 fun K' J ρ q39 => ?_; go_simp; refine Ln Ea J fun _ Eb => ?_; clear J K' Ea q39; refine Ld [1, 2, 3, 4, 5, 6, 7, 8] Eb hK fun a hE => ?_; clear hK K Q' Eb; replace hb := hb.trans (h12.mono hb.size); replace hCS := hCS.below h12; replace hT := hT.below h12; clear hM h1 h2 k1 k8 h12; refine Ks ?_; refine Rs 7 fun Q' K hK => ?_; refine M0 fun K' J ρ => ?_; go_simp; (try go_bits);
 go_at_call 53; refine (book0 _).mono ?_; rintro e v12 ⟨⟨H, rfl, hM⟩, h12⟩; refine Ln hE J fun _ Eb => ?_; clear J K' hE a; refine M1 Eb 41 fun K' J ρ q41 => ?_; go_simp; (try go_bits); (try clear q41); go_at_call 20; refine (wSafe hM).mono ?_; rintro e v13 ⟨rfl, h2⟩; replace h12 := h12.trans (h2.mono h12.size); (try clear r41); refine Ln Eb J fun _ Ea => ?_; clear J K' Eb; refine M1 Ea 42 fun K' J ρ q42 => ?_; go_simp; refine Ln Ea J fun _ Eb => ?_; clear J K' Ea q42; refine M1 Eb 40 fun K' J ρ q40 => ?_; go_simp; refine Ln Eb J fun _ Ea => ?_; clear J K' Eb q40; refine M1 Ea 40 fun K' J ρ q40 => ?_; go_simp; refine Ln Ea J fun _ Eb => ?_; clear J K' Ea q40; refine M1 Eb 43 fun K' J ρ q43 => ?_; go_simp; refine Ln Eb J fun _ Ea => ?_; clear J K' Eb q43; refine M1 Ea 44 fun K' J ρ q44 => ?_; go_simp; refine Ln Ea J fun _ Eb => ?_; clear J K' Ea q44; refine Ld [1, 2, 3, 4, 5, 6, 7, 8, 9, 10] Eb hK fun a hE => ?_; clear hK K Q' Eb; replace hb := hb.trans (h12.mono hb.size); replace hCS := hCS.below h12; replace hT := hT.below h12; clear hM h2 h12; refine Ks ?_; obtain ⟨nS, cS0, cS1⟩ := hCS.c2; refine Rd [] (fun wt => Below v13.heap.size v13 wt) (fun w1 w2 => Below w1.heap.size w1 w2) [(0, some 45), (1, some 46), (2, some 47), (3, some 48), (4, some 49), (5, some 50), (6, some 51), (7, some 52), (8, some 53), (9, some 54), (10, some 55), (11, some 56), (12, some 57), (13, some 58), (14, some 59), (15, some 60), (16, some 61), (17, some 62), (18, some 63), (19, some 64), (20, some 65), (21, some 66), (22, some 67), (23, some 68), (24, some 69), (25, some 70), (26, some 71), (27, some 72), (28, some 73), (29, some 74), (30, some 75), (31, some 76), (32, some 77), (33, some 78), (34, some 79), (35, some 80), (36, some 81), (37, some 82), (38, some 83), (39, some 84), (40, some 85)] [45, 46, 47, 48, 49, 50, 51, 52, 53, 54, 55, 56, 57, 58, 59, 60, 61, 62, 63, 64, 65, 66, 67, 68, 69, 70, 71, 72, 73, 74, 75, 76, 77, 78, 79, 80, 81, 82, 83, 84, 85] #[true, true, true, true, true, true, true, true, true, true, true, true, true, true, true, true, true, true, true, true, true, true, true, true, true, true, true, true, true, true, true, true, true, true, true, true, true, true, true, true, true] [] hE ((Below.refl _ _).drew) fun Q' K hK => ?_
 refine SeqOps.val ?_ (Sp fun ax wx hS hT' hd K' J => ?_) ?_; rotate_left 1
 ·have r2 := Ta hS hE 2; refine o1 r2 fun ρ q2 => ?_; go_simp; exact Jo J hT'
 refine SeqOps.val ?_ (Sp fun ax wx hS hT' hd K' J => ?_) ?_; rotate_left 1
 ·have r45 := Tv hd 0 0 45; refine o1 r45 fun ρ q45 => ?_; go_simp; (try go_bits); exact Jo J hT'
 refine SeqOps.val ?_ (Sp fun ax wx hS hT' hd K' J => ?_) ?_; rotate_left 1
 ·have r46 := Tv hd 0 1 46; refine o1 r46 fun ρ q46 => ?_; go_simp; exact Jo J hT'
 refine SeqOps.val ?_ (Sy 0 47 fun ax wx hS hT' hd K' J => ?_) ?_; rotate_left 1
 ·have r4 := Ta hS hE 4; refine o1 r4 fun ρ q4 => ?_; go_simp; exact Jo J hT'
 refine SeqOps.val ?_ (Sy 1 47 fun ax wx hS hT' hd K' J => ?_) ?_; rotate_left 1
 ·have r48 := Tv hd 0 3 48; refine o1 r48 fun ρ q48 => ?_; go_simp; (try go_bits); exact Jo J hT'
 refine SeqOps.val ?_ (Sp fun ax wx hS hT' hd K' J => ?_) ?_; rotate_left 1
 ·have r47 := Tv hd 2 2 47; have r49 := Tv hd 0 4 49; refine o2 r47 r49 fun ρ q47 q49 => ?_; go_simp; (try go_bits); exact Jo J hT'
 refine SeqOps.val ?_ (Sp fun ax wx hS hT' hd K' J => ?_) ?_; rotate_left 1
 ·have r50 := Tv hd 0 5 50; refine o1 r50 fun ρ q50 => ?_; go_simp; exact Jo J hT'
 refine SeqOps.val ?_ (Sy 0 51 fun ax wx hS hT' hd K' J => ?_) ?_; rotate_left 1
 ·have r6 := Ta hS hE 6; refine o1 r6 fun ρ q6 => ?_; go_simp; exact Jo J hT'
 refine SeqOps.val ?_ (Sy 1 51 fun ax wx hS hT' hd K' J => ?_) ?_; rotate_left 1
 ·have r52 := Tv hd 0 7 52; refine o1 r52 fun ρ q52 => ?_; go_simp; (try go_bits); exact Jo J hT'
 refine SeqOps.val ?_ (Sp fun ax wx hS hT' hd K' J => ?_) ?_; rotate_left 1
 ·have r51 := Tv hd 2 6 51; have r53 := Tv hd 0 8 53; refine o2 r51 r53 fun ρ q51 q53 => ?_; go_simp; (try go_bits); exact Jo J hT'
 refine SeqOps.val ?_ (Sp fun ax wx hS hT' hd K' J => ?_) ?_; rotate_left 1
 ·have r54 := Tv hd 0 9 54; refine o1 r54 fun ρ q54 => ?_; go_simp; exact Jo J hT'
 refine SeqOps.val ?_ (Sy 0 55 fun ax wx hS hT' hd K' J => ?_) ?_; rotate_left 1
 ·have r8 := Ta hS hE 8; refine o1 r8 fun ρ q8 => ?_; go_simp; exact Jo J hT'
 refine SeqOps.val ?_ (Sy 1 55 fun ax wx hS hT' hd K' J => ?_) ?_; rotate_left 1
 ·have r56 := Tv hd 0 11 56; refine o1 r56 fun ρ q56 => ?_; go_simp; (try go_bits); exact Jo J hT'
 refine SeqOps.val ?_ (Sp fun ax wx hS hT' hd K' J => ?_) ?_; rotate_left 1
 ·have r55 := Tv hd 2 10 55; have r57 := Tv hd 0 12 57; refine o2 r55 r57 fun ρ q55 q57 => ?_; go_simp; (try go_bits); exact Jo J hT'
 refine SeqOps.val ?_ (Sp fun ax wx hS hT' hd K' J => ?_) ?_; rotate_left 1
 ·have r58 := Tv hd 0 13 58; refine o1 r58 fun ρ q58 => ?_; go_simp; exact Jo J hT'
 refine SeqOps.val ?_ (Sy 0 59 fun ax wx hS hT' hd K' J => ?_) ?_; rotate_left 1
 ·have r10 := Ta hS hE 10; refine o1 r10 fun ρ q10 => ?_; go_simp; exact Jo J hT'
 refine SeqOps.val ?_ (Sy 1 59 fun ax wx hS hT' hd K' J => ?_) ?_; rotate_left 1
 ·have r60 := Tv hd 0 15 60; refine o1 r60 fun ρ q60 => ?_; go_simp; (try go_bits); exact Jo J hT'
 refine SeqOps.val ?_ (Sp fun ax wx hS hT' hd K' J => ?_) ?_; rotate_left 1
 ·have r59 := Tv hd 2 14 59; have r61 := Tv hd 0 16 61; refine o2 r59 r61 fun ρ q59 q61 => ?_; go_simp; (try go_bits); exact Jo J hT'
 refine SeqOps.val ?_ (Sp fun ax wx hS hT' hd K' J => ?_) ?_; rotate_left 1
 ·have r62 := Tv hd 0 17 62; refine o1 r62 fun ρ q62 => ?_; go_simp; exact Jo J hT'
 refine SeqOps.val ?_ (Sy 0 63 fun ax wx hS hT' hd K' J => ?_) ?_; rotate_left 1
 ·have r1 := Ta hS hE 1; obtain ⟨_, _, _, _, _, _⟩ := bT hT'; refine o1 r1 fun ρ q1 => ?_; go_simp; exact Jo J hT'
 refine SeqOps.val ?_ (Sy 1 63 fun ax wx hS hT' hd K' J => ?_) ?_; rotate_left 1
 ·obtain ⟨_, _, _, _, _, _⟩ := bT hT'; refine o0 fun ρ => ?_; go_simp; (try go_bits); go_at_call 54; refine (to_any _ _ _).mono ?_; rintro e g1 ⟨rfl, k1⟩; refine J.out _ _ _ rfl ?_ (hT'.trans (k1.mono hT'.size)) k1; rfl
 refine SeqOps.val ?_ (Sy 2 63 fun ax wx hS hT' hd K' J => ?_) ?_; rotate_left 1
 ·have r64 := Tv hd 1 19 64; have r65 := Tv hd 0 20 65; refine o2 r64 r65 fun ρ q64 q65 => ?_; go_simp; (try go_bits); exact Jo J hT'
 refine SeqOps.val ?_ (Sp fun ax wx hS hT' hd K' J => ?_) ?_; rotate_left 1
 ·have r63 := Tv hd 3 18 63; have r66 := Tv hd 0 21 66; refine o2 r63 r66 fun ρ q63 q66 => ?_; go_simp; (try go_bits); exact Jo J hT'
 refine SeqOps.val ?_ (Sp fun ax wx hS hT' hd K' J => ?_) ?_; rotate_left 1
 ·have r67 := Tv hd 0 22 67; refine o1 r67 fun ρ q67 => ?_; go_simp; exact Jo J hT'
 refine SeqOps.val ?_ (Sy 0 68 fun ax wx hS hT' hd K' J => ?_) ?_; rotate_left 1
 ·have r3 := Ta hS hE 3; refine o1 r3 fun ρ q3 => ?_; go_simp; exact Jo J hT'
 refine SeqOps.say (fun v wt => ∃ G, v = .slice (some ⟨G, 0, none⟩) 2 2 ∧ ArrD wt (some ⟨G, 0, none⟩) (ints [0, 1])) (fun _ _ _ hR ⟨G, e, h⟩ => ⟨G, e, h.below hR⟩) (Sy 1 68 fun ax wx hS hT' hd K' J => ?_) ?_
 ·obtain ⟨_, _, _, _, _, _⟩ := bT hT'; refine o0 fun ρ => ?_; go_simp; refine J.out _ _ _ rfl ⟨_, rfl, (arr_new wx _ _).more (by simp)⟩ (hT'.trans (((Below.refl _ _).alloc (Nat.le_refl _) _).mono hT'.size)) ((Below.refl _ _).alloc (Nat.le_refl _) _)
 refine SeqOps.val ?_ (Sy 2 68 fun ax wx hS hT' hd K' J => ?_) ?_; rotate_left 1
 ·have r69 := Tv hd 1 24 69; obtain ⟨v70, r70, h70⟩ := Tg hd 0 25 70; obtain ⟨G, rfl, hG⟩ := h70; obtain ⟨_, _, _, _, _, _⟩ := bT hT'; refine o2 r69 r70 fun ρ q69 q70 => ?_; go_simp; (try go_bits); go_at_call 25; refine (wEq2 (hT.below hT') hG).mono ?_; rintro e g1 ⟨rfl, k1⟩; refine J.out _ _ _ rfl ?_ (hT'.trans (k1.mono hT'.size)) k1; rfl
 refine SeqOps.val ?_ (Sy 3 68 fun ax wx hS hT' hd K' J => ?_) ?_; rotate_left 1
 ·have r71 := Tv hd 0 26 71; refine o1 r71 fun ρ q71 => ?_; go_simp; (try go_bits); (try simp (disch := omega) only [IntWalk.i64_in]); exact Jo J hT'
 refine SeqOps.val ?_ (Sp fun ax wx hS hT' hd K' J => ?_) ?_; rotate_left 1
 ·have r68 := Tv hd 4 23 68; have r72 := Tv hd 0 27 72; refine o2 r68 r72 fun ρ q68 q72 => ?_; go_simp; (try go_bits); exact Jo J hT'
 refine SeqOps.val ?_ (Sp fun ax wx hS hT' hd K' J => ?_) ?_; rotate_left 1
 ·have r73 := Tv hd 0 28 73; refine o1 r73 fun ρ q73 => ?_; go_simp; exact Jo J hT'
 refine SeqOps.val ?_ (Sy 0 74 fun ax wx hS hT' hd K' J => ?_) ?_; rotate_left 1
 ·have r5 := Ta hS hE 5; refine o1 r5 fun ρ q5 => ?_; go_simp; exact Jo J hT'
 refine SeqOps.val ?_ (Sy 1 74 fun ax wx hS hT' hd K' J => ?_) ?_; rotate_left 1
 ·have r75 := Tv hd 0 30 75; refine o1 r75 fun ρ q75 => ?_; go_simp; (try go_bits); exact Jo J hT'
 refine SeqOps.val ?_ (Sp fun ax wx hS hT' hd K' J => ?_) ?_; rotate_left 1
 ·have r74 := Tv hd 2 29 74; have r76 := Tv hd 0 31 76; refine o2 r74 r76 fun ρ q74 q76 => ?_; go_simp; (try go_bits); exact Jo J hT'
 refine SeqOps.val ?_ (Sp fun ax wx hS hT' hd K' J => ?_) ?_; rotate_left 1
 ·have r77 := Tv hd 0 32 77; refine o1 r77 fun ρ q77 => ?_; go_simp; exact Jo J hT'
 refine SeqOps.val ?_ (Sy 0 78 fun ax wx hS hT' hd K' J => ?_) ?_; rotate_left 1
 ·have r7 := Ta hS hE 7; refine o1 r7 fun ρ q7 => ?_; go_simp; exact Jo J hT'
 refine SeqOps.val ?_ (Sy 1 78 fun ax wx hS hT' hd K' J => ?_) ?_; rotate_left 1
 ·have r79 := Tv hd 0 34 79; refine o1 r79 fun ρ q79 => ?_; go_simp; (try go_bits); exact Jo J hT'
 refine SeqOps.val ?_ (Sp fun ax wx hS hT' hd K' J => ?_) ?_; rotate_left 1
 ·have r78 := Tv hd 2 33 78; have r80 := Tv hd 0 35 80; refine o2 r78 r80 fun ρ q78 q80 => ?_; go_simp; (try go_bits); exact Jo J hT'
 refine SeqOps.val ?_ (Sp fun ax wx hS hT' hd K' J => ?_) ?_; rotate_left 1
 ·have r81 := Tv hd 0 36 81; refine o1 r81 fun ρ q81 => ?_; go_simp; exact Jo J hT'
 refine SeqOps.val ?_ (Sy 0 82 fun ax wx hS hT' hd K' J => ?_) ?_; rotate_left 1
 ·have r9 := Ta hS hE 9; refine o1 r9 fun ρ q9 => ?_; go_simp; exact Jo J hT'
 refine SeqOps.val ?_ (Sy 1 82 fun ax wx hS hT' hd K' J => ?_) ?_; rotate_left 1
 ·have r83 := Tv hd 0 38 83; refine o1 r83 fun ρ q83 => ?_; go_simp; (try go_bits); (try simp (disch := omega) only [IntWalk.i64_in]); exact Jo J hT'
 refine SeqOps.val ?_ (Sp fun ax wx hS hT' hd K' J => ?_) ?_; rotate_left 1
 ·have r82 := Tv hd 2 37 82; have r84 := Tv hd 0 39 84; refine o2 r82 r84 fun ρ q82 q84 => ?_; go_simp; (try go_bits); exact Jo J hT'
 refine SeqOps.nil ?_
 intro y1 hBl; (repeat refine Ek ?_); (refine fun v h => ?_; obtain ⟨G, rfl, hG⟩ := h); (repeat refine Ek ?_)
 refine fun ax hEx => ?_; simp only [lk, pick, Nat.reduceEqDiff, ↓reduceIte] at hEx; refine Ld [85] hEx hK fun a hE => ?_; clear hK K Q' hEx; refine Ks ?_; refine cond_no hE (t := 85) rfl ?_; replace hb := hb.trans (hBl.mono hb.size); clear hBl hT hCS; refine Ks ?_; refine Rs 10 fun Q' K hK => ?_; refine M0 fun K' J ρ => ?_; go_simp; (try go_bits); go_at_call 47; refine (fellC 0 _).mono ?_; rintro e v14 ⟨rfl, k1⟩; refine Ln hE J fun _ Eb => ?_; clear J K' hE a; refine M0 fun K' J ρ => ?_; go_simp; (try go_bits); go_at_call 46; refine (poleC _).mono ?_; rintro e v15 ⟨rfl, k2⟩; replace k2 := k1.trans (k2.mono k1.size); refine Ln Eb J fun _ Ea => ?_; clear J K' Eb; refine Lp fun K' J => ?_; have r87 := Ea.at 87 rfl; have r88 := Ea.at 88 rfl; refine wp_buildN 27 68 2 _ rfl [.agg #[.int .i64 0, .bool true, .int .i64 0, .int .i64 2000], .agg #[.int .i64 1, .bool false, .int .i64 39, .int .i64 60]] (sis [feS 0, poS 1 39 60]) 4 (by simp [eval_of r87, eval_of r88]) Tryd.underlying27 (by kernel_rfl) (by kernel_rfl) rfl (by simp [Value.cells]) (by simp [Value.cells, sis, poS, feS, Si.cells]) (by decide) (by decide) (by decide) ?_; (try clear r87 r88); refine Ln Ea J fun _ Eb => ?_; clear J K' Ea; refine M1 Eb 89 fun K' J ρ q89 => ?_; go_simp; (try go_bits); (try clear q89); have k8 : Below v15.heap.size v15 (v15.alloc (.cells (sis [feS 0, poS 1 39 60]).toArray 68)) := (Below.refl _ _).alloc (Nat.le_refl _) _; go_at_call 53; refine (book2 ((arr_new v15 _ _).more (by simp))).mono ?_; rintro e v16 ⟨⟨H, rfl, hM⟩, h1⟩
 have h12 := k2.trans ((k8.trans (h1.mono k8.size)).mono k2.size); (try clear r89); refine Ln Eb J fun _ Ea => ?_; clear J K' Eb; refine M1 Ea 90 fun K' J ρ q90 => ?_; go_simp; (try go_bits); (try clear q90); go_at_call 14; refine (wRight hM).mono ?_; rintro e v17 ⟨rfl, h2⟩; replace h12 := h12.trans (h2.mono h12.size); (try clear r90); refine Ln Ea J fun _ Eb => ?_; clear J K' Ea; refine M1 Eb 91 fun K' J ρ q91 => ?_; go_simp; refine Ln Eb J fun _ Ea => ?_; clear J K' Eb q91; refine M1 Ea 86 fun K' J ρ q86 => ?_; go_simp; refine Ln Ea J fun _ Eb => ?_; clear J K' Ea q86; refine M1 Eb 86 fun K' J ρ q86 => ?_; go_simp; refine Ln Eb J fun _ Ea => ?_; clear J K' Eb q86; refine M1 Ea 92 fun K' J ρ q92 => ?_; go_simp; refine Ln Ea J fun _ Eb => ?_; clear J K' Ea q92; refine M1 Eb 93 fun K' J ρ q93 => ?_; go_simp; refine Ln Eb J fun _ Ea => ?_; clear J K' Eb q93; refine Ld [2, 11] Ea hK fun a hE => ?_; clear hK K Q' Ea; replace hb := hb.trans (h12.mono hb.size); clear hM h1 h2 k1 k2 k8 h12; refine Ks ?_; refine Rs 10 fun Q' K hK => ?_; refine M0 fun K' J ρ => ?_; go_simp; (try go_bits); go_at_call 47; refine (fellC 0 _).mono ?_; rintro e v18 ⟨rfl, k1⟩; refine Ln hE J fun _ Eb => ?_; clear J K' hE a; refine M0 fun K' J ρ => ?_; go_simp; (try go_bits); go_at_call 46; refine (poleC _).mono ?_; rintro e v19 ⟨rfl, k2⟩; replace k2 := k1.trans (k2.mono k1.size); refine Ln Eb J fun _ Ea => ?_; clear J K' Eb; refine Lp fun K' J => ?_; have r95 := Ea.at 95 rfl; have r96 := Ea.at 96 rfl; refine wp_buildN 27 68 2 _ rfl [.agg #[.int .i64 0, .bool true, .int .i64 0, .int .i64 2000], .agg #[.int .i64 1, .bool false, .int .i64 39, .int .i64 60]] (sis [feS 0, poS 1 39 60]) 4 (by simp [eval_of r95, eval_of r96]) Tryd.underlying27 (by kernel_rfl) (by kernel_rfl) rfl (by simp [Value.cells]) (by simp [Value.cells, sis, poS, feS, Si.cells]) (by decide) (by decide) (by decide) ?_
 (try clear r95 r96); refine Ln Ea J fun _ Eb => ?_; clear J K' Ea; refine M1 Eb 97 fun K' J ρ q97 => ?_; go_simp; (try go_bits); (try clear q97); have k8 : Below v19.heap.size v19 (v19.alloc (.cells (sis [feS 0, poS 1 39 60]).toArray 68)) := (Below.refl _ _).alloc (Nat.le_refl _) _; go_at_call 53; refine (book2 ((arr_new v19 _ _).more (by simp))).mono ?_; rintro e v20 ⟨⟨H, rfl, hM⟩, h1⟩; have h12 := k2.trans ((k8.trans (h1.mono k8.size)).mono k2.size); (try clear r97); refine Ln Eb J fun _ Ea => ?_; clear J K' Eb; refine M1 Ea 98 fun K' J ρ q98 => ?_; go_simp; (try go_bits); (try clear q98); go_at_call 32; refine (wWrong hM).mono ?_; rintro e v21 ⟨⟨T, c, rfl, hT⟩, h2⟩; replace h12 := h12.trans (h2.mono h12.size); (try clear r98); refine Ln Ea J fun _ Eb => ?_; clear J K' Ea; refine M1 Eb 99 fun K' J ρ q99 => ?_; go_simp; refine Ln Eb J fun _ Ea => ?_; clear J K' Eb q99; refine M1 Ea 94 fun K' J ρ q94 => ?_; go_simp; refine Ln Ea J fun _ Eb => ?_; clear J K' Ea q94; refine M1 Eb 94 fun K' J ρ q94 => ?_; go_simp; refine Ln Eb J fun _ Ea => ?_; clear J K' Eb q94; refine M1 Ea 100 fun K' J ρ q100 => ?_; go_simp; refine Ln Ea J fun _ Eb => ?_; clear J K' Ea q100; refine M1 Eb 101 fun K' J ρ q101 => ?_; go_simp; refine Ln Eb J fun _ Ea => ?_; clear J K' Eb q101; refine Ld [2, 4, 11, 12] Ea hK fun a hE => ?_; clear hK K Q' Ea; replace hb := hb.trans (h12.mono hb.size); clear hM h1 h2 k1 k2 k8 h12; have hTb := hTw.below hb; refine Ks ?_; refine Rs 8 fun Q' K hK => ?_; refine M0 fun K' J ρ => ?_; go_simp; (try go_bits);
 go_at_call 53; refine (book0 _).mono ?_; rintro e v22 ⟨⟨H, rfl, hM⟩, h12⟩; refine Ln hE J fun _ Eb => ?_; clear J K' hE a; refine M1 Eb 103 fun K' J ρ q103 => ?_; go_simp; (try go_bits); (try clear q103); go_at_call 30; refine (wFalls hM (hTb.below h12)).mono ?_; rintro e v23 ⟨rfl, h2⟩; replace h12 := h12.trans (h2.mono h12.size); (try clear r103); refine Ln Eb J fun _ Ea => ?_; clear J K' Eb; refine M1 Ea 104 fun K' J ρ q104 => ?_; go_simp; refine Ln Ea J fun _ Eb => ?_; clear J K' Ea q104; refine M1 Eb 102 fun K' J ρ q102 => ?_; go_simp; refine Ln Eb J fun _ Ea => ?_; clear J K' Eb q102; refine M1 Ea 102 fun K' J ρ q102 => ?_; go_simp; refine Ln Ea J fun _ Eb => ?_; clear J K' Ea q102; refine M0 fun K' J ρ => ?_; go_simp; refine Ln Eb J fun _ Ea => ?_; clear J K' Eb; refine M2 Ea 13 105 fun K' J ρ q13 q105 => ?_; go_simp; (try clear q13 q105); refine late_skip Ea J (fun _ Eb => ?_); clear J K'; clear Ea; refine M1 Eb 106 fun K' J ρ q106 => ?_; go_simp; refine Ln Eb J fun _ Ea => ?_; clear J K' Eb q106; refine Ld [2, 4, 6, 11, 12, 13] Ea hK fun a hE => ?_; clear hK K Q' Ea; obtain ⟨S, hSe⟩ : ∃ B, B = v23.heap.size := ⟨_, rfl⟩; rw [← hSe] at hE; refine world_cut (fun wt => Below v23.heap.size v23 wt ∧ Cells wt S [.int .i64 0, .int .i64 1]) ⟨(Below.refl _ _).alloc (Nat.le_refl _) _, by rw [hSe]; exact cells_new _ _ _⟩ (fun u2 hCut => ?_); obtain ⟨hbu2, hCS⟩ := hCut; clear hSe; replace h12 := h12.trans (hbu2.mono h12.size); replace hb := hb.trans (h12.mono hb.size); replace hT := hT.below h12
 clear hM h2 h12 hbu2 hTb; refine Ks ?_; obtain ⟨nS, cS0, cS1⟩ := hCS.c2; refine Rd [24] (fun wt => Below u2.heap.size u2 wt) (fun w1 w2 => Below w1.heap.size w1 w2) [(0, some 107), (1, some 108), (2, some 109), (3, some 110), (4, some 111), (5, some 112), (6, some 113), (7, some 114), (8, some 115), (9, some 116), (10, some 117), (11, some 118), (12, some 119), (13, some 120), (14, some 121), (15, some 122), (16, some 123), (17, some 124), (18, some 125), (19, some 126), (20, some 127), (21, some 128), (22, some 129), (23, some 130)] [107, 108, 109, 110, 111, 112, 113, 114, 115, 116, 117, 118, 119, 120, 121, 122, 123, 124, 125, 126, 127, 128, 129, 130] #[true, true, true, true, true, true, true, true, true, true, true, true, true, true, true, true, true, true, true, true, true, true, true, true, false] [0] hE ((Below.refl _ _).drew) fun Q' K hK => ?_; refine SeqOps.val ?_ (Sp fun ax wx hS hT' hd K' J => ?_) ?_; rotate_left 1
 ·have r2 := Ta hS hE 2; refine o1 r2 fun ρ q2 => ?_; go_simp; exact Jo J hT'
 refine SeqOps.val ?_ (Sp fun ax wx hS hT' hd K' J => ?_) ?_; rotate_left 1
 ·have r107 := Tv hd 0 0 107; refine o1 r107 fun ρ q107 => ?_; go_simp; (try go_bits); exact Jo J hT'
 refine SeqOps.val ?_ (Sp fun ax wx hS hT' hd K' J => ?_) ?_; rotate_left 1
 ·have r108 := Tv hd 0 1 108; refine o1 r108 fun ρ q108 => ?_; go_simp; exact Jo J hT'
 refine SeqOps.val ?_ (Sy 0 109 fun ax wx hS hT' hd K' J => ?_) ?_; rotate_left 1
 ·have r4 := Ta hS hE 4; refine o1 r4 fun ρ q4 => ?_; go_simp; exact Jo J hT'
 refine SeqOps.val ?_ (Sy 1 109 fun ax wx hS hT' hd K' J => ?_) ?_; rotate_left 1
 ·have r110 := Tv hd 0 3 110; refine o1 r110 fun ρ q110 => ?_; go_simp; (try go_bits); exact Jo J hT'
 refine SeqOps.val ?_ (Sp fun ax wx hS hT' hd K' J => ?_) ?_; rotate_left 1
 ·have r109 := Tv hd 2 2 109; have r111 := Tv hd 0 4 111; refine o2 r109 r111 fun ρ q109 q111 => ?_; go_simp; (try go_bits); exact Jo J hT'
 refine SeqOps.val ?_ (Sp fun ax wx hS hT' hd K' J => ?_) ?_; rotate_left 1
 ·have r112 := Tv hd 0 5 112; refine o1 r112 fun ρ q112 => ?_; go_simp; exact Jo J hT'
 refine SeqOps.val ?_ (Sy 0 113 fun ax wx hS hT' hd K' J => ?_) ?_; rotate_left 1
 ·have r6 := Ta hS hE 6; refine o1 r6 fun ρ q6 => ?_; go_simp; exact Jo J hT'
 refine SeqOps.val ?_ (Sy 1 113 fun ax wx hS hT' hd K' J => ?_) ?_; rotate_left 1
 ·have r114 := Tv hd 0 7 114; refine o1 r114 fun ρ q114 => ?_; go_simp; (try go_bits); exact Jo J hT'
 refine SeqOps.val ?_ (Sp fun ax wx hS hT' hd K' J => ?_) ?_; rotate_left 1
 ·have r113 := Tv hd 2 6 113; have r115 := Tv hd 0 8 115; refine o2 r113 r115 fun ρ q113 q115 => ?_; go_simp; (try go_bits); exact Jo J hT'
 refine SeqOps.val ?_ (Sp fun ax wx hS hT' hd K' J => ?_) ?_; rotate_left 1
 ·have r116 := Tv hd 0 9 116; refine o1 r116 fun ρ q116 => ?_; go_simp; exact Jo J hT'
 refine SeqOps.val ?_ (Sy 0 117 fun ax wx hS hT' hd K' J => ?_) ?_; rotate_left 1
 ·have r11 := Ta hS hE 11; refine o1 r11 fun ρ q11 => ?_; go_simp; exact Jo J hT'
 refine SeqOps.val ?_ (Sy 1 117 fun ax wx hS hT' hd K' J => ?_) ?_; rotate_left 1
 ·have r118 := Tv hd 0 11 118; refine o1 r118 fun ρ q118 => ?_; go_simp; (try go_bits); (try simp (disch := omega) only [IntWalk.i64_in]); exact Jo J hT'
 refine SeqOps.val ?_ (Sp fun ax wx hS hT' hd K' J => ?_) ?_; rotate_left 1
 ·have r117 := Tv hd 2 10 117; have r119 := Tv hd 0 12 119; refine o2 r117 r119 fun ρ q117 q119 => ?_; go_simp; (try go_bits); exact Jo J hT'
 refine SeqOps.val ?_ (Sp fun ax wx hS hT' hd K' J => ?_) ?_; rotate_left 1
 ·have r120 := Tv hd 0 13 120; refine o1 r120 fun ρ q120 => ?_; go_simp; exact Jo J hT'
 refine SeqOps.val ?_ (Sy 0 121 fun ax wx hS hT' hd K' J => ?_) ?_; rotate_left 1
 ·have r12 := Ta hS hE 12; refine o1 r12 fun ρ q12 => ?_; go_simp; exact Jo J hT'
 refine SeqOps.say (fun v wt => ∃ G, v = .slice (some ⟨G, 0, none⟩) 1 1 ∧ ArrD wt (some ⟨G, 0, none⟩) (ints [0])) (fun _ _ _ hR ⟨G, e, h⟩ => ⟨G, e, h.below hR⟩) (Sy 1 121 fun ax wx hS hT' hd K' J => ?_) ?_
 ·obtain ⟨_, _, _, _, _, _⟩ := bT hT'; refine o0 fun ρ => ?_; go_simp; refine J.out _ _ _ rfl ⟨_, rfl, (arr_new wx _ _).more (by simp)⟩ (hT'.trans (((Below.refl _ _).alloc (Nat.le_refl _) _).mono hT'.size)) ((Below.refl _ _).alloc (Nat.le_refl _) _)
 refine SeqOps.val ?_ (Sy 2 121 fun ax wx hS hT' hd K' J => ?_) ?_; rotate_left 1
 ·have r122 := Tv hd 1 15 122; obtain ⟨v123, r123, h123⟩ := Tg hd 0 16 123; obtain ⟨G, rfl, hG⟩ := h123; obtain ⟨_, _, _, _, _, _⟩ := bT hT'; refine o2 r122 r123 fun ρ q122 q123 => ?_; go_simp; (try go_bits); go_at_call 25; refine (wEq1 (hT.below hT') hG).mono ?_; rintro e g1 ⟨rfl, k1⟩; refine J.out _ _ _ rfl ?_ (hT'.trans (k1.mono hT'.size)) k1; rfl
 refine SeqOps.val ?_ (Sp fun ax wx hS hT' hd K' J => ?_) ?_; rotate_left 1
 ·have r121 := Tv hd 3 14 121; have r124 := Tv hd 0 17 124; refine o2 r121 r124 fun ρ q121 q124 => ?_; go_simp; (try go_bits); exact Jo J hT'
 refine SeqOps.val ?_ (Sp fun ax wx hS hT' hd K' J => ?_) ?_; rotate_left 1
 ·have r125 := Tv hd 0 18 125; refine o1 r125 fun ρ q125 => ?_; go_simp; exact Jo J hT'
 refine SeqOps.val ?_ (Sy 0 126 fun ax wx hS hT' hd K' J => ?_) ?_; rotate_left 1
 ·have r13 := Ta hS hE 13; obtain ⟨_, _, _, _, _, _⟩ := bT hT'; refine o1 r13 fun ρ q13 => ?_; go_simp; exact Jo J hT'
 refine SeqOps.val ?_ (Sy 1 126 fun ax wx hS hT' hd K' J => ?_) ?_; rotate_left 1
 ·obtain ⟨_, _, _, _, _, _⟩ := bT hT'; refine o0 fun ρ => ?_; go_simp; (try go_bits); go_at_call 54; refine (to_any _ _ _).mono ?_; rintro e g1 ⟨rfl, k1⟩; refine J.out _ _ _ rfl ?_ (hT'.trans (k1.mono hT'.size)) k1; rfl
 refine SeqOps.val ?_ (Sy 2 126 fun ax wx hS hT' hd K' J => ?_) ?_; rotate_left 1
 ·have r127 := Tv hd 1 20 127; have r128 := Tv hd 0 21 128; refine o2 r127 r128 fun ρ q127 q128 => ?_; go_simp; (try go_bits); exact Jo J hT'
 refine SeqOps.val ?_ (Sp fun ax wx hS hT' hd K' J => ?_) ?_; rotate_left 1
 ·have r126 := Tv hd 3 19 126; have r129 := Tv hd 0 22 129; refine o2 r126 r129 fun ρ q126 q129 => ?_; go_simp; (try go_bits); exact Jo J hT'
 refine SeqOps.nil ?_
 intro y2 hBl; (repeat refine Ek ?_); (refine fun v h => ?_; obtain ⟨G, rfl, hG⟩ := h); (repeat refine Ek ?_)
 refine fun ax hEx => ?_; simp only [lk, pick, Nat.reduceEqDiff, ↓reduceIte] at hEx; refine M1 hEx 130 fun K' J ρ q130 => ?_; go_simp; refine Ln hEx J fun _ Eb => ?_; clear J K' hEx q130; refine Ld [0] Eb hK fun a hE => ?_; clear hK K Q' Eb; refine Ks ?_; exact ret_one hE rfl rfl ⟨rfl, hb.trans (hBl.mono hb.size)⟩
end
end Go.Proofs.YtkhmcofmjjmjhaaDoor
