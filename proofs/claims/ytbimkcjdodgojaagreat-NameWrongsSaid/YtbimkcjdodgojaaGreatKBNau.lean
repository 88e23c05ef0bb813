/- Name: the ends of what was counted. -/
import Derived.Test.YtbimkcjdodgojaaGreatKBNat
import Derived.Test.YtbimkcjdodgojaaGreatKBNah

namespace Go.Proofs.YtbimkcjdodgojaaGreat
set_option linter.unusedSimpArgs false
set_option linter.unusedVariables false
open Go Go.RowKit
attribute [local go_sem high] cell_set_wr
attribute [local go_sem low] cell_wr frozen_wr
attribute [local go_sem] wr_set wr_drew wr_drewN wr_alloc wr_new Rho.c Rho.n Rho.g
section
variable (A : Option Addr) (cap : Nat) (L : Option Addr) (lcap : Nat) (b : Bk) (u0 u1 u2 u3 u4 u5 u6 u7 u8 : Value) (T : Option Addr) (n c Mb : Nat)
set_option maxRecDepth 100000 in
set_option maxHeartbeats 1000000 in
theorem findLeast_any (p : Int) (l : List Int) (w : World) (hT : Arr w w.heap.size T (ints (p :: l))) (hc : l.length + 1 ≤ c) (hl : c ≤ 9223372036854775807) : Calls Tryz.prog 55 #[.agg (talV A cap L lcap b u0 u1 u2 u3 u4 u5 u6 u7 u8 T (l.length + 1) c Mb).toArray, .agg #[.func (.func 56) #[] #[]]] w fun e w' => e = .returned (.int .i64 (minL p l)) ∧ Below w.heap.size w w' := by
 obtain ⟨bt, ot, rfl, hbt, hcl⟩ := hT (by simp [ints])
 have c0 := hcl 0 _ rfl
 have hA1 : Arr w w.heap.size (some ⟨bt, ot + 1, none⟩) (ints l) := fun _ => ⟨bt, ot + 1, rfl, hbt, fun j u hu => by
  have := hcl (j + 1) u (by simpa [ints] using hu)
  rwa [show ot + (j + 1) = ot + 1 + j by omega] at this⟩
 simp only [talV]
 refine enterE Tryz.func55 rfl Tryz.ntmps55 (by simp) (fun a hE => ?_); simp only [envOf, Nat.zero_add, Nat.reduceAdd] at hE
 refine Ks ?_
 refine Rs 3 fun Q' K hK => ?_
 refine M1 hE 0 fun K' J ρ q0 => ?_; go_simp
 refine Ln hE J fun _ Eb => ?_; clear J K' hE a q0
 refine M1 Eb 1 fun K' J ρ q1 => ?_; go_simp
 refine Ln Eb J fun _ Ea => ?_; clear J K' Eb q1
 refine M0 fun K' J ρ => ?_; go_simp;
 refine Ln Ea J fun _ Eb => ?_; clear J K' Ea
 refine Ld [2, 3] Eb hK fun a hE => ?_; clear hK K Q' Eb
 obtain ⟨B, hB⟩ : ∃ B, B = w.heap.size := ⟨_, rfl⟩
 obtain ⟨G, hG⟩ : ∃ B, B = w.heap.size + 1 := ⟨_, rfl⟩
 rw [← hG, ← hB] at hE
 refine world_cut (fun wt => Below w.heap.size w wt ∧ Cells wt B [.slice A b.ear.alike.length cap, .string b.ear.mute, .int .i64 b.ear.slips, .slice L b.lines.length lcap, .int .i64 b.lo, .int .i64 b.hi, .int .i64 b.lost, u0, u1, u2, u3, u4, u5, u6, u7, u8, .slice (some ⟨bt, ot, none⟩) (l.length + 1) c, .map (some Mb)] ∧ G < wt.heap.size ∧ Row wt G [.func (.func 56) #[] #[]]) (by rw [hB, hG]; exact box_row _ _ _ _ _) (fun w1 hC => ?_)
 obtain ⟨hbw1, hCB, hlG, hRG⟩ := hC
 have hCG := row_cells hRG hlG
 clear hB hG hRG
 have nB := hCB.1; have cB16 := hCB.2 16 _ rfl
 obtain ⟨nG, cG0⟩ := hCG.c1
 have c01 : w1.cell? ⟨bt, ot, none⟩ = some (.int .i64 p) := by
  have := (hbw1.cell (p := ⟨bt, ot + 0, none⟩) hbt).trans c0
  simpa using this
 have hbt1 : bt < w1.heap.size := Nat.lt_of_lt_of_le hbt hbw1.size
 have hA2 := (hA1.below hbw1).more hbw1.size
 have hci : (1 : Int) ≤ l.length + 1 := by omega
 clear c0 hcl hA1 hT
 by_cases hc1 : c = 1
 ·subst hc1
  obtain rfl : l = [] := List.eq_nil_of_length_eq_zero (by omega)
  simp only [List.length_nil, Nat.zero_add, Int.natCast_zero, Int.natCast_one] at *
  refine Ks ?_
  refine Rd [9, 10] (fun wt => Below w1.heap.size w1 wt) (fun w1 w2 => Below w1.heap.size w1 w2) [(0, some 5), (1, some 6), (2, some 7), (3, some 8), (4, some 9), (5, some 10), (6, some 11), (7, some 12), (8, some 13)] [5, 6, 7, 8, 9, 10, 11, 12, 13] #[true, true, true, true, true, true, true, true, true, false, false] [2, 4] hE ((Below.refl _ _).drew) fun Q' K hK => ?_
  refine SeqOps.val ?_ (Sp fun ax wx hS hT' hd K' J => ?_) ?_; rotate_left 1
  ·have r3 := hS.at 3 (by decide) (hE.at 3 rfl); obtain ⟨_, _, _, _, _, _⟩ := bT hT'
   refine o1 r3 fun ρ q3 => ?_; go_simp;
   exact Jo J hT'
  refine SeqOps.val ?_ (Sp fun ax wx hS hT' hd K' J => ?_) ?_; rotate_left 1
  ·have r5 := Tv hd 0 0 5; obtain ⟨_, _, _, _, _, _⟩ := bT hT'
   refine o1 r5 fun ρ q5 => ?_; go_simp;
   exact Jo J hT'
  refine SeqOps.val ?_ (Sp fun ax wx hS hT' hd K' J => ?_) ?_; rotate_left 1
  ·have r2 := hS.at 2 (by decide) (hE.at 2 rfl); obtain ⟨_, _, _, _, _, _⟩ := bT hT'
   refine o1 r2 fun ρ q2 => ?_; go_simp;
   exact Jo J hT'
  refine SeqOps.val ?_ (Sp fun ax wx hS hT' hd K' J => ?_) ?_; rotate_left 1
  ·have r7 := Tv hd 0 2 7; obtain ⟨_, _, _, _, _, _⟩ := bT hT'
   refine o1 r7 fun ρ q7 => ?_; go_simp;
   exact Jo J hT'
  refine SeqOps.val ?_ (Sp fun ax wx hS hT' hd K' J => ?_) ?_; rotate_left 1
  ·have r8 := Tv hd 0 3 8; obtain ⟨_, _, _, _, _, _⟩ := bT hT'
   refine o1 r8 fun ρ q8 => ?_; go_simp; (try go_bits);
   exact Jo J hT'
  refine SeqOps.val ?_ (Sp fun ax wx hS hT' hd K' J => ?_) ?_; rotate_left 1
  ·have r9 := Tv hd 0 4 9; obtain ⟨_, _, _, _, _, _⟩ := bT hT'
   refine o1 r9 fun ρ q9 => ?_; go_simp;
   exact Jo J hT'
  refine SeqOps.val ?_ (Sp fun ax wx hS hT' hd K' J => ?_) ?_; rotate_left 1
  ·have r2 := hS.at 2 (by decide) (hE.at 2 rfl); obtain ⟨_, _, _, _, _, _⟩ := bT hT'
   refine o1 r2 fun ρ q2 => ?_; go_simp;
   exact Jo J hT'
  refine SeqOps.val ?_ (Sp fun ax wx hS hT' hd K' J => ?_) ?_; rotate_left 1
  ·have r11 := Tv hd 0 6 11; obtain ⟨_, _, _, _, _, _⟩ := bT hT'
   refine o1 r11 fun ρ q11 => ?_; go_simp;
   exact Jo J hT'
  refine SeqOps.val ?_ (Sp fun ax wx hS hT' hd K' J => ?_) ?_; rotate_left 1
  ·have r12 := Tv hd 0 7 12; obtain ⟨_, _, _, _, _, _⟩ := bT hT'
   refine o1 r12 fun ρ q12 => ?_; go_simp; (try go_bits);
   exact Jo J hT'
  refine SeqOps.nil ?_
  intro w2 hBl; (repeat refine Ek ?_)
  refine fun ax hEx => ?_
  simp only [lk, pick, Nat.reduceEqDiff, ↓reduceIte] at hEx
  refine M3 hEx 6 10 13 fun K' J ρ q6 q10 q13 => ?_; go_simp; (try go_bits); (try clear q6 q10 q13)
  go_at_call 56; refine (least_any p _ _ [] _ (Arr.nil _ _ _) (by simp)).mono ?_; rintro e w3 ⟨rfl, rfl⟩
  (try clear r6 r10 r13)
  refine Ln hEx J fun _ Eb => ?_; clear J K' hEx
  refine M1 Eb 14 fun K' J ρ q14 => ?_; go_simp
  refine Ln Eb J fun _ Ea => ?_; clear J K' Eb q14
  refine Ld [2, 4] Ea hK fun a hE => ?_; clear hK K Q' Ea
  refine Ks ?_
  exact ret_one hE rfl rfl ⟨rfl, hbw1.trans (hBl.mono hbw1.size)⟩
 ·refine Ks ?_
  refine Rd [9, 10] (fun wt => Below w1.heap.size w1 wt) (fun w1 w2 => Below w1.heap.size w1 w2) [(0, some 5), (1, some 6), (2, some 7), (3, some 8), (4, some 9), (5, some 10), (6, some 11), (7, some 12), (8, some 13)] [5, 6, 7, 8, 9, 10, 11, 12, 13] #[true, true, true, true, true, true, true, true, true, false, false] [2, 4] hE ((Below.refl _ _).drew) fun Q' K hK => ?_
  refine SeqOps.val ?_ (Sp fun ax wx hS hT' hd K' J => ?_) ?_; rotate_left 1
  ·have r3 := hS.at 3 (by decide) (hE.at 3 rfl); obtain ⟨_, _, _, _, _, _⟩ := bT hT'
   refine o1 r3 fun ρ q3 => ?_; go_simp;
   exact Jo J hT'
  refine SeqOps.val ?_ (Sp fun ax wx hS hT' hd K' J => ?_) ?_; rotate_left 1
  ·have r5 := Tv hd 0 0 5; obtain ⟨_, _, _, _, _, _⟩ := bT hT'
   refine o1 r5 fun ρ q5 => ?_; go_simp;
   exact Jo J hT'
  refine SeqOps.val ?_ (Sp fun ax wx hS hT' hd K' J => ?_) ?_; rotate_left 1
  ·have r2 := hS.at 2 (by decide) (hE.at 2 rfl); obtain ⟨_, _, _, _, _, _⟩ := bT hT'
   refine o1 r2 fun ρ q2 => ?_; go_simp;
   exact Jo J hT'
  refine SeqOps.val ?_ (Sp fun ax wx hS hT' hd K' J => ?_) ?_; rotate_left 1
  ·have r7 := Tv hd 0 2 7; obtain ⟨_, _, _, _, _, _⟩ := bT hT'
   refine o1 r7 fun ρ q7 => ?_; go_simp;
   exact Jo J hT'
  refine SeqOps.val ?_ (Sp fun ax wx hS hT' hd K' J => ?_) ?_; rotate_left 1
  ·have r8 := Tv hd 0 3 8; obtain ⟨_, _, _, _, _, _⟩ := bT hT'
   refine o1 r8 fun ρ q8 => ?_; go_simp; (try go_bits);
   exact Jo J hT'
  refine SeqOps.val ?_ (Sp fun ax wx hS hT' hd K' J => ?_) ?_; rotate_left 1
  ·have r9 := Tv hd 0 4 9; obtain ⟨_, _, _, _, _, _⟩ := bT hT'
   refine o1 r9 fun ρ q9 => ?_; go_simp;
   exact Jo J hT'
  refine SeqOps.val ?_ (Sp fun ax wx hS hT' hd K' J => ?_) ?_; rotate_left 1
  ·have r2 := hS.at 2 (by decide) (hE.at 2 rfl); obtain ⟨_, _, _, _, _, _⟩ := bT hT'
   refine o1 r2 fun ρ q2 => ?_; go_simp;
   exact Jo J hT'
  refine SeqOps.val ?_ (Sp fun ax wx hS hT' hd K' J => ?_) ?_; rotate_left 1
  ·have r11 := Tv hd 0 6 11; obtain ⟨_, _, _, _, _, _⟩ := bT hT'
   refine o1 r11 fun ρ q11 => ?_; go_simp;
   exact Jo J hT'
  refine SeqOps.val ?_ (Sp fun ax wx hS hT' hd K' J => ?_) ?_; rotate_left 1
  ·have r12 := Tv hd 0 7 12; obtain ⟨_, _, _, _, _, _⟩ := bT hT'
   refine o1 r12 fun ρ q12 => ?_; go_simp; (try go_bits);
   exact Jo J hT'
  refine SeqOps.nil ?_
  intro w2 hBl; (repeat refine Ek ?_)
  refine fun ax hEx => ?_
  simp only [lk, pick, Nat.reduceEqDiff, ↓reduceIte] at hEx
  refine M3 hEx 6 10 13 fun K' J ρ q6 q10 q13 => ?_; go_simp; (try go_bits); (try clear q6 q10 q13)
  go_at_call 56; refine (least_any p _ _ l _ ((hA2.below hBl).more hBl.size) (by omega)).mono ?_; rintro e w3 ⟨rfl, rfl⟩
  (try clear r6 r10 r13)
  refine Ln hEx J fun _ Eb => ?_; clear J K' hEx
  refine M1 Eb 14 fun K' J ρ q14 => ?_; go_simp
  refine Ln Eb J fun _ Ea => ?_; clear J K' Eb q14
  refine Ld [2, 4] Ea hK fun a hE => ?_; clear hK K Q' Ea
  refine Ks ?_
  exact ret_one hE rfl rfl ⟨rfl, hbw1.trans (hBl.mono hbw1.size)⟩
set_option maxRecDepth 100000 in
set_option maxHeartbeats 1000000 in
theorem findGreatest_any (p : Int) (l : List Int) (w : World) (hT : Arr w w.heap.size T (ints (p :: l))) (hc : l.length + 1 ≤ c) (hl : c ≤ 9223372036854775807) : Calls Tryz.prog 55 #[.agg (talV A cap L lcap b u0 u1 u2 u3 u4 u5 u6 u7 u8 T (l.length + 1) c Mb).toArray, .agg #[.func (.func 57) #[] #[]]] w fun e w' => e = .returned (.int .i64 (maxL p l)) ∧ Below w.heap.size w w' := by
 obtain ⟨bt, ot, rfl, hbt, hcl⟩ := hT (by simp [ints])
 have c0 := hcl 0 _ rfl
 have hA1 : Arr w w.heap.size (some ⟨bt, ot + 1, none⟩) (ints l) := fun _ => ⟨bt, ot + 1, rfl, hbt, fun j u hu => by
  have := hcl (j + 1) u (by simpa [ints] using hu)
  rwa [show ot + (j + 1) = ot + 1 + j by omega] at this⟩
 simp only [talV]
 refine enterE Tryz.func55 rfl Tryz.ntmps55 (by simp) (fun a hE => ?_); simp only [envOf, Nat.zero_add, Nat.reduceAdd] at hE
 refine Ks ?_
 refine Rs 3 fun Q' K hK => ?_
 refine M1 hE 0 fun K' J ρ q0 => ?_; go_simp
 refine Ln hE J fun _ Eb => ?_; clear J K' hE a q0
 refine M1 Eb 1 fun K' J ρ q1 => ?_; go_simp
 refine Ln Eb J fun _ Ea => ?_; clear J K' Eb q1
 refine M0 fun K' J ρ => ?_; go_simp;
 refine Ln Ea J fun _ Eb => ?_; clear J K' Ea
 refine Ld [2, 3] Eb hK fun a hE => ?_; clear hK K Q' Eb
 obtain ⟨B, hB⟩ : ∃ B, B = w.heap.size := ⟨_, rfl⟩
 obtain ⟨G, hG⟩ : ∃ B, B = w.heap.size + 1 := ⟨_, rfl⟩
 rw [← hG, ← hB] at hE
 refine world_cut (fun wt => Below w.heap.size w wt ∧ Cells wt B [.slice A b.ear.alike.length cap, .string b.ear.mute, .int .i64 b.ear.slips, .slice L b.lines.length lcap, .int .i64 b.lo, .int .i64 b.hi, .int .i64 b.lost, u0, u1, u2, u3, u4, u5, u6, u7, u8, .slice (some ⟨bt, ot, none⟩) (l.length + 1) c, .map (some Mb)] ∧ G < wt.heap.size ∧ Row wt G [.func (.func 57) #[] #[]]) (by rw [hB, hG]; exact box_row _ _ _ _ _) (fun w1 hC => ?_)
 obtain ⟨hbw1, hCB, hlG, hRG⟩ := hC
 have hCG := row_cells hRG hlG
 clear hB hG hRG
 have nB := hCB.1; have cB16 := hCB.2 16 _ rfl
 obtain ⟨nG, cG0⟩ := hCG.c1
 have c01 : w1.cell? ⟨bt, ot, none⟩ = some (.int .i64 p) := by
  have := (hbw1.cell (p := ⟨bt, ot + 0, none⟩) hbt).trans c0
  simpa using this
 have hbt1 : bt < w1.heap.size := Nat.lt_of_lt_of_le hbt hbw1.size
 have hA2 := (hA1.below hbw1).more hbw1.size
 have hci : (1 : Int) ≤ l.length + 1 := by omega
 clear c0 hcl hA1 hT
 by_cases hc1 : c = 1
 ·subst hc1
  obtain rfl : l = [] := List.eq_nil_of_length_eq_zero (by omega)
  simp only [List.length_nil, Nat.zero_add, Int.natCast_zero, Int.natCast_one] at *
  refine Ks ?_
  refine Rd [9, 10] (fun wt => Below w1.heap.size w1 wt) (fun w1 w2 => Below w1.heap.size w1 w2) [(0, some 5), (1, some 6), (2, some 7), (3, some 8), (4, some 9), (5, some 10), (6, some 11), (7, some 12), (8, some 13)] [5, 6, 7, 8, 9, 10, 11, 12, 13] #[true, true, true, true, true, true, true, true, true, false, false] [2, 4] hE ((Below.refl _ _).drew) fun Q' K hK => ?_
  refine SeqOps.val ?_ (Sp fun ax wx hS hT' hd K' J => ?_) ?_; rotate_left 1
  ·have r3 := hS.at 3 (by decide) (hE.at 3 rfl); obtain ⟨_, _, _, _, _, _⟩ := bT hT'
   refine o1 r3 fun ρ q3 => ?_; go_simp;
   exact Jo J hT'
  refine SeqOps.val ?_ (Sp fun ax wx hS hT' hd K' J => ?_) ?_; rotate_left 1
  ·have r5 := Tv hd 0 0 5; obtain ⟨_, _, _, _, _, _⟩ := bT hT'
   refine o1 r5 fun ρ q5 => ?_; go_simp;
   exact Jo J hT'
  refine SeqOps.val ?_ (Sp fun ax wx hS hT' hd K' J => ?_) ?_; rotate_left 1
  ·have r2 := hS.at 2 (by decide) (hE.at 2 rfl); obtain ⟨_, _, _, _, _, _⟩ := bT hT'
   refine o1 r2 fun ρ q2 => ?_; go_simp;
   exact Jo J hT'
  refine SeqOps.val ?_ (Sp fun ax wx hS hT' hd K' J => ?_) ?_; rotate_left 1
  ·have r7 := Tv hd 0 2 7; obtain ⟨_, _, _, _, _, _⟩ := bT hT'
   refine o1 r7 fun ρ q7 => ?_; go_simp;
   exact Jo J hT'
  refine SeqOps.val ?_ (Sp fun ax wx hS hT' hd K' J => ?_) ?_; rotate_left 1
  ·have r8 := Tv hd 0 3 8; obtain ⟨_, _, _, _, _, _⟩ := bT hT'
   refine o1 r8 fun ρ q8 => ?_; go_simp; (try go_bits);
   exact Jo J hT'
  refine SeqOps.val ?_ (Sp fun ax wx hS hT' hd K' J => ?_) ?_; rotate_left 1
  ·have r9 := Tv hd 0 4 9; obtain ⟨_, _, _, _, _, _⟩ := bT hT'
   refine o1 r9 fun ρ q9 => ?_; go_simp;
   exact Jo J hT'
  refine SeqOps.val ?_ (Sp fun ax wx hS hT' hd K' J => ?_) ?_; rotate_left 1
  ·have r2 := hS.at 2 (by decide) (hE.at 2 rfl); obtain ⟨_, _, _, _, _, _⟩ := bT hT'
   refine o1 r2 fun ρ q2 => ?_; go_simp;
   exact Jo J hT'
  refine SeqOps.val ?_ (Sp fun ax wx hS hT' hd K' J => ?_) ?_; rotate_left 1
  ·have r11 := Tv hd 0 6 11; obtain ⟨_, _, _, _, _, _⟩ := bT hT'
   refine o1 r11 fun ρ q11 => ?_; go_simp;
   exact Jo J hT'
  refine SeqOps.val ?_ (Sp fun ax wx hS hT' hd K' J => ?_) ?_; rotate_left 1
  ·have r12 := Tv hd 0 7 12; obtain ⟨_, _, _, _, _, _⟩ := bT hT'
   refine o1 r12 fun ρ q12 => ?_; go_simp; (try go_bits);
   exact Jo J hT'
  refine SeqOps.nil ?_
  intro w2 hBl; (repeat refine Ek ?_)
  refine fun ax hEx => ?_
  simp only [lk, pick, Nat.reduceEqDiff, ↓reduceIte] at hEx
  refine M3 hEx 6 10 13 fun K' J ρ q6 q10 q13 => ?_; go_simp; (try go_bits); (try clear q6 q10 q13)
  go_at_call 57; refine (greatest_any p _ _ [] _ (Arr.nil _ _ _) (by simp)).mono ?_; rintro e w3 ⟨rfl, rfl⟩
  (try clear r6 r10 r13)
  refine Ln hEx J fun _ Eb => ?_; clear J K' hEx
  refine M1 Eb 14 fun K' J ρ q14 => ?_; go_simp
  refine Ln Eb J fun _ Ea => ?_; clear J K' Eb q14
  refine Ld [2, 4] Ea hK fun a hE => ?_; clear hK K Q' Ea
  refine Ks ?_
  exact ret_one hE rfl rfl ⟨rfl, hbw1.trans (hBl.mono hbw1.size)⟩
 ·refine Ks ?_
  refine Rd [9, 10] (fun wt => Below w1.heap.size w1 wt) (fun w1 w2 => Below w1.heap.size w1 w2) [(0, some 5), (1, some 6), (2, some 7), (3, some 8), (4, some 9), (5, some 10), (6, some 11), (7, some 12), (8, some 13)] [5, 6, 7, 8, 9, 10, 11, 12, 13] #[true, true, true, true, true, true, true, true, true, false, false] [2, 4] hE ((Below.refl _ _).drew) fun Q' K hK => ?_
  refine SeqOps.val ?_ (Sp fun ax wx hS hT' hd K' J => ?_) ?_; rotate_left 1
  ·have r3 := hS.at 3 (by decide) (hE.at 3 rfl); obtain ⟨_, _, _, _, _, _⟩ := bT hT'
   refine o1 r3 fun ρ q3 => ?_; go_simp;
   exact Jo J hT'
  refine SeqOps.val ?_ (Sp fun ax wx hS hT' hd K' J => ?_) ?_; rotate_left 1
  ·have r5 := Tv hd 0 0 5; obtain ⟨_, _, _, _, _, _⟩ := bT hT'
   refine o1 r5 fun ρ q5 => ?_; go_simp;
   exact Jo J hT'
  refine SeqOps.val ?_ (Sp fun ax wx hS hT' hd K' J => ?_) ?_; rotate_left 1
  ·have r2 := hS.at 2 (by decide) (hE.at 2 rfl); obtain ⟨_, _, _, _, _, _⟩ := bT hT'
   refine o1 r2 fun ρ q2 => ?_; go_simp;
   exact Jo J hT'
  refine SeqOps.val ?_ (Sp fun ax wx hS hT' hd K' J => ?_) ?_; rotate_left 1
  ·have r7 := Tv hd 0 2 7; obtain ⟨_, _, _, _, _, _⟩ := bT hT'
   refine o1 r7 fun ρ q7 => ?_; go_simp;
   exact Jo J hT'
  refine SeqOps.val ?_ (Sp fun ax wx hS hT' hd K' J => ?_) ?_; rotate_left 1
  ·have r8 := Tv hd 0 3 8; obtain ⟨_, _, _, _, _, _⟩ := bT hT'
   refine o1 r8 fun ρ q8 => ?_; go_simp; (try go_bits);
   exact Jo J hT'
  refine SeqOps.val ?_ (Sp fun ax wx hS hT' hd K' J => ?_) ?_; rotate_left 1
  ·have r9 := Tv hd 0 4 9; obtain ⟨_, _, _, _, _, _⟩ := bT hT'
   refine o1 r9 fun ρ q9 => ?_; go_simp;
   exact Jo J hT'
  refine SeqOps.val ?_ (Sp fun ax wx hS hT' hd K' J => ?_) ?_; rotate_left 1
  ·have r2 := hS.at 2 (by decide) (hE.at 2 rfl); obtain ⟨_, _, _, _, _, _⟩ := bT hT'
   refine o1 r2 fun ρ q2 => ?_; go_simp;
   exact Jo J hT'
  refine SeqOps.val ?_ (Sp fun ax wx hS hT' hd K' J => ?_) ?_; rotate_left 1
  ·have r11 := Tv hd 0 6 11; obtain ⟨_, _, _, _, _, _⟩ := bT hT'
   refine o1 r11 fun ρ q11 => ?_; go_simp;
   exact Jo J hT'
  refine SeqOps.val ?_ (Sp fun ax wx hS hT' hd K' J => ?_) ?_; rotate_left 1
  ·have r12 := Tv hd 0 7 12; obtain ⟨_, _, _, _, _, _⟩ := bT hT'
   refine o1 r12 fun ρ q12 => ?_; go_simp; (try go_bits);
   exact Jo J hT'
  refine SeqOps.nil ?_
  intro w2 hBl; (repeat refine Ek ?_)
  refine fun ax hEx => ?_
  simp only [lk, pick, Nat.reduceEqDiff, ↓reduceIte] at hEx
  refine M3 hEx 6 10 13 fun K' J ρ q6 q10 q13 => ?_; go_simp; (try go_bits); (try clear q6 q10 q13)
  go_at_call 57; refine (greatest_any p _ _ l _ ((hA2.below hBl).more hBl.size) (by omega)).mono ?_; rintro e w3 ⟨rfl, rfl⟩
  (try clear r6 r10 r13)
  refine Ln hEx J fun _ Eb => ?_; clear J K' hEx
  refine M1 Eb 14 fun K' J ρ q14 => ?_; go_simp
  refine Ln Eb J fun _ Ea => ?_; clear J K' Eb q14
  refine Ld [2, 4] Ea hK fun a hE => ?_; clear hK K Q' Ea
  refine Ks ?_
  exact ret_one hE rfl rfl ⟨rfl, hbw1.trans (hBl.mono hbw1.size)⟩
end
end Go.Proofs.YtbimkcjdodgojaaGreat
