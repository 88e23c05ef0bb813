/- A statement that draws its order, in a round: what is shown of it outside rounds serves. Without conditions of its own. -/
import Derived.Test.YtbimkcjdodgojaaGreatKBNm
import Derived.RangeFuncNested
import Derived.RangeFuncBound
import Derived.RangeFuncCalls
import Derived.RangeFuncLeaves
import Derived.WalkKit
import Derived.Deep.RegionHeld
namespace Go.Proofs.YtbimkcjdodgojaaGreat
set_option linter.unusedSimpArgs false
set_option linter.unusedVariables false
open Go.RowKit
attribute [local go_sem high] cell_set_wr
attribute [local go_sem low] cell_wr frozen_wr
attribute [local go_sem] wr_set wr_drew wr_drewN wr_alloc wr_new Rho.c Rho.n Rho.g
def pCanR (b : Bk) (n m : Int) : Bool × Int := if b.ok then (if lineOfB b n 0 1 && lineOfB b m 0 1 then (canL b (b.at n) (b.at m), 0) else (false, 21)) else (false, 20)
theorem ok_minutes {b : Bk} (h : b.ok = true) : ∀ i (hi : i < b.lines.length), 0 ≤ b.lines[i].minute ∧ b.lines[i].minute ≤ 1439 := fun i hi => by
 unfold Bk.ok at h
 simp only [Bool.and_eq_true, List.all_eq_true] at h
 have := h.2.2 b.lines[i] (List.getElem_mem hi)
 unfold lineB at this
 simp only [Bool.and_eq_true, decide_eq_true_eq] at this
 exact this.1.2
theorem line_nat {b : Bk} {n f t : Int} (h : lineOfB b n f t = true) : ∃ k : Nat, n = k ∧ ∃ hk : k < b.lines.length, b.at n = b.lines[k] := by
 unfold lineOfB inLines at h
 simp only [Bool.and_eq_true, decide_eq_true_eq] at h
 obtain ⟨k, rfl⟩ : ∃ k : Nat, n = k := ⟨n.toNat, by omega⟩
 have hk : k < b.lines.length := by omega
 refine ⟨k, rfl, hk, ?_⟩
 unfold Bk.at
 rw [List.getD_eq_getElem?_getD]; simp [hk]
set_option maxRecDepth 100000 in
set_option maxHeartbeats 2000000 in
theorem pCan_any (A : Option Addr) (cap : Nat) (L : Option Addr) (lcap : Nat) (b : Bk) (n m : Int) (w : World) (hM : BkAt w A L b) (hs : b.small cap lcap) : Calls Tryz.prog 6 #[.agg (bkV A cap L lcap b).toArray, .int .i64 n, .int .i64 m] w fun e w' => e = .returned (.tuple #[.bool (pCanR b n m).1, .int .i64 (pCanR b n m).2]) ∧ Below w.heap.size w w' := by
 obtain ⟨q1, hq1⟩ : ∃ q, lineOfB b n 0 1 = q := ⟨_, rfl⟩
 obtain ⟨q2, hq2⟩ : ∃ q, lineOfB b m 0 1 = q := ⟨_, rfl⟩
 have HA := hid hq1
 have HB := hid hq2
 clear hq1 hq2
 have C1 : Hid (∀ W, BkAt W A L b → Calls Tryz.prog 28 #[.agg (bkV A cap L lcap b).toArray, .int .i64 n, .int .i64 0, .int .i64 1] W fun e w' => e = .returned (.bool q1) ∧ Below W.heap.size W w') := hid fun W hW => by
  have := isLineOf_any A cap L lcap b n 0 1 W hW hs
  rw [HA.out] at this; exact this
 have C2 : Hid (∀ W, BkAt W A L b → Calls Tryz.prog 28 #[.agg (bkV A cap L lcap b).toArray, .int .i64 m, .int .i64 0, .int .i64 1] W fun e w' => e = .returned (.bool q2) ∧ Below W.heap.size W w') := hid fun W hW => by
  have := isLineOf_any A cap L lcap b m 0 1 W hW hs
  rw [HB.out] at this; exact this
 have C3 : Hid (∀ W v, BkAt W A L b → Calls Tryz.prog 27 #[.agg (bkV A cap L lcap b).toArray, .bool v] W fun e w' => e = .returned (.int .i64 (refE b v)) ∧ Below W.heap.size W w') := hid fun W v hW => refuse_any A cap L lcap b v W hW hs
 simp only [bkV] at C1 C2 C3 ⊢
 refine enterE Tryz.func6 rfl Tryz.ntmps6 (by simp) (fun a hE => ?_); simp only [envOf, Nat.zero_add, Nat.reduceAdd] at hE
 refine Ks ?_
 refine Rs 3 fun Q' K hK => ?_
 refine M1 hE 0 fun K' J ρ q0 => ?_; go_simp
 refine Ln hE J fun _ Eb => ?_; clear J K' hE a q0
 refine M0 fun K' J ρ => ?_; go_simp;
 refine Ln Eb J fun _ Ea => ?_; clear J K' Eb
 refine M0 fun K' J ρ => ?_; go_simp;
 refine Ln Ea J fun _ Eb => ?_; clear J K' Ea
 refine Ld [1, 2, 3] Eb hK fun a hE => ?_; clear hK K Q' Eb
 obtain ⟨B, hBe⟩ : ∃ B, B = w.heap.size := ⟨_, rfl⟩; rw [← hBe] at hE; refine world_cut (fun wt => Below w.heap.size w wt ∧ Cells wt B (bkV A cap L lcap b)) ⟨(Below.refl _ _).alloc (Nat.le_refl _) _, by rw [hBe]; exact cells_new _ _ _⟩ (fun w1 hCut => ?_); obtain ⟨hbw1, hCB⟩ := hCut; clear hBe
 have hM1 := hM.below hbw1
 simp only [bkV] at hCB
 obtain ⟨nB, cB0, cB1, cB2, cB3, cB4, cB5, cB6⟩ := hCB.c7
 refine Ks ?_
 cases hqv : q1
 ·have HV := hid hqv
  clear hqv
  refine Rd [] (fun wt => Below w1.heap.size w1 wt) (fun w1 w2 => Below w1.heap.size w1 w2) [(0, some 9), (1, some 10), (2, some 11), (3, some 12), (4, some 13), (5, some 14), (6, some 15), (7, some 16), (8, some 17), (9, some 18), (10, some 8)] [9, 10, 11, 12, 13, 14, 15, 16, 17, 18, 8] #[true, true, true, true, true, true, true, true, true, true, true] [1, 2, 3] hE ((Below.refl _ _).drew) fun Q' K hK => ?_
  refine SeqOps.val ?_ (Sp fun ax wx hS hT' hd K' J => ?_) ?_; rotate_left 1
  ·have r3 := hS.at 3 (by decide) (hE.at 3 rfl); obtain ⟨_, _, _, _, _, _⟩ := bT hT'
   refine o1 r3 fun ρ q3 => ?_; go_simp;
   exact Jo J hT'
  refine SeqOps.val ?_ (Sp fun ax wx hS hT' hd K' J => ?_) ?_; rotate_left 1
  ·have r3 := hS.at 3 (by decide) (hE.at 3 rfl); obtain ⟨_, _, _, _, _, _⟩ := bT hT'
   refine o1 r3 fun ρ q3 => ?_; go_simp;
   exact Jo J hT'
  refine SeqOps.val ?_ (Sp fun ax wx hS hT' hd K' J => ?_) ?_; rotate_left 1
  ·have r1 := hS.at 1 (by decide) (hE.at 1 rfl); obtain ⟨_, _, _, _, _, _⟩ := bT hT'
   refine o1 r1 fun ρ q1 => ?_; go_simp;
   exact Jo J hT'
  refine SeqOps.val ?_ (Sp fun ax wx hS hT' hd K' J => ?_) ?_; rotate_left 1
  ·have r10 := Tv hd 1 1 10; have r11 := Tv hd 0 2 11; obtain ⟨_, _, _, _, _, _⟩ := bT hT'
   refine o2 r10 r11 fun ρ q10 q11 => ?_; go_simp; (try go_bits);
   go_at_call 28; refine (C1.out _ (hM1.below hT')).mono ?_; rw [HV.out]; rintro e g1 ⟨rfl, k1⟩
   refine J.out _ _ _ rfl ?_ (hT'.trans (k1.mono hT'.size)) k1; rfl
  refine SeqOps.val ?_ (Sp fun ax wx hS hT' hd K' J => ?_) ?_; rotate_left 1
  ·have r12 := Tv hd 0 3 12; obtain ⟨_, _, _, _, _, _⟩ := bT hT'
   refine o1 r12 fun ρ q12 => ?_; go_simp;
   exact Jo J hT'
  refine SeqOps.val _ (StepOk.no (by (first | (simp only [List.getElem?_toArray, List.getElem?_cons_succ, List.getElem?_cons_zero]; rfl) | rfl)) rfl (e := 13) 0 rfl rfl (by kernel_rfl) (by kernel_rfl) (fun w => Below.refl _ _)) ?_
  refine SeqOps.val _ (StepOk.no (by (first | (simp only [List.getElem?_toArray, List.getElem?_cons_succ, List.getElem?_cons_zero]; rfl) | rfl)) rfl (e := 13) 1 rfl rfl (by kernel_rfl) (by kernel_rfl) (fun w => Below.refl _ _)) ?_
  refine SeqOps.val _ (StepOk.no (by (first | (simp only [List.getElem?_toArray, List.getElem?_cons_succ, List.getElem?_cons_zero]; rfl) | rfl)) rfl (e := 13) 2 rfl rfl (by kernel_rfl) (by kernel_rfl) (fun w => Below.refl _ _)) ?_
  refine SeqOps.val ?_ (Sp fun ax wx hS hT' hd K' J => ?_) ?_; rotate_left 1
  ·have r13 := Tv hd 3 4 13; have r16 := Tv hd 0 7 16; obtain ⟨_, _, _, _, _, _⟩ := bT hT'
   refine o2 r13 r16 fun ρ q13 q16 => ?_; go_simp; (try go_bits);
   exact Jo J hT'
  refine SeqOps.val ?_ (Sp fun ax wx hS hT' hd K' J => ?_) ?_; rotate_left 1
  ·have r9 := Tv hd 8 0 9; have r17 := Tv hd 0 8 17; obtain ⟨_, _, _, _, _, _⟩ := bT hT'
   refine o2 r9 r17 fun ρ q9 q17 => ?_; go_simp; (try go_bits);
   go_at_call 27; refine (C3.out _ _ (hM1.below hT')).mono ?_; rintro e g1 ⟨rfl, k1⟩
   refine J.out _ _ _ rfl ?_ (hT'.trans (k1.mono hT'.size)) k1; rfl
  refine SeqOps.val ?_ (Sp fun ax wx hS hT' hd K' J => ?_) ?_; rotate_left 1
  ·have r18 := Tv hd 0 9 18; obtain ⟨_, _, _, _, _, _⟩ := bT hT'
   refine o1 r18 fun ρ q18 => ?_; go_simp;
   exact Jo J hT'
  refine SeqOps.nil ?_
  intro w2 hBl; (repeat refine Ek ?_)
  refine fun ax hEx => ?_
  simp only [lk, pick, Nat.reduceEqDiff, ↓reduceIte] at hEx
  refine Ld [1, 2, 3, 8] hEx hK fun a hE => ?_; clear hK K Q' hEx
  have hb2 := hbw1.trans (hBl.mono hbw1.size)
  have HR : Hid (refE b false = if b.ok then 21 else 20) := hid rfl
  have hne : ¬ refE b false = 0 := by rw [HR.out]; split <;> decide
  refine Ks ?_
  refine Rs 2 fun Q' K hK => ?_
  refine M1 hE 8 fun K' J ρ q8 => ?_; go_simp
  refine Ln hE J fun _ Eb => ?_; clear J K' hE a q8
  refine M1 Eb 19 fun K' J ρ q19 => ?_; go_simp; (try go_bits)
  refine Ln Eb J fun _ Ea => ?_; clear J K' Eb q19
  refine Ld [8, 20] Ea hK fun a hE => ?_; clear hK K Q' Ea
  replace hE := hE.turn 20 (v' := .bool true) rfl (by simp [hne])
  refine Ks ?_
  refine cond_yes hE (t := 20) rfl ?_
  refine Ks ?_
  refine Rs 3 fun Q' K hK => ?_
  refine M1 hE 8 fun K' J ρ q8 => ?_; go_simp
  refine Ln hE J fun _ Eb => ?_; clear J K' hE a q8
  refine M0 fun K' J ρ => ?_; go_simp;
  refine Ln Eb J fun _ Ea => ?_; clear J K' Eb
  refine M1 Ea 21 fun K' J ρ q21 => ?_; go_simp
  refine Ln Ea J fun _ Eb => ?_; clear J K' Ea q21
  refine Ld [6, 7] Eb hK fun a hE => ?_; clear hK K Q' Eb
  refine Ks ?_
  refine ret_two hE rfl rfl rfl ⟨?_, hb2⟩
  unfold pCanR
  rw [HA.out, HV.out, HR.out]
  cases b.ok <;> rfl
 ·have HV := hid hqv
  clear hqv
  refine Rd [] (fun wt => Below w1.heap.size w1 wt) (fun w1 w2 => Below w1.heap.size w1 w2) [(0, some 9), (1, some 10), (2, some 11), (3, some 12), (4, some 13), (5, some 14), (6, some 15), (7, some 16), (8, some 17), (9, some 18), (10, some 8)] [9, 10, 11, 12, 13, 14, 15, 16, 17, 18, 8] #[true, true, true, true, true, true, true, true, true, true, true] [1, 2, 3] hE ((Below.refl _ _).drew) fun Q' K hK => ?_
  refine SeqOps.val ?_ (Sp fun ax wx hS hT' hd K' J => ?_) ?_; rotate_left 1
  ·have r3 := hS.at 3 (by decide) (hE.at 3 rfl); obtain ⟨_, _, _, _, _, _⟩ := bT hT'
   refine o1 r3 fun ρ q3 => ?_; go_simp;
   exact Jo J hT'
  refine SeqOps.val ?_ (Sp fun ax wx hS hT' hd K' J => ?_) ?_; rotate_left 1
  ·have r3 := hS.at 3 (by decide) (hE.at 3 rfl); obtain ⟨_, _, _, _, _, _⟩ := bT hT'
   refine o1 r3 fun ρ q3 => ?_; go_simp;
   exact Jo J hT'
  refine SeqOps.val ?_ (Sp fun ax wx hS hT' hd K' J => ?_) ?_; rotate_left 1
  ·have r1 := hS.at 1 (by decide) (hE.at 1 rfl); obtain ⟨_, _, _, _, _, _⟩ := bT hT'
   refine o1 r1 fun ρ q1 => ?_; go_simp;
   exact Jo J hT'
  refine SeqOps.val ?_ (Sp fun ax wx hS hT' hd K' J => ?_) ?_; rotate_left 1
  ·have r10 := Tv hd 1 1 10; have r11 := Tv hd 0 2 11; obtain ⟨_, _, _, _, _, _⟩ := bT hT'
   refine o2 r10 r11 fun ρ q10 q11 => ?_; go_simp; (try go_bits);
   go_at_call 28; refine (C1.out _ (hM1.below hT')).mono ?_; rw [HV.out]; rintro e g1 ⟨rfl, k1⟩
   refine J.out _ _ _ rfl ?_ (hT'.trans (k1.mono hT'.size)) k1; rfl
  refine SeqOps.val ?_ (Sp fun ax wx hS hT' hd K' J => ?_) ?_; rotate_left 1
  ·have r12 := Tv hd 0 3 12; obtain ⟨_, _, _, _, _, _⟩ := bT hT'
   refine o1 r12 fun ρ q12 => ?_; go_simp;
   exact Jo J hT'
  refine SeqOps.val ?_ (Sy 0 13 fun ax wx hS hT' hd K' J => ?_) ?_; rotate_left 1
  ·have r3 := hS.at 3 (by decide) (hE.at 3 rfl); obtain ⟨_, _, _, _, _, _⟩ := bT hT'
   refine o1 r3 fun ρ q3 => ?_; go_simp;
   exact Jo J hT'
  refine SeqOps.val ?_ (Sy 1 13 fun ax wx hS hT' hd K' J => ?_) ?_; rotate_left 1
  ·have r2 := hS.at 2 (by decide) (hE.at 2 rfl); obtain ⟨_, _, _, _, _, _⟩ := bT hT'
   refine o1 r2 fun ρ q2 => ?_; go_simp;
   exact Jo J hT'
  refine SeqOps.val ?_ (Sy 2 13 fun ax wx hS hT' hd K' J => ?_) ?_; rotate_left 1
  ·have r14 := Tv hd 1 5 14; have r15 := Tv hd 0 6 15; obtain ⟨_, _, _, _, _, _⟩ := bT hT'
   refine o2 r14 r15 fun ρ q14 q15 => ?_; go_simp; (try go_bits);
   go_at_call 28; refine (C2.out _ (hM1.below hT')).mono ?_; rintro e g1 ⟨rfl, k1⟩
   refine J.out _ _ _ rfl ?_ (hT'.trans (k1.mono hT'.size)) k1; rfl
  refine SeqOps.val ?_ (Sp fun ax wx hS hT' hd K' J => ?_) ?_; rotate_left 1
  ·have r13 := Tv hd 3 4 13; have r16 := Tv hd 0 7 16; obtain ⟨_, _, _, _, _, _⟩ := bT hT'
   refine o2 r13 r16 fun ρ q13 q16 => ?_; go_simp; (try go_bits);
   exact Jo J hT'
  refine SeqOps.val ?_ (Sp fun ax wx hS hT' hd K' J => ?_) ?_; rotate_left 1
  ·have r9 := Tv hd 8 0 9; have r17 := Tv hd 0 8 17; obtain ⟨_, _, _, _, _, _⟩ := bT hT'
   refine o2 r9 r17 fun ρ q9 q17 => ?_; go_simp; (try go_bits);
   go_at_call 27; refine (C3.out _ _ (hM1.below hT')).mono ?_; rintro e g1 ⟨rfl, k1⟩
   refine J.out _ _ _ rfl ?_ (hT'.trans (k1.mono hT'.size)) k1; rfl
  refine SeqOps.val ?_ (Sp fun ax wx hS hT' hd K' J => ?_) ?_; rotate_left 1
  ·have r18 := Tv hd 0 9 18; obtain ⟨_, _, _, _, _, _⟩ := bT hT'
   refine o1 r18 fun ρ q18 => ?_; go_simp;
   exact Jo J hT'
  refine SeqOps.nil ?_
  intro w2 hBl; (repeat refine Ek ?_)
  refine fun ax hEx => ?_
  simp only [lk, pick, Nat.reduceEqDiff, ↓reduceIte] at hEx
  refine Ld [1, 2, 3, 8] hEx hK fun a hE => ?_; clear hK K Q' hEx
  have hb2 := hbw1.trans (hBl.mono hbw1.size)
  obtain ⟨r, hr⟩ : ∃ r, refE b q2 = r := ⟨_, rfl⟩
  rw [hr] at hE
  have HR := hid hr
  clear hr
  replace hCB := hCB.below hBl
  clear nB cB0 cB1 cB2 cB3 cB4 cB5 cB6 C1 C2 C3
  obtain ⟨nB, cB0, cB1, cB2, cB3, cB4, cB5, cB6⟩ := hCB.c7
  refine Ks ?_
  by_cases hr0 : r = 0
  ·subst hr0
   refine Rs 2 fun Q' K hK => ?_
   refine M1 hE 8 fun K' J ρ q8 => ?_; go_simp
   refine Ln hE J fun _ Eb => ?_; clear J K' hE a q8
   refine M1 Eb 19 fun K' J ρ q19 => ?_; go_simp; (try go_bits)
   refine Ln Eb J fun _ Ea => ?_; clear J K' Eb q19
   refine Ld [1, 2, 3, 20] Ea hK fun a hE => ?_; clear hK K Q' Ea
   refine Ks ?_
   refine cond_no hE (t := 20) rfl ?_
   have hok : b.ok = true ∧ q2 = true := by
    have := HR.out
    unfold refE at this
    revert this
    cases b.ok <;> cases q2 <;> decide
   obtain ⟨x, rfl, hx, hx'⟩ := line_nat (HA.out.trans HV.out)
   obtain ⟨y, rfl, hy, hy'⟩ := line_nat (HB.out.trans hok.2)
   have hP : pCanR b x y = (canL b b.lines[x] b.lines[y], 0) := by
    unfold pCanR
    rw [hok.1, HA.out, HB.out, HV.out, hok.2, hx', hy']; rfl
   have HP := hid hP
   clear hP hx' hy'
   have HC := hid (can_any A cap L lcap b (.slice none 0 0) (.slice none 0 0) (.slice none 0 0) (.slice none 0 0) (.slice none 0 0) (.slice none 0 0) (.slice none 0 0) (.slice none 0 0) (.slice none 0 0) x y w2 (hM.below hb2) hs hx hy (ok_minutes hok.1))
   simp only [bksV] at HC
   clear hok
   refine Ks ?_
   refine Rs 7 fun Q' K hK => ?_
   refine M1 hE 3 fun K' J ρ q3 => ?_; go_simp
   refine Ln hE J fun _ Eb => ?_; clear J K' hE a q3
   refine M1 Eb 22 fun K' J ρ q22 => ?_; go_simp
   refine Ln Eb J fun _ Ea => ?_; clear J K' Eb q22
   refine M1 Ea 1 fun K' J ρ q1 => ?_; go_simp
   refine Ln Ea J fun _ Eb => ?_; clear J K' Ea q1
   refine M1 Eb 2 fun K' J ρ q2 => ?_; go_simp
   refine Ln Eb J fun _ Ea => ?_; clear J K' Eb q2
   refine M3 Ea 23 24 25 fun K' J ρ q23 q24 q25 => ?_; go_simp; (try go_bits); (try clear q23 q24 q25)
   go_at_call 29; refine (HC.out).mono ?_; rintro e w3 ⟨rfl, h3⟩
   (try clear r23 r24 r25)
   refine Ln Ea J fun _ Eb => ?_; clear J K' Ea
   refine M1 Eb 26 fun K' J ρ q26 => ?_; go_simp
   refine Ln Eb J fun _ Ea => ?_; clear J K' Eb q26
   refine M0 fun K' J ρ => ?_; go_simp;
   refine Ln Ea J fun _ Eb => ?_; clear J K' Ea
   refine Ld [6, 7] Eb hK fun a hE => ?_; clear hK K Q' Eb
   refine Ks ?_
   refine ret_two hE rfl rfl rfl ⟨?_, hb2.trans (h3.mono hb2.size)⟩
   rw [HP.out]
  ·skip
   refine Rs 2 fun Q' K hK => ?_
   refine M1 hE 8 fun K' J ρ q8 => ?_; go_simp
   refine Ln hE J fun _ Eb => ?_; clear J K' hE a q8
   refine M1 Eb 19 fun K' J ρ q19 => ?_; go_simp; (try go_bits)
   refine Ln Eb J fun _ Ea => ?_; clear J K' Eb q19
   refine Ld [1, 2, 3, 8, 20] Ea hK fun a hE => ?_; clear hK K Q' Ea
   replace hE := hE.turn 20 (v' := .bool true) rfl (by simp [hr0])
   refine Ks ?_
   refine cond_yes hE (t := 20) rfl ?_
   refine Ks ?_
   refine Rs 3 fun Q' K hK => ?_
   refine M1 hE 8 fun K' J ρ q8 => ?_; go_simp
   refine Ln hE J fun _ Eb => ?_; clear J K' hE a q8
   refine M0 fun K' J ρ => ?_; go_simp;
   refine Ln Eb J fun _ Ea => ?_; clear J K' Eb
   refine M1 Ea 21 fun K' J ρ q21 => ?_; go_simp
   refine Ln Ea J fun _ Eb => ?_; clear J K' Ea q21
   refine Ld [6, 7] Eb hK fun a hE => ?_; clear hK K Q' Eb
   refine Ks ?_
   refine ret_two hE rfl rfl rfl ⟨?_, hb2⟩
   have hr := HR.out
   unfold refE at hr
   unfold pCanR
   rw [HA.out, HB.out, HV.out]
   subst hr
   revert hr0
   cases b.ok <;> cases q2 <;> simp
end Go.Proofs.YtbimkcjdodgojaaGreat
namespace Go.Proofs.YtbimkcjdodgojaaGreat
set_option linter.unusedSimpArgs false
set_option linter.unusedVariables false
open Go Go.RowKit
/-- From block c on all that lay there lies as it lay. -/
structure Mid (c : Nat) (W V : World) : Prop where
  size : W.heap.size ≤ V.heap.size
  block : ∀ k, c ≤ k → k < W.heap.size → V.heap[k]? = W.heap[k]?
/-- The same, but for one block. -/
structure MidBut (c l : Nat) (W V : World) : Prop where
  size : W.heap.size ≤ V.heap.size
  block : ∀ k, c ≤ k → k < W.heap.size → k ≠ l → V.heap[k]? = W.heap[k]?
theorem Mid.refl (c : Nat) (W : World) : Mid c W W := ⟨Nat.le_refl _, fun _ _ _ => rfl⟩
theorem Mid.trans {c : Nat} {A B C : World} (h : Mid c A B) (k : Mid c B C) : Mid c A C :=
  ⟨Nat.le_trans h.size k.size, fun i hi hA => (k.block i hi (Nat.lt_of_lt_of_le hA h.size)).trans (h.block i hi hA)⟩
theorem Mid.mono {c c' : Nat} {A B : World} (h : Mid c A B) (hc : c ≤ c') : Mid c' A B := ⟨h.size, fun i hi hA => h.block i (Nat.le_trans hc hi) hA⟩
theorem Mid.of_below {c : Nat} {A B : World} (h : Below A.heap.size A B) : Mid c A B := ⟨h.size, fun i _ hA => h.block i hA⟩
theorem Mid.alloc {c : Nat} {A B : World} (h : Mid c A B) (o : Obj) : Mid c A (B.alloc o) :=
  h.trans ⟨by simp, fun i _ hB => Below.heap_alloc _ _ _ hB⟩
theorem Mid.below {c : Nat} {A B C : World} (h : Mid c A B) (k : Below B.heap.size B C) : Mid c A C := h.trans (.of_below k)
theorem Mid.set {c : Nat} {A B : World} (h : Mid c A B) (b o : Nat) (u : Value) (hb : b < c ∨ A.heap.size ≤ b) : Mid c A (B.setCell ⟨b, o, none⟩ u) :=
  ⟨by simpa [World.setCell] using h.size, fun i hi hA => (Below.heap_setCell _ _ _ _ (by show i ≠ b; omega)).trans (h.block i hi hA)⟩
theorem Mid.cell {c : Nat} {A B : World} (h : Mid c A B) {p : Addr} (h1 : c ≤ p.block) (h2 : p.block < A.heap.size) : B.cell? p = A.cell? p :=
  World.cell?_of_block (w := A) (h.block _ h1 h2)
theorem Mid.frozen {c : Nat} {A B : World} (h : Mid c A B) {p : Addr} (h1 : c ≤ p.block) (h2 : p.block < A.heap.size) : B.frozen? p = A.frozen? p :=
  World.frozen?_of_block (w := A) (h.block _ h1 h2)
theorem Mid.but {c : Nat} {A B : World} (h : Mid c A B) (l : Nat) : MidBut c l A B := ⟨h.size, fun i hi hA _ => h.block i hi hA⟩
theorem MidBut.trans {c l : Nat} {A B C : World} (h : MidBut c l A B) (k : MidBut c l B C) : MidBut c l A C :=
  ⟨Nat.le_trans h.size k.size, fun i hi hA hl => (k.block i hi (Nat.lt_of_lt_of_le hA h.size) hl).trans (h.block i hi hA hl)⟩
theorem MidBut.put {c l : Nat} {A B : World} (h : MidBut c l A B) (o : Obj) : MidBut c l A (B.putObj l o) :=
  ⟨by simpa using h.size, fun i hi hA hl => (World.putObj_heap_other hl).trans (h.block i hi hA hl)⟩
theorem MidBut.cell {c l : Nat} {A B : World} (h : MidBut c l A B) {p : Addr} (h1 : c ≤ p.block) (h2 : p.block < A.heap.size) (h3 : p.block ≠ l) : B.cell? p = A.cell? p :=
  World.cell?_of_block (w := A) (h.block _ h1 h2 h3)
theorem MidBut.frozen {c l : Nat} {A B : World} (h : MidBut c l A B) {p : Addr} (h1 : c ≤ p.block) (h2 : p.block < A.heap.size) (h3 : p.block ≠ l) : B.frozen? p = A.frozen? p :=
  World.frozen?_of_block (w := A) (h.block _ h1 h2 h3)
/-- J speaks of blocks below B alone. -/
def Up {β : Type} (B : Nat) (J : β → World → Prop) : Prop := ∀ s A C, J s A → Below B A C → J s C
theorem Up.mono {β : Type} {B B' : Nat} {J : β → World → Prop} (h : Up B J) (hB : B ≤ B') : Up B' J := fun s A C hs hb => h s A C hs (hb.mono hB)
theorem Up.and {β : Type} {B : Nat} {J K : β → World → Prop} (h : Up B J) (k : Up B K) : Up B (fun s W => J s W ∧ K s W) := fun s A C hs hb => ⟨h s A C hs.1 hb, k s A C hs.2 hb⟩
theorem Up.below {β : Type} {B n : Nat} {w : World} (hn : n ≤ B) : Up B (fun (_ : β) W => Below n w W) := fun _ _ _ hs hb => hs.trans (hb.mono hn)
theorem Up.cell {β : Type} {B b o : Nat} {f : β → Value} (hn : b < B) : Up B (fun s W => W.cell? ⟨b, o, none⟩ = some (f s)) := fun _ _ _ hs hb => (hb.cell (p := ⟨b, o, none⟩) hn).trans hs
theorem Up.frozen {β : Type} {B b o : Nat} {v : Bool} (hn : b < B) : Up B (fun (_ : β) W => W.frozen? ⟨b, o, none⟩ = v) := fun _ _ _ hs hb => (hb.frozen (p := ⟨b, o, none⟩) hn).trans hs
/-- A call of yield, whatever room there is. -/
def YieldW (P : Program) (l : Nat) (args : Array Value) (W : World) (R : Ending → World → Prop) : Prop :=
  ∃ fn tmps assign body, (Instr.yield l args).run P W = .ok (.round l fn tmps assign body) W ∧ ∀ m, RoundIn Fence.wide m P l fn tmps assign body W R
theorem YieldW.mono {P : Program} {l : Nat} {args : Array Value} {W : World} {R R' : Ending → World → Prop} (h : YieldW P l args W R) (hr : ∀ e w, R e w → R' e w) : YieldW P l args W R' := by
  obtain ⟨fn, tmps, assign, body, hy, hR⟩ := h
  exact ⟨fn, tmps, assign, body, hy, fun m => (hR m).mono hr⟩
/-- no operation is a defer -/
def noDefer (ops : Array Oper) : Bool := ops.toList.all fun o => match o.op with
  | .defer _ => false
  | _ => true
theorem noDefer_at {ops : Array Oper} (h : noDefer ops = true) {i : Nat} {o : Oper} (ho : ops[i]? = some o) : ∀ c, o.op ≠ .defer c := by
  intro c e
  unfold noDefer at h
  rw [List.all_eq_true] at h
  have hm : o ∈ ops.toList := by
    have := Array.mem_of_getElem? ho
    simpa using this
  have := h o hm
  rw [e] at this
  cases this
theorem opIn_of_op {P : Program} {l n : Nat} {o : Oper} {a : Act} {w : World} {next next' : Act → World → Prop} {Q : Exit → Act → World → Prop}
    (hs : ∀ c, o.op ≠ .defer c) (hn : ∀ a w, next a w → next' a w) (h : o.wp P a w next Q) : o.wpIn (Fence.wide.inRound l) n P a w next' Q := by
  unfold Oper.wp at h
  refine ⟨fun _ _ => trivial, ?_⟩
  rw [Oper.semAt_eq _ _ _ hs]
  generalize (execOp a.eval o).run P w = r at *
  unfold Oper.upon at h
  unfold Oper.uponIn
  split at h
  · exact hn _ _ h
  · exact hn _ _ h
  · exact hn _ _ h
  · refine ⟨fun e => by simp [Fence.wide, Fence.inRound] at e, ?_⟩
    refine CallsIn.inRound l (callsIn_wide.2 (Calls.mono h ?_))
    intro e w'' he
    cases e with
    | returned v => exact hn _ _ he
    | panicked c => exact he
    | outgrown => exact he
  · refine ⟨fun e => by simp [Fence.wide, Fence.inRound] at e, ?_⟩
    have hr : RowsIn Fence.wide (n - 1) P _ _ _ _ := fun c cs _ => by
      obtain ⟨v, w', hv, hst⟩ := h c cs
      exact ⟨v, w', hn _ _ hv, stepsIn_wide.2 hst⟩
    exact hr
  · exact h
  · exact h.elim
theorem opsIn_of_ops {P : Program} {l n : Nat} {ops : Array Oper} {Q : Exit → Act → World → Prop} (hd : noDefer ops = true) (hL : ¬ LetsOut Q) :
    ∀ (is : List Nat) (a : Act) (w : World), wpOps P ops Q is a w → wpOpsIn (Fence.wide.inRound l) n P ops Q is a w := by
  intro is
  induction is with
  | nil => intro a w h; exact h
  | cons i is ih =>
    intro a w h
    unfold wpOps at h
    unfold wpOpsIn
    cases ho : ops[i]? with
    | none => rw [ho] at h; exact ih _ _ h
    | some o =>
      rw [ho] at h
      simp only at h ⊢
      split
      · rename_i hw
        rw [if_pos hw] at h
        rcases h with h | ⟨_, h⟩
        · exact opIn_of_op (noDefer_at hd ho) (fun a w h => ih a w h) h
        · exact absurd h hL
      · rename_i hw
        rw [if_neg hw] at h
        exact ⟨fun _ _ => trivial, ih _ _ h⟩
variable {P : Program} {ops : Array Oper} {Q : Exit → Act → World → Prop} {S : World → Prop}
theorem wpIn_region_any {l n id : Nat} {a : Act} {w : World} (hd : noDefer ops = true) (hL : ¬ LetsOut Q) (hm : P.follows .mixedOrders = true)
    (h : wpAny P .any ops Q ops.size (Array.replicate ops.size false) a w.drew) : (Code.region id ops true).wpIn (Fence.wide.inRound l) n P Q a w :=
  wpIn_region_draw fun t => opsIn_of_ops hd hL _ _ _ (by
    simp only [Region.schedule, hm, Bool.true_or, if_true]
    exact wpAny_sound ops.size t _ a _ h)
end Go.Proofs.YtbimkcjdodgojaaGreat
