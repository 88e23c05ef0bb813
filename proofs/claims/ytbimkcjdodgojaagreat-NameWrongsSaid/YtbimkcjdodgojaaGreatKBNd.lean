/- Name: ears. -/
import Derived.Test.YtbimkcjdodgojaaGreatKBG
import Derived.Test.YtbimkcjdodgojaaGreatKBF
import Derived.Test.YtbimkcjdodgojaaGreatKBNs
import Derived.Lib.IndexLaws
namespace Go.Proofs.YtbimkcjdodgojaaGreat
set_option linter.unusedSimpArgs false
set_option linter.unusedVariables false
open Go.RowKit
attribute [local go_sem high] cell_set_wr
attribute [local go_sem low] cell_wr frozen_wr
attribute [local go_sem] wr_set wr_drew wr_drewN wr_alloc wr_new Rho.c Rho.n Rho.g
theorem isLetter_any (c : UInt8) (w : World) : Calls Tryz.prog 90 #[.int .u8 c.toNat] w fun e w' => e = .returned (.bool (decide (97 ≤ (c.toNat : Int)) && decide ((c.toNat : Int) ≤ 122))) ∧ w = w' := by
 by_cases h : 97 ≤ (c.toNat : Int)
 all_goals
  go_enter Tryz.func90, Tryz.ntmps90
  go_wp2
  go_ret
  exact ⟨ret_bool (by first | (simp [h]; done) | (simp; omega)), rfl⟩
def letterB (c : UInt8) : Bool := decide (97 ≤ (c.toNat : Int)) && decide ((c.toNat : Int) ≤ 122)
/-- the letter at a place is one, and stands nowhere before -/
def newB (l : List UInt8) (i : Nat) : Bool := letterB (l.getD i 0) && decide (Lib.indexByte (l.take i) (l.getD i 0) < 0)
def lettersB (l : List UInt8) : Bool := (List.range l.length).all (newB l)
set_option maxRecDepth 100000 in
theorem areLetters_any (s : ByteArray) (w : World) (hs : s.size ≤ 9223372036854775807) : Calls Tryz.prog 68 #[.string s] w fun e w' => e = .returned (.bool (lettersB s.data.toList)) ∧ Below w.heap.size w w' := by
 refine enterE Tryz.func68 rfl Tryz.ntmps68 (by simp) (fun a hE => ?_); simp only [envOf, Nat.zero_add, Nat.reduceAdd] at hE
 refine Ks ?_
 refine Rs 1 fun Q' K hK => ?_
 refine M0 fun K' J ρ => ?_; go_simp;
 refine Ln hE J fun _ Eb => ?_; clear J K' hE a
 refine Ld [0] Eb hK fun a hE => ?_; clear hK K Q' Eb
 refine Ks ?_
 refine Rs 3 fun Q' K hK => ?_
 refine M1 hE 0 fun K' J ρ q0 => ?_; go_simp
 refine Ln hE J fun _ Eb => ?_; clear J K' hE a q0
 refine M1 Eb 4 fun K' J ρ q4 => ?_; go_simp; (try go_bits)
 refine Ln Eb J fun _ Ea => ?_; clear J K' Eb q4
 refine M0 fun K' J ρ => ?_; go_simp;
 refine Ln Ea J fun _ Eb => ?_; clear J K' Ea
 refine Ld [0, 5, 6] Eb hK fun a hE => ?_; clear hK K Q' Eb
 refine Ks ?_
 refine loop_st (fun (k : Nat) a w' => k ≤ s.size ∧ Fits 25 [(0, .string s), (5, .int .i64 s.size), (6, .int .i64 k)] a ∧ Below w.heap.size w w' ∧ ∀ i, i < k → newB s.data.toList i = true) (fun k => s.size - k) 0 ?_ (fun k a w' hI => ?_)
 ·exact ⟨Nat.zero_le _, by simpa using hE, Below.refl _ _, fun i hi => absurd hi (Nat.not_lt_zero i)⟩
 obtain ⟨hk, hE, hB, hN⟩ := hI
 have HN := hid hN
 clear hN
 refine Ks ?_
 refine Rs 1 fun Q' K hK => ?_
 refine M2 hE 6 5 fun K' J ρ q6 q5 => ?_; go_simp; (try go_bits)
 refine Ln hE J fun _ Eb => ?_; clear J K' hE a q6 q5
 refine Ld [0, 5, 6, 7] Eb hK fun a hE => ?_; clear hK K Q' Eb
 refine Ks ?_
 refine cond_part hE (t := 7) rfl (fun h => ?_) (fun h => ?_)
 ·refine Ks ?_
  have hlt : k < s.size := of_decide_eq_true h
  clear h
  refine Rs 2 fun Q' K hK => ?_
  refine M1 hE 6 fun K' J ρ q6 => ?_; go_simp
  refine Ln hE J fun _ Eb => ?_; clear J K' hE a q6
  refine M1 Eb 8 fun K' J ρ q8 => ?_; go_simp
  refine Ln Eb J fun _ Ea => ?_; clear J K' Eb q8
  refine Ld [0, 3, 5, 6] Ea hK fun a hE => ?_; clear hK K Q' Ea
  refine Ks ?_
  have hgd : s.data.toList.getD k 0 = s[k] := by
   rw [List.getD_eq_getElem?_getD, List.getElem?_eq_getElem (by simpa using hlt)]; rfl
  cases hl : letterB s[k]
  ·have hN0 : lettersB s.data.toList = false := by
    unfold lettersB
    rw [List.all_eq_false]
    exact ⟨k, List.mem_range.2 (by simpa using hlt), by unfold newB; rw [hgd, hl]; simp⟩
   have HL := hid hl
   have HN0 := hid hN0
   clear hl hN0 hgd
   refine Rd [] (fun wt => Below w'.heap.size w' wt) (fun w1 w2 => Below w1.heap.size w1 w2) [(0, some 9), (1, some 10), (2, some 11), (3, some 12), (4, some 13), (5, some 14), (6, some 15), (7, some 16), (8, some 17), (9, some 18), (10, some 19), (11, some 20), (12, some 21), (13, some 22), (14, some 23)] [9, 10, 11, 12, 13, 14, 15, 16, 17, 18, 19, 20, 21, 22, 23] #[true, true, true, true, true, true, true, true, true, true, true, true, true, true, true] [0, 5, 6] hE ((Below.refl _ _).drew) fun Q' K hK => ?_
   refine SeqOps.val ?_ (Sp fun ax wx hS hT' hd K' J => ?_) ?_; rotate_left 1
   ·have r0 := hS.at 0 (by decide) (hE.at 0 rfl); obtain ⟨_, _, _, _, _, _⟩ := bT hT'
    refine o1 r0 fun ρ q0 => ?_; go_simp;
    exact Jo J hT'
   refine SeqOps.val ?_ (Sp fun ax wx hS hT' hd K' J => ?_) ?_; rotate_left 1
   ·have r3 := hS.at 3 (by decide) (hE.at 3 rfl); obtain ⟨_, _, _, _, _, _⟩ := bT hT'
    refine o1 r3 fun ρ q3 => ?_; go_simp;
    exact Jo J hT'
   refine SeqOps.val ?_ (Sp fun ax wx hS hT' hd K' J => ?_) ?_; rotate_left 1
   ·have r9 := Tv hd 1 0 9; have r10 := Tv hd 0 1 10; obtain ⟨_, _, _, _, _, _⟩ := bT hT'
    refine o2 r9 r10 fun ρ q9 q10 => ?_; go_simp; (try go_bits);
    exact Jo J hT'
   refine SeqOps.val ?_ (Sp fun ax wx hS hT' hd K' J => ?_) ?_; rotate_left 1
   ·have r11 := Tv hd 0 2 11; obtain ⟨_, _, _, _, _, _⟩ := bT hT'
    refine o1 r11 fun ρ q11 => ?_; go_simp; (try go_bits);
    go_at_call 90; refine (isLetter_any s[k] wx).mono ?_; rintro e w1 ⟨rfl, rfl⟩; show K' _ _
    refine J.out _ _ _ rfl (by rw [show (decide (97 ≤ ((s[k]).toNat : Int)) && decide (((s[k]).toNat : Int) ≤ 122)) = false from HL.out]) hT' (Below.refl _ _)
   refine SeqOps.val ?_ (Sp fun ax wx hS hT' hd K' J => ?_) ?_; rotate_left 1
   ·have r12 := Tv hd 0 3 12; obtain ⟨_, _, _, _, _, _⟩ := bT hT'
    refine o1 r12 fun ρ q12 => ?_; go_simp; (try go_bits); (try simp (disch := omega) only [IntWalk.i64_in]);
    exact Jo J hT'
   refine SeqOps.val ?_ (Sp fun ax wx hS hT' hd K' J => ?_) ?_; rotate_left 1
   ·have r13 := Tv hd 0 4 13; obtain ⟨_, _, _, _, _, _⟩ := bT hT'
    refine o1 r13 fun ρ q13 => ?_; go_simp;
    exact Jo J hT'
   refine SeqOps.val _ (StepOk.no (by (first | (simp only [List.getElem?_toArray, List.getElem?_cons_succ, List.getElem?_cons_zero]; rfl) | rfl)) rfl (e := 14) 0 rfl rfl (by kernel_rfl) (by kernel_rfl) (fun w => Below.refl _ _)) ?_
   refine SeqOps.val _ (StepOk.no (by (first | (simp only [List.getElem?_toArray, List.getElem?_cons_succ, List.getElem?_cons_zero]; rfl) | rfl)) rfl (e := 14) 1 rfl rfl (by kernel_rfl) (by kernel_rfl) (fun w => Below.refl _ _)) ?_
   refine SeqOps.val _ (StepOk.no (by (first | (simp only [List.getElem?_toArray, List.getElem?_cons_succ, List.getElem?_cons_zero]; rfl) | rfl)) rfl (e := 14) 2 rfl rfl (by kernel_rfl) (by kernel_rfl) (fun w => Below.refl _ _)) ?_
   refine SeqOps.val _ (StepOk.no (by (first | (simp only [List.getElem?_toArray, List.getElem?_cons_succ, List.getElem?_cons_zero]; rfl) | rfl)) rfl (e := 14) 3 rfl rfl (by kernel_rfl) (by kernel_rfl) (fun w => Below.refl _ _)) ?_
   refine SeqOps.val _ (StepOk.no (by (first | (simp only [List.getElem?_toArray, List.getElem?_cons_succ, List.getElem?_cons_zero]; rfl) | rfl)) rfl (e := 14) 4 rfl rfl (by kernel_rfl) (by kernel_rfl) (fun w => Below.refl _ _)) ?_
   refine SeqOps.val _ (StepOk.no (by (first | (simp only [List.getElem?_toArray, List.getElem?_cons_succ, List.getElem?_cons_zero]; rfl) | rfl)) rfl (e := 14) 5 rfl rfl (by kernel_rfl) (by kernel_rfl) (fun w => Below.refl _ _)) ?_
   refine SeqOps.val _ (StepOk.no (by (first | (simp only [List.getElem?_toArray, List.getElem?_cons_succ, List.getElem?_cons_zero]; rfl) | rfl)) rfl (e := 14) 6 rfl rfl (by kernel_rfl) (by kernel_rfl) (fun w => Below.refl _ _)) ?_
   refine SeqOps.val _ (StepOk.no (by (first | (simp only [List.getElem?_toArray, List.getElem?_cons_succ, List.getElem?_cons_zero]; rfl) | rfl)) rfl (e := 14) 7 rfl rfl (by kernel_rfl) (by kernel_rfl) (fun w => Below.refl _ _)) ?_
   refine SeqOps.val ?_ (Sp fun ax wx hS hT' hd K' J => ?_) ?_; rotate_left 1
   ·have r14 := Tv hd 8 5 14; have r22 := Tv hd 0 13 22; obtain ⟨_, _, _, _, _, _⟩ := bT hT'
    refine o2 r14 r22 fun ρ q14 q22 => ?_; go_simp; (try go_bits);
    exact Jo J hT'
   refine SeqOps.nil ?_
   intro w2 hBl; (repeat refine Ek ?_)
   refine fun ax hEx => ?_
   simp only [lk, pick, Nat.reduceEqDiff, ↓reduceIte] at hEx
   refine Ld [0, 5, 6, 23] hEx hK fun a hE => ?_; clear hK K Q' hEx
   refine Ks ?_
   refine cond_yes hE (t := 23) rfl ?_
   refine Ks ?_
   refine Rs 1 fun Q' K hK => ?_
   refine M0 fun K' J ρ => ?_; go_simp;
   refine Ln hE J fun _ Eb => ?_; clear J K' hE a
   refine Ld [2] Eb hK fun a hE => ?_; clear hK K Q' Eb
   refine Ks ?_
   refine ret_one hE rfl rfl ⟨ret_bool (by rw [HN0.out]), hB.trans (hBl.mono hB.size)⟩
  ·obtain ⟨j, hj⟩ : ∃ j, Lib.indexByte (s.data.toList.take k) s[k] = j := ⟨_, rfl⟩
   obtain ⟨q, hq⟩ : ∃ q, decide (0 ≤ j) = q := ⟨_, rfl⟩
   have hnew : newB s.data.toList k = !q := by
    unfold newB
    rw [hgd, hl, hj, ← hq, Bool.true_and]
    by_cases h0 : 0 ≤ j
    ·rw [decide_eq_true h0, decide_eq_false (by omega)]; rfl
    ·rw [decide_eq_false h0, decide_eq_true (by omega)]; rfl
   have HL := hid hl
   have HW := hid hnew
   have HJ := hid hj
   clear hl hgd hnew hj
   refine Rd [] (fun wt => Below w'.heap.size w' wt) (fun w1 w2 => Below w1.heap.size w1 w2) [(0, some 9), (1, some 10), (2, some 11), (3, some 12), (4, some 13), (5, some 14), (6, some 15), (7, some 16), (8, some 17), (9, some 18), (10, some 19), (11, some 20), (12, some 21), (13, some 22), (14, some 23)] [9, 10, 11, 12, 13, 14, 15, 16, 17, 18, 19, 20, 21, 22, 23] #[true, true, true, true, true, true, true, true, true, true, true, true, true, true, true] [0, 5, 6] hE ((Below.refl _ _).drew) fun Q' K hK => ?_
   refine SeqOps.val ?_ (Sp fun ax wx hS hT' hd K' J => ?_) ?_; rotate_left 1
   ·have r0 := hS.at 0 (by decide) (hE.at 0 rfl); obtain ⟨_, _, _, _, _, _⟩ := bT hT'
    refine o1 r0 fun ρ q0 => ?_; go_simp;
    exact Jo J hT'
   refine SeqOps.val ?_ (Sp fun ax wx hS hT' hd K' J => ?_) ?_; rotate_left 1
   ·have r3 := hS.at 3 (by decide) (hE.at 3 rfl); obtain ⟨_, _, _, _, _, _⟩ := bT hT'
    refine o1 r3 fun ρ q3 => ?_; go_simp;
    exact Jo J hT'
   refine SeqOps.val ?_ (Sp fun ax wx hS hT' hd K' J => ?_) ?_; rotate_left 1
   ·have r9 := Tv hd 1 0 9; have r10 := Tv hd 0 1 10; obtain ⟨_, _, _, _, _, _⟩ := bT hT'
    refine o2 r9 r10 fun ρ q9 q10 => ?_; go_simp; (try go_bits);
    exact Jo J hT'
   refine SeqOps.val ?_ (Sp fun ax wx hS hT' hd K' J => ?_) ?_; rotate_left 1
   ·have r11 := Tv hd 0 2 11; obtain ⟨_, _, _, _, _, _⟩ := bT hT'
    refine o1 r11 fun ρ q11 => ?_; go_simp; (try go_bits);
    go_at_call 90; refine (isLetter_any s[k] wx).mono ?_; rintro e w1 ⟨rfl, rfl⟩; show K' _ _
    refine J.out _ _ _ rfl (by rw [show (decide (97 ≤ ((s[k]).toNat : Int)) && decide (((s[k]).toNat : Int) ≤ 122)) = true from HL.out]) hT' (Below.refl _ _)
   refine SeqOps.val ?_ (Sp fun ax wx hS hT' hd K' J => ?_) ?_; rotate_left 1
   ·have r12 := Tv hd 0 3 12; obtain ⟨_, _, _, _, _, _⟩ := bT hT'
    refine o1 r12 fun ρ q12 => ?_; go_simp; (try go_bits); (try simp (disch := omega) only [IntWalk.i64_in]);
    exact Jo J hT'
   refine SeqOps.val ?_ (Sp fun ax wx hS hT' hd K' J => ?_) ?_; rotate_left 1
   ·have r13 := Tv hd 0 4 13; obtain ⟨_, _, _, _, _, _⟩ := bT hT'
    refine o1 r13 fun ρ q13 => ?_; go_simp;
    exact Jo J hT'
   refine SeqOps.val ?_ (Sy 0 14 fun ax wx hS hT' hd K' J => ?_) ?_; rotate_left 1
   ·have r0 := hS.at 0 (by decide) (hE.at 0 rfl); obtain ⟨_, _, _, _, _, _⟩ := bT hT'
    refine o1 r0 fun ρ q0 => ?_; go_simp;
    exact Jo J hT'
   refine SeqOps.val ?_ (Sy 1 14 fun ax wx hS hT' hd K' J => ?_) ?_; rotate_left 1
   ·have r3 := hS.at 3 (by decide) (hE.at 3 rfl); obtain ⟨_, _, _, _, _, _⟩ := bT hT'
    refine o1 r3 fun ρ q3 => ?_; go_simp;
    exact Jo J hT'
   refine SeqOps.val ?_ (Sy 2 14 fun ax wx hS hT' hd K' J => ?_) ?_; rotate_left 1
   ·have r15 := Tv hd 1 6 15; have r16 := Tv hd 0 7 16; obtain ⟨_, _, _, _, _, _⟩ := bT hT'
    refine o2 r15 r16 fun ρ q15 q16 => ?_; go_simp; (try go_bits);
    exact Jo J hT'
   refine SeqOps.val ?_ (Sy 3 14 fun ax wx hS hT' hd K' J => ?_) ?_; rotate_left 1
   ·have r0 := hS.at 0 (by decide) (hE.at 0 rfl); obtain ⟨_, _, _, _, _, _⟩ := bT hT'
    refine o1 r0 fun ρ q0 => ?_; go_simp;
    exact Jo J hT'
   refine SeqOps.val ?_ (Sy 4 14 fun ax wx hS hT' hd K' J => ?_) ?_; rotate_left 1
   ·have r3 := hS.at 3 (by decide) (hE.at 3 rfl); obtain ⟨_, _, _, _, _, _⟩ := bT hT'
    refine o1 r3 fun ρ q3 => ?_; go_simp;
    exact Jo J hT'
   refine SeqOps.val ?_ (Sy 5 14 fun ax wx hS hT' hd K' J => ?_) ?_; rotate_left 1
   ·have r18 := Tv hd 1 9 18; have r19 := Tv hd 0 10 19; obtain ⟨_, _, _, _, _, _⟩ := bT hT'
    refine o2 r18 r19 fun ρ q18 q19 => ?_; go_simp; (try go_bits);
    exact Jo J hT'
   refine SeqOps.val ?_ (Sy 6 14 fun ax wx hS hT' hd K' J => ?_) ?_; rotate_left 1
   ·have r17 := Tv hd 3 8 17; have r20 := Tv hd 0 11 20; obtain ⟨_, _, _, _, _, _⟩ := bT hT'
    refine o2 r17 r20 fun ρ q17 q20 => ?_; go_simp; (try go_bits);
    go_at_call 91; refine (indexByte_any (s.extract 0 k) s[k].toNat wx).mono ?_; rintro e w1 ⟨rfl, rfl⟩; show K' _ _
    refine J.out _ _ _ rfl (by rw [show Lib.indexByte (s.extract 0 k).data.toList ((s[k].toNat : Int)).toNat.toUInt8 = j by rw [← HJ.out]; congr 1; simp; simp]) hT' (Below.refl _ _)
   refine SeqOps.val ?_ (Sy 7 14 fun ax wx hS hT' hd K' J => ?_) ?_; rotate_left 1
   ·have r21 := Tv hd 0 12 21; obtain ⟨_, _, _, _, _, _⟩ := bT hT'
    refine o1 r21 fun ρ q21 => ?_; go_simp; (try go_bits);
    exact Jo J hT'
   refine SeqOps.val ?_ (Sp fun ax wx hS hT' hd K' J => ?_) ?_; rotate_left 1
   ·have r14 := Tv hd 8 5 14; have r22 := Tv hd 0 13 22; obtain ⟨_, _, _, _, _, _⟩ := bT hT'
    refine o2 r14 r22 fun ρ q14 q22 => ?_; go_simp; (try go_bits);
    exact Jo J hT'
   refine SeqOps.nil ?_
   intro w2 hBl; (repeat refine Ek ?_)
   refine fun ax hEx => ?_
   simp only [lk, pick, Nat.reduceEqDiff, ↓reduceIte] at hEx
   refine Ld [0, 5, 6, 23] hEx hK fun a hE => ?_; clear hK K Q' hEx
   refine Ks ?_
   refine cond_part hE (t := 23) rfl (fun h => ?_) (fun h => ?_)
   ·refine Ks ?_
    refine Rs 1 fun Q' K hK => ?_
    refine M0 fun K' J ρ => ?_; go_simp;
    refine Ln hE J fun _ Eb => ?_; clear J K' hE a
    refine Ld [2] Eb hK fun a hE => ?_; clear hK K Q' Eb
    refine Ks ?_
    refine ret_one hE rfl rfl ⟨ret_bool ?_, hB.trans (hBl.mono hB.size)⟩
    have hW := HW.out
    rw [h] at hW
    refine Eq.symm ?_
    unfold lettersB
    rw [List.all_eq_false]
    exact ⟨k, List.mem_range.2 (by simpa using hlt), by rw [hW]; simp⟩
   ·refine Ks ?_
    refine Rs 2 fun Q' K hK => ?_
    refine M1 hE 6 fun K' J ρ q6 => ?_; go_simp; (try go_bits); (try simp (disch := omega) only [IntWalk.i64_in])
    refine Ln hE J fun _ Eb => ?_; clear J K' hE a q6
    refine M1 Eb 24 fun K' J ρ q24 => ?_; go_simp
    refine Ln Eb J fun _ Ea => ?_; clear J K' Eb q24
    refine Ld [0, 5, 6] Ea hK fun a hE => ?_; clear hK K Q' Ea
    refine Ks ?_
    have hW := HW.out
    rw [h] at hW
    refine ⟨k + 1, ⟨hlt, ?_, hB.trans (hBl.mono hB.size), fun i hi => ?_⟩, by omega⟩
    ·simpa using hE
    ·rcases Nat.lt_or_ge i k with h1 | h1
     ·exact HN.out i h1
     ·obtain rfl : i = k := by omega
      exact hW
 ·have hkk : k = s.size := by have := of_decide_eq_false h; omega
  refine Ks ?_
  refine Rs 1 fun Q' K hK => ?_
  refine M0 fun K' J ρ => ?_; go_simp;
  refine Ln hE J fun _ Eb => ?_; clear J K' hE a
  refine Ld [2] Eb hK fun a hE => ?_; clear hK K Q' Eb
  refine Ks ?_
  refine ret_one hE rfl rfl ⟨ret_bool ?_, hB⟩
  refine Eq.symm ?_
  unfold lettersB
  rw [List.all_eq_true]
  intro i hi
  exact HN.out i (by have := List.mem_range.1 hi; simp at this; omega)
theorem within_any (n lo hi : Int) (w : World) :
    Calls Tryz.prog 34 #[.int .i64 n, .int .i64 lo, .int .i64 hi] w fun e w' => e = .returned (.bool (decide (lo ≤ n) && decide (n ≤ hi))) ∧ w = w' := by
 by_cases h : lo ≤ n
 all_goals
  go_enter Tryz.func34, Tryz.ntmps34
  go_wp2
  go_ret
  exact ⟨ret_bool (by first | (simp [h]; done) | (simp; omega)), rfl⟩
def digitB (c : UInt8) : Bool := decide (48 ≤ (c.toNat : Int)) && decide ((c.toNat : Int) ≤ 57)
theorem isDigit_any (c : UInt8) (w : World) : Calls Tryz.prog 93 #[.int .u8 c.toNat] w fun e w' => e = .returned (.bool (digitB c)) ∧ w = w' := by
 by_cases h : 48 ≤ (c.toNat : Int)
 all_goals
  go_enter Tryz.func93, Tryz.ntmps93
  go_wp2
  go_ret
  exact ⟨ret_bool (by unfold digitB; first | (simp [h]; done) | (simp; omega)), rfl⟩
theorem isLet_any (c : UInt8) (w : World) : Calls Tryz.prog 90 #[.int .u8 c.toNat] w fun e w' => e = .returned (.bool (letterB c)) ∧ w = w' := isLetter_any c w
/-- the byte at a place is one that a name can have there -/
def nameAt (l : List UInt8) (i : Nat) : Bool := letterB (l.getD i 0) || (!decide (i = 0) && digitB (l.getD i 0))
def nameB (l : List UInt8) : Bool := (decide (1 ≤ l.length) && decide (l.length ≤ 12)) && (List.range l.length).all (nameAt l)
theorem byte_at (s : ByteArray) (k : Nat) (h : k < s.size) : s.data.toList.getD k 0 = s[k] := by
 rw [List.getD_eq_getElem?_getD, List.getElem?_eq_getElem (by simpa using h)]; rfl
set_option maxRecDepth 100000 in
theorem isName_any (s : ByteArray) (w : World) (hs : s.size ≤ 9223372036854775807) : Calls Tryz.prog 70 #[.string s] w fun e w' => e = .returned (.bool (nameB s.data.toList)) ∧ w = w' := by
 refine enterE Tryz.func70 rfl Tryz.ntmps70 (by simp) (fun a hE => ?_); simp only [envOf, Nat.zero_add, Nat.reduceAdd] at hE
 refine Ks ?_
 refine Rs 1 fun Q' K hK => ?_
 refine M0 fun K' J ρ => ?_; go_simp;
 refine Ln hE J fun _ Eb => ?_; clear J K' hE a
 refine Ld [0] Eb hK fun a hE => ?_; clear hK K Q' Eb
 refine Ks ?_
 obtain ⟨q, hq⟩ : ∃ q, (decide ((1 : Int) ≤ s.size) && decide ((s.size : Int) ≤ 12)) = q := ⟨_, rfl⟩
 have HQ := hid hq
 clear hq
 refine Rs 4 fun Q' K hK => ?_
 refine M1 hE 0 fun K' J ρ q0 => ?_; go_simp
 refine Ln hE J fun _ Eb => ?_; clear J K' hE a q0
 refine M1 Eb 4 fun K' J ρ q4 => ?_; go_simp; (try go_bits)
 refine Ln Eb J fun _ Ea => ?_; clear J K' Eb q4
 refine M1 Ea 5 fun K' J ρ q5 => ?_; go_simp; (try go_bits); (try clear q5)
 go_at_call 34; refine (within_any _ _ _ _).mono ?_; rintro e w1 ⟨rfl, rfl⟩; rw [HQ.out]
 (try clear r5)
 refine Ln Ea J fun _ Eb => ?_; clear J K' Ea
 refine M1 Eb 6 fun K' J ρ q6 => ?_; go_simp; (try go_bits); (try simp (disch := omega) only [IntWalk.i64_in])
 refine Ln Eb J fun _ Ea => ?_; clear J K' Eb q6
 refine Ld [0, 7] Ea hK fun a hE => ?_; clear hK K Q' Ea
 refine Ks ?_
 have hqn : q = (decide (1 ≤ s.data.toList.length) && decide (s.data.toList.length ≤ 12)) := by
  rw [← HQ.out]
  have e1 : s.data.toList.length = s.size := by simp
  rw [e1]
  congr 1
  ·exact decide_eq_decide.2 (by omega)
  ·exact decide_eq_decide.2 (by omega)
 refine cond_part hE (t := 7) rfl (fun h => ?_) (fun h => ?_)
 ·refine Ks ?_
  refine Rs 1 fun Q' K hK => ?_
  refine M0 fun K' J ρ => ?_; go_simp;
  refine Ln hE J fun _ Eb => ?_; clear J K' hE a
  refine Ld [2] Eb hK fun a hE => ?_; clear hK K Q' Eb
  refine Ks ?_
  refine ret_one hE rfl rfl ⟨ret_bool ?_, rfl⟩
  have hq0 : q = false := by simpa using h
  unfold nameB
  rw [← hqn, hq0]; rfl
 ·have hq1 : q = true := by simpa using h
  clear h
  refine Ks ?_
  refine Rs 3 fun Q' K hK => ?_
  refine M1 hE 0 fun K' J ρ q0 => ?_; go_simp
  refine Ln hE J fun _ Eb => ?_; clear J K' hE a q0
  refine M1 Eb 8 fun K' J ρ q8 => ?_; go_simp; (try go_bits)
  refine Ln Eb J fun _ Ea => ?_; clear J K' Eb q8
  refine M0 fun K' J ρ => ?_; go_simp;
  refine Ln Ea J fun _ Eb => ?_; clear J K' Ea
  refine Ld [0, 9, 10] Eb hK fun a hE => ?_; clear hK K Q' Eb
  refine Ks ?_
  refine loop_st (fun (k : Nat) a w' => k ≤ s.size ∧ Fits 30 [(0, .string s), (9, .int .i64 s.size), (10, .int .i64 k)] a ∧ w = w' ∧ ∀ i, i < k → nameAt s.data.toList i = true) (fun k => s.size - k) 0 ?_ (fun k a w' hI => ?_)
  ·exact ⟨Nat.zero_le _, by simpa using hE, rfl, fun i hi => absurd hi (Nat.not_lt_zero i)⟩
  clear hE
  obtain ⟨hk, hE, rfl, hN⟩ := hI
  have HN := hid hN
  clear hN
  refine Ks ?_
  refine Rs 1 fun Q' K hK => ?_
  refine M2 hE 10 9 fun K' J ρ q10 q9 => ?_; go_simp; (try go_bits)
  refine Ln hE J fun _ Eb => ?_; clear J K' hE a q10 q9
  refine Ld [0, 9, 10, 11] Eb hK fun a hE => ?_; clear hK K Q' Eb
  refine Ks ?_
  refine cond_part hE (t := 11) rfl (fun h => ?_) (fun h => ?_)
  ·have hlt : k < s.size := of_decide_eq_true h
   clear h
   refine Ks ?_
   refine Rs 2 fun Q' K hK => ?_
   refine M1 hE 10 fun K' J ρ q10 => ?_; go_simp
   refine Ln hE J fun _ Eb => ?_; clear J K' hE a q10
   refine M1 Eb 12 fun K' J ρ q12 => ?_; go_simp
   refine Ln Eb J fun _ Ea => ?_; clear J K' Eb q12
   refine Ld [0, 3, 9, 10] Ea hK fun a hE => ?_; clear hK K Q' Ea
   refine Ks ?_
   refine Rs 16 fun Q' K hK => ?_
   refine M1 hE 0 fun K' J ρ q0 => ?_; go_simp
   refine Ln hE J fun _ Eb => ?_; clear J K' hE a q0
   refine M1 Eb 3 fun K' J ρ q3 => ?_; go_simp
   refine Ln Eb J fun _ Ea => ?_; clear J K' Eb q3
   refine M2 Ea 13 14 fun K' J ρ q13 q14 => ?_; go_simp; (try go_bits)
   refine Ln Ea J fun _ Eb => ?_; clear J K' Ea q13 q14
   refine M1 Eb 15 fun K' J ρ q15 => ?_; go_simp; (try go_bits); (try clear q15)
   go_at_call 90; refine (isLet_any s[k] _).mono ?_; rintro e w1 ⟨rfl, rfl⟩
   (try clear r15)
   refine Ln Eb J fun _ Ea => ?_; clear J K' Eb
   refine M1 Ea 16 fun K' J ρ q16 => ?_; go_simp; (try go_bits); (try simp (disch := omega) only [IntWalk.i64_in])
   refine Ln Ea J fun _ Eb => ?_; clear J K' Ea q16
   refine M1 Eb 17 fun K' J ρ q17 => ?_; go_simp
   refine Ln Eb J fun _ Ea => ?_; clear J K' Eb q17
   refine Lm Ea 19 18 ?_ (fun hx K' J => ?_) (fun _ Eb => ?_); rotate_left 1
   ·have hx0 := hx; (try simp only [beq_iff_eq, Bool.and_eq_true, Bool.beq_true, Bool.beq_false, Bool.not_eq_true', beq_eq_false_iff_ne] at hx); have r3 := Ea.at 3 rfl; clear hx0
    refine o1 r3 fun ρ q3 => ?_; go_simp;
    refine put_eq J ?_; rfl
   clear Ea
   refine Lm Eb 20 18 ?_ (fun hx K' J => ?_) (fun _ Ea => ?_); rotate_left 1
   ·have hx0 := hx; (try simp only [beq_iff_eq, Bool.and_eq_true, Bool.beq_true, Bool.beq_false, Bool.not_eq_true', beq_eq_false_iff_ne] at hx); have r19 := Eb.at 19 rfl; (try simp only [hx0, may_true] at r19); clear hx0
    refine o1 r19 fun ρ q19 => ?_; go_simp; (try go_bits);
    refine put_eq J ?_; rfl
   clear Eb
   refine Lm Ea 21 18 ?_ (fun hx K' J => ?_) (fun _ Eb => ?_); rotate_left 1
   ·have hx0 := hx; (try simp only [beq_iff_eq, Bool.and_eq_true, Bool.beq_true, Bool.beq_false, Bool.not_eq_true', beq_eq_false_iff_ne] at hx); have r20 := Ea.at 20 rfl; (try simp only [hx0, may_true] at r20); clear hx0
    refine o1 r20 fun ρ q20 => ?_; go_simp;
    refine put_eq J ?_; rfl
   clear Ea
   refine Late.mayy Eb (d' := 22) (by decide) (by (first | (simp only [List.getElem?_toArray, List.getElem?_cons_succ, List.getElem?_cons_zero]; rfl) | rfl)) rfl rfl (d := 21) (by kernel_rfl) rfl ?_ (fun hx K' J => ?_) (fun _ Ea => ?_); rotate_left 1
   ·have hx0 := hx; have hxa := and_l hx; have hxb := and_r hx; (try simp only [beq_iff_eq, Bool.and_eq_true, Bool.beq_true, Bool.beq_false, Bool.not_eq_true', beq_eq_false_iff_ne] at hx); have r0 := Eb.at 0 rfl; clear hx0 hxa hxb
    refine o1 r0 fun ρ q0 => ?_; go_simp;
    refine put_eq J ?_; rfl
   clear Eb
   refine Late.mayy Ea (d' := 23) (by decide) (by (first | (simp only [List.getElem?_toArray, List.getElem?_cons_succ, List.getElem?_cons_zero]; rfl) | rfl)) rfl rfl (d := 21) (by kernel_rfl) rfl ?_ (fun hx K' J => ?_) (fun _ Eb => ?_); rotate_left 1
   ·have hx0 := hx; have hxa := and_l hx; have hxb := and_r hx; (try simp only [beq_iff_eq, Bool.and_eq_true, Bool.beq_true, Bool.beq_false, Bool.not_eq_true', beq_eq_false_iff_ne] at hx); have r3 := Ea.at 3 rfl; clear hx0 hxa hxb
    refine o1 r3 fun ρ q3 => ?_; go_simp;
    refine put_eq J ?_; rfl
   clear Ea
   refine Late.mayy Eb (d' := 24) (by decide) (by (first | (simp only [List.getElem?_toArray, List.getElem?_cons_succ, List.getElem?_cons_zero]; rfl) | rfl)) rfl rfl (d := 21) (by kernel_rfl) rfl ?_ (fun hx K' J => ?_) (fun _ Ea => ?_); rotate_left 1
   ·have hx0 := hx; have hxa := and_l hx; have hxb := and_r hx; (try simp only [beq_iff_eq, Bool.and_eq_true, Bool.beq_true, Bool.beq_false, Bool.not_eq_true', beq_eq_false_iff_ne] at hx); have r22 := Eb.at 22 rfl; have r23 := Eb.at 23 rfl; (try simp only [hx0, hxa, hxb, may_true] at r22); (try simp only [hx0, hxa, hxb, may_true] at r23); clear hx0 hxa hxb
    refine o2 r22 r23 fun ρ q22 q23 => ?_; go_simp; (try go_bits);
    refine put_eq J ?_; rfl
   clear Eb
   refine Late.mayy Ea (d' := 25) (by decide) (by (first | (simp only [List.getElem?_toArray, List.getElem?_cons_succ, List.getElem?_cons_zero]; rfl) | rfl)) rfl rfl (d := 21) (by kernel_rfl) rfl ?_ (fun hx K' J => ?_) (fun _ Eb => ?_); rotate_left 1
   ·have hx0 := hx; have hxa := and_l hx; have hxb := and_r hx; (try simp only [beq_iff_eq, Bool.and_eq_true, Bool.beq_true, Bool.beq_false, Bool.not_eq_true', beq_eq_false_iff_ne] at hx); have r24 := Ea.at 24 rfl; (try simp only [hx0, hxa, hxb, may_true] at r24); clear hx0 hxa hxb
    refine o1 r24 fun ρ q24 => ?_; go_simp; (try go_bits);
    go_at_call 93; refine (isDigit_any s[k] _).mono ?_; rintro e w1 ⟨rfl, rfl⟩; refine put_eq J ?_; rfl
   clear Ea
   refine Late.mayy Eb (d' := 26) (by decide) (by (first | (simp only [List.getElem?_toArray, List.getElem?_cons_succ, List.getElem?_cons_zero]; rfl) | rfl)) rfl rfl (d := 21) (by kernel_rfl) rfl ?_ (fun hx K' J => ?_) (fun _ Ea => ?_); rotate_left 1
   ·have hx0 := hx; have hxa := and_l hx; have hxb := and_r hx; (try simp only [beq_iff_eq, Bool.and_eq_true, Bool.beq_true, Bool.beq_false, Bool.not_eq_true', beq_eq_false_iff_ne] at hx); have r25 := Eb.at 25 rfl; (try simp only [hx0, hxa, hxb, may_true] at r25); clear hx0 hxa hxb
    refine o1 r25 fun ρ q25 => ?_; go_simp; (try go_bits); (try simp (disch := omega) only [IntWalk.i64_in]);
    refine put_eq J ?_; rfl
   clear Eb
   refine Lm Ea 27 18 ?_ (fun hx K' J => ?_) (fun _ Eb => ?_); rotate_left 1
   ·have hx0 := hx; (try simp only [beq_iff_eq, Bool.and_eq_true, Bool.beq_true, Bool.beq_false, Bool.not_eq_true', beq_eq_false_iff_ne] at hx); have r21 := Ea.at 21 rfl; have r26 := Ea.at 26 rfl; (try simp only [hx0, may_true] at r21); (try simp only [hx0, may_true] at r26); clear hx0
    refine o2 r21 r26 fun ρ q21 q26 => ?_; go_simp; (try go_bits);
    refine put_eq J ?_; rfl
   clear Ea
   refine M2 Eb 18 27 fun K' J ρ q18 q27 => ?_; go_simp; (try go_bits)
   refine Ln Eb J fun _ Ea => ?_; clear J K' Eb q18 q27
   refine Ld [0, 9, 10, 28] Ea hK fun a hE => ?_; clear hK K Q' Ea
   refine Ks ?_
   have hb := byte_at s k hlt
   replace hE := hE.turn 28 (v' := .bool (!nameAt s.data.toList k)) rfl (by
    unfold nameAt
    rw [hb]
    by_cases hk0 : k = 0
    ·cases letterB s[k] <;> simp [hk0]
    ·have hkI : ((k : Int) == 0) = false := by simpa using hk0
     cases letterB s[k] <;> simp [hk0, hkI])
   refine cond_part hE (t := 28) rfl (fun h => ?_) (fun h => ?_)
   ·refine Ks ?_
    refine Rs 1 fun Q' K hK => ?_
    refine M0 fun K' J ρ => ?_; go_simp;
    refine Ln hE J fun _ Eb => ?_; clear J K' hE a
    refine Ld [2] Eb hK fun a hE => ?_; clear hK K Q' Eb
    refine Ks ?_
    refine ret_one hE rfl rfl ⟨ret_bool ?_, rfl⟩
    unfold nameB
    rw [Eq.comm, Bool.and_eq_false_iff]
    refine .inr (List.all_eq_false.2 ⟨k, List.mem_range.2 (by simpa using hlt), by simpa using h⟩)
   ·refine Ks ?_
    refine Rs 2 fun Q' K hK => ?_
    refine M1 hE 10 fun K' J ρ q10 => ?_; go_simp; (try go_bits); (try simp (disch := omega) only [IntWalk.i64_in])
    refine Ln hE J fun _ Eb => ?_; clear J K' hE a q10
    refine M1 Eb 29 fun K' J ρ q29 => ?_; go_simp
    refine Ln Eb J fun _ Ea => ?_; clear J K' Eb q29
    refine Ld [0, 9, 10] Ea hK fun a hE => ?_; clear hK K Q' Ea
    refine Ks ?_
    refine ⟨k + 1, ⟨hlt, by simpa using hE, rfl, fun i hi => ?_⟩, by omega⟩
    rcases Nat.lt_or_ge i k with h1 | h1
    ·exact HN.out i h1
    ·obtain rfl : i = k := by omega
     simpa using h
  ·have hkk : k = s.size := by have := of_decide_eq_false h; omega
   refine Ks ?_
   refine Rs 1 fun Q' K hK => ?_
   refine M0 fun K' J ρ => ?_; go_simp;
   refine Ln hE J fun _ Eb => ?_; clear J K' hE a
   refine Ld [2] Eb hK fun a hE => ?_; clear hK K Q' Eb
   refine Ks ?_
   refine ret_one hE rfl rfl ⟨ret_bool ?_, rfl⟩
   unfold nameB
   rw [← hqn, hq1, Bool.true_and, Eq.comm, List.all_eq_true]
   intro i hi
   exact HN.out i (by have := List.mem_range.1 hi; simp at this; omega)
def txts (l : List ByteArray) : List Value := l.map Value.string
theorem txts_length (l : List ByteArray) : (txts l).length = l.length := by simp [txts]
theorem Arr.txt {w : World} {B : Nat} {A : Option Addr} {l : List ByteArray} (h : Arr w B A (txts l)) {k : Nat} (hk : k < l.length) :
    ∃ b o, A = some ⟨b, o, none⟩ ∧ b < B ∧ w.cell? ⟨b, o + k, none⟩ = some (.string l[k]) := by
 obtain ⟨b, o, hA, hlt, hc⟩ := h (fun e => by have := txts_length l; rw [e] at this; simp at this; omega)
 exact ⟨b, o, hA, hlt, hc k _ (by simp [txts, hk])⟩
/-- a letter group's length -/
def groupB (g : ByteArray) : Bool := decide ((2 : Int) ≤ g.size) && decide ((g.size : Int) ≤ 4)
def flatT (l : List ByteArray) : List UInt8 := l.flatMap (·.data.toList)
def groupsB (l : List ByteArray) : Bool := !decide ((4 : Int) < l.length) && (l.all groupB && lettersB (flatT l))
theorem join_flat (l : List ByteArray) : Lib.join (l.map (·.data.toList)) (ByteArray.mk #[]).data.toList = flatT l := by
 show Lib.join _ [] = _
 unfold Lib.join flatT
 rw [List.flatMap_def]
 induction l with
 | nil => rfl
 | cons g l ih =>
  cases l with
  | nil => simp [List.intercalate]
  | cons g' l =>
   simp only [List.map_cons, List.intercalate, List.intersperse_cons_cons, List.flatten_cons, List.nil_append] at ih ⊢
   rw [ih]
theorem flat_le {l : List ByteArray} (h4 : l.length ≤ 4) (h : ∀ i (hi : i < l.length), groupB l[i] = true) : (flatT l).length ≤ 16 := by
 have key : ∀ l : List ByteArray, (∀ g ∈ l, groupB g = true) → (flatT l).length ≤ 4 * l.length := by
  intro l
  induction l with
  | nil => intro _; simp [flatT]
  | cons g l ih =>
   intro hg
   have h1 := ih fun x hx => hg x (List.mem_cons_of_mem _ hx)
   have h2 := hg g (List.mem_cons_self ..)
   unfold groupB at h2
   simp only [Bool.and_eq_true, decide_eq_true_eq] at h2
   have h3 : g.data.toList.length = g.size := by simp
   simp only [flatT, List.flatMap_cons, List.length_append, List.length_cons] at h1 ⊢
   omega
 have := key l fun g hg => by
  obtain ⟨i, hi, rfl⟩ := List.getElem_of_mem hg
  exact h i hi
 omega
set_option maxRecDepth 100000 in
set_option maxHeartbeats 1000000 in
theorem areGroups_any (A : Option Addr) (cap : Nat) (l : List ByteArray) (w : World) (hA : Arr w w.heap.size A (txts l)) (hcap : l.length ≤ cap) (hl : l.length ≤ 9223372036854775807) : Calls Tryz.prog 69 #[.slice A l.length cap] w fun e w' => e = .returned (.bool (groupsB l)) ∧ Below w.heap.size w w' := by
 refine enterE Tryz.func69 rfl Tryz.ntmps69 (by simp) (fun a hE => ?_); simp only [envOf, Nat.zero_add, Nat.reduceAdd] at hE
 refine Ks ?_
 refine Rs 1 fun Q' K hK => ?_
 refine M0 fun K' J ρ => ?_; go_simp;
 refine Ln hE J fun _ Eb => ?_; clear J K' hE a
 refine Ld [0] Eb hK fun a hE => ?_; clear hK K Q' Eb
 refine Ks ?_
 refine Rs 3 fun Q' K hK => ?_
 refine M1 hE 0 fun K' J ρ q0 => ?_; go_simp
 refine Ln hE J fun _ Eb => ?_; clear J K' hE a q0
 refine M1 Eb 5 fun K' J ρ q5 => ?_; go_simp; (try go_bits)
 refine Ln Eb J fun _ Ea => ?_; clear J K' Eb q5
 refine M1 Ea 6 fun K' J ρ q6 => ?_; go_simp; (try go_bits)
 refine Ln Ea J fun _ Eb => ?_; clear J K' Ea q6
 refine Ld [0, 7] Eb hK fun a hE => ?_; clear hK K Q' Eb
 refine Ks ?_
 refine cond_part hE (t := 7) rfl (fun h => ?_) (fun h => ?_)
 ·refine Ks ?_
  refine Rs 1 fun Q' K hK => ?_
  refine M0 fun K' J ρ => ?_; go_simp;
  refine Ln hE J fun _ Eb => ?_; clear J K' hE a
  refine Ld [2] Eb hK fun a hE => ?_; clear hK K Q' Eb
  refine Ks ?_
  refine ret_one hE rfl rfl ⟨ret_bool ?_, Below.refl _ _⟩
  unfold groupsB
  rw [h]; rfl
 ·refine Ks ?_
  have h4 : (l.length : Int) ≤ 4 := by have := of_decide_eq_false h; omega
  have HG : Hid (groupsB l = (l.all groupB && lettersB (flatT l))) := hid (by unfold groupsB; rw [h]; rfl)
  clear h
  refine Rs 3 fun Q' K hK => ?_
  refine M1 hE 0 fun K' J ρ q0 => ?_; go_simp
  refine Ln hE J fun _ Eb => ?_; clear J K' hE a q0
  refine M1 Eb 8 fun K' J ρ q8 => ?_; go_simp; (try go_bits)
  refine Ln Eb J fun _ Ea => ?_; clear J K' Eb q8
  refine M0 fun K' J ρ => ?_; go_simp;
  refine Ln Ea J fun _ Eb => ?_; clear J K' Ea
  refine Ld [0, 8, 9, 10] Eb hK fun a hE => ?_; clear hK K Q' Eb
  refine Ks ?_
  refine loop_st (fun (k : Nat) a w' => k ≤ l.length ∧ Fits 22 [(0, .slice A l.length cap), (8, .slice A l.length cap), (9, .int .i64 l.length), (10, .int .i64 k)] a ∧ w = w' ∧ ∀ i (h : i < l.length), i < k → groupB l[i] = true) (fun k => l.length - k) 0 ?_ (fun k a w' hI => ?_)
  ·exact ⟨Nat.zero_le _, by simpa using hE, rfl, fun i _ hi => absurd hi (Nat.not_lt_zero i)⟩
  clear hE
  obtain ⟨hk, hE, rfl, hN⟩ := hI
  have HN := hid hN
  clear hN
  refine Ks ?_
  refine Rs 1 fun Q' K hK => ?_
  refine M2 hE 10 9 fun K' J ρ q10 q9 => ?_; go_simp; (try go_bits)
  refine Ln hE J fun _ Eb => ?_; clear J K' hE a q10 q9
  refine Ld [0, 8, 9, 10, 11] Eb hK fun a hE => ?_; clear hK K Q' Eb
  refine Ks ?_
  refine cond_part hE (t := 11) rfl (fun h => ?_) (fun h => ?_)
  ·have hlt : k < l.length := of_decide_eq_true h
   clear h
   have hltI : (k : Int) < l.length := by omega
   obtain ⟨b, o, rfl, hb, hc⟩ := hA.txt hlt
   obtain ⟨g, hg⟩ : ∃ g, l[k] = g := ⟨_, rfl⟩
   have HGk := hid hg
   rw [hg] at hc
   clear hg
   refine Ks ?_
   refine Rs 3 fun Q' K hK => ?_
   refine M2 hE 8 10 fun K' J ρ q8 q10 => ?_; go_simp; (try go_bits)
   refine Ln hE J fun _ Eb => ?_; clear J K' hE a q8 q10
   refine M1 Eb 12 fun K' J ρ q12 => ?_; go_simp
   refine Ln Eb J fun _ Ea => ?_; clear J K' Eb q12
   refine M1 Ea 13 fun K' J ρ q13 => ?_; go_simp
   refine Ln Ea J fun _ Eb => ?_; clear J K' Ea q13
   refine Ld [0, 4, 8, 9, 10] Eb hK fun a hE => ?_; clear hK K Q' Eb
   refine Ks ?_
   refine Rs 4 fun Q' K hK => ?_
   refine M1 hE 4 fun K' J ρ q4 => ?_; go_simp
   refine Ln hE J fun _ Eb => ?_; clear J K' hE a q4
   refine M1 Eb 14 fun K' J ρ q14 => ?_; go_simp; (try go_bits)
   refine Ln Eb J fun _ Ea => ?_; clear J K' Eb q14
   refine M1 Ea 15 fun K' J ρ q15 => ?_; go_simp; (try go_bits); (try clear q15)
   go_at_call 34; refine (within_any _ _ _ _).mono ?_; rintro e w1 ⟨rfl, rfl⟩; rw [show (decide ((2 : Int) ≤ g.size) && decide ((g.size : Int) ≤ 4)) = groupB g from rfl]
   (try clear r15)
   refine Ln Ea J fun _ Eb => ?_; clear J K' Ea
   refine M1 Eb 16 fun K' J ρ q16 => ?_; go_simp; (try go_bits); (try simp (disch := omega) only [IntWalk.i64_in])
   refine Ln Eb J fun _ Ea => ?_; clear J K' Eb q16
   refine Ld [0, 8, 9, 10, 17] Ea hK fun a hE => ?_; clear hK K Q' Ea
   refine Ks ?_
   refine cond_part hE (t := 17) rfl (fun h => ?_) (fun h => ?_)
   ·refine Ks ?_
    refine Rs 1 fun Q' K hK => ?_
    refine M0 fun K' J ρ => ?_; go_simp;
    refine Ln hE J fun _ Eb => ?_; clear J K' hE a
    refine Ld [2] Eb hK fun a hE => ?_; clear hK K Q' Eb
    refine Ks ?_
    refine ret_one hE rfl rfl ⟨ret_bool ?_, Below.refl _ _⟩
    rw [HG.out, Eq.comm, Bool.and_eq_false_iff]
    exact .inl (List.all_eq_false.2 ⟨l[k], List.getElem_mem hlt, by rw [HGk.out]; simpa using h⟩)
   ·refine Ks ?_
    refine Rs 2 fun Q' K hK => ?_
    refine M1 hE 10 fun K' J ρ q10 => ?_; go_simp; (try go_bits); (try simp (disch := omega) only [IntWalk.i64_in])
    refine Ln hE J fun _ Eb => ?_; clear J K' hE a q10
    refine M1 Eb 18 fun K' J ρ q18 => ?_; go_simp
    refine Ln Eb J fun _ Ea => ?_; clear J K' Eb q18
    refine Ld [0, 8, 9, 10] Ea hK fun a hE => ?_; clear hK K Q' Ea
    refine Ks ?_
    refine ⟨k + 1, ⟨hlt, by simpa using hE, rfl, fun i hi hik => ?_⟩, by omega⟩
    rcases Nat.lt_or_ge i k with h1 | h1
    ·exact HN.out i hi h1
    ·obtain rfl : i = k := by omega
     rw [HGk.out]; simpa using h
  ·have hkk : k = l.length := by have := of_decide_eq_false h; omega
   clear h
   have hall : l.all groupB = true := by
    rw [List.all_eq_true]
    intro g hg
    obtain ⟨i, hi, rfl⟩ := List.getElem_of_mem hg
    exact HN.out i hi (by omega)
   have hfl := flat_le (by omega) fun i hi => HN.out i hi (by omega)
   have HA := hid hall
   have HF := hid hfl
   clear hall hfl
   have hJ : ∀ W : World, Arr W W.heap.size A (txts l) → Calls Tryz.prog 92 #[.slice A l.length cap, .string { data := #[] }] W fun e w' => e = .returned (.string ⟨(flatT l).toArray⟩) ∧ Below W.heap.size W w' := fun W hW => by
    rcases Nat.eq_zero_or_pos l.length with h0 | h0
    ·have hl0 : l = [] := List.eq_nil_of_length_eq_zero h0
     subst hl0
     exact (sh_strings_Join_none A cap { data := #[] } W).mono fun e w' ⟨h1, h2⟩ => ⟨h1, by rw [h2]; exact Below.refl _ _⟩
    ·obtain ⟨b, o, rfl, hb, hc⟩ := hW (fun e => by have := txts_length l; rw [e] at this; simp at this; omega)
     have hj := join_flat l
     have := sh_strings_Join b o cap l { data := #[] } W (fun j x hx => hc j _ (by simp [txts, hx])) hb (by omega) hcap (by rw [hj]; have := HF.out; omega)
     rw [hj] at this
     exact this
   have HJ := hid hJ
   clear hJ
   refine Ks ?_
   refine Rs 4 fun Q' K hK => ?_
   refine M1 hE 0 fun K' J ρ q0 => ?_; go_simp
   refine Ln hE J fun _ Eb => ?_; clear J K' hE a q0
   refine M1 Eb 19 fun K' J ρ q19 => ?_; go_simp; (try go_bits); (try clear q19)
   go_at_call 92; refine (HJ.out _ hA).mono ?_; rintro e w1 ⟨rfl, h1⟩
   (try clear r19)
   refine Ln Eb J fun _ Ea => ?_; clear J K' Eb
   refine M1 Ea 20 fun K' J ρ q20 => ?_; go_simp; (try go_bits); (try clear q20)
   go_at_call 68; refine (areLetters_any _ _ ?_).mono ?_; (focus (have := HF.out; show (flatT l).toArray.size ≤ _; simp; omega)); rintro e w2 ⟨rfl, h2⟩
   (try clear r20)
   refine Ln Ea J fun _ Eb => ?_; clear J K' Ea
   refine M1 Eb 21 fun K' J ρ q21 => ?_; go_simp
   refine Ln Eb J fun _ Ea => ?_; clear J K' Eb q21
   refine Ld [2] Ea hK fun a hE => ?_; clear hK K Q' Ea
   refine Ks ?_
   refine ret_one hE rfl rfl ⟨ret_bool ?_, h1.trans (h2.mono h1.size)⟩
   rw [HG.out, HA.out]; rfl
structure Ear where
 alike : List ByteArray
 mute : ByteArray
 slips : Int
def Ear.ok (e : Ear) : Bool := (decide ((e.mute.size : Int) ≤ 3) && lettersB e.mute.data.toList) && (groupsB e.alike && (decide (0 ≤ e.slips) && decide (e.slips ≤ 3)))
def earE (e : Ear) : Int := if e.ok then 0 else 20
set_option maxRecDepth 100000 in
set_option maxHeartbeats 1000000 in
theorem pCheckEar_any (A : Option Addr) (cap : Nat) (l : List ByteArray) (m : ByteArray) (sl : Int) (w : World) (hA : Arr w w.heap.size A (txts l)) (hcap : l.length ≤ cap) (hl : l.length ≤ 9223372036854775807) (hm : m.size ≤ 9223372036854775807) : Calls Tryz.prog 32 #[.agg #[.slice A l.length cap, .string m, .int .i64 sl]] w fun e w' => e = .returned (.int .i64 (earE ⟨l, m, sl⟩)) ∧ Below w.heap.size w w' := by
 refine enterE Tryz.func32 rfl Tryz.ntmps32 (by simp) (fun a hE => ?_); simp only [envOf, Nat.zero_add, Nat.reduceAdd] at hE
 refine Ks ?_
 refine Rs 2 fun Q' K hK => ?_
 refine M1 hE 0 fun K' J ρ q0 => ?_; go_simp
 refine Ln hE J fun _ Eb => ?_; clear J K' hE a q0
 refine M0 fun K' J ρ => ?_; go_simp;
 refine Ln Eb J fun _ Ea => ?_; clear J K' Eb
 refine Ld [1] Ea hK fun a hE => ?_; clear hK K Q' Ea
 obtain ⟨B, hBe⟩ : ∃ B, B = w.heap.size := ⟨_, rfl⟩; rw [← hBe] at hE; refine world_cut (fun wt => Below w.heap.size w wt ∧ Cells wt B [.slice A l.length cap, .string m, .int .i64 sl]) ⟨(Below.refl _ _).alloc (Nat.le_refl _) _, by rw [hBe]; exact cells_new _ _ _⟩ (fun w1 hCut => ?_); obtain ⟨hbw1, hCB⟩ := hCut; clear hBe
 obtain ⟨mb, hmb⟩ : ∃ mb, (decide ((m.size : Int) ≤ 3) && lettersB m.data.toList) = mb := ⟨_, rfl⟩
 have HM := hid hmb
 clear hmb
 refine Ks ?_
 have nB := hCB.1; have cB1 := hCB.2 1 _ rfl
 refine Rs 10 fun Q' K hK => ?_
 refine M1 hE 1 fun K' J ρ q1 => ?_; go_simp
 refine Ln hE J fun _ Eb => ?_; clear J K' hE a q1
 refine M1 Eb 4 fun K' J ρ q4 => ?_; go_simp
 refine Ln Eb J fun _ Ea => ?_; clear J K' Eb q4
 refine M1 Ea 5 fun K' J ρ q5 => ?_; go_simp; (try go_bits)
 refine Ln Ea J fun _ Eb => ?_; clear J K' Ea q5
 refine M1 Eb 6 fun K' J ρ q6 => ?_; go_simp; (try go_bits)
 refine Ln Eb J fun _ Ea => ?_; clear J K' Eb q6
 refine M1 Ea 7 fun K' J ρ q7 => ?_; go_simp
 refine Ln Ea J fun _ Eb => ?_; clear J K' Ea q7
 refine Lm Eb 9 8 ?_ (fun hx K' J => ?_) (fun _ Ea => ?_); rotate_left 1
 ·have hx0 := hx; (try simp only [beq_iff_eq, Bool.and_eq_true, Bool.beq_true, Bool.beq_false, Bool.not_eq_true', beq_eq_false_iff_ne] at hx); have r1 := Eb.at 1 rfl; clear hx0
  refine o1 r1 fun ρ q1 => ?_; go_simp;
  refine put_eq J ?_; rfl
 clear Eb
 refine Lm Ea 10 8 ?_ (fun hx K' J => ?_) (fun _ Eb => ?_); rotate_left 1
 ·have hx0 := hx; (try simp only [beq_iff_eq, Bool.and_eq_true, Bool.beq_true, Bool.beq_false, Bool.not_eq_true', beq_eq_false_iff_ne] at hx); have r9 := Ea.at 9 rfl; (try simp only [hx0, may_true] at r9); clear hx0
  refine o1 r9 fun ρ q9 => ?_; go_simp;
  refine put_eq J ?_; rfl
 clear Ea
 refine Late.mayw Eb (d' := 11) (by decide) (by (first | (simp only [List.getElem?_toArray, List.getElem?_cons_succ, List.getElem?_cons_zero]; rfl) | rfl)) rfl rfl (d := 8) (by kernel_rfl) rfl ?_ (fun hx K' J => ?_) (fun a_8 w2 hbw2 Ea => ?_); rotate_left 1
 ·have hx0 := hx; (try simp only [beq_iff_eq, Bool.and_eq_true, Bool.beq_true, Bool.beq_false, Bool.not_eq_true', beq_eq_false_iff_ne] at hx); have r10 := Eb.at 10 rfl; (try simp only [hx0, may_true] at r10); clear hx0
  refine o1 r10 fun ρ q10 => ?_; go_simp; (try go_bits);
  go_at_call 68; refine (areLetters_any m _ hm).mono ?_; rintro e w2 ⟨rfl, h2⟩; refine put_eqw J h2 ?_; rfl
 clear Eb
 refine M2 Ea 8 11 fun K' J ρ q8 q11 => ?_; go_simp; (try go_bits)
 refine Ln Ea J fun _ Eb => ?_; clear J K' Ea q8 q11
 replace Eb := Eb.turn 12 (v' := .bool mb) rfl (by (rw [← HM.out]; by_cases h : (m.size : Int) ≤ 3 <;> simp [h]))
 refine M1 Eb 12 fun K' J ρ q12 => ?_; go_simp
 refine Ln Eb J fun _ Ea => ?_; clear J K' Eb q12
 refine Ld [1, 3] Ea hK fun a hE => ?_; clear hK K Q' Ea
 clear nB cB1
 have hb2 := hbw1.trans (hbw2.mono hbw1.size)
 replace hCB := hCB.below hbw2
 clear hbw1 hbw2
 obtain ⟨nB, cB0⟩ := hCB.c1
 have hA2 := (hA.below hb2).more hb2.size
 refine Ks ?_
 refine Rs 14 fun Q' K hK => ?_
 refine M1 hE 3 fun K' J ρ q3 => ?_; go_simp
 refine Ln hE J fun _ Eb => ?_; clear J K' hE a q3
 refine M1 Eb 13 fun K' J ρ q13 => ?_; go_simp; (try go_bits); (try simp (disch := omega) only [IntWalk.i64_in])
 refine Ln Eb J fun _ Ea => ?_; clear J K' Eb q13
 refine M1 Ea 14 fun K' J ρ q14 => ?_; go_simp
 refine Ln Ea J fun _ Eb => ?_; clear J K' Ea q14
 refine Lm Eb 16 15 ?_ (fun hx K' J => ?_) (fun _ Ea => ?_); rotate_left 1
 ·have hx0 := hx; (try simp only [beq_iff_eq, Bool.and_eq_true, Bool.beq_true, Bool.beq_false, Bool.not_eq_true', beq_eq_false_iff_ne] at hx); have r1 := Eb.at 1 rfl; clear hx0
  refine o1 r1 fun ρ q1 => ?_; go_simp;
  refine put_eq J ?_; rfl
 clear Eb
 refine Lm Ea 17 15 ?_ (fun hx K' J => ?_) (fun _ Eb => ?_); rotate_left 1
 ·have hx0 := hx; (try simp only [beq_iff_eq, Bool.and_eq_true, Bool.beq_true, Bool.beq_false, Bool.not_eq_true', beq_eq_false_iff_ne] at hx); have r16 := Ea.at 16 rfl; (try simp only [hx0, may_true] at r16); clear hx0
  refine o1 r16 fun ρ q16 => ?_; go_simp;
  refine put_eq J ?_; rfl
 clear Ea
 refine Late.mayw Eb (d' := 18) (by decide) (by (first | (simp only [List.getElem?_toArray, List.getElem?_cons_succ, List.getElem?_cons_zero]; rfl) | rfl)) rfl rfl (d := 15) (by kernel_rfl) rfl ?_ (fun hx K' J => ?_) (fun a_6 w3 hbw3 Ea => ?_); rotate_left 1
 ·have hx0 := hx; (try simp only [beq_iff_eq, Bool.and_eq_true, Bool.beq_true, Bool.beq_false, Bool.not_eq_true', beq_eq_false_iff_ne] at hx); have r17 := Eb.at 17 rfl; (try simp only [hx0, may_true] at r17); clear hx0
  refine o1 r17 fun ρ q17 => ?_; go_simp; (try go_bits);
  go_at_call 69; refine (areGroups_any A cap l _ hA2 hcap hl).mono ?_; rintro e w3 ⟨rfl, h3⟩; refine put_eqw J h3 ?_; rfl
 clear Eb
 refine Lm Ea 19 15 ?_ (fun hx K' J => ?_) (fun _ Eb => ?_); rotate_left 1
 ·have hx0 := hx; (try simp only [beq_iff_eq, Bool.and_eq_true, Bool.beq_true, Bool.beq_false, Bool.not_eq_true', beq_eq_false_iff_ne] at hx); have r18 := Ea.at 18 rfl; (try simp only [hx0, may_true] at r18); clear hx0
  refine o1 r18 fun ρ q18 => ?_; go_simp; (try go_bits); (try simp (disch := omega) only [IntWalk.i64_in]);
  refine put_eq J ?_; rfl
 clear Ea
 refine M2 Eb 15 19 fun K' J ρ q15 q19 => ?_; go_simp; (try go_bits)
 refine Ln Eb J fun _ Ea => ?_; clear J K' Eb q15 q19
 replace Ea := Ea.turn 20 (v' := .bool (!mb || !groupsB l)) rfl (by (cases mb <;> simp))
 refine M1 Ea 20 fun K' J ρ q20 => ?_; go_simp
 refine Ln Ea J fun _ Eb => ?_; clear J K' Ea q20
 have hCB3 := hCB.below hbw3; have nB3 := hCB3.1; have cB2 := hCB3.2 2 _ rfl
 refine Lm Eb 22 21 ?_ (fun hx K' J => ?_) (fun _ Ea => ?_); rotate_left 1
 ·have hx0 := hx; (try simp only [beq_iff_eq, Bool.and_eq_true, Bool.beq_true, Bool.beq_false, Bool.not_eq_true', beq_eq_false_iff_ne] at hx); have r1 := Eb.at 1 rfl; clear hx0
  refine o1 r1 fun ρ q1 => ?_; go_simp;
  refine put_eq J ?_; rfl
 clear Eb
 refine Lm Ea 23 21 ?_ (fun hx K' J => ?_) (fun _ Eb => ?_); rotate_left 1
 ·have hx0 := hx; (try simp only [beq_iff_eq, Bool.and_eq_true, Bool.beq_true, Bool.beq_false, Bool.not_eq_true', beq_eq_false_iff_ne] at hx); have r22 := Ea.at 22 rfl; (try simp only [hx0, may_true] at r22); clear hx0
  refine o1 r22 fun ρ q22 => ?_; go_simp;
  refine put_eq J ?_; rfl
 clear Ea
 refine Lm Eb 24 21 ?_ (fun hx K' J => ?_) (fun _ Ea => ?_); rotate_left 1
 ·have hx0 := hx; (try simp only [beq_iff_eq, Bool.and_eq_true, Bool.beq_true, Bool.beq_false, Bool.not_eq_true', beq_eq_false_iff_ne] at hx); have r23 := Eb.at 23 rfl; (try simp only [hx0, may_true] at r23); clear hx0
  refine o1 r23 fun ρ q23 => ?_; go_simp; (try go_bits);
  go_at_call 34; refine (within_any _ _ _ _).mono ?_; rintro e w4 ⟨rfl, rfl⟩; refine put_eq J ?_; rfl
 clear Eb
 refine Lm Ea 25 21 ?_ (fun hx K' J => ?_) (fun _ Eb => ?_); rotate_left 1
 ·have hx0 := hx; (try simp only [beq_iff_eq, Bool.and_eq_true, Bool.beq_true, Bool.beq_false, Bool.not_eq_true', beq_eq_false_iff_ne] at hx); have r24 := Ea.at 24 rfl; (try simp only [hx0, may_true] at r24); clear hx0
  refine o1 r24 fun ρ q24 => ?_; go_simp; (try go_bits); (try simp (disch := omega) only [IntWalk.i64_in]);
  refine put_eq J ?_; rfl
 clear Ea
 refine M2 Eb 21 25 fun K' J ρ q21 q25 => ?_; go_simp; (try go_bits)
 refine Ln Eb J fun _ Ea => ?_; clear J K' Eb q21 q25
 replace Ea := Ea.turn 26 (v' := .bool ((!mb || !groupsB l) || !(decide (0 ≤ sl) && decide (sl ≤ 3)))) rfl (by (cases mb <;> cases groupsB l <;> simp))
 refine Ld [26] Ea hK fun a hE => ?_; clear hK K Q' Ea
 have hb3 := hb2.trans (hbw3.mono hb2.size)
 have hok : Ear.ok ⟨l, m, sl⟩ = !((!mb || !groupsB l) || !(decide (0 ≤ sl) && decide (sl ≤ 3))) := by
  unfold Ear.ok
  rw [HM.out]
  cases mb <;> cases groupsB l <;> simp
 refine Ks ?_
 refine cond_part hE (t := 26) rfl (fun h => ?_) (fun h => ?_)
 ·refine Ks ?_
  refine Rs 1 fun Q' K hK => ?_
  refine M0 fun K' J ρ => ?_; go_simp;
  refine Ln hE J fun _ Eb => ?_; clear J K' hE a
  refine Ld [2] Eb hK fun a hE => ?_; clear hK K Q' Eb
  refine Ks ?_
  refine ret_one hE rfl rfl ⟨?_, hb3⟩
  rw [earE, hok, h]; rfl
 ·refine Ks ?_
  refine Rs 1 fun Q' K hK => ?_
  refine M0 fun K' J ρ => ?_; go_simp;
  refine Ln hE J fun _ Eb => ?_; clear J K' hE a
  refine Ld [2] Eb hK fun a hE => ?_; clear hK K Q' Eb
  refine Ks ?_
  refine ret_one hE rfl rfl ⟨?_, hb3⟩
  rw [earE, hok, h]; rfl
end Go.Proofs.YtbimkcjdodgojaaGreat
