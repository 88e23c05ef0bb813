/- Name: the reference's Pair, and the law's joins. -/
import Derived.Test.YtbimkcjdodgojaaNj
import Derived.Test.YtbimkcjdodgojaaNaa
namespace Go.Proofs.Ytbimkcjdodgojaa
set_option linter.unusedSimpArgs false
set_option linter.unusedVariables false
open Go Go.RowKit
attribute [local go_sem high] cell_set_wr
attribute [local go_sem low] cell_wr frozen_wr
attribute [local go_sem] wr_set wr_drew wr_drewN wr_alloc wr_new Rho.c Rho.n Rho.g

set_option maxRecDepth 100000 in
set_option maxHeartbeats 1000000 in
theorem rpair_any (A : Option Addr) (c : Nat) (t : Prs) (l : Nat) (w : World) (hA : Arr w w.heap.size A (pairsV t)) (ht : t.length ≤ 9223372036854775807) : Calls Try.prog 32 #[.slice A t.length c, .int .i64 l] w fun e w' => e = .returned (.int .i64 (matchP t l)) ∧ Below w.heap.size w w' := by
 refine enterE Try.func32 rfl Try.ntmps32 (by simp) (fun a hE => ?_); simp only [envOf, Nat.zero_add, Nat.reduceAdd] at hE
 refine Ks ?_
 refine Rs 1 fun Q' K hK => ?_
 refine M0 fun K' J ρ => ?_; go_simp;
 refine Ln hE J fun _ Eb => ?_; clear J K' hE a
 refine late_done [0, 1, 4] Eb hK (fun a hE => ?_); clear hK K Q' Eb; simp only [lk, pick, Nat.reduceEqDiff, ↓reduceIte] at hE
 refine Ks ?_
 refine Rs 1 fun Q' K hK => ?_
 refine M0 fun K' J ρ => ?_; go_simp;
 refine Ln hE J fun _ Eb => ?_; clear J K' hE a
 refine late_done [0, 1, 5] Eb hK (fun a hE => ?_); clear hK K Q' Eb; simp only [lk, pick, Nat.reduceEqDiff, ↓reduceIte] at hE
 refine Ks ?_
 refine loop_st (fun (k : Nat) a w' => k ≤ t.length ∧ Fits 36 [(0, .slice A t.length c), (1, .int .i64 l), (5, .int .i64 k)] a ∧ w = w' ∧ matchP (t.drop k) l = matchP t l) (fun k => t.length - k) 0 ?_ (fun k a w' hI => ?_)
 ·exact ⟨Nat.zero_le _, by simpa using hE, rfl, rfl⟩
 clear hE
 obtain ⟨hk, hE, rfl, hM⟩ := hI
 have HM := hid hM
 clear hM
 refine Ks ?_
 refine Rs 4 fun Q' K hK => ?_
 refine M1 hE 5 fun K' J ρ q5 => ?_; go_simp; (try clear q5)
 refine Ln hE J fun _ Eb => ?_; clear J K' hE a
 refine M1 Eb 0 fun K' J ρ q0 => ?_; go_simp; (try clear q0)
 refine Ln Eb J fun _ Ea => ?_; clear J K' Eb
 refine M1 Ea 7 fun K' J ρ q7 => ?_; go_simp; (try go_bits); (try clear q7)
 refine Ln Ea J fun _ Eb => ?_; clear J K' Ea
 refine M2 Eb 6 8 fun K' J ρ q6 q8 => ?_; go_simp; (try go_bits); (try clear q6 q8)
 refine Ln Eb J fun _ Ea => ?_; clear J K' Eb
 refine late_done [0, 1, 5, 9] Ea hK (fun a hE => ?_); clear hK K Q' Ea; simp only [lk, pick, Nat.reduceEqDiff, ↓reduceIte] at hE
 refine Ks ?_
 refine cond_part hE (t := 9) rfl (fun h => ?_) (fun h => ?_)
 ·have hlt : k < t.length := by have := of_decide_eq_true h; omega
  clear h
  have hltI : (k : Int) < t.length := by omega
  have hd := matchP_drop t k hlt l
  have HD := hid hd
  clear hd
  obtain ⟨b, o, rfl, hb, c0, c1⟩ := hA.pr hlt
  obtain ⟨p, hp⟩ : ∃ p, t[k] = p := ⟨_, rfl⟩
  rw [hp] at c0 c1
  have HP := hid hp
  clear hp
  refine Ks ?_
  refine Rs 7 fun Q' K hK => ?_
  refine M1 hE 0 fun K' J ρ q0 => ?_; go_simp; (try clear q0)
  refine Ln hE J fun _ Eb => ?_; clear J K' hE a
  refine M1 Eb 5 fun K' J ρ q5 => ?_; go_simp; (try clear q5)
  refine Ln Eb J fun _ Ea => ?_; clear J K' Eb
  refine M2 Ea 12 13 fun K' J ρ q12 q13 => ?_; go_simp; (try go_bits); (try clear q12 q13)
  refine Ln Ea J fun _ Eb => ?_; clear J K' Ea
  refine M1 Eb 14 fun K' J ρ q14 => ?_; go_simp; (try clear q14)
  refine Ln Eb J fun _ Ea => ?_; clear J K' Eb
  refine M1 Ea 15 fun K' J ρ q15 => ?_; go_simp; (try clear q15)
  refine Ln Ea J fun _ Eb => ?_; clear J K' Ea
  refine M1 Eb 1 fun K' J ρ q1 => ?_; go_simp; (try clear q1)
  refine Ln Eb J fun _ Ea => ?_; clear J K' Eb
  refine M2 Ea 16 17 fun K' J ρ q16 q17 => ?_; go_simp; (try go_bits); (try clear q16 q17)
  refine Ln Ea J fun _ Eb => ?_; clear J K' Ea
  refine late_done [0, 1, 5, 18] Eb hK (fun a hE => ?_); clear hK K Q' Eb; simp only [lk, pick, Nat.reduceEqDiff, ↓reduceIte] at hE
  refine Ks ?_
  refine cond_part hE (t := 18) rfl (fun h => ?_) (fun h => ?_)
  ·have hh : l = p.1 := by (have h' : ((p.1 : Int) = l) := (by simpa using h)); omega
   refine Ks ?_
   refine Rs 6 fun Q' K hK => ?_
   refine M1 hE 0 fun K' J ρ q0 => ?_; go_simp; (try clear q0)
   refine Ln hE J fun _ Eb => ?_; clear J K' hE a
   refine M1 Eb 5 fun K' J ρ q5 => ?_; go_simp; (try clear q5)
   refine Ln Eb J fun _ Ea => ?_; clear J K' Eb
   refine M2 Ea 19 20 fun K' J ρ q19 q20 => ?_; go_simp; (try go_bits); (try clear q19 q20)
   refine Ln Ea J fun _ Eb => ?_; clear J K' Ea
   refine M1 Eb 21 fun K' J ρ q21 => ?_; go_simp; (try clear q21)
   refine Ln Eb J fun _ Ea => ?_; clear J K' Eb
   refine M1 Ea 22 fun K' J ρ q22 => ?_; go_simp; (try clear q22)
   refine Ln Ea J fun _ Eb => ?_; clear J K' Ea
   refine M1 Eb 23 fun K' J ρ q23 => ?_; go_simp; (try clear q23)
   refine Ln Eb J fun _ Ea => ?_; clear J K' Eb
   refine late_done [4] Ea hK (fun a hE => ?_); clear hK K Q' Ea; simp only [lk, pick, Nat.reduceEqDiff, ↓reduceIte] at hE
   refine Ks ?_
   exact ret_one hE rfl rfl ⟨by rw [← HM.out, HD.out, HP.out, if_pos hh], Below.refl _ _⟩
  ·have hh : ¬ l = p.1 := by (have h' : ¬ ((p.1 : Int) = l) := (by simpa using h)); omega
   have HH := hid hh
   clear h hh
   refine Ks ?_
   refine Rs 7 fun Q' K hK => ?_
   refine M1 hE 0 fun K' J ρ q0 => ?_; go_simp; (try clear q0)
   refine Ln hE J fun _ Eb => ?_; clear J K' hE a
   refine M1 Eb 5 fun K' J ρ q5 => ?_; go_simp; (try clear q5)
   refine Ln Eb J fun _ Ea => ?_; clear J K' Eb
   refine M2 Ea 24 25 fun K' J ρ q24 q25 => ?_; go_simp; (try go_bits); (try clear q24 q25)
   refine Ln Ea J fun _ Eb => ?_; clear J K' Ea
   refine M1 Eb 26 fun K' J ρ q26 => ?_; go_simp; (try clear q26)
   refine Ln Eb J fun _ Ea => ?_; clear J K' Eb
   refine M1 Ea 27 fun K' J ρ q27 => ?_; go_simp; (try clear q27)
   refine Ln Ea J fun _ Eb => ?_; clear J K' Ea
   refine M1 Eb 1 fun K' J ρ q1 => ?_; go_simp; (try clear q1)
   refine Ln Eb J fun _ Ea => ?_; clear J K' Eb
   refine M2 Ea 28 29 fun K' J ρ q28 q29 => ?_; go_simp; (try go_bits); (try clear q28 q29)
   refine Ln Ea J fun _ Eb => ?_; clear J K' Ea
   refine late_done [0, 1, 5, 30] Eb hK (fun a hE => ?_); clear hK K Q' Eb; simp only [lk, pick, Nat.reduceEqDiff, ↓reduceIte] at hE
   refine Ks ?_
   refine cond_part hE (t := 30) rfl (fun h => ?_) (fun h => ?_)
   ·have hh : l = p.2 := by (have h' : ((p.2 : Int) = l) := (by simpa using h)); omega
    refine Ks ?_
    refine Rs 6 fun Q' K hK => ?_
    refine M1 hE 0 fun K' J ρ q0 => ?_; go_simp; (try clear q0)
    refine Ln hE J fun _ Eb => ?_; clear J K' hE a
    refine M1 Eb 5 fun K' J ρ q5 => ?_; go_simp; (try clear q5)
    refine Ln Eb J fun _ Ea => ?_; clear J K' Eb
    refine M2 Ea 31 32 fun K' J ρ q31 q32 => ?_; go_simp; (try go_bits); (try clear q31 q32)
    refine Ln Ea J fun _ Eb => ?_; clear J K' Ea
    refine M1 Eb 33 fun K' J ρ q33 => ?_; go_simp; (try clear q33)
    refine Ln Eb J fun _ Ea => ?_; clear J K' Eb
    refine M1 Ea 34 fun K' J ρ q34 => ?_; go_simp; (try clear q34)
    refine Ln Ea J fun _ Eb => ?_; clear J K' Ea
    refine M1 Eb 35 fun K' J ρ q35 => ?_; go_simp; (try clear q35)
    refine Ln Eb J fun _ Ea => ?_; clear J K' Eb
    refine late_done [4] Ea hK (fun a hE => ?_); clear hK K Q' Ea; simp only [lk, pick, Nat.reduceEqDiff, ↓reduceIte] at hE
    refine Ks ?_
    exact ret_one hE rfl rfl ⟨by rw [← HM.out, HD.out, HP.out, if_neg HH.out, if_pos hh], Below.refl _ _⟩
   ·have hh : ¬ l = p.2 := by (have h' : ¬ ((p.2 : Int) = l) := (by simpa using h)); omega
    refine Ks ?_
    refine Rs 3 fun Q' K hK => ?_
    refine M1 hE 5 fun K' J ρ q5 => ?_; go_simp; (try clear q5)
    refine Ln hE J fun _ Eb => ?_; clear J K' hE a
    refine M1 Eb 10 fun K' J ρ q10 => ?_; go_simp; (try go_bits); (try simp (disch := omega) only [IntWalk.i64_in]); (try clear q10)
    refine Ln Eb J fun _ Ea => ?_; clear J K' Eb
    refine M1 Ea 11 fun K' J ρ q11 => ?_; go_simp; (try clear q11)
    refine Ln Ea J fun _ Eb => ?_; clear J K' Ea
    refine late_done [0, 1, 5] Eb hK (fun a hE => ?_); clear hK K Q' Eb; simp only [lk, pick, Nat.reduceEqDiff, ↓reduceIte] at hE
    refine Ks ?_
    refine ⟨k + 1, ⟨hlt, by simpa using hE, rfl, ?_⟩, by omega⟩
    rw [← HM.out, HD.out, HP.out, if_neg HH.out, if_neg hh]
 ·have hkk : k = t.length := by have := of_decide_eq_false h; omega
  clear h
  refine Ks ?_
  refine Rs 1 fun Q' K hK => ?_
  refine M0 fun K' J ρ => ?_; go_simp;
  refine Ln hE J fun _ Eb => ?_; clear J K' hE a
  refine late_done [4] Eb hK (fun a hE => ?_); clear hK K Q' Eb; simp only [lk, pick, Nat.reduceEqDiff, ↓reduceIte] at hE
  refine Ks ?_
  exact ret_one hE rfl rfl ⟨by rw [← HM.out, hkk, List.drop_length]; rfl, Below.refl _ _⟩
/-- is a pair one of several? -/
def hasP (t : Prs) (p : Nat × Nat) : Bool := t.contains p
theorem has_take (t : Prs) (p : Nat × Nat) (k : Nat) (h : k < t.length) : hasP (t.take (k + 1)) p = (hasP (t.take k) p || (decide ((t[k].1 : Int) = p.1) && decide ((t[k].2 : Int) = p.2))) := by
 unfold hasP
 rw [List.take_succ_eq_append_getElem h, Bool.eq_iff_iff, Bool.or_eq_true, List.contains_iff_mem, List.contains_iff_mem, List.mem_append, List.mem_singleton, Bool.and_eq_true, decide_eq_true_eq, decide_eq_true_eq]
 constructor
 ·rintro (h1 | h1)
  ·exact .inl h1
  ·exact .inr ⟨by rw [← h1], by rw [← h1]⟩
 ·rintro (h1 | ⟨h1, h2⟩)
  ·exact .inl h1
  ·exact .inr (Prod.ext (by omega) (by omega))
set_option maxRecDepth 100000 in
set_option maxHeartbeats 1000000 in
theorem joins_any (A : Option Addr) (c : Nat) (t : Prs) (p : Nat × Nat) (w : World) (hA : Arr w w.heap.size A (pairsV t)) (ht : t.length ≤ 9223372036854775807) : Calls Try.prog 33 #[.slice A t.length c, .agg #[.int .i64 p.1, .int .i64 p.2]] w fun e w' => e = .returned (.bool (hasP t p)) ∧ Below w.heap.size w w' := by
 refine enterE Try.func33 rfl Try.ntmps33 (by simp) (fun a hE => ?_); simp only [envOf, Nat.zero_add, Nat.reduceAdd] at hE
 refine Ks ?_
 refine Rs 2 fun Q' K hK => ?_
 refine M1 hE 1 fun K' J ρ q1 => ?_; go_simp; (try clear q1)
 refine Ln hE J fun _ Eb => ?_; clear J K' hE a
 refine M0 fun K' J ρ => ?_; go_simp;
 refine Ln Eb J fun _ Ea => ?_; clear J K' Eb
 refine late_done [0, 3] Ea hK (fun a hE => ?_); clear hK K Q' Ea; simp only [lk, pick, Nat.reduceEqDiff, ↓reduceIte] at hE
 obtain ⟨B, hBe⟩ : ∃ B, B = w.heap.size := ⟨_, rfl⟩; rw [← hBe] at hE; refine world_cut (fun wt => Below w.heap.size w wt ∧ Cells wt B [.int .i64 p.1, .int .i64 p.2]) ⟨(Below.refl _ _).alloc (Nat.le_refl _) _, by rw [hBe]; exact cells_new _ _ _⟩ (fun w1 hCut => ?_); obtain ⟨hbw1, hCB⟩ := hCut; clear hBe
 refine Ks ?_
 refine Rs 1 fun Q' K hK => ?_
 refine M0 fun K' J ρ => ?_; go_simp;
 refine Ln hE J fun _ Eb => ?_; clear J K' hE a
 refine late_done [0, 3, 5] Eb hK (fun a hE => ?_); clear hK K Q' Eb; simp only [lk, pick, Nat.reduceEqDiff, ↓reduceIte] at hE
 refine Ks ?_
 refine Rs 1 fun Q' K hK => ?_
 refine M0 fun K' J ρ => ?_; go_simp;
 refine Ln hE J fun _ Eb => ?_; clear J K' hE a
 refine late_done [0, 3, 5, 6] Eb hK (fun a hE => ?_); clear hK K Q' Eb; simp only [lk, pick, Nat.reduceEqDiff, ↓reduceIte] at hE
 refine Ks ?_
 refine loop_st (fun (k : Nat) a w' => k ≤ t.length ∧ Fits 23 [(0, .slice A t.length c), (3, .pointer (some ⟨B, 0, none⟩)), (5, .bool (hasP (t.take k) p)), (6, .int .i64 k)] a ∧ Below w.heap.size w w' ∧ Cells w' B [.int .i64 p.1, .int .i64 p.2]) (fun k => t.length - k) 0 ⟨Nat.zero_le _, by rw [show hasP (t.take 0) p = false from rfl]; simpa using hE, hbw1, hCB⟩ (fun k a w' hI => ?_)
 clear hE hbw1 hCB
 obtain ⟨hk, hE, hW, hCB⟩ := hI
 refine Ks ?_
 refine Rs 4 fun Q' K hK => ?_
 refine M1 hE 6 fun K' J ρ q6 => ?_; go_simp; (try clear q6)
 refine Ln hE J fun _ Eb => ?_; clear J K' hE a
 refine M1 Eb 0 fun K' J ρ q0 => ?_; go_simp; (try clear q0)
 refine Ln Eb J fun _ Ea => ?_; clear J K' Eb
 refine M1 Ea 8 fun K' J ρ q8 => ?_; go_simp; (try go_bits); (try clear q8)
 refine Ln Ea J fun _ Eb => ?_; clear J K' Ea
 refine M2 Eb 7 9 fun K' J ρ q7 q9 => ?_; go_simp; (try go_bits); (try clear q7 q9)
 refine Ln Eb J fun _ Ea => ?_; clear J K' Eb
 refine late_done [0, 3, 5, 6, 10] Ea hK (fun a hE => ?_); clear hK K Q' Ea; simp only [lk, pick, Nat.reduceEqDiff, ↓reduceIte] at hE
 refine Ks ?_
 refine cond_part hE (t := 10) rfl (fun h => ?_) (fun h => ?_)
 ·have hlt : k < t.length := by have := of_decide_eq_true h; omega
  clear h
  have hltI : (k : Int) < t.length := by omega
  have HS := hid (has_take t p k hlt)
  obtain ⟨b, o, rfl, hb, c0, c1⟩ := (hA.below hW).pr hlt
  obtain ⟨q, hq⟩ : ∃ q, t[k] = q := ⟨_, rfl⟩
  rw [hq] at c0 c1 HS
  have hbw : b < w'.heap.size := Nat.lt_of_lt_of_le hb hW.size
  clear hq
  have nB := hCB.1; have cB0 := hCB.2 0 _ rfl; have cB1 := hCB.2 1 _ rfl
  refine Ks ?_
  cases hs : hasP (t.take k) p
  ·rw [hs] at hE HS
   refine Rd [9] (fun wt => Below w'.heap.size w' wt) (fun w1 w2 => Below w1.heap.size w1 w2) [(0, some 13), (1, some 14), (2, some 15), (3, some 16), (4, some 17), (5, some 18), (6, some 19), (7, some 20), (8, some 21)] [13, 14, 15, 16, 17, 18, 19, 20, 21] #[true, true, true, true, true, true, true, true, true, false] [0, 3, 5, 6] hE ((Below.refl _ _).drew) fun Q' K hK => ?_
   refine SeqOps.val ?_ (Sp fun ax wx hS hT' hd K' J => ?_) ?_; rotate_left 1
   ·have r5 := hS.at 5 (by decide) (hE.at 5 rfl); obtain ⟨hcT, hfT, hlT, hmT, hwT, hzT⟩ := bT hT'
    refine o1 r5 fun ρ q5 => ?_; go_simp;
    exact Jo J hT'
   refine SeqOps.val ?_ (Sp fun ax wx hS hT' hd K' J => ?_) ?_; rotate_left 1
   ·have r13 := Tv hd 0 0 13; obtain ⟨hcT, hfT, hlT, hmT, hwT, hzT⟩ := bT hT'
    refine o1 r13 fun ρ q13 => ?_; go_simp;
    exact Jo J hT'
   refine SeqOps.val ?_ (Sy 0 14 fun ax wx hS hT' hd K' J => ?_) ?_; rotate_left 1
   ·have r0 := hS.at 0 (by decide) (hE.at 0 rfl); obtain ⟨hcT, hfT, hlT, hmT, hwT, hzT⟩ := bT hT'
    refine o1 r0 fun ρ q0 => ?_; go_simp;
    exact Jo J hT'
   refine SeqOps.val ?_ (Sy 1 14 fun ax wx hS hT' hd K' J => ?_) ?_; rotate_left 1
   ·have r6 := hS.at 6 (by decide) (hE.at 6 rfl); obtain ⟨hcT, hfT, hlT, hmT, hwT, hzT⟩ := bT hT'
    refine o1 r6 fun ρ q6 => ?_; go_simp;
    exact Jo J hT'
   refine SeqOps.val ?_ (Sy 2 14 fun ax wx hS hT' hd K' J => ?_) ?_; rotate_left 1
   ·have r15 := Tv hd 1 2 15; have r16 := Tv hd 0 3 16; obtain ⟨hcT, hfT, hlT, hmT, hwT, hzT⟩ := bT hT'
    refine o2 r15 r16 fun ρ q15 q16 => ?_; go_simp; (try go_bits);
    exact Jo J hT'
   refine SeqOps.val ?_ (Sy 3 14 fun ax wx hS hT' hd K' J => ?_) ?_; rotate_left 1
   ·have r17 := Tv hd 0 4 17; obtain ⟨hcT, hfT, hlT, hmT, hwT, hzT⟩ := bT hT'
    refine o1 r17 fun ρ q17 => ?_; go_simp;
    exact Jo J hT'
   refine SeqOps.val ?_ (Sy 4 14 fun ax wx hS hT' hd K' J => ?_) ?_; rotate_left 1
   ·have r3 := hS.at 3 (by decide) (hE.at 3 rfl); obtain ⟨hcT, hfT, hlT, hmT, hwT, hzT⟩ := bT hT'
    refine o1 r3 fun ρ q3 => ?_; go_simp;
    exact Jo J hT'
   refine SeqOps.val ?_ (Sy 5 14 fun ax wx hS hT' hd K' J => ?_) ?_; rotate_left 1
   ·have r18 := Tv hd 1 5 18; have r19 := Tv hd 0 6 19; obtain ⟨hcT, hfT, hlT, hmT, hwT, hzT⟩ := bT hT'
    refine o2 r18 r19 fun ρ q18 q19 => ?_; go_simp; (try go_bits);
    rw [ite2_eq]
    refine J.out _ _ _ rfl ?_ hT' (Below.refl _ _); rfl
   refine SeqOps.val ?_ (Sp fun ax wx hS hT' hd K' J => ?_) ?_; rotate_left 1
   ·have r14 := Tv hd 6 1 14; have r20 := Tv hd 0 7 20; obtain ⟨hcT, hfT, hlT, hmT, hwT, hzT⟩ := bT hT'
    refine o2 r14 r20 fun ρ q14 q20 => ?_; go_simp; (try go_bits);
    exact Jo J hT'
   refine SeqOps.nil ?_
   intro w2 hBl; (repeat refine Ek ?_)
   refine fun ax hEx => ?_
   simp only [lk, pick, Nat.reduceEqDiff, ↓reduceIte] at hEx
   refine M1 hEx 21 fun K' J ρ q21 => ?_; go_simp; (try clear q21)
   refine Ln hEx J fun _ Eb => ?_; clear J K' hEx
   refine late_done [0, 3, 5, 6] Eb hK (fun a hE => ?_); clear hK K Q' Eb; simp only [lk, pick, Nat.reduceEqDiff, ↓reduceIte] at hE
   refine Ks ?_
   refine Rs 3 fun Q' K hK => ?_
   refine M1 hE 6 fun K' J ρ q6 => ?_; go_simp; (try clear q6)
   refine Ln hE J fun _ Eb => ?_; clear J K' hE a
   refine M1 Eb 11 fun K' J ρ q11 => ?_; go_simp; (try go_bits); (try simp (disch := omega) only [IntWalk.i64_in]); (try clear q11)
   refine Ln Eb J fun _ Ea => ?_; clear J K' Eb
   refine M1 Ea 12 fun K' J ρ q12 => ?_; go_simp; (try clear q12)
   refine Ln Ea J fun _ Eb => ?_; clear J K' Ea
   refine late_done [0, 3, 5, 6] Eb hK (fun a hE => ?_); clear hK K Q' Eb; simp only [lk, pick, Nat.reduceEqDiff, ↓reduceIte] at hE
   refine Ks ?_
   exact ⟨k + 1, ⟨hlt, by rw [HS.out]; simpa using hE, hW.trans (hBl.mono hW.size), hCB.below hBl⟩, by omega⟩
  ·rw [hs] at hE HS
   refine Rd [9] (fun wt => Below w'.heap.size w' wt) (fun w1 w2 => Below w1.heap.size w1 w2) [(0, some 13), (1, some 14), (2, some 15), (3, some 16), (4, some 17), (5, some 18), (6, some 19), (7, some 20), (8, some 21)] [13, 14, 15, 16, 17, 18, 19, 20, 21] #[true, true, true, true, true, true, true, true, true, false] [0, 3, 5, 6] hE ((Below.refl _ _).drew) fun Q' K hK => ?_
   refine SeqOps.val ?_ (Sp fun ax wx hS hT' hd K' J => ?_) ?_; rotate_left 1
   ·have r5 := hS.at 5 (by decide) (hE.at 5 rfl); obtain ⟨hcT, hfT, hlT, hmT, hwT, hzT⟩ := bT hT'
    refine o1 r5 fun ρ q5 => ?_; go_simp;
    exact Jo J hT'
   refine SeqOps.val ?_ (Sp fun ax wx hS hT' hd K' J => ?_) ?_; rotate_left 1
   ·have r13 := Tv hd 0 0 13; obtain ⟨hcT, hfT, hlT, hmT, hwT, hzT⟩ := bT hT'
    refine o1 r13 fun ρ q13 => ?_; go_simp;
    exact Jo J hT'
   refine SeqOps.val _ (StepOk.no (by (first | (simp only [List.getElem?_toArray, List.getElem?_cons_succ, List.getElem?_cons_zero]; rfl) | rfl)) rfl (e := 14) 0 rfl rfl (by kernel_rfl) (by kernel_rfl) (fun w => Below.refl _ _)) ?_
   refine SeqOps.val _ (StepOk.no (by (first | (simp only [List.getElem?_toArray, List.getElem?_cons_succ, List.getElem?_cons_zero]; rfl) | rfl)) rfl (e := 14) 1 rfl rfl (by kernel_rfl) (by kernel_rfl) (fun w => Below.refl _ _)) ?_
   refine SeqOps.val _ (StepOk.no (by (first | (simp only [List.getElem?_toArray, List.getElem?_cons_succ, List.getElem?_cons_zero]; rfl) | rfl)) rfl (e := 14) 2 rfl rfl (by kernel_rfl) (by kernel_rfl) (fun w => Below.refl _ _)) ?_
   refine SeqOps.val _ (StepOk.no (by (first | (simp only [List.getElem?_toArray, List.getElem?_cons_succ, List.getElem?_cons_zero]; rfl) | rfl)) rfl (e := 14) 3 rfl rfl (by kernel_rfl) (by kernel_rfl) (fun w => Below.refl _ _)) ?_
   refine SeqOps.val _ (StepOk.no (by (first | (simp only [List.getElem?_toArray, List.getElem?_cons_succ, List.getElem?_cons_zero]; rfl) | rfl)) rfl (e := 14) 4 rfl rfl (by kernel_rfl) (by kernel_rfl) (fun w => Below.refl _ _)) ?_
   refine SeqOps.val _ (StepOk.no (by (first | (simp only [List.getElem?_toArray, List.getElem?_cons_succ, List.getElem?_cons_zero]; rfl) | rfl)) rfl (e := 14) 5 rfl rfl (by kernel_rfl) (by kernel_rfl) (fun w => Below.refl _ _)) ?_
   refine SeqOps.val ?_ (Sp fun ax wx hS hT' hd K' J => ?_) ?_; rotate_left 1
   ·have r14 := Tv hd 6 1 14; have r20 := Tv hd 0 7 20; obtain ⟨hcT, hfT, hlT, hmT, hwT, hzT⟩ := bT hT'
    refine o2 r14 r20 fun ρ q14 q20 => ?_; go_simp; (try go_bits);
    exact Jo J hT'
   refine SeqOps.nil ?_
   intro w2 hBl; (repeat refine Ek ?_)
   refine fun ax hEx => ?_
   simp only [lk, pick, Nat.reduceEqDiff, ↓reduceIte] at hEx
   refine M1 hEx 21 fun K' J ρ q21 => ?_; go_simp; (try clear q21)
   refine Ln hEx J fun _ Eb => ?_; clear J K' hEx
   refine late_done [0, 3, 5, 6] Eb hK (fun a hE => ?_); clear hK K Q' Eb; simp only [lk, pick, Nat.reduceEqDiff, ↓reduceIte] at hE
   refine Ks ?_
   refine Rs 3 fun Q' K hK => ?_
   refine M1 hE 6 fun K' J ρ q6 => ?_; go_simp; (try clear q6)
   refine Ln hE J fun _ Eb => ?_; clear J K' hE a
   refine M1 Eb 11 fun K' J ρ q11 => ?_; go_simp; (try go_bits); (try simp (disch := omega) only [IntWalk.i64_in]); (try clear q11)
   refine Ln Eb J fun _ Ea => ?_; clear J K' Eb
   refine M1 Ea 12 fun K' J ρ q12 => ?_; go_simp; (try clear q12)
   refine Ln Ea J fun _ Eb => ?_; clear J K' Ea
   refine late_done [0, 3, 5, 6] Eb hK (fun a hE => ?_); clear hK K Q' Eb; simp only [lk, pick, Nat.reduceEqDiff, ↓reduceIte] at hE
   refine Ks ?_
   exact ⟨k + 1, ⟨hlt, by rw [HS.out]; simpa using hE, hW.trans (hBl.mono hW.size), hCB.below hBl⟩, by omega⟩
 ·have hkk : k = t.length := by have := of_decide_eq_false h; omega
  subst hkk
  clear h
  rw [List.take_length] at hE
  refine Ks ?_
  refine Rs 2 fun Q' K hK => ?_
  refine M1 hE 5 fun K' J ρ q5 => ?_; go_simp; (try clear q5)
  refine Ln hE J fun _ Eb => ?_; clear J K' hE a
  refine M1 Eb 22 fun K' J ρ q22 => ?_; go_simp; (try clear q22)
  refine Ln Eb J fun _ Ea => ?_; clear J K' Eb
  refine late_done [4] Ea hK (fun a hE => ?_); clear hK K Q' Ea; simp only [lk, pick, Nat.reduceEqDiff, ↓reduceIte] at hE
  refine Ks ?_
  exact ret_one hE rfl rfl ⟨rfl, hW⟩
end Go.Proofs.Ytbimkcjdodgojaa
