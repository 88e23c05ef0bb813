/- Name: the law of names that were heard, walked. -/
import Derived.Test.YtbimkcjdodgojaaNcp
import Derived.Test.YtbimkcjdodgojaaNcs
import Derived.Test.YtbimkcjdodgojaaNbe
import Derived.Test.YtbimkcjdodgojaaNbf
import Derived.Test.YtbimkcjdodgojaaNbi
import Derived.Test.YtbimkcjdodgojaaNbk
namespace Go.Proofs.Ytbimkcjdodgojaa
set_option linter.unusedSimpArgs false
set_option linter.unusedVariables false
open Go Go.RowKit
attribute [local go_sem high] cell_set_wr
attribute [local go_sem low] cell_wr frozen_wr
attribute [local go_sem] wr_set wr_drew wr_drewN wr_alloc wr_new Rho.c Rho.n Rho.g

theorem ok_passed {b : Bk} (ho : b.ok = true) {xs : List NLn} {lost : Int} (h9 : xs.length ≤ 9) (hl : ∀ x ∈ xs, lineB x = true) (h0 : 0 ≤ lost) (h1 : lost ≤ 9) : ({ b with lines := xs, lost := lost } : Bk).ok = true := by
 unfold Bk.ok headB at ho ⊢
 simp only [Bool.and_eq_true, decide_eq_true_eq, Bool.not_eq_true', decide_eq_false_iff_not, List.all_eq_true] at ho ⊢
 exact ⟨ho.1, ⟨⟨by omega, ho.2.1.1.2⟩, h0, h1⟩, hl⟩
theorem small_passed {b : Bk} {cap lcap cap' : Nat} (hs : b.small cap lcap) {xs : List NLn} {lost : Int} (h9 : xs.length ≤ 9) (hc : xs.length ≤ cap') (hl : ∀ x ∈ xs, lineB x = true) : ({ b with lines := xs, lost := lost } : Bk).small cap cap' := by
 obtain ⟨h1, h2, _, _, h5, _⟩ := hs
 refine ⟨h1, h2, hc, by show xs.length ≤ _; omega, h5, fun i hi => ?_⟩
 have h := hl _ (List.getElem_mem (l := xs) hi)
 unfold lineB at h
 simp only [Bool.and_eq_true] at h
 have := name_short h.2
 show xs[i].heard.size ≤ _
 omega
theorem true_pair {b : Bk} (ho : b.ok = true) {t : Prs} (ht : t ∈ b.ts) {p : Nat × Nat} (hp : p ∈ pJoinedL b) : hasP t p = true := by
 have hm := join_in ho ht hp
 have hok := ((mem_ts (sides_bk b) b.lost t).1 ht).1
 have hne : b.ts.length ≠ 0 := fun e => by rw [List.eq_nil_of_length_eq_zero e] at ht; cases ht
 have hset : setE b true = 0 := by rw [set_ok ho, if_neg hne]
 unfold pJoinedL at hp
 rw [hset, if_pos rfl] at hp
 have h2 := ((join_law (sides_bk b) b.ts p.1 p.2).1 hp).2.1
 unfold hasP
 rw [List.contains_iff_mem]
 rcases match_mem hm with h | h
 ·exact h
 ·exfalso
  have h3 := (sides_bk b _ _ (hok.firsts _ h).2.2.1).2.2.1
  have h4 := (sides_bk b _ _ h2).2.2.2
  simp only at h3
  rw [h3] at h4
  cases h4
theorem can_pair {b : Bk} (ho : b.ok = true) {t : Prs} (ht : t ∈ b.ts) {p : Nat × Nat} (hp : p ∈ t) : pCanR b p.1 p.2 = (true, 0) := by
 have hok := ((mem_ts (sides_bk b) b.lost t).1 ht).1
 obtain ⟨m1, m2, _, m4⟩ := (mem_coulds b p.1 p.2).1 (hok.firsts p hp).2.2.1
 rw [can_in ho m1 m2, m4]
section
variable (A : Option Addr) (cap : Nat) (L : Option Addr) (lcap : Nat) (b : Bk)
set_option maxRecDepth 100000 in
set_option maxHeartbeats 4000000 in
theorem true_loops (t K : Prs) (ht9 : t.length ≤ 9) (hK81 : K.length ≤ 81) (HJ : Hid (∀ k (hk : k < K.length), hasP t K[k] = true))
    (HC : Hid (∀ k (hk : k < t.length), ∀ W, BkAt W A L b → Calls Try.prog 23 #[.agg (bkV A cap L lcap b).toArray, .int .i64 t[k].1, .int .i64 t[k].2] W fun e w' => e = .returned (.tuple #[.bool true, .int .i64 0]) ∧ Below W.heap.size W w'))
    (HK : Hid (∀ k (hk : k < t.length), ∃ kk : Int, (kk = 1 ∨ kk = 2) ∧ ∀ W, BkAt W A L b → Calls Try.prog 24 #[.agg (bkV A cap L lcap b).toArray, .int .i64 t[k].1, .int .i64 t[k].2] W fun e w' => e = .returned (.tuple #[.int .i64 kk, .int .i64 0]) ∧ Below W.heap.size W w'))
    (O : Option Addr) (oc : Nat) (Z : Option Addr) (zc X : Nat) (w V : World) (hM : BkAt V A L b) (hb : Below w.heap.size w V) (hCX : Cells V X (bkV A cap L lcap b)) (hO : Arr V V.heap.size O (pairsV t)) (hZ : Arr V V.heap.size Z (pairsV K)) (a : Act)
    (hE : Fits 166 [(5, .pointer (some ⟨X, 0, none⟩)), (6, .slice O t.length oc), (9, .slice Z K.length zc)] a) :
    (cr 8 (bodyOf Try.f4)).wp Try.prog (bodyPost Try.prog Try.f4 fun e w' => e = .returned (.bool true) ∧ Below w.heap.size w w') a V := by
 simp only [bkV] at HC HK hCX
 refine wp_seq ?_; refine Ks ?_
 refine Rs 1 fun Q' K hK => ?_
 refine M0 fun K' J ρ => ?_; go_simp;
 refine Ln hE J fun _ Eb => ?_; clear J K' hE a
 refine late_done [5, 6, 9, 15] Eb hK (fun a hE => ?_); clear hK K Q' Eb; simp only [lk, pick, Nat.reduceEqDiff, ↓reduceIte] at hE
 refine Ks ?_
 refine loop_st (fun (k : Nat) a w' => k ≤ K.length ∧ Fits 166 [(5, .pointer (some ⟨X, 0, none⟩)), (6, .slice O t.length oc), (9, .slice Z K.length zc), (15, .int .i64 k)] a ∧ Below V.heap.size V w') (fun k => K.length - k) 0 ⟨Nat.zero_le _, by simpa using hE, Below.refl _ _⟩ (fun k a w' hI => ?_)
 clear hE
 obtain ⟨hk, hE, hW⟩ := hI
 refine Ks ?_
 refine Rs 4 fun Q' K hK => ?_
 refine M1 hE 15 fun K' J ρ q15 => ?_; go_simp; (try clear q15)
 refine Ln hE J fun _ Eb => ?_; clear J K' hE a
 refine M1 Eb 9 fun K' J ρ q9 => ?_; go_simp; (try clear q9)
 refine Ln Eb J fun _ Ea => ?_; clear J K' Eb
 refine M1 Ea 89 fun K' J ρ q89 => ?_; go_simp; (try go_bits); (try clear q89)
 refine Ln Ea J fun _ Eb => ?_; clear J K' Ea
 refine M2 Eb 88 90 fun K' J ρ q88 q90 => ?_; go_simp; (try go_bits); (try clear q88 q90)
 refine Ln Eb J fun _ Ea => ?_; clear J K' Eb
 refine late_done [5, 6, 9, 15, 91] Ea hK (fun a hE => ?_); clear hK K Q' Ea; simp only [lk, pick, Nat.reduceEqDiff, ↓reduceIte] at hE
 refine Ks ?_
 refine cond_part hE (t := 91) rfl (fun h => ?_) (fun h => ?_)
 ·have hlt : k < K.length := by have := of_decide_eq_true h; omega
  clear h
  have hltI : (k : Int) < K.length := by omega
  have hj := HJ.out k hlt
  have HZk := hid (fun W hW => ((hZ.below (w' := W) hW).more hW.size).pr hlt)
  obtain ⟨p, hp⟩ : ∃ p, K[k] = p := ⟨_, rfl⟩
  rw [hp] at hj HZk
  have HJ2 := hid hj
  clear hp hj
  refine Ks ?_
  refine Rs 1 fun Q' K hK => ?_
  refine M0 fun K' J ρ => ?_; go_simp;
  refine Ln hE J fun _ Eb => ?_; clear J K' hE a
  refine late_done [5, 6, 9, 15, 16] Eb hK (fun a hE => ?_); clear hK K Q' Eb; simp only [lk, pick, Nat.reduceEqDiff, ↓reduceIte] at hE
  refine Ks ?_
  refine Rs 1 fun Q' K hK => ?_
  refine M0 fun K' J ρ => ?_; go_simp;
  refine Ln hE J fun _ Eb => ?_; clear J K' hE a
  refine late_done [5, 6, 9, 15, 16, 17] Eb hK (fun a hE => ?_); clear hK K Q' Eb; simp only [lk, pick, Nat.reduceEqDiff, ↓reduceIte] at hE
  refine Ks ?_
  refine loop_st (fun (m : Nat) a w' => m ≤ t.length ∧ Fits 166 [(5, .pointer (some ⟨X, 0, none⟩)), (6, .slice O t.length oc), (9, .slice Z K.length zc), (15, .int .i64 k), (16, .bool (hasP (t.take m) p)), (17, .int .i64 m)] a ∧ Below V.heap.size V w') (fun m => t.length - m) 0 ⟨Nat.zero_le _, by rw [show hasP (t.take 0) p = false from rfl]; simpa using hE, hW⟩ (fun m a w' hI => ?_)
  clear hE hW
  obtain ⟨hm, hE, hW⟩ := hI
  refine Ks ?_
  refine Rs 4 fun Q' K hK => ?_
  refine M1 hE 17 fun K' J ρ q17 => ?_; go_simp; (try clear q17)
  refine Ln hE J fun _ Eb => ?_; clear J K' hE a
  refine M1 Eb 6 fun K' J ρ q6 => ?_; go_simp; (try clear q6)
  refine Ln Eb J fun _ Ea => ?_; clear J K' Eb
  refine M1 Ea 95 fun K' J ρ q95 => ?_; go_simp; (try go_bits); (try clear q95)
  refine Ln Ea J fun _ Eb => ?_; clear J K' Ea
  refine M2 Eb 94 96 fun K' J ρ q94 q96 => ?_; go_simp; (try go_bits); (try clear q94 q96)
  refine Ln Eb J fun _ Ea => ?_; clear J K' Eb
  refine late_done [5, 6, 9, 15, 16, 17, 97] Ea hK (fun a hE => ?_); clear hK K Q' Ea; simp only [lk, pick, Nat.reduceEqDiff, ↓reduceIte] at hE
  refine Ks ?_
  refine cond_part hE (t := 97) rfl (fun h => ?_) (fun h => ?_)
  ·have hmt : m < t.length := by have := of_decide_eq_true h; omega
   clear h
   have hmtI : (m : Int) < t.length := by omega
   have HS := hid (has_take t p m hmt)
   obtain ⟨ob, oo, rfl, hob, c0, c1⟩ := ((hO.below hW).more hW.size).pr hmt
   obtain ⟨zb, zo, rfl, hzb, z0, z1⟩ := HZk.out w' hW
   obtain ⟨q, hq⟩ : ∃ q, t[m] = q := ⟨_, rfl⟩
   rw [hq] at c0 c1 HS
   clear hq
   refine Ks ?_
   cases hs : hasP (t.take m) p
   ·rw [hs] at hE HS
    refine Rd [12] (fun wt => Below w'.heap.size w' wt) (fun w1 w2 => Below w1.heap.size w1 w2) [(0, some 100), (1, some 101), (2, some 102), (3, some 103), (4, some 104), (5, some 105), (6, some 106), (7, some 107), (8, some 108), (9, some 109), (10, some 110), (11, some 111)] [100, 101, 102, 103, 104, 105, 106, 107, 108, 109, 110, 111] #[true, true, true, true, true, true, true, true, true, true, true, true, false] [5, 6, 9, 15, 16, 17] hE ((Below.refl _ _).drew) fun Q' K hK => ?_
    refine SeqOps.val ?_ (Sp fun ax wx hS hT' hd K' J => ?_) ?_; rotate_left 1
    ·have r16 := hS.at 16 (by decide) (hE.at 16 rfl); obtain ⟨hcT, hfT, hlT, hmT, hwT, hzT⟩ := bT hT'
     refine o1 r16 fun ρ q16 => ?_; go_simp;
     exact Jo J hT'
    refine SeqOps.val ?_ (Sp fun ax wx hS hT' hd K' J => ?_) ?_; rotate_left 1
    ·have r100 := Tv hd 0 0 100; obtain ⟨hcT, hfT, hlT, hmT, hwT, hzT⟩ := bT hT'
     refine o1 r100 fun ρ q100 => ?_; go_simp;
     exact Jo J hT'
    refine SeqOps.val ?_ (Sy 0 101 fun ax wx hS hT' hd K' J => ?_) ?_; rotate_left 1
    ·have r6 := hS.at 6 (by decide) (hE.at 6 rfl); obtain ⟨hcT, hfT, hlT, hmT, hwT, hzT⟩ := bT hT'
     refine o1 r6 fun ρ q6 => ?_; go_simp;
     exact Jo J hT'
    refine SeqOps.val ?_ (Sy 1 101 fun ax wx hS hT' hd K' J => ?_) ?_; rotate_left 1
    ·have r17 := hS.at 17 (by decide) (hE.at 17 rfl); obtain ⟨hcT, hfT, hlT, hmT, hwT, hzT⟩ := bT hT'
     refine o1 r17 fun ρ q17 => ?_; go_simp;
     exact Jo J hT'
    refine SeqOps.val ?_ (Sy 2 101 fun ax wx hS hT' hd K' J => ?_) ?_; rotate_left 1
    ·have r102 := Tv hd 1 2 102; have r103 := Tv hd 0 3 103; obtain ⟨hcT, hfT, hlT, hmT, hwT, hzT⟩ := bT hT'
     refine o2 r102 r103 fun ρ q102 q103 => ?_; go_simp; (try go_bits);
     exact Jo J hT'
    refine SeqOps.val ?_ (Sy 3 101 fun ax wx hS hT' hd K' J => ?_) ?_; rotate_left 1
    ·have r104 := Tv hd 0 4 104; obtain ⟨hcT, hfT, hlT, hmT, hwT, hzT⟩ := bT hT'
     refine o1 r104 fun ρ q104 => ?_; go_simp;
     exact Jo J hT'
    refine SeqOps.val ?_ (Sy 4 101 fun ax wx hS hT' hd K' J => ?_) ?_; rotate_left 1
    ·have r9 := hS.at 9 (by decide) (hE.at 9 rfl); obtain ⟨hcT, hfT, hlT, hmT, hwT, hzT⟩ := bT hT'
     refine o1 r9 fun ρ q9 => ?_; go_simp;
     exact Jo J hT'
    refine SeqOps.val ?_ (Sy 5 101 fun ax wx hS hT' hd K' J => ?_) ?_; rotate_left 1
    ·have r15 := hS.at 15 (by decide) (hE.at 15 rfl); obtain ⟨hcT, hfT, hlT, hmT, hwT, hzT⟩ := bT hT'
     refine o1 r15 fun ρ q15 => ?_; go_simp;
     exact Jo J hT'
    refine SeqOps.val ?_ (Sy 6 101 fun ax wx hS hT' hd K' J => ?_) ?_; rotate_left 1
    ·have r106 := Tv hd 1 6 106; have r107 := Tv hd 0 7 107; obtain ⟨hcT, hfT, hlT, hmT, hwT, hzT⟩ := bT hT'
     refine o2 r106 r107 fun ρ q106 q107 => ?_; go_simp; (try go_bits);
     exact Jo J hT'
    refine SeqOps.val ?_ (Sy 7 101 fun ax wx hS hT' hd K' J => ?_) ?_; rotate_left 1
    ·have r108 := Tv hd 0 8 108; obtain ⟨hcT, hfT, hlT, hmT, hwT, hzT⟩ := bT hT'
     refine o1 r108 fun ρ q108 => ?_; go_simp;
     exact Jo J hT'
    refine SeqOps.val ?_ (Sy 8 101 fun ax wx hS hT' hd K' J => ?_) ?_; rotate_left 1
    ·have r105 := Tv hd 4 5 105; have r109 := Tv hd 0 9 109; obtain ⟨hcT, hfT, hlT, hmT, hwT, hzT⟩ := bT hT'
     refine o2 r105 r109 fun ρ q105 q109 => ?_; go_simp; (try go_bits);
     rw [ite2_eq]
     refine J.out _ _ _ rfl ?_ hT' (Below.refl _ _); rfl
    refine SeqOps.val ?_ (Sp fun ax wx hS hT' hd K' J => ?_) ?_; rotate_left 1
    ·have r101 := Tv hd 9 1 101; have r110 := Tv hd 0 10 110; obtain ⟨hcT, hfT, hlT, hmT, hwT, hzT⟩ := bT hT'
     refine o2 r101 r110 fun ρ q101 q110 => ?_; go_simp; (try go_bits);
     exact Jo J hT'
    refine SeqOps.nil ?_
    intro w2 hBl; (repeat refine Ek ?_)
    refine fun ax hEx => ?_
    simp only [lk, pick, Nat.reduceEqDiff, ↓reduceIte] at hEx
    refine M1 hEx 111 fun K' J ρ q111 => ?_; go_simp; (try clear q111)
    refine Ln hEx J fun _ Eb => ?_; clear J K' hEx
    refine late_done [5, 6, 9, 15, 16, 17] Eb hK (fun a hE => ?_); clear hK K Q' Eb; simp only [lk, pick, Nat.reduceEqDiff, ↓reduceIte] at hE
    refine Ks ?_
    refine Rs 3 fun Q' K hK => ?_
    refine M1 hE 17 fun K' J ρ q17 => ?_; go_simp; (try clear q17)
    refine Ln hE J fun _ Eb => ?_; clear J K' hE a
    refine M1 Eb 98 fun K' J ρ q98 => ?_; go_simp; (try go_bits); (try simp (disch := omega) only [IntWalk.i64_in]); (try clear q98)
    refine Ln Eb J fun _ Ea => ?_; clear J K' Eb
    refine M1 Ea 99 fun K' J ρ q99 => ?_; go_simp; (try clear q99)
    refine Ln Ea J fun _ Eb => ?_; clear J K' Ea
    refine late_done [5, 6, 9, 15, 16, 17] Eb hK (fun a hE => ?_); clear hK K Q' Eb; simp only [lk, pick, Nat.reduceEqDiff, ↓reduceIte] at hE
    refine Ks ?_
    exact ⟨m + 1, ⟨hmt, by rw [HS.out]; simpa using hE, hW.trans (hBl.mono hW.size)⟩, by omega⟩
   ·rw [hs] at hE HS
    refine Rd [12] (fun wt => Below w'.heap.size w' wt) (fun w1 w2 => Below w1.heap.size w1 w2) [(0, some 100), (1, some 101), (2, some 102), (3, some 103), (4, some 104), (5, some 105), (6, some 106), (7, some 107), (8, some 108), (9, some 109), (10, some 110), (11, some 111)] [100, 101, 102, 103, 104, 105, 106, 107, 108, 109, 110, 111] #[true, true, true, true, true, true, true, true, true, true, true, true, false] [5, 6, 9, 15, 16, 17] hE ((Below.refl _ _).drew) fun Q' K hK => ?_
    refine SeqOps.val ?_ (Sp fun ax wx hS hT' hd K' J => ?_) ?_; rotate_left 1
    ·have r16 := hS.at 16 (by decide) (hE.at 16 rfl); obtain ⟨hcT, hfT, hlT, hmT, hwT, hzT⟩ := bT hT'
     refine o1 r16 fun ρ q16 => ?_; go_simp;
     exact Jo J hT'
    refine SeqOps.val ?_ (Sp fun ax wx hS hT' hd K' J => ?_) ?_; rotate_left 1
    ·have r100 := Tv hd 0 0 100; obtain ⟨hcT, hfT, hlT, hmT, hwT, hzT⟩ := bT hT'
     refine o1 r100 fun ρ q100 => ?_; go_simp;
     exact Jo J hT'
    refine SeqOps.val _ (StepOk.no (by (first | (simp only [List.getElem?_toArray, List.getElem?_cons_succ, List.getElem?_cons_zero]; rfl) | rfl)) rfl (e := 101) 0 rfl rfl (by kernel_rfl) (by kernel_rfl) (fun w => Below.refl _ _)) ?_
    refine SeqOps.val _ (StepOk.no (by (first | (simp only [List.getElem?_toArray, List.getElem?_cons_succ, List.getElem?_cons_zero]; rfl) | rfl)) rfl (e := 101) 1 rfl rfl (by kernel_rfl) (by kernel_rfl) (fun w => Below.refl _ _)) ?_
    refine SeqOps.val _ (StepOk.no (by (first | (simp only [List.getElem?_toArray, List.getElem?_cons_succ, List.getElem?_cons_zero]; rfl) | rfl)) rfl (e := 101) 2 rfl rfl (by kernel_rfl) (by kernel_rfl) (fun w => Below.refl _ _)) ?_
    refine SeqOps.val _ (StepOk.no (by (first | (simp only [List.getElem?_toArray, List.getElem?_cons_succ, List.getElem?_cons_zero]; rfl) | rfl)) rfl (e := 101) 3 rfl rfl (by kernel_rfl) (by kernel_rfl) (fun w => Below.refl _ _)) ?_
    refine SeqOps.val _ (StepOk.no (by (first | (simp only [List.getElem?_toArray, List.getElem?_cons_succ, List.getElem?_cons_zero]; rfl) | rfl)) rfl (e := 101) 4 rfl rfl (by kernel_rfl) (by kernel_rfl) (fun w => Below.refl _ _)) ?_
    refine SeqOps.val _ (StepOk.no (by (first | (simp only [List.getElem?_toArray, List.getElem?_cons_succ, List.getElem?_cons_zero]; rfl) | rfl)) rfl (e := 101) 5 rfl rfl (by kernel_rfl) (by kernel_rfl) (fun w => Below.refl _ _)) ?_
    refine SeqOps.val _ (StepOk.no (by (first | (simp only [List.getElem?_toArray, List.getElem?_cons_succ, List.getElem?_cons_zero]; rfl) | rfl)) rfl (e := 101) 6 rfl rfl (by kernel_rfl) (by kernel_rfl) (fun w => Below.refl _ _)) ?_
    refine SeqOps.val _ (StepOk.no (by (first | (simp only [List.getElem?_toArray, List.getElem?_cons_succ, List.getElem?_cons_zero]; rfl) | rfl)) rfl (e := 101) 7 rfl rfl (by kernel_rfl) (by kernel_rfl) (fun w => Below.refl _ _)) ?_
    refine SeqOps.val _ (StepOk.no (by (first | (simp only [List.getElem?_toArray, List.getElem?_cons_succ, List.getElem?_cons_zero]; rfl) | rfl)) rfl (e := 101) 8 rfl rfl (by kernel_rfl) (by kernel_rfl) (fun w => Below.refl _ _)) ?_
    refine SeqOps.val ?_ (Sp fun ax wx hS hT' hd K' J => ?_) ?_; rotate_left 1
    ·have r101 := Tv hd 9 1 101; have r110 := Tv hd 0 10 110; obtain ⟨hcT, hfT, hlT, hmT, hwT, hzT⟩ := bT hT'
     refine o2 r101 r110 fun ρ q101 q110 => ?_; go_simp; (try go_bits);
     exact Jo J hT'
    refine SeqOps.nil ?_
    intro w2 hBl; (repeat refine Ek ?_)
    refine fun ax hEx => ?_
    simp only [lk, pick, Nat.reduceEqDiff, ↓reduceIte] at hEx
    refine M1 hEx 111 fun K' J ρ q111 => ?_; go_simp; (try clear q111)
    refine Ln hEx J fun _ Eb => ?_; clear J K' hEx
    refine late_done [5, 6, 9, 15, 16, 17] Eb hK (fun a hE => ?_); clear hK K Q' Eb; simp only [lk, pick, Nat.reduceEqDiff, ↓reduceIte] at hE
    refine Ks ?_
    refine Rs 3 fun Q' K hK => ?_
    refine M1 hE 17 fun K' J ρ q17 => ?_; go_simp; (try clear q17)
    refine Ln hE J fun _ Eb => ?_; clear J K' hE a
    refine M1 Eb 98 fun K' J ρ q98 => ?_; go_simp; (try go_bits); (try simp (disch := omega) only [IntWalk.i64_in]); (try clear q98)
    refine Ln Eb J fun _ Ea => ?_; clear J K' Eb
    refine M1 Ea 99 fun K' J ρ q99 => ?_; go_simp; (try clear q99)
    refine Ln Ea J fun _ Eb => ?_; clear J K' Ea
    refine late_done [5, 6, 9, 15, 16, 17] Eb hK (fun a hE => ?_); clear hK K Q' Eb; simp only [lk, pick, Nat.reduceEqDiff, ↓reduceIte] at hE
    refine Ks ?_
    exact ⟨m + 1, ⟨hmt, by rw [HS.out]; simpa using hE, hW.trans (hBl.mono hW.size)⟩, by omega⟩
  ·have hmm : m = t.length := by have := of_decide_eq_false h; omega
   subst hmm
   clear h hm
   rw [List.take_length, HJ2.out] at hE
   refine KsE ?_
   refine Ks ?_
   refine Rs 2 fun Q' K hK => ?_
   refine M1 hE 16 fun K' J ρ q16 => ?_; go_simp; (try clear q16)
   refine Ln hE J fun _ Eb => ?_; clear J K' hE a
   refine M1 Eb 112 fun K' J ρ q112 => ?_; go_simp; (try go_bits); (try simp (disch := omega) only [IntWalk.i64_in]); (try clear q112)
   refine Ln Eb J fun _ Ea => ?_; clear J K' Eb
   replace Ea := Ea.turn 113 (v' := .bool false) rfl (by (first | rfl | simp))
   refine late_done [5, 6, 9, 15, 113] Ea hK (fun a hE => ?_); clear hK K Q' Ea; simp only [lk, pick, Nat.reduceEqDiff, ↓reduceIte] at hE
   refine Ks ?_
   refine cond_no hE (t := 113) rfl ?_
   refine Ks ?_
   refine Rs 3 fun Q' K hK => ?_
   refine M1 hE 15 fun K' J ρ q15 => ?_; go_simp; (try clear q15)
   refine Ln hE J fun _ Eb => ?_; clear J K' hE a
   refine M1 Eb 92 fun K' J ρ q92 => ?_; go_simp; (try go_bits); (try simp (disch := omega) only [IntWalk.i64_in]); (try clear q92)
   refine Ln Eb J fun _ Ea => ?_; clear J K' Eb
   refine M1 Ea 93 fun K' J ρ q93 => ?_; go_simp; (try clear q93)
   refine Ln Ea J fun _ Eb => ?_; clear J K' Ea
   refine late_done [5, 6, 9, 15] Eb hK (fun a hE => ?_); clear hK K Q' Eb; simp only [lk, pick, Nat.reduceEqDiff, ↓reduceIte] at hE
   refine Ks ?_
   exact ⟨k + 1, ⟨hlt, by simpa using hE, hW⟩, by omega⟩
 ·clear h hk
  refine KsE ?_
  refine Ks ?_
  refine Rs 1 fun Q' K hK => ?_
  refine M0 fun K' J ρ => ?_; go_simp;
  refine Ln hE J fun _ Eb => ?_; clear J K' hE a
  refine late_done [5, 6, 18] Eb hK (fun a hE => ?_); clear hK K Q' Eb; simp only [lk, pick, Nat.reduceEqDiff, ↓reduceIte] at hE
  refine Ks ?_
  refine loop_st (fun (k : Nat) a w' => k ≤ t.length ∧ Fits 166 [(5, .pointer (some ⟨X, 0, none⟩)), (6, .slice O t.length oc), (18, .int .i64 k)] a ∧ Below V.heap.size V w') (fun k => t.length - k) 0 ⟨Nat.zero_le _, by simpa using hE, hW⟩ (fun k a w' hI => ?_)
  clear hE hW
  obtain ⟨hk, hE, hW⟩ := hI
  refine Ks ?_
  refine Rs 4 fun Q' K hK => ?_
  refine M1 hE 18 fun K' J ρ q18 => ?_; go_simp; (try clear q18)
  refine Ln hE J fun _ Eb => ?_; clear J K' hE a
  refine M1 Eb 6 fun K' J ρ q6 => ?_; go_simp; (try clear q6)
  refine Ln Eb J fun _ Ea => ?_; clear J K' Eb
  refine M1 Ea 115 fun K' J ρ q115 => ?_; go_simp; (try go_bits); (try clear q115)
  refine Ln Ea J fun _ Eb => ?_; clear J K' Ea
  refine M2 Eb 114 116 fun K' J ρ q114 q116 => ?_; go_simp; (try go_bits); (try clear q114 q116)
  refine Ln Eb J fun _ Ea => ?_; clear J K' Eb
  refine late_done [5, 6, 18, 117] Ea hK (fun a hE => ?_); clear hK K Q' Ea; simp only [lk, pick, Nat.reduceEqDiff, ↓reduceIte] at hE
  refine Ks ?_
  refine cond_part hE (t := 117) rfl (fun h => ?_) (fun h => ?_)
  ·have hlt : k < t.length := by have := of_decide_eq_true h; omega
   clear h
   have hltI : (k : Int) < t.length := by omega
   have hM' := hM.below hW
   have hC' := hCX.below hW
   obtain ⟨ob, oo, rfl, hob, p0, p1⟩ := ((hO.below hW).more hW.size).pr hlt
   have hcc := HC.out k hlt
   obtain ⟨kk, hkk, hkc⟩ := HK.out k hlt
   obtain ⟨p, hp⟩ : ∃ p, t[k] = p := ⟨_, rfl⟩
   rw [hp] at p0 p1 hcc hkc
   have HCC := hid hcc
   have HKC := hid hkc
   have HKK := hid hkk
   clear hp hkc hkk hcc
   have nX := hC'.1
   have cX0 := hC'.2 0 _ rfl
   have cX1 := hC'.2 1 _ rfl
   have cX2 := hC'.2 2 _ rfl
   have cX3 := hC'.2 3 _ rfl
   have cX4 := hC'.2 4 _ rfl
   have cX5 := hC'.2 5 _ rfl
   have cX6 := hC'.2 6 _ rfl
   refine Ks ?_
   refine Rd [16] (fun wt => Below w'.heap.size w' wt) (fun w1 w2 => Below w1.heap.size w1 w2) [(0, some 121), (1, some 122), (2, some 123), (3, some 124), (4, some 125), (5, some 126), (6, some 127), (7, some 128), (8, some 129), (9, some 130), (10, some 131), (11, some 132), (12, some 120), (13, some 133), (14, some 134), (15, some 19)] [121, 122, 123, 124, 125, 126, 127, 128, 129, 130, 131, 132, 120, 133, 134, 19] #[true, true, true, true, true, true, true, true, true, true, true, true, true, true, true, true, false] [5, 6, 18, 20] hE ((Below.refl _ _).drew) fun Q' K hK => ?_
   refine SeqOps.val ?_ (Sp fun ax wx hS hT' hd K' J => ?_) ?_; rotate_left 1
   ·have r5 := hS.at 5 (by decide) (hE.at 5 rfl); obtain ⟨hcT, hfT, hlT, hmT, hwT, hzT⟩ := bT hT'
    refine o1 r5 fun ρ q5 => ?_; go_simp;
    exact Jo J hT'
   refine SeqOps.val ?_ (Sp fun ax wx hS hT' hd K' J => ?_) ?_; rotate_left 1
   ·have r6 := hS.at 6 (by decide) (hE.at 6 rfl); obtain ⟨hcT, hfT, hlT, hmT, hwT, hzT⟩ := bT hT'
    refine o1 r6 fun ρ q6 => ?_; go_simp;
    exact Jo J hT'
   refine SeqOps.val ?_ (Sp fun ax wx hS hT' hd K' J => ?_) ?_; rotate_left 1
   ·have r18 := hS.at 18 (by decide) (hE.at 18 rfl); obtain ⟨hcT, hfT, hlT, hmT, hwT, hzT⟩ := bT hT'
    refine o1 r18 fun ρ q18 => ?_; go_simp;
    exact Jo J hT'
   refine SeqOps.val ?_ (Sp fun ax wx hS hT' hd K' J => ?_) ?_; rotate_left 1
   ·have r122 := Tv hd 1 1 122; have r123 := Tv hd 0 2 123; obtain ⟨hcT, hfT, hlT, hmT, hwT, hzT⟩ := bT hT'
    refine o2 r122 r123 fun ρ q122 q123 => ?_; go_simp; (try go_bits);
    exact Jo J hT'
   refine SeqOps.val ?_ (Sp fun ax wx hS hT' hd K' J => ?_) ?_; rotate_left 1
   ·have r124 := Tv hd 0 3 124; obtain ⟨hcT, hfT, hlT, hmT, hwT, hzT⟩ := bT hT'
    refine o1 r124 fun ρ q124 => ?_; go_simp;
    exact Jo J hT'
   refine SeqOps.val ?_ (Sp fun ax wx hS hT' hd K' J => ?_) ?_; rotate_left 1
   ·have r125 := Tv hd 0 4 125; obtain ⟨hcT, hfT, hlT, hmT, hwT, hzT⟩ := bT hT'
    refine o1 r125 fun ρ q125 => ?_; go_simp;
    exact Jo J hT'
   refine SeqOps.val ?_ (Sp fun ax wx hS hT' hd K' J => ?_) ?_; rotate_left 1
   ·have r6 := hS.at 6 (by decide) (hE.at 6 rfl); obtain ⟨hcT, hfT, hlT, hmT, hwT, hzT⟩ := bT hT'
    refine o1 r6 fun ρ q6 => ?_; go_simp;
    exact Jo J hT'
   refine SeqOps.val ?_ (Sp fun ax wx hS hT' hd K' J => ?_) ?_; rotate_left 1
   ·have r18 := hS.at 18 (by decide) (hE.at 18 rfl); obtain ⟨hcT, hfT, hlT, hmT, hwT, hzT⟩ := bT hT'
    refine o1 r18 fun ρ q18 => ?_; go_simp;
    exact Jo J hT'
   refine SeqOps.val ?_ (Sp fun ax wx hS hT' hd K' J => ?_) ?_; rotate_left 1
   ·have r127 := Tv hd 1 6 127; have r128 := Tv hd 0 7 128; obtain ⟨hcT, hfT, hlT, hmT, hwT, hzT⟩ := bT hT'
    refine o2 r127 r128 fun ρ q127 q128 => ?_; go_simp; (try go_bits);
    exact Jo J hT'
   refine SeqOps.val ?_ (Sp fun ax wx hS hT' hd K' J => ?_) ?_; rotate_left 1
   ·have r129 := Tv hd 0 8 129; obtain ⟨hcT, hfT, hlT, hmT, hwT, hzT⟩ := bT hT'
    refine o1 r129 fun ρ q129 => ?_; go_simp;
    exact Jo J hT'
   refine SeqOps.val ?_ (Sp fun ax wx hS hT' hd K' J => ?_) ?_; rotate_left 1
   ·have r130 := Tv hd 0 9 130; obtain ⟨hcT, hfT, hlT, hmT, hwT, hzT⟩ := bT hT'
    refine o1 r130 fun ρ q130 => ?_; go_simp;
    exact Jo J hT'
   refine SeqOps.val ?_ (Sp fun ax wx hS hT' hd K' J => ?_) ?_; rotate_left 1
   ·have r121 := Tv hd 10 0 121; have r126 := Tv hd 5 5 126; have r131 := Tv hd 0 10 131; obtain ⟨hcT, hfT, hlT, hmT, hwT, hzT⟩ := bT hT'
    refine o3 r121 r126 r131 fun ρ q121 q126 q131 => ?_; go_simp; (try go_bits);
    go_at_call 23; refine (HCC.out _ (hM'.below hT')).mono ?_; rintro e g1 ⟨rfl, k1⟩
    refine J.out _ _ _ rfl ?_ (hT'.trans (k1.mono hT'.size)) k1; rfl
   refine SeqOps.val ?_ (Sp fun ax wx hS hT' hd K' J => ?_) ?_; rotate_left 1
   ·have r132 := Tv hd 0 11 132; obtain ⟨hcT, hfT, hlT, hmT, hwT, hzT⟩ := bT hT'
    refine o1 r132 fun ρ q132 => ?_; go_simp;
    exact Jo J hT'
   refine SeqOps.val ?_ (Sp fun ax wx hS hT' hd K' J => ?_) ?_; rotate_left 1
   ·have r120 := Tv hd 0 12 120; obtain ⟨hcT, hfT, hlT, hmT, hwT, hzT⟩ := bT hT'
    refine o1 r120 fun ρ q120 => ?_; go_simp;
    exact Jo J hT'
   refine SeqOps.val ?_ (Sp fun ax wx hS hT' hd K' J => ?_) ?_; rotate_left 1
   ·have r120 := Tv hd 1 12 120; obtain ⟨hcT, hfT, hlT, hmT, hwT, hzT⟩ := bT hT'
    refine o1 r120 fun ρ q120 => ?_; go_simp;
    exact Jo J hT'
   refine SeqOps.val ?_ (Sp fun ax wx hS hT' hd K' J => ?_) ?_; rotate_left 1
   ·have r133 := Tv hd 1 13 133; obtain ⟨hcT, hfT, hlT, hmT, hwT, hzT⟩ := bT hT'
    refine o1 r133 fun ρ q133 => ?_; go_simp;
    exact Jo J hT'
   refine SeqOps.nil ?_
   intro w2 hBl; (repeat refine Ek ?_)
   refine fun ax hEx => ?_
   simp only [lk, pick, Nat.reduceEqDiff, ↓reduceIte] at hEx
   refine M1 hEx 134 fun K' J ρ q134 => ?_; go_simp; (try clear q134)
   refine Ln hEx J fun _ Eb => ?_; clear J K' hEx
   refine late_done [5, 6, 18, 19, 20] Eb hK (fun a hE => ?_); clear hK K Q' Eb; simp only [lk, pick, Nat.reduceEqDiff, ↓reduceIte] at hE
   have hW2 := hW.trans (hBl.mono hW.size)
   have hM2 := hM'.below hBl
   have hC2 := hC'.below hBl
   have q0 := (hBl.cell (p := ⟨ob, oo + k * 2, none⟩) hob).trans p0
   have q1 := (hBl.cell (p := ⟨ob, oo + k * 2 + 1, none⟩) hob).trans p1
   have nob : ob < w2.heap.size := Nat.lt_of_lt_of_le hob hBl.size
   clear nX cX0 cX1 cX2 cX3 cX4 cX5 cX6 p0 p1 hC' hM' hBl
   have nX := hC2.1
   have cX0 := hC2.2 0 _ rfl
   have cX1 := hC2.2 1 _ rfl
   have cX2 := hC2.2 2 _ rfl
   have cX3 := hC2.2 3 _ rfl
   have cX4 := hC2.2 4 _ rfl
   have cX5 := hC2.2 5 _ rfl
   have cX6 := hC2.2 6 _ rfl
   refine Ks ?_
   refine Rd [16] (fun wt => Below w2.heap.size w2 wt) (fun w1 w2 => Below w1.heap.size w1 w2) [(0, some 136), (1, some 137), (2, some 138), (3, some 139), (4, some 140), (5, some 141), (6, some 142), (7, some 143), (8, some 144), (9, some 145), (10, some 146), (11, some 147), (12, some 135), (13, some 148), (14, some 149), (15, some 21)] [136, 137, 138, 139, 140, 141, 142, 143, 144, 145, 146, 147, 135, 148, 149, 21] #[true, true, true, true, true, true, true, true, true, true, true, true, true, true, true, true, false] [5, 6, 18, 19, 20, 22] hE ((Below.refl _ _).drew) fun Q' K hK => ?_
   refine SeqOps.val ?_ (Sp fun ax wx hS hT' hd K' J => ?_) ?_; rotate_left 1
   ·have r5 := hS.at 5 (by decide) (hE.at 5 rfl); obtain ⟨hcT, hfT, hlT, hmT, hwT, hzT⟩ := bT hT'
    refine o1 r5 fun ρ q5 => ?_; go_simp;
    exact Jo J hT'
   refine SeqOps.val ?_ (Sp fun ax wx hS hT' hd K' J => ?_) ?_; rotate_left 1
   ·have r6 := hS.at 6 (by decide) (hE.at 6 rfl); obtain ⟨hcT, hfT, hlT, hmT, hwT, hzT⟩ := bT hT'
    refine o1 r6 fun ρ q6 => ?_; go_simp;
    exact Jo J hT'
   refine SeqOps.val ?_ (Sp fun ax wx hS hT' hd K' J => ?_) ?_; rotate_left 1
   ·have r18 := hS.at 18 (by decide) (hE.at 18 rfl); obtain ⟨hcT, hfT, hlT, hmT, hwT, hzT⟩ := bT hT'
    refine o1 r18 fun ρ q18 => ?_; go_simp;
    exact Jo J hT'
   refine SeqOps.val ?_ (Sp fun ax wx hS hT' hd K' J => ?_) ?_; rotate_left 1
   ·have r137 := Tv hd 1 1 137; have r138 := Tv hd 0 2 138; obtain ⟨hcT, hfT, hlT, hmT, hwT, hzT⟩ := bT hT'
    refine o2 r137 r138 fun ρ q137 q138 => ?_; go_simp; (try go_bits);
    exact Jo J hT'
   refine SeqOps.val ?_ (Sp fun ax wx hS hT' hd K' J => ?_) ?_; rotate_left 1
   ·have r139 := Tv hd 0 3 139; obtain ⟨hcT, hfT, hlT, hmT, hwT, hzT⟩ := bT hT'
    refine o1 r139 fun ρ q139 => ?_; go_simp;
    exact Jo J hT'
   refine SeqOps.val ?_ (Sp fun ax wx hS hT' hd K' J => ?_) ?_; rotate_left 1
   ·have r140 := Tv hd 0 4 140; obtain ⟨hcT, hfT, hlT, hmT, hwT, hzT⟩ := bT hT'
    refine o1 r140 fun ρ q140 => ?_; go_simp;
    exact Jo J hT'
   refine SeqOps.val ?_ (Sp fun ax wx hS hT' hd K' J => ?_) ?_; rotate_left 1
   ·have r6 := hS.at 6 (by decide) (hE.at 6 rfl); obtain ⟨hcT, hfT, hlT, hmT, hwT, hzT⟩ := bT hT'
    refine o1 r6 fun ρ q6 => ?_; go_simp;
    exact Jo J hT'
   refine SeqOps.val ?_ (Sp fun ax wx hS hT' hd K' J => ?_) ?_; rotate_left 1
   ·have r18 := hS.at 18 (by decide) (hE.at 18 rfl); obtain ⟨hcT, hfT, hlT, hmT, hwT, hzT⟩ := bT hT'
    refine o1 r18 fun ρ q18 => ?_; go_simp;
    exact Jo J hT'
   refine SeqOps.val ?_ (Sp fun ax wx hS hT' hd K' J => ?_) ?_; rotate_left 1
   ·have r142 := Tv hd 1 6 142; have r143 := Tv hd 0 7 143; obtain ⟨hcT, hfT, hlT, hmT, hwT, hzT⟩ := bT hT'
    refine o2 r142 r143 fun ρ q142 q143 => ?_; go_simp; (try go_bits);
    exact Jo J hT'
   refine SeqOps.val ?_ (Sp fun ax wx hS hT' hd K' J => ?_) ?_; rotate_left 1
   ·have r144 := Tv hd 0 8 144; obtain ⟨hcT, hfT, hlT, hmT, hwT, hzT⟩ := bT hT'
    refine o1 r144 fun ρ q144 => ?_; go_simp;
    exact Jo J hT'
   refine SeqOps.val ?_ (Sp fun ax wx hS hT' hd K' J => ?_) ?_; rotate_left 1
   ·have r145 := Tv hd 0 9 145; obtain ⟨hcT, hfT, hlT, hmT, hwT, hzT⟩ := bT hT'
    refine o1 r145 fun ρ q145 => ?_; go_simp;
    exact Jo J hT'
   refine SeqOps.val ?_ (Sp fun ax wx hS hT' hd K' J => ?_) ?_; rotate_left 1
   ·have r136 := Tv hd 10 0 136; have r141 := Tv hd 5 5 141; have r146 := Tv hd 0 10 146; obtain ⟨hcT, hfT, hlT, hmT, hwT, hzT⟩ := bT hT'
    refine o3 r136 r141 r146 fun ρ q136 q141 q146 => ?_; go_simp; (try go_bits);
    go_at_call 24; refine (HKC.out _ (hM2.below hT')).mono ?_; rintro e g1 ⟨rfl, k1⟩
    refine J.out _ _ _ rfl ?_ (hT'.trans (k1.mono hT'.size)) k1; rfl
   refine SeqOps.val ?_ (Sp fun ax wx hS hT' hd K' J => ?_) ?_; rotate_left 1
   ·have r147 := Tv hd 0 11 147; obtain ⟨hcT, hfT, hlT, hmT, hwT, hzT⟩ := bT hT'
    refine o1 r147 fun ρ q147 => ?_; go_simp;
    exact Jo J hT'
   refine SeqOps.val ?_ (Sp fun ax wx hS hT' hd K' J => ?_) ?_; rotate_left 1
   ·have r135 := Tv hd 0 12 135; obtain ⟨hcT, hfT, hlT, hmT, hwT, hzT⟩ := bT hT'
    refine o1 r135 fun ρ q135 => ?_; go_simp;
    exact Jo J hT'
   refine SeqOps.val ?_ (Sp fun ax wx hS hT' hd K' J => ?_) ?_; rotate_left 1
   ·have r135 := Tv hd 1 12 135; obtain ⟨hcT, hfT, hlT, hmT, hwT, hzT⟩ := bT hT'
    refine o1 r135 fun ρ q135 => ?_; go_simp;
    exact Jo J hT'
   refine SeqOps.val ?_ (Sp fun ax wx hS hT' hd K' J => ?_) ?_; rotate_left 1
   ·have r148 := Tv hd 1 13 148; obtain ⟨hcT, hfT, hlT, hmT, hwT, hzT⟩ := bT hT'
    refine o1 r148 fun ρ q148 => ?_; go_simp;
    exact Jo J hT'
   refine SeqOps.nil ?_
   intro w3 hBl; (repeat refine Ek ?_)
   refine fun ax hEx => ?_
   simp only [lk, pick, Nat.reduceEqDiff, ↓reduceIte] at hEx
   refine M1 hEx 149 fun K' J ρ q149 => ?_; go_simp; (try clear q149)
   refine Ln hEx J fun _ Eb => ?_; clear J K' hEx
   refine late_done [5, 6, 18, 19, 20, 21, 22] Eb hK (fun a hE => ?_); clear hK K Q' Eb; simp only [lk, pick, Nat.reduceEqDiff, ↓reduceIte] at hE
   have hW3 := hW2.trans (hBl.mono hW2.size)
   clear nX cX0 cX1 cX2 cX3 cX4 cX5 cX6 q0 q1 nob hC2 hM2 hBl
   refine Ks ?_
   refine Rs 15 fun Q' K hK => ?_
   refine M1 hE 20 fun K' J ρ q20 => ?_; go_simp; (try clear q20)
   refine Ln hE J fun _ Eb => ?_; clear J K' hE a
   refine M1 Eb 150 fun K' J ρ q150 => ?_; go_simp; (try go_bits); (try clear q150)
   refine Ln Eb J fun _ Ea => ?_; clear J K' Eb
   replace Ea := Ea.turn 151 (v' := .bool false) rfl (by (first | rfl | simp))
   refine M1 Ea 151 fun K' J ρ q151 => ?_; go_simp; (try clear q151)
   refine Ln Ea J fun _ Eb => ?_; clear J K' Ea
   refine N1 Eb 152 22 fun K' J ρ q22 => ?_; go_simp; (try clear q22)
   refine Ln Eb J fun _ Ea => ?_; clear J K' Eb
   refine N1 Ea 152 153 fun K' J ρ q153 => ?_; go_simp; (try go_bits); (try clear q153)
   refine Ln Ea J fun _ Eb => ?_; clear J K' Ea
   replace Eb := Eb.turn 154 (v' := .bool false) rfl (by (first | rfl | simp))
   refine M2 Eb 152 154 fun K' J ρ q152 q154 => ?_; go_simp; (try go_bits); (try clear q152 q154)
   refine Ln Eb J fun _ Ea => ?_; clear J K' Eb
   refine M1 Ea 155 fun K' J ρ q155 => ?_; go_simp; (try clear q155)
   refine Ln Ea J fun _ Eb => ?_; clear J K' Ea
   refine N1 Eb 156 19 fun K' J ρ q19 => ?_; go_simp; (try clear q19)
   refine Ln Eb J fun _ Ea => ?_; clear J K' Eb
   refine N1 Ea 156 157 fun K' J ρ q157 => ?_; go_simp; (try go_bits); (try simp (disch := omega) only [IntWalk.i64_in]); (try clear q157)
   refine Ln Ea J fun _ Eb => ?_; clear J K' Ea
   replace Eb := Eb.turn 158 (v' := .bool false) rfl (by (first | rfl | simp))
   refine M2 Eb 156 158 fun K' J ρ q156 q158 => ?_; go_simp; (try go_bits); (try clear q156 q158)
   refine Ln Eb J fun _ Ea => ?_; clear J K' Eb
   refine M1 Ea 159 fun K' J ρ q159 => ?_; go_simp; (try clear q159)
   refine Ln Ea J fun _ Eb => ?_; clear J K' Ea
   refine N1 Eb 160 21 fun K' J ρ q21 => ?_; go_simp; (try clear q21)
   refine Ln Eb J fun _ Ea => ?_; clear J K' Eb
   refine N1 Ea 160 161 fun K' J ρ q161 => ?_; go_simp; (try go_bits); (try clear q161)
   go_at_call 25; refine (between_any _ _ _ _).mono ?_; rintro e g1 ⟨rfl, rfl⟩
   (try clear r161)
   refine Ln Ea J fun _ Eb => ?_; clear J K' Ea
   refine N1 Eb 160 162 fun K' J ρ q162 => ?_; go_simp; (try go_bits); (try simp (disch := omega) only [IntWalk.i64_in]); (try clear q162)
   refine Ln Eb J fun _ Ea => ?_; clear J K' Eb
   replace Ea := Ea.turn 163 (v' := .bool false) rfl (by (first | rfl | (rcases HKK.out with e | e <;> (rw [e]; first | rfl | simp))))
   refine M2 Ea 160 163 fun K' J ρ q160 q163 => ?_; go_simp; (try go_bits); (try clear q160 q163)
   refine Ln Ea J fun _ Eb => ?_; clear J K' Ea
   refine late_done [5, 6, 18, 164] Eb hK (fun a hE => ?_); clear hK K Q' Eb; simp only [lk, pick, Nat.reduceEqDiff, ↓reduceIte] at hE
   refine Ks ?_
   refine cond_no hE (t := 164) rfl ?_
   refine Ks ?_
   refine Rs 3 fun Q' K hK => ?_
   refine M1 hE 18 fun K' J ρ q18 => ?_; go_simp; (try clear q18)
   refine Ln hE J fun _ Eb => ?_; clear J K' hE a
   refine M1 Eb 118 fun K' J ρ q118 => ?_; go_simp; (try go_bits); (try simp (disch := omega) only [IntWalk.i64_in]); (try clear q118)
   refine Ln Eb J fun _ Ea => ?_; clear J K' Eb
   refine M1 Ea 119 fun K' J ρ q119 => ?_; go_simp; (try clear q119)
   refine Ln Ea J fun _ Eb => ?_; clear J K' Ea
   refine late_done [5, 6, 18] Eb hK (fun a hE => ?_); clear hK K Q' Eb; simp only [lk, pick, Nat.reduceEqDiff, ↓reduceIte] at hE
   refine Ks ?_
   exact ⟨k + 1, ⟨hlt, by simpa using hE, hW3⟩, by omega⟩
  ·clear h hk
   refine KsE ?_
   refine Ks ?_
   refine Rs 2 fun Q' K hK => ?_
   refine M0 fun K' J ρ => ?_; go_simp; (try go_bits);
   go_at_call 15; refine (written_any _).mono ?_; rintro e w7 ⟨rfl, h7⟩
   refine Ln hE J fun _ Eb => ?_; clear J K' hE a
   refine M1 Eb 165 fun K' J ρ q165 => ?_; go_simp; (try clear q165)
   refine Ln Eb J fun _ Ea => ?_; clear J K' Eb
   refine late_done [4] Ea hK (fun a hE => ?_); clear hK K Q' Ea; simp only [lk, pick, Nat.reduceEqDiff, ↓reduceIte] at hE
   refine Ks ?_
   exact ret_one hE rfl rfl ⟨rfl, hb.trans ((hW.trans (h7.mono hW.size)).mono hb.size)⟩
set_option maxRecDepth 100000 in
set_option maxHeartbeats 4000000 in
theorem true_mid (h9 : b.lines.length ≤ 9) (t K : Prs) (ht9 : t.length ≤ 9) (lo hi : Int)
    (C4 : Hid (∀ O oc W, BkAt W A L b → Arr W W.heap.size O (pairsV t) → Calls Try.prog 18 #[.agg (bkV A cap L lcap b).toArray, .slice O t.length oc] W fun e w' => e = .returned (.tuple #[.bool true, .int .i64 0]) ∧ Below W.heap.size W w'))
    (C5 : Hid (∀ W, BkAt W A L b → Calls Try.prog 19 #[.agg (bkV A cap L lcap b).toArray] W fun e' w' => (∃ Z c, e' = .returned (.tuple #[.slice Z K.length c, .int .i64 0]) ∧ Arr w' w'.heap.size Z (pairsV K)) ∧ Below W.heap.size W w'))
    (C6 : Hid (∀ W, BkAt W A L b → Calls Try.prog 20 #[.agg (bkV A cap L lcap b).toArray] W fun e' w' => e' = .returned (.tuple #[.agg #[.int .i64 lo, .int .i64 hi], .int .i64 0]) ∧ Below W.heap.size W w'))
    (C7 : Hid (∀ W, BkAt W A L b → Calls Try.prog 21 #[.agg (bkV A cap L lcap b).toArray] W fun e w' => (∃ T c, e = .returned (.tuple #[.slice T 0 c, .int .i64 0])) ∧ Below W.heap.size W w'))
    (HP : Hid (lo ≤ (b.lines.length : Int) - t.length ∧ (b.lines.length : Int) - t.length ≤ hi))
    (O : Option Addr) (oc X : Nat) (w V : World) (HL : Hid (∀ W Z zc (a : Act), BkAt W A L b → Below w.heap.size w W → Cells W X (bkV A cap L lcap b) → Arr W W.heap.size O (pairsV t) → Arr W W.heap.size Z (pairsV K) → Fits 166 [(5, .pointer (some ⟨X, 0, none⟩)), (6, .slice O t.length oc), (9, .slice Z K.length zc)] a → (cr 8 (bodyOf Try.f4)).wp Try.prog (bodyPost Try.prog Try.f4 fun e w' => e = .returned (.bool true) ∧ Below w.heap.size w w') a W))
    (hM : BkAt V A L b) (hb : Below w.heap.size w V) (hCX : Cells V X (bkV A cap L lcap b)) (hO : Arr V V.heap.size O (pairsV t)) (a : Act)
    (hE : Fits 166 [(5, .pointer (some ⟨X, 0, none⟩)), (6, .slice O t.length oc)] a) :
    (cr 3 (bodyOf Try.f4)).wp Try.prog (bodyPost Try.prog Try.f4 fun e w' => e = .returned (.bool true) ∧ Below w.heap.size w w') a V := by
 simp only [bkV] at C4 C5 C6 C7 hCX
 have nX := hCX.1
 have cX0 := hCX.2 0 _ rfl
 have cX1 := hCX.2 1 _ rfl
 have cX2 := hCX.2 2 _ rfl
 have cX3 := hCX.2 3 _ rfl
 have cX4 := hCX.2 4 _ rfl
 have cX5 := hCX.2 5 _ rfl
 have cX6 := hCX.2 6 _ rfl
 refine wp_seq ?_; refine Ks ?_
 refine Rs 8 fun Q' K hK => ?_
 refine M1 hE 5 fun K' J ρ q5 => ?_; go_simp; (try clear q5)
 refine Ln hE J fun _ Eb => ?_; clear J K' hE a
 refine M1 Eb 6 fun K' J ρ q6 => ?_; go_simp; (try clear q6)
 refine Ln Eb J fun _ Ea => ?_; clear J K' Eb
 refine M2 Ea 34 35 fun K' J ρ q34 q35 => ?_; go_simp; (try go_bits); (try clear q34 q35)
 go_at_call 18; refine (C4.out _ _ _ hM hO).mono ?_; rintro e4 w4 ⟨rfl, h4⟩
 (try clear r34 r35)
 refine Ln Ea J fun _ Eb => ?_; clear J K' Ea
 refine M1 Eb 36 fun K' J ρ q36 => ?_; go_simp; (try clear q36)
 refine Ln Eb J fun _ Ea => ?_; clear J K' Eb
 refine M1 Ea 33 fun K' J ρ q33 => ?_; go_simp; (try clear q33)
 refine Ln Ea J fun _ Eb => ?_; clear J K' Ea
 refine M1 Eb 33 fun K' J ρ q33 => ?_; go_simp; (try clear q33)
 refine Ln Eb J fun _ Ea => ?_; clear J K' Eb
 refine M1 Ea 37 fun K' J ρ q37 => ?_; go_simp; (try clear q37)
 refine Ln Ea J fun _ Eb => ?_; clear J K' Ea
 refine M1 Eb 38 fun K' J ρ q38 => ?_; go_simp; (try clear q38)
 refine Ln Eb J fun _ Ea => ?_; clear J K' Eb
 refine late_done [5, 6, 7, 8] Ea hK (fun a hE => ?_); clear hK K Q' Ea; simp only [lk, pick, Nat.reduceEqDiff, ↓reduceIte] at hE
 replace hb := hb.trans (h4.mono hb.size)
 replace hM := hM.below h4
 replace hCX := hCX.below h4
 replace hO := (hO.below h4).more h4.size
 clear nX cX0 cX1 cX2 cX3 cX4 cX5 cX6
 clear h4
 have nX := hCX.1
 have cX0 := hCX.2 0 _ rfl
 have cX1 := hCX.2 1 _ rfl
 have cX2 := hCX.2 2 _ rfl
 have cX3 := hCX.2 3 _ rfl
 have cX4 := hCX.2 4 _ rfl
 have cX5 := hCX.2 5 _ rfl
 have cX6 := hCX.2 6 _ rfl
 refine Ks ?_
 refine Rs 7 fun Q' K hK => ?_
 refine M1 hE 5 fun K' J ρ q5 => ?_; go_simp; (try clear q5)
 refine Ln hE J fun _ Eb => ?_; clear J K' hE a
 refine M1 Eb 40 fun K' J ρ q40 => ?_; go_simp; (try go_bits); (try clear q40)
 go_at_call 19; refine (C5.out _ hM).mono ?_; rintro e5 w5 ⟨⟨Z, zc, rfl, hZ⟩, h5⟩
 (try clear r40)
 refine Ln Eb J fun _ Ea => ?_; clear J K' Eb
 refine M1 Ea 41 fun K' J ρ q41 => ?_; go_simp; (try clear q41)
 refine Ln Ea J fun _ Eb => ?_; clear J K' Ea
 refine M1 Eb 39 fun K' J ρ q39 => ?_; go_simp; (try clear q39)
 refine Ln Eb J fun _ Ea => ?_; clear J K' Eb
 refine M1 Ea 39 fun K' J ρ q39 => ?_; go_simp; (try clear q39)
 refine Ln Ea J fun _ Eb => ?_; clear J K' Ea
 refine M1 Eb 42 fun K' J ρ q42 => ?_; go_simp; (try clear q42)
 refine Ln Eb J fun _ Ea => ?_; clear J K' Eb
 refine M1 Ea 43 fun K' J ρ q43 => ?_; go_simp; (try clear q43)
 refine Ln Ea J fun _ Eb => ?_; clear J K' Ea
 refine late_done [5, 6, 7, 8, 9, 10] Eb hK (fun a hE => ?_); clear hK K Q' Eb; simp only [lk, pick, Nat.reduceEqDiff, ↓reduceIte] at hE
 replace hb := hb.trans (h5.mono hb.size)
 replace hM := hM.below h5
 replace hCX := hCX.below h5
 replace hO := (hO.below h5).more h5.size
 clear nX cX0 cX1 cX2 cX3 cX4 cX5 cX6
 clear h5
 have nX := hCX.1
 have cX0 := hCX.2 0 _ rfl
 have cX1 := hCX.2 1 _ rfl
 have cX2 := hCX.2 2 _ rfl
 have cX3 := hCX.2 3 _ rfl
 have cX4 := hCX.2 4 _ rfl
 have cX5 := hCX.2 5 _ rfl
 have cX6 := hCX.2 6 _ rfl
 refine Ks ?_
 refine Rs 8 fun Q' K hK => ?_
 refine M1 hE 5 fun K' J ρ q5 => ?_; go_simp; (try clear q5)
 refine Ln hE J fun _ Eb => ?_; clear J K' hE a
 refine M1 Eb 45 fun K' J ρ q45 => ?_; go_simp; (try go_bits); (try clear q45)
 go_at_call 20; refine (C6.out _ hM).mono ?_; rintro e6 w6 ⟨rfl, h6⟩
 (try clear r45)
 refine Ln Eb J fun _ Ea => ?_; clear J K' Eb
 refine M1 Ea 46 fun K' J ρ q46 => ?_; go_simp; (try clear q46)
 refine Ln Ea J fun _ Eb => ?_; clear J K' Ea
 refine M1 Eb 44 fun K' J ρ q44 => ?_; go_simp; (try clear q44)
 refine Ln Eb J fun _ Ea => ?_; clear J K' Eb
 refine M1 Ea 44 fun K' J ρ q44 => ?_; go_simp; (try clear q44)
 refine Ln Ea J fun _ Eb => ?_; clear J K' Ea
 refine M0 fun K' J ρ => ?_; go_simp;
 refine Ln Eb J fun _ Ea => ?_; clear J K' Eb
 refine M2 Ea 11 47 fun K' J ρ q11 q47 => ?_; go_simp; (try clear q11 q47)
 refine late_skip Ea J (fun _ Eb => ?_); clear J K'; clear Ea
 refine M1 Eb 48 fun K' J ρ q48 => ?_; go_simp; (try clear q48)
 refine Ln Eb J fun _ Ea => ?_; clear J K' Eb
 refine late_done [5, 6, 7, 8, 9, 10, 11, 12] Ea hK (fun a hE => ?_); clear hK K Q' Ea; simp only [lk, pick, Nat.reduceEqDiff, ↓reduceIte] at hE
 obtain ⟨S, hSe⟩ : ∃ B, B = w6.heap.size := ⟨_, rfl⟩; rw [← hSe] at hE; refine world_cut (fun wt => Below w6.heap.size w6 wt ∧ Cells wt S [.int .i64 lo, .int .i64 hi]) ⟨(Below.refl _ _).alloc (Nat.le_refl _) _, by rw [hSe]; exact cells_new _ _ _⟩ (fun w7 hCut => ?_); obtain ⟨hbw7, hCS⟩ := hCut; clear hSe
 have h67 := h6.trans (hbw7.mono h6.size)
 replace hb := hb.trans (h67.mono hb.size)
 replace hM := hM.below h67
 replace hCX := hCX.below h67
 replace hO := (hO.below h67).more h67.size
 replace hZ := (hZ.below h67).more h67.size
 clear nX cX0 cX1 cX2 cX3 cX4 cX5 cX6
 clear h6 hbw7 h67
 have nX := hCX.1
 have cX0 := hCX.2 0 _ rfl
 have cX1 := hCX.2 1 _ rfl
 have cX2 := hCX.2 2 _ rfl
 have cX3 := hCX.2 3 _ rfl
 have cX4 := hCX.2 4 _ rfl
 have cX5 := hCX.2 5 _ rfl
 have cX6 := hCX.2 6 _ rfl
 refine Ks ?_
 refine Rs 7 fun Q' K hK => ?_
 refine M1 hE 5 fun K' J ρ q5 => ?_; go_simp; (try clear q5)
 refine Ln hE J fun _ Eb => ?_; clear J K' hE a
 refine M1 Eb 50 fun K' J ρ q50 => ?_; go_simp; (try go_bits); (try clear q50)
 go_at_call 21; refine (C7.out _ hM).mono ?_; rintro e8 w8 ⟨⟨Wt, wc, rfl⟩, h8⟩
 (try clear r50)
 refine Ln Eb J fun _ Ea => ?_; clear J K' Eb
 refine M1 Ea 51 fun K' J ρ q51 => ?_; go_simp; (try clear q51)
 refine Ln Ea J fun _ Eb => ?_; clear J K' Ea
 refine M1 Eb 49 fun K' J ρ q49 => ?_; go_simp; (try clear q49)
 refine Ln Eb J fun _ Ea => ?_; clear J K' Eb
 refine M1 Ea 49 fun K' J ρ q49 => ?_; go_simp; (try clear q49)
 refine Ln Ea J fun _ Eb => ?_; clear J K' Ea
 refine M1 Eb 52 fun K' J ρ q52 => ?_; go_simp; (try clear q52)
 refine Ln Eb J fun _ Ea => ?_; clear J K' Eb
 refine M1 Ea 53 fun K' J ρ q53 => ?_; go_simp; (try clear q53)
 refine Ln Ea J fun _ Eb => ?_; clear J K' Ea
 refine late_done [5, 6, 7, 8, 9, 10, 11, 12, 13, 14] Eb hK (fun a hE => ?_); clear hK K Q' Eb; simp only [lk, pick, Nat.reduceEqDiff, ↓reduceIte] at hE
 replace hb := hb.trans (h8.mono hb.size)
 replace hM := hM.below h8
 replace hCX := hCX.below h8
 replace hO := (hO.below h8).more h8.size
 replace hZ := (hZ.below h8).more h8.size
 clear nX cX0 cX1 cX2 cX3 cX4 cX5 cX6
 replace hCS := hCS.below h8
 clear h8
 have nX := hCX.1
 have cX0 := hCX.2 0 _ rfl
 have cX1 := hCX.2 1 _ rfl
 have cX2 := hCX.2 2 _ rfl
 have cX3 := hCX.2 3 _ rfl
 have cX4 := hCX.2 4 _ rfl
 have cX5 := hCX.2 5 _ rfl
 have cX6 := hCX.2 6 _ rfl
 refine Ks ?_
 have nS := hCS.1
 have cS0 := hCS.2 0 _ rfl
 have cS1 := hCS.2 1 _ rfl
 refine Rs 34 fun Q' K hK => ?_
 refine M1 hE 8 fun K' J ρ q8 => ?_; go_simp; (try clear q8)
 refine Ln hE J fun _ Eb => ?_; clear J K' hE a
 refine M1 Eb 54 fun K' J ρ q54 => ?_; go_simp; (try go_bits); (try clear q54)
 refine Ln Eb J fun _ Ea => ?_; clear J K' Eb
 replace Ea := Ea.turn 55 (v' := .bool false) rfl (by (first | rfl | simp))
 refine M1 Ea 55 fun K' J ρ q55 => ?_; go_simp; (try clear q55)
 refine Ln Ea J fun _ Eb => ?_; clear J K' Ea
 refine N1 Eb 56 10 fun K' J ρ q10 => ?_; go_simp; (try clear q10)
 refine Ln Eb J fun _ Ea => ?_; clear J K' Eb
 refine N1 Ea 56 57 fun K' J ρ q57 => ?_; go_simp; (try go_bits); (try clear q57)
 refine Ln Ea J fun _ Eb => ?_; clear J K' Ea
 replace Eb := Eb.turn 58 (v' := .bool false) rfl (by (first | rfl | simp))
 refine M2 Eb 56 58 fun K' J ρ q56 q58 => ?_; go_simp; (try go_bits); (try clear q56 q58)
 refine Ln Eb J fun _ Ea => ?_; clear J K' Eb
 refine M1 Ea 59 fun K' J ρ q59 => ?_; go_simp; (try clear q59)
 refine Ln Ea J fun _ Eb => ?_; clear J K' Ea
 refine N1 Eb 60 12 fun K' J ρ q12 => ?_; go_simp; (try clear q12)
 refine Ln Eb J fun _ Ea => ?_; clear J K' Eb
 refine N1 Ea 60 61 fun K' J ρ q61 => ?_; go_simp; (try go_bits); (try clear q61)
 refine Ln Ea J fun _ Eb => ?_; clear J K' Ea
 replace Eb := Eb.turn 62 (v' := .bool false) rfl (by (first | rfl | simp))
 refine M2 Eb 60 62 fun K' J ρ q60 q62 => ?_; go_simp; (try go_bits); (try clear q60 q62)
 refine Ln Eb J fun _ Ea => ?_; clear J K' Eb
 refine M1 Ea 63 fun K' J ρ q63 => ?_; go_simp; (try clear q63)
 refine Ln Ea J fun _ Eb => ?_; clear J K' Ea
 refine N1 Eb 64 14 fun K' J ρ q14 => ?_; go_simp; (try clear q14)
 refine Ln Eb J fun _ Ea => ?_; clear J K' Eb
 refine N1 Ea 64 65 fun K' J ρ q65 => ?_; go_simp; (try go_bits); (try clear q65)
 refine Ln Ea J fun _ Eb => ?_; clear J K' Ea
 replace Eb := Eb.turn 66 (v' := .bool false) rfl (by (first | rfl | simp))
 refine M2 Eb 64 66 fun K' J ρ q64 q66 => ?_; go_simp; (try go_bits); (try clear q64 q66)
 refine Ln Eb J fun _ Ea => ?_; clear J K' Eb
 refine M1 Ea 67 fun K' J ρ q67 => ?_; go_simp; (try clear q67)
 refine Ln Ea J fun _ Eb => ?_; clear J K' Ea
 refine N1 Eb 68 7 fun K' J ρ q7 => ?_; go_simp; (try clear q7)
 refine Ln Eb J fun _ Ea => ?_; clear J K' Eb
 refine N1 Ea 68 69 fun K' J ρ q69 => ?_; go_simp; (try go_bits); (try simp (disch := omega) only [IntWalk.i64_in]); (try clear q69)
 refine Ln Ea J fun _ Eb => ?_; clear J K' Ea
 replace Eb := Eb.turn 70 (v' := .bool false) rfl (by (first | rfl | simp))
 refine M2 Eb 68 70 fun K' J ρ q68 q70 => ?_; go_simp; (try go_bits); (try clear q68 q70)
 refine Ln Eb J fun _ Ea => ?_; clear J K' Eb
 refine M1 Ea 71 fun K' J ρ q71 => ?_; go_simp; (try clear q71)
 refine Ln Ea J fun _ Eb => ?_; clear J K' Ea
 refine N1 Eb 72 13 fun K' J ρ q13 => ?_; go_simp; (try clear q13)
 refine Ln Eb J fun _ Ea => ?_; clear J K' Eb
 refine N1 Ea 72 73 fun K' J ρ q73 => ?_; go_simp; (try go_bits); (try clear q73)
 refine Ln Ea J fun _ Eb => ?_; clear J K' Ea
 refine N1 Eb 72 74 fun K' J ρ q74 => ?_; go_simp; (try go_bits); (try clear q74)
 refine Ln Eb J fun _ Ea => ?_; clear J K' Eb
 replace Ea := Ea.turn 75 (v' := .bool false) rfl (by (first | rfl | simp))
 refine M2 Ea 72 75 fun K' J ρ q72 q75 => ?_; go_simp; (try go_bits); (try clear q72 q75)
 refine Ln Ea J fun _ Eb => ?_; clear J K' Ea
 refine M1 Eb 76 fun K' J ρ q76 => ?_; go_simp; (try clear q76)
 refine Ln Eb J fun _ Ea => ?_; clear J K' Eb
 refine N1 Ea 77 5 fun K' J ρ q5 => ?_; go_simp; (try clear q5)
 refine Ln Ea J fun _ Eb => ?_; clear J K' Ea
 refine N1 Eb 77 78 fun K' J ρ q78 => ?_; go_simp; (try clear q78)
 refine Ln Eb J fun _ Ea => ?_; clear J K' Eb
 refine N1 Ea 77 79 fun K' J ρ q79 => ?_; go_simp; (try go_bits); (try clear q79)
 refine Ln Ea J fun _ Eb => ?_; clear J K' Ea
 refine N1 Eb 77 6 fun K' J ρ q6 => ?_; go_simp; (try clear q6)
 refine Ln Eb J fun _ Ea => ?_; clear J K' Eb
 refine N1 Ea 77 81 fun K' J ρ q81 => ?_; go_simp; (try go_bits); (try clear q81)
 refine Ln Ea J fun _ Eb => ?_; clear J K' Ea
 refine N2 Eb 77 80 82 fun K' J ρ q80 q82 => ?_; go_simp; (try go_bits); (try simp (disch := omega) only [IntWalk.i64_in]); (try clear q80 q82)
 refine Ln Eb J fun _ Ea => ?_; clear J K' Eb
 refine N1 Ea 77 11 fun K' J ρ q11 => ?_; go_simp; (try clear q11)
 refine Ln Ea J fun _ Eb => ?_; clear J K' Ea
 refine N2 Eb 77 83 84 fun K' J ρ q83 q84 => ?_; go_simp; (try go_bits); (try clear q83 q84)
 go_at_call 22; refine (in_any _ _ _ _).mono ?_; rintro e9 w9 ⟨rfl, h9'⟩
 (try clear r83 r84)
 refine Ln Eb J fun _ Ea => ?_; clear J K' Eb
 refine N1 Ea 77 85 fun K' J ρ q85 => ?_; go_simp; (try go_bits); (try simp (disch := omega) only [IntWalk.i64_in]); (try clear q85)
 refine Ln Ea J fun _ Eb => ?_; clear J K' Ea
 replace Eb := Eb.turn 86 (v' := .bool false) rfl (by (have := HP.out; simp; omega))
 refine M2 Eb 77 86 fun K' J ρ q77 q86 => ?_; go_simp; (try go_bits); (try clear q77 q86)
 refine Ln Eb J fun _ Ea => ?_; clear J K' Eb
 refine late_done [5, 6, 9, 87] Ea hK (fun a hE => ?_); clear hK K Q' Ea; simp only [lk, pick, Nat.reduceEqDiff, ↓reduceIte] at hE
 refine Ks ?_
 refine cond_no hE (t := 87) rfl ?_
 refine wp_skip ?_
 refine KsE ?_
 exact HL.out w9 Z zc _ (hM.below h9') (hb.trans (h9'.mono hb.size)) (hCX.below h9') ((hO.below h9').more h9'.size) ((hZ.below h9').more h9'.size) (hE.keep [5, 6, 9])
set_option maxRecDepth 100000 in
set_option maxHeartbeats 2000000 in
theorem true_bad (ho : b.ok = false) (T : Option Addr) (tc : Nat) (ns : List Int) (w : World) (hM : BkAt w A L b) (hs : b.small cap lcap) : Calls Try.prog 4 #[.agg (bkV A cap L lcap b).toArray, .slice T ns.length tc] w fun e w' => e = .returned (.bool true) ∧ Below w.heap.size w w' := by
 have C2 : Hid (∀ W, BkAt W A L b → Calls Try.prog 16 #[.agg (bkV A cap L lcap b).toArray] W fun e w' => e = .returned (.bool false) ∧ Below W.heap.size W w') := hid fun W hW => by
  have h := sound_any A cap L lcap b W hW hs
  rw [ho] at h
  exact h
 clear ho
 simp only [bkV] at C2 ⊢
 refine enterE Try.func4 rfl Try.ntmps4 (by simp) (fun a hE => ?_); simp only [envOf, Nat.zero_add, Nat.reduceAdd] at hE
 refine Ks ?_
 refine Rs 2 fun Q' K hK => ?_
 refine M1 hE 0 fun K' J ρ q0 => ?_; go_simp; (try clear q0)
 refine Ln hE J fun _ Eb => ?_; clear J K' hE a
 refine M0 fun K' J ρ => ?_; go_simp;
 refine Ln Eb J fun _ Ea => ?_; clear J K' Eb
 refine late_done [2] Ea hK (fun a hE => ?_); clear hK K Q' Ea; simp only [lk, pick, Nat.reduceEqDiff, ↓reduceIte] at hE
 obtain ⟨B, hBe⟩ : ∃ B, B = w.heap.size := ⟨_, rfl⟩; rw [← hBe] at hE; refine world_cut (fun wt => Below w.heap.size w wt ∧ Cells wt B (bkV A cap L lcap b)) ⟨(Below.refl _ _).alloc (Nat.le_refl _) _, by rw [hBe]; exact cells_new _ _ _⟩ (fun w1 hCut => ?_); obtain ⟨hbw1, hCB⟩ := hCut; clear hBe
 have hM1 := hM.below hbw1
 simp only [bkV] at hCB
 have nB := hCB.1; have cB0 := hCB.2 0 _ rfl; have cB1 := hCB.2 1 _ rfl; have cB2 := hCB.2 2 _ rfl; have cB3 := hCB.2 3 _ rfl; have cB4 := hCB.2 4 _ rfl; have cB5 := hCB.2 5 _ rfl; have cB6 := hCB.2 6 _ rfl
 refine Ks ?_
 refine Rs 3 fun Q' K hK => ?_
 refine M1 hE 2 fun K' J ρ q2 => ?_; go_simp; (try clear q2)
 refine Ln hE J fun _ Eb => ?_; clear J K' hE a
 refine M1 Eb 23 fun K' J ρ q23 => ?_; go_simp; (try go_bits); (try clear q23)
 go_at_call 16; refine (C2.out _ hM1).mono ?_; rintro e w2 ⟨rfl, h2⟩
 (try clear r23)
 refine Ln Eb J fun _ Ea => ?_; clear J K' Eb
 refine M1 Ea 24 fun K' J ρ q24 => ?_; go_simp; (try go_bits); (try simp (disch := omega) only [IntWalk.i64_in]); (try clear q24)
 refine Ln Ea J fun _ Eb => ?_; clear J K' Ea
 refine late_done [2, 25] Eb hK (fun a hE => ?_); clear hK K Q' Eb; simp only [lk, pick, Nat.reduceEqDiff, ↓reduceIte] at hE
 refine Ks ?_
 refine cond_yes hE (t := 25) rfl ?_
 refine Ks ?_
 refine Rs 2 fun Q' K hK => ?_
 refine M0 fun K' J ρ => ?_; go_simp; (try go_bits);
 go_at_call 15; refine (written_any _).mono ?_; rintro e w3 ⟨rfl, h3⟩
 refine Ln hE J fun _ Eb => ?_; clear J K' hE a
 refine M1 Eb 26 fun K' J ρ q26 => ?_; go_simp; (try clear q26)
 refine Ln Eb J fun _ Ea => ?_; clear J K' Eb
 refine late_done [4] Ea hK (fun a hE => ?_); clear hK K Q' Ea; simp only [lk, pick, Nat.reduceEqDiff, ↓reduceIte] at hE
 refine Ks ?_
 exact ret_one hE rfl rfl ⟨rfl, hbw1.trans ((h2.trans (h3.mono h2.size)).mono hbw1.size)⟩
set_option maxRecDepth 100000 in
set_option maxHeartbeats 4000000 in
theorem true_good (ho : b.ok = true) (T : Option Addr) (tc : Nat) (ns : List Int) (w : World) (hM : BkAt w A L b) (hs : b.small cap lcap) (hT : Arr w w.heap.size T (ints ns)) (hn : ns.length ≤ 9223372036854775807) (htc : ns.length ≤ tc) : Calls Try.prog 4 #[.agg (bkV A cap L lcap b).toArray, .slice T ns.length tc] w fun e w' => e = .returned (.bool true) ∧ Below w.heap.size w w' := by
 have HO := hid ho
 have C2 : Hid (∀ W, BkAt W A L b → Calls Try.prog 16 #[.agg (bkV A cap L lcap b).toArray] W fun e w' => e = .returned (.bool true) ∧ Below W.heap.size W w') := hid fun W hW => by
  have h := sound_any A cap L lcap b W hW hs
  rw [ho] at h
  exact h
 have C3 := hid fun W (hW : BkAt W A L b) (hTW : Arr W W.heap.size T (ints ns)) => passed_any A cap L lcap b ho T tc ns W hW hs hTW hn htc
 clear ho
 simp only [bkV] at C2 C3 ⊢
 refine enterE Try.func4 rfl Try.ntmps4 (by simp) (fun a hE => ?_); simp only [envOf, Nat.zero_add, Nat.reduceAdd] at hE
 refine Ks ?_
 refine Rs 2 fun Q' K hK => ?_
 refine M1 hE 0 fun K' J ρ q0 => ?_; go_simp; (try clear q0)
 refine Ln hE J fun _ Eb => ?_; clear J K' hE a
 refine M0 fun K' J ρ => ?_; go_simp;
 refine Ln Eb J fun _ Ea => ?_; clear J K' Eb
 refine late_done [1, 2] Ea hK (fun a hE => ?_); clear hK K Q' Ea; simp only [lk, pick, Nat.reduceEqDiff, ↓reduceIte] at hE
 obtain ⟨B, hBe⟩ : ∃ B, B = w.heap.size := ⟨_, rfl⟩; rw [← hBe] at hE; refine world_cut (fun wt => Below w.heap.size w wt ∧ Cells wt B (bkV A cap L lcap b)) ⟨(Below.refl _ _).alloc (Nat.le_refl _) _, by rw [hBe]; exact cells_new _ _ _⟩ (fun w1 hCut => ?_); obtain ⟨hbw1, hCB⟩ := hCut; clear hBe
 have hM1 := hM.below hbw1
 simp only [bkV] at hCB
 have nB := hCB.1; have cB0 := hCB.2 0 _ rfl; have cB1 := hCB.2 1 _ rfl; have cB2 := hCB.2 2 _ rfl; have cB3 := hCB.2 3 _ rfl; have cB4 := hCB.2 4 _ rfl; have cB5 := hCB.2 5 _ rfl; have cB6 := hCB.2 6 _ rfl
 refine Ks ?_
 refine Rs 3 fun Q' K hK => ?_
 refine M1 hE 2 fun K' J ρ q2 => ?_; go_simp; (try clear q2)
 refine Ln hE J fun _ Eb => ?_; clear J K' hE a
 refine M1 Eb 23 fun K' J ρ q23 => ?_; go_simp; (try go_bits); (try clear q23)
 go_at_call 16; refine (C2.out _ hM1).mono ?_; rintro e2 w2 ⟨rfl, h2⟩
 (try clear r23)
 refine Ln Eb J fun _ Ea => ?_; clear J K' Eb
 refine M1 Ea 24 fun K' J ρ q24 => ?_; go_simp; (try go_bits); (try simp (disch := omega) only [IntWalk.i64_in]); (try clear q24)
 refine Ln Ea J fun _ Eb => ?_; clear J K' Ea
 refine late_done [1, 2, 25] Eb hK (fun a hE => ?_); clear hK K Q' Eb; simp only [lk, pick, Nat.reduceEqDiff, ↓reduceIte] at hE
 have hb2 := hbw1.trans (h2.mono hbw1.size)
 replace hCB := hCB.below h2
 have hM2 := hM.below hb2
 have hT2 := (hT.below hb2).more hb2.size
 clear nB cB0 cB1 cB2 cB3 cB4 cB5 cB6 hM1 h2 hbw1
 have nB := hCB.1; have cB0 := hCB.2 0 _ rfl; have cB1 := hCB.2 1 _ rfl; have cB2 := hCB.2 2 _ rfl; have cB3 := hCB.2 3 _ rfl; have cB4 := hCB.2 4 _ rfl; have cB5 := hCB.2 5 _ rfl; have cB6 := hCB.2 6 _ rfl
 refine Ks ?_
 refine cond_no hE (t := 25) rfl ?_
 refine Ks ?_
 refine Rs 9 fun Q' K hK => ?_
 refine M1 hE 2 fun K' J ρ q2 => ?_; go_simp; (try clear q2)
 refine Ln hE J fun _ Eb => ?_; clear J K' hE a
 refine M1 Eb 1 fun K' J ρ q1 => ?_; go_simp; (try clear q1)
 refine Ln Eb J fun _ Ea => ?_; clear J K' Eb
 refine M2 Ea 28 29 fun K' J ρ q28 q29 => ?_; go_simp; (try go_bits); (try clear q28 q29)
 go_at_call 17; refine (C3.out _ hM2 hT2).mono ?_; rintro e3 w3 ⟨⟨A', cap', xs, t, O, oc, rfl, hcap, hMx, hOx, hx9, hxl, hst⟩, h3⟩
 (try clear r28 r29)
 refine Ln Ea J fun _ Eb => ?_; clear J K' Ea
 refine M1 Eb 30 fun K' J ρ q30 => ?_; go_simp; (try clear q30)
 refine Ln Eb J fun _ Ea => ?_; clear J K' Eb
 refine M1 Ea 27 fun K' J ρ q27 => ?_; go_simp; (try clear q27)
 refine Ln Ea J fun _ Eb => ?_; clear J K' Ea
 refine M1 Eb 27 fun K' J ρ q27 => ?_; go_simp; (try clear q27)
 refine Ln Eb J fun _ Ea => ?_; clear J K' Eb
 refine M0 fun K' J ρ => ?_; go_simp;
 refine Ln Ea J fun _ Eb => ?_; clear J K' Ea
 refine M2 Eb 5 31 fun K' J ρ q5 q31 => ?_; go_simp; (try clear q5 q31)
 refine late_skip Eb J (fun _ Ea => ?_); clear J K'; clear Eb
 refine M1 Ea 32 fun K' J ρ q32 => ?_; go_simp; (try clear q32)
 refine Ln Ea J fun _ Eb => ?_; clear J K' Ea
 refine late_done [5, 6] Eb hK (fun a hE => ?_); clear hK K Q' Eb; simp only [lk, pick, Nat.reduceEqDiff, ↓reduceIte] at hE
 obtain ⟨X, hXe⟩ : ∃ B, B = w3.heap.size := ⟨_, rfl⟩; rw [← hXe] at hE; refine world_cut (fun wt => Below w3.heap.size w3 wt ∧ Cells wt X (bkV A cap A' cap' { b with lines := xs, lost := (xs.length : Int) - 2 * t.length })) ⟨(Below.refl _ _).alloc (Nat.le_refl _) _, by rw [hXe]; exact cells_new _ _ _⟩ (fun w4 hCut => ?_); obtain ⟨hbw4, hCX⟩ := hCut; clear hXe
 have h34 := h3.trans (hbw4.mono h3.size)
 have hb4 := hb2.trans (h34.mono hb2.size)
 obtain ⟨x, hx⟩ : ∃ x : Bk, ({ b with lines := xs, lost := (xs.length : Int) - 2 * t.length } : Bk) = x := ⟨_, rfl⟩
 have hl2 : 2 * t.length ≤ xs.length := by
  rcases hst.len with h | h
  ·omega
  ·rw [h]; simp
 have hox : x.ok = true := by rw [← hx]; exact ok_passed HO.out hx9 hxl (by omega) (by omega)
 have hsx : x.small cap cap' := by rw [← hx]; exact small_passed hs hx9 hcap hxl
 have hOkx : OkP (couldsP x) 0 x.lines.length [] t := by rw [← hx]; exact hst.ok (fun q hq => by cases hq)
 have htx : t ∈ x.ts := (mem_ts (sides_bk x) x.lost t).2 ⟨hOkx, by rw [← hx]; exact Int.le_refl _⟩
 have ht9 : t.length ≤ 9 := by omega
 have hx9' : x.lines.length ≤ 9 := by rw [← hx]; exact hx9
 rw [hx] at hMx hCX
 have hMx4 := hMx.below hbw4
 have hOx4 := (hOx.below hbw4).more hbw4.size
 have hne : x.ts.length ≠ 0 := fun e => by rw [List.eq_nil_of_length_eq_zero e] at htx; cases htx
 have hset : setE x true = 0 := by rw [set_ok hox, if_neg hne]
 have hwr : (wrongP x).length = 0 := (wrong_lawN (bk_parts hox).2.2.2.1.1).2.2.2.2.2 hne
 clear nB cB0 cB1 cB2 cB3 cB4 cB5 cB6 hM2 hT2 hx hMx hOx
 refine KsE ?_
 refine true_mid A cap A' cap' x hx9' t (pJoinedL x) ht9 (pPeopleR x).1 (pPeopleR x).2 (hid fun O oc W hW hO => ?_) (hid fun W hW => ?_) (hid fun W hW => ?_) (hid fun W hW => ?_) (hid (peo_in hox htx)) O oc X w w4 (hid fun W Z zc a hMW hbW hCW hOW hZW hEW => ?_) hMx4 hb4 hCX hOx4 _ (hE.keep [5, 6])
 ·have h := pIsTruth_any A cap A' cap' x O oc (t.map castP) W hW hsx (by rw [pairs_cast]; exact hO) (by rw [List.length_map]; omega)
  rw [is_truth hox, List.length_map, decide_eq_true htx] at h
  exact h
 ·have h := pJoined_any A cap A' cap' x W hW hsx
  rw [hset] at h
  exact h
 ·have h := pPeople_any A cap A' cap' x W hW hsx
  rw [hset] at h
  exact h
 ·have h := pWrong_any A cap A' cap' x W hW hsx
  have q1 : pWrongL x = wrongP x := by unfold pWrongL; rw [hox]; rfl
  have q2 : bkE x = 0 := by unfold bkE; rw [hox]; rfl
  rw [q1, q2, hwr] at h
  exact h.mono (by
   rintro e w' ⟨⟨T, c, rfl, _⟩, h2⟩
   exact ⟨⟨T, c, rfl⟩, h2⟩)
 ·refine true_loops A cap A' cap' x t (pJoinedL x) ht9 (joined_len hx9') (hid fun k hk => true_pair hox htx (List.getElem_mem hk)) (hid fun k hk W hW => ?_) (hid fun k hk => ?_) O oc Z zc X w W hMW hbW hCW hOW hZW a hEW
  ·have h := pCan_any A cap A' cap' x t[k].1 t[k].2 W hW hsx
   rw [can_pair hox htx (List.getElem_mem hk)] at h
   exact h
  ·obtain ⟨kk, k1, _, k3⟩ := kind_in hox htx (List.getElem_mem hk)
   refine ⟨kk, k1, fun W hW => ?_⟩
   have h := pKind_any A cap A' cap' x t[k].1 t[k].2 W hW hsx
   rw [k3] at h
   exact h
theorem ntrue_any (T : Option Addr) (tc : Nat) (ns : List Int) (w : World) (hM : BkAt w A L b) (hs : b.small cap lcap) (hT : Arr w w.heap.size T (ints ns)) (hn : ns.length ≤ 9223372036854775807) (htc : ns.length ≤ tc) : Calls Try.prog 4 #[.agg (bkV A cap L lcap b).toArray, .slice T ns.length tc] w fun e w' => e = .returned (.bool true) ∧ Below w.heap.size w w' := by
 cases ho : b.ok
 ·exact true_bad A cap L lcap b ho T tc ns w hM hs
 ·exact true_good A cap L lcap b ho T tc ns w hM hs hT hn htc
end
end Go.Proofs.Ytbimkcjdodgojaa
