/- Name: the law's misheard, walked. -/
import Derived.Test.YtbimkcjdodgojaaNcl
import Derived.Test.YtbimkcjdodgojaaBn
import Derived.Test.YtbimkcjdodgojaaNpb
namespace Go.Proofs.Ytbimkcjdodgojaa
set_option linter.unusedSimpArgs false
set_option linter.unusedVariables false
open Go Go.RowKit
attribute [local go_sem high] cell_set_wr
attribute [local go_sem low] cell_wr frozen_wr
attribute [local go_sem] wr_set wr_drew wr_drewN wr_alloc wr_new Rho.c Rho.n Rho.g

set_option maxRecDepth 100000 in
set_option maxHeartbeats 8000000 in
theorem misheard_any (A : Option Addr) (cap : Nat) (l : List ByteArray) (mu : ByteArray) (lim : Int) (s : ByteArray) (T : Option Addr) (tc : Nat) (ns : List Int) (w : World) (hA : Arr w w.heap.size A (txts l)) (hl4 : l.length ≤ 4) (hg4 : ∀ i (h : i < l.length), l[i].size ≤ 4) (hmu : mu.size ≤ 3) (hlim : 0 ≤ lim ∧ lim ≤ 3)
    (hT : Arr w w.heap.size T (ints ns)) (hn : ns.length ≤ 9223372036854775807) (hnm : nameB s.data.toList = true) (hs12 : s.size ≤ 12) :
    Calls Try.prog 28 #[.agg #[.slice A l.length cap, .string mu, .int .i64 lim], .string s, .slice T ns.length tc] w fun e w' => (∃ o : ByteArray, e = .returned (.string o) ∧ o.size ≤ 12 ∧ nameB o.data.toList = true ∧ (apR l lim (keptL mu s.data.toList) (keptL mu o.data.toList)).2 = true) ∧ Below w.heap.size w w' := by
 obtain ⟨hl0, hl3⟩ := hlim
 have HNM := hid hnm
 clear hnm
 refine enterE Try.func28 rfl Try.ntmps28 (by simp) (fun a hE => ?_); simp only [envOf, Nat.zero_add, Nat.reduceAdd] at hE
 refine Ks ?_
 refine Rs 2 fun Q' K hK => ?_
 refine M1 hE 0 fun K' J ρ q0 => ?_; go_simp; (try clear q0)
 refine Ln hE J fun _ Eb => ?_; clear J K' hE a
 refine M0 fun K' J ρ => ?_; go_simp;
 refine Ln Eb J fun _ Ea => ?_; clear J K' Eb
 refine late_done [1, 2, 3] Ea hK (fun a hE => ?_); clear hK K Q' Ea; simp only [lk, pick, Nat.reduceEqDiff, ↓reduceIte] at hE
 obtain ⟨B, hBe⟩ : ∃ B, B = w.heap.size := ⟨_, rfl⟩; rw [← hBe] at hE; refine world_cut (fun wt => Below w.heap.size w wt ∧ Cells wt B [.slice A l.length cap, .string mu, .int .i64 lim]) ⟨(Below.refl _ _).alloc (Nat.le_refl _) _, by rw [hBe]; exact cells_new _ _ _⟩ (fun w1 hCut => ?_); obtain ⟨hbw1, hCB⟩ := hCut; clear hBe
 refine Ks ?_
 refine Rs 2 fun Q' K hK => ?_
 refine M0 fun K' J ρ => ?_; go_simp;
 refine Ln hE J fun _ Eb => ?_; clear J K' hE a
 refine M0 fun K' J ρ => ?_; go_simp;
 refine Ln Eb J fun _ Ea => ?_; clear J K' Eb
 refine late_done [1, 2, 3, 7, 8] Ea hK (fun a hE => ?_); clear hK K Q' Ea; simp only [lk, pick, Nat.reduceEqDiff, ↓reduceIte] at hE
 refine Ks ?_
 refine Rs 1 fun Q' K hK => ?_
 refine M0 fun K' J ρ => ?_; go_simp;
 refine Ln hE J fun _ Eb => ?_; clear J K' hE a
 refine late_done [1, 2, 3, 7, 8, 9] Eb hK (fun a hE => ?_); clear hK K Q' Eb; simp only [lk, pick, Nat.reduceEqDiff, ↓reduceIte] at hE
 refine Ks ?_
 refine loop_st (fun (i : Nat) a w' => ∃ (f : List UInt8) (sl : Int), i ≤ s.size ∧ Fits 144 [(1, .string s), (2, .slice T ns.length tc), (3, .pointer (some ⟨B, 0, none⟩)), (7, .string ⟨f.toArray⟩), (8, .int .i64 sl), (9, .int .i64 i)] a ∧ Below w1.heap.size w1 w' ∧ (0 ≤ sl ∧ sl ≤ lim) ∧ f.length ≤ i ∧ HeardL l (keptL mu (s.data.toList.take i)) (keptL mu f) sl) (fun i => s.size - i) 0 ?_ (fun i a w' hI => ?_)
 ·exact ⟨[], 0, Nat.zero_le _, by simpa using hE, Below.refl _ _, ⟨Int.le_refl _, hl0⟩, Nat.le_refl _, by simp [keptL, HeardL, allB, diffN]⟩
 clear hE
 obtain ⟨f, sl, hi, hE, hW, ⟨hsl0, hsl⟩, hfl, hH⟩ := hI
 have HH := hid hH
 clear hH
 obtain ⟨wr, hwr⟩ : ∃ x, x = w' := ⟨_, rfl⟩
 subst hwr
 refine Ks ?_
 refine Rs 4 fun Q' K hK => ?_
 refine M1 hE 9 fun K' J ρ q9 => ?_; go_simp; (try clear q9)
 refine Ln hE J fun _ Eb => ?_; clear J K' hE a
 refine M1 Eb 1 fun K' J ρ q1 => ?_; go_simp; (try clear q1)
 refine Ln Eb J fun _ Ea => ?_; clear J K' Eb
 refine M1 Ea 19 fun K' J ρ q19 => ?_; go_simp; (try go_bits); (try clear q19)
 refine Ln Ea J fun _ Eb => ?_; clear J K' Ea
 refine M2 Eb 18 20 fun K' J ρ q18 q20 => ?_; go_simp; (try go_bits); (try clear q18 q20)
 refine Ln Eb J fun _ Ea => ?_; clear J K' Eb
 refine late_done [1, 2, 3, 7, 8, 9, 21] Ea hK (fun a hE => ?_); clear hK K Q' Ea; simp only [lk, pick, Nat.reduceEqDiff, ↓reduceIte] at hE
 refine Ks ?_
 refine cond_part hE (t := 21) rfl (fun h => ?_) (fun h => ?_)
 ·have hlt : i < s.size := by have := of_decide_eq_true h; omega
  clear h
  have hltI : (i : Int) < s.size := by omega
  have i1 : (0 : Int) ≤ (i : Int) + 1 := by omega
  have i2 : (i : Int) + 1 ≤ s.size := by omega
  have i3 : (i : Int) ≤ (i : Int) + 1 := by omega
  have hW0 := hbw1.trans (hW.mono hbw1.size)
  have hTr := (hT.below hW0).more hW0.size
  have hks : keptL mu (s.data.toList.take (i + 1)) = keptL mu (s.data.toList.take i) ++ (if standsB mu s[i] = true then [] else [s[i]]) := by
   have hil : i < s.data.toList.length := by simpa using hlt
   have e1 : s.data.toList[i] = s[i] := by rw [← byte_at s i hlt, List.getD_eq_getElem?_getD, List.getElem?_eq_getElem hil]; rfl
   rw [kept_snoc mu s.data.toList i hil, e1]
  have HKS := hid hks
  clear hks
  have hNN : ∃ nn : Nat, windI (nthI ns i) 12 = nn ∧ nn < 12 := by
   have := windI_range (nthI ns i) 12 (by decide)
   exact ⟨(windI (nthI ns i) 12).toNat, by omega, by omega⟩
  obtain ⟨nn, hnn, hnn12⟩ := hNN
  have HNN := hid hnn
  clear hnn
  refine Ks ?_
  refine Rs 6 fun Q' K hK => ?_
  refine M1 hE 1 fun K' J ρ q1 => ?_; go_simp; (try clear q1)
  refine Ln hE J fun _ Eb => ?_; clear J K' hE a
  refine M1 Eb 9 fun K' J ρ q9 => ?_; go_simp; (try clear q9)
  refine Ln Eb J fun _ Ea => ?_; clear J K' Eb
  refine M1 Ea 9 fun K' J ρ q9 => ?_; go_simp; (try clear q9)
  refine Ln Ea J fun _ Eb => ?_; clear J K' Ea
  refine M1 Eb 26 fun K' J ρ q26 => ?_; go_simp; (try go_bits); (try simp (disch := omega) only [IntWalk.i64_in]); (try clear q26)
  refine Ln Eb J fun _ Ea => ?_; clear J K' Eb
  refine M3 Ea 24 25 27 fun K' J ρ q24 q25 q27 => ?_; go_simp; (try go_bits); (try clear q24 q25 q27)
  refine Ln Ea J fun _ Eb => ?_; clear J K' Ea
  refine M1 Eb 28 fun K' J ρ q28 => ?_; go_simp; (try clear q28)
  refine Ln Eb J fun _ Ea => ?_; clear J K' Eb
  refine late_done [1, 2, 3, 7, 8, 9, 10] Ea hK (fun a hE => ?_); clear hK K Q' Ea; simp only [lk, pick, Nat.reduceEqDiff, ↓reduceIte] at hE
  refine Ks ?_
  refine Rs 5 fun Q' K hK => ?_
  refine M1 hE 2 fun K' J ρ q2 => ?_; go_simp; (try clear q2)
  refine Ln hE J fun _ Eb => ?_; clear J K' hE a
  refine M1 Eb 9 fun K' J ρ q9 => ?_; go_simp; (try clear q9)
  refine Ln Eb J fun _ Ea => ?_; clear J K' Eb
  refine M2 Ea 29 30 fun K' J ρ q29 q30 => ?_; go_simp; (try go_bits); (try clear q29 q30)
  go_at_call 58; refine (nth_any T tc ns i _ hTr hn).mono ?_; rintro e w2 ⟨rfl, h2⟩
  (try clear r29 r30)
  refine Ln Ea J fun _ Eb => ?_; clear J K' Ea
  refine M1 Eb 31 fun K' J ρ q31 => ?_; go_simp; (try go_bits); (try clear q31)
  go_at_call 37; refine (wind_any _ 12 (by decide) _).mono ?_; rw [HNN.out]; rintro e g1 ⟨rfl, rfl⟩
  (try clear r31)
  refine Ln Eb J fun _ Ea => ?_; clear J K' Eb
  refine M1 Ea 32 fun K' J ρ q32 => ?_; go_simp; (try clear q32)
  refine Ln Ea J fun _ Eb => ?_; clear J K' Ea
  refine late_done [1, 2, 3, 7, 8, 9, 10, 11] Eb hK (fun a hE => ?_); clear hK K Q' Eb; simp only [lk, pick, Nat.reduceEqDiff, ↓reduceIte] at hE
  have hW2 := hW.trans (h2.mono hW.size)
  clear hTr h2 hW0 i1 i2 i3
  refine Ks ?_
  refine Rs 1 fun Q' K hK => ?_
  refine M0 fun K' J ρ => ?_; go_simp;
  refine Ln hE J fun _ Eb => ?_; clear J K' hE a
  refine late_done [1, 2, 3, 7, 8, 9, 10, 11, 12] Eb hK (fun a hE => ?_); clear hK K Q' Eb; simp only [lk, pick, Nat.reduceEqDiff, ↓reduceIte] at hE
  refine Ks ?_
  refine Rs 1 fun Q' K hK => ?_
  refine M0 fun K' J ρ => ?_; go_simp;
  refine Ln hE J fun _ Eb => ?_; clear J K' hE a
  refine late_done [1, 2, 3, 7, 8, 9, 10, 11, 12, 13] Eb hK (fun a hE => ?_); clear hK K Q' Eb; simp only [lk, pick, Nat.reduceEqDiff, ↓reduceIte] at hE
  refine Ks ?_
  refine loop_st (fun (k : Nat) a w' => k ≤ mu.size ∧ Fits 144 [(1, .string s), (2, .slice T ns.length tc), (3, .pointer (some ⟨B, 0, none⟩)), (7, .string ⟨f.toArray⟩), (8, .int .i64 sl), (9, .int .i64 i), (10, .string (s.extract i (i + 1))), (11, .int .i64 nn), (12, .bool (hasC (mu.data.toList.take k) s[i])), (13, .int .i64 k)] a ∧ Below w1.heap.size w1 w') (fun k => mu.size - k) 0 ?_ (fun k a w' hI => ?_)
  ·refine ⟨Nat.zero_le _, ?_, hW2⟩
   rw [show hasC (mu.data.toList.take 0) s[i] = false from rfl]
   simpa using hE
  clear hE hW hW2
  obtain ⟨hk, hE, hW⟩ := hI
  have hCr := hCB.below hW
  have nB := hCr.1
  have cB1 := hCr.2 1 _ rfl
  refine Ks ?_
  refine Rs 5 fun Q' K hK => ?_
  refine M1 hE 13 fun K' J ρ q13 => ?_; go_simp; (try clear q13)
  refine Ln hE J fun _ Eb => ?_; clear J K' hE a
  refine M1 Eb 3 fun K' J ρ q3 => ?_; go_simp; (try clear q3)
  refine Ln Eb J fun _ Ea => ?_; clear J K' Eb
  refine M1 Ea 34 fun K' J ρ q34 => ?_; go_simp; (try clear q34)
  refine Ln Ea J fun _ Eb => ?_; clear J K' Ea
  refine M1 Eb 35 fun K' J ρ q35 => ?_; go_simp; (try go_bits); (try clear q35)
  refine Ln Eb J fun _ Ea => ?_; clear J K' Eb
  refine M2 Ea 33 36 fun K' J ρ q33 q36 => ?_; go_simp; (try go_bits); (try clear q33 q36)
  refine Ln Ea J fun _ Eb => ?_; clear J K' Ea
  refine late_done [1, 2, 3, 7, 8, 9, 10, 11, 12, 13, 37] Eb hK (fun a hE => ?_); clear hK K Q' Eb; simp only [lk, pick, Nat.reduceEqDiff, ↓reduceIte] at hE
  refine Ks ?_
  refine cond_part hE (t := 37) rfl (fun h => ?_) (fun h => ?_)
  ·have hkt : k < mu.size := by have := of_decide_eq_true h; omega
   clear h
   have hktI : (k : Int) < mu.size := by omega
   have HTK := hid (hasC_take mu s[i] k hkt)
   refine Ks ?_
   cases hc : hasC (mu.data.toList.take k) s[i]
   ·rw [hc] at hE HTK
    refine Rd [11] (fun wt => Below w'.heap.size w' wt) (fun w1 w2 => Below w1.heap.size w1 w2) [(0, some 40), (1, some 41), (2, some 42), (3, some 43), (4, some 44), (5, some 45), (6, some 46), (7, some 47), (8, some 48), (9, some 49), (10, some 50)] [40, 41, 42, 43, 44, 45, 46, 47, 48, 49, 50] #[true, true, true, true, true, true, true, true, true, true, true, false] [1, 2, 3, 7, 8, 9, 10, 11, 12, 13] hE ((Below.refl _ _).drew) fun Q' K hK => ?_
    refine SeqOps.val ?_ (Sp fun ax wx hS hT' hd K' J => ?_) ?_; rotate_left 1
    ·have r12 := hS.at 12 (by decide) (hE.at 12 rfl); obtain ⟨hcT, hfT, hlT, hmT, hwT, hzT⟩ := bT hT'
     refine o1 r12 fun ρ q12 => ?_; go_simp;
     exact Jo J hT'
    refine SeqOps.val ?_ (Sp fun ax wx hS hT' hd K' J => ?_) ?_; rotate_left 1
    ·have r40 := Tv hd 0 0 40; obtain ⟨hcT, hfT, hlT, hmT, hwT, hzT⟩ := bT hT'
     refine o1 r40 fun ρ q40 => ?_; go_simp;
     exact Jo J hT'
    refine SeqOps.val ?_ (Sy 0 41 fun ax wx hS hT' hd K' J => ?_) ?_; rotate_left 1
    ·have r3 := hS.at 3 (by decide) (hE.at 3 rfl); obtain ⟨hcT, hfT, hlT, hmT, hwT, hzT⟩ := bT hT'
     refine o1 r3 fun ρ q3 => ?_; go_simp;
     exact Jo J hT'
    refine SeqOps.val ?_ (Sy 1 41 fun ax wx hS hT' hd K' J => ?_) ?_; rotate_left 1
    ·have r42 := Tv hd 0 2 42; obtain ⟨hcT, hfT, hlT, hmT, hwT, hzT⟩ := bT hT'
     refine o1 r42 fun ρ q42 => ?_; go_simp;
     exact Jo J hT'
    refine SeqOps.val ?_ (Sy 2 41 fun ax wx hS hT' hd K' J => ?_) ?_; rotate_left 1
    ·have r13 := hS.at 13 (by decide) (hE.at 13 rfl); obtain ⟨hcT, hfT, hlT, hmT, hwT, hzT⟩ := bT hT'
     refine o1 r13 fun ρ q13 => ?_; go_simp;
     exact Jo J hT'
    refine SeqOps.val ?_ (Sy 3 41 fun ax wx hS hT' hd K' J => ?_) ?_; rotate_left 1
    ·have r43 := Tv hd 1 3 43; have r44 := Tv hd 0 4 44; obtain ⟨hcT, hfT, hlT, hmT, hwT, hzT⟩ := bT hT'
     refine o2 r43 r44 fun ρ q43 q44 => ?_; go_simp; (try go_bits);
     exact Jo J hT'
    refine SeqOps.val ?_ (Sy 4 41 fun ax wx hS hT' hd K' J => ?_) ?_; rotate_left 1
    ·have r1 := hS.at 1 (by decide) (hE.at 1 rfl); obtain ⟨hcT, hfT, hlT, hmT, hwT, hzT⟩ := bT hT'
     refine o1 r1 fun ρ q1 => ?_; go_simp;
     exact Jo J hT'
    refine SeqOps.val ?_ (Sy 5 41 fun ax wx hS hT' hd K' J => ?_) ?_; rotate_left 1
    ·have r9 := hS.at 9 (by decide) (hE.at 9 rfl); obtain ⟨hcT, hfT, hlT, hmT, hwT, hzT⟩ := bT hT'
     refine o1 r9 fun ρ q9 => ?_; go_simp;
     exact Jo J hT'
    refine SeqOps.val ?_ (Sy 6 41 fun ax wx hS hT' hd K' J => ?_) ?_; rotate_left 1
    ·have r46 := Tv hd 1 6 46; have r47 := Tv hd 0 7 47; obtain ⟨hcT, hfT, hlT, hmT, hwT, hzT⟩ := bT hT'
     refine o2 r46 r47 fun ρ q46 q47 => ?_; go_simp; (try go_bits);
     exact Jo J hT'
    refine SeqOps.say (fun v _ => v = .bool (mu[k] == s[i])) (fun _ _ _ _ h => h) (Sy 7 41 fun ax wx hS hT' hd K' J => ?_) ?_
    ·have r45 := Tv hd 3 5 45; have r48 := Tv hd 0 8 48; obtain ⟨hcT, hfT, hlT, hmT, hwT, hzT⟩ := bT hT'
     refine o2 r45 r48 fun ρ q45 q48 => ?_; go_simp; (try go_bits);
     exact J.out _ _ _ rfl (by congr 1; rw [Bool.eq_iff_iff]; simp [← UInt8.toNat_inj]; constructor <;> intro h <;> omega) hT' (Below.refl _ _)
    refine SeqOps.val ?_ (Sp fun ax wx hS hT' hd K' J => ?_) ?_; rotate_left 1
    ·have r41 := Tv hd 8 1 41; obtain ⟨v49, r49, h49⟩ := Tg hd 0 9 49; obtain rfl := h49; obtain ⟨hcT, hfT, hlT, hmT, hwT, hzT⟩ := bT hT'
     refine o2 r41 r49 fun ρ q41 q49 => ?_; go_simp; (try go_bits);
     exact Jo J hT'
    refine SeqOps.nil ?_
    intro w3 hBl; (repeat refine Ek ?_)
    refine fun ax hEx => ?_
    simp only [lk, pick, Nat.reduceEqDiff, ↓reduceIte] at hEx
    refine M1 hEx 50 fun K' J ρ q50 => ?_; go_simp; (try clear q50)
    refine Ln hEx J fun _ Eb => ?_; clear J K' hEx
    refine late_done [1, 2, 3, 7, 8, 9, 10, 11, 12, 13] Eb hK (fun a hE => ?_); clear hK K Q' Eb; simp only [lk, pick, Nat.reduceEqDiff, ↓reduceIte] at hE
    refine Ks ?_
    refine Rs 3 fun Q' K hK => ?_
    refine M1 hE 13 fun K' J ρ q13 => ?_; go_simp; (try clear q13)
    refine Ln hE J fun _ Eb => ?_; clear J K' hE a
    refine M1 Eb 38 fun K' J ρ q38 => ?_; go_simp; (try go_bits); (try simp (disch := omega) only [IntWalk.i64_in]); (try clear q38)
    refine Ln Eb J fun _ Ea => ?_; clear J K' Eb
    refine M1 Ea 39 fun K' J ρ q39 => ?_; go_simp; (try clear q39)
    refine Ln Ea J fun _ Eb => ?_; clear J K' Ea
    refine late_done [1, 2, 3, 7, 8, 9, 10, 11, 12, 13] Eb hK (fun a hE => ?_); clear hK K Q' Eb; simp only [lk, pick, Nat.reduceEqDiff, ↓reduceIte] at hE
    refine Ks ?_
    exact ⟨k + 1, ⟨hkt, by rw [HTK.out]; simpa using hE, hW.trans (hBl.mono hW.size)⟩, by omega⟩
   ·rw [hc] at hE HTK
    refine Rd [11] (fun wt => Below w'.heap.size w' wt) (fun w1 w2 => Below w1.heap.size w1 w2) [(0, some 40), (1, some 41), (2, some 42), (3, some 43), (4, some 44), (5, some 45), (6, some 46), (7, some 47), (8, some 48), (9, some 49), (10, some 50)] [40, 41, 42, 43, 44, 45, 46, 47, 48, 49, 50] #[true, true, true, true, true, true, true, true, true, true, true, false] [1, 2, 3, 7, 8, 9, 10, 11, 12, 13] hE ((Below.refl _ _).drew) fun Q' K hK => ?_
    refine SeqOps.val ?_ (Sp fun ax wx hS hT' hd K' J => ?_) ?_; rotate_left 1
    ·have r12 := hS.at 12 (by decide) (hE.at 12 rfl); obtain ⟨hcT, hfT, hlT, hmT, hwT, hzT⟩ := bT hT'
     refine o1 r12 fun ρ q12 => ?_; go_simp;
     exact Jo J hT'
    refine SeqOps.val ?_ (Sp fun ax wx hS hT' hd K' J => ?_) ?_; rotate_left 1
    ·have r40 := Tv hd 0 0 40; obtain ⟨hcT, hfT, hlT, hmT, hwT, hzT⟩ := bT hT'
     refine o1 r40 fun ρ q40 => ?_; go_simp;
     exact Jo J hT'
    refine SeqOps.val _ (StepOk.no (by (first | (simp only [List.getElem?_toArray, List.getElem?_cons_succ, List.getElem?_cons_zero]; rfl) | rfl)) rfl (e := 41) 0 rfl rfl (by kernel_rfl) (by kernel_rfl) (fun w => Below.refl _ _)) ?_
    refine SeqOps.val _ (StepOk.no (by (first | (simp only [List.getElem?_toArray, List.getElem?_cons_succ, List.getElem?_cons_zero]; rfl) | rfl)) rfl (e := 41) 1 rfl rfl (by kernel_rfl) (by kernel_rfl) (fun w => Below.refl _ _)) ?_
    refine SeqOps.val _ (StepOk.no (by (first | (simp only [List.getElem?_toArray, List.getElem?_cons_succ, List.getElem?_cons_zero]; rfl) | rfl)) rfl (e := 41) 2 rfl rfl (by kernel_rfl) (by kernel_rfl) (fun w => Below.refl _ _)) ?_
    refine SeqOps.val _ (StepOk.no (by (first | (simp only [List.getElem?_toArray, List.getElem?_cons_succ, List.getElem?_cons_zero]; rfl) | rfl)) rfl (e := 41) 3 rfl rfl (by kernel_rfl) (by kernel_rfl) (fun w => Below.refl _ _)) ?_
    refine SeqOps.val _ (StepOk.no (by (first | (simp only [List.getElem?_toArray, List.getElem?_cons_succ, List.getElem?_cons_zero]; rfl) | rfl)) rfl (e := 41) 4 rfl rfl (by kernel_rfl) (by kernel_rfl) (fun w => Below.refl _ _)) ?_
    refine SeqOps.val _ (StepOk.no (by (first | (simp only [List.getElem?_toArray, List.getElem?_cons_succ, List.getElem?_cons_zero]; rfl) | rfl)) rfl (e := 41) 5 rfl rfl (by kernel_rfl) (by kernel_rfl) (fun w => Below.refl _ _)) ?_
    refine SeqOps.val _ (StepOk.no (by (first | (simp only [List.getElem?_toArray, List.getElem?_cons_succ, List.getElem?_cons_zero]; rfl) | rfl)) rfl (e := 41) 6 rfl rfl (by kernel_rfl) (by kernel_rfl) (fun w => Below.refl _ _)) ?_
    refine SeqOps.val _ (StepOk.no (by (first | (simp only [List.getElem?_toArray, List.getElem?_cons_succ, List.getElem?_cons_zero]; rfl) | rfl)) rfl (e := 41) 7 rfl rfl (by kernel_rfl) (by kernel_rfl) (fun w => Below.refl _ _)) ?_
    refine SeqOps.val ?_ (Sp fun ax wx hS hT' hd K' J => ?_) ?_; rotate_left 1
    ·have r41 := Tv hd 8 1 41; have r49 := Tv hd 0 9 49; obtain ⟨hcT, hfT, hlT, hmT, hwT, hzT⟩ := bT hT'
     refine o2 r41 r49 fun ρ q41 q49 => ?_; go_simp; (try go_bits);
     exact Jo J hT'
    refine SeqOps.nil ?_
    intro w3 hBl; (repeat refine Ek ?_)
    refine fun ax hEx => ?_
    simp only [lk, pick, Nat.reduceEqDiff, ↓reduceIte] at hEx
    refine M1 hEx 50 fun K' J ρ q50 => ?_; go_simp; (try clear q50)
    refine Ln hEx J fun _ Eb => ?_; clear J K' hEx
    refine late_done [1, 2, 3, 7, 8, 9, 10, 11, 12, 13] Eb hK (fun a hE => ?_); clear hK K Q' Eb; simp only [lk, pick, Nat.reduceEqDiff, ↓reduceIte] at hE
    refine Ks ?_
    refine Rs 3 fun Q' K hK => ?_
    refine M1 hE 13 fun K' J ρ q13 => ?_; go_simp; (try clear q13)
    refine Ln hE J fun _ Eb => ?_; clear J K' hE a
    refine M1 Eb 38 fun K' J ρ q38 => ?_; go_simp; (try go_bits); (try simp (disch := omega) only [IntWalk.i64_in]); (try clear q38)
    refine Ln Eb J fun _ Ea => ?_; clear J K' Eb
    refine M1 Ea 39 fun K' J ρ q39 => ?_; go_simp; (try clear q39)
    refine Ln Ea J fun _ Eb => ?_; clear J K' Ea
    refine late_done [1, 2, 3, 7, 8, 9, 10, 11, 12, 13] Eb hK (fun a hE => ?_); clear hK K Q' Eb; simp only [lk, pick, Nat.reduceEqDiff, ↓reduceIte] at hE
    refine Ks ?_
    exact ⟨k + 1, ⟨hkt, by rw [HTK.out]; simpa using hE, hW.trans (hBl.mono hW.size)⟩, by omega⟩
  ·have hkk : k = mu.size := by have := of_decide_eq_false h; omega
   subst hkk
   clear h hk nB cB1 hCr
   have hfull : hasC (mu.data.toList.take mu.size) s[i] = standsB mu s[i] := by
    rw [standsB_eq, List.take_of_length_le (by simp)]
   obtain ⟨q, hq⟩ : ∃ q, standsB mu s[i] = q := ⟨_, rfl⟩
   rw [hfull, hq] at hE
   have HQ := hid hq
   clear hfull hq
   obtain ⟨g3, hg3⟩ : ∃ g, decide ((nn : Int) % 3 = 1) = g := ⟨_, rfl⟩
   have HG3 := hid hg3
   clear hg3
   refine KsE ?_
   refine Ks ?_
   refine Rs 6 fun Q' K hK => ?_
   refine M1 hE 12 fun K' J ρ q12 => ?_; go_simp; (try clear q12)
   refine Ln hE J fun _ Eb => ?_; clear J K' hE a
   refine M1 Eb 51 fun K' J ρ q51 => ?_; go_simp; (try clear q51)
   refine Ln Eb J fun _ Ea => ?_; clear J K' Eb
   refine Late.may Ea (d' := 53) (by decide) (by (first | (simp only [List.getElem?_toArray, List.getElem?_cons_succ, List.getElem?_cons_zero]; rfl) | rfl)) rfl rfl (d := 52) (by kernel_rfl) rfl ?_ (fun hx K' J => ?_) (fun _ Eb => ?_); rotate_left 1
   ·have hx0 := hx; (try simp only [beq_iff_eq, Bool.and_eq_true, Bool.beq_true, Bool.beq_false, Bool.not_eq_true', beq_eq_false_iff_ne] at hx); have r11 := Ea.at 11 rfl; clear hx0
    refine o1 r11 fun ρ q11 => ?_; go_simp;
    refine put_eq J ?_; rfl
   clear Ea
   refine Late.may Eb (d' := 54) (by decide) (by (first | (simp only [List.getElem?_toArray, List.getElem?_cons_succ, List.getElem?_cons_zero]; rfl) | rfl)) rfl rfl (d := 52) (by kernel_rfl) rfl ?_ (fun hx K' J => ?_) (fun _ Ea => ?_); rotate_left 1
   ·have hx0 := hx; (try simp only [beq_iff_eq, Bool.and_eq_true, Bool.beq_true, Bool.beq_false, Bool.not_eq_true', beq_eq_false_iff_ne] at hx); have r53 := Eb.at 53 rfl; (try simp only [hx0, may_true] at r53); clear hx0
    refine o1 r53 fun ρ q53 => ?_; go_simp; (try go_bits); (try simp (disch := omega) only [IntWalk.i64_in]);
    refine put_eq J ?_; rfl
   clear Eb
   refine Late.may Ea (d' := 55) (by decide) (by (first | (simp only [List.getElem?_toArray, List.getElem?_cons_succ, List.getElem?_cons_zero]; rfl) | rfl)) rfl rfl (d := 52) (by kernel_rfl) rfl ?_ (fun hx K' J => ?_) (fun _ Eb => ?_); rotate_left 1
   ·have hx0 := hx; (try simp only [beq_iff_eq, Bool.and_eq_true, Bool.beq_true, Bool.beq_false, Bool.not_eq_true', beq_eq_false_iff_ne] at hx); have r54 := Ea.at 54 rfl; (try simp only [hx0, may_true] at r54); clear hx0
    refine o1 r54 fun ρ q54 => ?_; go_simp; (try go_bits);
    refine put_eq J ?_; rfl
   clear Ea
   refine M2 Eb 52 55 fun K' J ρ q52 q55 => ?_; go_simp; (try go_bits); (try clear q52 q55)
   refine Ln Eb J fun _ Ea => ?_; clear J K' Eb
   replace Ea := Ea.turn 56 (v' := .bool (q && g3)) rfl (by (rw [← HG3.out]; cases q <;> first | (simp; done) | (simp; rfl)))
   refine late_done [1, 2, 3, 7, 8, 9, 10, 11, 12, 56] Ea hK (fun a hE => ?_); clear hK K Q' Ea; simp only [lk, pick, Nat.reduceEqDiff, ↓reduceIte] at hE
   refine Ks ?_
   refine cond_part hE (t := 56) rfl (fun h => ?_) (fun h => ?_)
   ·have hq1 : q = true := by revert h; cases q <;> simp
    refine Ks ?_
    refine Rs 3 fun Q' K hK => ?_
    refine M1 hE 9 fun K' J ρ q9 => ?_; go_simp; (try clear q9)
    refine Ln hE J fun _ Eb => ?_; clear J K' hE a
    refine M1 Eb 22 fun K' J ρ q22 => ?_; go_simp; (try go_bits); (try simp (disch := omega) only [IntWalk.i64_in]); (try clear q22)
    refine Ln Eb J fun _ Ea => ?_; clear J K' Eb
    refine M1 Ea 23 fun K' J ρ q23 => ?_; go_simp; (try clear q23)
    refine Ln Ea J fun _ Eb => ?_; clear J K' Ea
    refine late_done [1, 2, 3, 7, 8, 9] Eb hK (fun a hE => ?_); clear hK K Q' Eb; simp only [lk, pick, Nat.reduceEqDiff, ↓reduceIte] at hE
    refine Ks ?_
    refine ⟨i + 1, ⟨f, sl, hlt, by simpa using hE, hW, ⟨hsl0, hsl⟩, by omega, ?_⟩, by omega⟩
    rw [HKS.out, HQ.out, hq1, if_pos rfl, List.append_nil]
    exact HH.out
   ·clear h
    refine Ks ?_
    refine Rs 1 fun Q' K hK => ?_
    refine M0 fun K' J ρ => ?_; go_simp;
    refine Ln hE J fun _ Eb => ?_; clear J K' hE a
    refine late_done [1, 2, 3, 7, 8, 9, 10, 11, 12, 14] Eb hK (fun a hE => ?_); clear hK K Q' Eb; simp only [lk, pick, Nat.reduceEqDiff, ↓reduceIte] at hE
    refine Ks ?_
    have hA0 : AltS l mu q s[i] sl lim s i sl := ⟨s[i], ⟨hlt, rfl⟩, by unfold alikeB; simp, .inl rfl, by rw [if_pos rfl]; omega, hsl⟩
    refine loop_st (fun (k : Nat) a w' => ∃ (src : ByteArray) (p : Nat) (sl2 : Int), k ≤ l.length ∧ Fits 144 [(1, .string s), (2, .slice T ns.length tc), (3, .pointer (some ⟨B, 0, none⟩)), (7, .string ⟨f.toArray⟩), (8, .int .i64 sl2), (9, .int .i64 i), (10, .string (src.extract p (p + 1))), (11, .int .i64 nn), (12, .bool q), (14, .int .i64 k)] a ∧ Below w1.heap.size w1 w' ∧ (0 ≤ sl2 ∧ sl ≤ sl2) ∧ AltS l mu q s[i] sl lim src p sl2) (fun k => l.length - k) 0 ?_ (fun k a w' hI => ?_)
    ·exact ⟨s, i, sl, Nat.zero_le _, by simpa using hE, hW, ⟨hsl0, Int.le_refl _⟩, hA0⟩
    clear hE hW hA0
    obtain ⟨src, p, sl2, hk, hE, hW, ⟨h20, hss⟩, hAl⟩ := hI
    have HAL := hid hAl
    clear hAl
    have hCr := hCB.below hW
    have nB := hCr.1
    have cB0 := hCr.2 0 _ rfl
    refine Ks ?_
    refine Rs 9 fun Q' K hK => ?_
    refine M1 hE 14 fun K' J ρ q14 => ?_; go_simp; (try clear q14)
    refine Ln hE J fun _ Eb => ?_; clear J K' hE a
    refine M1 Eb 3 fun K' J ρ q3 => ?_; go_simp; (try clear q3)
    refine Ln Eb J fun _ Ea => ?_; clear J K' Eb
    refine M1 Ea 58 fun K' J ρ q58 => ?_; go_simp; (try clear q58)
    refine Ln Ea J fun _ Eb => ?_; clear J K' Ea
    refine M1 Eb 59 fun K' J ρ q59 => ?_; go_simp; (try go_bits); (try clear q59)
    refine Ln Eb J fun _ Ea => ?_; clear J K' Eb
    refine M2 Ea 57 60 fun K' J ρ q57 q60 => ?_; go_simp; (try go_bits); (try clear q57 q60)
    refine Ln Ea J fun _ Eb => ?_; clear J K' Ea
    refine M1 Eb 61 fun K' J ρ q61 => ?_; go_simp; (try clear q61)
    refine Ln Eb J fun _ Ea => ?_; clear J K' Eb
    refine Late.may Ea (d' := 63) (by decide) (by (first | (simp only [List.getElem?_toArray, List.getElem?_cons_succ, List.getElem?_cons_zero]; rfl) | rfl)) rfl rfl (d := 62) (by kernel_rfl) rfl ?_ (fun hx K' J => ?_) (fun _ Eb => ?_); rotate_left 1
    ·have hx0 := hx; (try simp only [beq_iff_eq, Bool.and_eq_true, Bool.beq_true, Bool.beq_false, Bool.not_eq_true', beq_eq_false_iff_ne] at hx); have r12 := Ea.at 12 rfl; clear hx0
     refine o1 r12 fun ρ q12 => ?_; go_simp;
     refine put_eq J ?_; rfl
    clear Ea
    refine Late.may Eb (d' := 64) (by decide) (by (first | (simp only [List.getElem?_toArray, List.getElem?_cons_succ, List.getElem?_cons_zero]; rfl) | rfl)) rfl rfl (d := 62) (by kernel_rfl) rfl ?_ (fun hx K' J => ?_) (fun _ Ea => ?_); rotate_left 1
    ·have hx0 := hx; (try simp only [beq_iff_eq, Bool.and_eq_true, Bool.beq_true, Bool.beq_false, Bool.not_eq_true', beq_eq_false_iff_ne] at hx); have r63 := Eb.at 63 rfl; (try simp only [hx0, may_true] at r63); clear hx0
     refine o1 r63 fun ρ q63 => ?_; go_simp; (try go_bits); (try simp (disch := omega) only [IntWalk.i64_in]);
     refine put_eq J ?_; rfl
    clear Eb
    refine M2 Ea 62 64 fun K' J ρ q62 q64 => ?_; go_simp; (try go_bits); (try clear q62 q64)
    refine Ln Ea J fun _ Eb => ?_; clear J K' Ea
    replace Eb := Eb.turn 65 (v' := .bool (decide ((k : Int) < l.length) && !q)) rfl (by (by_cases e : k < l.length <;> cases q <;> simp [e, may]))
    refine late_done [1, 2, 3, 7, 8, 9, 10, 11, 12, 14, 65] Eb hK (fun a hE => ?_); clear hK K Q' Eb; simp only [lk, pick, Nat.reduceEqDiff, ↓reduceIte] at hE
    refine Ks ?_
    refine cond_part hE (t := 65) rfl (fun h => ?_) (fun h => ?_)
    ·rw [Bool.and_eq_true, decide_eq_true_eq, Bool.not_eq_true'] at h
     obtain ⟨hkI, hqf⟩ := h
     have hkl : k < l.length := by omega
     rw [hqf] at hE
     have HQF := hid hqf
     clear hqf
     obtain ⟨ab, ao, rfl, hab, hc⟩ := hA.txt hkl
     have hgs := hg4 k hkl
     have hgm : l[k] ∈ l := List.getElem_mem hkl
     obtain ⟨g, hg⟩ : ∃ g, l[k] = g := ⟨_, rfl⟩
     rw [hg] at hc hgs hgm
     have HGM := hid hgm
     clear hg hgm nB cB0 hCr
     refine Ks ?_
     refine Rs 1 fun Q' K hK => ?_
     refine M0 fun K' J ρ => ?_; go_simp;
     refine Ln hE J fun _ Eb => ?_; clear J K' hE a
     refine late_done [1, 2, 3, 7, 8, 9, 10, 11, 12, 14, 15] Eb hK (fun a hE => ?_); clear hK K Q' Eb; simp only [lk, pick, Nat.reduceEqDiff, ↓reduceIte] at hE
     refine Ks ?_
     refine loop_st (fun (m : Nat) a w' => m ≤ g.size ∧ Fits 144 [(1, .string s), (2, .slice T ns.length tc), (3, .pointer (some ⟨B, 0, none⟩)), (7, .string ⟨f.toArray⟩), (8, .int .i64 sl2), (9, .int .i64 i), (10, .string (src.extract p (p + 1))), (11, .int .i64 nn), (12, .bool false), (14, .int .i64 k), (15, .int .i64 m)] a ∧ Below w1.heap.size w1 w') (fun m => g.size - m) 0 ⟨Nat.zero_le _, by simpa using hE, hW⟩ (fun m a w' hI => ?_)
     clear hE hW
     obtain ⟨hm, hE, hW⟩ := hI
     have hW0 := hbw1.trans (hW.mono hbw1.size)
     have hcr := (hW0.cell (p := ⟨ab, ao + k, none⟩) hab).trans hc
     have nab : ab < w'.heap.size := Nat.lt_of_lt_of_le hab hW0.size
     have hCr := hCB.below hW
     have nB := hCr.1
     have cB0 := hCr.2 0 _ rfl
     have cB1 := hCr.2 1 _ rfl
     have cB2 := hCr.2 2 _ rfl
     refine Ks ?_
     refine Rs 8 fun Q' K hK => ?_
     refine M1 hE 15 fun K' J ρ q15 => ?_; go_simp; (try clear q15)
     refine Ln hE J fun _ Eb => ?_; clear J K' hE a
     refine M1 Eb 3 fun K' J ρ q3 => ?_; go_simp; (try clear q3)
     refine Ln Eb J fun _ Ea => ?_; clear J K' Eb
     refine M1 Ea 69 fun K' J ρ q69 => ?_; go_simp; (try clear q69)
     refine Ln Ea J fun _ Eb => ?_; clear J K' Ea
     refine M1 Eb 14 fun K' J ρ q14 => ?_; go_simp; (try clear q14)
     refine Ln Eb J fun _ Ea => ?_; clear J K' Eb
     refine M2 Ea 70 71 fun K' J ρ q70 q71 => ?_; go_simp; (try go_bits); (try clear q70 q71)
     refine Ln Ea J fun _ Eb => ?_; clear J K' Ea
     refine M1 Eb 72 fun K' J ρ q72 => ?_; go_simp; (try clear q72)
     refine Ln Eb J fun _ Ea => ?_; clear J K' Eb
     refine M1 Ea 73 fun K' J ρ q73 => ?_; go_simp; (try go_bits); (try clear q73)
     refine Ln Ea J fun _ Eb => ?_; clear J K' Ea
     refine M2 Eb 68 74 fun K' J ρ q68 q74 => ?_; go_simp; (try go_bits); (try clear q68 q74)
     refine Ln Eb J fun _ Ea => ?_; clear J K' Eb
     refine late_done [1, 2, 3, 7, 8, 9, 10, 11, 12, 14, 15, 75] Ea hK (fun a hE => ?_); clear hK K Q' Ea; simp only [lk, pick, Nat.reduceEqDiff, ↓reduceIte] at hE
     refine Ks ?_
     refine cond_part hE (t := 75) rfl (fun h => ?_) (fun h => ?_)
     ·have hmt : m < g.size := by have := of_decide_eq_true h; omega
      clear h
      have hmtI : (m : Int) < g.size := by omega
      refine Ks ?_
      by_cases y1 : g[m] = s[i]
      ·have HY := hid y1
       by_cases y2 : (nn : Int) % 2 = 1
       ·skip
        refine Rd [] (fun wt => Below w'.heap.size w' wt) (fun w1 w2 => Below w1.heap.size w1 w2) [(0, some 78), (1, some 79), (2, some 80), (3, some 81), (4, some 82), (5, some 83), (6, some 84), (7, some 85), (8, some 86), (9, some 87), (10, some 88), (11, some 89), (12, some 90), (13, some 91), (14, some 92), (15, some 93), (16, some 94), (17, some 95), (18, some 96), (19, some 97), (20, some 98), (21, some 99)] [78, 79, 80, 81, 82, 83, 84, 85, 86, 87, 88, 89, 90, 91, 92, 93, 94, 95, 96, 97, 98, 99] #[true, true, true, true, true, true, true, true, true, true, true, true, true, true, true, true, true, true, true, true, true, true] [1, 2, 3, 7, 8, 9, 10, 11, 12, 14, 15] hE ((Below.refl _ _).drew) fun Q' K hK => ?_
        refine SeqOps.val ?_ (Sp fun ax wx hS hT' hd K' J => ?_) ?_; rotate_left 1
        ·have r3 := hS.at 3 (by decide) (hE.at 3 rfl); obtain ⟨hcT, hfT, hlT, hmT, hwT, hzT⟩ := bT hT'
         refine o1 r3 fun ρ q3 => ?_; go_simp;
         exact Jo J hT'
        refine SeqOps.val ?_ (Sp fun ax wx hS hT' hd K' J => ?_) ?_; rotate_left 1
        ·have r78 := Tv hd 0 0 78; obtain ⟨hcT, hfT, hlT, hmT, hwT, hzT⟩ := bT hT'
         refine o1 r78 fun ρ q78 => ?_; go_simp;
         exact Jo J hT'
        refine SeqOps.val ?_ (Sp fun ax wx hS hT' hd K' J => ?_) ?_; rotate_left 1
        ·have r14 := hS.at 14 (by decide) (hE.at 14 rfl); obtain ⟨hcT, hfT, hlT, hmT, hwT, hzT⟩ := bT hT'
         refine o1 r14 fun ρ q14 => ?_; go_simp;
         exact Jo J hT'
        refine SeqOps.val ?_ (Sp fun ax wx hS hT' hd K' J => ?_) ?_; rotate_left 1
        ·have r79 := Tv hd 1 1 79; have r80 := Tv hd 0 2 80; obtain ⟨hcT, hfT, hlT, hmT, hwT, hzT⟩ := bT hT'
         refine o2 r79 r80 fun ρ q79 q80 => ?_; go_simp; (try go_bits);
         exact Jo J hT'
        refine SeqOps.val ?_ (Sp fun ax wx hS hT' hd K' J => ?_) ?_; rotate_left 1
        ·have r81 := Tv hd 0 3 81; obtain ⟨hcT, hfT, hlT, hmT, hwT, hzT⟩ := bT hT'
         refine o1 r81 fun ρ q81 => ?_; go_simp;
         exact Jo J hT'
        refine SeqOps.val ?_ (Sp fun ax wx hS hT' hd K' J => ?_) ?_; rotate_left 1
        ·have r15 := hS.at 15 (by decide) (hE.at 15 rfl); obtain ⟨hcT, hfT, hlT, hmT, hwT, hzT⟩ := bT hT'
         refine o1 r15 fun ρ q15 => ?_; go_simp;
         exact Jo J hT'
        refine SeqOps.val ?_ (Sp fun ax wx hS hT' hd K' J => ?_) ?_; rotate_left 1
        ·have r82 := Tv hd 1 4 82; have r83 := Tv hd 0 5 83; obtain ⟨hcT, hfT, hlT, hmT, hwT, hzT⟩ := bT hT'
         refine o2 r82 r83 fun ρ q82 q83 => ?_; go_simp; (try go_bits);
         exact Jo J hT'
        refine SeqOps.val ?_ (Sp fun ax wx hS hT' hd K' J => ?_) ?_; rotate_left 1
        ·have r1 := hS.at 1 (by decide) (hE.at 1 rfl); obtain ⟨hcT, hfT, hlT, hmT, hwT, hzT⟩ := bT hT'
         refine o1 r1 fun ρ q1 => ?_; go_simp;
         exact Jo J hT'
        refine SeqOps.val ?_ (Sp fun ax wx hS hT' hd K' J => ?_) ?_; rotate_left 1
        ·have r9 := hS.at 9 (by decide) (hE.at 9 rfl); obtain ⟨hcT, hfT, hlT, hmT, hwT, hzT⟩ := bT hT'
         refine o1 r9 fun ρ q9 => ?_; go_simp;
         exact Jo J hT'
        refine SeqOps.val ?_ (Sp fun ax wx hS hT' hd K' J => ?_) ?_; rotate_left 1
        ·have r85 := Tv hd 1 7 85; have r86 := Tv hd 0 8 86; obtain ⟨hcT, hfT, hlT, hmT, hwT, hzT⟩ := bT hT'
         refine o2 r85 r86 fun ρ q85 q86 => ?_; go_simp; (try go_bits);
         exact Jo J hT'
        refine SeqOps.say (fun v _ => v = .bool false) (fun _ _ _ _ h => h) (Sp fun ax wx hS hT' hd K' J => ?_) ?_
        ·have r84 := Tv hd 3 6 84; have r87 := Tv hd 0 9 87; obtain ⟨hcT, hfT, hlT, hmT, hwT, hzT⟩ := bT hT'
         refine o2 r84 r87 fun ρ q84 q87 => ?_; go_simp; (try go_bits);
         exact J.out _ _ _ rfl (by simp [HY.out]) hT' (Below.refl _ _)
        refine SeqOps.val ?_ (Sp fun ax wx hS hT' hd K' J => ?_) ?_; rotate_left 1
        ·obtain ⟨v88, r88, h88⟩ := Tg hd 0 10 88; obtain rfl := h88; obtain ⟨hcT, hfT, hlT, hmT, hwT, hzT⟩ := bT hT'
         refine o1 r88 fun ρ q88 => ?_; go_simp;
         exact Jo J hT'
        refine SeqOps.val ?_ (Sy 0 89 fun ax wx hS hT' hd K' J => ?_) ?_; rotate_left 1
        ·have r11 := hS.at 11 (by decide) (hE.at 11 rfl); obtain ⟨hcT, hfT, hlT, hmT, hwT, hzT⟩ := bT hT'
         refine o1 r11 fun ρ q11 => ?_; go_simp;
         exact Jo J hT'
        refine SeqOps.val ?_ (Sy 1 89 fun ax wx hS hT' hd K' J => ?_) ?_; rotate_left 1
        ·have r90 := Tv hd 0 12 90; obtain ⟨hcT, hfT, hlT, hmT, hwT, hzT⟩ := bT hT'
         refine o1 r90 fun ρ q90 => ?_; go_simp; (try go_bits); (try simp (disch := omega) only [IntWalk.i64_in]);
         exact Jo J hT'
        refine SeqOps.say (fun v _ => v = .bool true) (fun _ _ _ _ h => h) (Sy 2 89 fun ax wx hS hT' hd K' J => ?_) ?_
        ·have r91 := Tv hd 0 13 91; obtain ⟨hcT, hfT, hlT, hmT, hwT, hzT⟩ := bT hT'
         refine o1 r91 fun ρ q91 => ?_; go_simp; (try go_bits);
         exact J.out _ _ _ rfl (by simp [y2]) hT' (Below.refl _ _)
        refine SeqOps.val ?_ (Sp fun ax wx hS hT' hd K' J => ?_) ?_; rotate_left 1
        ·have r89 := Tv hd 3 11 89; obtain ⟨v92, r92, h92⟩ := Tg hd 0 14 92; obtain rfl := h92; obtain ⟨hcT, hfT, hlT, hmT, hwT, hzT⟩ := bT hT'
         refine o2 r89 r92 fun ρ q89 q92 => ?_; go_simp; (try go_bits);
         exact Jo J hT'
        refine SeqOps.val ?_ (Sp fun ax wx hS hT' hd K' J => ?_) ?_; rotate_left 1
        ·have r93 := Tv hd 0 15 93; obtain ⟨hcT, hfT, hlT, hmT, hwT, hzT⟩ := bT hT'
         refine o1 r93 fun ρ q93 => ?_; go_simp;
         exact Jo J hT'
        refine SeqOps.val _ (StepOk.no (by (first | (simp only [List.getElem?_toArray, List.getElem?_cons_succ, List.getElem?_cons_zero]; rfl) | rfl)) rfl (e := 94) 0 rfl rfl (by kernel_rfl) (by kernel_rfl) (fun w => Below.refl _ _)) ?_
        refine SeqOps.val _ (StepOk.no (by (first | (simp only [List.getElem?_toArray, List.getElem?_cons_succ, List.getElem?_cons_zero]; rfl) | rfl)) rfl (e := 94) 1 rfl rfl (by kernel_rfl) (by kernel_rfl) (fun w => Below.refl _ _)) ?_
        refine SeqOps.val _ (StepOk.no (by (first | (simp only [List.getElem?_toArray, List.getElem?_cons_succ, List.getElem?_cons_zero]; rfl) | rfl)) rfl (e := 94) 2 rfl rfl (by kernel_rfl) (by kernel_rfl) (fun w => Below.refl _ _)) ?_
        refine SeqOps.val _ (StepOk.no (by (first | (simp only [List.getElem?_toArray, List.getElem?_cons_succ, List.getElem?_cons_zero]; rfl) | rfl)) rfl (e := 94) 3 rfl rfl (by kernel_rfl) (by kernel_rfl) (fun w => Below.refl _ _)) ?_
        refine SeqOps.val ?_ (Sp fun ax wx hS hT' hd K' J => ?_) ?_; rotate_left 1
        ·have r94 := Tv hd 4 16 94; have r98 := Tv hd 0 20 98; obtain ⟨hcT, hfT, hlT, hmT, hwT, hzT⟩ := bT hT'
         refine o2 r94 r98 fun ρ q94 q98 => ?_; go_simp; (try go_bits);
         exact Jo J hT'
        refine SeqOps.nil ?_
        intro w3 hBl; (repeat refine Ek ?_)
        refine fun ax hEx => ?_
        simp only [lk, pick, Nat.reduceEqDiff, ↓reduceIte] at hEx
        refine late_done [1, 2, 3, 7, 8, 9, 10, 11, 12, 14, 15, 99] hEx hK (fun a hE => ?_); clear hK K Q' hEx; simp only [lk, pick, Nat.reduceEqDiff, ↓reduceIte] at hE
        refine Ks ?_
        refine cond_yes hE (t := 99) rfl ?_
        refine Ks ?_
        refine Rs 3 fun Q' K hK => ?_
        refine M1 hE 15 fun K' J ρ q15 => ?_; go_simp; (try clear q15)
        refine Ln hE J fun _ Eb => ?_; clear J K' hE a
        refine M1 Eb 76 fun K' J ρ q76 => ?_; go_simp; (try go_bits); (try simp (disch := omega) only [IntWalk.i64_in]); (try clear q76)
        refine Ln Eb J fun _ Ea => ?_; clear J K' Eb
        refine M1 Ea 77 fun K' J ρ q77 => ?_; go_simp; (try clear q77)
        refine Ln Ea J fun _ Eb => ?_; clear J K' Ea
        refine late_done [1, 2, 3, 7, 8, 9, 10, 11, 12, 14, 15] Eb hK (fun a hE => ?_); clear hK K Q' Eb; simp only [lk, pick, Nat.reduceEqDiff, ↓reduceIte] at hE
        refine Ks ?_
        exact ⟨m + 1, ⟨hmt, by simpa using hE, hW.trans (hBl.mono hW.size)⟩, by omega⟩
       ·by_cases y3 : sl2 = lim
        ·skip
         refine Rd [] (fun wt => Below w'.heap.size w' wt) (fun w1 w2 => Below w1.heap.size w1 w2) [(0, some 78), (1, some 79), (2, some 80), (3, some 81), (4, some 82), (5, some 83), (6, some 84), (7, some 85), (8, some 86), (9, some 87), (10, some 88), (11, some 89), (12, some 90), (13, some 91), (14, some 92), (15, some 93), (16, some 94), (17, some 95), (18, some 96), (19, some 97), (20, some 98), (21, some 99)] [78, 79, 80, 81, 82, 83, 84, 85, 86, 87, 88, 89, 90, 91, 92, 93, 94, 95, 96, 97, 98, 99] #[true, true, true, true, true, true, true, true, true, true, true, true, true, true, true, true, true, true, true, true, true, true] [1, 2, 3, 7, 8, 9, 10, 11, 12, 14, 15] hE ((Below.refl _ _).drew) fun Q' K hK => ?_
         refine SeqOps.val ?_ (Sp fun ax wx hS hT' hd K' J => ?_) ?_; rotate_left 1
         ·have r3 := hS.at 3 (by decide) (hE.at 3 rfl); obtain ⟨hcT, hfT, hlT, hmT, hwT, hzT⟩ := bT hT'
          refine o1 r3 fun ρ q3 => ?_; go_simp;
          exact Jo J hT'
         refine SeqOps.val ?_ (Sp fun ax wx hS hT' hd K' J => ?_) ?_; rotate_left 1
         ·have r78 := Tv hd 0 0 78; obtain ⟨hcT, hfT, hlT, hmT, hwT, hzT⟩ := bT hT'
          refine o1 r78 fun ρ q78 => ?_; go_simp;
          exact Jo J hT'
         refine SeqOps.val ?_ (Sp fun ax wx hS hT' hd K' J => ?_) ?_; rotate_left 1
         ·have r14 := hS.at 14 (by decide) (hE.at 14 rfl); obtain ⟨hcT, hfT, hlT, hmT, hwT, hzT⟩ := bT hT'
          refine o1 r14 fun ρ q14 => ?_; go_simp;
          exact Jo J hT'
         refine SeqOps.val ?_ (Sp fun ax wx hS hT' hd K' J => ?_) ?_; rotate_left 1
         ·have r79 := Tv hd 1 1 79; have r80 := Tv hd 0 2 80; obtain ⟨hcT, hfT, hlT, hmT, hwT, hzT⟩ := bT hT'
          refine o2 r79 r80 fun ρ q79 q80 => ?_; go_simp; (try go_bits);
          exact Jo J hT'
         refine SeqOps.val ?_ (Sp fun ax wx hS hT' hd K' J => ?_) ?_; rotate_left 1
         ·have r81 := Tv hd 0 3 81; obtain ⟨hcT, hfT, hlT, hmT, hwT, hzT⟩ := bT hT'
          refine o1 r81 fun ρ q81 => ?_; go_simp;
          exact Jo J hT'
         refine SeqOps.val ?_ (Sp fun ax wx hS hT' hd K' J => ?_) ?_; rotate_left 1
         ·have r15 := hS.at 15 (by decide) (hE.at 15 rfl); obtain ⟨hcT, hfT, hlT, hmT, hwT, hzT⟩ := bT hT'
          refine o1 r15 fun ρ q15 => ?_; go_simp;
          exact Jo J hT'
         refine SeqOps.val ?_ (Sp fun ax wx hS hT' hd K' J => ?_) ?_; rotate_left 1
         ·have r82 := Tv hd 1 4 82; have r83 := Tv hd 0 5 83; obtain ⟨hcT, hfT, hlT, hmT, hwT, hzT⟩ := bT hT'
          refine o2 r82 r83 fun ρ q82 q83 => ?_; go_simp; (try go_bits);
          exact Jo J hT'
         refine SeqOps.val ?_ (Sp fun ax wx hS hT' hd K' J => ?_) ?_; rotate_left 1
         ·have r1 := hS.at 1 (by decide) (hE.at 1 rfl); obtain ⟨hcT, hfT, hlT, hmT, hwT, hzT⟩ := bT hT'
          refine o1 r1 fun ρ q1 => ?_; go_simp;
          exact Jo J hT'
         refine SeqOps.val ?_ (Sp fun ax wx hS hT' hd K' J => ?_) ?_; rotate_left 1
         ·have r9 := hS.at 9 (by decide) (hE.at 9 rfl); obtain ⟨hcT, hfT, hlT, hmT, hwT, hzT⟩ := bT hT'
          refine o1 r9 fun ρ q9 => ?_; go_simp;
          exact Jo J hT'
         refine SeqOps.val ?_ (Sp fun ax wx hS hT' hd K' J => ?_) ?_; rotate_left 1
         ·have r85 := Tv hd 1 7 85; have r86 := Tv hd 0 8 86; obtain ⟨hcT, hfT, hlT, hmT, hwT, hzT⟩ := bT hT'
          refine o2 r85 r86 fun ρ q85 q86 => ?_; go_simp; (try go_bits);
          exact Jo J hT'
         refine SeqOps.say (fun v _ => v = .bool false) (fun _ _ _ _ h => h) (Sp fun ax wx hS hT' hd K' J => ?_) ?_
         ·have r84 := Tv hd 3 6 84; have r87 := Tv hd 0 9 87; obtain ⟨hcT, hfT, hlT, hmT, hwT, hzT⟩ := bT hT'
          refine o2 r84 r87 fun ρ q84 q87 => ?_; go_simp; (try go_bits);
          exact J.out _ _ _ rfl (by simp [HY.out]) hT' (Below.refl _ _)
         refine SeqOps.val ?_ (Sp fun ax wx hS hT' hd K' J => ?_) ?_; rotate_left 1
         ·obtain ⟨v88, r88, h88⟩ := Tg hd 0 10 88; obtain rfl := h88; obtain ⟨hcT, hfT, hlT, hmT, hwT, hzT⟩ := bT hT'
          refine o1 r88 fun ρ q88 => ?_; go_simp;
          exact Jo J hT'
         refine SeqOps.val ?_ (Sy 0 89 fun ax wx hS hT' hd K' J => ?_) ?_; rotate_left 1
         ·have r11 := hS.at 11 (by decide) (hE.at 11 rfl); obtain ⟨hcT, hfT, hlT, hmT, hwT, hzT⟩ := bT hT'
          refine o1 r11 fun ρ q11 => ?_; go_simp;
          exact Jo J hT'
         refine SeqOps.val ?_ (Sy 1 89 fun ax wx hS hT' hd K' J => ?_) ?_; rotate_left 1
         ·have r90 := Tv hd 0 12 90; obtain ⟨hcT, hfT, hlT, hmT, hwT, hzT⟩ := bT hT'
          refine o1 r90 fun ρ q90 => ?_; go_simp; (try go_bits); (try simp (disch := omega) only [IntWalk.i64_in]);
          exact Jo J hT'
         refine SeqOps.say (fun v _ => v = .bool false) (fun _ _ _ _ h => h) (Sy 2 89 fun ax wx hS hT' hd K' J => ?_) ?_
         ·have r91 := Tv hd 0 13 91; obtain ⟨hcT, hfT, hlT, hmT, hwT, hzT⟩ := bT hT'
          refine o1 r91 fun ρ q91 => ?_; go_simp; (try go_bits);
          exact J.out _ _ _ rfl (by simp [y2]) hT' (Below.refl _ _)
         refine SeqOps.val ?_ (Sp fun ax wx hS hT' hd K' J => ?_) ?_; rotate_left 1
         ·have r89 := Tv hd 3 11 89; obtain ⟨v92, r92, h92⟩ := Tg hd 0 14 92; obtain rfl := h92; obtain ⟨hcT, hfT, hlT, hmT, hwT, hzT⟩ := bT hT'
          refine o2 r89 r92 fun ρ q89 q92 => ?_; go_simp; (try go_bits);
          exact Jo J hT'
         refine SeqOps.val ?_ (Sp fun ax wx hS hT' hd K' J => ?_) ?_; rotate_left 1
         ·have r93 := Tv hd 0 15 93; obtain ⟨hcT, hfT, hlT, hmT, hwT, hzT⟩ := bT hT'
          refine o1 r93 fun ρ q93 => ?_; go_simp;
          exact Jo J hT'
         refine SeqOps.val ?_ (Sy 0 94 fun ax wx hS hT' hd K' J => ?_) ?_; rotate_left 1
         ·have r8 := hS.at 8 (by decide) (hE.at 8 rfl); obtain ⟨hcT, hfT, hlT, hmT, hwT, hzT⟩ := bT hT'
          refine o1 r8 fun ρ q8 => ?_; go_simp;
          exact Jo J hT'
         refine SeqOps.val ?_ (Sy 1 94 fun ax wx hS hT' hd K' J => ?_) ?_; rotate_left 1
         ·have r3 := hS.at 3 (by decide) (hE.at 3 rfl); obtain ⟨hcT, hfT, hlT, hmT, hwT, hzT⟩ := bT hT'
          refine o1 r3 fun ρ q3 => ?_; go_simp;
          exact Jo J hT'
         refine SeqOps.val ?_ (Sy 2 94 fun ax wx hS hT' hd K' J => ?_) ?_; rotate_left 1
         ·have r96 := Tv hd 0 18 96; obtain ⟨hcT, hfT, hlT, hmT, hwT, hzT⟩ := bT hT'
          refine o1 r96 fun ρ q96 => ?_; go_simp;
          exact Jo J hT'
         refine SeqOps.say (fun v _ => v = .bool true) (fun _ _ _ _ h => h) (Sy 3 94 fun ax wx hS hT' hd K' J => ?_) ?_
         ·have r95 := Tv hd 2 17 95; have r97 := Tv hd 0 19 97; obtain ⟨hcT, hfT, hlT, hmT, hwT, hzT⟩ := bT hT'
          refine o2 r95 r97 fun ρ q95 q97 => ?_; go_simp; (try go_bits);
          exact J.out _ _ _ rfl (by simp [y3]) hT' (Below.refl _ _)
         refine SeqOps.val ?_ (Sp fun ax wx hS hT' hd K' J => ?_) ?_; rotate_left 1
         ·have r94 := Tv hd 4 16 94; obtain ⟨v98, r98, h98⟩ := Tg hd 0 20 98; obtain rfl := h98; obtain ⟨hcT, hfT, hlT, hmT, hwT, hzT⟩ := bT hT'
          refine o2 r94 r98 fun ρ q94 q98 => ?_; go_simp; (try go_bits);
          exact Jo J hT'
         refine SeqOps.nil ?_
         intro w3 hBl; (repeat refine Ek ?_)
         refine fun ax hEx => ?_
         simp only [lk, pick, Nat.reduceEqDiff, ↓reduceIte] at hEx
         refine late_done [1, 2, 3, 7, 8, 9, 10, 11, 12, 14, 15, 99] hEx hK (fun a hE => ?_); clear hK K Q' hEx; simp only [lk, pick, Nat.reduceEqDiff, ↓reduceIte] at hE
         refine Ks ?_
         refine cond_yes hE (t := 99) rfl ?_
         refine Ks ?_
         refine Rs 3 fun Q' K hK => ?_
         refine M1 hE 15 fun K' J ρ q15 => ?_; go_simp; (try clear q15)
         refine Ln hE J fun _ Eb => ?_; clear J K' hE a
         refine M1 Eb 76 fun K' J ρ q76 => ?_; go_simp; (try go_bits); (try simp (disch := omega) only [IntWalk.i64_in]); (try clear q76)
         refine Ln Eb J fun _ Ea => ?_; clear J K' Eb
         refine M1 Ea 77 fun K' J ρ q77 => ?_; go_simp; (try clear q77)
         refine Ln Ea J fun _ Eb => ?_; clear J K' Ea
         refine late_done [1, 2, 3, 7, 8, 9, 10, 11, 12, 14, 15] Eb hK (fun a hE => ?_); clear hK K Q' Eb; simp only [lk, pick, Nat.reduceEqDiff, ↓reduceIte] at hE
         refine Ks ?_
         exact ⟨m + 1, ⟨hmt, by simpa using hE, hW.trans (hBl.mono hW.size)⟩, by omega⟩
        ·have hsl2 : sl2 + 1 ≤ lim := by obtain ⟨_, _, _, _, _, h5⟩ := HAL.out; omega
         refine Rd [] (fun wt => Below w'.heap.size w' wt) (fun w1 w2 => Below w1.heap.size w1 w2) [(0, some 78), (1, some 79), (2, some 80), (3, some 81), (4, some 82), (5, some 83), (6, some 84), (7, some 85), (8, some 86), (9, some 87), (10, some 88), (11, some 89), (12, some 90), (13, some 91), (14, some 92), (15, some 93), (16, some 94), (17, some 95), (18, some 96), (19, some 97), (20, some 98), (21, some 99)] [78, 79, 80, 81, 82, 83, 84, 85, 86, 87, 88, 89, 90, 91, 92, 93, 94, 95, 96, 97, 98, 99] #[true, true, true, true, true, true, true, true, true, true, true, true, true, true, true, true, true, true, true, true, true, true] [1, 2, 3, 7, 8, 9, 10, 11, 12, 14, 15] hE ((Below.refl _ _).drew) fun Q' K hK => ?_
         refine SeqOps.val ?_ (Sp fun ax wx hS hT' hd K' J => ?_) ?_; rotate_left 1
         ·have r3 := hS.at 3 (by decide) (hE.at 3 rfl); obtain ⟨hcT, hfT, hlT, hmT, hwT, hzT⟩ := bT hT'
          refine o1 r3 fun ρ q3 => ?_; go_simp;
          exact Jo J hT'
         refine SeqOps.val ?_ (Sp fun ax wx hS hT' hd K' J => ?_) ?_; rotate_left 1
         ·have r78 := Tv hd 0 0 78; obtain ⟨hcT, hfT, hlT, hmT, hwT, hzT⟩ := bT hT'
          refine o1 r78 fun ρ q78 => ?_; go_simp;
          exact Jo J hT'
         refine SeqOps.val ?_ (Sp fun ax wx hS hT' hd K' J => ?_) ?_; rotate_left 1
         ·have r14 := hS.at 14 (by decide) (hE.at 14 rfl); obtain ⟨hcT, hfT, hlT, hmT, hwT, hzT⟩ := bT hT'
          refine o1 r14 fun ρ q14 => ?_; go_simp;
          exact Jo J hT'
         refine SeqOps.val ?_ (Sp fun ax wx hS hT' hd K' J => ?_) ?_; rotate_left 1
         ·have r79 := Tv hd 1 1 79; have r80 := Tv hd 0 2 80; obtain ⟨hcT, hfT, hlT, hmT, hwT, hzT⟩ := bT hT'
          refine o2 r79 r80 fun ρ q79 q80 => ?_; go_simp; (try go_bits);
          exact Jo J hT'
         refine SeqOps.val ?_ (Sp fun ax wx hS hT' hd K' J => ?_) ?_; rotate_left 1
         ·have r81 := Tv hd 0 3 81; obtain ⟨hcT, hfT, hlT, hmT, hwT, hzT⟩ := bT hT'
          refine o1 r81 fun ρ q81 => ?_; go_simp;
          exact Jo J hT'
         refine SeqOps.val ?_ (Sp fun ax wx hS hT' hd K' J => ?_) ?_; rotate_left 1
         ·have r15 := hS.at 15 (by decide) (hE.at 15 rfl); obtain ⟨hcT, hfT, hlT, hmT, hwT, hzT⟩ := bT hT'
          refine o1 r15 fun ρ q15 => ?_; go_simp;
          exact Jo J hT'
         refine SeqOps.val ?_ (Sp fun ax wx hS hT' hd K' J => ?_) ?_; rotate_left 1
         ·have r82 := Tv hd 1 4 82; have r83 := Tv hd 0 5 83; obtain ⟨hcT, hfT, hlT, hmT, hwT, hzT⟩ := bT hT'
          refine o2 r82 r83 fun ρ q82 q83 => ?_; go_simp; (try go_bits);
          exact Jo J hT'
         refine SeqOps.val ?_ (Sp fun ax wx hS hT' hd K' J => ?_) ?_; rotate_left 1
         ·have r1 := hS.at 1 (by decide) (hE.at 1 rfl); obtain ⟨hcT, hfT, hlT, hmT, hwT, hzT⟩ := bT hT'
          refine o1 r1 fun ρ q1 => ?_; go_simp;
          exact Jo J hT'
         refine SeqOps.val ?_ (Sp fun ax wx hS hT' hd K' J => ?_) ?_; rotate_left 1
         ·have r9 := hS.at 9 (by decide) (hE.at 9 rfl); obtain ⟨hcT, hfT, hlT, hmT, hwT, hzT⟩ := bT hT'
          refine o1 r9 fun ρ q9 => ?_; go_simp;
          exact Jo J hT'
         refine SeqOps.val ?_ (Sp fun ax wx hS hT' hd K' J => ?_) ?_; rotate_left 1
         ·have r85 := Tv hd 1 7 85; have r86 := Tv hd 0 8 86; obtain ⟨hcT, hfT, hlT, hmT, hwT, hzT⟩ := bT hT'
          refine o2 r85 r86 fun ρ q85 q86 => ?_; go_simp; (try go_bits);
          exact Jo J hT'
         refine SeqOps.say (fun v _ => v = .bool false) (fun _ _ _ _ h => h) (Sp fun ax wx hS hT' hd K' J => ?_) ?_
         ·have r84 := Tv hd 3 6 84; have r87 := Tv hd 0 9 87; obtain ⟨hcT, hfT, hlT, hmT, hwT, hzT⟩ := bT hT'
          refine o2 r84 r87 fun ρ q84 q87 => ?_; go_simp; (try go_bits);
          exact J.out _ _ _ rfl (by simp [HY.out]) hT' (Below.refl _ _)
         refine SeqOps.val ?_ (Sp fun ax wx hS hT' hd K' J => ?_) ?_; rotate_left 1
         ·obtain ⟨v88, r88, h88⟩ := Tg hd 0 10 88; obtain rfl := h88; obtain ⟨hcT, hfT, hlT, hmT, hwT, hzT⟩ := bT hT'
          refine o1 r88 fun ρ q88 => ?_; go_simp;
          exact Jo J hT'
         refine SeqOps.val ?_ (Sy 0 89 fun ax wx hS hT' hd K' J => ?_) ?_; rotate_left 1
         ·have r11 := hS.at 11 (by decide) (hE.at 11 rfl); obtain ⟨hcT, hfT, hlT, hmT, hwT, hzT⟩ := bT hT'
          refine o1 r11 fun ρ q11 => ?_; go_simp;
          exact Jo J hT'
         refine SeqOps.val ?_ (Sy 1 89 fun ax wx hS hT' hd K' J => ?_) ?_; rotate_left 1
         ·have r90 := Tv hd 0 12 90; obtain ⟨hcT, hfT, hlT, hmT, hwT, hzT⟩ := bT hT'
          refine o1 r90 fun ρ q90 => ?_; go_simp; (try go_bits); (try simp (disch := omega) only [IntWalk.i64_in]);
          exact Jo J hT'
         refine SeqOps.say (fun v _ => v = .bool false) (fun _ _ _ _ h => h) (Sy 2 89 fun ax wx hS hT' hd K' J => ?_) ?_
         ·have r91 := Tv hd 0 13 91; obtain ⟨hcT, hfT, hlT, hmT, hwT, hzT⟩ := bT hT'
          refine o1 r91 fun ρ q91 => ?_; go_simp; (try go_bits);
          exact J.out _ _ _ rfl (by simp [y2]) hT' (Below.refl _ _)
         refine SeqOps.val ?_ (Sp fun ax wx hS hT' hd K' J => ?_) ?_; rotate_left 1
         ·have r89 := Tv hd 3 11 89; obtain ⟨v92, r92, h92⟩ := Tg hd 0 14 92; obtain rfl := h92; obtain ⟨hcT, hfT, hlT, hmT, hwT, hzT⟩ := bT hT'
          refine o2 r89 r92 fun ρ q89 q92 => ?_; go_simp; (try go_bits);
          exact Jo J hT'
         refine SeqOps.val ?_ (Sp fun ax wx hS hT' hd K' J => ?_) ?_; rotate_left 1
         ·have r93 := Tv hd 0 15 93; obtain ⟨hcT, hfT, hlT, hmT, hwT, hzT⟩ := bT hT'
          refine o1 r93 fun ρ q93 => ?_; go_simp;
          exact Jo J hT'
         refine SeqOps.val ?_ (Sy 0 94 fun ax wx hS hT' hd K' J => ?_) ?_; rotate_left 1
         ·have r8 := hS.at 8 (by decide) (hE.at 8 rfl); obtain ⟨hcT, hfT, hlT, hmT, hwT, hzT⟩ := bT hT'
          refine o1 r8 fun ρ q8 => ?_; go_simp;
          exact Jo J hT'
         refine SeqOps.val ?_ (Sy 1 94 fun ax wx hS hT' hd K' J => ?_) ?_; rotate_left 1
         ·have r3 := hS.at 3 (by decide) (hE.at 3 rfl); obtain ⟨hcT, hfT, hlT, hmT, hwT, hzT⟩ := bT hT'
          refine o1 r3 fun ρ q3 => ?_; go_simp;
          exact Jo J hT'
         refine SeqOps.val ?_ (Sy 2 94 fun ax wx hS hT' hd K' J => ?_) ?_; rotate_left 1
         ·have r96 := Tv hd 0 18 96; obtain ⟨hcT, hfT, hlT, hmT, hwT, hzT⟩ := bT hT'
          refine o1 r96 fun ρ q96 => ?_; go_simp;
          exact Jo J hT'
         refine SeqOps.say (fun v _ => v = .bool false) (fun _ _ _ _ h => h) (Sy 3 94 fun ax wx hS hT' hd K' J => ?_) ?_
         ·have r95 := Tv hd 2 17 95; have r97 := Tv hd 0 19 97; obtain ⟨hcT, hfT, hlT, hmT, hwT, hzT⟩ := bT hT'
          refine o2 r95 r97 fun ρ q95 q97 => ?_; go_simp; (try go_bits);
          exact J.out _ _ _ rfl (by simp [y3]) hT' (Below.refl _ _)
         refine SeqOps.val ?_ (Sp fun ax wx hS hT' hd K' J => ?_) ?_; rotate_left 1
         ·have r94 := Tv hd 4 16 94; obtain ⟨v98, r98, h98⟩ := Tg hd 0 20 98; obtain rfl := h98; obtain ⟨hcT, hfT, hlT, hmT, hwT, hzT⟩ := bT hT'
          refine o2 r94 r98 fun ρ q94 q98 => ?_; go_simp; (try go_bits);
          exact Jo J hT'
         refine SeqOps.nil ?_
         intro w3 hBl; (repeat refine Ek ?_)
         refine fun ax hEx => ?_
         simp only [lk, pick, Nat.reduceEqDiff, ↓reduceIte] at hEx
         refine late_done [1, 2, 3, 7, 8, 9, 10, 11, 12, 14, 15, 99] hEx hK (fun a hE => ?_); clear hK K Q' hEx; simp only [lk, pick, Nat.reduceEqDiff, ↓reduceIte] at hE
         have hW3 := hW.trans (hBl.mono hW.size)
         have hcr3 := (hBl.cell (p := ⟨ab, ao + k, none⟩) nab).trans hcr
         have nab3 : ab < w3.heap.size := Nat.lt_of_lt_of_le nab hBl.size
         have hCr3 := hCB.below hW3
         clear hcr nab hCr nB cB0 cB1 cB2 hBl hW0
         have nB := hCr3.1
         have cB0 := hCr3.2 0 _ rfl
         have cB1 := hCr3.2 1 _ rfl
         have cB2 := hCr3.2 2 _ rfl
         have hq2 : 0 ≤ (nn : Int) / 2 ∧ (nn : Int) / 2 ≤ 6 := by
          omega
         obtain ⟨hq20, hq26⟩ := hq2
         have hp2 : ∃ p2 : Nat, windI ((m : Int) + 1 + (nn : Int) / 2) g.size = p2 ∧ p2 < g.size := by
          have := windI_range ((m : Int) + 1 + (nn : Int) / 2) g.size (by omega)
          exact ⟨(windI ((m : Int) + 1 + (nn : Int) / 2) g.size).toNat, by omega, by omega⟩
         obtain ⟨p2, hp2e, hp2⟩ := hp2
         have HP2 := hid hp2e
         clear hp2e
         refine Ks ?_
         refine cond_no hE (t := 99) rfl ?_
         refine Ks ?_
         refine Rs 13 fun Q' K hK => ?_
         refine M1 hE 15 fun K' J ρ q15 => ?_; go_simp; (try clear q15)
         refine Ln hE J fun _ Eb => ?_; clear J K' hE a
         refine M1 Eb 100 fun K' J ρ q100 => ?_; go_simp; (try go_bits); (try simp (disch := omega) only [IntWalk.i64_in]); (try clear q100)
         refine Ln Eb J fun _ Ea => ?_; clear J K' Eb
         refine M1 Ea 11 fun K' J ρ q11 => ?_; go_simp; (try clear q11)
         refine Ln Ea J fun _ Eb => ?_; clear J K' Ea
         refine M1 Eb 102 fun K' J ρ q102 => ?_; go_simp; (try go_bits); (try simp (disch := omega) only [IntWalk.i64_in]); (try clear q102)
         refine Ln Eb J fun _ Ea => ?_; clear J K' Eb
         refine M2 Ea 101 103 fun K' J ρ q101 q103 => ?_; go_simp; (try go_bits); (try simp (disch := omega) only [IntWalk.i64_in]); (try clear q101 q103)
         refine Ln Ea J fun _ Eb => ?_; clear J K' Ea
         refine M1 Eb 3 fun K' J ρ q3 => ?_; go_simp; (try clear q3)
         refine Ln Eb J fun _ Ea => ?_; clear J K' Eb
         refine M1 Ea 105 fun K' J ρ q105 => ?_; go_simp; (try clear q105)
         refine Ln Ea J fun _ Eb => ?_; clear J K' Ea
         refine M1 Eb 14 fun K' J ρ q14 => ?_; go_simp; (try clear q14)
         refine Ln Eb J fun _ Ea => ?_; clear J K' Eb
         refine M2 Ea 106 107 fun K' J ρ q106 q107 => ?_; go_simp; (try go_bits); (try clear q106 q107)
         refine Ln Ea J fun _ Eb => ?_; clear J K' Ea
         refine M1 Eb 108 fun K' J ρ q108 => ?_; go_simp; (try clear q108)
         refine Ln Eb J fun _ Ea => ?_; clear J K' Eb
         refine M1 Ea 109 fun K' J ρ q109 => ?_; go_simp; (try go_bits); (try clear q109)
         refine Ln Ea J fun _ Eb => ?_; clear J K' Ea
         refine M2 Eb 104 110 fun K' J ρ q104 q110 => ?_; go_simp; (try go_bits); (try clear q104 q110)
         go_at_call 37; refine (wind_any _ _ (by omega) _).mono ?_; rw [HP2.out]; rintro e g1' ⟨rfl, rfl⟩
         (try clear r104 r110)
         refine Ln Eb J fun _ Ea => ?_; clear J K' Eb
         refine M1 Ea 111 fun K' J ρ q111 => ?_; go_simp; (try clear q111)
         refine Ln Ea J fun _ Eb => ?_; clear J K' Ea
         refine late_done [1, 2, 3, 7, 8, 9, 10, 11, 12, 14, 15, 16] Eb hK (fun a hE => ?_); clear hK K Q' Eb; simp only [lk, pick, Nat.reduceEqDiff, ↓reduceIte] at hE
         have hp2I : (p2 : Int) < g.size := by omega
         have j1 : (0 : Int) ≤ (p2 : Int) + 1 := by omega
         have j2 : (p2 : Int) + 1 ≤ g.size := by omega
         have j3 : (p2 : Int) ≤ (p2 : Int) + 1 := by omega
         refine Ks ?_
         refine Rs 10 fun Q' K hK => ?_
         refine M1 hE 3 fun K' J ρ q3 => ?_; go_simp; (try clear q3)
         refine Ln hE J fun _ Eb => ?_; clear J K' hE a
         refine M1 Eb 112 fun K' J ρ q112 => ?_; go_simp; (try clear q112)
         refine Ln Eb J fun _ Ea => ?_; clear J K' Eb
         refine M1 Ea 14 fun K' J ρ q14 => ?_; go_simp; (try clear q14)
         refine Ln Ea J fun _ Eb => ?_; clear J K' Ea
         refine M2 Eb 113 114 fun K' J ρ q113 q114 => ?_; go_simp; (try go_bits); (try clear q113 q114)
         refine Ln Eb J fun _ Ea => ?_; clear J K' Eb
         refine M1 Ea 115 fun K' J ρ q115 => ?_; go_simp; (try clear q115)
         refine Ln Ea J fun _ Eb => ?_; clear J K' Ea
         refine M1 Eb 16 fun K' J ρ q16 => ?_; go_simp; (try clear q16)
         refine Ln Eb J fun _ Ea => ?_; clear J K' Eb
         refine M1 Ea 16 fun K' J ρ q16 => ?_; go_simp; (try clear q16)
         refine Ln Ea J fun _ Eb => ?_; clear J K' Ea
         refine M1 Eb 118 fun K' J ρ q118 => ?_; go_simp; (try go_bits); (try simp (disch := omega) only [IntWalk.i64_in]); (try clear q118)
         refine Ln Eb J fun _ Ea => ?_; clear J K' Eb
         refine M3 Ea 116 117 119 fun K' J ρ q116 q117 q119 => ?_; go_simp; (try go_bits); (try clear q116 q117 q119)
         refine Ln Ea J fun _ Eb => ?_; clear J K' Ea
         refine M1 Eb 120 fun K' J ρ q120 => ?_; go_simp; (try clear q120)
         refine Ln Eb J fun _ Ea => ?_; clear J K' Eb
         refine late_done [1, 2, 3, 7, 8, 9, 10, 11, 12, 14, 15, 17] Ea hK (fun a hE => ?_); clear hK K Q' Ea; simp only [lk, pick, Nat.reduceEqDiff, ↓reduceIte] at hE
         clear j1 j2 j3
         obtain ⟨d, hd⟩ : ∃ d, (!((g.extract p2 (p2 + 1)).toList == (src.extract p (p + 1)).toList)) = d := ⟨_, rfl⟩
         have HD := hid hd
         clear hd
         refine Ks ?_
         cases hdv : d
         ·have HDV := hid hdv
          refine Rs 9 fun Q' K hK => ?_
          refine M1 hE 17 fun K' J ρ q17 => ?_; go_simp; (try clear q17)
          refine Ln hE J fun _ Eb => ?_; clear J K' hE a
          refine M1 Eb 10 fun K' J ρ q10 => ?_; go_simp; (try clear q10)
          refine Ln Eb J fun _ Ea => ?_; clear J K' Eb
          refine M2 Ea 121 122 fun K' J ρ q121 q122 => ?_; go_simp; (try go_bits); (try clear q121 q122)
          refine Ln Ea J fun _ Eb => ?_; clear J K' Ea
          replace Eb := Eb.turn 123 (v' := .bool false) rfl (by (rw [← HDV.out, ← HD.out]))
          refine M1 Eb 123 fun K' J ρ q123 => ?_; go_simp; (try clear q123)
          refine Ln Eb J fun _ Ea => ?_; clear J K' Eb
          refine Lno Ea 124 ?_
          refine Lu Ea fun _ Eb => ?_
          refine Lno Eb 124 ?_
          refine Lu Eb fun _ Ea => ?_
          refine Lno Ea 124 ?_
          refine Lu Ea fun _ Eb => ?_
          refine Lno Eb 124 ?_
          refine Lu Eb fun _ Ea => ?_
          refine M2 Ea 124 128 fun K' J ρ q124 q128 => ?_; go_simp; (try go_bits); (try clear q124 q128)
          refine Ln Ea J fun _ Eb => ?_; clear J K' Ea
          refine late_done [1, 2, 3, 7, 8, 9, 10, 11, 12, 14, 15, 17, 129] Eb hK (fun a hE => ?_); clear hK K Q' Eb; simp only [lk, pick, Nat.reduceEqDiff, ↓reduceIte] at hE
          refine Ks ?_
          refine cond_no hE (t := 129) rfl ?_
          refine Ks ?_
          refine Rs 3 fun Q' K hK => ?_
          refine M1 hE 17 fun K' J ρ q17 => ?_; go_simp; (try clear q17)
          refine Ln hE J fun _ Eb => ?_; clear J K' hE a
          refine M1 Eb 10 fun K' J ρ q10 => ?_; go_simp; (try clear q10)
          refine Ln Eb J fun _ Ea => ?_; clear J K' Eb
          refine M2 Ea 130 131 fun K' J ρ q130 q131 => ?_; go_simp; (try go_bits); (try clear q130 q131)
          refine Ln Ea J fun _ Eb => ?_; clear J K' Ea
          replace Eb := Eb.turn 132 (v' := .bool false) rfl (by (rw [← HDV.out, ← HD.out]))
          refine late_done [1, 2, 3, 7, 8, 9, 10, 11, 12, 14, 132] Eb hK (fun a hE => ?_); clear hK K Q' Eb; simp only [lk, pick, Nat.reduceEqDiff, ↓reduceIte] at hE
          refine Ks ?_
          refine cond_no hE (t := 132) rfl ?_
          refine Ks ?_
          refine Rs 3 fun Q' K hK => ?_
          refine M1 hE 14 fun K' J ρ q14 => ?_; go_simp; (try clear q14)
          refine Ln hE J fun _ Eb => ?_; clear J K' hE a
          refine M1 Eb 66 fun K' J ρ q66 => ?_; go_simp; (try go_bits); (try simp (disch := omega) only [IntWalk.i64_in]); (try clear q66)
          refine Ln Eb J fun _ Ea => ?_; clear J K' Eb
          refine M1 Ea 67 fun K' J ρ q67 => ?_; go_simp; (try clear q67)
          refine Ln Ea J fun _ Eb => ?_; clear J K' Ea
          refine late_done [1, 2, 3, 7, 8, 9, 10, 11, 12, 14] Eb hK (fun a hE => ?_); clear hK K Q' Eb; simp only [lk, pick, Nat.reduceEqDiff, ↓reduceIte] at hE
          refine Ks ?_
          exact ⟨k + 1, ⟨src, p, sl2, hkl, by rw [HQF.out]; simpa using hE, hW3, ⟨h20, hss⟩, HAL.out⟩, by omega⟩
         ·have HDV := hid hdv
          obtain ⟨u, hu⟩ : ∃ u, spk mu (g.extract p2 (p2 + 1)) mu.size = u := ⟨_, rfl⟩
          have HU := hid hu
          clear hu
          refine Rs 9 fun Q' K hK => ?_
          refine M1 hE 17 fun K' J ρ q17 => ?_; go_simp; (try clear q17)
          refine Ln hE J fun _ Eb => ?_; clear J K' hE a
          refine M1 Eb 10 fun K' J ρ q10 => ?_; go_simp; (try clear q10)
          refine Ln Eb J fun _ Ea => ?_; clear J K' Eb
          refine M2 Ea 121 122 fun K' J ρ q121 q122 => ?_; go_simp; (try go_bits); (try clear q121 q122)
          refine Ln Ea J fun _ Eb => ?_; clear J K' Ea
          replace Eb := Eb.turn 123 (v' := .bool true) rfl (by (rw [← HDV.out, ← HD.out]))
          refine M1 Eb 123 fun K' J ρ q123 => ?_; go_simp; (try clear q123)
          refine Ln Eb J fun _ Ea => ?_; clear J K' Eb
          refine N1 Ea 124 3 fun K' J ρ q3 => ?_; go_simp; (try clear q3)
          refine Ln Ea J fun _ Eb => ?_; clear J K' Ea
          refine N1 Eb 124 17 fun K' J ρ q17 => ?_; go_simp; (try clear q17)
          refine Ln Eb J fun _ Ea => ?_; clear J K' Eb
          refine N2 Ea 124 125 126 fun K' J ρ q125 q126 => ?_; go_simp; (try go_bits); (try clear q125 q126)
          go_at_call 73; refine (spoken_any _ _ _ mu lim (g.extract p2 (p2 + 1)) _ (by omega)).mono ?_; rw [HU.out]; rintro e w4 ⟨rfl, h4⟩
          (try clear r125 r126)
          refine Ln Ea J fun _ Eb => ?_; clear J K' Ea
          refine N1 Eb 124 127 fun K' J ρ q127 => ?_; go_simp; (try go_bits); (try simp (disch := omega) only [IntWalk.i64_in]); (try clear q127)
          refine Ln Eb J fun _ Ea => ?_; clear J K' Eb
          refine M2 Ea 124 128 fun K' J ρ q124 q128 => ?_; go_simp; (try go_bits); (try clear q124 q128)
          refine Ln Ea J fun _ Eb => ?_; clear J K' Ea
          refine late_done [1, 2, 3, 7, 8, 9, 10, 11, 12, 14, 15, 17, 129] Eb hK (fun a hE => ?_); clear hK K Q' Eb; simp only [lk, pick, Nat.reduceEqDiff, ↓reduceIte] at hE
          have hW4 := hW3.trans (h4.mono hW3.size)
          clear hcr3 nab3 hCr3 nB cB0 cB1 cB2
          refine Ks ?_
          cases huv : u
          ·rw [huv] at hE
           refine cond_yes hE (t := 129) rfl ?_
           refine Ks ?_
           refine Rs 3 fun Q' K hK => ?_
           refine M1 hE 15 fun K' J ρ q15 => ?_; go_simp; (try clear q15)
           refine Ln hE J fun _ Eb => ?_; clear J K' hE a
           refine M1 Eb 76 fun K' J ρ q76 => ?_; go_simp; (try go_bits); (try simp (disch := omega) only [IntWalk.i64_in]); (try clear q76)
           refine Ln Eb J fun _ Ea => ?_; clear J K' Eb
           refine M1 Ea 77 fun K' J ρ q77 => ?_; go_simp; (try clear q77)
           refine Ln Ea J fun _ Eb => ?_; clear J K' Ea
           refine late_done [1, 2, 3, 7, 8, 9, 10, 11, 12, 14, 15] Eb hK (fun a hE => ?_); clear hK K Q' Eb; simp only [lk, pick, Nat.reduceEqDiff, ↓reduceIte] at hE
           refine Ks ?_
           exact ⟨m + 1, ⟨hmt, by simpa using hE, hW4⟩, by omega⟩
          ·rw [huv] at hE
           have hmut := spk_mute hp2 (HU.out.trans huv)
           have halk : alikeB l s[i] g[p2] = true := by rw [← HY.out]; exact alike_in HGM.out hmt hp2
           have hA2 : AltS l mu q s[i] sl lim g p2 (sl2 + 1) := ⟨g[p2], ⟨hp2, rfl⟩, halk, .inr ⟨HQF.out, hmut⟩, by split <;> omega, hsl2⟩
           have HA2 := hid hA2
           clear hA2 halk hmut
           refine cond_no hE (t := 129) rfl ?_
           refine Ks ?_
           refine Rs 3 fun Q' K hK => ?_
           refine M1 hE 17 fun K' J ρ q17 => ?_; go_simp; (try clear q17)
           refine Ln hE J fun _ Eb => ?_; clear J K' hE a
           refine M1 Eb 10 fun K' J ρ q10 => ?_; go_simp; (try clear q10)
           refine Ln Eb J fun _ Ea => ?_; clear J K' Eb
           refine M2 Ea 130 131 fun K' J ρ q130 q131 => ?_; go_simp; (try go_bits); (try clear q130 q131)
           refine Ln Ea J fun _ Eb => ?_; clear J K' Ea
           replace Eb := Eb.turn 132 (v' := .bool true) rfl (by (rw [← HDV.out, ← HD.out]))
           refine late_done [1, 2, 3, 7, 8, 9, 10, 11, 12, 14, 17, 132] Eb hK (fun a hE => ?_); clear hK K Q' Eb; simp only [lk, pick, Nat.reduceEqDiff, ↓reduceIte] at hE
           refine Ks ?_
           refine cond_yes hE (t := 132) rfl ?_
           refine Ks ?_
           refine Rs 5 fun Q' K hK => ?_
           refine M1 hE 17 fun K' J ρ q17 => ?_; go_simp; (try clear q17)
           refine Ln hE J fun _ Eb => ?_; clear J K' hE a
           refine M1 Eb 8 fun K' J ρ q8 => ?_; go_simp; (try clear q8)
           refine Ln Eb J fun _ Ea => ?_; clear J K' Eb
           refine M1 Ea 134 fun K' J ρ q134 => ?_; go_simp; (try go_bits); (try simp (disch := omega) only [IntWalk.i64_in]); (try clear q134)
           refine Ln Ea J fun _ Eb => ?_; clear J K' Ea
           refine M1 Eb 133 fun K' J ρ q133 => ?_; go_simp; (try clear q133)
           refine Ln Eb J fun _ Ea => ?_; clear J K' Eb
           refine M1 Ea 135 fun K' J ρ q135 => ?_; go_simp; (try clear q135)
           refine Ln Ea J fun _ Eb => ?_; clear J K' Ea
           refine late_done [1, 2, 3, 7, 8, 9, 10, 11, 12, 14] Eb hK (fun a hE => ?_); clear hK K Q' Eb; simp only [lk, pick, Nat.reduceEqDiff, ↓reduceIte] at hE
           refine Ks ?_
           refine Rs 3 fun Q' K hK => ?_
           refine M1 hE 14 fun K' J ρ q14 => ?_; go_simp; (try clear q14)
           refine Ln hE J fun _ Eb => ?_; clear J K' hE a
           refine M1 Eb 66 fun K' J ρ q66 => ?_; go_simp; (try go_bits); (try simp (disch := omega) only [IntWalk.i64_in]); (try clear q66)
           refine Ln Eb J fun _ Ea => ?_; clear J K' Eb
           refine M1 Ea 67 fun K' J ρ q67 => ?_; go_simp; (try clear q67)
           refine Ln Ea J fun _ Eb => ?_; clear J K' Ea
           refine late_done [1, 2, 3, 7, 8, 9, 10, 11, 12, 14] Eb hK (fun a hE => ?_); clear hK K Q' Eb; simp only [lk, pick, Nat.reduceEqDiff, ↓reduceIte] at hE
           refine Ks ?_
           exact ⟨k + 1, ⟨g, p2, sl2 + 1, hkl, by rw [HQF.out]; simpa using hE, hW4, ⟨by omega, by omega⟩, HA2.out⟩, by omega⟩
      ·skip
       refine Rd [] (fun wt => Below w'.heap.size w' wt) (fun w1 w2 => Below w1.heap.size w1 w2) [(0, some 78), (1, some 79), (2, some 80), (3, some 81), (4, some 82), (5, some 83), (6, some 84), (7, some 85), (8, some 86), (9, some 87), (10, some 88), (11, some 89), (12, some 90), (13, some 91), (14, some 92), (15, some 93), (16, some 94), (17, some 95), (18, some 96), (19, some 97), (20, some 98), (21, some 99)] [78, 79, 80, 81, 82, 83, 84, 85, 86, 87, 88, 89, 90, 91, 92, 93, 94, 95, 96, 97, 98, 99] #[true, true, true, true, true, true, true, true, true, true, true, true, true, true, true, true, true, true, true, true, true, true] [1, 2, 3, 7, 8, 9, 10, 11, 12, 14, 15] hE ((Below.refl _ _).drew) fun Q' K hK => ?_
       refine SeqOps.val ?_ (Sp fun ax wx hS hT' hd K' J => ?_) ?_; rotate_left 1
       ·have r3 := hS.at 3 (by decide) (hE.at 3 rfl); obtain ⟨hcT, hfT, hlT, hmT, hwT, hzT⟩ := bT hT'
        refine o1 r3 fun ρ q3 => ?_; go_simp;
        exact Jo J hT'
       refine SeqOps.val ?_ (Sp fun ax wx hS hT' hd K' J => ?_) ?_; rotate_left 1
       ·have r78 := Tv hd 0 0 78; obtain ⟨hcT, hfT, hlT, hmT, hwT, hzT⟩ := bT hT'
        refine o1 r78 fun ρ q78 => ?_; go_simp;
        exact Jo J hT'
       refine SeqOps.val ?_ (Sp fun ax wx hS hT' hd K' J => ?_) ?_; rotate_left 1
       ·have r14 := hS.at 14 (by decide) (hE.at 14 rfl); obtain ⟨hcT, hfT, hlT, hmT, hwT, hzT⟩ := bT hT'
        refine o1 r14 fun ρ q14 => ?_; go_simp;
        exact Jo J hT'
       refine SeqOps.val ?_ (Sp fun ax wx hS hT' hd K' J => ?_) ?_; rotate_left 1
       ·have r79 := Tv hd 1 1 79; have r80 := Tv hd 0 2 80; obtain ⟨hcT, hfT, hlT, hmT, hwT, hzT⟩ := bT hT'
        refine o2 r79 r80 fun ρ q79 q80 => ?_; go_simp; (try go_bits);
        exact Jo J hT'
       refine SeqOps.val ?_ (Sp fun ax wx hS hT' hd K' J => ?_) ?_; rotate_left 1
       ·have r81 := Tv hd 0 3 81; obtain ⟨hcT, hfT, hlT, hmT, hwT, hzT⟩ := bT hT'
        refine o1 r81 fun ρ q81 => ?_; go_simp;
        exact Jo J hT'
       refine SeqOps.val ?_ (Sp fun ax wx hS hT' hd K' J => ?_) ?_; rotate_left 1
       ·have r15 := hS.at 15 (by decide) (hE.at 15 rfl); obtain ⟨hcT, hfT, hlT, hmT, hwT, hzT⟩ := bT hT'
        refine o1 r15 fun ρ q15 => ?_; go_simp;
        exact Jo J hT'
       refine SeqOps.val ?_ (Sp fun ax wx hS hT' hd K' J => ?_) ?_; rotate_left 1
       ·have r82 := Tv hd 1 4 82; have r83 := Tv hd 0 5 83; obtain ⟨hcT, hfT, hlT, hmT, hwT, hzT⟩ := bT hT'
        refine o2 r82 r83 fun ρ q82 q83 => ?_; go_simp; (try go_bits);
        exact Jo J hT'
       refine SeqOps.val ?_ (Sp fun ax wx hS hT' hd K' J => ?_) ?_; rotate_left 1
       ·have r1 := hS.at 1 (by decide) (hE.at 1 rfl); obtain ⟨hcT, hfT, hlT, hmT, hwT, hzT⟩ := bT hT'
        refine o1 r1 fun ρ q1 => ?_; go_simp;
        exact Jo J hT'
       refine SeqOps.val ?_ (Sp fun ax wx hS hT' hd K' J => ?_) ?_; rotate_left 1
       ·have r9 := hS.at 9 (by decide) (hE.at 9 rfl); obtain ⟨hcT, hfT, hlT, hmT, hwT, hzT⟩ := bT hT'
        refine o1 r9 fun ρ q9 => ?_; go_simp;
        exact Jo J hT'
       refine SeqOps.val ?_ (Sp fun ax wx hS hT' hd K' J => ?_) ?_; rotate_left 1
       ·have r85 := Tv hd 1 7 85; have r86 := Tv hd 0 8 86; obtain ⟨hcT, hfT, hlT, hmT, hwT, hzT⟩ := bT hT'
        refine o2 r85 r86 fun ρ q85 q86 => ?_; go_simp; (try go_bits);
        exact Jo J hT'
       refine SeqOps.say (fun v _ => v = .bool true) (fun _ _ _ _ h => h) (Sp fun ax wx hS hT' hd K' J => ?_) ?_
       ·have r84 := Tv hd 3 6 84; have r87 := Tv hd 0 9 87; obtain ⟨hcT, hfT, hlT, hmT, hwT, hzT⟩ := bT hT'
        refine o2 r84 r87 fun ρ q84 q87 => ?_; go_simp; (try go_bits);
        exact J.out _ _ _ rfl (by have : ¬ (g[m]).toNat = (s[i]).toNat := (fun e => y1 (UInt8.toNat_inj.1 e)); simp; omega) hT' (Below.refl _ _)
       refine SeqOps.val ?_ (Sp fun ax wx hS hT' hd K' J => ?_) ?_; rotate_left 1
       ·obtain ⟨v88, r88, h88⟩ := Tg hd 0 10 88; obtain rfl := h88; obtain ⟨hcT, hfT, hlT, hmT, hwT, hzT⟩ := bT hT'
        refine o1 r88 fun ρ q88 => ?_; go_simp;
        exact Jo J hT'
       refine SeqOps.val _ (StepOk.no (by (first | (simp only [List.getElem?_toArray, List.getElem?_cons_succ, List.getElem?_cons_zero]; rfl) | rfl)) rfl (e := 89) 0 rfl rfl (by kernel_rfl) (by kernel_rfl) (fun w => Below.refl _ _)) ?_
       refine SeqOps.val _ (StepOk.no (by (first | (simp only [List.getElem?_toArray, List.getElem?_cons_succ, List.getElem?_cons_zero]; rfl) | rfl)) rfl (e := 89) 1 rfl rfl (by kernel_rfl) (by kernel_rfl) (fun w => Below.refl _ _)) ?_
       refine SeqOps.val _ (StepOk.no (by (first | (simp only [List.getElem?_toArray, List.getElem?_cons_succ, List.getElem?_cons_zero]; rfl) | rfl)) rfl (e := 89) 2 rfl rfl (by kernel_rfl) (by kernel_rfl) (fun w => Below.refl _ _)) ?_
       refine SeqOps.val ?_ (Sp fun ax wx hS hT' hd K' J => ?_) ?_; rotate_left 1
       ·have r89 := Tv hd 3 11 89; have r92 := Tv hd 0 14 92; obtain ⟨hcT, hfT, hlT, hmT, hwT, hzT⟩ := bT hT'
        refine o2 r89 r92 fun ρ q89 q92 => ?_; go_simp; (try go_bits);
        exact Jo J hT'
       refine SeqOps.val ?_ (Sp fun ax wx hS hT' hd K' J => ?_) ?_; rotate_left 1
       ·have r93 := Tv hd 0 15 93; obtain ⟨hcT, hfT, hlT, hmT, hwT, hzT⟩ := bT hT'
        refine o1 r93 fun ρ q93 => ?_; go_simp;
        exact Jo J hT'
       refine SeqOps.val _ (StepOk.no (by (first | (simp only [List.getElem?_toArray, List.getElem?_cons_succ, List.getElem?_cons_zero]; rfl) | rfl)) rfl (e := 94) 0 rfl rfl (by kernel_rfl) (by kernel_rfl) (fun w => Below.refl _ _)) ?_
       refine SeqOps.val _ (StepOk.no (by (first | (simp only [List.getElem?_toArray, List.getElem?_cons_succ, List.getElem?_cons_zero]; rfl) | rfl)) rfl (e := 94) 1 rfl rfl (by kernel_rfl) (by kernel_rfl) (fun w => Below.refl _ _)) ?_
       refine SeqOps.val _ (StepOk.no (by (first | (simp only [List.getElem?_toArray, List.getElem?_cons_succ, List.getElem?_cons_zero]; rfl) | rfl)) rfl (e := 94) 2 rfl rfl (by kernel_rfl) (by kernel_rfl) (fun w => Below.refl _ _)) ?_
       refine SeqOps.val _ (StepOk.no (by (first | (simp only [List.getElem?_toArray, List.getElem?_cons_succ, List.getElem?_cons_zero]; rfl) | rfl)) rfl (e := 94) 3 rfl rfl (by kernel_rfl) (by kernel_rfl) (fun w => Below.refl _ _)) ?_
       refine SeqOps.val ?_ (Sp fun ax wx hS hT' hd K' J => ?_) ?_; rotate_left 1
       ·have r94 := Tv hd 4 16 94; have r98 := Tv hd 0 20 98; obtain ⟨hcT, hfT, hlT, hmT, hwT, hzT⟩ := bT hT'
        refine o2 r94 r98 fun ρ q94 q98 => ?_; go_simp; (try go_bits);
        exact Jo J hT'
       refine SeqOps.nil ?_
       intro w3 hBl; (repeat refine Ek ?_)
       refine fun ax hEx => ?_
       simp only [lk, pick, Nat.reduceEqDiff, ↓reduceIte] at hEx
       refine late_done [1, 2, 3, 7, 8, 9, 10, 11, 12, 14, 15, 99] hEx hK (fun a hE => ?_); clear hK K Q' hEx; simp only [lk, pick, Nat.reduceEqDiff, ↓reduceIte] at hE
       refine Ks ?_
       refine cond_yes hE (t := 99) rfl ?_
       refine Ks ?_
       refine Rs 3 fun Q' K hK => ?_
       refine M1 hE 15 fun K' J ρ q15 => ?_; go_simp; (try clear q15)
       refine Ln hE J fun _ Eb => ?_; clear J K' hE a
       refine M1 Eb 76 fun K' J ρ q76 => ?_; go_simp; (try go_bits); (try simp (disch := omega) only [IntWalk.i64_in]); (try clear q76)
       refine Ln Eb J fun _ Ea => ?_; clear J K' Eb
       refine M1 Ea 77 fun K' J ρ q77 => ?_; go_simp; (try clear q77)
       refine Ln Ea J fun _ Eb => ?_; clear J K' Ea
       refine late_done [1, 2, 3, 7, 8, 9, 10, 11, 12, 14, 15] Eb hK (fun a hE => ?_); clear hK K Q' Eb; simp only [lk, pick, Nat.reduceEqDiff, ↓reduceIte] at hE
       refine Ks ?_
       exact ⟨m + 1, ⟨hmt, by simpa using hE, hW.trans (hBl.mono hW.size)⟩, by omega⟩
     ·clear h
      refine KsE ?_
      refine Ks ?_
      refine Rs 3 fun Q' K hK => ?_
      refine M1 hE 14 fun K' J ρ q14 => ?_; go_simp; (try clear q14)
      refine Ln hE J fun _ Eb => ?_; clear J K' hE a
      refine M1 Eb 66 fun K' J ρ q66 => ?_; go_simp; (try go_bits); (try simp (disch := omega) only [IntWalk.i64_in]); (try clear q66)
      refine Ln Eb J fun _ Ea => ?_; clear J K' Eb
      refine M1 Ea 67 fun K' J ρ q67 => ?_; go_simp; (try clear q67)
      refine Ln Ea J fun _ Eb => ?_; clear J K' Ea
      refine late_done [1, 2, 3, 7, 8, 9, 10, 11, 12, 14] Eb hK (fun a hE => ?_); clear hK K Q' Eb; simp only [lk, pick, Nat.reduceEqDiff, ↓reduceIte] at hE
      refine Ks ?_
      exact ⟨k + 1, ⟨src, p, sl2, hkl, by rw [HQF.out]; simpa using hE, hW, ⟨h20, hss⟩, HAL.out⟩, by omega⟩
    ·clear h nB cB0 hCr
     obtain ⟨y, ⟨hp, hy⟩, y1, y2, y3, y4⟩ := HAL.out
     have hsn := str_snoc f src p hp
     rw [hy] at hsn
     have HSN := hid hsn
     clear hsn
     have i4 : ¬ 9223372036854775807 < f.length + (min (p + 1) src.size - p) := by omega
     refine KsE ?_
     refine Ks ?_
     refine Rs 4 fun Q' K hK => ?_
     refine M1 hE 7 fun K' J ρ q7 => ?_; go_simp; (try clear q7)
     refine Ln hE J fun _ Eb => ?_; clear J K' hE a
     refine M1 Eb 10 fun K' J ρ q10 => ?_; go_simp; (try clear q10)
     refine Ln Eb J fun _ Ea => ?_; clear J K' Eb
     refine M2 Ea 136 137 fun K' J ρ q136 q137 => ?_; go_simp; (try go_bits); (try simp (disch := omega) only [IntWalk.i64_in]); (try clear q136 q137)
     refine Ln Ea J fun _ Eb => ?_; clear J K' Ea
     replace Eb := Eb.turn 138 (v' := .string ⟨(f ++ [y]).toArray⟩) rfl (by (rw [← HSN.out]))
     refine M1 Eb 138 fun K' J ρ q138 => ?_; go_simp; (try clear q138)
     refine Ln Eb J fun _ Ea => ?_; clear J K' Eb
     refine late_done [1, 2, 3, 7, 8, 9] Ea hK (fun a hE => ?_); clear hK K Q' Ea; simp only [lk, pick, Nat.reduceEqDiff, ↓reduceIte] at hE
     refine Ks ?_
     refine Rs 3 fun Q' K hK => ?_
     refine M1 hE 9 fun K' J ρ q9 => ?_; go_simp; (try clear q9)
     refine Ln hE J fun _ Eb => ?_; clear J K' hE a
     refine M1 Eb 22 fun K' J ρ q22 => ?_; go_simp; (try go_bits); (try simp (disch := omega) only [IntWalk.i64_in]); (try clear q22)
     refine Ln Eb J fun _ Ea => ?_; clear J K' Eb
     refine M1 Ea 23 fun K' J ρ q23 => ?_; go_simp; (try clear q23)
     refine Ln Ea J fun _ Eb => ?_; clear J K' Ea
     refine late_done [1, 2, 3, 7, 8, 9] Eb hK (fun a hE => ?_); clear hK K Q' Eb; simp only [lk, pick, Nat.reduceEqDiff, ↓reduceIte] at hE
     refine Ks ?_
     refine ⟨i + 1, ⟨f ++ [y], sl2, hlt, by simpa using hE, hW, ⟨h20, y4⟩, by simp; omega, ?_⟩, by omega⟩
     rw [HKS.out, HQ.out]
     cases hqv : q
     ·rw [if_neg (by simp)]
      have hym : standsB mu y = false := by
       rcases y2 with e | ⟨_, e⟩
       ·rw [e, HQ.out, hqv]
       ·exact e
      rw [kept_no f hym]
      exact HH.out.snoc y1 y3
     ·rw [if_pos rfl, List.append_nil]
      have hyx : y = s[i] := by
       rcases y2 with e | ⟨e, _⟩
       ·exact e
       ·rw [hqv] at e; cases e
      rw [hyx, kept_yes f (HQ.out.trans hqv)]
      exact HH.out.mono hss
 ·have hii : i = s.size := by have := of_decide_eq_false h; omega
  subst hii
  clear h
  have hf12 : f.length ≤ 12 := by omega
  have hlen : (⟨f.toArray⟩ : ByteArray).data.toList = f := by simp
  have hsz : (⟨f.toArray⟩ : ByteArray).size = f.length := by simp [ByteArray.size]
  obtain ⟨q, hq⟩ : ∃ q, nameB f = q := ⟨_, rfl⟩
  have HN := hid (rNames_any ⟨f.toArray⟩)
  rw [hlen, hq] at HN
  have HQ := hid hq
  have HSZ := hid hsz
  have HLEN := hid hlen
  clear hq hsz hlen
  have hap := HH.out.ap hsl
  rw [List.take_of_length_le (by simp)] at hap
  have HAP := hid hap
  clear hap
  have hbb := hbw1.trans (hW.mono hbw1.size)
  refine Ks ?_
  refine Rs 3 fun Q' K hK => ?_
  refine M1 hE 7 fun K' J ρ q7 => ?_; go_simp; (try clear q7)
  refine Ln hE J fun _ Eb => ?_; clear J K' hE a
  refine M1 Eb 139 fun K' J ρ q139 => ?_; go_simp; (try go_bits); (try clear q139)
  go_at_call 27; refine (HN.out _ (by rw [HSZ.out]; omega)).mono ?_; rintro e g1 ⟨rfl, rfl⟩
  (try clear r139)
  refine Ln Eb J fun _ Ea => ?_; clear J K' Eb
  refine M1 Ea 140 fun K' J ρ q140 => ?_; go_simp; (try go_bits); (try simp (disch := omega) only [IntWalk.i64_in]); (try clear q140)
  refine Ln Ea J fun _ Eb => ?_; clear J K' Ea
  refine late_done [1, 7, 141] Eb hK (fun a hE => ?_); clear hK K Q' Eb; simp only [lk, pick, Nat.reduceEqDiff, ↓reduceIte] at hE
  refine Ks ?_
  cases hqv : q
  ·rw [hqv] at hE
   refine cond_yes hE (t := 141) rfl ?_
   refine Ks ?_
   refine Rs 2 fun Q' K hK => ?_
   refine M1 hE 1 fun K' J ρ q1 => ?_; go_simp; (try clear q1)
   refine Ln hE J fun _ Eb => ?_; clear J K' hE a
   refine M1 Eb 142 fun K' J ρ q142 => ?_; go_simp; (try clear q142)
   refine Ln Eb J fun _ Ea => ?_; clear J K' Eb
   refine late_done [6] Ea hK (fun a hE => ?_); clear hK K Q' Ea; simp only [lk, pick, Nat.reduceEqDiff, ↓reduceIte] at hE
   refine Ks ?_
   exact ret_one hE rfl rfl ⟨⟨s, rfl, hs12, HNM.out, by rw [ap_self l hl0]⟩, hbb⟩
  ·rw [hqv] at hE
   refine cond_no hE (t := 141) rfl ?_
   refine Ks ?_
   refine Rs 2 fun Q' K hK => ?_
   refine M1 hE 7 fun K' J ρ q7 => ?_; go_simp; (try clear q7)
   refine Ln hE J fun _ Eb => ?_; clear J K' hE a
   refine M1 Eb 143 fun K' J ρ q143 => ?_; go_simp; (try clear q143)
   refine Ln Eb J fun _ Ea => ?_; clear J K' Eb
   refine late_done [6] Ea hK (fun a hE => ?_); clear hK K Q' Ea; simp only [lk, pick, Nat.reduceEqDiff, ↓reduceIte] at hE
   refine Ks ?_
   exact ret_one hE rfl rfl ⟨⟨⟨f.toArray⟩, rfl, by rw [HSZ.out]; exact hf12, by rw [HLEN.out]; exact HQ.out.trans hqv, by rw [HLEN.out]; exact HAP.out⟩, hbb⟩
end Go.Proofs.Ytbimkcjdodgojaa
