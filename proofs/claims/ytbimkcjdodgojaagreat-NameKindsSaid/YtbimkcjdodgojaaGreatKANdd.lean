/- Name: small helpers of the reference: the number of a line, and two lists of pairs. -/
import Derived.Test.YtbimkcjdodgojaaGreatKANdb
import Derived.Test.YtbimkcjdodgojaaGreatKANaj

namespace Go.Proofs.YtbimkcjdodgojaaGreat
set_option linter.unusedSimpArgs false
set_option linter.unusedVariables false
open Go Go.RowKit
attribute [local go_sem high] cell_set_wr
attribute [local go_sem low] cell_wr frozen_wr
attribute [local go_sem] wr_set wr_drew wr_drewN wr_alloc wr_new Rho.c Rho.n Rho.g
set_option maxRecDepth 100000 in
theorem risLine_any (A : Option Addr) (cap : Nat) (L : Option Addr) (lcap : Nat) (b : Bk) (n : Int) (w : World) (hs : b.small cap lcap) : Calls Tryz.prog 30 #[.agg (bkV A cap L lcap b).toArray, .int .i64 n] w fun e w' => e = .returned (.bool (inLines b n)) ∧ Below w.heap.size w w' := by
 have hl63 := hs.2.2.2.1
 simp only [bkV]
 refine enterE Tryz.func30 rfl Tryz.ntmps30 (by simp) (fun a hE => ?_); simp only [envOf, Nat.zero_add, Nat.reduceAdd] at hE
 refine Ks ?_
 refine Rs 2 fun Q' K hK => ?_
 refine M1 hE 0 fun K' J ρ q0 => ?_; go_simp
 refine Ln hE J fun _ Eb => ?_; clear J K' hE a q0
 refine M0 fun K' J ρ => ?_; go_simp;
 refine Ln Eb J fun _ Ea => ?_; clear J K' Eb
 refine Ld [1, 2] Ea hK fun a hE => ?_; clear hK K Q' Ea
 obtain ⟨B, hBe⟩ : ∃ B, B = w.heap.size := ⟨_, rfl⟩; rw [← hBe] at hE; refine world_cut (fun wt => Below w.heap.size w wt ∧ Cells wt B (bkV A cap L lcap b)) ⟨(Below.refl _ _).alloc (Nat.le_refl _) _, by rw [hBe]; exact cells_new _ _ _⟩ (fun w1 hCut => ?_); obtain ⟨hbw1, hCB⟩ := hCut; clear hBe
 simp only [bkV] at hCB
 have nB := hCB.1; have cB3 := hCB.2 3 _ rfl
 refine Ks ?_
 refine Rs 7 fun Q' K hK => ?_
 refine M1 hE 1 fun K' J ρ q1 => ?_; go_simp
 refine Ln hE J fun _ Eb => ?_; clear J K' hE a q1
 refine M1 Eb 2 fun K' J ρ q2 => ?_; go_simp
 refine Ln Eb J fun _ Ea => ?_; clear J K' Eb q2
 refine M1 Ea 6 fun K' J ρ q6 => ?_; go_simp
 refine Ln Ea J fun _ Eb => ?_; clear J K' Ea q6
 refine M1 Eb 7 fun K' J ρ q7 => ?_; go_simp; (try go_bits)
 refine Ln Eb J fun _ Ea => ?_; clear J K' Eb q7
 refine M1 Ea 8 fun K' J ρ q8 => ?_; go_simp; (try go_bits); (try simp (disch := omega) only [IntWalk.i64_in])
 refine Ln Ea J fun _ Eb => ?_; clear J K' Ea q8
 refine M2 Eb 5 9 fun K' J ρ q5 q9 => ?_; go_simp; (try go_bits); (try clear q5 q9)
 go_at_call 38; refine (between_any _ _ _ _).mono ?_; rintro e w4 ⟨rfl, rfl⟩
 (try clear r5 r9)
 refine Ln Eb J fun _ Ea => ?_; clear J K' Eb
 refine M1 Ea 10 fun K' J ρ q10 => ?_; go_simp
 refine Ln Ea J fun _ Eb => ?_; clear J K' Ea q10
 refine Ld [4] Eb hK fun a hE => ?_; clear hK K Q' Eb
 refine Ks ?_
 exact ret_one hE rfl rfl ⟨rfl, hbw1⟩
set_option maxRecDepth 100000 in
set_option maxHeartbeats 1000000 in
theorem rsame_any (A : Option Addr) (c : Nat) (t : Prs) (B : Option Addr) (d : Nat) (ps : IPrs) (w : World) (hA : Arr w w.heap.size A (pairsV t)) (hB : Arr w w.heap.size B (pairsI ps)) (ht : t.length ≤ 9223372036854775807) (hs : ps.length ≤ 9223372036854775807) : Calls Tryz.prog 19 #[.slice A t.length c, .slice B ps.length d] w fun e w' => e = .returned (.bool (sameP t ps)) ∧ Below w.heap.size w w' := by
 refine enterE Tryz.func19 rfl Tryz.ntmps19 (by simp) (fun a hE => ?_); simp only [envOf, Nat.zero_add, Nat.reduceAdd] at hE
 refine Ks ?_
 refine Rs 1 fun Q' K hK => ?_
 refine M0 fun K' J ρ => ?_; go_simp;
 refine Ln hE J fun _ Eb => ?_; clear J K' hE a
 refine Ld [0, 1] Eb hK fun a hE => ?_; clear hK K Q' Eb
 refine Ks ?_
 refine Rs 6 fun Q' K hK => ?_
 refine M1 hE 0 fun K' J ρ q0 => ?_; go_simp
 refine Ln hE J fun _ Eb => ?_; clear J K' hE a q0
 refine M1 Eb 7 fun K' J ρ q7 => ?_; go_simp; (try go_bits)
 refine Ln Eb J fun _ Ea => ?_; clear J K' Eb q7
 refine M1 Ea 1 fun K' J ρ q1 => ?_; go_simp
 refine Ln Ea J fun _ Eb => ?_; clear J K' Ea q1
 refine M1 Eb 9 fun K' J ρ q9 => ?_; go_simp; (try go_bits)
 refine Ln Eb J fun _ Ea => ?_; clear J K' Eb q9
 refine M2 Ea 8 10 fun K' J ρ q8 q10 => ?_; go_simp; (try go_bits)
 refine Ln Ea J fun _ Eb => ?_; clear J K' Ea q8 q10
 refine M1 Eb 11 fun K' J ρ q11 => ?_; go_simp
 refine Ln Eb J fun _ Ea => ?_; clear J K' Eb q11
 refine Ld [0, 1, 5] Ea hK fun a hE => ?_; clear hK K Q' Ea
 refine Ks ?_
 refine Rs 1 fun Q' K hK => ?_
 refine M0 fun K' J ρ => ?_; go_simp;
 refine Ln hE J fun _ Eb => ?_; clear J K' hE a
 refine Ld [0, 1, 5, 6] Eb hK fun a hE => ?_; clear hK K Q' Eb
 refine Ks ?_
 refine loop_st (fun (k : Nat) a w' => ∃ q : Bool, k ≤ t.length ∧ Fits 31 [(0, .slice A t.length c), (1, .slice B ps.length d), (5, .bool q), (6, .int .i64 k)] a ∧ Below w.heap.size w w' ∧ (q = true → t.length = ps.length ∧ ∀ i (h1 : i < t.length) (h2 : i < ps.length), i < k → (t[i].1 : Int) = ps[i].1 ∧ (t[i].2 : Int) = ps[i].2) ∧ (q = false → sameP t ps = false)) (fun k => t.length - k) 0 ?_ (fun k a w' hI => ?_)
 ·refine ⟨_, Nat.zero_le _, by simpa using hE, Below.refl _ _, fun h => ⟨by have := of_decide_eq_true h; omega, fun i _ _ h0 => absurd h0 (Nat.not_lt_zero _)⟩, fun h => sameP_len (by have := of_decide_eq_false h; omega)⟩
 clear hE
 obtain ⟨q, hk, hE, hW, hy, hn⟩ := hI
 have HY := hid hy
 have HN := hid hn
 clear hy hn
 obtain ⟨wr, hwr⟩ : ∃ x, x = w' := ⟨_, rfl⟩
 subst hwr
 refine Ks ?_
 cases hqv : q
 ·rw [hqv] at hE
  refine Rs 7 fun Q' K hK => ?_
  refine M1 hE 5 fun K' J ρ q5 => ?_; go_simp
  refine Ln hE J fun _ Eb => ?_; clear J K' hE a q5
  refine M1 Eb 12 fun K' J ρ q12 => ?_; go_simp
  refine Ln Eb J fun _ Ea => ?_; clear J K' Eb q12
  refine Lno Ea 13 ?_
  refine Lu Ea fun _ Eb => ?_
  refine Lno Eb 13 ?_
  refine Lu Eb fun _ Ea => ?_
  refine Lno Ea 13 ?_
  refine Lu Ea fun _ Eb => ?_
  refine Lno Eb 13 ?_
  refine Lu Eb fun _ Ea => ?_
  refine M2 Ea 13 17 fun K' J ρ q13 q17 => ?_; go_simp; (try go_bits)
  refine Ln Ea J fun _ Eb => ?_; clear J K' Ea q13 q17
  refine Ld [5, 18] Eb hK fun a hE => ?_; clear hK K Q' Eb
  refine Ks ?_
  refine cond_no hE (t := 18) rfl ?_
  refine Ks ?_
  refine Rs 2 fun Q' K hK => ?_
  refine M1 hE 5 fun K' J ρ q5 => ?_; go_simp
  refine Ln hE J fun _ Eb => ?_; clear J K' hE a q5
  refine M1 Eb 30 fun K' J ρ q30 => ?_; go_simp
  refine Ln Eb J fun _ Ea => ?_; clear J K' Eb q30
  refine Ld [4] Ea hK fun a hE => ?_; clear hK K Q' Ea
  refine Ks ?_
  exact ret_one hE rfl rfl ⟨by rw [HN.out hqv], hW⟩
 ·rw [hqv] at hE
  have HYT := hid (HY.out hqv)
  clear hqv HY HN
  refine Rs 7 fun Q' K hK => ?_
  refine M1 hE 5 fun K' J ρ q5 => ?_; go_simp
  refine Ln hE J fun _ Eb => ?_; clear J K' hE a q5
  refine M1 Eb 12 fun K' J ρ q12 => ?_; go_simp
  refine Ln Eb J fun _ Ea => ?_; clear J K' Eb q12
  refine N1 Ea 13 6 fun K' J ρ q6 => ?_; go_simp
  refine Ln Ea J fun _ Eb => ?_; clear J K' Ea q6
  refine N1 Eb 13 0 fun K' J ρ q0 => ?_; go_simp
  refine Ln Eb J fun _ Ea => ?_; clear J K' Eb q0
  refine N1 Ea 13 15 fun K' J ρ q15 => ?_; go_simp; (try go_bits)
  refine Ln Ea J fun _ Eb => ?_; clear J K' Ea q15
  refine N2 Eb 13 14 16 fun K' J ρ q14 q16 => ?_; go_simp; (try go_bits)
  refine Ln Eb J fun _ Ea => ?_; clear J K' Eb q14 q16
  refine M2 Ea 13 17 fun K' J ρ q13 q17 => ?_; go_simp; (try go_bits)
  refine Ln Ea J fun _ Eb => ?_; clear J K' Ea q13 q17
  refine Ld [0, 1, 5, 6, 18] Eb hK fun a hE => ?_; clear hK K Q' Eb
  refine Ks ?_
  refine cond_part hE (t := 18) rfl (fun h => ?_) (fun h => ?_)
  ·have hlt : k < t.length := by have := of_decide_eq_true h; omega
   clear h
   have hlt2 : k < ps.length := by have := HYT.out.1; omega
   have hltI : (k : Int) < t.length := by omega
   have hltJ : (k : Int) < ps.length := by omega
   obtain ⟨b0, o0, rfl, hb0, c0, c1⟩ := (hA.below hW).pr hlt
   obtain ⟨b1, o1, rfl, hb1, d0, d1⟩ := (hB.below hW).ipr hlt2
   have hw0 : b0 < wr.heap.size := Nat.lt_of_lt_of_le hb0 hW.size
   have hw1 : b1 < wr.heap.size := Nat.lt_of_lt_of_le hb1 hW.size
   have HS := hid (fun (h : ¬ ((t[k].1 : Int) = ps[k].1 ∧ (t[k].2 : Int) = ps[k].2)) => sameP_no hlt hlt2 h)
   have HT : Hid ((t[k].1 : Int) = ps[k].1 ∧ (t[k].2 : Int) = ps[k].2 → t.length = ps.length ∧ ∀ i (h1 : i < t.length) (h2 : i < ps.length), i < k + 1 → (t[i].1 : Int) = ps[i].1 ∧ (t[i].2 : Int) = ps[i].2) := hid fun h => ⟨HYT.out.1, fun i h1 h2 h3 => by
    by_cases e : i = k
    ·subst e; exact h
    ·exact HYT.out.2 i h1 h2 (by omega)⟩
   obtain ⟨p, hp⟩ : ∃ p, t[k] = p := ⟨_, rfl⟩
   obtain ⟨r, hr⟩ : ∃ r, ps[k] = r := ⟨_, rfl⟩
   rw [hp] at c0 c1 HS HT
   rw [hr] at d0 d1 HS HT
   clear hp hr
   refine Ks ?_
   refine Rd [9] (fun wt => Below wr.heap.size wr wt) (fun w1 w2 => Below w1.heap.size w1 w2) [(0, some 21), (1, some 22), (2, some 23), (3, some 24), (4, some 25), (5, some 26), (6, some 27), (7, some 28), (8, some 29)] [21, 22, 23, 24, 25, 26, 27, 28, 29] #[true, true, true, true, true, true, true, true, true, false] [0, 1, 5, 6] hE ((Below.refl _ _).drew) fun Q' K hK => ?_
   refine SeqOps.val ?_ (Sp fun ax wx hS hT' hd K' J => ?_) ?_; rotate_left 1
   ·have r0 := hS.at 0 (by decide) (hE.at 0 rfl); obtain ⟨_, _, _, _, _, _⟩ := bT hT'
    refine Go.Proofs.YtbimkcjdodgojaaGreat.o1 r0 fun ρ q0 => ?_; go_simp;
    exact Jo J hT'
   refine SeqOps.val ?_ (Sp fun ax wx hS hT' hd K' J => ?_) ?_; rotate_left 1
   ·have r6 := hS.at 6 (by decide) (hE.at 6 rfl); obtain ⟨_, _, _, _, _, _⟩ := bT hT'
    refine Go.Proofs.YtbimkcjdodgojaaGreat.o1 r6 fun ρ q6 => ?_; go_simp;
    exact Jo J hT'
   refine SeqOps.val ?_ (Sp fun ax wx hS hT' hd K' J => ?_) ?_; rotate_left 1
   ·have r21 := Tv hd 1 0 21; have r22 := Tv hd 0 1 22; obtain ⟨_, _, _, _, _, _⟩ := bT hT'
    refine o2 r21 r22 fun ρ q21 q22 => ?_; go_simp; (try go_bits);
    exact Jo J hT'
   refine SeqOps.val ?_ (Sp fun ax wx hS hT' hd K' J => ?_) ?_; rotate_left 1
   ·have r23 := Tv hd 0 2 23; obtain ⟨_, _, _, _, _, _⟩ := bT hT'
    refine Go.Proofs.YtbimkcjdodgojaaGreat.o1 r23 fun ρ q23 => ?_; go_simp;
    exact Jo J hT'
   refine SeqOps.val ?_ (Sp fun ax wx hS hT' hd K' J => ?_) ?_; rotate_left 1
   ·have r1 := hS.at 1 (by decide) (hE.at 1 rfl); obtain ⟨_, _, _, _, _, _⟩ := bT hT'
    refine Go.Proofs.YtbimkcjdodgojaaGreat.o1 r1 fun ρ q1 => ?_; go_simp;
    exact Jo J hT'
   refine SeqOps.val ?_ (Sp fun ax wx hS hT' hd K' J => ?_) ?_; rotate_left 1
   ·have r6 := hS.at 6 (by decide) (hE.at 6 rfl); obtain ⟨_, _, _, _, _, _⟩ := bT hT'
    refine Go.Proofs.YtbimkcjdodgojaaGreat.o1 r6 fun ρ q6 => ?_; go_simp;
    exact Jo J hT'
   refine SeqOps.val ?_ (Sp fun ax wx hS hT' hd K' J => ?_) ?_; rotate_left 1
   ·have r25 := Tv hd 1 4 25; have r26 := Tv hd 0 5 26; obtain ⟨_, _, _, _, _, _⟩ := bT hT'
    refine o2 r25 r26 fun ρ q25 q26 => ?_; go_simp; (try go_bits);
    exact Jo J hT'
   refine SeqOps.val ?_ (Sp fun ax wx hS hT' hd K' J => ?_) ?_; rotate_left 1
   ·have r27 := Tv hd 0 6 27; obtain ⟨_, _, _, _, _, _⟩ := bT hT'
    refine Go.Proofs.YtbimkcjdodgojaaGreat.o1 r27 fun ρ q27 => ?_; go_simp;
    exact Jo J hT'
   refine SeqOps.val ?_ (Sp fun ax wx hS hT' hd K' J => ?_) ?_; rotate_left 1
   ·have r24 := Tv hd 4 3 24; have r28 := Tv hd 0 7 28; obtain ⟨_, _, _, _, _, _⟩ := bT hT'
    refine o2 r24 r28 fun ρ q24 q28 => ?_; go_simp; (try go_bits);
    rw [ite2_eq]
    refine J.out _ _ _ rfl ?_ hT' (Below.refl _ _); rfl
   refine SeqOps.nil ?_
   intro w2 hBl; (repeat refine Ek ?_)
   refine fun ax hEx => ?_
   simp only [lk, pick, Nat.reduceEqDiff, ↓reduceIte] at hEx
   refine M1 hEx 29 fun K' J ρ q29 => ?_; go_simp
   refine Ln hEx J fun _ Eb => ?_; clear J K' hEx q29
   refine Ld [0, 1, 5, 6] Eb hK fun a hE => ?_; clear hK K Q' Eb
   refine Ks ?_
   refine Rs 3 fun Q' K hK => ?_
   refine M1 hE 6 fun K' J ρ q6 => ?_; go_simp
   refine Ln hE J fun _ Eb => ?_; clear J K' hE a q6
   refine M1 Eb 19 fun K' J ρ q19 => ?_; go_simp; (try go_bits); (try simp (disch := omega) only [IntWalk.i64_in])
   refine Ln Eb J fun _ Ea => ?_; clear J K' Eb q19
   refine M1 Ea 20 fun K' J ρ q20 => ?_; go_simp
   refine Ln Ea J fun _ Eb => ?_; clear J K' Ea q20
   refine Ld [0, 1, 5, 6] Eb hK fun a hE => ?_; clear hK K Q' Eb
   refine Ks ?_
   exact ⟨k + 1, ⟨_, hlt, by simpa using hE, hW.trans (hBl.mono hW.size), fun h => HT.out (by simpa using h), fun h => HS.out (by simpa using h)⟩, by omega⟩
  ·have hkk : k = t.length := by have := of_decide_eq_false h; omega
   clear h
   refine Ks ?_
   refine Rs 2 fun Q' K hK => ?_
   refine M1 hE 5 fun K' J ρ q5 => ?_; go_simp
   refine Ln hE J fun _ Eb => ?_; clear J K' hE a q5
   refine M1 Eb 30 fun K' J ρ q30 => ?_; go_simp
   refine Ln Eb J fun _ Ea => ?_; clear J K' Eb q30
   refine Ld [4] Ea hK fun a hE => ?_; clear hK K Q' Ea
   refine Ks ?_
   exact ret_one hE rfl rfl ⟨by rw [sameP_yes HYT.out.1 fun i h1 h2 => HYT.out.2 i h1 h2 (by omega)], hW⟩
end Go.Proofs.YtbimkcjdodgojaaGreat
