/- Name: the law of truths, walked. -/
import Derived.Test.YtbimkcjdodgojaaNce
import Derived.Test.YtbimkcjdodgojaaNcg
import Derived.Test.YtbimkcjdodgojaaNbe
import Derived.Test.YtbimkcjdodgojaaNbf
import Derived.Test.YtbimkcjdodgojaaNbi
namespace Go.Proofs.Ytbimkcjdodgojaa
set_option linter.unusedSimpArgs false
set_option linter.unusedVariables false
open Go Go.RowKit
attribute [local go_sem high] cell_set_wr
attribute [local go_sem low] cell_wr frozen_wr
attribute [local go_sem] wr_set wr_drew wr_drewN wr_alloc wr_new Rho.c Rho.n Rho.g

theorem pairs_cast (t : Prs) : pairsI (t.map castP) = pairsV t := by
 unfold pairsI pairsV
 rw [List.flatMap_map]
 rfl
theorem same_iff (t u : Prs) : sameP t (u.map castP) = decide (t = u) := by
 unfold sameP
 rw [Bool.eq_iff_iff, beq_iff_eq, decide_eq_true_eq]
 constructor
 ·intro h
  refine List.ext_getElem (by simpa using congrArg List.length h) fun i h1 h2 => ?_
  have := congrArg (fun l => l[i]?) h
  simp only [List.getElem?_map, List.getElem?_eq_getElem h1, List.getElem?_eq_getElem h2, Option.map_some, Option.some.injEq] at this
  unfold castP at this
  have h3 := congrArg Prod.fst this
  have h4 := congrArg Prod.snd this
  simp only at h3 h4
  exact Prod.ext (by omega) (by omega)
 ·rintro rfl; rfl
theorem is_truth {b : Bk} (ho : b.ok = true) (t : Prs) : pIsTruthR b (t.map castP) = (decide (t ∈ b.ts), 0) := by
 unfold pIsTruthR
 rw [ho, if_pos rfl]
 congr 1
 rw [Bool.eq_iff_iff, List.any_eq_true, decide_eq_true_eq]
 constructor
 ·rintro ⟨u, hu, h⟩
  rw [same_iff, decide_eq_true_eq] at h
  exact h ▸ hu
 ·intro h
  exact ⟨t, h, by rw [same_iff, decide_eq_true_eq]⟩
theorem in_ts {b : Bk} {t : Prs} (hOk : OkP (couldsP b) 0 b.lines.length [] t) : decide (t ∈ b.ts) = decide ((b.lines.length : Int) - 2 * t.length ≤ b.lost) := by
 rw [Bool.eq_iff_iff, decide_eq_true_eq, decide_eq_true_eq]
 exact ⟨fun h => ((mem_ts (sides_bk b) b.lost t).1 h).2, fun h => (mem_ts (sides_bk b) b.lost t).2 ⟨hOk, h⟩⟩
theorem set_ok {b : Bk} (ho : b.ok = true) : setE b true = if b.ts.length = 0 then 22 else 0 := by
 unfold setE refE
 rw [ho]
 rfl
theorem line_of {b : Bk} {i : Nat} (hi : i < b.lines.length) {x : Int} (h : b.lines[i].book = x) : lineOfB b i x x = true := by
 have e : b.at (i : Int) = b.lines[i] := by unfold Bk.at; rw [Int.toNat_natCast, List.getD_eq_getElem?_getD]; simp [hi]
 unfold lineOfB inLines
 rw [e, h]
 simp; omega
/-- what Kind says of a pair of a truth -/
theorem kind_in {b : Bk} (ho : b.ok = true) {t : Prs} (ht : t ∈ b.ts) {p : Nat × Nat} (hp : p ∈ t) : ∃ kk : Int, (kk = 1 ∨ kk = 2) ∧ decide (kk = 2) = (decide ((b.ts.length : Int) = 1) || hasP (pJoinedL b) p) ∧ pKindR b p.1 p.2 = (kk, 0) := by
 have hne : b.ts.length ≠ 0 := fun e => by rw [List.eq_nil_of_length_eq_zero e] at ht; cases ht
 have hset : setE b true = 0 := by rw [set_ok ho, if_neg hne]
 obtain ⟨k1, k2⟩ := kind_law (sides_bk b) (ok_nine ho) b.lost ht hp
 have hok := ((mem_ts (sides_bk b) b.lost t).1 ht).1
 obtain ⟨_, _, h3, _⟩ := hok.firsts p hp
 obtain ⟨m1, m2, m3, m4⟩ := (mem_coulds b p.1 p.2).1 h3
 have m5 := (sides_bk b _ _ h3).2.2.2
 have z1 : b.lines[p.1].book = 0 := by
  unfold zB at m3
  rw [List.getD_eq_getElem?_getD] at m3
  simpa [m1] using m3
 have z2 : b.lines[p.2].book = 1 := by
  unfold zB at m5
  rw [List.getD_eq_getElem?_getD] at m5
  have h5 : ¬ b.lines[p.2].book = 0 := by simpa [m2] using m5
  have := book_ok ho m2
  omega
 refine ⟨kindP (cntP b.lines.length b.ts p.1 p.2) b.ts.length, k1, ?_, ?_⟩
 ·rw [show pJoinedL b = joinK (fun i o => kindP (cntP b.lines.length b.ts i o) b.ts.length == 2) (couldsP b) 9 by unfold pJoinedL; rw [hset, if_pos rfl]]
  exact k2
 ·unfold pKindR
  rw [line_of m1 z1, line_of m2 z2, Bool.and_self, hset, if_pos rfl]
theorem join_in {b : Bk} (ho : b.ok = true) {t : Prs} (ht : t ∈ b.ts) {p : Nat × Nat} (hp : p ∈ pJoinedL b) : matchP t p.1 = p.2 := by
 have hne : b.ts.length ≠ 0 := fun e => by rw [List.eq_nil_of_length_eq_zero e] at ht; cases ht
 have hset : setE b true = 0 := by rw [set_ok ho, if_neg hne]
 unfold pJoinedL at hp
 rw [hset, if_pos rfl] at hp
 exact ((join_law (sides_bk b) b.ts p.1 p.2).1 hp).2.2 t ht
theorem joined_len {b : Bk} (h : b.lines.length ≤ 9) : (pJoinedL b).length ≤ 81 := by
 unfold pJoinedL
 split
 ·exact joinK_len _ _ (couldsP_nine h) 9
 ·simp
theorem peo_in {b : Bk} (ho : b.ok = true) {t : Prs} (ht : t ∈ b.ts) : (pPeopleR b).1 ≤ (b.lines.length : Int) - t.length ∧ (b.lines.length : Int) - t.length ≤ (pPeopleR b).2 := by
 have hne : b.ts.length ≠ 0 := fun e => by rw [List.eq_nil_of_length_eq_zero e] at ht; cases ht
 have hset : setE b true = 0 := by rw [set_ok ho, if_neg hne]
 unfold pPeopleR
 rw [hset, if_pos rfl]
 exact people_in _ ht
section
variable (A : Option Addr) (cap : Nat) (L : Option Addr) (lcap : Nat) (b : Bk)
set_option maxRecDepth 100000 in
set_option maxHeartbeats 4000000 in
theorem truths_loops (hs : b.small cap lcap) (h9 : b.lines.length ≤ 9) (t J : Prs) (m : Nat) (lo hi : Int) (ht9 : t.length ≤ 9) (hJ81 : J.length ≤ 81) (HJ : Hid (∀ k (hk : k < J.length), matchP t J[k].1 = J[k].2))
    (HK : Hid (∀ k (hk : k < t.length), ∃ kk : Int, (kk = 1 ∨ kk = 2) ∧ decide (kk = 2) = (decide ((m : Int) = 1) || hasP J t[k]) ∧ ∀ W, BkAt W A L b → Calls Try.prog 24 #[.agg (bkV A cap L lcap b).toArray, .int .i64 t[k].1, .int .i64 t[k].2] W fun e w' => e = .returned (.tuple #[.int .i64 kk, .int .i64 0]) ∧ Below W.heap.size W w'))
    (HP : Hid (lo ≤ (b.lines.length : Int) - t.length ∧ (b.lines.length : Int) - t.length ≤ hi))
    (O : Option Addr) (oc : Nat) (Z : Option Addr) (zc B S : Nat) (w V : World) (hM : BkAt V A L b) (hb : Below w.heap.size w V) (hCB : Cells V B (bkV A cap L lcap b)) (hCS : Cells V S [.int .i64 lo, .int .i64 hi]) (hO : Arr V V.heap.size O (pairsV t)) (hZ : Arr V V.heap.size Z (pairsV J)) (a : Act)
    (hE : Fits 167 [(2, .pointer (some ⟨B, 0, none⟩)), (5, .slice O t.length oc), (8, .int .i64 m), (10, .slice Z J.length zc), (12, .pointer (some ⟨S, 0, none⟩))] a) :
    (cr 9 (bodyOf Try.f6)).wp Try.prog (bodyPost Try.prog Try.f6 fun e w' => e = .returned (.bool true) ∧ Below w.heap.size w w') a V := by
 simp only [bkV] at HK hCB
 refine wp_seq ?_; refine Ks ?_
 refine Rs 1 fun Q' K hK => ?_
 refine M0 fun K' Kh ρ => ?_; go_simp;
 refine Ln hE Kh fun _ Eb => ?_; clear Kh K' hE a
 refine late_done [2, 5, 8, 10, 12, 14] Eb hK (fun a hE => ?_); clear hK K Q' Eb; simp only [lk, pick, Nat.reduceEqDiff, ↓reduceIte] at hE
 refine Ks ?_
 refine loop_st (fun (k : Nat) a w' => k ≤ J.length ∧ Fits 167 [(2, .pointer (some ⟨B, 0, none⟩)), (5, .slice O t.length oc), (8, .int .i64 m), (10, .slice Z J.length zc), (12, .pointer (some ⟨S, 0, none⟩)), (14, .int .i64 k)] a ∧ Below V.heap.size V w') (fun k => J.length - k) 0 ⟨Nat.zero_le _, by simpa using hE, Below.refl _ _⟩ (fun k a w' hI => ?_)
 clear hE
 obtain ⟨hk, hE, hW⟩ := hI
 refine Ks ?_
 refine Rs 4 fun Q' K hK => ?_
 refine M1 hE 14 fun K' Kh ρ q14 => ?_; go_simp; (try clear q14)
 refine Ln hE Kh fun _ Eb => ?_; clear Kh K' hE a
 refine M1 Eb 10 fun K' Kh ρ q10 => ?_; go_simp; (try clear q10)
 refine Ln Eb Kh fun _ Ea => ?_; clear Kh K' Eb
 refine M1 Ea 95 fun K' Kh ρ q95 => ?_; go_simp; (try go_bits); (try clear q95)
 refine Ln Ea Kh fun _ Eb => ?_; clear Kh K' Ea
 refine M2 Eb 94 96 fun K' Kh ρ q94 q96 => ?_; go_simp; (try go_bits); (try clear q94 q96)
 refine Ln Eb Kh fun _ Ea => ?_; clear Kh K' Eb
 refine late_done [2, 5, 8, 10, 12, 14, 97] Ea hK (fun a hE => ?_); clear hK K Q' Ea; simp only [lk, pick, Nat.reduceEqDiff, ↓reduceIte] at hE
 refine Ks ?_
 refine cond_part hE (t := 97) rfl (fun h => ?_) (fun h => ?_)
 ·have hlt : k < J.length := by have := of_decide_eq_true h; omega
  clear h
  have hltI : (k : Int) < J.length := by omega
  have hZ' := (hZ.below hW).more hW.size
  have hO' := (hO.below hW).more hW.size
  obtain ⟨zb, zo, rfl, hzb, p0, p1⟩ := hZ'.pr hlt
  have hj := HJ.out k hlt
  obtain ⟨p, hp⟩ : ∃ p, J[k] = p := ⟨_, rfl⟩
  rw [hp] at p0 p1 hj
  have HJ2 := hid hj
  clear hp hj
  refine Ks ?_
  refine Rd [] (fun wt => Below w'.heap.size w' wt) (fun w1 w2 => Below w1.heap.size w1 w2) [(0, some 100), (1, some 101), (2, some 102), (3, some 103), (4, some 104), (5, some 105), (6, some 106), (7, some 107), (8, some 108), (9, some 109), (10, some 110), (11, some 111), (12, some 112)] [100, 101, 102, 103, 104, 105, 106, 107, 108, 109, 110, 111, 112] #[true, true, true, true, true, true, true, true, true, true, true, true, true] [2, 5, 8, 10, 12, 14] hE ((Below.refl _ _).drew) fun Q' K hK => ?_
  refine SeqOps.val ?_ (Sp fun ax wx hS hT' hd K' Kh => ?_) ?_; rotate_left 1
  ·have r5 := hS.at 5 (by decide) (hE.at 5 rfl); obtain ⟨hcT, hfT, hlT, hmT, hwT, hzT⟩ := bT hT'
   refine o1 r5 fun ρ q5 => ?_; go_simp;
   exact Jo Kh hT'
  refine SeqOps.val ?_ (Sp fun ax wx hS hT' hd K' Kh => ?_) ?_; rotate_left 1
  ·have r10 := hS.at 10 (by decide) (hE.at 10 rfl); obtain ⟨hcT, hfT, hlT, hmT, hwT, hzT⟩ := bT hT'
   refine o1 r10 fun ρ q10 => ?_; go_simp;
   exact Jo Kh hT'
  refine SeqOps.val ?_ (Sp fun ax wx hS hT' hd K' Kh => ?_) ?_; rotate_left 1
  ·have r14 := hS.at 14 (by decide) (hE.at 14 rfl); obtain ⟨hcT, hfT, hlT, hmT, hwT, hzT⟩ := bT hT'
   refine o1 r14 fun ρ q14 => ?_; go_simp;
   exact Jo Kh hT'
  refine SeqOps.val ?_ (Sp fun ax wx hS hT' hd K' Kh => ?_) ?_; rotate_left 1
  ·have r101 := Tv hd 1 1 101; have r102 := Tv hd 0 2 102; obtain ⟨hcT, hfT, hlT, hmT, hwT, hzT⟩ := bT hT'
   refine o2 r101 r102 fun ρ q101 q102 => ?_; go_simp; (try go_bits);
   exact Jo Kh hT'
  refine SeqOps.val ?_ (Sp fun ax wx hS hT' hd K' Kh => ?_) ?_; rotate_left 1
  ·have r103 := Tv hd 0 3 103; obtain ⟨hcT, hfT, hlT, hmT, hwT, hzT⟩ := bT hT'
   refine o1 r103 fun ρ q103 => ?_; go_simp;
   exact Jo Kh hT'
  refine SeqOps.val ?_ (Sp fun ax wx hS hT' hd K' Kh => ?_) ?_; rotate_left 1
  ·have r104 := Tv hd 0 4 104; obtain ⟨hcT, hfT, hlT, hmT, hwT, hzT⟩ := bT hT'
   refine o1 r104 fun ρ q104 => ?_; go_simp;
   exact Jo Kh hT'
  refine SeqOps.val ?_ (Sp fun ax wx hS hT' hd K' Kh => ?_) ?_; rotate_left 1
  ·have r100 := Tv hd 5 0 100; have r105 := Tv hd 0 5 105; obtain ⟨hcT, hfT, hlT, hmT, hwT, hzT⟩ := bT hT'
   refine o2 r100 r105 fun ρ q100 q105 => ?_; go_simp; (try go_bits);
   go_at_call 32; refine (rpair_any O oc t p.1 _ ((hO'.below hT').more hT'.size) (by omega)).mono ?_; rintro e g1 ⟨rfl, k1⟩
   refine Kh.out _ _ _ rfl ?_ (hT'.trans (k1.mono hT'.size)) k1; rfl
  refine SeqOps.val ?_ (Sp fun ax wx hS hT' hd K' Kh => ?_) ?_; rotate_left 1
  ·have r10 := hS.at 10 (by decide) (hE.at 10 rfl); obtain ⟨hcT, hfT, hlT, hmT, hwT, hzT⟩ := bT hT'
   refine o1 r10 fun ρ q10 => ?_; go_simp;
   exact Jo Kh hT'
  refine SeqOps.val ?_ (Sp fun ax wx hS hT' hd K' Kh => ?_) ?_; rotate_left 1
  ·have r14 := hS.at 14 (by decide) (hE.at 14 rfl); obtain ⟨hcT, hfT, hlT, hmT, hwT, hzT⟩ := bT hT'
   refine o1 r14 fun ρ q14 => ?_; go_simp;
   exact Jo Kh hT'
  refine SeqOps.val ?_ (Sp fun ax wx hS hT' hd K' Kh => ?_) ?_; rotate_left 1
  ·have r107 := Tv hd 1 7 107; have r108 := Tv hd 0 8 108; obtain ⟨hcT, hfT, hlT, hmT, hwT, hzT⟩ := bT hT'
   refine o2 r107 r108 fun ρ q107 q108 => ?_; go_simp; (try go_bits);
   exact Jo Kh hT'
  refine SeqOps.val ?_ (Sp fun ax wx hS hT' hd K' Kh => ?_) ?_; rotate_left 1
  ·have r109 := Tv hd 0 9 109; obtain ⟨hcT, hfT, hlT, hmT, hwT, hzT⟩ := bT hT'
   refine o1 r109 fun ρ q109 => ?_; go_simp;
   exact Jo Kh hT'
  refine SeqOps.val ?_ (Sp fun ax wx hS hT' hd K' Kh => ?_) ?_; rotate_left 1
  ·have r110 := Tv hd 0 10 110; obtain ⟨hcT, hfT, hlT, hmT, hwT, hzT⟩ := bT hT'
   refine o1 r110 fun ρ q110 => ?_; go_simp;
   exact Jo Kh hT'
  refine SeqOps.val ?_ (Sp fun ax wx hS hT' hd K' Kh => ?_) ?_; rotate_left 1
  ·have r106 := Tv hd 5 6 106; have r111 := Tv hd 0 11 111; obtain ⟨hcT, hfT, hlT, hmT, hwT, hzT⟩ := bT hT'
   refine o2 r106 r111 fun ρ q106 q111 => ?_; go_simp; (try go_bits);
   exact Jo Kh hT'
  refine SeqOps.nil ?_
  intro w2 hBl; (repeat refine Ek ?_)
  refine fun ax hEx => ?_
  simp only [lk, pick, Nat.reduceEqDiff, ↓reduceIte] at hEx
  refine late_done [2, 5, 8, 10, 12, 14, 112] hEx hK (fun a hE => ?_); clear hK K Q' hEx; simp only [lk, pick, Nat.reduceEqDiff, ↓reduceIte] at hE
  replace hE := hE.turn 112 (v' := .bool false) rfl (by rw [HJ2.out]; simp)
  refine Ks ?_
  refine cond_no hE (t := 112) rfl ?_
  refine Ks ?_
  refine Rs 3 fun Q' K hK => ?_
  refine M1 hE 14 fun K' Kh ρ q14 => ?_; go_simp; (try clear q14)
  refine Ln hE Kh fun _ Eb => ?_; clear Kh K' hE a
  refine M1 Eb 98 fun K' Kh ρ q98 => ?_; go_simp; (try go_bits); (try simp (disch := omega) only [IntWalk.i64_in]); (try clear q98)
  refine Ln Eb Kh fun _ Ea => ?_; clear Kh K' Eb
  refine M1 Ea 99 fun K' Kh ρ q99 => ?_; go_simp; (try clear q99)
  refine Ln Ea Kh fun _ Eb => ?_; clear Kh K' Ea
  refine late_done [2, 5, 8, 10, 12, 14] Eb hK (fun a hE => ?_); clear hK K Q' Eb; simp only [lk, pick, Nat.reduceEqDiff, ↓reduceIte] at hE
  refine Ks ?_
  exact ⟨k + 1, ⟨hlt, by simpa using hE, hW.trans (hBl.mono hW.size)⟩, by omega⟩
 ·clear h hk
  refine KsE ?_
  refine Ks ?_
  refine Rs 1 fun Q' K hK => ?_
  refine M0 fun K' Kh ρ => ?_; go_simp;
  refine Ln hE Kh fun _ Eb => ?_; clear Kh K' hE a
  refine late_done [2, 5, 8, 10, 12, 15] Eb hK (fun a hE => ?_); clear hK K Q' Eb; simp only [lk, pick, Nat.reduceEqDiff, ↓reduceIte] at hE
  refine Ks ?_
  refine loop_st (fun (k : Nat) a w' => k ≤ t.length ∧ Fits 167 [(2, .pointer (some ⟨B, 0, none⟩)), (5, .slice O t.length oc), (8, .int .i64 m), (10, .slice Z J.length zc), (12, .pointer (some ⟨S, 0, none⟩)), (15, .int .i64 k)] a ∧ Below V.heap.size V w') (fun k => t.length - k) 0 ⟨Nat.zero_le _, by simpa using hE, hW⟩ (fun k a w' hI => ?_)
  clear hE hW
  obtain ⟨hk, hE, hW⟩ := hI
  refine Ks ?_
  refine Rs 4 fun Q' K hK => ?_
  refine M1 hE 15 fun K' Kh ρ q15 => ?_; go_simp; (try clear q15)
  refine Ln hE Kh fun _ Eb => ?_; clear Kh K' hE a
  refine M1 Eb 5 fun K' Kh ρ q5 => ?_; go_simp; (try clear q5)
  refine Ln Eb Kh fun _ Ea => ?_; clear Kh K' Eb
  refine M1 Ea 114 fun K' Kh ρ q114 => ?_; go_simp; (try go_bits); (try clear q114)
  refine Ln Ea Kh fun _ Eb => ?_; clear Kh K' Ea
  refine M2 Eb 113 115 fun K' Kh ρ q113 q115 => ?_; go_simp; (try go_bits); (try clear q113 q115)
  refine Ln Eb Kh fun _ Ea => ?_; clear Kh K' Eb
  refine late_done [2, 5, 8, 10, 12, 15, 116] Ea hK (fun a hE => ?_); clear hK K Q' Ea; simp only [lk, pick, Nat.reduceEqDiff, ↓reduceIte] at hE
  refine Ks ?_
  refine cond_part hE (t := 116) rfl (fun h => ?_) (fun h => ?_)
  ·have hlt : k < t.length := by have := of_decide_eq_true h; omega
   clear h
   have hltI : (k : Int) < t.length := by omega
   have hZ' := (hZ.below hW).more hW.size
   have hO' := (hO.below hW).more hW.size
   have hM' := hM.below hW
   have hC' := hCB.below hW
   obtain ⟨ob, oo, rfl, hob, p0, p1⟩ := hO'.pr hlt
   obtain ⟨kk, hkk, hkq, hkc⟩ := HK.out k hlt
   obtain ⟨p, hp⟩ : ∃ p, t[k] = p := ⟨_, rfl⟩
   rw [hp] at p0 p1 hkq hkc
   have HKQ := hid hkq
   have HKC := hid hkc
   have HKK := hid hkk
   clear hp hkq hkc hkk
   have nB := hC'.1
   have cB0 := hC'.2 0 _ rfl
   have cB1 := hC'.2 1 _ rfl
   have cB2 := hC'.2 2 _ rfl
   have cB3 := hC'.2 3 _ rfl
   have cB4 := hC'.2 4 _ rfl
   have cB5 := hC'.2 5 _ rfl
   have cB6 := hC'.2 6 _ rfl
   refine Ks ?_
   refine Rd [16] (fun wt => Below w'.heap.size w' wt) (fun w1 w2 => Below w1.heap.size w1 w2) [(0, some 120), (1, some 121), (2, some 122), (3, some 123), (4, some 124), (5, some 125), (6, some 126), (7, some 127), (8, some 128), (9, some 129), (10, some 130), (11, some 131), (12, some 119), (13, some 132), (14, some 133), (15, some 16)] [120, 121, 122, 123, 124, 125, 126, 127, 128, 129, 130, 131, 119, 132, 133, 16] #[true, true, true, true, true, true, true, true, true, true, true, true, true, true, true, true, false] [2, 5, 8, 10, 12, 15, 17] hE ((Below.refl _ _).drew) fun Q' K hK => ?_
   refine SeqOps.val ?_ (Sp fun ax wx hS hT' hd K' Kh => ?_) ?_; rotate_left 1
   ·have r2 := hS.at 2 (by decide) (hE.at 2 rfl); obtain ⟨hcT, hfT, hlT, hmT, hwT, hzT⟩ := bT hT'
    refine o1 r2 fun ρ q2 => ?_; go_simp;
    exact Jo Kh hT'
   refine SeqOps.val ?_ (Sp fun ax wx hS hT' hd K' Kh => ?_) ?_; rotate_left 1
   ·have r5 := hS.at 5 (by decide) (hE.at 5 rfl); obtain ⟨hcT, hfT, hlT, hmT, hwT, hzT⟩ := bT hT'
    refine o1 r5 fun ρ q5 => ?_; go_simp;
    exact Jo Kh hT'
   refine SeqOps.val ?_ (Sp fun ax wx hS hT' hd K' Kh => ?_) ?_; rotate_left 1
   ·have r15 := hS.at 15 (by decide) (hE.at 15 rfl); obtain ⟨hcT, hfT, hlT, hmT, hwT, hzT⟩ := bT hT'
    refine o1 r15 fun ρ q15 => ?_; go_simp;
    exact Jo Kh hT'
   refine SeqOps.val ?_ (Sp fun ax wx hS hT' hd K' Kh => ?_) ?_; rotate_left 1
   ·have r121 := Tv hd 1 1 121; have r122 := Tv hd 0 2 122; obtain ⟨hcT, hfT, hlT, hmT, hwT, hzT⟩ := bT hT'
    refine o2 r121 r122 fun ρ q121 q122 => ?_; go_simp; (try go_bits);
    exact Jo Kh hT'
   refine SeqOps.val ?_ (Sp fun ax wx hS hT' hd K' Kh => ?_) ?_; rotate_left 1
   ·have r123 := Tv hd 0 3 123; obtain ⟨hcT, hfT, hlT, hmT, hwT, hzT⟩ := bT hT'
    refine o1 r123 fun ρ q123 => ?_; go_simp;
    exact Jo Kh hT'
   refine SeqOps.val ?_ (Sp fun ax wx hS hT' hd K' Kh => ?_) ?_; rotate_left 1
   ·have r124 := Tv hd 0 4 124; obtain ⟨hcT, hfT, hlT, hmT, hwT, hzT⟩ := bT hT'
    refine o1 r124 fun ρ q124 => ?_; go_simp;
    exact Jo Kh hT'
   refine SeqOps.val ?_ (Sp fun ax wx hS hT' hd K' Kh => ?_) ?_; rotate_left 1
   ·have r5 := hS.at 5 (by decide) (hE.at 5 rfl); obtain ⟨hcT, hfT, hlT, hmT, hwT, hzT⟩ := bT hT'
    refine o1 r5 fun ρ q5 => ?_; go_simp;
    exact Jo Kh hT'
   refine SeqOps.val ?_ (Sp fun ax wx hS hT' hd K' Kh => ?_) ?_; rotate_left 1
   ·have r15 := hS.at 15 (by decide) (hE.at 15 rfl); obtain ⟨hcT, hfT, hlT, hmT, hwT, hzT⟩ := bT hT'
    refine o1 r15 fun ρ q15 => ?_; go_simp;
    exact Jo Kh hT'
   refine SeqOps.val ?_ (Sp fun ax wx hS hT' hd K' Kh => ?_) ?_; rotate_left 1
   ·have r126 := Tv hd 1 6 126; have r127 := Tv hd 0 7 127; obtain ⟨hcT, hfT, hlT, hmT, hwT, hzT⟩ := bT hT'
    refine o2 r126 r127 fun ρ q126 q127 => ?_; go_simp; (try go_bits);
    exact Jo Kh hT'
   refine SeqOps.val ?_ (Sp fun ax wx hS hT' hd K' Kh => ?_) ?_; rotate_left 1
   ·have r128 := Tv hd 0 8 128; obtain ⟨hcT, hfT, hlT, hmT, hwT, hzT⟩ := bT hT'
    refine o1 r128 fun ρ q128 => ?_; go_simp;
    exact Jo Kh hT'
   refine SeqOps.val ?_ (Sp fun ax wx hS hT' hd K' Kh => ?_) ?_; rotate_left 1
   ·have r129 := Tv hd 0 9 129; obtain ⟨hcT, hfT, hlT, hmT, hwT, hzT⟩ := bT hT'
    refine o1 r129 fun ρ q129 => ?_; go_simp;
    exact Jo Kh hT'
   refine SeqOps.val ?_ (Sp fun ax wx hS hT' hd K' Kh => ?_) ?_; rotate_left 1
   ·have r120 := Tv hd 10 0 120; have r125 := Tv hd 5 5 125; have r130 := Tv hd 0 10 130; obtain ⟨hcT, hfT, hlT, hmT, hwT, hzT⟩ := bT hT'
    refine o3 r120 r125 r130 fun ρ q120 q125 q130 => ?_; go_simp; (try go_bits);
    go_at_call 24; refine (HKC.out _ (hM'.below hT')).mono ?_; rintro e g1 ⟨rfl, k1⟩
    refine Kh.out _ _ _ rfl ?_ (hT'.trans (k1.mono hT'.size)) k1; rfl
   refine SeqOps.val ?_ (Sp fun ax wx hS hT' hd K' Kh => ?_) ?_; rotate_left 1
   ·have r131 := Tv hd 0 11 131; obtain ⟨hcT, hfT, hlT, hmT, hwT, hzT⟩ := bT hT'
    refine o1 r131 fun ρ q131 => ?_; go_simp;
    exact Jo Kh hT'
   refine SeqOps.val ?_ (Sp fun ax wx hS hT' hd K' Kh => ?_) ?_; rotate_left 1
   ·have r119 := Tv hd 0 12 119; obtain ⟨hcT, hfT, hlT, hmT, hwT, hzT⟩ := bT hT'
    refine o1 r119 fun ρ q119 => ?_; go_simp;
    exact Jo Kh hT'
   refine SeqOps.val ?_ (Sp fun ax wx hS hT' hd K' Kh => ?_) ?_; rotate_left 1
   ·have r119 := Tv hd 1 12 119; obtain ⟨hcT, hfT, hlT, hmT, hwT, hzT⟩ := bT hT'
    refine o1 r119 fun ρ q119 => ?_; go_simp;
    exact Jo Kh hT'
   refine SeqOps.val ?_ (Sp fun ax wx hS hT' hd K' Kh => ?_) ?_; rotate_left 1
   ·have r132 := Tv hd 1 13 132; obtain ⟨hcT, hfT, hlT, hmT, hwT, hzT⟩ := bT hT'
    refine o1 r132 fun ρ q132 => ?_; go_simp;
    exact Jo Kh hT'
   refine SeqOps.nil ?_
   intro w2 hBl; (repeat refine Ek ?_)
   refine fun ax hEx => ?_
   simp only [lk, pick, Nat.reduceEqDiff, ↓reduceIte] at hEx
   refine M1 hEx 133 fun K' Kh ρ q133 => ?_; go_simp; (try clear q133)
   refine Ln hEx Kh fun _ Eb => ?_; clear Kh K' hEx
   refine late_done [2, 5, 8, 10, 12, 15, 16, 17] Eb hK (fun a hE => ?_); clear hK K Q' Eb; simp only [lk, pick, Nat.reduceEqDiff, ↓reduceIte] at hE
   have hb2 := hBl
   have hW2 := hW.trans (hBl.mono hW.size)
   have hZ2 := (hZ'.below hBl).more hBl.size
   have q0 := (hBl.cell (p := ⟨ob, oo + k * 2, none⟩) hob).trans p0
   have q1 := (hBl.cell (p := ⟨ob, oo + k * 2 + 1, none⟩) hob).trans p1
   have nob : ob < w2.heap.size := Nat.lt_of_lt_of_le hob hBl.size
   clear nB cB0 cB1 cB2 cB3 cB4 cB5 cB6 p0 p1 hC' hM' hZ'
   refine Ks ?_
   by_cases g1 : (m : Int) = 1
   ·have gk : kk = 2 := by
     have := HKQ.out
     rw [decide_eq_true g1, Bool.true_or, decide_eq_true_eq] at this
     exact this
    refine Rs 22 fun Q' K hK => ?_
    refine M1 hE 17 fun K' Kh ρ q17 => ?_; go_simp; (try clear q17)
    refine Ln hE Kh fun _ Eb => ?_; clear Kh K' hE a
    refine M1 Eb 134 fun K' Kh ρ q134 => ?_; go_simp; (try go_bits); (try clear q134)
    refine Ln Eb Kh fun _ Ea => ?_; clear Kh K' Eb
    replace Ea := Ea.turn 135 (v' := .bool false) rfl (by (first | rfl | simp))
    refine M1 Ea 135 fun K' Kh ρ q135 => ?_; go_simp; (try clear q135)
    refine Ln Ea Kh fun _ Eb => ?_; clear Kh K' Ea
    refine N1 Eb 136 16 fun K' Kh ρ q16 => ?_; go_simp; (try clear q16)
    refine Ln Eb Kh fun _ Ea => ?_; clear Kh K' Eb
    refine N1 Ea 136 137 fun K' Kh ρ q137 => ?_; go_simp; (try go_bits); (try clear q137)
    go_at_call 25; refine (between_any _ _ _ _).mono ?_; rintro e g1' ⟨rfl, rfl⟩
    (try clear r137)
    refine Ln Ea Kh fun _ Eb => ?_; clear Kh K' Ea
    refine N1 Eb 136 138 fun K' Kh ρ q138 => ?_; go_simp; (try go_bits); (try simp (disch := omega) only [IntWalk.i64_in]); (try clear q138)
    refine Ln Eb Kh fun _ Ea => ?_; clear Kh K' Eb
    replace Ea := Ea.turn 139 (v' := .bool false) rfl (by (first | rfl | (rw [gk]; rfl) | (rw [gk]; simp)))
    refine M2 Ea 136 139 fun K' Kh ρ q136 q139 => ?_; go_simp; (try go_bits); (try clear q136 q139)
    refine Ln Ea Kh fun _ Eb => ?_; clear Kh K' Ea
    refine M1 Eb 140 fun K' Kh ρ q140 => ?_; go_simp; (try clear q140)
    refine Ln Eb Kh fun _ Ea => ?_; clear Kh K' Eb
    refine N1 Ea 141 16 fun K' Kh ρ q16 => ?_; go_simp; (try clear q16)
    refine Ln Ea Kh fun _ Eb => ?_; clear Kh K' Ea
    refine N1 Eb 141 142 fun K' Kh ρ q142 => ?_; go_simp; (try go_bits); (try clear q142)
    refine Ln Eb Kh fun _ Ea => ?_; clear Kh K' Eb
    refine N1 Ea 141 8 fun K' Kh ρ q8 => ?_; go_simp; (try clear q8)
    refine Ln Ea Kh fun _ Eb => ?_; clear Kh K' Ea
    refine N1 Eb 141 144 fun K' Kh ρ q144 => ?_; go_simp; (try go_bits); (try clear q144)
    refine Ln Eb Kh fun _ Ea => ?_; clear Kh K' Eb
    replace Ea := Ea.turn 145 (v' := .bool true) rfl (by (simp [g1]))
    refine N1 Ea 141 145 fun K' Kh ρ q145 => ?_; go_simp; (try clear q145)
    refine Ln Ea Kh fun _ Eb => ?_; clear Kh K' Ea
    refine Lno Eb 146 ?_
    refine Lu Eb fun _ Ea => ?_
    refine Lno Ea 146 ?_
    refine Lu Ea fun _ Eb => ?_
    refine Lno Eb 146 ?_
    refine Lu Eb fun _ Ea => ?_
    refine Lno Ea 146 ?_
    refine Lu Ea fun _ Eb => ?_
    refine Lno Eb 146 ?_
    refine Lu Eb fun _ Ea => ?_
    refine Lno Ea 146 ?_
    refine Lu Ea fun _ Eb => ?_
    refine N2 Eb 141 146 152 fun K' Kh ρ q146 q152 => ?_; go_simp; (try go_bits); (try clear q146 q152)
    refine Ln Eb Kh fun _ Ea => ?_; clear Kh K' Eb
    refine N2 Ea 141 143 153 fun K' Kh ρ q143 q153 => ?_; go_simp; (try go_bits); (try clear q143 q153)
    refine Ln Ea Kh fun _ Eb => ?_; clear Kh K' Ea
    replace Eb := Eb.turn 154 (v' := .bool false) rfl (by (first | rfl | (rw [gk]; rfl) | (rw [gk]; simp)))
    refine M2 Eb 141 154 fun K' Kh ρ q141 q154 => ?_; go_simp; (try go_bits); (try clear q141 q154)
    refine Ln Eb Kh fun _ Ea => ?_; clear Kh K' Eb
    refine late_done [2, 5, 8, 10, 12, 15, 155] Ea hK (fun a hE => ?_); clear hK K Q' Ea; simp only [lk, pick, Nat.reduceEqDiff, ↓reduceIte] at hE
    refine Ks ?_
    refine cond_no hE (t := 155) rfl ?_
    refine Ks ?_
    refine Rs 3 fun Q' K hK => ?_
    refine M1 hE 15 fun K' Kh ρ q15 => ?_; go_simp; (try clear q15)
    refine Ln hE Kh fun _ Eb => ?_; clear Kh K' hE a
    refine M1 Eb 117 fun K' Kh ρ q117 => ?_; go_simp; (try go_bits); (try simp (disch := omega) only [IntWalk.i64_in]); (try clear q117)
    refine Ln Eb Kh fun _ Ea => ?_; clear Kh K' Eb
    refine M1 Ea 118 fun K' Kh ρ q118 => ?_; go_simp; (try clear q118)
    refine Ln Ea Kh fun _ Eb => ?_; clear Kh K' Ea
    refine late_done [2, 5, 8, 10, 12, 15] Eb hK (fun a hE => ?_); clear hK K Q' Eb; simp only [lk, pick, Nat.reduceEqDiff, ↓reduceIte] at hE
    refine Ks ?_
    exact ⟨k + 1, ⟨hlt, by simpa using hE, hW2⟩, by omega⟩
   ·have gk : decide (kk = 2) = hasP J p := by
     have := HKQ.out
     rw [decide_eq_false g1, Bool.false_or] at this
     exact this
    obtain ⟨u, hu⟩ : ∃ u, hasP J p = u := ⟨_, rfl⟩
    have HU := hid hu
    rw [hu] at gk
    have HGK := hid gk
    clear gk hu
    refine Rs 22 fun Q' K hK => ?_
    refine M1 hE 17 fun K' Kh ρ q17 => ?_; go_simp; (try clear q17)
    refine Ln hE Kh fun _ Eb => ?_; clear Kh K' hE a
    refine M1 Eb 134 fun K' Kh ρ q134 => ?_; go_simp; (try go_bits); (try clear q134)
    refine Ln Eb Kh fun _ Ea => ?_; clear Kh K' Eb
    replace Ea := Ea.turn 135 (v' := .bool false) rfl (by (first | rfl | simp))
    refine M1 Ea 135 fun K' Kh ρ q135 => ?_; go_simp; (try clear q135)
    refine Ln Ea Kh fun _ Eb => ?_; clear Kh K' Ea
    refine N1 Eb 136 16 fun K' Kh ρ q16 => ?_; go_simp; (try clear q16)
    refine Ln Eb Kh fun _ Ea => ?_; clear Kh K' Eb
    refine N1 Ea 136 137 fun K' Kh ρ q137 => ?_; go_simp; (try go_bits); (try clear q137)
    go_at_call 25; refine (between_any _ _ _ _).mono ?_; rintro e g1' ⟨rfl, rfl⟩
    (try clear r137)
    refine Ln Ea Kh fun _ Eb => ?_; clear Kh K' Ea
    refine N1 Eb 136 138 fun K' Kh ρ q138 => ?_; go_simp; (try go_bits); (try simp (disch := omega) only [IntWalk.i64_in]); (try clear q138)
    refine Ln Eb Kh fun _ Ea => ?_; clear Kh K' Eb
    replace Ea := Ea.turn 139 (v' := .bool false) rfl (by (first | rfl | (rcases HKK.out with e | e <;> (rw [e]; first | rfl | simp))))
    refine M2 Ea 136 139 fun K' Kh ρ q136 q139 => ?_; go_simp; (try go_bits); (try clear q136 q139)
    refine Ln Ea Kh fun _ Eb => ?_; clear Kh K' Ea
    refine M1 Eb 140 fun K' Kh ρ q140 => ?_; go_simp; (try clear q140)
    refine Ln Eb Kh fun _ Ea => ?_; clear Kh K' Eb
    refine N1 Ea 141 16 fun K' Kh ρ q16 => ?_; go_simp; (try clear q16)
    refine Ln Ea Kh fun _ Eb => ?_; clear Kh K' Ea
    refine N1 Eb 141 142 fun K' Kh ρ q142 => ?_; go_simp; (try go_bits); (try clear q142)
    refine Ln Eb Kh fun _ Ea => ?_; clear Kh K' Eb
    refine N1 Ea 141 8 fun K' Kh ρ q8 => ?_; go_simp; (try clear q8)
    refine Ln Ea Kh fun _ Eb => ?_; clear Kh K' Ea
    refine N1 Eb 141 144 fun K' Kh ρ q144 => ?_; go_simp; (try go_bits); (try clear q144)
    refine Ln Eb Kh fun _ Ea => ?_; clear Kh K' Eb
    replace Ea := Ea.turn 145 (v' := .bool false) rfl (by (simp [g1]))
    refine N1 Ea 141 145 fun K' Kh ρ q145 => ?_; go_simp; (try clear q145)
    refine Ln Ea Kh fun _ Eb => ?_; clear Kh K' Ea
    refine N1 Eb 146 10 fun K' Kh ρ q10 => ?_; go_simp; (try clear q10)
    refine Ln Eb Kh fun _ Ea => ?_; clear Kh K' Eb
    refine N1 Ea 146 5 fun K' Kh ρ q5 => ?_; go_simp; (try clear q5)
    refine Ln Ea Kh fun _ Eb => ?_; clear Kh K' Ea
    refine N1 Eb 146 15 fun K' Kh ρ q15 => ?_; go_simp; (try clear q15)
    refine Ln Eb Kh fun _ Ea => ?_; clear Kh K' Eb
    refine N2 Ea 146 148 149 fun K' Kh ρ q148 q149 => ?_; go_simp; (try go_bits); (try clear q148 q149)
    refine Ln Ea Kh fun _ Eb => ?_; clear Kh K' Ea
    refine N1 Eb 146 150 fun K' Kh ρ q150 => ?_; go_simp; (try clear q150)
    refine Ln Eb Kh fun _ Ea => ?_; clear Kh K' Eb
    refine N2 Ea 146 147 151 fun K' Kh ρ q147 q151 => ?_; go_simp; (try go_bits); (try clear q147 q151)
    go_at_call 33; refine (joins_any Z zc J p _ hZ2 (by omega)).mono ?_; rw [HU.out]; rintro e w3 ⟨rfl, h3⟩
    (try clear r147 r151)
    refine Ln Ea Kh fun _ Eb => ?_; clear Kh K' Ea
    refine N2 Eb 141 146 152 fun K' Kh ρ q146 q152 => ?_; go_simp; (try go_bits); (try clear q146 q152)
    refine Ln Eb Kh fun _ Ea => ?_; clear Kh K' Eb
    refine N2 Ea 141 143 153 fun K' Kh ρ q143 q153 => ?_; go_simp; (try go_bits); (try clear q143 q153)
    refine Ln Ea Kh fun _ Eb => ?_; clear Kh K' Ea
    replace Eb := Eb.turn 154 (v' := .bool false) rfl (by (have e := HGK.out; cases u <;> simp at e <;> simp [e]))
    refine M2 Eb 141 154 fun K' Kh ρ q141 q154 => ?_; go_simp; (try go_bits); (try clear q141 q154)
    refine Ln Eb Kh fun _ Ea => ?_; clear Kh K' Eb
    refine late_done [2, 5, 8, 10, 12, 15, 155] Ea hK (fun a hE => ?_); clear hK K Q' Ea; simp only [lk, pick, Nat.reduceEqDiff, ↓reduceIte] at hE
    refine Ks ?_
    refine cond_no hE (t := 155) rfl ?_
    refine Ks ?_
    refine Rs 3 fun Q' K hK => ?_
    refine M1 hE 15 fun K' Kh ρ q15 => ?_; go_simp; (try clear q15)
    refine Ln hE Kh fun _ Eb => ?_; clear Kh K' hE a
    refine M1 Eb 117 fun K' Kh ρ q117 => ?_; go_simp; (try go_bits); (try simp (disch := omega) only [IntWalk.i64_in]); (try clear q117)
    refine Ln Eb Kh fun _ Ea => ?_; clear Kh K' Eb
    refine M1 Ea 118 fun K' Kh ρ q118 => ?_; go_simp; (try clear q118)
    refine Ln Ea Kh fun _ Eb => ?_; clear Kh K' Ea
    refine late_done [2, 5, 8, 10, 12, 15] Eb hK (fun a hE => ?_); clear hK K Q' Eb; simp only [lk, pick, Nat.reduceEqDiff, ↓reduceIte] at hE
    refine Ks ?_
    exact ⟨k + 1, ⟨hlt, by simpa using hE, hW2.trans (h3.mono hW2.size)⟩, by omega⟩
  ·clear h hk
   refine KsE ?_
   have hC' := hCB.below hW
   have hS' := hCS.below hW
   have nB := hC'.1
   have cB3 := hC'.2 3 _ rfl
   have nS := hS'.1
   have cS0 := hS'.2 0 _ rfl
   have cS1 := hS'.2 1 _ rfl
   refine Ks ?_
   refine Rs 12 fun Q' K hK => ?_
   refine M1 hE 2 fun K' Kh ρ q2 => ?_; go_simp; (try clear q2)
   refine Ln hE Kh fun _ Eb => ?_; clear Kh K' hE a
   refine M1 Eb 156 fun K' Kh ρ q156 => ?_; go_simp; (try clear q156)
   refine Ln Eb Kh fun _ Ea => ?_; clear Kh K' Eb
   refine M1 Ea 157 fun K' Kh ρ q157 => ?_; go_simp; (try go_bits); (try clear q157)
   refine Ln Ea Kh fun _ Eb => ?_; clear Kh K' Ea
   refine M1 Eb 5 fun K' Kh ρ q5 => ?_; go_simp; (try clear q5)
   refine Ln Eb Kh fun _ Ea => ?_; clear Kh K' Eb
   refine M1 Ea 159 fun K' Kh ρ q159 => ?_; go_simp; (try go_bits); (try clear q159)
   refine Ln Ea Kh fun _ Eb => ?_; clear Kh K' Ea
   refine M2 Eb 158 160 fun K' Kh ρ q158 q160 => ?_; go_simp; (try go_bits); (try simp (disch := omega) only [IntWalk.i64_in]); (try clear q158 q160)
   refine Ln Eb Kh fun _ Ea => ?_; clear Kh K' Eb
   refine M1 Ea 12 fun K' Kh ρ q12 => ?_; go_simp; (try clear q12)
   refine Ln Ea Kh fun _ Eb => ?_; clear Kh K' Ea
   refine M2 Eb 161 162 fun K' Kh ρ q161 q162 => ?_; go_simp; (try go_bits); (try clear q161 q162)
   go_at_call 22; refine (in_any _ _ _ _).mono ?_; rintro e w2 ⟨rfl, h2⟩
   (try clear r161 r162)
   refine Ln Eb Kh fun _ Ea => ?_; clear Kh K' Eb
   refine M1 Ea 163 fun K' Kh ρ q163 => ?_; go_simp; (try clear q163)
   refine Ln Ea Kh fun _ Eb => ?_; clear Kh K' Ea
   replace Eb := Eb.turn 164 (v' := .bool true) rfl (by (have := HP.out; simp; omega))
   refine Ly Eb 164 fun K' Kh => ?_
   refine o0 fun ρ => ?_; go_simp; (try go_bits);
   go_at_call 15; refine (written_any _).mono ?_; rintro e w3 ⟨rfl, h3⟩
   refine Ln Eb Kh fun _ Ea => ?_; clear Kh K' Eb
   refine M2 Ea 164 165 fun K' Kh ρ q164 q165 => ?_; go_simp; (try go_bits); (try clear q164 q165)
   refine Ln Ea Kh fun _ Eb => ?_; clear Kh K' Ea
   refine M1 Eb 166 fun K' Kh ρ q166 => ?_; go_simp; (try clear q166)
   refine Ln Eb Kh fun _ Ea => ?_; clear Kh K' Eb
   refine late_done [4] Ea hK (fun a hE => ?_); clear hK K Q' Ea; simp only [lk, pick, Nat.reduceEqDiff, ↓reduceIte] at hE
   refine Ks ?_
   have hx := hW.trans ((h2.trans (h3.mono h2.size)).mono hW.size)
   exact ret_one hE rfl rfl ⟨rfl, hb.trans (hx.mono hb.size)⟩
end
end Go.Proofs.Ytbimkcjdodgojaa
