/- Name: the iterator of increasing lists. -/
import Derived.Test.YtbimkcjdodgojaaGreatKBNah

namespace Go.Proofs.YtbimkcjdodgojaaGreat
set_option linter.unusedSimpArgs false
set_option linter.unusedVariables false
open Go Go.RowKit
attribute [local go_sem high] cell_set_wr
attribute [local go_sem low] cell_wr frozen_wr
attribute [local go_sem] wr_set wr_drew wr_drewN wr_alloc wr_new Rho.c Rho.n Rho.g
/-- the increasing lists of so many numbers below count that begin with a list, and go on from a number -/
def addL (size count : Nat) : Nat → List Nat → Nat → List (List Nat)
 | 0, li, _ => if li.length = size then [li] else []
 | f + 1, li, n => if li.length = size then [li] else (List.range' n (count - n)).flatMap fun k => addL size count f (li ++ [k]) (k + 1)
def listsL (size count : Nat) : List (List Nat) := addL size count count [] 0
def partL (size count f : Nat) (li : List Nat) (n j : Nat) : List (List Nat) := (List.range' n j).flatMap fun k => addL size count f (li ++ [k]) (k + 1)
theorem partL_succ (size count f : Nat) (li : List Nat) (n j : Nat) : partL size count f li n (j + 1) = partL size count f li n j ++ addL size count f (li ++ [n + j]) (n + j + 1) := by
 unfold partL
 rw [List.range'_1_concat, List.flatMap_append]
 simp
theorem partL_prefix (size count f : Nat) (li : List Nat) (n : Nat) {j m : Nat} (h : j ≤ m) : partL size count f li n j <+: partL size count f li n m := by
 obtain ⟨d, rfl⟩ : ∃ d, m = j + d := ⟨m - j, by omega⟩
 unfold partL
 rw [← List.range'_append_1, List.flatMap_append]
 exact List.prefix_append _ _
def encL (x : List Nat) (vs : Array Value) (V : World) : Prop := ∃ T c, vs = #[.slice T x.length c] ∧ x.length ≤ c ∧ Arr V V.heap.size T (nats x)
section
variable (Sz Y Ct Ad l size count : Nat)
/-- what the closure reads -/
structure DatL (M : Nat → Prop) (V : World) : Prop where
 cs : CellsS M l V Sz [.int .i64 size]
 cy : CellsS M l V Y [.func (.yield l) #[] #[]]
 cc : CellsS M l V Ct [.int .i64 count]
 ca : CellsS M l V Ad [.func (.func 100) #[] #[.pointer (some ⟨Sz, 0, none⟩), .pointer (some ⟨Y, 0, none⟩), .pointer (some ⟨Ct, 0, none⟩), .pointer (some ⟨Ad, 0, none⟩)]]
variable {Sz Y Ct Ad l size count}
theorem DatL.keep {M M' : Nat → Prop} {V V' : World} (h : DatL Sz Y Ct Ad l size count M V) (hk : KeepM M l V V') (hg : Grow M M' V) : DatL Sz Y Ct Ad l size count M' V' := ⟨h.cs.keep hk hg, h.cy.keep hk hg, h.cc.keep hk hg, h.ca.keep hk hg⟩
theorem DatL.below {M : Nat → Prop} {V V' : World} (h : DatL Sz Y Ct Ad l size count M V) (hk : Below V.heap.size V V') : DatL Sz Y Ct Ad l size count M V' := h.keep (.of_below hk) (.refl _ _)
set_option maxRecDepth 100000 in
set_option maxHeartbeats 8000000 in
theorem add_any (J : List (List Nat) → (Nat → Prop) → World → Prop) (Jx : List (List Nat) → World → Prop) (XS : List (List Nat)) (W : World) (hc9 : count ≤ 9)
    (hY : ∀ pre x M V vs, J pre M V → W.heap.size ≤ V.heap.size → encL x vs V → pre ++ [x] <+: XS → YieldW Tryz.prog l vs V fun e V' =>
     (e = .returned (.bool true) ∧ ∃ M', J (pre ++ [x]) M' V' ∧ Grow M M' V ∧ KeepM M l V V') ∨ (e = .returned (.bool false) ∧ Jx (pre ++ [x]) V'))
    (hJ : ∀ s M A C, J s M A → Below W.heap.size A C → (∀ k, M k → C.heap[k]? = A.heap[k]?) → J s M C) (hJM : ∀ s M A, J s M A → (∀ k, M k → k < A.heap.size) ∧ ¬ M l) :
    ∀ (f n : Nat) (T : Option Addr) (c : Nat) (li : List Nat) (M : Nat → Prop) (V : World) (pre : List (List Nat)), count - n ≤ f → li.length ≤ n → li.length ≤ 9 → li.length ≤ c → n ≤ 9 → J pre M V → pre ++ addL size count f li n <+: XS → W.heap.size ≤ V.heap.size →
    DatL Sz Y Ct Ad l size count M V → ArrS M l V T (nats li) → l < V.heap.size →
    Calls Tryz.prog 100 #[.slice T li.length c, .int .i64 n, .pointer (some ⟨Sz, 0, none⟩), .pointer (some ⟨Y, 0, none⟩), .pointer (some ⟨Ct, 0, none⟩), .pointer (some ⟨Ad, 0, none⟩)] V
     fun e V' => ∃ x, e = .returned (.bool x) ∧ OutR J Jx XS l pre (addL size count f li n) M V x V' := by
 intro f
 induction f with
 | zero =>
  intro n T c li M V pre hf hln hl9 hlc hn9 h0 hp hV hD hT hlV
  have hCSz := hD.cs.cells
  have hCY := hD.cy.cells
  have hCCt := hD.cc.cells
  have hTA := hT.arr
  refine enterE Tryz.func100 rfl Tryz.ntmps100 (by simp) (fun a hE => ?_); simp only [envOf, Nat.zero_add, Nat.reduceAdd] at hE
  refine Ks ?_
  refine Rs 1 fun Q' K hK => ?_
  refine Go.Proofs.YtbimkcjdodgojaaGreat.M0 fun K' Kh ρ => ?_; go_simp;
  refine Ln hE Kh fun _ Eb => ?_; clear Kh K' hE a
  refine Ld [0, 1, 2, 3, 4, 5] Eb hK fun a hE => ?_; clear hK K Q' Eb
  refine Ks ?_
  obtain ⟨nSz, cSz0⟩ := hCSz.c1
  obtain ⟨nY, cY0⟩ := hCY.c1
  obtain ⟨nCt, cCt0⟩ := hCCt.c1
  refine Rs 4 fun Q' K hK => ?_
  refine M1 hE 0 fun K' Kh ρ q0 => ?_; go_simp
  refine Ln hE Kh fun _ Eb => ?_; clear Kh K' hE a q0
  refine M1 Eb 10 fun K' Kh ρ q10 => ?_; go_simp; (try go_bits)
  refine Ln Eb Kh fun _ Ea => ?_; clear Kh K' Eb q10
  refine M1 Ea 2 fun K' Kh ρ q2 => ?_; go_simp
  refine Ln Ea Kh fun _ Eb => ?_; clear Kh K' Ea q2
  refine M2 Eb 11 12 fun K' Kh ρ q11 q12 => ?_; go_simp; (try go_bits)
  refine Ln Eb Kh fun _ Ea => ?_; clear Kh K' Eb q11 q12
  refine Ld [0, 1, 2, 3, 4, 5, 13] Ea hK fun a hE => ?_; clear hK K Q' Ea
  refine Ks ?_
  refine cond_part hE (t := 13) rfl (fun h => ?_) (fun h => ?_)
  ·have hh : li.length = size := by (have h' : ((li.length : Int) = size) := (by simpa using h)); omega
   have hL : addL size count 0 li n = [li] := by unfold addL; rw [if_pos hh]
   rw [hL] at hp ⊢
   clear hL hh h
   refine Ks ?_
   refine Rs 4 fun Q' K hK => ?_
   refine M1 hE 3 fun K' Kh ρ q3 => ?_; go_simp
   refine Ln hE Kh fun _ Eb => ?_; clear Kh K' hE a q3
   refine M1 Eb 0 fun K' Kh ρ q0 => ?_; go_simp
   refine Ln Eb Kh fun _ Ea => ?_; clear Kh K' Eb q0
   refine Late.yield (by (first | (simp only [List.getElem?_toArray, List.getElem?_cons_succ, List.getElem?_cons_zero]; rfl) | rfl)) rfl (fun K' Kh => ?_)
   refine yield_op (R := fun e V' => ∃ x, e = .returned (.bool x) ∧ OutR J Jx XS l pre [li] M V x V') rfl ⟨_, rfl, Ea.eval 14 rfl⟩ (vs := #[.slice T li.length c]) (by simp [Ea.eval 15 rfl]) ((hY pre li M V _ h0 hV ⟨T, c, rfl, hlc, hTA⟩ hp).mono ?_) ?_
   ·(rintro e V' (⟨rfl, M', h1, h2, h3⟩ | ⟨rfl, h1⟩); (exact ⟨true, rfl, .inl ⟨rfl, M', h1, h2, h3⟩⟩); (exact ⟨false, rfl, .inr ⟨rfl, pre, li, hp, h1⟩⟩))
   rintro e V2 ⟨r, rfl, hO⟩
   refine ⟨_, rfl, ?_⟩
   refine Ln Ea Kh fun _ Eb => ?_; clear Kh K' Ea
   refine M1 Eb 16 fun K' Kh ρ q16 => ?_; go_simp
   refine Ln Eb Kh fun _ Ea => ?_; clear Kh K' Eb q16
   refine Ld [8] Ea hK fun a hE => ?_; clear hK K Q' Ea
   refine Ks ?_
   exact ret_one hE rfl rfl ⟨r, rfl, hO⟩
  ·have hh : ¬ li.length = size := by (have h' : ¬ ((li.length : Int) = size) := (by simpa using h)); omega
   have hL : addL size count 0 li n = [] := by unfold addL; rw [if_neg hh]
   rw [hL] at hp ⊢
   clear hL
   refine Ks ?_
   refine Rs 2 fun Q' K hK => ?_
   refine M1 hE 1 fun K' Kh ρ q1 => ?_; go_simp
   refine Ln hE Kh fun _ Eb => ?_; clear Kh K' hE a q1
   refine M1 Eb 17 fun K' Kh ρ q17 => ?_; go_simp
   refine Ln Eb Kh fun _ Ea => ?_; clear Kh K' Eb q17
   refine Ld [0, 2, 3, 4, 5, 9] Ea hK fun a hE => ?_; clear hK K Q' Ea
   refine Ks ?_
   refine loop_st (fun (j : Nat) a w' => w' = V ∧ Fits 37 [(4, .pointer (some ⟨Ct, 0, none⟩)), (9, .int .i64 n)] a) (fun j => j) 0 ?_ (fun j a w' hI => ?_)
   ·exact ⟨rfl, hE.keep [4, 9]⟩
   clear hE
   obtain ⟨rfl, hE⟩ := hI
   refine Ks ?_
   refine Rs 3 fun Q' K hK => ?_
   refine M1 hE 9 fun K' Kh ρ q9 => ?_; go_simp
   refine Ln hE Kh fun _ Eb => ?_; clear Kh K' hE a q9
   refine M1 Eb 4 fun K' Kh ρ q4 => ?_; go_simp
   refine Ln Eb Kh fun _ Ea => ?_; clear Kh K' Eb q4
   refine M2 Ea 18 19 fun K' Kh ρ q18 q19 => ?_; go_simp; (try go_bits)
   refine Ln Ea Kh fun _ Eb => ?_; clear Kh K' Ea q18 q19
   refine Ld [4, 9, 20] Eb hK fun a hE => ?_; clear hK K Q' Eb
   refine Ks ?_
   replace hE := hE.turn 20 (v' := .bool false) rfl (by first | (congr 1; done) | (simp; omega))
   refine cond_no hE (t := 20) rfl ?_
   refine Ks ?_
   refine Rs 1 fun Q' K hK => ?_
   refine Go.Proofs.YtbimkcjdodgojaaGreat.M0 fun K' Kh ρ => ?_; go_simp;
   refine Ln hE Kh fun _ Eb => ?_; clear Kh K' hE a
   refine Ld [8] Eb hK fun a hE => ?_; clear hK K Q' Eb
   refine Ks ?_
   exact ret_one hE rfl rfl ⟨true, rfl, .inl ⟨rfl, M, by simpa using h0, .refl _ _, .refl _ _ _⟩⟩
 | succ f ih =>
  intro n T c li M V pre hf hln hl9 hlc hn9 h0 hp hV hD hT hlV
  have hCSz := hD.cs.cells
  have hCY := hD.cy.cells
  have hTA := hT.arr
  refine enterE Tryz.func100 rfl Tryz.ntmps100 (by simp) (fun a hE => ?_); simp only [envOf, Nat.zero_add, Nat.reduceAdd] at hE
  refine Ks ?_
  refine Rs 1 fun Q' K hK => ?_
  refine Go.Proofs.YtbimkcjdodgojaaGreat.M0 fun K' Kh ρ => ?_; go_simp;
  refine Ln hE Kh fun _ Eb => ?_; clear Kh K' hE a
  refine Ld [0, 1, 2, 3, 4, 5] Eb hK fun a hE => ?_; clear hK K Q' Eb
  refine Ks ?_
  obtain ⟨nSz, cSz0⟩ := hCSz.c1
  obtain ⟨nY, cY0⟩ := hCY.c1
  refine Rs 4 fun Q' K hK => ?_
  refine M1 hE 0 fun K' Kh ρ q0 => ?_; go_simp
  refine Ln hE Kh fun _ Eb => ?_; clear Kh K' hE a q0
  refine M1 Eb 10 fun K' Kh ρ q10 => ?_; go_simp; (try go_bits)
  refine Ln Eb Kh fun _ Ea => ?_; clear Kh K' Eb q10
  refine M1 Ea 2 fun K' Kh ρ q2 => ?_; go_simp
  refine Ln Ea Kh fun _ Eb => ?_; clear Kh K' Ea q2
  refine M2 Eb 11 12 fun K' Kh ρ q11 q12 => ?_; go_simp; (try go_bits)
  refine Ln Eb Kh fun _ Ea => ?_; clear Kh K' Eb q11 q12
  refine Ld [0, 1, 2, 3, 4, 5, 13] Ea hK fun a hE => ?_; clear hK K Q' Ea
  refine Ks ?_
  refine cond_part hE (t := 13) rfl (fun h => ?_) (fun h => ?_)
  ·have hh : li.length = size := by (have h' : ((li.length : Int) = size) := (by simpa using h)); omega
   have hL : addL size count (f + 1) li n = [li] := by unfold addL; rw [if_pos hh]
   rw [hL] at hp ⊢
   clear hL hh h
   refine Ks ?_
   refine Rs 4 fun Q' K hK => ?_
   refine M1 hE 3 fun K' Kh ρ q3 => ?_; go_simp
   refine Ln hE Kh fun _ Eb => ?_; clear Kh K' hE a q3
   refine M1 Eb 0 fun K' Kh ρ q0 => ?_; go_simp
   refine Ln Eb Kh fun _ Ea => ?_; clear Kh K' Eb q0
   refine Late.yield (by (first | (simp only [List.getElem?_toArray, List.getElem?_cons_succ, List.getElem?_cons_zero]; rfl) | rfl)) rfl (fun K' Kh => ?_)
   refine yield_op (R := fun e V' => ∃ x, e = .returned (.bool x) ∧ OutR J Jx XS l pre [li] M V x V') rfl ⟨_, rfl, Ea.eval 14 rfl⟩ (vs := #[.slice T li.length c]) (by simp [Ea.eval 15 rfl]) ((hY pre li M V _ h0 hV ⟨T, c, rfl, hlc, hTA⟩ hp).mono ?_) ?_
   ·(rintro e V' (⟨rfl, M', h1, h2, h3⟩ | ⟨rfl, h1⟩); (exact ⟨true, rfl, .inl ⟨rfl, M', h1, h2, h3⟩⟩); (exact ⟨false, rfl, .inr ⟨rfl, pre, li, hp, h1⟩⟩))
   rintro e V2 ⟨r, rfl, hO⟩
   refine ⟨_, rfl, ?_⟩
   refine Ln Ea Kh fun _ Eb => ?_; clear Kh K' Ea
   refine M1 Eb 16 fun K' Kh ρ q16 => ?_; go_simp
   refine Ln Eb Kh fun _ Ea => ?_; clear Kh K' Eb q16
   refine Ld [8] Ea hK fun a hE => ?_; clear hK K Q' Ea
   refine Ks ?_
   exact ret_one hE rfl rfl ⟨r, rfl, hO⟩
  ·have hh : ¬ li.length = size := by (have h' : ¬ ((li.length : Int) = size) := (by simpa using h)); omega
   have hL : addL size count (f + 1) li n = partL size count f li n (count - n) := by unfold addL partL; rw [if_neg hh]
   rw [hL] at hp ⊢
   clear hL hh h
   clear nSz cSz0 nY cY0
   refine Ks ?_
   refine Rs 2 fun Q' K hK => ?_
   refine M1 hE 1 fun K' Kh ρ q1 => ?_; go_simp
   refine Ln hE Kh fun _ Eb => ?_; clear Kh K' hE a q1
   refine M1 Eb 17 fun K' Kh ρ q17 => ?_; go_simp
   refine Ln Eb Kh fun _ Ea => ?_; clear Kh K' Eb q17
   refine Ld [0, 2, 3, 4, 5, 9] Ea hK fun a hE => ?_; clear hK K Q' Ea
   refine Ks ?_
   refine loop_st (fun (j : Nat) a w' => j ≤ count - n ∧ Fits 37 [(0, .slice T li.length c), (2, .pointer (some ⟨Sz, 0, none⟩)), (3, .pointer (some ⟨Y, 0, none⟩)), (4, .pointer (some ⟨Ct, 0, none⟩)), (5, .pointer (some ⟨Ad, 0, none⟩)), (9, .int .i64 ((n + j : Nat) : Int))] a ∧
    ∃ M', J (pre ++ partL size count f li n j) M' w' ∧ Grow M M' V ∧ KeepM M l V w') (fun j => count - n - j) 0 ?_ (fun j a w' hI => ?_)
   ·exact ⟨Nat.zero_le _, by simpa using hE, M, by simpa [partL] using h0, .refl _ _, .refl _ _ _⟩
   clear hE
   obtain ⟨hj, hE, M', hJr, hGr, hKr⟩ := hI
   obtain ⟨wr, hwr⟩ : ∃ x, x = w' := ⟨_, rfl⟩
   subst hwr
   obtain ⟨k, hk⟩ : ∃ k, n + j = k := ⟨_, rfl⟩
   rw [hk] at hE
   have hDr := hD.keep hKr hGr
   have hTr := hT.keep hKr hGr
   have hVr := hKr.size
   have hCCt := hDr.cc.cells
   obtain ⟨nCt, cCt0⟩ := hCCt.c1
   refine Ks ?_
   refine Rs 3 fun Q' K hK => ?_
   refine M1 hE 9 fun K' Kh ρ q9 => ?_; go_simp
   refine Ln hE Kh fun _ Eb => ?_; clear Kh K' hE a q9
   refine M1 Eb 4 fun K' Kh ρ q4 => ?_; go_simp
   refine Ln Eb Kh fun _ Ea => ?_; clear Kh K' Eb q4
   refine M2 Ea 18 19 fun K' Kh ρ q18 q19 => ?_; go_simp; (try go_bits)
   refine Ln Ea Kh fun _ Eb => ?_; clear Kh K' Ea q18 q19
   refine Ld [0, 2, 3, 4, 5, 9, 20] Eb hK fun a hE => ?_; clear hK K Q' Eb
   refine Ks ?_
   refine cond_part hE (t := 20) rfl (fun h => ?_) (fun h => ?_)
   ·have hkc : k < count := by have := of_decide_eq_true h; omega
    clear h
    have hps := partL_succ size count f li n j
    rw [hk] at hps
    have HPS := hid hps
    have HPX := hid (partL_prefix size count f li n (show j + 1 ≤ count - n by omega))
    clear hps nCt cCt0
    have hTA := hTr.arr
    have hCAd := hDr.ca.cells
    have hMl := hJM _ _ _ hJr
    obtain ⟨nAd, cAd0⟩ := hCAd.c1
    refine Ks ?_
    refine Rd [12, 13] (fun wt => Below wr.heap.size wr wt) (fun w1 w2 => Below w1.heap.size w1 w2) [(0, some 23), (1, some 24), (2, some 25), (3, some 26), (4, some 27), (5, some 28), (6, some 29), (7, some 30), (8, some 31), (9, some 32), (10, some 33), (11, some 34)] [23, 24, 25, 26, 27, 28, 29, 30, 31, 32, 33, 34] #[true, true, true, true, true, true, true, true, true, true, true, true, false, false] [0, 2, 3, 4, 5, 9, 36] hE ((Below.refl _ _).drew) fun Q' K hK => ?_
    refine SeqOps.val ?_ (Sp fun ax wx hS hT' hd K' Kh => ?_) ?_; rotate_left 1
    ·have r5 := hS.at 5 (by decide) (hE.at 5 rfl); obtain ⟨_, _, _, _, _, _⟩ := bT hT'
     refine o1 r5 fun ρ q5 => ?_; go_simp;
     exact Jo Kh hT'
    refine SeqOps.val ?_ (Sp fun ax wx hS hT' hd K' Kh => ?_) ?_; rotate_left 1
    ·have r0 := hS.at 0 (by decide) (hE.at 0 rfl); obtain ⟨_, _, _, _, _, _⟩ := bT hT'
     refine o1 r0 fun ρ q0 => ?_; go_simp;
     exact Jo Kh hT'
    refine SeqOps.val ?_ (Sp fun ax wx hS hT' hd K' Kh => ?_) ?_; rotate_left 1
    ·have r0 := hS.at 0 (by decide) (hE.at 0 rfl); obtain ⟨_, _, _, _, _, _⟩ := bT hT'
     refine o1 r0 fun ρ q0 => ?_; go_simp;
     exact Jo Kh hT'
    refine SeqOps.val ?_ (Sp fun ax wx hS hT' hd K' Kh => ?_) ?_; rotate_left 1
    ·have r25 := Tv hd 0 2 25; obtain ⟨_, _, _, _, _, _⟩ := bT hT'
     refine o1 r25 fun ρ q25 => ?_; go_simp; (try go_bits);
     exact Jo Kh hT'
    refine SeqOps.val ?_ (Sp fun ax wx hS hT' hd K' Kh => ?_) ?_; rotate_left 1
    ·have r0 := hS.at 0 (by decide) (hE.at 0 rfl); obtain ⟨_, _, _, _, _, _⟩ := bT hT'
     refine o1 r0 fun ρ q0 => ?_; go_simp;
     exact Jo Kh hT'
    refine SeqOps.val ?_ (Sp fun ax wx hS hT' hd K' Kh => ?_) ?_; rotate_left 1
    ·have r27 := Tv hd 0 4 27; obtain ⟨_, _, _, _, _, _⟩ := bT hT'
     refine o1 r27 fun ρ q27 => ?_; go_simp; (try go_bits);
     exact Jo Kh hT'
    refine SeqOps.val ?_ (Sp fun ax wx hS hT' hd K' Kh => ?_) ?_; rotate_left 1
    ·have r24 := Tv hd 4 1 24; have r26 := Tv hd 2 3 26; have r28 := Tv hd 0 5 28; obtain ⟨_, _, _, _, _, _⟩ := bT hT'
     refine o3 r24 r26 r28 fun ρ q24 q26 q28 => ?_; go_simp; (try go_bits);
     exact Jo Kh hT'
    refine SeqOps.val ?_ (Sp fun ax wx hS hT' hd K' Kh => ?_) ?_; rotate_left 1
    ·have r9 := hS.at 9 (by decide) (hE.at 9 rfl); obtain ⟨_, _, _, _, _, _⟩ := bT hT'
     refine o1 r9 fun ρ q9 => ?_; go_simp;
     exact Jo Kh hT'
    refine SeqOps.say (fun v wt => ∃ g, v = .slice (some ⟨g, 0, none⟩) 1 1 ∧ g < wt.heap.size ∧ wt.cell? ⟨g, 0, none⟩ = some (.int .i64 k)) (fun v x y h ⟨g, h1, h2, h3⟩ => ⟨g, h1, Nat.lt_of_lt_of_le h2 h.size, (h.cell (p := ⟨g, 0, none⟩) h2).trans h3⟩) (Sp fun ax wx hS hT' hd K' Kh => ?_) ?_
    ·have r30 := Tv hd 0 7 30; obtain ⟨_, _, _, _, _, _⟩ := bT hT'
     refine o1 r30 fun ρ q30 => ?_; go_simp;
     exact Kh.out _ _ _ rfl ⟨_, rfl, by simp, by simp [go_sem]⟩ (hT'.alloc hT'.size _) ((Below.refl _ _).alloc (Nat.le_refl _) _)
    refine SeqOps.say (fun v wt => ∃ g c', v = .slice (some ⟨g, 0, none⟩) (li.length + 1) c' ∧ li.length + 1 ≤ c' ∧ wr.heap.size ≤ g ∧ g < wt.heap.size ∧ ∀ j u, (nats (li ++ [k]))[j]? = some u → wt.cell? ⟨g, j, none⟩ = some u) (fun v x y h ⟨g, c', h1, h2, h3, h4, h5⟩ => ⟨g, c', h1, h2, h3, Nat.lt_of_lt_of_le h4 h.size, fun j u hu => (h.cell (p := ⟨g, j, none⟩) h4).trans (h5 j u hu)⟩) (Sp fun ax wx hS hT' hd K' Kh => ?_) ?_
    ·have r29 := Tv hd 2 6 29; obtain ⟨v31, r31, h31⟩ := Tg hd 0 8 31; obtain ⟨g8, rfl, hg1, hg2⟩ := h31; obtain ⟨_, _, _, _, _, _⟩ := bT hT'
     refine wp_appFull (.tmp 29) (.tmp 31) 48 rfl 3 (.int .i64 0) 1 8 Tryz.underlying48 (by kernel_rfl) rfl (by decide) T li.length (nats li) (eval_of r29) ((hTA.below hT').more hT'.size) (by rw [nats_length, Nat.mul_one]) ⟨g8, 0, none⟩ 1 1 [.int .i64 k] (eval_of r31) ?_ (by decide) rfl ?_ (by simp only [maxLen]; omega) (by omega) (fun g c' w' q1 q2 q3 q4 q5 _ => ?_)
     ·(intro j u hu; (match j, hu with | 0, hu => (cases hu; exact hg2) | j + 1, hu => simp at hu))
     ·(intro u hu; simp at hu; subst hu; rfl)
     exact Kh.out _ _ _ rfl ⟨g, c', rfl, q4, Nat.le_trans hT'.size q1, q2, by rw [show nats (li ++ [k]) = nats li ++ [.int .i64 k] by simp [nats, natV]]; exact q3⟩ (hT'.trans (q5.mono hT'.size)) q5
    refine SeqOps.val ?_ (Sp fun ax wx hS hT' hd K' Kh => ?_) ?_; rotate_left 1
    ·have r9 := hS.at 9 (by decide) (hE.at 9 rfl); obtain ⟨_, _, _, _, _, _⟩ := bT hT'
     refine o1 r9 fun ρ q9 => ?_; go_simp;
     exact Jo Kh hT'
    refine SeqOps.val ?_ (Sp fun ax wx hS hT' hd K' Kh => ?_) ?_; rotate_left 1
    ·have r33 := Tv hd 0 10 33; obtain ⟨_, _, _, _, _, _⟩ := bT hT'
     refine o1 r33 fun ρ q33 => ?_; go_simp; (try go_bits); (try simp (disch := omega) only [IntWalk.i64_in]);
     exact Jo Kh hT'
    refine SeqOps.nil ?_
    intro w4 hBl; (repeat refine Ek ?_); (refine fun v h => ?_; obtain ⟨g8, rfl, hg1, hg2⟩ := h); (refine fun v h => ?_; obtain ⟨g9, c9, rfl, hh1, hh2, hh3, hh4⟩ := h); (repeat refine Ek ?_)
    refine fun ax hEx => ?_
    simp only [lk, pick, Nat.reduceEqDiff, ↓reduceIte] at hEx
    refine M3 hEx 23 32 34 fun K' Kh ρ q23 q32 q34 => ?_; go_simp; (try go_bits); (try clear q23 q32 q34)
    have hD4 := hDr.below hBl
    have hT4 : ArrS M' l w4 (some ⟨g9, 0, none⟩) (nats (li ++ [k])) := fun _ => ⟨g9, 0, rfl, hh3, fun hm => by (have := hMl.1 _ hm); omega, fun e => by (have := hlV; have := hVr); omega, fun j u hu => by rw [Nat.zero_add]; exact hh4 j u hu⟩
    have hJ4 := hJ _ _ _ _ hJr (hBl.mono (by omega)) (fun q hq => hBl.block q (hMl.1 q hq))
    have hs4 := hBl.size
    have hpre4 : pre ++ partL size count f li n j ++ addL size count f (li ++ [k]) (k + 1) <+: XS := by (rw [List.append_assoc, ← HPS.out]; exact ((List.prefix_append_right_inj pre).2 HPX.out).trans hp)
    have ihc := ih (k + 1) (some ⟨g9, 0, none⟩) c9 (li ++ [k]) M' w4 _ (by omega) (by simp; omega) (by simp; omega) (by simp; omega) (by omega) hJ4 hpre4 (by omega) hD4 hT4 (by omega)
    simp only [List.length_append, List.length_cons, List.length_nil, Nat.zero_add, Int.natCast_add, Int.natCast_one] at ihc
    go_at_call 100; refine ihc.mono ?_; rintro e w5 ⟨x, rfl, hO⟩
    (try clear r23 r32 r34)
    refine Ln hEx Kh fun _ Eb => ?_; clear Kh K' hEx
    refine M1 Eb 35 fun K' Kh ρ q35 => ?_; go_simp; (try go_bits); (try simp (disch := omega) only [IntWalk.i64_in])
    refine Ln Eb Kh fun _ Ea => ?_; clear Kh K' Eb q35
    refine Ld [0, 2, 3, 4, 5, 9, 36] Ea hK fun a hE => ?_; clear hK K Q' Ea
    refine Ks ?_
    refine cond_part hE (t := 36) rfl (fun h => ?_) (fun h => ?_)
    ·have hx : x = false := by simpa using h
     refine Ks ?_
     refine Rs 1 fun Q' K hK => ?_
     refine Go.Proofs.YtbimkcjdodgojaaGreat.M0 fun K' Kh ρ => ?_; go_simp;
     refine Ln hE Kh fun _ Eb => ?_; clear Kh K' hE a
     refine Ld [8] Eb hK fun a hE => ?_; clear hK K Q' Eb
     refine Ks ?_
     exact ret_one hE rfl rfl ⟨false, rfl, hO.false hx⟩
    ·have hx : x = true := by simpa using h
     obtain ⟨M5, hJ5, hG5, hK5⟩ := hO.true hx
     have hk4 := hKr.below hBl
     refine Ks ?_
     refine Rs 3 fun Q' K hK => ?_
     refine M1 hE 9 fun K' Kh ρ q9 => ?_; go_simp
     refine Ln hE Kh fun _ Eb => ?_; clear Kh K' hE a q9
     refine M1 Eb 21 fun K' Kh ρ q21 => ?_; go_simp; (try go_bits); (try simp (disch := omega) only [IntWalk.i64_in])
     refine Ln Eb Kh fun _ Ea => ?_; clear Kh K' Eb q21
     refine M1 Ea 22 fun K' Kh ρ q22 => ?_; go_simp
     refine Ln Ea Kh fun _ Eb => ?_; clear Kh K' Ea q22
     refine Ld [0, 2, 3, 4, 5, 9] Eb hK fun a hE => ?_; clear hK K Q' Eb
     refine Ks ?_
     refine ⟨j + 1, ⟨by omega, ?_, M5, ?_, hGr.trans hG5 hk4.size, hk4.trans hGr hK5⟩, by omega⟩
     ·rw [show n + (j + 1) = k + 1 by omega]; simpa using hE
     ·rw [HPS.out, ← List.append_assoc]; exact hJ5
   ·have hkc : j = count - n := by have := of_decide_eq_false h; omega
    subst hkc
    refine Ks ?_
    refine Rs 1 fun Q' K hK => ?_
    refine Go.Proofs.YtbimkcjdodgojaaGreat.M0 fun K' Kh ρ => ?_; go_simp;
    refine Ln hE Kh fun _ Eb => ?_; clear Kh K' hE a
    refine Ld [8] Eb hK fun a hE => ?_; clear hK K Q' Eb
    refine Ks ?_
    exact ret_one hE rfl rfl ⟨true, rfl, .inl ⟨rfl, M', hJr, hGr, hKr⟩⟩
end
set_option maxRecDepth 100000 in
theorem lists_any (size count : Int) (w : World) : Calls Tryz.prog 80 #[.int .i64 size, .int .i64 count] w fun e w' => ∃ Sz Ct, e = .returned (.func (.func 99) #[] #[.pointer (some ⟨Sz, 0, none⟩), .pointer (some ⟨Ct, 0, none⟩)]) ∧ (w.heap.size ≤ Sz ∧ w.heap.size ≤ Ct) ∧ Cells w' Sz [.int .i64 size] ∧ Cells w' Ct [.int .i64 count] ∧ Below w.heap.size w w' := by
 refine enterE Tryz.func80 rfl Tryz.ntmps80 (by simp) (fun a hE => ?_); simp only [envOf, Nat.zero_add, Nat.reduceAdd] at hE
 refine Ks ?_
 refine Rs 3 fun Q' K hK => ?_
 refine M1 hE 0 fun K' Kh ρ q0 => ?_; go_simp
 refine Ln hE Kh fun _ Eb => ?_; clear Kh K' hE a q0
 refine M1 Eb 1 fun K' Kh ρ q1 => ?_; go_simp
 refine Ln Eb Kh fun _ Ea => ?_; clear Kh K' Eb q1
 refine Go.Proofs.YtbimkcjdodgojaaGreat.M0 fun K' Kh ρ => ?_; go_simp;
 refine Ln Ea Kh fun _ Eb => ?_; clear Kh K' Ea
 refine Ld [2, 3] Eb hK fun a hE => ?_; clear hK K Q' Eb
 obtain ⟨Sz, hSz⟩ : ∃ B, B = w.heap.size := ⟨_, rfl⟩
 obtain ⟨Ct, hCt⟩ : ∃ B, B = w.heap.size + 1 := ⟨_, rfl⟩
 rw [← hCt, ← hSz] at hE
 refine world_cut (fun wt => Below w.heap.size w wt ∧ Cells wt Sz [.int .i64 size] ∧ Ct < wt.heap.size ∧ Row wt Ct [.int .i64 count]) (by rw [hSz, hCt]; exact box_row _ _ _ _ _) (fun w1 hC => ?_)
 obtain ⟨hb1, hCS, hlC, hRC⟩ := hC
 have hn1 : w.heap.size ≤ Sz ∧ w.heap.size ≤ Ct := by omega
 clear hSz hCt
 refine Ks ?_
 refine Rs 2 fun Q' K hK => ?_
 refine M2 hE 2 3 fun K' Kh ρ q2 q3 => ?_; go_simp
 refine Ln hE Kh fun _ Eb => ?_; clear Kh K' hE a q2 q3
 refine M1 Eb 5 fun K' Kh ρ q5 => ?_; go_simp
 refine Ln Eb Kh fun _ Ea => ?_; clear Kh K' Eb q5
 refine Ld [4] Ea hK fun a hE => ?_; clear hK K Q' Ea
 refine Ks ?_
 exact ret_one hE rfl rfl ⟨Sz, Ct, rfl, hn1, hCS, row_cells hRC hlC, hb1⟩
set_option maxRecDepth 100000 in
set_option maxHeartbeats 1000000 in
theorem lists_seq {size count : Nat} {Sz Ct : Nat} {M0 : Nat → Prop} {w0 : World} (hc9 : count ≤ 9) (hS : Cells w0 Sz [.int .i64 size]) (hC : Cells w0 Ct [.int .i64 count]) (hSM : ¬ M0 Sz) (hCM : ¬ M0 Ct) : SeqR Tryz.prog 99 #[.pointer (some ⟨Sz, 0, none⟩), .pointer (some ⟨Ct, 0, none⟩)] encL M0 (listsL size count) w0 := by
 intro l J Jx W hb hl1 hl2 hJ hJx hJM hY hJ0
 have hM := hJM _ _ _ hJ0
 have hs0 := hb.size
 show Calls Tryz.prog 99 #[.func (.yield l) #[] #[], .pointer (some ⟨Sz, 0, none⟩), .pointer (some ⟨Ct, 0, none⟩)] W _
 refine enterE Tryz.func99 rfl Tryz.ntmps99 (by simp) (fun a hE => ?_); simp only [envOf, Nat.zero_add, Nat.reduceAdd] at hE
 refine Ks ?_
 refine Rs 1 fun Q' K hK => ?_
 refine M1 hE 0 fun K' Kh ρ q0 => ?_; go_simp
 refine Ln hE Kh fun _ Eb => ?_; clear Kh K' hE a q0
 refine Ld [1, 2, 3] Eb hK fun a hE => ?_; clear hK K Q' Eb
 obtain ⟨Y, hYe⟩ : ∃ B, B = W.heap.size := ⟨_, rfl⟩; have hnY : W.heap.size ≤ Y := Nat.le_of_eq hYe.symm; rw [← hYe] at hE; refine world_cut (fun wt => Below W.heap.size W wt ∧ Y < wt.heap.size ∧ Row wt Y [.func (.yield l) #[] #[]]) ⟨(Below.refl _ _).alloc (Nat.le_refl _) _, by rw [hYe]; simp, by rw [hYe]; exact row_new _ _ _⟩ (fun w1 hCut => ?_); obtain ⟨hbw1, hlY, hRY⟩ := hCut; clear hYe
 have hYe : Y < w1.heap.size := hlY
 refine Ks ?_
 refine Rs 1 fun Q' K hK => ?_
 refine Go.Proofs.YtbimkcjdodgojaaGreat.M0 fun K' Kh ρ => ?_; go_simp;
 refine Ln hE Kh fun _ Eb => ?_; clear Kh K' hE a
 refine Ld [1, 2, 3, 4] Eb hK fun a hE => ?_; clear hK K Q' Eb
 obtain ⟨Ad, hAde⟩ : ∃ B, B = w1.heap.size := ⟨_, rfl⟩; have hnAd : w1.heap.size ≤ Ad := Nat.le_of_eq hAde.symm; rw [← hAde] at hE; refine world_cut (fun wt => Below w1.heap.size w1 wt ∧ Ad < wt.heap.size ∧ Row wt Ad [.nilFunc]) ⟨(Below.refl _ _).alloc (Nat.le_refl _) _, by rw [hAde]; simp, by rw [hAde]; exact row_new _ _ _⟩ (fun w2 hCut => ?_); obtain ⟨hbw2, hlAd, hRAd⟩ := hCut; clear hAde
 have hzw := (hRAd 0 _ rfl).2
 have hYZ : Y < Ad := by omega
 refine Ks ?_
 refine Rs 2 fun Q' K hK => ?_
 refine Lp fun K' Kh => ?_
 have r1 := hE.at 1 rfl; have r3 := hE.at 3 rfl; have r2 := hE.at 2 rfl; have r4 := hE.at 4 rfl
 refine op_run (fun ρ hρ qc qf qg => ?_); have q1 := rho hρ r1; have q3 := rho hρ r3; have q2 := rho hρ r2; have q4 := rho hρ r4; clear hρ; go_simp; (try clear r1 q1 r3 q3 r2 q2 r4 q4)
 (try clear r1 r3 r2 r4)
 refine Ln hE Kh fun _ Eb => ?_; clear Kh K' hE a
 refine M2 Eb 4 5 fun K' Kh ρ q4 q5 => ?_; go_simp; (try clear q4 q5)
 refine late_skip Eb Kh (fun _ Ea => ?_); clear Kh K'; clear Eb
 refine Ld [1, 2, 3, 4] Ea hK fun a hE => ?_; clear hK K Q' Ea
 have hz1 := hbw1.size
 have hz2 := hbw2.size
 refine world_cut (fun wt => Below W.heap.size W wt ∧ Cells wt Y [.func (.yield l) #[] #[]] ∧ Cells wt Ad [.func (.func 100) #[] #[.pointer (some ⟨Sz, 0, none⟩), .pointer (some ⟨Y, 0, none⟩), .pointer (some ⟨Ct, 0, none⟩), .pointer (some ⟨Ad, 0, none⟩)]]) ⟨(hbw1.trans (hbw2.mono hz1)).setCell (by simp only; omega) _, row_cells ((hRY.below hbw2 hlY).other (by omega)) (by simp; omega), row_cells (hRAd.set (by simp)) (by simp; omega)⟩ (fun w3 hC' => ?_)
 obtain ⟨hB3, hCY, hCAd⟩ := hC'
 clear hzw hRY hRAd hbw1 hbw2
 obtain ⟨nAd, cAd0⟩ := hCAd.c1
 have hB03 := hb.trans (hB3.mono hs0)
 have hCS := hS.below hB03
 have hCC := hC.below hB03
 have hD : DatL Sz Y Ct Ad l size count M0 w3 := ⟨⟨hCS.1, hSM, by have := hS.1; omega, hCS.2⟩, ⟨hCY.1, fun h => by have := hM.1 _ h; omega, by omega, hCY.2⟩, ⟨hCC.1, hCM, by have := hC.1; omega, hCC.2⟩, ⟨hCAd.1, fun h => by have := hM.1 _ h; omega, by omega, hCAd.2⟩⟩
 have hJ3 := hJ _ _ _ _ hJ0 hB3 (fun k hk => hB3.block k (hM.1 k hk))
 have hs3 := hB3.size
 have hc := add_any J Jx (listsL size count) W hc9 hY hJ hJM count 0 none 0 [] M0 w3 [] (by omega) (Nat.le_refl _) (by simp) (Nat.le_refl _) (by omega) hJ3 (by simp [listsL]) hs3 hD (fun h => absurd rfl h) (by omega)
 refine Ks ?_
 refine Rs 2 fun Q' K hK => ?_
 refine M1 hE 4 fun K' Kh ρ q4 => ?_; go_simp
 refine Ln hE Kh fun _ Eb => ?_; clear Kh K' hE a q4
 refine M1 Eb 6 fun K' Kh ρ q6 => ?_; go_simp; (try go_bits); (try clear q6)
 go_at_call 100; refine hc.mono ?_; rintro e w5 ⟨x, rfl, hO⟩
 (try clear r6)
 refine Ln Eb Kh fun _ Ea => ?_; clear Kh K' Eb
 refine Ld [1] Ea hK fun a hE => ?_; clear hK K Q' Ea
 refine Ks ?_
 refine bodyPost_end (results_none rfl _ _ _) hE.1 ⟨⟨_, rfl⟩, ?_⟩
 rcases hO with ⟨_, M', h1, _⟩ | ⟨_, h1⟩
 ·exact .inl ⟨M', by simpa [listsL] using h1⟩
 ·exact .inr h1
end Go.Proofs.YtbimkcjdodgojaaGreat
