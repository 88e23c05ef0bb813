/- Name: why two lines cannot be of one person. -/
import Derived.Test.YtbimkcjdodgojaaGreatKBNk

namespace Go.Proofs.YtbimkcjdodgojaaGreat
set_option linter.unusedSimpArgs false
set_option linter.unusedVariables false
open Go.RowKit
attribute [local go_sem high] cell_set_wr
attribute [local go_sem low] cell_wr frozen_wr
attribute [local go_sem] wr_set wr_drew wr_drewN wr_alloc wr_new Rho.c Rho.n Rho.g
def maxL (x : Int) (l : List Int) : Int := l.foldl (fun p q => max p q) x
def minL (x : Int) (l : List Int) : Int := l.foldl (fun p q => min p q) x
theorem maxL_snoc (x : Int) (l : List Int) (k : Nat) (h : k < l.length) : maxL x (l.take (k + 1)) = max (maxL x (l.take k)) l[k] := by
 unfold maxL; rw [List.take_succ_eq_append_getElem h, List.foldl_append]; rfl
theorem minL_snoc (x : Int) (l : List Int) (k : Nat) (h : k < l.length) : minL x (l.take (k + 1)) = min (minL x (l.take k)) l[k] := by
 unfold minL; rw [List.take_succ_eq_append_getElem h, List.foldl_append]; rfl
set_option maxRecDepth 100000 in
theorem greatest_any (x : Int) (A : Option Addr) (cap : Nat) (l : List Int) (w : World) (hA : Arr w w.heap.size A (ints l)) (hl : l.length ≤ 9223372036854775807) : Calls Tryz.prog 57 #[.int .i64 x, .slice A l.length cap] w fun e w' => e = .returned (.int .i64 (maxL x l)) ∧ w = w' := by
 refine enterE Tryz.func57 rfl Tryz.ntmps57 (by simp) (fun a hE => ?_); simp only [envOf, Nat.zero_add, Nat.reduceAdd] at hE
 refine Ks ?_
 refine Rs 1 fun Q' K hK => ?_
 refine M0 fun K' J ρ => ?_; go_simp;
 refine Ln hE J fun _ Eb => ?_; clear J K' hE a
 refine Ld [0, 1] Eb hK fun a hE => ?_; clear hK K Q' Eb
 refine Ks ?_
 refine Rs 3 fun Q' K hK => ?_
 refine M1 hE 1 fun K' J ρ q1 => ?_; go_simp
 refine Ln hE J fun _ Eb => ?_; clear J K' hE a q1
 refine M1 Eb 7 fun K' J ρ q7 => ?_; go_simp; (try go_bits)
 refine Ln Eb J fun _ Ea => ?_; clear J K' Eb q7
 refine M0 fun K' J ρ => ?_; go_simp;
 refine Ln Ea J fun _ Eb => ?_; clear J K' Ea
 refine Ld [0, 7, 8, 9] Eb hK fun a hE => ?_; clear hK K Q' Eb
 refine Ks ?_
 refine loop_st (fun (k : Nat) a w' => k ≤ l.length ∧ Fits 18 [(0, .int .i64 (maxL x (l.take k))), (7, .slice A l.length cap), (8, .int .i64 l.length), (9, .int .i64 k)] a ∧ w = w') (fun k => l.length - k) 0 ?_ (fun k a w' hI => ?_)
 ·exact ⟨Nat.zero_le _, by simpa [maxL] using hE, rfl⟩
 clear hE
 obtain ⟨hk, hE, rfl⟩ := hI
 refine Ks ?_
 refine Rs 1 fun Q' K hK => ?_
 refine M2 hE 9 8 fun K' J ρ q9 q8 => ?_; go_simp; (try go_bits)
 refine Ln hE J fun _ Eb => ?_; clear J K' hE a q9 q8
 refine Ld [0, 7, 8, 9, 10] Eb hK fun a hE => ?_; clear hK K Q' Eb
 refine Ks ?_
 refine cond_part hE (t := 10) rfl (fun h => ?_) (fun h => ?_)
 ·have hlt : k < l.length := of_decide_eq_true h
  clear h
  have hltI : (k : Int) < l.length := by omega
  obtain ⟨b, o, rfl, hb, hc⟩ := hA.int hlt
  have hsn := maxL_snoc x l k hlt
  have HS := hid hsn
  clear hsn
  obtain ⟨p, hp⟩ : ∃ p, maxL x (l.take k) = p := ⟨_, rfl⟩
  obtain ⟨q, hq⟩ : ∃ q, l[k] = q := ⟨_, rfl⟩
  rw [hp] at hE
  rw [hq] at hc
  have HP := hid hp
  have HQ := hid hq
  clear hp hq
  refine Ks ?_
  refine Rs 3 fun Q' K hK => ?_
  refine M2 hE 7 9 fun K' J ρ q7 q9 => ?_; go_simp; (try go_bits)
  refine Ln hE J fun _ Eb => ?_; clear J K' hE a q7 q9
  refine M1 Eb 11 fun K' J ρ q11 => ?_; go_simp
  refine Ln Eb J fun _ Ea => ?_; clear J K' Eb q11
  refine M1 Ea 12 fun K' J ρ q12 => ?_; go_simp
  refine Ln Ea J fun _ Eb => ?_; clear J K' Ea q12
  refine Ld [0, 6, 7, 8, 9] Eb hK fun a hE => ?_; clear hK K Q' Eb
  refine Ks ?_
  refine Rs 4 fun Q' K hK => ?_
  refine M1 hE 0 fun K' J ρ q0 => ?_; go_simp
  refine Ln hE J fun _ Eb => ?_; clear J K' hE a q0
  refine M1 Eb 6 fun K' J ρ q6 => ?_; go_simp
  refine Ln Eb J fun _ Ea => ?_; clear J K' Eb q6
  refine M2 Ea 13 14 fun K' J ρ q13 q14 => ?_; go_simp; (try go_bits)
  refine Ln Ea J fun _ Eb => ?_; clear J K' Ea q13 q14
  refine M1 Eb 15 fun K' J ρ q15 => ?_; go_simp
  refine Ln Eb J fun _ Ea => ?_; clear J K' Eb q15
  refine Ld [0, 7, 8, 9] Ea hK fun a hE => ?_; clear hK K Q' Ea
  refine Ks ?_
  refine Rs 2 fun Q' K hK => ?_
  refine M1 hE 9 fun K' J ρ q9 => ?_; go_simp; (try go_bits); (try simp (disch := omega) only [IntWalk.i64_in])
  refine Ln hE J fun _ Eb => ?_; clear J K' hE a q9
  refine M1 Eb 16 fun K' J ρ q16 => ?_; go_simp
  refine Ln Eb J fun _ Ea => ?_; clear J K' Eb q16
  refine Ld [0, 7, 8, 9] Ea hK fun a hE => ?_; clear hK K Q' Ea
  refine Ks ?_
  refine ⟨k + 1, ⟨hlt, ?_, rfl⟩, by omega⟩
  rw [HS.out, HP.out, HQ.out]
  simpa using hE
 ·have hkk : k = l.length := by have := of_decide_eq_false h; omega
  subst hkk
  rw [List.take_length] at hE
  clear h
  refine Ks ?_
  refine Rs 2 fun Q' K hK => ?_
  refine M1 hE 0 fun K' J ρ q0 => ?_; go_simp
  refine Ln hE J fun _ Eb => ?_; clear J K' hE a q0
  refine M1 Eb 17 fun K' J ρ q17 => ?_; go_simp
  refine Ln Eb J fun _ Ea => ?_; clear J K' Eb q17
  refine Ld [4] Ea hK fun a hE => ?_; clear hK K Q' Ea
  refine Ks ?_
  exact ret_one hE rfl rfl ⟨rfl, rfl⟩
set_option maxRecDepth 100000 in
theorem least_any (x : Int) (A : Option Addr) (cap : Nat) (l : List Int) (w : World) (hA : Arr w w.heap.size A (ints l)) (hl : l.length ≤ 9223372036854775807) : Calls Tryz.prog 56 #[.int .i64 x, .slice A l.length cap] w fun e w' => e = .returned (.int .i64 (minL x l)) ∧ w = w' := by
 refine enterE Tryz.func56 rfl Tryz.ntmps56 (by simp) (fun a hE => ?_); simp only [envOf, Nat.zero_add, Nat.reduceAdd] at hE
 refine Ks ?_
 refine Rs 1 fun Q' K hK => ?_
 refine M0 fun K' J ρ => ?_; go_simp;
 refine Ln hE J fun _ Eb => ?_; clear J K' hE a
 refine Ld [0, 1] Eb hK fun a hE => ?_; clear hK K Q' Eb
 refine Ks ?_
 refine Rs 3 fun Q' K hK => ?_
 refine M1 hE 1 fun K' J ρ q1 => ?_; go_simp
 refine Ln hE J fun _ Eb => ?_; clear J K' hE a q1
 refine M1 Eb 7 fun K' J ρ q7 => ?_; go_simp; (try go_bits)
 refine Ln Eb J fun _ Ea => ?_; clear J K' Eb q7
 refine M0 fun K' J ρ => ?_; go_simp;
 refine Ln Ea J fun _ Eb => ?_; clear J K' Ea
 refine Ld [0, 7, 8, 9] Eb hK fun a hE => ?_; clear hK K Q' Eb
 refine Ks ?_
 refine loop_st (fun (k : Nat) a w' => k ≤ l.length ∧ Fits 18 [(0, .int .i64 (minL x (l.take k))), (7, .slice A l.length cap), (8, .int .i64 l.length), (9, .int .i64 k)] a ∧ w = w') (fun k => l.length - k) 0 ?_ (fun k a w' hI => ?_)
 ·exact ⟨Nat.zero_le _, by simpa [minL] using hE, rfl⟩
 clear hE
 obtain ⟨hk, hE, rfl⟩ := hI
 refine Ks ?_
 refine Rs 1 fun Q' K hK => ?_
 refine M2 hE 9 8 fun K' J ρ q9 q8 => ?_; go_simp; (try go_bits)
 refine Ln hE J fun _ Eb => ?_; clear J K' hE a q9 q8
 refine Ld [0, 7, 8, 9, 10] Eb hK fun a hE => ?_; clear hK K Q' Eb
 refine Ks ?_
 refine cond_part hE (t := 10) rfl (fun h => ?_) (fun h => ?_)
 ·have hlt : k < l.length := of_decide_eq_true h
  clear h
  have hltI : (k : Int) < l.length := by omega
  obtain ⟨b, o, rfl, hb, hc⟩ := hA.int hlt
  have hsn := minL_snoc x l k hlt
  have HS := hid hsn
  clear hsn
  obtain ⟨p, hp⟩ : ∃ p, minL x (l.take k) = p := ⟨_, rfl⟩
  obtain ⟨q, hq⟩ : ∃ q, l[k] = q := ⟨_, rfl⟩
  rw [hp] at hE
  rw [hq] at hc
  have HP := hid hp
  have HQ := hid hq
  clear hp hq
  refine Ks ?_
  refine Rs 3 fun Q' K hK => ?_
  refine M2 hE 7 9 fun K' J ρ q7 q9 => ?_; go_simp; (try go_bits)
  refine Ln hE J fun _ Eb => ?_; clear J K' hE a q7 q9
  refine M1 Eb 11 fun K' J ρ q11 => ?_; go_simp
  refine Ln Eb J fun _ Ea => ?_; clear J K' Eb q11
  refine M1 Ea 12 fun K' J ρ q12 => ?_; go_simp
  refine Ln Ea J fun _ Eb => ?_; clear J K' Ea q12
  refine Ld [0, 6, 7, 8, 9] Eb hK fun a hE => ?_; clear hK K Q' Eb
  refine Ks ?_
  refine Rs 4 fun Q' K hK => ?_
  refine M1 hE 0 fun K' J ρ q0 => ?_; go_simp
  refine Ln hE J fun _ Eb => ?_; clear J K' hE a q0
  refine M1 Eb 6 fun K' J ρ q6 => ?_; go_simp
  refine Ln Eb J fun _ Ea => ?_; clear J K' Eb q6
  refine M2 Ea 13 14 fun K' J ρ q13 q14 => ?_; go_simp; (try go_bits)
  refine Ln Ea J fun _ Eb => ?_; clear J K' Ea q13 q14
  refine M1 Eb 15 fun K' J ρ q15 => ?_; go_simp
  refine Ln Eb J fun _ Ea => ?_; clear J K' Eb q15
  refine Ld [0, 7, 8, 9] Ea hK fun a hE => ?_; clear hK K Q' Ea
  refine Ks ?_
  refine Rs 2 fun Q' K hK => ?_
  refine M1 hE 9 fun K' J ρ q9 => ?_; go_simp; (try go_bits); (try simp (disch := omega) only [IntWalk.i64_in])
  refine Ln hE J fun _ Eb => ?_; clear J K' hE a q9
  refine M1 Eb 16 fun K' J ρ q16 => ?_; go_simp
  refine Ln Eb J fun _ Ea => ?_; clear J K' Eb q16
  refine Ld [0, 7, 8, 9] Ea hK fun a hE => ?_; clear hK K Q' Ea
  refine Ks ?_
  refine ⟨k + 1, ⟨hlt, ?_, rfl⟩, by omega⟩
  rw [HS.out, HP.out, HQ.out]
  simpa using hE
 ·have hkk : k = l.length := by have := of_decide_eq_false h; omega
  subst hkk
  rw [List.take_length] at hE
  clear h
  refine Ks ?_
  refine Rs 2 fun Q' K hK => ?_
  refine M1 hE 0 fun K' J ρ q0 => ?_; go_simp
  refine Ln hE J fun _ Eb => ?_; clear J K' hE a q0
  refine M1 Eb 17 fun K' J ρ q17 => ?_; go_simp
  refine Ln Eb J fun _ Ea => ?_; clear J K' Eb q17
  refine Ld [4] Ea hK fun a hE => ?_; clear hK K Q' Ea
  refine Ks ?_
  exact ret_one hE rfl rfl ⟨rfl, rfl⟩
theorem cells_three (w : World) (a b c : Array Value) (ta tb tc : TypeId) : Below w.heap.size w (((w.alloc (.cells a ta)).alloc (.cells b tb)).alloc (.cells c tc)) ∧ Cells (((w.alloc (.cells a ta)).alloc (.cells b tb)).alloc (.cells c tc)) w.heap.size a.toList ∧ Cells (((w.alloc (.cells a ta)).alloc (.cells b tb)).alloc (.cells c tc)) (w.heap.size + 1) b.toList ∧ Cells (((w.alloc (.cells a ta)).alloc (.cells b tb)).alloc (.cells c tc)) (w.heap.size + 1 + 1) c.toList := by
 have h1 : (w.alloc (.cells a ta)).heap.size = w.heap.size + 1 := by simp
 have h2 : ((w.alloc (.cells a ta)).alloc (.cells b tb)).heap.size = w.heap.size + 1 + 1 := by simp
 have k1 := cells_new w a ta
 have k2 := cells_new (w.alloc (.cells a ta)) b tb
 have k3 := cells_new ((w.alloc (.cells a ta)).alloc (.cells b tb)) c tc
 rw [h1] at k2
 rw [h2] at k3
 have b2 := (Below.refl (w.alloc (.cells a ta)).heap.size (w.alloc (.cells a ta))).alloc (Nat.le_refl _) (.cells b tb)
 have b3 := (Below.refl ((w.alloc (.cells a ta)).alloc (.cells b tb)).heap.size ((w.alloc (.cells a ta)).alloc (.cells b tb))).alloc (Nat.le_refl _) (.cells c tc)
 refine ⟨?_, (k1.below b2).below b3, k2.below b3, k3⟩
 exact (((Below.refl _ _).alloc (Nat.le_refl _) _).alloc (by rw [h1]; omega) _).alloc (by rw [h2]; omega) _
/-- the values of books: those of a book, and nine lists behind it -/
def offB (b : Bk) (x y : NLn) : Bool := !(decide (b.lo ≤ max (x.minute - y.minute) (-(x.minute - y.minute))) && decide (max (x.minute - y.minute) (-(x.minute - y.minute)) ≤ b.hi))
def heardB (b : Bk) (x y : NLn) : Bool := (apR b.ear.alike b.ear.slips (keptL b.ear.mute x.heard.data.toList) (keptL b.ear.mute y.heard.data.toList)).2
def canL (b : Bk) (x y : NLn) : Bool := !(x.book == y.book) && (!offB b x y && heardB b x y)
section
variable (A : Option Addr) (cap : Nat) (L : Option Addr) (lcap : Nat) (b : Bk) (u0 u1 u2 u3 u4 u5 u6 u7 u8 : Value)
def bksV : List Value := [.slice A b.ear.alike.length cap, .string b.ear.mute, .int .i64 b.ear.slips, .slice L b.lines.length lcap, .int .i64 b.lo, .int .i64 b.hi, .int .i64 b.lost, u0, u1, u2, u3, u4, u5, u6, u7, u8]
set_option maxRecDepth 100000 in
theorem inOneBook_any (x y : NLn) (w : World) : Calls Tryz.prog 85 #[.agg (bksV A cap L lcap b u0 u1 u2 u3 u4 u5 u6 u7 u8).toArray, x.val, y.val] w fun e w' => e = .returned (.bool (x.book == y.book)) ∧ Below w.heap.size w w' := by
 obtain ⟨xb, xm, xs⟩ := x
 obtain ⟨yb, ym, ys⟩ := y
 simp only [bksV, NLn.val]
 refine enterE Tryz.func85 rfl Tryz.ntmps85 (by simp) (fun a hE => ?_); simp only [envOf, Nat.zero_add, Nat.reduceAdd] at hE
 refine Ks ?_
 refine Rs 4 fun Q' K hK => ?_
 refine M1 hE 0 fun K' J ρ q0 => ?_; go_simp
 refine Ln hE J fun _ Eb => ?_; clear J K' hE a q0
 refine M1 Eb 1 fun K' J ρ q1 => ?_; go_simp
 refine Ln Eb J fun _ Ea => ?_; clear J K' Eb q1
 refine M1 Ea 2 fun K' J ρ q2 => ?_; go_simp
 refine Ln Ea J fun _ Eb => ?_; clear J K' Ea q2
 refine M0 fun K' J ρ => ?_; go_simp;
 refine Ln Eb J fun _ Ea => ?_; clear J K' Eb
 refine Ld [3, 4, 5] Ea hK fun a hE => ?_; clear hK K Q' Ea
 obtain ⟨B, hXe⟩ : ∃ B, B = w.heap.size := ⟨_, rfl⟩; obtain ⟨C, hYe⟩ : ∃ B, B = w.heap.size + 1 := ⟨_, rfl⟩; obtain ⟨D, hZe⟩ : ∃ B, B = w.heap.size + 1 + 1 := ⟨_, rfl⟩; rw [← hZe, ← hYe, ← hXe] at hE; refine world_cut (fun wt => Below w.heap.size w wt ∧ Cells wt B (bksV A cap L lcap b u0 u1 u2 u3 u4 u5 u6 u7 u8) ∧ Cells wt C [.int .i64 xb, .int .i64 xm, .string xs] ∧ Cells wt D [.int .i64 yb, .int .i64 ym, .string ys]) (by rw [hXe, hYe, hZe]; exact cells_three _ _ _ _ _ _ _) (fun w1 hCut => ?_); obtain ⟨hbw1, hCB, hCC, hCD⟩ := hCut; clear hXe hYe hZe
 obtain ⟨nC, cC0⟩ := hCC.c1
 obtain ⟨nD, cD0⟩ := hCD.c1
 refine Ks ?_
 refine Rs 6 fun Q' K hK => ?_
 refine M1 hE 4 fun K' J ρ q4 => ?_; go_simp
 refine Ln hE J fun _ Eb => ?_; clear J K' hE a q4
 refine M1 Eb 7 fun K' J ρ q7 => ?_; go_simp
 refine Ln Eb J fun _ Ea => ?_; clear J K' Eb q7
 refine M1 Ea 5 fun K' J ρ q5 => ?_; go_simp
 refine Ln Ea J fun _ Eb => ?_; clear J K' Ea q5
 refine M1 Eb 9 fun K' J ρ q9 => ?_; go_simp
 refine Ln Eb J fun _ Ea => ?_; clear J K' Eb q9
 refine M2 Ea 8 10 fun K' J ρ q8 q10 => ?_; go_simp; (try go_bits)
 refine Ln Ea J fun _ Eb => ?_; clear J K' Ea q8 q10
 refine M1 Eb 11 fun K' J ρ q11 => ?_; go_simp
 refine Ln Eb J fun _ Ea => ?_; clear J K' Eb q11
 refine Ld [6] Ea hK fun a hE => ?_; clear hK K Q' Ea
 refine Ks ?_
 exact ret_one hE rfl rfl ⟨rfl, hbw1⟩
set_option maxRecDepth 100000 in
theorem offTheWay_any (x y : NLn) (w : World) (hx : 0 ≤ x.minute ∧ x.minute ≤ 1439) (hy : 0 ≤ y.minute ∧ y.minute ≤ 1439) : Calls Tryz.prog 86 #[.agg (bksV A cap L lcap b u0 u1 u2 u3 u4 u5 u6 u7 u8).toArray, x.val, y.val] w fun e w' => e = .returned (.bool (offB b x y)) ∧ Below w.heap.size w w' := by
 obtain ⟨xb, xm, xs⟩ := x
 obtain ⟨yb, ym, ys⟩ := y
 obtain ⟨hx1, hx2⟩ := hx
 obtain ⟨hy1, hy2⟩ := hy
 simp only at hx1 hx2 hy1 hy2
 simp only [bksV, NLn.val]
 refine enterE Tryz.func86 rfl Tryz.ntmps86 (by simp) (fun a hE => ?_); simp only [envOf, Nat.zero_add, Nat.reduceAdd] at hE
 refine Ks ?_
 refine Rs 4 fun Q' K hK => ?_
 refine M1 hE 0 fun K' J ρ q0 => ?_; go_simp
 refine Ln hE J fun _ Eb => ?_; clear J K' hE a q0
 refine M1 Eb 1 fun K' J ρ q1 => ?_; go_simp
 refine Ln Eb J fun _ Ea => ?_; clear J K' Eb q1
 refine M1 Ea 2 fun K' J ρ q2 => ?_; go_simp
 refine Ln Ea J fun _ Eb => ?_; clear J K' Ea q2
 refine M0 fun K' J ρ => ?_; go_simp;
 refine Ln Eb J fun _ Ea => ?_; clear J K' Eb
 refine Ld [3, 4, 5] Ea hK fun a hE => ?_; clear hK K Q' Ea
 obtain ⟨B, hXe⟩ : ∃ B, B = w.heap.size := ⟨_, rfl⟩; obtain ⟨C, hYe⟩ : ∃ B, B = w.heap.size + 1 := ⟨_, rfl⟩; obtain ⟨D, hZe⟩ : ∃ B, B = w.heap.size + 1 + 1 := ⟨_, rfl⟩; rw [← hZe, ← hYe, ← hXe] at hE; refine world_cut (fun wt => Below w.heap.size w wt ∧ Cells wt B (bksV A cap L lcap b u0 u1 u2 u3 u4 u5 u6 u7 u8) ∧ Cells wt C [.int .i64 xb, .int .i64 xm, .string xs] ∧ Cells wt D [.int .i64 yb, .int .i64 ym, .string ys]) (by rw [hXe, hYe, hZe]; exact cells_three _ _ _ _ _ _ _) (fun w1 hCut => ?_); obtain ⟨hbw1, hCB, hCC, hCD⟩ := hCut; clear hXe hYe hZe
 have nC := hCC.1; have cC1 := hCC.2 1 _ rfl
 have nD := hCD.1; have cD1 := hCD.2 1 _ rfl
 refine Ks ?_
 refine Rs 6 fun Q' K hK => ?_
 refine M1 hE 4 fun K' J ρ q4 => ?_; go_simp
 refine Ln hE J fun _ Eb => ?_; clear J K' hE a q4
 refine M1 Eb 8 fun K' J ρ q8 => ?_; go_simp
 refine Ln Eb J fun _ Ea => ?_; clear J K' Eb q8
 refine M1 Ea 5 fun K' J ρ q5 => ?_; go_simp
 refine Ln Ea J fun _ Eb => ?_; clear J K' Ea q5
 refine M1 Eb 10 fun K' J ρ q10 => ?_; go_simp
 refine Ln Eb J fun _ Ea => ?_; clear J K' Eb q10
 refine M2 Ea 9 11 fun K' J ρ q9 q11 => ?_; go_simp; (try go_bits); (try simp (disch := omega) only [IntWalk.i64_in])
 refine Ln Ea J fun _ Eb => ?_; clear J K' Ea q9 q11
 refine M1 Eb 12 fun K' J ρ q12 => ?_; go_simp
 refine Ln Eb J fun _ Ea => ?_; clear J K' Eb q12
 refine Ld [3, 7] Ea hK fun a hE => ?_; clear hK K Q' Ea
 obtain ⟨d, hd⟩ : ∃ d, xm - ym = d := ⟨_, rfl⟩
 rw [hd] at hE
 have hd1 : -1439 ≤ d := by omega
 have hd2 : d ≤ 1439 := by omega
 have HD := hid hd
 clear hd
 simp only [bksV] at hCB
 have nB := hCB.1; have cB4 := hCB.2 4 _ rfl; have cB5 := hCB.2 5 _ rfl
 refine Ks ?_
 refine Rd [] (fun wt => Below w1.heap.size w1 wt) (fun w1 w2 => Below w1.heap.size w1 w2) [(0, some 13), (1, some 14), (2, some 15), (3, some 16), (4, some 17), (5, some 18), (6, some 19), (7, some 20), (8, some 21), (9, some 22), (10, some 23), (11, some 24), (12, some 25), (13, some 26), (14, some 27), (15, some 6)] [13, 14, 15, 16, 17, 18, 19, 20, 21, 22, 23, 24, 25, 26, 27, 6] #[true, true, true, true, true, true, true, true, true, true, true, true, true, true, true, true] [] hE ((Below.refl _ _).drew) fun Q' K hK => ?_
 refine SeqOps.val ?_ (Sp fun ax wx hS hT' hd K' J => ?_) ?_; rotate_left 1
 ·have r7 := hS.at 7 (by decide) (hE.at 7 rfl); obtain ⟨_, _, _, _, _, _⟩ := bT hT'
  refine o1 r7 fun ρ q7 => ?_; go_simp;
  exact Jo J hT'
 refine SeqOps.val ?_ (Sp fun ax wx hS hT' hd K' J => ?_) ?_; rotate_left 1
 ·have r7 := hS.at 7 (by decide) (hE.at 7 rfl); obtain ⟨_, _, _, _, _, _⟩ := bT hT'
  refine o1 r7 fun ρ q7 => ?_; go_simp;
  exact Jo J hT'
 refine SeqOps.val ?_ (Sp fun ax wx hS hT' hd K' J => ?_) ?_; rotate_left 1
 ·have r14 := Tv hd 0 1 14; obtain ⟨_, _, _, _, _, _⟩ := bT hT'
  refine o1 r14 fun ρ q14 => ?_; go_simp; (try go_bits); (try simp (disch := omega) only [IntWalk.i64_in]);
  exact Jo J hT'
 refine SeqOps.say (fun v wt => ∃ G, v = .slice (some ⟨G, 0, none⟩) 1 1 ∧ Arr wt wt.heap.size (some ⟨G, 0, none⟩) (ints [-d])) (fun _ _ _ hR ⟨G, e, h⟩ => ⟨G, e, (h.below hR).more hR.size⟩) (Sp fun ax wx hS hT' hd K' J => ?_) ?_
 ·have r15 := Tv hd 0 2 15; obtain ⟨_, _, _, _, _, _⟩ := bT hT'
  refine o1 r15 fun ρ q15 => ?_; go_simp;
  refine J.out _ _ _ rfl ⟨_, rfl, (arr_new wx _ _).more (by simp)⟩ (hT'.trans (((Below.refl _ _).alloc (Nat.le_refl _) _).mono hT'.size)) ((Below.refl _ _).alloc (Nat.le_refl _) _)
 refine SeqOps.val ?_ (Sp fun ax wx hS hT' hd K' J => ?_) ?_; rotate_left 1
 ·have r13 := Tv hd 3 0 13; obtain ⟨v16, r16, h16⟩ := Tg hd 0 3 16; obtain ⟨G, rfl, hG⟩ := h16; obtain ⟨_, _, _, _, _, _⟩ := bT hT'
  refine o2 r13 r16 fun ρ q13 q16 => ?_; go_simp; (try go_bits);
  go_at_call 57; refine (greatest_any d _ 1 [-d] _ hG (by simp)).mono ?_; rintro e u1 ⟨rfl, rfl⟩
  refine J.out _ _ _ rfl ?_ hT' (Below.refl _ _); rfl
 refine SeqOps.val ?_ (Sp fun ax wx hS hT' hd K' J => ?_) ?_; rotate_left 1
 ·have r3 := hS.at 3 (by decide) (hE.at 3 rfl); obtain ⟨_, _, _, _, _, _⟩ := bT hT'
  refine o1 r3 fun ρ q3 => ?_; go_simp;
  exact Jo J hT'
 refine SeqOps.val ?_ (Sp fun ax wx hS hT' hd K' J => ?_) ?_; rotate_left 1
 ·have r18 := Tv hd 0 5 18; obtain ⟨_, _, _, _, _, _⟩ := bT hT'
  refine o1 r18 fun ρ q18 => ?_; go_simp;
  exact Jo J hT'
 refine SeqOps.val ?_ (Sp fun ax wx hS hT' hd K' J => ?_) ?_; rotate_left 1
 ·have r19 := Tv hd 0 6 19; obtain ⟨_, _, _, _, _, _⟩ := bT hT'
  refine o1 r19 fun ρ q19 => ?_; go_simp;
  exact Jo J hT'
 refine SeqOps.val ?_ (Sp fun ax wx hS hT' hd K' J => ?_) ?_; rotate_left 1
 ·have r20 := Tv hd 0 7 20; obtain ⟨_, _, _, _, _, _⟩ := bT hT'
  refine o1 r20 fun ρ q20 => ?_; go_simp;
  exact Jo J hT'
 refine SeqOps.val ?_ (Sp fun ax wx hS hT' hd K' J => ?_) ?_; rotate_left 1
 ·have r3 := hS.at 3 (by decide) (hE.at 3 rfl); obtain ⟨_, _, _, _, _, _⟩ := bT hT'
  refine o1 r3 fun ρ q3 => ?_; go_simp;
  exact Jo J hT'
 refine SeqOps.val ?_ (Sp fun ax wx hS hT' hd K' J => ?_) ?_; rotate_left 1
 ·have r22 := Tv hd 0 9 22; obtain ⟨_, _, _, _, _, _⟩ := bT hT'
  refine o1 r22 fun ρ q22 => ?_; go_simp;
  exact Jo J hT'
 refine SeqOps.val ?_ (Sp fun ax wx hS hT' hd K' J => ?_) ?_; rotate_left 1
 ·have r23 := Tv hd 0 10 23; obtain ⟨_, _, _, _, _, _⟩ := bT hT'
  refine o1 r23 fun ρ q23 => ?_; go_simp;
  exact Jo J hT'
 refine SeqOps.val ?_ (Sp fun ax wx hS hT' hd K' J => ?_) ?_; rotate_left 1
 ·have r24 := Tv hd 0 11 24; obtain ⟨_, _, _, _, _, _⟩ := bT hT'
  refine o1 r24 fun ρ q24 => ?_; go_simp;
  exact Jo J hT'
 refine SeqOps.val ?_ (Sp fun ax wx hS hT' hd K' J => ?_) ?_; rotate_left 1
 ·have r17 := Tv hd 8 4 17; have r21 := Tv hd 4 8 21; have r25 := Tv hd 0 12 25; obtain ⟨_, _, _, _, _, _⟩ := bT hT'
  refine o3 r17 r21 r25 fun ρ q17 q21 q25 => ?_; go_simp; (try go_bits);
  go_at_call 34; refine (within_any _ _ _ _).mono ?_; rintro e u1 ⟨rfl, rfl⟩
  refine J.out _ _ _ rfl ?_ hT' (Below.refl _ _); rfl
 refine SeqOps.val ?_ (Sp fun ax wx hS hT' hd K' J => ?_) ?_; rotate_left 1
 ·have r26 := Tv hd 0 13 26; obtain ⟨_, _, _, _, _, _⟩ := bT hT'
  refine o1 r26 fun ρ q26 => ?_; go_simp; (try go_bits); (try simp (disch := omega) only [IntWalk.i64_in]);
  exact Jo J hT'
 refine SeqOps.val ?_ (Sp fun ax wx hS hT' hd K' J => ?_) ?_; rotate_left 1
 ·have r27 := Tv hd 0 14 27; obtain ⟨_, _, _, _, _, _⟩ := bT hT'
  refine o1 r27 fun ρ q27 => ?_; go_simp;
  exact Jo J hT'
 refine SeqOps.nil ?_
 intro w2 hBl; (repeat refine Ek ?_); (refine fun v h => ?_; obtain ⟨G, rfl, hG⟩ := h); (repeat refine Ek ?_)
 refine fun ax hEx => ?_
 simp only [lk, pick, Nat.reduceEqDiff, ↓reduceIte] at hEx
 refine Ld [6] hEx hK fun a hE => ?_; clear hK K Q' hEx
 refine Ks ?_
 refine ret_one hE rfl rfl ⟨ret_bool ?_, hbw1.trans (hBl.mono hbw1.size)⟩
 unfold offB
 simp only [HD.out, maxL, List.foldl_cons, List.foldl_nil]
 rw [Bool.not_and]
 congr
set_option maxRecDepth 100000 in
theorem heardApart_any (x y : NLn) (w : World) (hM : BkAt w A L b) (hs : b.small cap lcap) (hx : x.heard.size ≤ 9223372036854775807) (hy : y.heard.size ≤ 9223372036854775807) : Calls Tryz.prog 87 #[.agg (bksV A cap L lcap b u0 u1 u2 u3 u4 u5 u6 u7 u8).toArray, x.val, y.val] w fun e w' => e = .returned (.bool (!heardB b x y)) ∧ Below w.heap.size w w' := by
 obtain ⟨xb, xm, xs⟩ := x
 obtain ⟨yb, ym, ys⟩ := y
 simp only at hx hy
 simp only [bksV, NLn.val]
 refine enterE Tryz.func87 rfl Tryz.ntmps87 (by simp) (fun a hE => ?_); simp only [envOf, Nat.zero_add, Nat.reduceAdd] at hE
 refine Ks ?_
 refine Rs 4 fun Q' K hK => ?_
 refine M1 hE 0 fun K' J ρ q0 => ?_; go_simp
 refine Ln hE J fun _ Eb => ?_; clear J K' hE a q0
 refine M1 Eb 1 fun K' J ρ q1 => ?_; go_simp
 refine Ln Eb J fun _ Ea => ?_; clear J K' Eb q1
 refine M1 Ea 2 fun K' J ρ q2 => ?_; go_simp
 refine Ln Ea J fun _ Eb => ?_; clear J K' Ea q2
 refine M0 fun K' J ρ => ?_; go_simp;
 refine Ln Eb J fun _ Ea => ?_; clear J K' Eb
 refine Ld [3, 4, 5] Ea hK fun a hE => ?_; clear hK K Q' Ea
 obtain ⟨B, hXe⟩ : ∃ B, B = w.heap.size := ⟨_, rfl⟩; obtain ⟨C, hYe⟩ : ∃ B, B = w.heap.size + 1 := ⟨_, rfl⟩; obtain ⟨D, hZe⟩ : ∃ B, B = w.heap.size + 1 + 1 := ⟨_, rfl⟩; rw [← hZe, ← hYe, ← hXe] at hE; refine world_cut (fun wt => Below w.heap.size w wt ∧ Cells wt B (bksV A cap L lcap b u0 u1 u2 u3 u4 u5 u6 u7 u8) ∧ Cells wt C [.int .i64 xb, .int .i64 xm, .string xs] ∧ Cells wt D [.int .i64 yb, .int .i64 ym, .string ys]) (by rw [hXe, hYe, hZe]; exact cells_three _ _ _ _ _ _ _) (fun w1 hCut => ?_); obtain ⟨hbw1, hCB, hCC, hCD⟩ := hCut; clear hXe hYe hZe
 have nC := hCC.1; have cC2 := hCC.2 2 _ rfl
 have nD := hCD.1; have cD2 := hCD.2 2 _ rfl
 have hA1 := (hM.1.below hbw1).more hbw1.size
 simp only [bksV] at hCB
 obtain ⟨nB, cB0, cB1, cB2⟩ := hCB.c3
 refine Ks ?_
 refine Rs 14 fun Q' K hK => ?_
 refine M1 hE 3 fun K' J ρ q3 => ?_; go_simp
 refine Ln hE J fun _ Eb => ?_; clear J K' hE a q3
 refine M1 Eb 10 fun K' J ρ q10 => ?_; go_simp
 refine Ln Eb J fun _ Ea => ?_; clear J K' Eb q10
 refine M1 Ea 11 fun K' J ρ q11 => ?_; go_simp
 refine Ln Ea J fun _ Eb => ?_; clear J K' Ea q11
 refine M1 Eb 12 fun K' J ρ q12 => ?_; go_simp
 refine Ln Eb J fun _ Ea => ?_; clear J K' Eb q12
 refine M1 Ea 4 fun K' J ρ q4 => ?_; go_simp
 refine Ln Ea J fun _ Eb => ?_; clear J K' Ea q4
 refine M1 Eb 14 fun K' J ρ q14 => ?_; go_simp
 refine Ln Eb J fun _ Ea => ?_; clear J K' Eb q14
 refine M1 Ea 5 fun K' J ρ q5 => ?_; go_simp
 refine Ln Ea J fun _ Eb => ?_; clear J K' Ea q5
 refine M1 Eb 16 fun K' J ρ q16 => ?_; go_simp
 refine Ln Eb J fun _ Ea => ?_; clear J K' Eb q16
 refine M3 Ea 13 15 17 fun K' J ρ q13 q15 q17 => ?_; go_simp; (try go_bits); (try clear q13 q15 q17)
 go_at_call 78; refine (apart_any A cap b.ear.alike b.ear.mute b.ear.slips xs ys _ hA1 hs.2.1 hx hy).mono ?_; rintro e w2 ⟨rfl, h2⟩
 (try clear r13 r15 r17)
 refine Ln Ea J fun _ Eb => ?_; clear J K' Ea
 refine M1 Eb 18 fun K' J ρ q18 => ?_; go_simp
 refine Ln Eb J fun _ Ea => ?_; clear J K' Eb q18
 refine M1 Ea 9 fun K' J ρ q9 => ?_; go_simp
 refine Ln Ea J fun _ Eb => ?_; clear J K' Ea q9
 refine M1 Eb 9 fun K' J ρ q9 => ?_; go_simp
 refine Ln Eb J fun _ Ea => ?_; clear J K' Eb q9
 refine M1 Ea 19 fun K' J ρ q19 => ?_; go_simp
 refine Ln Ea J fun _ Eb => ?_; clear J K' Ea q19
 refine M1 Eb 20 fun K' J ρ q20 => ?_; go_simp
 refine Ln Eb J fun _ Ea => ?_; clear J K' Eb q20
 refine Ld [8] Ea hK fun a hE => ?_; clear hK K Q' Ea
 refine Ks ?_
 refine Rs 3 fun Q' K hK => ?_
 refine M1 hE 8 fun K' J ρ q8 => ?_; go_simp
 refine Ln hE J fun _ Eb => ?_; clear J K' hE a q8
 refine M1 Eb 21 fun K' J ρ q21 => ?_; go_simp; (try go_bits); (try simp (disch := omega) only [IntWalk.i64_in])
 refine Ln Eb J fun _ Ea => ?_; clear J K' Eb q21
 refine M1 Ea 22 fun K' J ρ q22 => ?_; go_simp
 refine Ln Ea J fun _ Eb => ?_; clear J K' Ea q22
 refine Ld [6] Eb hK fun a hE => ?_; clear hK K Q' Eb
 refine Ks ?_
 exact ret_one hE rfl rfl ⟨rfl, hbw1.trans (h2.mono hbw1.size)⟩
end
end Go.Proofs.YtbimkcjdodgojaaGreat
