/- Name: the law's worst, walked. -/
import Derived.Test.YtbimkcjdodgojaaNct
import Derived.Test.YtbimkcjdodgojaaNbj
import Derived.Test.YtbimkcjdodgojaaNbi
import Derived.Test.YtbimkcjdodgojaaNax
namespace Go.Proofs.Ytbimkcjdodgojaa
set_option linter.unusedSimpArgs false
set_option linter.unusedVariables false
open Go Go.RowKit
attribute [local go_sem high] cell_set_wr
attribute [local go_sem low] cell_wr frozen_wr
attribute [local go_sem] wr_set wr_drew wr_drewN wr_alloc wr_new Rho.c Rho.n Rho.g

theorem ok_less {b : Bk} (ho : b.ok = true) (out : List Nat) : (b.without out).ok = true := by
 unfold Bk.ok headB at ho ⊢
 simp only [Bool.and_eq_true, decide_eq_true_eq, Bool.not_eq_true', decide_eq_false_iff_not, List.all_eq_true] at ho ⊢
 obtain ⟨h1, ⟨⟨h2, h3⟩, h4⟩, h5⟩ := ho
 have hl := dropK_len b.lines out b.lines.length
 refine ⟨h1, ⟨⟨?_, h3⟩, h4⟩, fun x hx => h5 x (dropK_mem (Nat.le_refl _) hx)⟩
 show ¬ (9 : Int) < (dropK b.lines out b.lines.length).length
 omega
theorem ok_lessL {b : Bk} (ho : b.ok = true) (out : List Nat) (h0 : 0 < b.lost) : ({ b.without out with lost := b.lost - 1 } : Bk).ok = true := by
 have h := ok_less ho out
 have hl := (bk_parts ho).2.2.2.1
 unfold Bk.ok headB at h ⊢
 simp only [Bool.and_eq_true, decide_eq_true_eq] at h ⊢
 exact ⟨h.1, ⟨h.2.1.1, by omega, by omega⟩, h.2.2⟩
theorem ts_few {b : Bk} (h9 : b.lines.length ≤ 9) : b.ts.length ≤ 1000000000 := by
 have h := fromP_len b.lines.length b.lost (couldsP b) (couldsP_nine h9) b.lines.length 0 []
 have h2 : 10 ^ b.lines.length ≤ 10 ^ 9 := Nat.pow_le_pow_right (by decide) h9
 unfold Bk.ts
 omega
theorem sum_le (ts : List Prs) (i k : Nat) : 0 ≤ sumK ts i k ∧ sumK ts i k ≤ ts.length := by
 unfold sumK
 have := List.length_filter_le (fun t => decide (0 ≤ matchP t i) && decide (matchP t i < (k : Int))) ts
 omega
section
variable (A : Option Addr) (cap : Nat) (L : Option Addr) (lcap : Nat) (b : Bk)
set_option maxRecDepth 100000 in
set_option maxHeartbeats 4000000 in
theorem worst_any (ho : b.ok = true) (i0 : Nat) (hi0 : i0 < b.lines.length) (w : World) (hM : BkAt w A L b) (hs : b.small cap lcap) :
    Calls Try.prog 42 #[.agg (bkV A cap L lcap b).toArray, .int .i64 i0, .int .i64 b.ts.length] w fun e w' => e = .returned (.tuple #[.int .i64 (worstP b i0), .bool true]) ∧ Below w.heap.size w w' := by
 have h9 := ok_nine ho
 have HO := hid ho
 have hfew := ts_few h9
 obtain ⟨m, hm⟩ : ∃ m, b.ts.length = m := ⟨_, rfl⟩
 have HSL := hid (fun k => sum_le b.ts i0 k)
 have HCL := hid (fun o => cntP_le b.lines.length b.ts i0 o)
 have hall := sum_all i0 b.lines.length b.ts fun t ht => match_below ht i0
 rw [← cnt_eq hi0] at hall
 rw [hm] at hfew HSL HCL hall ⊢
 have HALL := hid hall
 have HW := hid fun r (h : MaxTo (cntP b.lines.length b.ts i0) b.lines.length r) => worst_done h9 hi0 h
 have HC : Hid (∀ (k : Nat) (W : World), k < b.lines.length → BkAt W A L b → Calls Try.prog 23 #[.agg (bkV A cap L lcap b).toArray, .int .i64 i0, .int .i64 k] W fun e w' => e = .returned (.tuple #[.bool (canL b (b.lines.getD i0 zeroLn) (b.lines.getD k zeroLn)), .int .i64 0]) ∧ Below W.heap.size W w') := hid fun k W hk hW => by
  have h := pCan_any A cap L lcap b i0 k W hW hs
  rw [can_in ho hi0 hk] at h
  exact h
 have HT : Hid (∀ (x : Bk) (A' : Option Addr) (cap' : Nat) (W : World), x.ok = true → x.small cap cap' → BkAt W A A' x → Calls Try.prog 30 #[.agg (bkV A cap A' cap' x).toArray] W fun e w' => e = .returned (.tuple #[.int .i64 x.ts.length, .int .i64 0]) ∧ Below W.heap.size W w') := hid fun x A' cap' W hx hsx hW => by
  have h := pTruths_any A cap A' cap' x W hW hsx
  unfold pTruthsR at h
  rw [hx] at h
  exact h
 have HWO : Hid (∀ (T : Option Addr) (tc : Nat) (out : List Nat) (W : World), BkAt W A L b → Arr W W.heap.size T (nats out) → out.length ≤ 9223372036854775807 → Calls Try.prog 35 #[.agg (bkV A cap L lcap b).toArray, .slice T out.length tc] W fun e w' => (∃ A' cap', e = .returned (.agg (bkV A cap A' cap' (b.without out)).toArray) ∧ (b.without out).small cap cap' ∧ BkAt w' A A' (b.without out)) ∧ Below W.heap.size W w') := hid fun T tc out W hW hT hl => lwithout_any A cap L lcap b T tc out W hW hs h9 hT hl
 obtain ⟨c, hc⟩ : ∃ c : Int → Int, cntP b.lines.length b.ts i0 = c := ⟨_, rfl⟩
 have HCE := hid hc
 have HCN : Hid (∀ k : Nat, k < b.lines.length → canL b (b.lines.getD i0 zeroLn) (b.lines.getD k zeroLn) = true → ((b.without [min i0 k, max i0 k]).ts.length : Int) = c k) := hid fun k hk hcn => by
  rw [← hc]
  exact cnt_can ho hi0 hk hcn (fun j => by
   rw [List.mem_cons, List.mem_singleton]
   constructor <;> intro h <;> omega)
 have HC0 : Hid (∀ k : Nat, canL b (b.lines.getD i0 zeroLn) (b.lines.getD k zeroLn) = false → c k = 0) := hid fun k h => by rw [← hc]; exact cnt_cannot hi0 h
 have HSS : Hid (∀ k : Nat, sumK b.ts i0 (k + 1) = sumK b.ts i0 k + c k) := hid fun k => by
  rw [sum_succ, ← hc, cnt_eq hi0]
 have HCM : Hid ((({ b.without [i0] with lost := b.lost - 1 } : Bk).ts.length : Int) = c (-1)) := hid (by rw [← hc, cnt_eq hi0, cnt_none b hi0])
 have HCZ : Hid (b.lost = 0 → c (-1) = 0) := hid fun h => by rw [← hc]; exact cnt_lost hi0 h
 have hlost := (bk_parts ho).2.2.2.1
 rw [hc] at HW HCL
 rw [show cntP b.lines.length b.ts i0 (-1) = c (-1) by rw [hc]] at HALL
 clear hc hm hall ho
 have HC' := HC
 have HT' := HT
 simp only [bkV] at HC HT HWO ⊢
 refine enterE Try.func42 rfl Try.ntmps42 (by simp) (fun a hE => ?_); simp only [envOf, Nat.zero_add, Nat.reduceAdd] at hE
 refine Ks ?_
 refine Rs 3 fun Q' K hK => ?_
 refine M1 hE 0 fun K' J ρ q0 => ?_; go_simp; (try clear q0)
 refine Ln hE J fun _ Eb => ?_; clear J K' hE a
 refine M0 fun K' J ρ => ?_; go_simp;
 refine Ln Eb J fun _ Ea => ?_; clear J K' Eb
 refine M0 fun K' J ρ => ?_; go_simp;
 refine Ln Ea J fun _ Eb => ?_; clear J K' Ea
 refine late_done [1, 2, 3] Eb hK (fun a hE => ?_); clear hK K Q' Eb; simp only [lk, pick, Nat.reduceEqDiff, ↓reduceIte] at hE
 obtain ⟨B, hBe⟩ : ∃ B, B = w.heap.size := ⟨_, rfl⟩; rw [← hBe] at hE; refine world_cut (fun wt => Below w.heap.size w wt ∧ Cells wt B (bkV A cap L lcap b)) ⟨(Below.refl _ _).alloc (Nat.le_refl _) _, by rw [hBe]; exact cells_new _ _ _⟩ (fun w1 hCut => ?_); obtain ⟨hbw1, hCB⟩ := hCut; clear hBe
 simp only [bkV] at hCB
 refine Ks ?_
 refine Rs 2 fun Q' K hK => ?_
 refine M0 fun K' J ρ => ?_; go_simp;
 refine Ln hE J fun _ Eb => ?_; clear J K' hE a
 refine M0 fun K' J ρ => ?_; go_simp;
 refine Ln Eb J fun _ Ea => ?_; clear J K' Eb
 refine late_done [1, 2, 3, 8, 9] Ea hK (fun a hE => ?_); clear hK K Q' Ea; simp only [lk, pick, Nat.reduceEqDiff, ↓reduceIte] at hE
 refine Ks ?_
 refine Rs 1 fun Q' K hK => ?_
 refine M0 fun K' J ρ => ?_; go_simp;
 refine Ln hE J fun _ Eb => ?_; clear J K' hE a
 refine late_done [1, 2, 3, 8, 9, 10] Eb hK (fun a hE => ?_); clear hK K Q' Eb; simp only [lk, pick, Nat.reduceEqDiff, ↓reduceIte] at hE
 refine Ks ?_
 refine loop_st (fun (k : Nat) a w' => ∃ r : Int, k ≤ b.lines.length ∧ Fits 87 [(1, .int .i64 i0), (2, .int .i64 m), (3, .pointer (some ⟨B, 0, none⟩)), (8, .int .i64 r), (9, .int .i64 (sumK b.ts i0 k)), (10, .int .i64 k)] a ∧ Below w1.heap.size w1 w' ∧ MaxTo c k r ∧ r ≤ m) (fun k => b.lines.length - k) 0 ?_ (fun k a w' hI => ?_)
 ·exact ⟨0, Nat.zero_le _, by rw [sum_zero]; simpa using hE, Below.refl _ _, MaxTo.zero c, by omega⟩
 clear hE
 obtain ⟨r, hk, hE, hW, hmx, hrm⟩ := hI
 have HMX := hid hmx
 have hr0 := hmx.1
 clear hmx
 have hCr := hCB.below hW
 have hM1 := hM.below (hbw1.trans (hW.mono hbw1.size))
 obtain ⟨wr, hwr⟩ : ∃ x, x = w' := ⟨_, rfl⟩
 subst hwr
 have hs1 := (HSL.out k).1
 have hs2 := (HSL.out k).2
 obtain ⟨sk, hsk⟩ : ∃ sk, sumK b.ts i0 k = sk := ⟨_, rfl⟩
 rw [hsk] at hE hs1 hs2
 have HSK := hid hsk
 clear hsk
 have nB := hCr.1
 have cB0 := hCr.2 0 _ rfl
 have cB1 := hCr.2 1 _ rfl
 have cB2 := hCr.2 2 _ rfl
 have cB3 := hCr.2 3 _ rfl
 have cB4 := hCr.2 4 _ rfl
 have cB5 := hCr.2 5 _ rfl
 have cB6 := hCr.2 6 _ rfl
 refine Ks ?_
 refine Rs 5 fun Q' K hK => ?_
 refine M1 hE 10 fun K' J ρ q10 => ?_; go_simp; (try clear q10)
 refine Ln hE J fun _ Eb => ?_; clear J K' hE a
 refine M1 Eb 3 fun K' J ρ q3 => ?_; go_simp; (try clear q3)
 refine Ln Eb J fun _ Ea => ?_; clear J K' Eb
 refine M1 Ea 20 fun K' J ρ q20 => ?_; go_simp; (try clear q20)
 refine Ln Ea J fun _ Eb => ?_; clear J K' Ea
 refine M1 Eb 21 fun K' J ρ q21 => ?_; go_simp; (try go_bits); (try clear q21)
 refine Ln Eb J fun _ Ea => ?_; clear J K' Eb
 refine M2 Ea 19 22 fun K' J ρ q19 q22 => ?_; go_simp; (try go_bits); (try clear q19 q22)
 refine Ln Ea J fun _ Eb => ?_; clear J K' Ea
 refine late_done [1, 2, 3, 8, 9, 10, 23] Eb hK (fun a hE => ?_); clear hK K Q' Eb; simp only [lk, pick, Nat.reduceEqDiff, ↓reduceIte] at hE
 refine Ks ?_
 refine cond_part hE (t := 23) rfl (fun h => ?_) (fun h => ?_)
 ·have hlt : k < b.lines.length := by have := of_decide_eq_true h; omega
  clear h
  have HCk := hid (HC.out k wr hlt hM1)
  have HNk := hid (HCN.out k hlt)
  have HZk := hid (HC0.out k)
  have hck := HCL.out k
  have HSk := hid (HSS.out k)
  rw [HSK.out] at HSk
  obtain ⟨q, hq⟩ : ∃ q, canL b (b.lines.getD i0 zeroLn) (b.lines.getD k zeroLn) = q := ⟨_, rfl⟩
  rw [hq] at HCk HNk HZk
  clear hq
  refine Ks ?_
  refine Rs 9 fun Q' K hK => ?_
  refine M1 hE 3 fun K' J ρ q3 => ?_; go_simp; (try clear q3)
  refine Ln hE J fun _ Eb => ?_; clear J K' hE a
  refine M1 Eb 1 fun K' J ρ q1 => ?_; go_simp; (try clear q1)
  refine Ln Eb J fun _ Ea => ?_; clear J K' Eb
  refine M1 Ea 10 fun K' J ρ q10 => ?_; go_simp; (try clear q10)
  refine Ln Ea J fun _ Eb => ?_; clear J K' Ea
  refine M3 Eb 27 28 29 fun K' J ρ q27 q28 q29 => ?_; go_simp; (try go_bits); (try clear q27 q28 q29)
  go_at_call 23; refine (HCk.out).mono ?_; rintro e w2 ⟨rfl, h2⟩
  (try clear r27 r28 r29)
  refine Ln Eb J fun _ Ea => ?_; clear J K' Eb
  refine M1 Ea 30 fun K' J ρ q30 => ?_; go_simp; (try clear q30)
  refine Ln Ea J fun _ Eb => ?_; clear J K' Ea
  refine M1 Eb 26 fun K' J ρ q26 => ?_; go_simp; (try clear q26)
  refine Ln Eb J fun _ Ea => ?_; clear J K' Eb
  refine M1 Ea 26 fun K' J ρ q26 => ?_; go_simp; (try clear q26)
  refine Ln Ea J fun _ Eb => ?_; clear J K' Ea
  refine M1 Eb 31 fun K' J ρ q31 => ?_; go_simp; (try clear q31)
  refine Ln Eb J fun _ Ea => ?_; clear J K' Eb
  refine M1 Ea 32 fun K' J ρ q32 => ?_; go_simp; (try clear q32)
  refine Ln Ea J fun _ Eb => ?_; clear J K' Ea
  refine late_done [1, 2, 3, 8, 9, 10, 11, 12] Eb hK (fun a hE => ?_); clear hK K Q' Eb; simp only [lk, pick, Nat.reduceEqDiff, ↓reduceIte] at hE
  have hW2 := hW.trans (h2.mono hW.size)
  have hM2 := hM1.below h2
  replace hCr := hCr.below h2
  clear nB cB0 cB1 cB2 cB3 cB4 cB5 cB6
  have nB := hCr.1
  have cB0 := hCr.2 0 _ rfl
  have cB1 := hCr.2 1 _ rfl
  have cB2 := hCr.2 2 _ rfl
  have cB3 := hCr.2 3 _ rfl
  have cB4 := hCr.2 4 _ rfl
  have cB5 := hCr.2 5 _ rfl
  have cB6 := hCr.2 6 _ rfl
  refine Ks ?_
  refine Rs 2 fun Q' K hK => ?_
  refine M1 hE 12 fun K' J ρ q12 => ?_; go_simp; (try clear q12)
  refine Ln hE J fun _ Eb => ?_; clear J K' hE a
  refine M1 Eb 33 fun K' J ρ q33 => ?_; go_simp; (try go_bits); (try clear q33)
  refine Ln Eb J fun _ Ea => ?_; clear J K' Eb
  replace Ea := Ea.turn 34 (v' := .bool false) rfl (by (first | rfl | simp))
  refine late_done [1, 2, 3, 8, 9, 10, 11, 34] Ea hK (fun a hE => ?_); clear hK K Q' Ea; simp only [lk, pick, Nat.reduceEqDiff, ↓reduceIte] at hE
  refine Ks ?_
  refine cond_no hE (t := 34) rfl ?_
  refine Ks ?_
  cases hqv : q
  ·rw [hqv] at hE
   refine Rs 2 fun Q' K hK => ?_
   refine M1 hE 11 fun K' J ρ q11 => ?_; go_simp; (try clear q11)
   refine Ln hE J fun _ Eb => ?_; clear J K' hE a
   refine M1 Eb 35 fun K' J ρ q35 => ?_; go_simp; (try go_bits); (try simp (disch := omega) only [IntWalk.i64_in]); (try clear q35)
   refine Ln Eb J fun _ Ea => ?_; clear J K' Eb
   replace Ea := Ea.turn 36 (v' := .bool true) rfl (by (first | rfl | simp))
   refine late_done [1, 2, 3, 8, 9, 10, 36] Ea hK (fun a hE => ?_); clear hK K Q' Ea; simp only [lk, pick, Nat.reduceEqDiff, ↓reduceIte] at hE
   refine Ks ?_
   refine cond_yes hE (t := 36) rfl ?_
   refine Ks ?_
   refine Rs 3 fun Q' K hK => ?_
   refine M1 hE 10 fun K' J ρ q10 => ?_; go_simp; (try clear q10)
   refine Ln hE J fun _ Eb => ?_; clear J K' hE a
   refine M1 Eb 24 fun K' J ρ q24 => ?_; go_simp; (try go_bits); (try simp (disch := omega) only [IntWalk.i64_in]); (try clear q24)
   refine Ln Eb J fun _ Ea => ?_; clear J K' Eb
   refine M1 Ea 25 fun K' J ρ q25 => ?_; go_simp; (try clear q25)
   refine Ln Ea J fun _ Eb => ?_; clear J K' Ea
   refine late_done [1, 2, 3, 8, 9, 10] Eb hK (fun a hE => ?_); clear hK K Q' Eb; simp only [lk, pick, Nat.reduceEqDiff, ↓reduceIte] at hE
   refine Ks ?_
   have hz := HZk.out hqv
   exact ⟨k + 1, ⟨r, hlt, by rw [HSk.out, hz, Int.add_zero]; simpa using hE, hW2, HMX.out.skip hz, hrm⟩, by omega⟩
  ·rw [hqv] at hE
   have hcn := HNk.out hqv
   obtain ⟨out, hout⟩ : ∃ out, [min i0 k, max i0 k] = out := ⟨_, rfl⟩
   have hok2 := ok_less HO.out [min i0 k, max i0 k]
   rw [hout] at hcn hok2
   have HCNk := hid hcn
   have HOK2 := hid hok2
   have HOUT := hid hout
   clear hcn hok2
   refine Rs 2 fun Q' K hK => ?_
   refine M1 hE 11 fun K' J ρ q11 => ?_; go_simp; (try clear q11)
   refine Ln hE J fun _ Eb => ?_; clear J K' hE a
   refine M1 Eb 35 fun K' J ρ q35 => ?_; go_simp; (try go_bits); (try simp (disch := omega) only [IntWalk.i64_in]); (try clear q35)
   refine Ln Eb J fun _ Ea => ?_; clear J K' Eb
   replace Ea := Ea.turn 36 (v' := .bool false) rfl (by (first | rfl | simp))
   refine late_done [1, 2, 3, 8, 9, 10, 36] Ea hK (fun a hE => ?_); clear hK K Q' Ea; simp only [lk, pick, Nat.reduceEqDiff, ↓reduceIte] at hE
   refine Ks ?_
   refine cond_no hE (t := 36) rfl ?_
   refine Ks ?_
   refine Rs 11 fun Q' K hK => ?_
   refine M1 hE 3 fun K' J ρ q3 => ?_; go_simp; (try clear q3)
   refine Ln hE J fun _ Eb => ?_; clear J K' hE a
   refine M1 Eb 1 fun K' J ρ q1 => ?_; go_simp; (try clear q1)
   refine Ln Eb J fun _ Ea => ?_; clear J K' Eb
   refine M1 Ea 10 fun K' J ρ q10 => ?_; go_simp; (try clear q10)
   refine Ln Ea J fun _ Eb => ?_; clear J K' Ea
   refine M2 Eb 38 39 fun K' J ρ q38 q39 => ?_; go_simp; (try go_bits); (try clear q38 q39)
   refine Ln Eb J fun _ Ea => ?_; clear J K' Eb
   replace Ea := Ea.turn 40 (v' := .int .i64 ((min i0 k : Nat) : Int)) rfl (by (first | rfl | (congr 1; omega) | (simp; omega)))
   refine M1 Ea 1 fun K' J ρ q1 => ?_; go_simp; (try clear q1)
   refine Ln Ea J fun _ Eb => ?_; clear J K' Ea
   refine M1 Eb 10 fun K' J ρ q10 => ?_; go_simp; (try clear q10)
   refine Ln Eb J fun _ Ea => ?_; clear J K' Eb
   refine M2 Ea 41 42 fun K' J ρ q41 q42 => ?_; go_simp; (try go_bits); (try clear q41 q42)
   refine Ln Ea J fun _ Eb => ?_; clear J K' Ea
   replace Eb := Eb.turn 43 (v' := .int .i64 ((max i0 k : Nat) : Int)) rfl (by (first | rfl | (congr 1; omega) | (simp; omega)))
   refine M2 Eb 40 43 fun K' J ρ q40 q43 => ?_; go_simp; (try clear q40 q43)
   refine Ln Eb J fun _ Ea => ?_; clear J K' Eb
   refine M2 Ea 37 44 fun K' J ρ q37 q44 => ?_; go_simp; (try go_bits); (try clear q37 q44)
   have hal : Below w2.heap.size w2 (w2.alloc (.cells #[.int .i64 ((min i0 k : Nat) : Int), .int .i64 ((max i0 k : Nat) : Int)] 3)) := (Below.refl _ _).alloc (Nat.le_refl _) _
   go_at_call 35; refine (HWO.out (some ⟨w2.heap.size, 0, none⟩) 2 [min i0 k, max i0 k] _ (hM2.below hal) ((arr_new w2 _ _).more (by simp)) (by simp)).mono ?_; rw [HOUT.out]; rintro e w5 ⟨⟨A', cap', rfl, hsm, hM5⟩, h5⟩
   (try clear r37 r44)
   refine Ln Ea J fun _ Eb => ?_; clear J K' Ea
   refine M0 fun K' J ρ => ?_; go_simp;
   refine Ln Eb J fun _ Ea => ?_; clear J K' Eb
   refine M2 Ea 13 45 fun K' J ρ q13 q45 => ?_; go_simp; (try clear q13 q45)
   refine late_skip Ea J (fun _ Eb => ?_); clear J K'; clear Ea
   refine late_done [1, 2, 3, 8, 9, 10, 13] Eb hK (fun a hE => ?_); clear hK K Q' Eb; simp only [lk, pick, Nat.reduceEqDiff, ↓reduceIte] at hE
   obtain ⟨X, hXe⟩ : ∃ B, B = w5.heap.size := ⟨_, rfl⟩; rw [← hXe] at hE; refine world_cut (fun wt => Below w5.heap.size w5 wt ∧ Cells wt X (bkV A cap A' cap' (b.without out))) ⟨(Below.refl _ _).alloc (Nat.le_refl _) _, by rw [hXe]; exact cells_new _ _ _⟩ (fun w6 hCut => ?_); obtain ⟨hbw6, hCX⟩ := hCut; clear hXe
   have h25 : Below w2.heap.size w2 w5 := hal.trans (h5.mono hal.size)
   have h26 := h25.trans (hbw6.mono h25.size)
   have hW6 := hW2.trans (h26.mono hW2.size)
   have hMx6 := hM5.below hbw6
   have HTk := hid (HT.out (b.without out) A' cap' w6 HOK2.out hsm hMx6)
   rw [HCNk.out] at HTk
   simp only [bkV] at hCX
   clear nB cB0 cB1 cB2 cB3 cB4 cB5 cB6
   have nX := hCX.1
   have cX0 := hCX.2 0 _ rfl
   have cX1 := hCX.2 1 _ rfl
   have cX2 := hCX.2 2 _ rfl
   have cX3 := hCX.2 3 _ rfl
   have cX4 := hCX.2 4 _ rfl
   have cX5 := hCX.2 5 _ rfl
   have cX6 := hCX.2 6 _ rfl
   clear hal h5 h25 h26 hM5 hMx6 hbw6 hM2 hCr
   refine Ks ?_
   refine Rs 7 fun Q' K hK => ?_
   refine M1 hE 13 fun K' J ρ q13 => ?_; go_simp; (try clear q13)
   refine Ln hE J fun _ Eb => ?_; clear J K' hE a
   refine M1 Eb 47 fun K' J ρ q47 => ?_; go_simp; (try go_bits); (try clear q47)
   go_at_call 30; refine (HTk.out).mono ?_; rintro e w7 ⟨rfl, h7⟩
   (try clear r47)
   refine Ln Eb J fun _ Ea => ?_; clear J K' Eb
   refine M1 Ea 48 fun K' J ρ q48 => ?_; go_simp; (try clear q48)
   refine Ln Ea J fun _ Eb => ?_; clear J K' Ea
   refine M1 Eb 46 fun K' J ρ q46 => ?_; go_simp; (try clear q46)
   refine Ln Eb J fun _ Ea => ?_; clear J K' Eb
   refine M1 Ea 46 fun K' J ρ q46 => ?_; go_simp; (try clear q46)
   refine Ln Ea J fun _ Eb => ?_; clear J K' Ea
   refine M1 Eb 49 fun K' J ρ q49 => ?_; go_simp; (try clear q49)
   refine Ln Eb J fun _ Ea => ?_; clear J K' Eb
   refine M1 Ea 50 fun K' J ρ q50 => ?_; go_simp; (try clear q50)
   refine Ln Ea J fun _ Eb => ?_; clear J K' Ea
   refine late_done [1, 2, 3, 8, 9, 10, 14, 15] Eb hK (fun a hE => ?_); clear hK K Q' Eb; simp only [lk, pick, Nat.reduceEqDiff, ↓reduceIte] at hE
   have hW7 := hW6.trans (h7.mono hW6.size)
   clear nX cX0 cX1 cX2 cX3 cX4 cX5 cX6
   refine Ks ?_
   refine Rs 2 fun Q' K hK => ?_
   refine M1 hE 15 fun K' J ρ q15 => ?_; go_simp; (try clear q15)
   refine Ln hE J fun _ Eb => ?_; clear J K' hE a
   refine M1 Eb 51 fun K' J ρ q51 => ?_; go_simp; (try go_bits); (try clear q51)
   refine Ln Eb J fun _ Ea => ?_; clear J K' Eb
   replace Ea := Ea.turn 52 (v' := .bool false) rfl (by (first | rfl | simp))
   refine late_done [1, 2, 3, 8, 9, 10, 14, 52] Ea hK (fun a hE => ?_); clear hK K Q' Ea; simp only [lk, pick, Nat.reduceEqDiff, ↓reduceIte] at hE
   refine Ks ?_
   refine cond_no hE (t := 52) rfl ?_
   refine Ks ?_
   refine Rs 8 fun Q' K hK => ?_
   refine M1 hE 8 fun K' J ρ q8 => ?_; go_simp; (try clear q8)
   refine Ln hE J fun _ Eb => ?_; clear J K' hE a
   refine M1 Eb 14 fun K' J ρ q14 => ?_; go_simp; (try clear q14)
   refine Ln Eb J fun _ Ea => ?_; clear J K' Eb
   refine M2 Ea 53 54 fun K' J ρ q53 q54 => ?_; go_simp; (try go_bits); (try clear q53 q54)
   refine Ln Ea J fun _ Eb => ?_; clear J K' Ea
   replace Eb := Eb.turn 55 (v' := .int .i64 (max r (c k))) rfl (by (first | rfl | (congr 1; omega) | (simp; omega)))
   refine M1 Eb 9 fun K' J ρ q9 => ?_; go_simp; (try clear q9)
   refine Ln Eb J fun _ Ea => ?_; clear J K' Eb
   refine M1 Ea 14 fun K' J ρ q14 => ?_; go_simp; (try clear q14)
   refine Ln Ea J fun _ Eb => ?_; clear J K' Ea
   refine M2 Eb 56 57 fun K' J ρ q56 q57 => ?_; go_simp; (try go_bits); (try simp (disch := omega) only [IntWalk.i64_in]); (try clear q56 q57)
   refine Ln Eb J fun _ Ea => ?_; clear J K' Eb
   refine M1 Ea 55 fun K' J ρ q55 => ?_; go_simp; (try clear q55)
   refine Ln Ea J fun _ Eb => ?_; clear J K' Ea
   refine M1 Eb 58 fun K' J ρ q58 => ?_; go_simp; (try clear q58)
   refine Ln Eb J fun _ Ea => ?_; clear J K' Eb
   refine late_done [1, 2, 3, 8, 9, 10] Ea hK (fun a hE => ?_); clear hK K Q' Ea; simp only [lk, pick, Nat.reduceEqDiff, ↓reduceIte] at hE
   refine Ks ?_
   refine Rs 3 fun Q' K hK => ?_
   refine M1 hE 10 fun K' J ρ q10 => ?_; go_simp; (try clear q10)
   refine Ln hE J fun _ Eb => ?_; clear J K' hE a
   refine M1 Eb 24 fun K' J ρ q24 => ?_; go_simp; (try go_bits); (try simp (disch := omega) only [IntWalk.i64_in]); (try clear q24)
   refine Ln Eb J fun _ Ea => ?_; clear J K' Eb
   refine M1 Ea 25 fun K' J ρ q25 => ?_; go_simp; (try clear q25)
   refine Ln Ea J fun _ Eb => ?_; clear J K' Ea
   refine late_done [1, 2, 3, 8, 9, 10] Eb hK (fun a hE => ?_); clear hK K Q' Eb; simp only [lk, pick, Nat.reduceEqDiff, ↓reduceIte] at hE
   refine Ks ?_
   exact ⟨k + 1, ⟨max r (c k), hlt, by rw [HSk.out]; simpa using hE, hW7, HMX.out.succ, by omega⟩, by omega⟩
 ·have hkk : k = b.lines.length := by have := of_decide_eq_false h; omega
  subst hkk
  clear h hk
  have hwd := HW.out r HMX.out
  have hall2 := HALL.out
  rw [HSK.out] at hall2
  have hcm := HCL.out (-1)
  have HWD := hid hwd
  have HAL := hid hall2
  clear hwd
  have hMr := hM1
  refine KsE ?_
  refine Ks ?_
  refine Rs 6 fun Q' K hK => ?_
  refine M1 hE 3 fun K' J ρ q3 => ?_; go_simp; (try clear q3)
  refine Ln hE J fun _ Eb => ?_; clear J K' hE a
  refine M1 Eb 1 fun K' J ρ q1 => ?_; go_simp; (try clear q1)
  refine Ln Eb J fun _ Ea => ?_; clear J K' Eb
  refine M1 Ea 60 fun K' J ρ q60 => ?_; go_simp; (try clear q60)
  refine Ln Ea J fun _ Eb => ?_; clear J K' Ea
  refine M2 Eb 59 61 fun K' J ρ q59 q61 => ?_; go_simp; (try go_bits); (try clear q59 q61)
  have hal : Below wr.heap.size wr (wr.alloc (.cells #[.int .i64 i0] 3)) := (Below.refl _ _).alloc (Nat.le_refl _) _
  go_at_call 35; refine (HWO.out (some ⟨wr.heap.size, 0, none⟩) 1 [i0] _ (hM1.below hal) ((arr_new wr _ _).more (by simp)) (by simp)).mono ?_; rintro e w5 ⟨⟨A', cap', rfl, hsm, hM5⟩, h5⟩
  (try clear r59 r61)
  refine Ln Eb J fun _ Ea => ?_; clear J K' Eb
  refine M0 fun K' J ρ => ?_; go_simp;
  refine Ln Ea J fun _ Eb => ?_; clear J K' Ea
  refine M2 Eb 16 62 fun K' J ρ q16 q62 => ?_; go_simp; (try clear q16 q62)
  refine late_skip Eb J (fun _ Ea => ?_); clear J K'; clear Eb
  refine late_done [1, 2, 3, 8, 9, 16] Ea hK (fun a hE => ?_); clear hK K Q' Ea; simp only [lk, pick, Nat.reduceEqDiff, ↓reduceIte] at hE
  obtain ⟨X, hXe⟩ : ∃ B, B = w5.heap.size := ⟨_, rfl⟩; have hnX : w5.heap.size ≤ X := Nat.le_of_eq hXe.symm; rw [← hXe] at hE; refine world_cut (fun wt => Below w5.heap.size w5 wt ∧ X < wt.heap.size ∧ Row wt X (bkV A cap A' cap' (b.without [i0]))) ⟨(Below.refl _ _).alloc (Nat.le_refl _) _, by rw [hXe]; simp, by rw [hXe]; exact row_new _ _ _⟩ (fun w6 hCut => ?_); obtain ⟨hbw6, hlX, hRX⟩ := hCut; clear hXe
  have h25 : Below wr.heap.size wr w5 := hal.trans (h5.mono hal.size)
  have h26 := h25.trans (hbw6.mono h25.size)
  have hW6 := hW.trans (h26.mono hW.size)
  have hMx6 := hM5.below hbw6
  have hXB : B ≠ X := by have := hCr.1; have := h25.size; omega
  have hb6 := hbw1.trans (hW6.mono hbw1.size)
  have hX5 : w5.heap.size ≤ X := hnX
  replace hCr := hCr.below h26
  simp only [bkV] at hRX
  clear nB cB0 cB1 cB2 cB3 cB4 cB5 cB6
  have nB := hCr.1
  have cB6 := hCr.2 6 _ rfl
  clear hal h5 hnX hM1
  refine Ks ?_
  refine Rs 3 fun Q' K hK => ?_
  refine M1 hE 3 fun K' J ρ q3 => ?_; go_simp; (try clear q3)
  refine Ln hE J fun _ Eb => ?_; clear J K' hE a
  refine M1 Eb 63 fun K' J ρ q63 => ?_; go_simp; (try clear q63)
  refine Ln Eb J fun _ Ea => ?_; clear J K' Eb
  refine M1 Ea 64 fun K' J ρ q64 => ?_; go_simp; (try go_bits); (try clear q64)
  refine Ln Ea J fun _ Eb => ?_; clear J K' Ea
  refine late_done [1, 2, 3, 8, 9, 16, 65] Eb hK (fun a hE => ?_); clear hK K Q' Eb; simp only [lk, pick, Nat.reduceEqDiff, ↓reduceIte] at hE
  refine Ks ?_
  refine cond_part hE (t := 65) rfl (fun h => ?_) (fun h => ?_)
  ·have hlp : 0 < b.lost := by have := of_decide_eq_true h; omega
   clear h
   have y6 := (hRX 6 _ rfl).2
   refine Ks ?_
   refine Rs 5 fun Q' K hK => ?_
   refine M1 hE 3 fun K' J ρ q3 => ?_; go_simp; (try clear q3)
   refine Ln hE J fun _ Eb => ?_; clear J K' hE a
   refine M1 Eb 66 fun K' J ρ q66 => ?_; go_simp; (try clear q66)
   refine Ln Eb J fun _ Ea => ?_; clear J K' Eb
   refine M1 Ea 67 fun K' J ρ q67 => ?_; go_simp; (try go_bits); (try simp (disch := omega) only [IntWalk.i64_in]); (try clear q67)
   refine Ln Ea J fun _ Eb => ?_; clear J K' Ea
   refine M1 Eb 16 fun K' J ρ q16 => ?_; go_simp; (try clear q16)
   refine Ln Eb J fun _ Ea => ?_; clear J K' Eb
   refine M2 Ea 69 68 fun K' J ρ q69 q68 => ?_; go_simp; (try clear q69 q68)
   refine late_skip Ea J (fun _ Eb => ?_); clear J K'; clear Ea
   refine late_done [1, 2, 8, 9, 16] Eb hK (fun a hE => ?_); clear hK K Q' Eb; simp only [lk, pick, Nat.reduceEqDiff, ↓reduceIte] at hE
   refine world_cut (fun wt => Below w.heap.size w wt ∧ Cells wt X (bkV A cap A' cap' { b.without [i0] with lost := b.lost - 1 }) ∧ BkAt wt A A' { b.without [i0] with lost := b.lost - 1 }) ?_ (fun w7 hC => ?_)
   ·have hwX : w.heap.size ≤ X := by have := hb6.size; have := (hbw1.trans ((hW.trans (h25.mono hW.size)).mono hbw1.size)).size; omega
    refine ⟨hb6.setCell hwX _, row_cells (hRX.set (o := 6) (by simp)) (by simp; omega), ?_⟩
    have hbX : Below w5.heap.size w5 (w6.setCell ⟨X, 6, none⟩ (.int .i64 (b.lost - 1))) := hbw6.setCell hX5 _
    exact hM5.below hbX
   obtain ⟨hb7, hCX7, hMx7⟩ := hC
   have HTk := hid (HT.out { b.without [i0] with lost := b.lost - 1 } A' cap' w7 (ok_lessL HO.out [i0] hlp) hsm hMx7)
   rw [HCM.out] at HTk
   simp only [bkV] at hCX7
   clear nB cB6 y6 hRX hlX
   have nX := hCX7.1
   have cX0 := hCX7.2 0 _ rfl
   have cX1 := hCX7.2 1 _ rfl
   have cX2 := hCX7.2 2 _ rfl
   have cX3 := hCX7.2 3 _ rfl
   have cX4 := hCX7.2 4 _ rfl
   have cX5 := hCX7.2 5 _ rfl
   have cX6 := hCX7.2 6 _ rfl
   refine Ks ?_
   refine Rs 7 fun Q' K hK => ?_
   refine M1 hE 16 fun K' J ρ q16 => ?_; go_simp; (try clear q16)
   refine Ln hE J fun _ Eb => ?_; clear J K' hE a
   refine M1 Eb 71 fun K' J ρ q71 => ?_; go_simp; (try go_bits); (try clear q71)
   go_at_call 30; refine (HTk.out).mono ?_; rintro e w8 ⟨rfl, h8⟩
   (try clear r71)
   refine Ln Eb J fun _ Ea => ?_; clear J K' Eb
   refine M1 Ea 72 fun K' J ρ q72 => ?_; go_simp; (try clear q72)
   refine Ln Ea J fun _ Eb => ?_; clear J K' Ea
   refine M1 Eb 70 fun K' J ρ q70 => ?_; go_simp; (try clear q70)
   refine Ln Eb J fun _ Ea => ?_; clear J K' Eb
   refine M1 Ea 70 fun K' J ρ q70 => ?_; go_simp; (try clear q70)
   refine Ln Ea J fun _ Eb => ?_; clear J K' Ea
   refine M1 Eb 73 fun K' J ρ q73 => ?_; go_simp; (try clear q73)
   refine Ln Eb J fun _ Ea => ?_; clear J K' Eb
   refine M1 Ea 74 fun K' J ρ q74 => ?_; go_simp; (try clear q74)
   refine Ln Ea J fun _ Eb => ?_; clear J K' Ea
   refine late_done [1, 2, 8, 9, 17, 18] Eb hK (fun a hE => ?_); clear hK K Q' Eb; simp only [lk, pick, Nat.reduceEqDiff, ↓reduceIte] at hE
   clear nX cX0 cX1 cX2 cX3 cX4 cX5 cX6
   refine Ks ?_
   refine Rs 2 fun Q' K hK => ?_
   refine M1 hE 18 fun K' J ρ q18 => ?_; go_simp; (try clear q18)
   refine Ln hE J fun _ Eb => ?_; clear J K' hE a
   refine M1 Eb 75 fun K' J ρ q75 => ?_; go_simp; (try go_bits); (try clear q75)
   refine Ln Eb J fun _ Ea => ?_; clear J K' Eb
   replace Ea := Ea.turn 76 (v' := .bool false) rfl (by (first | rfl | simp))
   refine late_done [1, 2, 8, 9, 17, 76] Ea hK (fun a hE => ?_); clear hK K Q' Ea; simp only [lk, pick, Nat.reduceEqDiff, ↓reduceIte] at hE
   refine Ks ?_
   refine cond_no hE (t := 76) rfl ?_
   refine Ks ?_
   refine Rs 8 fun Q' K hK => ?_
   refine M1 hE 8 fun K' J ρ q8 => ?_; go_simp; (try clear q8)
   refine Ln hE J fun _ Eb => ?_; clear J K' hE a
   refine M1 Eb 17 fun K' J ρ q17 => ?_; go_simp; (try clear q17)
   refine Ln Eb J fun _ Ea => ?_; clear J K' Eb
   refine M2 Ea 77 78 fun K' J ρ q77 q78 => ?_; go_simp; (try go_bits); (try clear q77 q78)
   refine Ln Ea J fun _ Eb => ?_; clear J K' Ea
   replace Eb := Eb.turn 79 (v' := .int .i64 (worstP b i0)) rfl (by (rw [← HWD.out]))
   refine M1 Eb 9 fun K' J ρ q9 => ?_; go_simp; (try clear q9)
   refine Ln Eb J fun _ Ea => ?_; clear J K' Eb
   refine M1 Ea 17 fun K' J ρ q17 => ?_; go_simp; (try clear q17)
   refine Ln Ea J fun _ Eb => ?_; clear J K' Ea
   refine M2 Eb 80 81 fun K' J ρ q80 q81 => ?_; go_simp; (try go_bits); (try simp (disch := omega) only [IntWalk.i64_in]); (try clear q80 q81)
   refine Ln Eb J fun _ Ea => ?_; clear J K' Eb
   refine M1 Ea 79 fun K' J ρ q79 => ?_; go_simp; (try clear q79)
   refine Ln Ea J fun _ Eb => ?_; clear J K' Ea
   refine M1 Eb 82 fun K' J ρ q82 => ?_; go_simp; (try clear q82)
   refine Ln Eb J fun _ Ea => ?_; clear J K' Eb
   refine late_done [1, 2, 8, 9] Ea hK (fun a hE => ?_); clear hK K Q' Ea; simp only [lk, pick, Nat.reduceEqDiff, ↓reduceIte] at hE
   refine Ks ?_
   refine Rs 6 fun Q' K hK => ?_
   refine M1 hE 8 fun K' J ρ q8 => ?_; go_simp; (try clear q8)
   refine Ln hE J fun _ Eb => ?_; clear J K' hE a
   refine M1 Eb 9 fun K' J ρ q9 => ?_; go_simp; (try clear q9)
   refine Ln Eb J fun _ Ea => ?_; clear J K' Eb
   refine M1 Ea 2 fun K' J ρ q2 => ?_; go_simp; (try clear q2)
   refine Ln Ea J fun _ Eb => ?_; clear J K' Ea
   refine M2 Eb 84 85 fun K' J ρ q84 q85 => ?_; go_simp; (try go_bits); (try clear q84 q85)
   refine Ln Eb J fun _ Ea => ?_; clear J K' Eb
   replace Ea := Ea.turn 86 (v' := .bool true) rfl (by (first | rfl | (simp; done) | (simp; omega)))
   refine M1 Ea 83 fun K' J ρ q83 => ?_; go_simp; (try clear q83)
   refine Ln Ea J fun _ Eb => ?_; clear J K' Ea
   refine M1 Eb 86 fun K' J ρ q86 => ?_; go_simp; (try clear q86)
   refine Ln Eb J fun _ Ea => ?_; clear J K' Eb
   refine late_done [6, 7] Ea hK (fun a hE => ?_); clear hK K Q' Ea; simp only [lk, pick, Nat.reduceEqDiff, ↓reduceIte] at hE
   refine Ks ?_
   exact ret_two hE rfl rfl rfl ⟨rfl, hb7.trans (h8.mono hb7.size)⟩
  ·have hlz : b.lost = 0 := by have := of_decide_eq_false h; omega
   clear h
   have hcz := HCZ.out hlz
   rw [hcz] at hall2
   have hrw : r = worstP b i0 := by have := HWD.out; rw [hcz] at this; omega
   refine Ks ?_
   refine Rs 6 fun Q' K hK => ?_
   refine M1 hE 8 fun K' J ρ q8 => ?_; go_simp; (try clear q8)
   refine Ln hE J fun _ Eb => ?_; clear J K' hE a
   refine M1 Eb 9 fun K' J ρ q9 => ?_; go_simp; (try clear q9)
   refine Ln Eb J fun _ Ea => ?_; clear J K' Eb
   refine M1 Ea 2 fun K' J ρ q2 => ?_; go_simp; (try clear q2)
   refine Ln Ea J fun _ Eb => ?_; clear J K' Ea
   refine M2 Eb 84 85 fun K' J ρ q84 q85 => ?_; go_simp; (try go_bits); (try clear q84 q85)
   refine Ln Eb J fun _ Ea => ?_; clear J K' Eb
   replace Ea := Ea.turn 86 (v' := .bool true) rfl (by (first | rfl | (simp; done) | (simp; omega)))
   refine M1 Ea 83 fun K' J ρ q83 => ?_; go_simp; (try clear q83)
   refine Ln Ea J fun _ Eb => ?_; clear J K' Ea
   refine M1 Eb 86 fun K' J ρ q86 => ?_; go_simp; (try clear q86)
   refine Ln Eb J fun _ Ea => ?_; clear J K' Eb
   refine late_done [6, 7] Ea hK (fun a hE => ?_); clear hK K Q' Ea; simp only [lk, pick, Nat.reduceEqDiff, ↓reduceIte] at hE
   refine Ks ?_
   exact ret_two hE rfl rfl rfl ⟨rfl, hb6⟩
end
end Go.Proofs.Ytbimkcjdodgojaa
