/- Slope: an hour in the calculation. -/
import Derived.Test.YtkhmcofmjjmjhaaDoorKTSb

namespace Go.Proofs.YtkhmcofmjjmjhaaDoor
set_option linter.unusedSimpArgs false
set_option linter.unusedVariables false
open Go Go.RowKit
attribute [local go_sem high] cell_set_wr
attribute [local go_sem low] cell_wr frozen_wr
attribute [local go_sem] wr_set wr_drew wr_drewN wr_alloc wr_new Rho.c Rho.n Rho.g
/-- an hour with its slope, its sights, and what it brings -/
structure Hp where
 hr : Hr
 sl : Sl
 sights : List Si
 brings : List Int
def hpV (S : Option Addr) (scap : Nat) (G : Option Addr) (gcap : Nat) (x : Hp) : List Value := [.int .i64 x.hr.n1, .int .i64 x.hr.n2, .int .i64 x.hr.w1, .int .i64 x.hr.w2, .int .i64 x.hr.s1, .int .i64 x.hr.s2, .int .i64 x.sl.snow, .int .i64 x.sl.wind, .int .i64 x.sl.sun, .int .i64 x.sl.settle, .int .i64 x.sl.hold, .slice S x.sights.length scap, .slice G x.brings.length gcap]
def HpAt (w : World) (S G : Option Addr) (x : Hp) : Prop := ArrD w S (sis x.sights) ∧ ArrD w G (ints x.brings)
theorem HpAt.below {w w' : World} {S G : Option Addr} {x : Hp} (h : HpAt w S G x) (hb : Below w.heap.size w w') : HpAt w' S G x := ⟨h.1.below hb, h.2.below hb⟩
theorem ArrD.int {w : World} {A : Option Addr} {l : List Int} (h : ArrD w A (ints l)) {k : Nat} (hk : k < l.length) : ∃ b o, A = some ⟨b, o, none⟩ ∧ b < w.heap.size ∧ w.cell? ⟨b, o + k, none⟩ = some (.int .i64 l[k]) := Arr.int h hk
theorem ret_cell {P : Program} {w : World} {a : Act} {n : Nat} {e : Env} {fn : Func} {Q : Ending → World → Prop} (hE : Fits n e a) {p ty R : Nat} {v : List Value} {d : TypeDesc} (hf : fn.results = #[.cell p ty]) (hp : lk p e = some (.pointer (some ⟨R, 0, none⟩))) (hc : ∀ j u, v[j]? = some u → w.cell? ⟨R, j, none⟩ = some u) (hu : P.underlying ty = some d) (hd : d.isRow = true) (hi : (P.info? ty).map (·.size) = some v.length) (h : Q (.returned (.agg v.toArray)) w) : bodyPost P fn Q .ret a w := by
 refine bodyPost_ret (v := .agg v.toArray) ?_ hE.1 h
 exact res_cell hf (hE.at p hp) hc hu hd hi
theorem sum_take {l : List Int} {k : Nat} (h : k < l.length) : (l.take (k + 1)).sum = (l.take k).sum + l[k] := by
 rw [List.take_succ_eq_append_getElem h, List.sum_append]
 simp
set_option maxRecDepth 100000 in
theorem sum_any (A : Option Addr) (c : Nat) (l : List Int) (w : World) (hA : ArrD w A (ints l)) (hl : l.length ≤ 1000) (hb : ∀ k, k ≤ l.length → -1000000000 ≤ (l.take k).sum ∧ (l.take k).sum ≤ 1000000000) : Calls Tryd.prog 96 #[.slice A l.length c] w fun e w' => e = .returned (.int .i64 l.sum) ∧ w = w' := by
 have HB := hid hb
 clear hb
 refine enterE Tryd.func96 rfl Tryd.ntmps96 (by simp) (fun a hE => ?_); simp only [envOf, Nat.zero_add, Nat.reduceAdd] at hE
 refine Ks ?_
 refine Rs 1 fun Q' K hK => ?_
 refine M0 fun K' J ρ => ?_; go_simp;
 refine Ln hE J fun _ Eb => ?_; clear J K' hE a
 refine Ld [0] Eb hK fun a hE => ?_; clear hK K Q' Eb
 refine Ks ?_
 refine Rs 1 fun Q' K hK => ?_
 refine M0 fun K' J ρ => ?_; go_simp;
 refine Ln hE J fun _ Eb => ?_; clear J K' hE a
 refine Ld [0, 3] Eb hK fun a hE => ?_; clear hK K Q' Eb
 refine Ks ?_
 refine Rs 3 fun Q' K hK => ?_
 refine M1 hE 0 fun K' J ρ q0 => ?_; go_simp
 refine Ln hE J fun _ Eb => ?_; clear J K' hE a q0
 refine M1 Eb 6 fun K' J ρ q6 => ?_; go_simp; (try go_bits)
 refine Ln Eb J fun _ Ea => ?_; clear J K' Eb q6
 refine M0 fun K' J ρ => ?_; go_simp;
 refine Ln Ea J fun _ Eb => ?_; clear J K' Ea
 refine Ld [3, 6, 7, 8] Eb hK fun a hE => ?_; clear hK K Q' Eb
 refine Ks ?_
 refine loop_st (fun (k : Nat) a w' => k ≤ l.length ∧ Fits 17 [(3, .int .i64 (l.take k).sum), (6, .slice A l.length c), (7, .int .i64 l.length), (8, .int .i64 k)] a ∧ w = w') (fun k => l.length - k) 0 ⟨Nat.zero_le _, by simpa using hE, rfl⟩ (fun k a w' hI => ?_)
 clear hE
 obtain ⟨hk, hE, hw⟩ := hI
 subst hw
 by_cases hlt : k < l.length
 ·have hltI : (k : Int) < l.length := by omega
  have HS := hid (sum_take hlt)
  have h1 := HB.out k hk
  have h2 := HB.out (k + 1) hlt
  rw [HS.out] at h2
  obtain ⟨b, o, hAe, hlb, c0⟩ := hA.int hlt
  obtain ⟨x, hx⟩ : ∃ x, l[k] = x := ⟨_, rfl⟩
  rw [hx] at c0 h2 HS
  clear hx
  obtain ⟨s, hs⟩ : ∃ s, (l.take k).sum = s := ⟨_, rfl⟩
  rw [hs] at h1 h2 hE HS
  clear hs
  obtain ⟨h3, h4⟩ := h2
  obtain ⟨h1, h5⟩ := h1
  subst hAe
  refine Ks ?_
  refine Rs 1 fun Q' K hK => ?_
  refine M2 hE 8 7 fun K' J ρ q8 q7 => ?_; go_simp; (try go_bits)
  refine Ln hE J fun _ Eb => ?_; clear J K' hE a q8 q7
  replace Eb := Eb.turn 9 (v' := .bool true) rfl (by (first | (simp; done) | (simp; omega)))
  refine Ld [3, 6, 7, 8, 9] Eb hK fun a hE => ?_; clear hK K Q' Eb
  refine Ks ?_
  refine cond_yes hE (t := 9) rfl ?_
  refine Ks ?_
  refine Rs 3 fun Q' K hK => ?_
  refine M2 hE 6 8 fun K' J ρ q6 q8 => ?_; go_simp; (try go_bits)
  refine Ln hE J fun _ Eb => ?_; clear J K' hE a q6 q8
  refine M1 Eb 10 fun K' J ρ q10 => ?_; go_simp
  refine Ln Eb J fun _ Ea => ?_; clear J K' Eb q10
  refine M1 Ea 11 fun K' J ρ q11 => ?_; go_simp
  refine Ln Ea J fun _ Eb => ?_; clear J K' Ea q11
  refine Ld [3, 5, 6, 7, 8] Eb hK fun a hE => ?_; clear hK K Q' Eb
  refine Ks ?_
  refine Rs 4 fun Q' K hK => ?_
  refine M1 hE 3 fun K' J ρ q3 => ?_; go_simp
  refine Ln hE J fun _ Eb => ?_; clear J K' hE a q3
  refine M1 Eb 5 fun K' J ρ q5 => ?_; go_simp
  refine Ln Eb J fun _ Ea => ?_; clear J K' Eb q5
  refine M2 Ea 12 13 fun K' J ρ q12 q13 => ?_; go_simp; (try go_bits); (try simp (disch := omega) only [IntWalk.i64_in])
  refine Ln Ea J fun _ Eb => ?_; clear J K' Ea q12 q13
  refine M1 Eb 14 fun K' J ρ q14 => ?_; go_simp
  refine Ln Eb J fun _ Ea => ?_; clear J K' Eb q14
  refine Ld [3, 6, 7, 8] Ea hK fun a hE => ?_; clear hK K Q' Ea
  refine Ks ?_
  refine Rs 2 fun Q' K hK => ?_
  refine M1 hE 8 fun K' J ρ q8 => ?_; go_simp; (try go_bits); (try simp (disch := omega) only [IntWalk.i64_in])
  refine Ln hE J fun _ Eb => ?_; clear J K' hE a q8
  refine M1 Eb 15 fun K' J ρ q15 => ?_; go_simp
  refine Ln Eb J fun _ Ea => ?_; clear J K' Eb q15
  refine Ld [3, 6, 7, 8] Ea hK fun a hE => ?_; clear hK K Q' Ea
  refine Ks ?_
  exact ⟨k + 1, ⟨hlt, by rw [HS.out]; simpa using hE, rfl⟩, by omega⟩
 ·have hke : k = l.length := by omega
  subst hke
  rw [List.take_length] at hE
  refine Ks ?_
  refine Rs 1 fun Q' K hK => ?_
  refine M2 hE 8 7 fun K' J ρ q8 q7 => ?_; go_simp; (try go_bits)
  refine Ln hE J fun _ Eb => ?_; clear J K' hE a q8 q7
  replace Eb := Eb.turn 9 (v' := .bool false) rfl (by simp)
  refine Ld [3, 6, 7, 8, 9] Eb hK fun a hE => ?_; clear hK K Q' Eb
  refine Ks ?_
  refine cond_no hE (t := 9) rfl ?_
  refine Ks ?_
  refine Rs 2 fun Q' K hK => ?_
  refine M1 hE 3 fun K' J ρ q3 => ?_; go_simp
  refine Ln hE J fun _ Eb => ?_; clear J K' hE a q3
  refine M1 Eb 16 fun K' J ρ q16 => ?_; go_simp
  refine Ln Eb J fun _ Ea => ?_; clear J K' Eb q16
  refine Ld [2] Ea hK fun a hE => ?_; clear hK K Q' Ea
  refine Ks ?_
  exact ret_one hE rfl rfl ⟨rfl, rfl⟩
def burV (n lo hi : Int) : List Value := [.int .i64 n, .int .i64 lo, .int .i64 hi]
section
variable (S : Option Addr) (scap : Nat) (G : Option Addr) (gcap : Nat) (x : Hp)
set_option maxRecDepth 100000 in
theorem hsnow_any (w : World) : Calls Tryd.prog 113 #[.agg (hpV S scap G gcap x).toArray] w fun e w' => e = .returned (.agg (burV x.sl.snow x.hr.n1 x.hr.n2).toArray) ∧ Below w.heap.size w w' := by
 obtain ⟨⟨n1, n2, w1', w2', s1, s2⟩, ⟨sn, wi, su, se, ho⟩, si, br⟩ := x
 simp only [hpV, burV]
 refine enterE Tryd.func113 rfl Tryd.ntmps113 (by simp) (fun a hE => ?_); simp only [envOf, Nat.zero_add, Nat.reduceAdd] at hE
 refine Ks ?_
 refine Rs 2 fun Q' K hK => ?_
 refine M1 hE 0 fun K' J ρ q0 => ?_; go_simp
 refine Ln hE J fun _ Eb => ?_; clear J K' hE a q0
 refine M0 fun K' J ρ => ?_; go_simp;
 refine Ln Eb J fun _ Ea => ?_; clear J K' Eb
 refine Ld [1, 2] Ea hK fun a hE => ?_; clear hK K Q' Ea
 obtain ⟨B, hB⟩ : ∃ B, B = w.heap.size := ⟨_, rfl⟩
 obtain ⟨R, hR⟩ : ∃ B, B = w.heap.size + 1 := ⟨_, rfl⟩
 rw [← hR, ← hB] at hE
 refine world_cut (fun wt => Below w.heap.size w wt ∧ Cells wt B (hpV S scap G gcap ⟨⟨n1, n2, w1', w2', s1, s2⟩, ⟨sn, wi, su, se, ho⟩, si, br⟩) ∧ RowD wt R 3) ?_ (fun w1 hC => ?_)
 ·rw [hB, hR]; obtain ⟨q1, q2, q3, q4⟩ := box_row w _ _ _ _; exact ⟨q1, q2, q3, _, rfl, q4⟩
 obtain ⟨hbw1, hCB, hRD⟩ := hC
 have hnR : w.heap.size ≤ R := by omega
 clear hB hR
 simp only [hpV] at hCB
 obtain ⟨hlR, zs, hzs, hRR⟩ := hRD
 have nB := hCB.1; have cB0 := hCB.2 0 _ rfl; have cB1 := hCB.2 1 _ rfl; have cB2 := hCB.2 2 _ rfl; have cB3 := hCB.2 3 _ rfl; have cB4 := hCB.2 4 _ rfl; have cB5 := hCB.2 5 _ rfl; have cB6 := hCB.2 6 _ rfl; have cB7 := hCB.2 7 _ rfl; have cB8 := hCB.2 8 _ rfl; have cB9 := hCB.2 9 _ rfl; have cB10 := hCB.2 10 _ rfl
 refine Ks ?_
 refine Rs 8 fun Q' K hK => ?_
 refine M1 hE 1 fun K' J ρ q1 => ?_; go_simp
 refine Ln hE J fun _ Eb => ?_; clear J K' hE a q1
 refine M1 Eb 3 fun K' J ρ q3 => ?_; go_simp
 refine Ln Eb J fun _ Ea => ?_; clear J K' Eb q3
 refine M1 Ea 4 fun K' J ρ q4 => ?_; go_simp
 refine Ln Ea J fun _ Eb => ?_; clear J K' Ea q4
 refine M1 Eb 1 fun K' J ρ q1 => ?_; go_simp
 refine Ln Eb J fun _ Ea => ?_; clear J K' Eb q1
 refine M1 Ea 6 fun K' J ρ q6 => ?_; go_simp
 refine Ln Ea J fun _ Eb => ?_; clear J K' Ea q6
 refine M1 Eb 7 fun K' J ρ q7 => ?_; go_simp
 refine Ln Eb J fun _ Ea => ?_; clear J K' Eb q7
 refine M2 Ea 5 8 fun K' J ρ q5 q8 => ?_; go_simp
 refine Ln Ea J fun _ Eb => ?_; clear J K' Ea q5 q8
 refine Lp fun K' J => ?_
 have r2 := Eb.at 2 rfl; have r9 := Eb.at 9 rfl
 refine wp_store_mid 138 (.tmp 2) (.tmp 9) rfl R 0 #[.int .i64 sn, .int .i64 n1, .int .i64 n2] (eval_of r2) (eval_of r9) (there_row hRR (by rw [hzs]; exact Nat.le_refl _)) (by kernel_rfl) (by kernel_rfl) ?_
 (try clear r2 r9)
 refine late_skip Eb J (fun _ Ea => ?_); clear J K'; clear Eb
 refine Ld [2] Ea hK fun a hE => ?_; clear hK K Q' Ea
 obtain ⟨q1, q2, _, _⟩ := cells_stored hRR (vs := [.int .i64 sn, .int .i64 n1, .int .i64 n2]) (by rw [hzs]; rfl) hlR hnR hbw1
 refine world_cut (fun wt => Cells wt R [.int .i64 sn, .int .i64 n1, .int .i64 n2] ∧ Below w.heap.size w wt) ⟨q1, q2⟩ (fun w9 hCut => ?_)
 obtain ⟨hC9, hb9⟩ := hCut
 refine Ks ?_
 exact ret_cell hE rfl rfl hC9.2 Tryd.underlying138 rfl (by kernel_rfl) ⟨rfl, hb9⟩
set_option maxRecDepth 100000 in
theorem hwind_any (w : World) : Calls Tryd.prog 114 #[.agg (hpV S scap G gcap x).toArray] w fun e w' => e = .returned (.agg (burV x.sl.wind x.hr.w1 x.hr.w2).toArray) ∧ Below w.heap.size w w' := by
 obtain ⟨⟨n1, n2, w1', w2', s1, s2⟩, ⟨sn, wi, su, se, ho⟩, si, br⟩ := x
 simp only [hpV, burV]
 refine enterE Tryd.func114 rfl Tryd.ntmps114 (by simp) (fun a hE => ?_); simp only [envOf, Nat.zero_add, Nat.reduceAdd] at hE
 refine Ks ?_
 refine Rs 2 fun Q' K hK => ?_
 refine M1 hE 0 fun K' J ρ q0 => ?_; go_simp
 refine Ln hE J fun _ Eb => ?_; clear J K' hE a q0
 refine M0 fun K' J ρ => ?_; go_simp;
 refine Ln Eb J fun _ Ea => ?_; clear J K' Eb
 refine Ld [1, 2] Ea hK fun a hE => ?_; clear hK K Q' Ea
 obtain ⟨B, hB⟩ : ∃ B, B = w.heap.size := ⟨_, rfl⟩
 obtain ⟨R, hR⟩ : ∃ B, B = w.heap.size + 1 := ⟨_, rfl⟩
 rw [← hR, ← hB] at hE
 refine world_cut (fun wt => Below w.heap.size w wt ∧ Cells wt B (hpV S scap G gcap ⟨⟨n1, n2, w1', w2', s1, s2⟩, ⟨sn, wi, su, se, ho⟩, si, br⟩) ∧ RowD wt R 3) ?_ (fun w1 hC => ?_)
 ·rw [hB, hR]; obtain ⟨q1, q2, q3, q4⟩ := box_row w _ _ _ _; exact ⟨q1, q2, q3, _, rfl, q4⟩
 obtain ⟨hbw1, hCB, hRD⟩ := hC
 have hnR : w.heap.size ≤ R := by omega
 clear hB hR
 simp only [hpV] at hCB
 obtain ⟨hlR, zs, hzs, hRR⟩ := hRD
 have nB := hCB.1; have cB0 := hCB.2 0 _ rfl; have cB1 := hCB.2 1 _ rfl; have cB2 := hCB.2 2 _ rfl; have cB3 := hCB.2 3 _ rfl; have cB4 := hCB.2 4 _ rfl; have cB5 := hCB.2 5 _ rfl; have cB6 := hCB.2 6 _ rfl; have cB7 := hCB.2 7 _ rfl; have cB8 := hCB.2 8 _ rfl; have cB9 := hCB.2 9 _ rfl; have cB10 := hCB.2 10 _ rfl
 refine Ks ?_
 refine Rs 8 fun Q' K hK => ?_
 refine M1 hE 1 fun K' J ρ q1 => ?_; go_simp
 refine Ln hE J fun _ Eb => ?_; clear J K' hE a q1
 refine M1 Eb 3 fun K' J ρ q3 => ?_; go_simp
 refine Ln Eb J fun _ Ea => ?_; clear J K' Eb q3
 refine M1 Ea 4 fun K' J ρ q4 => ?_; go_simp
 refine Ln Ea J fun _ Eb => ?_; clear J K' Ea q4
 refine M1 Eb 1 fun K' J ρ q1 => ?_; go_simp
 refine Ln Eb J fun _ Ea => ?_; clear J K' Eb q1
 refine M1 Ea 6 fun K' J ρ q6 => ?_; go_simp
 refine Ln Ea J fun _ Eb => ?_; clear J K' Ea q6
 refine M1 Eb 7 fun K' J ρ q7 => ?_; go_simp
 refine Ln Eb J fun _ Ea => ?_; clear J K' Eb q7
 refine M2 Ea 5 8 fun K' J ρ q5 q8 => ?_; go_simp
 refine Ln Ea J fun _ Eb => ?_; clear J K' Ea q5 q8
 refine Lp fun K' J => ?_
 have r2 := Eb.at 2 rfl; have r9 := Eb.at 9 rfl
 refine wp_store_mid 138 (.tmp 2) (.tmp 9) rfl R 0 #[.int .i64 wi, .int .i64 w1', .int .i64 w2'] (eval_of r2) (eval_of r9) (there_row hRR (by rw [hzs]; exact Nat.le_refl _)) (by kernel_rfl) (by kernel_rfl) ?_
 (try clear r2 r9)
 refine late_skip Eb J (fun _ Ea => ?_); clear J K'; clear Eb
 refine Ld [2] Ea hK fun a hE => ?_; clear hK K Q' Ea
 obtain ⟨q1, q2, _, _⟩ := cells_stored hRR (vs := [.int .i64 wi, .int .i64 w1', .int .i64 w2']) (by rw [hzs]; rfl) hlR hnR hbw1
 refine world_cut (fun wt => Cells wt R [.int .i64 wi, .int .i64 w1', .int .i64 w2'] ∧ Below w.heap.size w wt) ⟨q1, q2⟩ (fun w9 hCut => ?_)
 obtain ⟨hC9, hb9⟩ := hCut
 refine Ks ?_
 exact ret_cell hE rfl rfl hC9.2 Tryd.underlying138 rfl (by kernel_rfl) ⟨rfl, hb9⟩
set_option maxRecDepth 100000 in
theorem hsun_any (w : World) : Calls Tryd.prog 115 #[.agg (hpV S scap G gcap x).toArray] w fun e w' => e = .returned (.agg (burV x.sl.sun x.hr.s1 x.hr.s2).toArray) ∧ Below w.heap.size w w' := by
 obtain ⟨⟨n1, n2, w1', w2', s1, s2⟩, ⟨sn, wi, su, se, ho⟩, si, br⟩ := x
 simp only [hpV, burV]
 refine enterE Tryd.func115 rfl Tryd.ntmps115 (by simp) (fun a hE => ?_); simp only [envOf, Nat.zero_add, Nat.reduceAdd] at hE
 refine Ks ?_
 refine Rs 2 fun Q' K hK => ?_
 refine M1 hE 0 fun K' J ρ q0 => ?_; go_simp
 refine Ln hE J fun _ Eb => ?_; clear J K' hE a q0
 refine M0 fun K' J ρ => ?_; go_simp;
 refine Ln Eb J fun _ Ea => ?_; clear J K' Eb
 refine Ld [1, 2] Ea hK fun a hE => ?_; clear hK K Q' Ea
 obtain ⟨B, hB⟩ : ∃ B, B = w.heap.size := ⟨_, rfl⟩
 obtain ⟨R, hR⟩ : ∃ B, B = w.heap.size + 1 := ⟨_, rfl⟩
 rw [← hR, ← hB] at hE
 refine world_cut (fun wt => Below w.heap.size w wt ∧ Cells wt B (hpV S scap G gcap ⟨⟨n1, n2, w1', w2', s1, s2⟩, ⟨sn, wi, su, se, ho⟩, si, br⟩) ∧ RowD wt R 3) ?_ (fun w1 hC => ?_)
 ·rw [hB, hR]; obtain ⟨q1, q2, q3, q4⟩ := box_row w _ _ _ _; exact ⟨q1, q2, q3, _, rfl, q4⟩
 obtain ⟨hbw1, hCB, hRD⟩ := hC
 have hnR : w.heap.size ≤ R := by omega
 clear hB hR
 simp only [hpV] at hCB
 obtain ⟨hlR, zs, hzs, hRR⟩ := hRD
 have nB := hCB.1; have cB0 := hCB.2 0 _ rfl; have cB1 := hCB.2 1 _ rfl; have cB2 := hCB.2 2 _ rfl; have cB3 := hCB.2 3 _ rfl; have cB4 := hCB.2 4 _ rfl; have cB5 := hCB.2 5 _ rfl; have cB6 := hCB.2 6 _ rfl; have cB7 := hCB.2 7 _ rfl; have cB8 := hCB.2 8 _ rfl; have cB9 := hCB.2 9 _ rfl; have cB10 := hCB.2 10 _ rfl
 refine Ks ?_
 refine Rs 8 fun Q' K hK => ?_
 refine M1 hE 1 fun K' J ρ q1 => ?_; go_simp
 refine Ln hE J fun _ Eb => ?_; clear J K' hE a q1
 refine M1 Eb 3 fun K' J ρ q3 => ?_; go_simp
 refine Ln Eb J fun _ Ea => ?_; clear J K' Eb q3
 refine M1 Ea 4 fun K' J ρ q4 => ?_; go_simp
 refine Ln Ea J fun _ Eb => ?_; clear J K' Ea q4
 refine M1 Eb 1 fun K' J ρ q1 => ?_; go_simp
 refine Ln Eb J fun _ Ea => ?_; clear J K' Eb q1
 refine M1 Ea 6 fun K' J ρ q6 => ?_; go_simp
 refine Ln Ea J fun _ Eb => ?_; clear J K' Ea q6
 refine M1 Eb 7 fun K' J ρ q7 => ?_; go_simp
 refine Ln Eb J fun _ Ea => ?_; clear J K' Eb q7
 refine M2 Ea 5 8 fun K' J ρ q5 q8 => ?_; go_simp
 refine Ln Ea J fun _ Eb => ?_; clear J K' Ea q5 q8
 refine Lp fun K' J => ?_
 have r2 := Eb.at 2 rfl; have r9 := Eb.at 9 rfl
 refine wp_store_mid 138 (.tmp 2) (.tmp 9) rfl R 0 #[.int .i64 su, .int .i64 s1, .int .i64 s2] (eval_of r2) (eval_of r9) (there_row hRR (by rw [hzs]; exact Nat.le_refl _)) (by kernel_rfl) (by kernel_rfl) ?_
 (try clear r2 r9)
 refine late_skip Eb J (fun _ Ea => ?_); clear J K'; clear Eb
 refine Ld [2] Ea hK fun a hE => ?_; clear hK K Q' Ea
 obtain ⟨q1, q2, _, _⟩ := cells_stored hRR (vs := [.int .i64 su, .int .i64 s1, .int .i64 s2]) (by rw [hzs]; rfl) hlR hnR hbw1
 refine world_cut (fun wt => Cells wt R [.int .i64 su, .int .i64 s1, .int .i64 s2] ∧ Below w.heap.size w wt) ⟨q1, q2⟩ (fun w9 hCut => ?_)
 obtain ⟨hC9, hb9⟩ := hCut
 refine Ks ?_
 exact ret_cell hE rfl rfl hC9.2 Tryd.underlying138 rfl (by kernel_rfl) ⟨rfl, hb9⟩
set_option maxRecDepth 100000 in
theorem sources_any (w : World) : Calls Tryd.prog 94 #[] w fun e w' => e = .returned (.agg #[.func (.func 113) #[] #[], .func (.func 114) #[] #[], .func (.func 115) #[] #[]]) ∧ Below w.heap.size w w' := by
 refine enterE Tryd.func94 rfl Tryd.ntmps94 (by simp) (fun a hE => ?_); simp only [envOf, Nat.zero_add, Nat.reduceAdd] at hE
 refine Ks ?_
 refine Rs 1 fun Q' K hK => ?_
 refine M0 fun K' J ρ => ?_; go_simp;
 refine Ln hE J fun _ Eb => ?_; clear J K' hE a
 refine Ld [0] Eb hK fun a hE => ?_; clear hK K Q' Eb
 obtain ⟨R, hR⟩ : ∃ B, B = w.heap.size := ⟨_, rfl⟩
 rw [← hR] at hE
 refine world_cut (fun wt => Below w.heap.size w wt ∧ RowD wt R 3) ⟨(Below.refl _ _).alloc (Nat.le_refl _) _, by rw [hR]; exact ⟨by simp, _, rfl, row_new w _ _⟩⟩ (fun w1 hC => ?_)
 obtain ⟨hbw1, hRD⟩ := hC
 have hnR : w.heap.size ≤ R := Nat.le_of_eq hR.symm
 clear hR
 obtain ⟨hlR, zs, hzs, hRR⟩ := hRD
 refine Ks ?_
 refine Rs 5 fun Q' K hK => ?_
 refine M0 fun K' J ρ => ?_; go_simp;
 refine Ln hE J fun _ Eb => ?_; clear J K' hE a
 refine M0 fun K' J ρ => ?_; go_simp;
 refine Ln Eb J fun _ Ea => ?_; clear J K' Eb
 refine M0 fun K' J ρ => ?_; go_simp;
 refine Ln Ea J fun _ Eb => ?_; clear J K' Ea
 refine M3 Eb 1 2 3 fun K' J ρ q1 q2 q3 => ?_; go_simp
 refine Ln Eb J fun _ Ea => ?_; clear J K' Eb q1 q2 q3
 refine Lp fun K' J => ?_
 have r0 := Ea.at 0 rfl; have r4 := Ea.at 4 rfl
 refine wp_store_mid 133 (.tmp 0) (.tmp 4) rfl R 0 #[.func (.func 113) #[] #[], .func (.func 114) #[] #[], .func (.func 115) #[] #[]] (eval_of r0) (eval_of r4) (there_row hRR (by rw [hzs]; exact Nat.le_refl _)) (by kernel_rfl) (by kernel_rfl) ?_
 (try clear r0 r4)
 refine late_skip Ea J (fun _ Eb => ?_); clear J K'; clear Ea
 refine Ld [0] Eb hK fun a hE => ?_; clear hK K Q' Eb
 obtain ⟨q1, q2, _, _⟩ := cells_stored hRR (vs := [.func (.func 113) #[] #[], .func (.func 114) #[] #[], .func (.func 115) #[] #[]]) (by rw [hzs]; rfl) hlR hnR hbw1
 refine world_cut (fun wt => Cells wt R [.func (.func 113) #[] #[], .func (.func 114) #[] #[], .func (.func 115) #[] #[]] ∧ Below w.heap.size w wt) ⟨q1, q2⟩ (fun w9 hCut => ?_)
 obtain ⟨hC9, hb9⟩ := hCut
 refine Ks ?_
 exact ret_cell hE rfl rfl hC9.2 Tryd.underlying133 rfl (by kernel_rfl) ⟨rfl, hb9⟩
set_option maxRecDepth 100000 in
theorem load_any (left n : Int) (w : World) (hl : 0 ≤ left ∧ left ≤ 2000) (hn : 0 ≤ n ∧ n ≤ 2000) (hs : 0 ≤ x.sl.settle ∧ x.sl.settle ≤ 30) : Calls Tryd.prog 123 #[.agg (hpV S scap G gcap x).toArray, .int .i64 left, .int .i64 n] w fun e w' => e = .returned (.int .i64 (max (left - x.sl.settle) 0 + n)) ∧ Below w.heap.size w w' := by
 obtain ⟨⟨n1, n2, w1', w2', s1, s2⟩, ⟨sn, wi, su, se, ho⟩, si, br⟩ := x
 obtain ⟨hl1, hl2⟩ := hl
 obtain ⟨hn1, hn2⟩ := hn
 obtain ⟨hs1, hs2⟩ := hs
 simp only at hs1 hs2
 have CS := hid fun (A : Option Addr) (c : Nat) (W : World) (hA : ArrD W A (ints [max (left - se) 0, n])) => sum_any A c [max (left - se) 0, n] W hA (by simp) (fun k hk => by
  have h3 : k = 0 ∨ k = 1 ∨ k = 2 := by simp at hk; omega
  rcases h3 with rfl | rfl | rfl <;> simp <;> omega)
 have HS : Hid ([max (left - se) 0, n].sum = max (left - se) 0 + n) := hid (by simp)
 rw [HS.out] at CS
 simp only [hpV]
 refine enterE Tryd.func123 rfl Tryd.ntmps123 (by simp) (fun a hE => ?_); simp only [envOf, Nat.zero_add, Nat.reduceAdd] at hE
 refine Ks ?_
 refine Rs 2 fun Q' K hK => ?_
 refine M1 hE 0 fun K' J ρ q0 => ?_; go_simp
 refine Ln hE J fun _ Eb => ?_; clear J K' hE a q0
 refine M0 fun K' J ρ => ?_; go_simp;
 refine Ln Eb J fun _ Ea => ?_; clear J K' Eb
 refine Ld [1, 2, 3] Ea hK fun a hE => ?_; clear hK K Q' Ea
 obtain ⟨B, hBe⟩ : ∃ B, B = w.heap.size := ⟨_, rfl⟩; rw [← hBe] at hE; refine world_cut (fun wt => Below w.heap.size w wt ∧ Cells wt B (hpV S scap G gcap ⟨⟨n1, n2, w1', w2', s1, s2⟩, ⟨sn, wi, su, se, ho⟩, si, br⟩)) ⟨(Below.refl _ _).alloc (Nat.le_refl _) _, by rw [hBe]; exact cells_new _ _ _⟩ (fun w1 hCut => ?_); obtain ⟨hbw1, hCB⟩ := hCut; clear hBe
 simp only [hpV] at hCB
 have nB := hCB.1; have cB0 := hCB.2 0 _ rfl; have cB1 := hCB.2 1 _ rfl; have cB2 := hCB.2 2 _ rfl; have cB3 := hCB.2 3 _ rfl; have cB4 := hCB.2 4 _ rfl; have cB5 := hCB.2 5 _ rfl; have cB6 := hCB.2 6 _ rfl; have cB7 := hCB.2 7 _ rfl; have cB8 := hCB.2 8 _ rfl; have cB9 := hCB.2 9 _ rfl; have cB10 := hCB.2 10 _ rfl
 refine Ks ?_
 refine Rs 10 fun Q' K hK => ?_
 refine M1 hE 1 fun K' J ρ q1 => ?_; go_simp
 refine Ln hE J fun _ Eb => ?_; clear J K' hE a q1
 refine M1 Eb 3 fun K' J ρ q3 => ?_; go_simp
 refine Ln Eb J fun _ Ea => ?_; clear J K' Eb q3
 refine M1 Ea 8 fun K' J ρ q8 => ?_; go_simp
 refine Ln Ea J fun _ Eb => ?_; clear J K' Ea q8
 refine M1 Eb 9 fun K' J ρ q9 => ?_; go_simp
 refine Ln Eb J fun _ Ea => ?_; clear J K' Eb q9
 refine M2 Ea 7 10 fun K' J ρ q7 q10 => ?_; go_simp; (try go_bits); (try simp (disch := omega) only [IntWalk.i64_in])
 refine Ln Ea J fun _ Eb => ?_; clear J K' Ea q7 q10
 refine M1 Eb 11 fun K' J ρ q11 => ?_; go_simp; (try go_bits)
 refine Ln Eb J fun _ Ea => ?_; clear J K' Eb q11
 refine M1 Ea 2 fun K' J ρ q2 => ?_; go_simp
 refine Ln Ea J fun _ Eb => ?_; clear J K' Ea q2
 refine M2 Eb 12 13 fun K' J ρ q12 q13 => ?_; go_simp
 refine Ln Eb J fun _ Ea => ?_; clear J K' Eb q12 q13
 refine M1 Ea 14 fun K' J ρ q14 => ?_; go_simp; (try go_bits); (try clear q14)
 go_at_call 96; refine (CS.out _ _ _ ((arr_new w1 _ _).more (by simp))).mono ?_; rintro e w2 ⟨rfl, rfl⟩
 (try clear r14)
 refine Ln Ea J fun _ Eb => ?_; clear J K' Ea
 refine M1 Eb 15 fun K' J ρ q15 => ?_; go_simp
 refine Ln Eb J fun _ Ea => ?_; clear J K' Eb q15
 refine Ld [6] Ea hK fun a hE => ?_; clear hK K Q' Ea
 refine Ks ?_
 exact ret_one hE rfl rfl ⟨rfl, hbw1.alloc hbw1.size _⟩
set_option maxRecDepth 100000 in
theorem isTooMuch_any (n : Int) (w : World) : Calls Tryd.prog 118 #[.agg (hpV S scap G gcap x).toArray, .int .i64 n] w fun e w' => e = .returned (.bool (decide (x.sl.hold < n))) ∧ Below w.heap.size w w' := by
 obtain ⟨⟨n1, n2, w1', w2', s1, s2⟩, ⟨sn, wi, su, se, ho⟩, si, br⟩ := x
 simp only [hpV]
 refine enterE Tryd.func118 rfl Tryd.ntmps118 (by simp) (fun a hE => ?_); simp only [envOf, Nat.zero_add, Nat.reduceAdd] at hE
 refine Ks ?_
 refine Rs 2 fun Q' K hK => ?_
 refine M1 hE 0 fun K' J ρ q0 => ?_; go_simp
 refine Ln hE J fun _ Eb => ?_; clear J K' hE a q0
 refine M0 fun K' J ρ => ?_; go_simp;
 refine Ln Eb J fun _ Ea => ?_; clear J K' Eb
 refine Ld [1, 2] Ea hK fun a hE => ?_; clear hK K Q' Ea
 obtain ⟨B, hBe⟩ : ∃ B, B = w.heap.size := ⟨_, rfl⟩; rw [← hBe] at hE; refine world_cut (fun wt => Below w.heap.size w wt ∧ Cells wt B (hpV S scap G gcap ⟨⟨n1, n2, w1', w2', s1, s2⟩, ⟨sn, wi, su, se, ho⟩, si, br⟩)) ⟨(Below.refl _ _).alloc (Nat.le_refl _) _, by rw [hBe]; exact cells_new _ _ _⟩ (fun w1 hCut => ?_); obtain ⟨hbw1, hCB⟩ := hCut; clear hBe
 simp only [hpV] at hCB
 have nB := hCB.1; have cB0 := hCB.2 0 _ rfl; have cB1 := hCB.2 1 _ rfl; have cB2 := hCB.2 2 _ rfl; have cB3 := hCB.2 3 _ rfl; have cB4 := hCB.2 4 _ rfl; have cB5 := hCB.2 5 _ rfl; have cB6 := hCB.2 6 _ rfl; have cB7 := hCB.2 7 _ rfl; have cB8 := hCB.2 8 _ rfl; have cB9 := hCB.2 9 _ rfl; have cB10 := hCB.2 10 _ rfl
 refine Ks ?_
 refine Rs 6 fun Q' K hK => ?_
 refine M1 hE 1 fun K' J ρ q1 => ?_; go_simp
 refine Ln hE J fun _ Eb => ?_; clear J K' hE a q1
 refine M1 Eb 2 fun K' J ρ q2 => ?_; go_simp
 refine Ln Eb J fun _ Ea => ?_; clear J K' Eb q2
 refine M1 Ea 6 fun K' J ρ q6 => ?_; go_simp
 refine Ln Ea J fun _ Eb => ?_; clear J K' Ea q6
 refine M1 Eb 7 fun K' J ρ q7 => ?_; go_simp
 refine Ln Eb J fun _ Ea => ?_; clear J K' Eb q7
 refine M2 Ea 5 8 fun K' J ρ q5 q8 => ?_; go_simp; (try go_bits)
 refine Ln Ea J fun _ Eb => ?_; clear J K' Ea q5 q8
 refine M1 Eb 9 fun K' J ρ q9 => ?_; go_simp
 refine Ln Eb J fun _ Ea => ?_; clear J K' Eb q9
 refine Ld [4] Ea hK fun a hE => ?_; clear hK K Q' Ea
 refine Ks ?_
 exact ret_one hE rfl rfl ⟨rfl, hbw1⟩
/-- a load fits all sights -/
def Hp.fits (x : Hp) (n : Int) : Bool := x.sights.all fun s => wB n s.lo s.hi
set_option maxRecDepth 100000 in
set_option maxHeartbeats 1000000 in
theorem fits_any (n : Int) (w : World) (hM : HpAt w S G x) (hs : x.sights.length ≤ 9223372036854775807) : Calls Tryd.prog 117 #[.agg (hpV S scap G gcap x).toArray, .int .i64 n] w fun e w' => e = .returned (.bool (x.fits n)) ∧ Below w.heap.size w w' := by
 obtain ⟨⟨n1, n2, w1', w2', s1, s2⟩, ⟨sn, wi, su, se, ho⟩, si, br⟩ := x
 have hA : ArrD w S (sis si) := hM.1
 simp only at hs
 have HF : Hid (Hp.fits ⟨⟨n1, n2, w1', w2', s1, s2⟩, ⟨sn, wi, su, se, ho⟩, si, br⟩ n = si.all fun s => wB n s.lo s.hi) := hid rfl
 rw [HF.out]
 clear HF hM
 simp only [hpV]
 refine enterE Tryd.func117 rfl Tryd.ntmps117 (by simp) (fun a hE => ?_); simp only [envOf, Nat.zero_add, Nat.reduceAdd] at hE
 refine Ks ?_
 refine Rs 2 fun Q' K hK => ?_
 refine M1 hE 0 fun K' J ρ q0 => ?_; go_simp
 refine Ln hE J fun _ Eb => ?_; clear J K' hE a q0
 refine M0 fun K' J ρ => ?_; go_simp;
 refine Ln Eb J fun _ Ea => ?_; clear J K' Eb
 refine Ld [1, 2] Ea hK fun a hE => ?_; clear hK K Q' Ea
 obtain ⟨B, hBe⟩ : ∃ B, B = w.heap.size := ⟨_, rfl⟩; rw [← hBe] at hE; refine world_cut (fun wt => Below w.heap.size w wt ∧ Cells wt B (hpV S scap G gcap ⟨⟨n1, n2, w1', w2', s1, s2⟩, ⟨sn, wi, su, se, ho⟩, si, br⟩)) ⟨(Below.refl _ _).alloc (Nat.le_refl _) _, by rw [hBe]; exact cells_new _ _ _⟩ (fun w1 hCut => ?_); obtain ⟨hbw1, hCB⟩ := hCut; clear hBe
 simp only [hpV] at hCB
 replace hA := hA.below hbw1
 have nB := hCB.1; have cB0 := hCB.2 0 _ rfl; have cB1 := hCB.2 1 _ rfl; have cB2 := hCB.2 2 _ rfl; have cB3 := hCB.2 3 _ rfl; have cB4 := hCB.2 4 _ rfl; have cB5 := hCB.2 5 _ rfl; have cB6 := hCB.2 6 _ rfl; have cB7 := hCB.2 7 _ rfl; have cB8 := hCB.2 8 _ rfl; have cB9 := hCB.2 9 _ rfl; have cB10 := hCB.2 10 _ rfl; have cB11 := hCB.2 11 _ rfl
 refine Ks ?_
 refine Rs 4 fun Q' K hK => ?_
 refine M1 hE 2 fun K' J ρ q2 => ?_; go_simp
 refine Ln hE J fun _ Eb => ?_; clear J K' hE a q2
 refine M1 Eb 7 fun K' J ρ q7 => ?_; go_simp
 refine Ln Eb J fun _ Ea => ?_; clear J K' Eb q7
 refine M1 Ea 8 fun K' J ρ q8 => ?_; go_simp; (try go_bits)
 refine Ln Ea J fun _ Eb => ?_; clear J K' Ea q8
 refine M0 fun K' J ρ => ?_; go_simp;
 refine Ln Eb J fun _ Ea => ?_; clear J K' Eb
 refine Ld [1, 8, 9, 10] Ea hK fun a hE => ?_; clear hK K Q' Ea
 refine Ks ?_
 clear nB cB0 cB1 cB2 cB3 cB4 cB5 cB6 cB7 cB8 cB9 cB10 cB11 hCB
 refine loop_st (fun (k : Nat) a w' => k ≤ si.length ∧ Fits 24 [(1, .int .i64 n), (8, .slice S si.length scap), (9, .int .i64 si.length), (10, .int .i64 k)] a ∧ Below w1.heap.size w1 w' ∧ ∀ i (h : i < si.length), i < k → wB n si[i].lo si[i].hi = true) (fun k => si.length - k) 0 ⟨Nat.zero_le _, by simpa using hE, Below.refl _ _, fun i _ h => absurd h (Nat.not_lt_zero _)⟩ (fun k a wr hI => ?_)
 clear hE
 obtain ⟨hk, hE, hW, hN⟩ := hI
 have HN := hid hN
 clear hN
 have hbr := hbw1.trans (hW.mono hbw1.size)
 have hAr := hA.below hW
 by_cases hlt : k < si.length
 ·have hltI : (k : Int) < si.length := by omega
  obtain ⟨bx, ox, hSe, hbx, x0, x1, x2, x3⟩ := hAr.si hlt
  have HQ : Hid (wB n si[k].lo si[k].hi = false → (si.all fun s => wB n s.lo s.hi) = false) := hid fun h => by
   rw [List.all_eq_false]
   exact ⟨_, List.getElem_mem hlt, by rw [h]; decide⟩
  have HI : Hid (wB n si[k].lo si[k].hi = true → ∀ i (h : i < si.length), i < k + 1 → wB n si[i].lo si[i].hi = true) := hid fun h i hi h1 => by
   by_cases e : i = k
   ·subst e; exact h
   ·exact HN.out i hi (by omega)
  obtain ⟨X, hX⟩ : ∃ X, si[k] = X := ⟨_, rfl⟩
  rw [hX] at x0 x1 x2 x3 HQ HI
  obtain ⟨xh, xf, xl, xi⟩ := X
  simp only at x0 x1 x2 x3 HQ HI
  obtain ⟨q, hq⟩ : ∃ q, wB n xl xi = q := ⟨_, rfl⟩
  rw [hq] at HQ HI
  have HV := hid hq
  subst hSe
  clear hX hq
  refine Ks ?_
  refine Rs 1 fun Q' K hK => ?_
  refine M2 hE 10 9 fun K' J ρ q10 q9 => ?_; go_simp; (try go_bits)
  refine Ln hE J fun _ Eb => ?_; clear J K' hE a q10 q9
  replace Eb := Eb.turn 11 (v' := .bool true) rfl (by (first | (simp; done) | (simp; omega)))
  refine Ld [1, 8, 9, 10, 11] Eb hK fun a hE => ?_; clear hK K Q' Eb
  refine Ks ?_
  refine cond_yes hE (t := 11) rfl ?_
  refine Ks ?_
  refine Rs 4 fun Q' K hK => ?_
  refine M2 hE 8 10 fun K' J ρ q8 q10 => ?_; go_simp; (try go_bits)
  refine Ln hE J fun _ Eb => ?_; clear J K' hE a q8 q10
  refine M1 Eb 12 fun K' J ρ q12 => ?_; go_simp
  refine Ln Eb J fun _ Ea => ?_; clear J K' Eb q12
  refine M0 fun K' J ρ => ?_; go_simp;
  refine Ln Ea J fun _ Eb => ?_; clear J K' Ea
  refine Lp fun K' J => ?_
  have r6 := Eb.at 6 rfl; have r13 := Eb.at 13 rfl
  refine wp_store_mid 68 (.tmp 6) (.tmp 13) rfl wr.heap.size 0 #[.int .i64 xh, .bool xf, .int .i64 xl, .int .i64 xi] (eval_of r6) (eval_of r13) (there_row (row_new wr _ _) (Nat.le_of_eq rfl)) (by kernel_rfl) (by kernel_rfl) ?_
  (try clear r6 r13)
  refine late_skip Eb J (fun _ Ea => ?_); clear J K'; clear Eb
  refine Ld [1, 6, 8, 9, 10] Ea hK fun a hE => ?_; clear hK K Q' Ea
  obtain ⟨C, hC⟩ : ∃ B, B = wr.heap.size := ⟨_, rfl⟩
  rw [← hC] at hE
  refine world_cut (fun wt => Below wr.heap.size wr wt ∧ Cells wt C [.int .i64 xh, .bool xf, .int .i64 xl, .int .i64 xi]) (by rw [hC]; exact boxed_new wr #[.int .i64 0, .bool false, .int .i64 0, .int .i64 0] 68 [.int .i64 xh, .bool xf, .int .i64 xl, .int .i64 xi] rfl) (fun w4 hCut => ?_)
  obtain ⟨h4, hCC⟩ := hCut
  clear hC
  have hbw4 := hbr.trans (h4.mono hbr.size)
  obtain ⟨nC, cC0, cC1, cC2, cC3⟩ := hCC.c4
  refine Ks ?_
  refine Rs 9 fun Q' K hK => ?_
  refine M1 hE 1 fun K' J ρ q1 => ?_; go_simp
  refine Ln hE J fun _ Eb => ?_; clear J K' hE a q1
  refine M1 Eb 6 fun K' J ρ q6 => ?_; go_simp
  refine Ln Eb J fun _ Ea => ?_; clear J K' Eb q6
  refine M1 Ea 15 fun K' J ρ q15 => ?_; go_simp
  refine Ln Ea J fun _ Eb => ?_; clear J K' Ea q15
  refine M1 Eb 16 fun K' J ρ q16 => ?_; go_simp
  refine Ln Eb J fun _ Ea => ?_; clear J K' Eb q16
  refine M1 Ea 6 fun K' J ρ q6 => ?_; go_simp
  refine Ln Ea J fun _ Eb => ?_; clear J K' Ea q6
  refine M1 Eb 18 fun K' J ρ q18 => ?_; go_simp
  refine Ln Eb J fun _ Ea => ?_; clear J K' Eb q18
  refine M1 Ea 19 fun K' J ρ q19 => ?_; go_simp
  refine Ln Ea J fun _ Eb => ?_; clear J K' Ea q19
  refine M3 Eb 14 17 20 fun K' J ρ q14 q17 q20 => ?_; go_simp; (try go_bits); (try clear q14 q17 q20)
  go_at_call 60; refine (within_any _ _ _ _).mono ?_; rw [HV.out]; rintro e w5 ⟨rfl, rfl⟩
  (try clear r14 r17 r20)
  refine Ln Eb J fun _ Ea => ?_; clear J K' Eb
  refine M1 Ea 21 fun K' J ρ q21 => ?_; go_simp; (try go_bits); (try simp (disch := omega) only [IntWalk.i64_in])
  refine Ln Ea J fun _ Eb => ?_; clear J K' Ea q21
  refine Ld [1, 8, 9, 10, 22] Eb hK fun a hE => ?_; clear hK K Q' Eb
  refine Ks ?_
  have hW4 := hW.trans (h4.mono hW.size)
  refine cond_part hE (t := 22) rfl (fun h => ?_) (fun h => ?_)
  ·have hq : q = false := by simpa using h
   rw [HQ.out hq]
   clear h hq
   refine Ks ?_
   refine Rs 1 fun Q' K hK => ?_
   refine M0 fun K' J ρ => ?_; go_simp;
   refine Ln hE J fun _ Eb => ?_; clear J K' hE a
   refine Ld [4] Eb hK fun a hE => ?_; clear hK K Q' Eb
   refine Ks ?_
   exact ret_one hE rfl rfl ⟨rfl, hbw4⟩
  ·have hq : q = true := by simpa using h
   have HI2 := hid (HI.out hq)
   clear h hq
   refine Ks ?_
   refine Rs 2 fun Q' K hK => ?_
   refine M1 hE 10 fun K' J ρ q10 => ?_; go_simp; (try go_bits); (try simp (disch := omega) only [IntWalk.i64_in])
   refine Ln hE J fun _ Eb => ?_; clear J K' hE a q10
   refine M1 Eb 23 fun K' J ρ q23 => ?_; go_simp
   refine Ln Eb J fun _ Ea => ?_; clear J K' Eb q23
   refine Ld [1, 8, 9, 10] Ea hK fun a hE => ?_; clear hK K Q' Ea
   refine Ks ?_
   exact ⟨k + 1, ⟨hlt, by simpa using hE, hW4, fun i hi h1 => HI2.out i hi h1⟩, by omega⟩
 ·have hke : k = si.length := by omega
  have HY : Hid ((si.all fun s => wB n s.lo s.hi) = true) := hid (List.all_eq_true.2 fun s hs => by
   obtain ⟨i, hi, rfl⟩ := List.getElem_of_mem hs
   exact HN.out i hi (by omega))
  rw [HY.out]
  subst hke
  refine Ks ?_
  refine Rs 1 fun Q' K hK => ?_
  refine M2 hE 10 9 fun K' J ρ q10 q9 => ?_; go_simp; (try go_bits)
  refine Ln hE J fun _ Eb => ?_; clear J K' hE a q10 q9
  replace Eb := Eb.turn 11 (v' := .bool false) rfl (by simp)
  refine Ld [1, 8, 9, 10, 11] Eb hK fun a hE => ?_; clear hK K Q' Eb
  refine Ks ?_
  refine cond_no hE (t := 11) rfl ?_
  refine Ks ?_
  refine Rs 1 fun Q' K hK => ?_
  refine M0 fun K' J ρ => ?_; go_simp;
  refine Ln hE J fun _ Eb => ?_; clear J K' hE a
  refine Ld [4] Eb hK fun a hE => ?_; clear hK K Q' Eb
  refine Ks ?_
  exact ret_one hE rfl rfl ⟨rfl, hbr⟩
end
end Go.Proofs.YtkhmcofmjjmjhaaDoor
