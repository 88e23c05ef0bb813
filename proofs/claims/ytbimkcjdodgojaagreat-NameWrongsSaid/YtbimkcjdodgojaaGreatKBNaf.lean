/- Name: truths, one after another: the closure that calls itself. -/
import Derived.Test.YtbimkcjdodgojaaGreatKBNaa
import Derived.ArgAppend
namespace Go.Proofs.YtbimkcjdodgojaaGreat
set_option linter.unusedSimpArgs false
set_option linter.unusedVariables false
open Go Go.RowKit
attribute [local go_sem high] cell_set_wr
attribute [local go_sem low] cell_wr frozen_wr
attribute [local go_sem] wr_set wr_drew wr_drewN wr_alloc wr_new Rho.c Rho.n Rho.g
def pairedB (t : Prs) (l : Nat) : Bool := !(matchP t l == -1)
/-- so far, the lines of which is known that they are paired -/
def parV (t : Prs) (k : Nat) : List Value := ((List.range 9).map fun l => Value.bool (decide (l < k) && pairedB t l))
theorem parV_length (t : Prs) (k : Nat) : (parV t k).length = 9 := by simp [parV]
theorem parV_succ (t : Prs) (k : Nat) (h : k < 9) : (parV t k).set k (.bool (pairedB t k)) = parV t (k + 1) := by
 refine List.ext_getElem (by simp [parV]) fun i h1 h2 => ?_
 rw [List.getElem_set]
 have hi : i < 9 := by simpa [parV] using h2
 by_cases e : k = i
 ·subst e
  rw [if_pos rfl]
  simp [parV]
 ·rw [if_neg e]
  have : (decide (i < k)) = decide (i < k + 1) := by
   rcases Nat.lt_or_ge i k with h3 | h3
   ·rw [decide_eq_true h3, decide_eq_true (by omega)]
   ·rw [decide_eq_false (by omega), decide_eq_false (by omega)]
  simp [parV, this]
theorem parV_at (t : Prs) (k j : Nat) (h : j < 9) : (parV t k)[j]? = some (.bool (decide (j < k) && pairedB t j)) := by simp [parV, h]
set_option maxRecDepth 100000 in
set_option maxHeartbeats 2000000 in
theorem paired_any (A : Option Addr) (c : Nat) (t : Prs) (w : World) (hA : Arr w w.heap.size A (pairsV t)) (ht : t.length ≤ 9223372036854775807) : Calls Tryz.prog 107 #[.slice A t.length c] w fun e w' => e = .returned (.agg (parV t 9).toArray) ∧ Below w.heap.size w w' := by
 refine enterE Tryz.func107 rfl Tryz.ntmps107 (by simp) (fun a hE => ?_); simp only [envOf, Nat.zero_add, Nat.reduceAdd] at hE
 refine Ks ?_
 refine Rs 1 fun Q' K hK => ?_
 refine M0 fun K' Kh ρ => ?_; go_simp;
 refine Ln hE Kh fun _ Eb => ?_; clear Kh K' hE a
 refine Ld [0, 2] Eb hK fun a hE => ?_; clear hK K Q' Eb
 obtain ⟨R, hRe⟩ : ∃ B, B = w.heap.size := ⟨_, rfl⟩; have hnR : w.heap.size ≤ R := Nat.le_of_eq hRe.symm; rw [← hRe] at hE; refine world_cut (fun wt => Below w.heap.size w wt ∧ R < wt.heap.size ∧ Row wt R [.bool false, .bool false, .bool false, .bool false, .bool false, .bool false, .bool false, .bool false, .bool false]) ⟨(Below.refl _ _).alloc (Nat.le_refl _) _, by rw [hRe]; simp, by rw [hRe]; exact row_new _ _ _⟩ (fun w1 hCut => ?_); obtain ⟨hbw1, hlR, hRR⟩ := hCut; clear hRe
 refine Ks ?_
 refine Rs 1 fun Q' K hK => ?_
 refine M0 fun K' Kh ρ => ?_; go_simp;
 refine Ln hE Kh fun _ Eb => ?_; clear Kh K' hE a
 refine Ld [0, 2, 3] Eb hK fun a hE => ?_; clear hK K Q' Eb
 obtain ⟨B, hBe⟩ : ∃ B, B = w1.heap.size := ⟨_, rfl⟩; have hnB : w1.heap.size ≤ B := Nat.le_of_eq hBe.symm; rw [← hBe] at hE; refine world_cut (fun wt => Below w1.heap.size w1 wt ∧ B < wt.heap.size ∧ Row wt B [.bool false, .bool false, .bool false, .bool false, .bool false, .bool false, .bool false, .bool false, .bool false]) ⟨(Below.refl _ _).alloc (Nat.le_refl _) _, by rw [hBe]; simp, by rw [hBe]; exact row_new _ _ _⟩ (fun w2 hCut => ?_); obtain ⟨hbw2, hlB, hRB⟩ := hCut; clear hBe
 replace hRR := hRR.below hbw2 hlR
 have hB2 := hbw1.trans (hbw2.mono hbw1.size)
 have hBR : B ≠ R := by omega
 have hnB' : w.heap.size ≤ B := Nat.le_trans hbw1.size hnB
 replace hlR := Nat.lt_of_lt_of_le hlR hbw2.size
 clear hnB hbw1 hbw2
 refine Ks ?_
 refine Rs 1 fun Q' K hK => ?_
 refine M0 fun K' Kh ρ => ?_; go_simp;
 refine Ln hE Kh fun _ Eb => ?_; clear Kh K' hE a
 refine Ld [0, 2, 3, 5] Eb hK fun a hE => ?_; clear hK K Q' Eb
 refine Ks ?_
 refine loop_st (fun (k : Nat) a w' => k ≤ 9 ∧ Fits 18 [(0, .slice A t.length c), (2, .pointer (some ⟨R, 0, none⟩)), (3, .pointer (some ⟨B, 0, none⟩)), (5, .int .i64 k)] a ∧ Below w.heap.size w w' ∧ (R < w'.heap.size ∧ Row w' R (parV [] 0)) ∧ (B < w'.heap.size ∧ Row w' B (parV t k))) (fun k => 9 - k) 0 ?_ (fun k a w' hI => ?_)
 ·exact ⟨Nat.zero_le _, by simpa using hE, hB2, ⟨hlR, hRR⟩, ⟨hlB, hRB⟩⟩
 clear hE hB2 hlR hRR hlB hRB
 obtain ⟨hk, hE, hW, ⟨hlR, hRR⟩, ⟨hlB, hRB⟩⟩ := hI
 refine Ks ?_
 refine Rs 1 fun Q' K hK => ?_
 refine M1 hE 5 fun K' Kh ρ q5 => ?_; go_simp; (try go_bits)
 refine Ln hE Kh fun _ Eb => ?_; clear Kh K' hE a q5
 refine Ld [0, 2, 3, 5, 6] Eb hK fun a hE => ?_; clear hK K Q' Eb
 refine Ks ?_
 refine cond_part hE (t := 6) rfl (fun h => ?_) (fun h => ?_)
 ·have hlt : k < 9 := by have := of_decide_eq_true h; omega
  clear h
  have hltI : (k : Int) < 9 := by omega
  have hA' := (hA.below hW).more hW.size
  have HM := hid (matchP_nat t k)
  refine Ks ?_
  refine Rs 2 fun Q' K hK => ?_
  refine M1 hE 5 fun K' Kh ρ q5 => ?_; go_simp
  refine Ln hE Kh fun _ Eb => ?_; clear Kh K' hE a q5
  refine M1 Eb 7 fun K' Kh ρ q7 => ?_; go_simp
  refine Ln Eb Kh fun _ Ea => ?_; clear Kh K' Eb q7
  refine Ld [0, 2, 3, 4, 5] Ea hK fun a hE => ?_; clear hK K Q' Ea
  refine Ks ?_
  refine Rs 9 fun Q' K hK => ?_
  refine M1 hE 4 fun K' Kh ρ q4 => ?_; go_simp
  refine Ln hE Kh fun _ Eb => ?_; clear Kh K' hE a q4
  refine M1 Eb 0 fun K' Kh ρ q0 => ?_; go_simp
  refine Ln Eb Kh fun _ Ea => ?_; clear Kh K' Eb q0
  refine M1 Ea 4 fun K' Kh ρ q4 => ?_; go_simp
  refine Ln Ea Kh fun _ Eb => ?_; clear Kh K' Ea q4
  refine M2 Eb 9 10 fun K' Kh ρ q9 q10 => ?_; go_simp; (try go_bits); (try clear q9 q10)
  go_at_call 77; refine (match_any A c t k _ hA' ht).mono ?_; rintro e w3 ⟨rfl, h3⟩; have y0 := ((hRB.below h3 hlB) k _ (parV_at t k k hlt)).2
  (try clear r9 r10)
  refine Ln Eb Kh fun _ Ea => ?_; clear Kh K' Eb
  refine M1 Ea 4 fun K' Kh ρ q4 => ?_; go_simp
  refine Ln Ea Kh fun _ Eb => ?_; clear Kh K' Ea q4
  refine M1 Eb 12 fun K' Kh ρ q12 => ?_; go_simp
  refine Ln Eb Kh fun _ Ea => ?_; clear Kh K' Eb q12
  refine M2 Ea 11 13 fun K' Kh ρ q11 q13 => ?_; go_simp; (try go_bits); (try clear q11 q13)
  rw [ite1_neq]
  (try clear r11 r13)
  refine Ln Ea Kh fun _ Eb => ?_; clear Kh K' Ea
  refine M2 Eb 3 8 fun K' Kh ρ q3 q8 => ?_; go_simp; (try go_bits)
  refine Ln Eb Kh fun _ Ea => ?_; clear Kh K' Eb q3 q8
  refine M2 Ea 15 14 fun K' Kh ρ q15 q14 => ?_; go_simp; (try clear q15 q14)
  refine late_skip Ea Kh (fun _ Eb => ?_); clear Kh K'; clear Ea
  refine Ld [0, 2, 3, 5] Eb hK fun a hE => ?_; clear hK K Q' Eb
  refine world_cut (fun wt => Below w.heap.size w wt ∧ (R < wt.heap.size ∧ Row wt R (parV [] 0)) ∧ (B < wt.heap.size ∧ Row wt B (parV t (k + 1)))) ⟨(hW.trans (h3.mono hW.size)).setCell hnB' _, ⟨by have := h3.size; simp; omega, (hRR.below h3 hlR).other hBR⟩, ⟨by have := h3.size; simp; omega, ?_⟩⟩ (fun w4 hC => ?_)
  ·rw [← parV_succ t k hlt]
   have h5 := (hRB.below h3 hlB).set (o := k) (v := .bool (pairedB t k)) (by rw [parV_length]; exact hlt)
   exact h5
  obtain ⟨hW4, hR4, hB4⟩ := hC
  refine Ks ?_
  refine Rs 2 fun Q' K hK => ?_
  refine M1 hE 5 fun K' Kh ρ q5 => ?_; go_simp; (try go_bits); (try simp (disch := omega) only [IntWalk.i64_in])
  refine Ln hE Kh fun _ Eb => ?_; clear Kh K' hE a q5
  refine M1 Eb 16 fun K' Kh ρ q16 => ?_; go_simp
  refine Ln Eb Kh fun _ Ea => ?_; clear Kh K' Eb q16
  refine Ld [0, 2, 3, 5] Ea hK fun a hE => ?_; clear hK K Q' Ea
  refine Ks ?_
  exact ⟨k + 1, ⟨hlt, by simpa using hE, hW4, hR4, hB4⟩, by omega⟩
 ·have hkk : k = 9 := by have := of_decide_eq_false h; omega
  subst hkk
  clear h
  have hCB := row_cells hRB hlB
  have hps : parV t 9 = [.bool (pairedB t 0), .bool (pairedB t 1), .bool (pairedB t 2), .bool (pairedB t 3), .bool (pairedB t 4), .bool (pairedB t 5), .bool (pairedB t 6), .bool (pairedB t 7), .bool (pairedB t 8)] := rfl
  rw [hps] at hCB ⊢
  obtain ⟨q, hq⟩ : ∃ q : Nat → Bool, pairedB t = q := ⟨_, rfl⟩
  rw [hq] at hCB ⊢
  clear hps hq hRB
  have nB := hCB.1; have cB0 := hCB.2 0 _ rfl; have cB1 := hCB.2 1 _ rfl; have cB2 := hCB.2 2 _ rfl; have cB3 := hCB.2 3 _ rfl; have cB4 := hCB.2 4 _ rfl; have cB5 := hCB.2 5 _ rfl; have cB6 := hCB.2 6 _ rfl; have cB7 := hCB.2 7 _ rfl; have cB8 := hCB.2 8 _ rfl
  have g0 := (hRR 0 _ rfl).1
  have g1 := (hRR 1 _ rfl).1
  have g2 := (hRR 2 _ rfl).1
  have g3 := (hRR 3 _ rfl).1
  have g4 := (hRR 4 _ rfl).1
  have g5 := (hRR 5 _ rfl).1
  have g6 := (hRR 6 _ rfl).1
  have g7 := (hRR 7 _ rfl).1
  have g8 := (hRR 8 _ rfl).1
  have y0 := (hRR 0 _ rfl).2
  have y1 := (hRR 1 _ rfl).2
  have y2 := (hRR 2 _ rfl).2
  have y3 := (hRR 3 _ rfl).2
  have y4 := (hRR 4 _ rfl).2
  have y5 := (hRR 5 _ rfl).2
  have y6 := (hRR 6 _ rfl).2
  have y7 := (hRR 7 _ rfl).2
  have y8 := (hRR 8 _ rfl).2
  refine Ks ?_
  refine Rs 2 fun Q' K hK => ?_
  refine M1 hE 3 fun K' Kh ρ q3 => ?_; go_simp
  refine Ln hE Kh fun _ Eb => ?_; clear Kh K' hE a q3
  refine M2 Eb 2 17 fun K' Kh ρ q2 q17 => ?_; go_simp; (try clear q2 q17)
  refine late_skip Eb Kh (fun _ Ea => ?_); clear Kh K'; clear Eb
  refine Ld [2] Ea hK fun a hE => ?_; clear hK K Q' Ea
  refine world_cut (fun wt => Below w.heap.size w wt ∧ Cells wt R [.bool (q 0), .bool (q 1), .bool (q 2), .bool (q 3), .bool (q 4), .bool (q 5), .bool (q 6), .bool (q 7), .bool (q 8)]) ⟨((((((((hW.setCell hnR _).setCell hnR _).setCell hnR _).setCell hnR _).setCell hnR _).setCell hnR _).setCell hnR _).setCell hnR _).setCell hnR _, row_cells (((((((((hRR.set (o := 0) (by simp [parV])).set (o := 1) (by simp [parV])).set (o := 2) (by simp [parV])).set (o := 3) (by simp [parV])).set (o := 4) (by simp [parV])).set (o := 5) (by simp [parV])).set (o := 6) (by simp [parV])).set (o := 7) (by simp [parV])).set (o := 8) (by simp [parV])) (by simp; omega)⟩ (fun w3 hC => ?_)
  obtain ⟨hB3, hCR⟩ := hC
  clear g0 g1 g2 g3 g4 g5 g6 g7 g8 y0 y1 y2 y3 y4 y5 y6 y7 y8
  have nR := hCR.1; have cR0 := hCR.2 0 _ rfl; have cR1 := hCR.2 1 _ rfl; have cR2 := hCR.2 2 _ rfl; have cR3 := hCR.2 3 _ rfl; have cR4 := hCR.2 4 _ rfl; have cR5 := hCR.2 5 _ rfl; have cR6 := hCR.2 6 _ rfl; have cR7 := hCR.2 7 _ rfl; have cR8 := hCR.2 8 _ rfl
  refine Ks ?_
  have g := hE.at 2 rfl
  exact bodyPost_ret (v := .agg #[.bool (q 0), .bool (q 1), .bool (q 2), .bool (q 3), .bool (q 4), .bool (q 5), .bool (q 6), .bool (q 7), .bool (q 8)]) (by simp [results, Tryz.results107, go_sem, g, cR0, cR1, cR2, cR3, cR4, cR5, cR6, cR7, cR8]) hE.1 ⟨rfl, hB3⟩
theorem lostP_succ (t : Prs) (k : Nat) : lostP (k + 1) t = lostP k t + (if pairedB t k = true then 0 else 1) := by
 unfold lostP pairedB
 rw [List.range_succ, List.filter_append, List.length_append]
 cases h : matchP t k == -1 <;> simp [h]
theorem lostP_all {t : Prs} {n : Nat} (h : ∀ i, i < n → pairedB t i = false) : lostP n t = n := by
 induction n with
 | zero => rfl
 | succ n ih => rw [lostP_succ, ih fun i hi => h i (by omega), h n (by omega)]; rfl
theorem lostP_le (t : Prs) (n : Nat) : lostP n t ≤ n := by
 induction n with
 | zero => exact Nat.le_refl _
 | succ n ih => rw [lostP_succ]; split <;> omega
theorem eq_lines (b0 b1 b2 b3 b4 b5 b6 b7 b8 : Bool) (w : World) : (Op.equalIn 10000 151 (.agg #[.bool b0, .bool b1, .bool b2, .bool b3, .bool b4, .bool b5, .bool b6, .bool b7, .bool b8]) (.agg #[.bool false, .bool false, .bool false, .bool false, .bool false, .bool false, .bool false, .bool false, .bool false])).run Tryz.prog w = .ok (!(b0 || (b1 || (b2 || (b3 || (b4 || (b5 || (b6 || (b7 || b8))))))))) w := by
 cases b0; rotate_left 1; (focus kernel_rfl)
 cases b1; rotate_left 1; (focus kernel_rfl)
 cases b2; rotate_left 1; (focus kernel_rfl)
 cases b3; rotate_left 1; (focus kernel_rfl)
 cases b4; rotate_left 1; (focus kernel_rfl)
 cases b5; rotate_left 1; (focus kernel_rfl)
 cases b6; rotate_left 1; (focus kernel_rfl)
 cases b7; rotate_left 1; (focus kernel_rfl)
 cases b8; rotate_left 1; (focus kernel_rfl)
 kernel_rfl
section
variable (A : Option Addr) (cap : Nat) (L : Option Addr) (lcap : Nat) (b : Bk) (u0 u1 u2 u3 u4 u5 u6 u7 u8 : Value)
set_option maxRecDepth 100000 in
set_option maxHeartbeats 2000000 in
theorem lost_any (T : Option Addr) (c : Nat) (t : Prs) (w : World) (hT : Arr w w.heap.size T (pairsV t)) (ht : t.length ≤ 9223372036854775807) (hn : b.lines.length ≤ 9) : Calls Tryz.prog 96 #[.agg (bksV A cap L lcap b u0 u1 u2 u3 u4 u5 u6 u7 u8).toArray, .slice T t.length c] w fun e w' => e = .returned (.int .i64 (lostP b.lines.length t)) ∧ Below w.heap.size w w' := by
 have hps : parV t 9 = [.bool (pairedB t 0), .bool (pairedB t 1), .bool (pairedB t 2), .bool (pairedB t 3), .bool (pairedB t 4), .bool (pairedB t 5), .bool (pairedB t 6), .bool (pairedB t 7), .bool (pairedB t 8)] := rfl
 have HPS := hid hps
 clear hps
 have HC : Hid (∀ W, Below w.heap.size w W → Calls Tryz.prog 107 #[.slice T t.length c] W fun e w' => e = .returned (.agg (parV t 9).toArray) ∧ Below W.heap.size W w') := hid fun W hW => paired_any T c t W ((hT.below hW).more hW.size) ht
 rw [HPS.out] at HC
 obtain ⟨q, hq⟩ : ∃ q : Nat → Bool, pairedB t = q := ⟨_, rfl⟩
 rw [hq] at HC
 have HQ := hid hq
 clear hq HPS hT
 simp only [bksV]
 refine enterE Tryz.func96 rfl Tryz.ntmps96 (by simp) (fun a hE => ?_); simp only [envOf, Nat.zero_add, Nat.reduceAdd] at hE
 refine Ks ?_
 refine Rs 2 fun Q' K hK => ?_
 refine M1 hE 0 fun K' Kh ρ q0 => ?_; go_simp
 refine Ln hE Kh fun _ Eb => ?_; clear Kh K' hE a q0
 refine M0 fun K' Kh ρ => ?_; go_simp;
 refine Ln Eb Kh fun _ Ea => ?_; clear Kh K' Eb
 refine Ld [1, 2] Ea hK fun a hE => ?_; clear hK K Q' Ea
 obtain ⟨B, hBe⟩ : ∃ B, B = w.heap.size := ⟨_, rfl⟩; rw [← hBe] at hE; refine world_cut (fun wt => Below w.heap.size w wt ∧ Cells wt B (bksV A cap L lcap b u0 u1 u2 u3 u4 u5 u6 u7 u8)) ⟨(Below.refl _ _).alloc (Nat.le_refl _) _, by rw [hBe]; exact cells_new _ _ _⟩ (fun w1 hCut => ?_); obtain ⟨hbw1, hCB⟩ := hCut; clear hBe
 refine Ks ?_
 refine Rs 4 fun Q' K hK => ?_
 refine M1 hE 1 fun K' Kh ρ q1 => ?_; go_simp
 refine Ln hE Kh fun _ Eb => ?_; clear Kh K' hE a q1
 refine M1 Eb 8 fun K' Kh ρ q8 => ?_; go_simp; (try go_bits); (try clear q8)
 go_at_call 107; refine (HC.out _ hbw1).mono ?_; rintro e w2 ⟨rfl, h2⟩
 (try clear r8)
 refine Ln Eb Kh fun _ Ea => ?_; clear Kh K' Eb
 refine M0 fun K' Kh ρ => ?_; go_simp;
 refine Ln Ea Kh fun _ Eb => ?_; clear Kh K' Ea
 refine M2 Eb 5 9 fun K' Kh ρ q5 q9 => ?_; go_simp; (try clear q5 q9)
 refine late_skip Eb Kh (fun _ Ea => ?_); clear Kh K'; clear Eb
 refine Ld [1, 2, 5] Ea hK fun a hE => ?_; clear hK K Q' Ea
 have hb2 := hbw1.trans (h2.mono hbw1.size)
 replace hCB := hCB.below h2
 obtain ⟨P, hPe⟩ : ∃ B, B = w2.heap.size := ⟨_, rfl⟩; rw [← hPe] at hE; refine world_cut (fun wt => Below w2.heap.size w2 wt ∧ Cells wt P [.bool (q 0), .bool (q 1), .bool (q 2), .bool (q 3), .bool (q 4), .bool (q 5), .bool (q 6), .bool (q 7), .bool (q 8)]) ⟨(Below.refl _ _).alloc (Nat.le_refl _) _, by rw [hPe]; exact cells_new _ _ _⟩ (fun w3 hCut => ?_); obtain ⟨hbw3, hCP⟩ := hCut; clear hPe
 have hb3 := hb2.trans (hbw3.mono hb2.size)
 replace hCB := hCB.below hbw3
 clear hbw1 h2 hbw3 hb2 HC
 simp only [bksV] at hCB
 have nB := hCB.1; have cB0 := hCB.2 0 _ rfl; have cB1 := hCB.2 1 _ rfl; have cB2 := hCB.2 2 _ rfl; have cB3 := hCB.2 3 _ rfl; have cB4 := hCB.2 4 _ rfl; have cB5 := hCB.2 5 _ rfl; have cB6 := hCB.2 6 _ rfl; have cB7 := hCB.2 7 _ rfl; have cB8 := hCB.2 8 _ rfl; have cB9 := hCB.2 9 _ rfl; have cB10 := hCB.2 10 _ rfl; have cB11 := hCB.2 11 _ rfl; have cB12 := hCB.2 12 _ rfl; have cB13 := hCB.2 13 _ rfl; have cB14 := hCB.2 14 _ rfl; have cB15 := hCB.2 15 _ rfl
 have nP := hCP.1; have cP0 := hCP.2 0 _ rfl; have cP1 := hCP.2 1 _ rfl; have cP2 := hCP.2 2 _ rfl; have cP3 := hCP.2 3 _ rfl; have cP4 := hCP.2 4 _ rfl; have cP5 := hCP.2 5 _ rfl; have cP6 := hCP.2 6 _ rfl; have cP7 := hCP.2 7 _ rfl; have cP8 := hCP.2 8 _ rfl
 refine Ks ?_
 refine Rs 3 fun Q' K hK => ?_
 refine M1 hE 5 fun K' Kh ρ q5 => ?_; go_simp
 refine Ln hE Kh fun _ Eb => ?_; clear Kh K' hE a q5
 refine M0 fun K' Kh ρ => ?_; go_simp;
 refine Ln Eb Kh fun _ Ea => ?_; clear Kh K' Eb
 refine M2 Ea 10 11 fun K' Kh ρ q10 q11 => ?_; go_simp; (try go_bits); (try clear q10 q11)
 rw [eq_lines]; simp only [Result.andThen_ok]
 (try clear r10 r11)
 refine Ln Ea Kh fun _ Eb => ?_; clear Kh K' Ea
 refine Ld [2, 5, 12] Eb hK fun a hE => ?_; clear hK K Q' Eb
 refine Ks ?_
 refine cond_part hE (t := 12) rfl (fun h => ?_) (fun h => ?_)
 ·have hall : ∀ i, i < b.lines.length → pairedB t i = false := fun i hi => by
   have h9 : i = 0 ∨ i = 1 ∨ i = 2 ∨ i = 3 ∨ i = 4 ∨ i = 5 ∨ i = 6 ∨ i = 7 ∨ i = 8 := by omega
   rw [HQ.out]
   simp at h
   rcases h9 with rfl | rfl | rfl | rfl | rfl | rfl | rfl | rfl | rfl <;> simp [h]
  refine Ks ?_
  refine Rs 5 fun Q' K hK => ?_
  refine M1 hE 2 fun K' Kh ρ q2 => ?_; go_simp
  refine Ln hE Kh fun _ Eb => ?_; clear Kh K' hE a q2
  refine M1 Eb 13 fun K' Kh ρ q13 => ?_; go_simp
  refine Ln Eb Kh fun _ Ea => ?_; clear Kh K' Eb q13
  refine M1 Ea 14 fun K' Kh ρ q14 => ?_; go_simp
  refine Ln Ea Kh fun _ Eb => ?_; clear Kh K' Ea q14
  refine M1 Eb 15 fun K' Kh ρ q15 => ?_; go_simp; (try go_bits)
  refine Ln Eb Kh fun _ Ea => ?_; clear Kh K' Eb q15
  refine M1 Ea 16 fun K' Kh ρ q16 => ?_; go_simp
  refine Ln Ea Kh fun _ Eb => ?_; clear Kh K' Ea q16
  refine Ld [4] Eb hK fun a hE => ?_; clear hK K Q' Eb
  refine Ks ?_
  refine ret_one hE rfl rfl ⟨ret_int ?_, hb3⟩
  rw [lostP_all hall]
 ·clear h
  refine Ks ?_
  refine Rs 1 fun Q' K hK => ?_
  refine M0 fun K' Kh ρ => ?_; go_simp;
  refine Ln hE Kh fun _ Eb => ?_; clear Kh K' hE a
  refine Ld [2, 5, 6] Eb hK fun a hE => ?_; clear hK K Q' Eb
  refine Ks ?_
  refine Rs 5 fun Q' K hK => ?_
  refine M1 hE 2 fun K' Kh ρ q2 => ?_; go_simp
  refine Ln hE Kh fun _ Eb => ?_; clear Kh K' hE a q2
  refine M1 Eb 17 fun K' Kh ρ q17 => ?_; go_simp
  refine Ln Eb Kh fun _ Ea => ?_; clear Kh K' Eb q17
  refine M1 Ea 18 fun K' Kh ρ q18 => ?_; go_simp
  refine Ln Ea Kh fun _ Eb => ?_; clear Kh K' Ea q18
  refine M1 Eb 19 fun K' Kh ρ q19 => ?_; go_simp; (try go_bits)
  refine Ln Eb Kh fun _ Ea => ?_; clear Kh K' Eb q19
  refine M0 fun K' Kh ρ => ?_; go_simp;
  refine Ln Ea Kh fun _ Eb => ?_; clear Kh K' Ea
  refine Ld [5, 6, 20, 21] Eb hK fun a hE => ?_; clear hK K Q' Eb
  refine Ks ?_
  refine loop_st (fun (k : Nat) a w' => k ≤ b.lines.length ∧ Fits 32 [(5, .pointer (some ⟨P, 0, none⟩)), (6, .int .i64 (lostP k t)), (20, .int .i64 b.lines.length), (21, .int .i64 k)] a ∧ w' = w3) (fun k => b.lines.length - k) 0 ?_ (fun k a w' hI => ?_)
  ·exact ⟨Nat.zero_le _, by simpa [lostP] using hE, rfl⟩
  clear hE
  obtain ⟨hk, hE, rfl⟩ := hI
  have hll := lostP_le t k
  refine Ks ?_
  refine Rs 1 fun Q' K hK => ?_
  refine M2 hE 21 20 fun K' Kh ρ q21 q20 => ?_; go_simp; (try go_bits)
  refine Ln hE Kh fun _ Eb => ?_; clear Kh K' hE a q21 q20
  refine Ld [5, 6, 20, 21, 22] Eb hK fun a hE => ?_; clear hK K Q' Eb
  refine Ks ?_
  refine cond_part hE (t := 22) rfl (fun h => ?_) (fun h => ?_)
  ·have hlt : k < b.lines.length := by have := of_decide_eq_true h; omega
   clear h
   have h9 : (k : Int) < 9 := by omega
   have hk9 : k < 9 := by omega
   have ck : w'.cell? ⟨P, k, none⟩ = some (.bool (q k)) := by
    refine hCP.2 k _ ?_
    have h9 : k = 0 ∨ k = 1 ∨ k = 2 ∨ k = 3 ∨ k = 4 ∨ k = 5 ∨ k = 6 ∨ k = 7 ∨ k = 8 := by omega
    rcases h9 with rfl | rfl | rfl | rfl | rfl | rfl | rfl | rfl | rfl <;> rfl
   have hsu := lostP_succ t k
   rw [HQ.out] at hsu
   obtain ⟨x, hx⟩ : ∃ x, lostP k t = x := ⟨_, rfl⟩
   obtain ⟨y, hy⟩ : ∃ y, q k = y := ⟨_, rfl⟩
   rw [hx] at hE hsu hll
   rw [hy] at ck hsu
   have HS := hid hsu
   clear hsu hx hy cP0 cP1 cP2 cP3 cP4 cP5 cP6 cP7 cP8
   refine Ks ?_
   refine Rs 2 fun Q' K hK => ?_
   refine M1 hE 21 fun K' Kh ρ q21 => ?_; go_simp
   refine Ln hE Kh fun _ Eb => ?_; clear Kh K' hE a q21
   refine M1 Eb 23 fun K' Kh ρ q23 => ?_; go_simp
   refine Ln Eb Kh fun _ Ea => ?_; clear Kh K' Eb q23
   refine Ld [5, 6, 7, 20, 21] Ea hK fun a hE => ?_; clear hK K Q' Ea
   refine Ks ?_
   refine Rs 4 fun Q' K hK => ?_
   refine M1 hE 7 fun K' Kh ρ q7 => ?_; go_simp
   refine Ln hE Kh fun _ Eb => ?_; clear Kh K' hE a q7
   refine M2 Eb 5 24 fun K' Kh ρ q5 q24 => ?_; go_simp; (try go_bits)
   refine Ln Eb Kh fun _ Ea => ?_; clear Kh K' Eb q5 q24
   refine M1 Ea 25 fun K' Kh ρ q25 => ?_; go_simp
   refine Ln Ea Kh fun _ Eb => ?_; clear Kh K' Ea q25
   refine M1 Eb 26 fun K' Kh ρ q26 => ?_; go_simp; (try go_bits); (try simp (disch := omega) only [IntWalk.i64_in])
   refine Ln Eb Kh fun _ Ea => ?_; clear Kh K' Eb q26
   refine Ld [5, 6, 7, 20, 21, 27] Ea hK fun a hE => ?_; clear hK K Q' Ea
   refine Ks ?_
   refine cond_part hE (t := 27) rfl (fun h => ?_) (fun h => ?_)
   ·have hh : y = false := by simpa using h
    refine Ks ?_
    refine Rs 3 fun Q' K hK => ?_
    refine M1 hE 6 fun K' Kh ρ q6 => ?_; go_simp
    refine Ln hE Kh fun _ Eb => ?_; clear Kh K' hE a q6
    refine M1 Eb 28 fun K' Kh ρ q28 => ?_; go_simp; (try go_bits); (try simp (disch := omega) only [IntWalk.i64_in])
    refine Ln Eb Kh fun _ Ea => ?_; clear Kh K' Eb q28
    refine M1 Ea 29 fun K' Kh ρ q29 => ?_; go_simp
    refine Ln Ea Kh fun _ Eb => ?_; clear Kh K' Ea q29
    refine Ld [5, 6, 20, 21] Eb hK fun a hE => ?_; clear hK K Q' Eb
    refine Ks ?_
    refine Rs 2 fun Q' K hK => ?_
    refine M1 hE 21 fun K' Kh ρ q21 => ?_; go_simp; (try go_bits); (try simp (disch := omega) only [IntWalk.i64_in])
    refine Ln hE Kh fun _ Eb => ?_; clear Kh K' hE a q21
    refine M1 Eb 30 fun K' Kh ρ q30 => ?_; go_simp
    refine Ln Eb Kh fun _ Ea => ?_; clear Kh K' Eb q30
    refine Ld [5, 6, 20, 21] Ea hK fun a hE => ?_; clear hK K Q' Ea
    refine Ks ?_
    refine ⟨k + 1, ⟨hlt, ?_, rfl⟩, by omega⟩
    rw [HS.out, hh]
    simpa using hE
   ·have hh : y = true := by simpa using h
    refine Ks ?_
    refine Rs 2 fun Q' K hK => ?_
    refine M1 hE 21 fun K' Kh ρ q21 => ?_; go_simp; (try go_bits); (try simp (disch := omega) only [IntWalk.i64_in])
    refine Ln hE Kh fun _ Eb => ?_; clear Kh K' hE a q21
    refine M1 Eb 30 fun K' Kh ρ q30 => ?_; go_simp
    refine Ln Eb Kh fun _ Ea => ?_; clear Kh K' Eb q30
    refine Ld [5, 6, 20, 21] Ea hK fun a hE => ?_; clear hK K Q' Ea
    refine Ks ?_
    refine ⟨k + 1, ⟨hlt, ?_, rfl⟩, by omega⟩
    rw [HS.out, hh]
    simpa using hE
  ·have hkk : k = b.lines.length := by have := of_decide_eq_false h; omega
   subst hkk
   refine Ks ?_
   refine Rs 2 fun Q' K hK => ?_
   refine M1 hE 6 fun K' Kh ρ q6 => ?_; go_simp
   refine Ln hE Kh fun _ Eb => ?_; clear Kh K' hE a q6
   refine M1 Eb 31 fun K' Kh ρ q31 => ?_; go_simp
   refine Ln Eb Kh fun _ Ea => ?_; clear Kh K' Eb q31
   refine Ld [4] Ea hK fun a hE => ?_; clear hK K Q' Ea
   refine Ks ?_
   exact ret_one hE rfl rfl ⟨rfl, hb3⟩
end
/-- what has been answered by an iterator's call -/
def OutR {α : Type} (J : List α → (Nat → Prop) → World → Prop) (Jx : List α → World → Prop) (XS : List α) (l : Nat) (pre add : List α) (M : Nat → Prop) (V : World) (x : Bool) (V' : World) : Prop :=
 (x = true ∧ ∃ M', J (pre ++ add) M' V' ∧ Grow M M' V ∧ KeepM M l V V') ∨ (x = false ∧ ∃ pre' y, pre' ++ [y] <+: XS ∧ Jx (pre' ++ [y]) V')
section
variable {P : Program} {o : Oper} {a : Act} {K : Act → World → Prop} {Q : Exit → Act → World → Prop} {w : World}
theorem own_new {base : Nat} {e : TypeId} {size : Nat} {v : Value} {n : Nat} {xs : List Value} (h : w.ownsRow base e size v n xs) (hn : 0 < n) :
    ∃ g cap, v = .slice (some ⟨g, 0, none⟩) n cap ∧ base ≤ g ∧ g < w.heap.size ∧ n ≤ cap ∧ cap ≤ maxLen ∧ (∀ j u, xs[j]? = some u → w.cell? ⟨g, j, none⟩ = some u) ∧ ∃ cur, w.heap[g]? = some (.cells cur e (0, 0)) := by
 obtain ⟨hl, h | ⟨g, cap, cur, hv, hb, hh, hn', hm, hc, ht⟩⟩ := h
 ·omega
 ·refine ⟨g, cap, hv, hb, (Array.getElem?_eq_some_iff.1 hh).1, hn', hm, fun j u hu => ?_, cur, hh⟩
  simp only [World.cell?, hh]
  rw [← ht] at hu
  have hj : j < n * size := by
   have := (List.getElem?_eq_some_iff.1 hu).1
   simp only [List.length_take] at this; omega
  rw [List.getElem?_take_of_lt hj] at hu
  simpa using hu
theorem wp_appFull (s x : Operand) (t : TypeId) (ho : o.op = .call { callee := .builtin .append, args := #[s, x], argTypes := #[t, t] })
    (e : TypeId) (z : Value) (size bytes : Nat) (ht : P.underlying t = some (.slice e)) (hi : (P.info? e).map (fun i => (i.zero, i.size, i.bytes)) = some (some z, size, bytes)) (hzs : z.cells.size = size) (hsz : 0 < size)
    (A : Option Addr) (n : Nat) (olds : List Value) (hs : a.eval s = .slice A n n) (hA : Arr w w.heap.size A olds) (hlo : olds.length = n * size)
    (X : Addr) (m c : Nat) (news : List Value) (hx : a.eval x = .slice (some X) m c) (hX : ∀ j u, news[j]? = some u → w.cell? (X.add j) = some u) (hm : 0 < m) (hl : news.length = m * size) (h1 : ∀ u ∈ news, u.oneCell' = true)
    (h63 : n + m ≤ maxLen) (hbytes : (n + m) * bytes ≤ 140737488355328)
    (h : ∀ g cap w', w.heap.size ≤ g → g < w'.heap.size → (∀ j u, (olds ++ news)[j]? = some u → w'.cell? ⟨g, j, none⟩ = some u) → n + m ≤ cap → Below w.heap.size w w' → (∃ cur, w'.heap[g]? = some (.cells cur e (0, 0))) → K (a.put o.dst (.slice (some ⟨g, 0, none⟩) (n + m) cap)) w') : o.wp P a w K Q := by
 obtain ⟨i0, hi0, hz0, hz1, hz2⟩ := info_parts hi
 have fin : ∀ v' w', (Builtin.append_ #[t, t] o.type #[.slice A n n, .slice (some X) m c]).run P w = .ok v' w' → w'.ownsRow w.heap.size e size v' (n + m) (olds ++ news) → w.grownBy w' none → o.wp P a w K Q := fun v' w' hr h2 h3 => by
  obtain ⟨g, cap, rfl, k1, k2, k3, _, k4, k5⟩ := own_new h2 (by omega)
  unfold Oper.wp execOp
  simp only [ho, resolve, invoke, builtin, Sem.run_bind, Sem.run_pure, Result.andThen_ok, List.map_toArray, List.map_cons, List.map_nil, hs, hx, hr]
  exact h g cap w' k1 k2 k4 k3 ((Below.refl _ _).grown h3 (Nat.le_refl _) (fun k e => by cases e)) k5
 cases A with
 | none =>
  have hn : olds = [] := by
   refine Classical.byContradiction fun hn => ?_
   obtain ⟨_, _, h, _⟩ := hA hn
   cases h
  subst hn
  have hn0 : n = 0 := by
   rcases Nat.eq_zero_or_pos n with h | h
   ·exact h
   ·have := Nat.mul_pos h hsz
    simp at hlo; omega
  subst hn0
  obtain ⟨v', w', hrun, r1, r2, _⟩ := run_append_own (P := P) w w.heap.size t o.type e i0 z size bytes ht hi0 hz0 hz1 hz2 hzs hsz (.slice none 0 0) 0 [] (World.ownsRow_nil w _ e size) X m c news hl hX h1 h63 hbytes (Nat.le_refl _)
  exact fin v' w' hrun r1 r2
 | some ad =>
  obtain ⟨v', w', hrun, r1, r2⟩ := run_append_arg_grows (P := P) w t o.type e i0 z size bytes ht hi0 hz0 hz1 hz2 hzs hsz ad n n olds hlo (fun j u hu => by
   by_cases hn : olds = []
   ·subst hn; simp at hu
   ·obtain ⟨b, o', e', _, hc⟩ := hA hn
    cases e'
    have hadd : Addr.add ⟨b, o', none⟩ j = ⟨b, o' + j, none⟩ := by unfold Addr.add; split <;> simp_all
    rw [hadd]; exact hc j u hu) X m c news hl hX (by omega) h63 hbytes
  exact fin v' w' hrun r1 r2
end
section
variable (A : Option Addr) (cap : Nat) (L : Option Addr) (lcap : Nat) (b : Bk) (u0 u1 u2 u3 u4 u5 u6 u7 u8 : Value) (cs : List (List Nat)) (B Y Z l : Nat)
/-- what the closure reads -/
structure Dat (M : Nat → Prop) (V : World) : Prop where
 cb : CellsS M l V B (bksV A cap L lcap b u0 u1 u2 u3 u4 u5 u6 u7 u8)
 cy : CellsS M l V Y [.func (.yield l) #[] #[]]
 cz : CellsS M l V Z [.func (.func 95) #[] #[.pointer (some ⟨B, 0, none⟩), .pointer (some ⟨Y, 0, none⟩), .pointer (some ⟨Z, 0, none⟩)]]
 cu : ∀ k, k < b.lines.length → ∃ Ak c, [u0, u1, u2, u3, u4, u5, u6, u7, u8][k]? = some (.slice Ak (cs.getD k []).length c) ∧ ArrS M l V Ak (nats (cs.getD k []))
variable {A cap L lcap b u0 u1 u2 u3 u4 u5 u6 u7 u8 cs B Y Z l}
theorem Dat.keep {M M' : Nat → Prop} {V V' : World} (h : Dat A cap L lcap b u0 u1 u2 u3 u4 u5 u6 u7 u8 cs B Y Z l M V) (hk : KeepM M l V V') (hg : Grow M M' V) : Dat A cap L lcap b u0 u1 u2 u3 u4 u5 u6 u7 u8 cs B Y Z l M' V' :=
 ⟨h.cb.keep hk hg, h.cy.keep hk hg, h.cz.keep hk hg, fun k hk' => by
  obtain ⟨Ak, c, h1, h2⟩ := h.cu k hk'
  exact ⟨Ak, c, h1, h2.keep hk hg⟩⟩
theorem Dat.below {M : Nat → Prop} {V V' : World} (h : Dat A cap L lcap b u0 u1 u2 u3 u4 u5 u6 u7 u8 cs B Y Z l M V) (hk : Below V.heap.size V V') : Dat A cap L lcap b u0 u1 u2 u3 u4 u5 u6 u7 u8 cs B Y Z l M V' := h.keep (.of_below hk) (.refl _ _)
theorem ArrS.nat {M : Nat → Prop} {l : Nat} {w : World} {A : Option Addr} {xs : List Nat} (h : ArrS M l w A (nats xs)) {k : Nat} (hk : k < xs.length) : ∃ b o, A = some ⟨b, o, none⟩ ∧ b < w.heap.size ∧ ¬ M b ∧ b ≠ l ∧ w.cell? ⟨b, o + k, none⟩ = some (.int .i64 xs[k]) := by
 obtain ⟨b, o, hA, h1, h2, h3, hc⟩ := h (fun e => by have := nats_length xs; rw [e] at this; simp at this; omega)
 exact ⟨b, o, hA, h1, h2, h3, hc k _ (by simp [nats, natV, hk])⟩
/-- the pairs' block lies behind block N, and is one of pairs -/
def typedT (N : Nat) (V : World) (T : Option Addr) (t : Prs) : Prop := pairsV t ≠ [] → ∃ b o, T = some ⟨b, o, none⟩ ∧ N ≤ b ∧ ∃ cur, V.heap[b]? = some (.cells cur 82 (0, 0))
/-- pairs in a block that no round writes -/
def ArrT (N : Nat) (M : Nat → Prop) (l : Nat) (w : World) (A : Option Addr) (t : Prs) : Prop :=
 pairsV t ≠ [] → ∃ b o, A = some ⟨b, o, none⟩ ∧ (b < w.heap.size ∧ ¬ M b ∧ b ≠ l) ∧ (∀ j u, (pairsV t)[j]? = some u → w.cell? ⟨b, o + j, none⟩ = some u) ∧ N ≤ b ∧ ∃ cur, w.heap[b]? = some (.cells cur 82 (0, 0))
theorem ArrT.arr {N : Nat} {M : Nat → Prop} {l : Nat} {w : World} {A : Option Addr} {t : Prs} (h : ArrT N M l w A t) : Arr w w.heap.size A (pairsV t) := fun hx => by
 obtain ⟨b, o, e, ⟨h1, _⟩, h4, _⟩ := h hx
 exact ⟨b, o, e, h1, h4⟩
theorem ArrT.typed {N : Nat} {M : Nat → Prop} {l : Nat} {w : World} {A : Option Addr} {t : Prs} (h : ArrT N M l w A t) : typedT N w A t := fun hx => by
 obtain ⟨b, o, e, _, _, h5, h6⟩ := h hx
 exact ⟨b, o, e, h5, h6⟩
theorem ArrT.keep {N : Nat} {M M' : Nat → Prop} {l : Nat} {w w' : World} {A : Option Addr} {t : Prs} (h : ArrT N M l w A t) (hk : KeepM M l w w') (hg : Grow M M' w) : ArrT N M' l w' A t := fun hx => by
 obtain ⟨b, o, e, ⟨h1, h2, h3⟩, h4, h5, cur, h6⟩ := h hx
 exact ⟨b, o, e, ⟨Nat.lt_of_lt_of_le h1 hk.size, fun h' => by rcases hg b h' with h7 | h7; exact h2 h7; omega, h3⟩, fun j u hu => (hk.cell h1 h2 h3).trans (h4 j u hu), h5, cur, (hk.block b h1 h2 h3).trans h6⟩
theorem ArrT.below {N : Nat} {M : Nat → Prop} {l : Nat} {w w' : World} {A : Option Addr} {t : Prs} (h : ArrT N M l w A t) (hk : Below w.heap.size w w') : ArrT N M l w' A t := h.keep (.of_below hk) (.refl _ _)
def encT (N : Nat) (t : Prs) (vs : Array Value) (V : World) : Prop := ∃ T, vs = #[.slice T t.length t.length] ∧ Arr V V.heap.size T (pairsV t) ∧ typedT N V T t
set_option maxRecDepth 100000 in
set_option maxHeartbeats 4000000 in
/-- behind the last line -/
theorem pair_end (N : Nat) (J : List Prs → (Nat → Prop) → World → Prop) (Jx : List Prs → World → Prop) (XS : List Prs) (W : World) (hn : b.lines.length ≤ 9) (hl : b.lines.length ≤ lcap)
    (hY : ∀ pre x M V vs, J pre M V → W.heap.size ≤ V.heap.size → encT N x vs V → pre ++ [x] <+: XS → YieldW Tryz.prog l vs V fun e V' =>
     (e = .returned (.bool true) ∧ ∃ M', J (pre ++ [x]) M' V' ∧ Grow M M' V ∧ KeepM M l V V') ∨ (e = .returned (.bool false) ∧ Jx (pre ++ [x]) V'))
    (hJ : ∀ s M A C, J s M A → Below W.heap.size A C → (∀ k, M k → C.heap[k]? = A.heap[k]?) → J s M C) (hJM : ∀ s M A, J s M A → (∀ k, M k → k < A.heap.size) ∧ ¬ M l)
    (T : Option Addr) (c : Nat) (t : Prs) (M : Nat → Prop) (V : World) (pre : List Prs) (ht : t.length ≤ b.lines.length) (hc : t.length ≤ c) (h0 : J pre M V) (hp : pre ++ fromP b.lines.length b.lost cs 0 b.lines.length t <+: XS) (hV : W.heap.size ≤ V.heap.size)
    (hD : Dat A cap L lcap b u0 u1 u2 u3 u4 u5 u6 u7 u8 cs B Y Z l M V) (hT : ArrT N M l V T t) :
    Calls Tryz.prog 95 #[.int .i64 b.lines.length, .slice T t.length c, .pointer (some ⟨B, 0, none⟩), .pointer (some ⟨Y, 0, none⟩), .pointer (some ⟨Z, 0, none⟩)] V
     fun e V' => ∃ x, e = .returned (.bool x) ∧ OutR J Jx XS l pre (fromP b.lines.length b.lost cs 0 b.lines.length t) M V x V' := by
 have hCB := hD.cb.cells
 have hCY := hD.cy.cells
 have hTA := hT.arr
 obtain ⟨x, hx⟩ : ∃ x, lostP b.lines.length t = x := ⟨_, rfl⟩
 have HLO : Hid (∀ W', Below V.heap.size V W' → Calls Tryz.prog 96 #[.agg (bksV A cap L lcap b u0 u1 u2 u3 u4 u5 u6 u7 u8).toArray, .slice T t.length c] W' fun e w' => e = .returned (.int .i64 x) ∧ Below W'.heap.size W' w') := hid fun W' hW' => by
  rw [← hx]; exact lost_any A cap L lcap b u0 u1 u2 u3 u4 u5 u6 u7 u8 T c t W' ((hTA.below hW').more hW'.size) (by omega) hn
 have HF : Hid (fromP b.lines.length b.lost cs 0 b.lines.length t = if (x : Int) ≤ b.lost then [t] else []) := hid (by rw [← hx]; rfl)
 clear hx
 simp only [bksV] at hCB HLO
 refine enterE Tryz.func95 rfl Tryz.ntmps95 (by simp) (fun a hE => ?_); simp only [envOf, Nat.zero_add, Nat.reduceAdd] at hE
 refine Ks ?_
 refine Rs 1 fun Q' K hK => ?_
 refine M0 fun K' Kh ρ => ?_; go_simp;
 refine Ln hE Kh fun _ Eb => ?_; clear Kh K' hE a
 refine Ld [0, 1, 2, 3, 4] Eb hK fun a hE => ?_; clear hK K Q' Eb
 refine Ks ?_
 have nB := hCB.1; have cB0 := hCB.2 0 _ rfl; have cB1 := hCB.2 1 _ rfl; have cB2 := hCB.2 2 _ rfl; have cB3 := hCB.2 3 _ rfl; have cB4 := hCB.2 4 _ rfl; have cB5 := hCB.2 5 _ rfl; have cB6 := hCB.2 6 _ rfl; have cB7 := hCB.2 7 _ rfl; have cB8 := hCB.2 8 _ rfl; have cB9 := hCB.2 9 _ rfl; have cB10 := hCB.2 10 _ rfl; have cB11 := hCB.2 11 _ rfl; have cB12 := hCB.2 12 _ rfl; have cB13 := hCB.2 13 _ rfl; have cB14 := hCB.2 14 _ rfl; have cB15 := hCB.2 15 _ rfl
 obtain ⟨nY, cY0⟩ := hCY.c1
 refine Rs 6 fun Q' K hK => ?_
 refine M1 hE 0 fun K' Kh ρ q0 => ?_; go_simp
 refine Ln hE Kh fun _ Eb => ?_; clear Kh K' hE a q0
 refine M1 Eb 2 fun K' Kh ρ q2 => ?_; go_simp
 refine Ln Eb Kh fun _ Ea => ?_; clear Kh K' Eb q2
 refine M1 Ea 13 fun K' Kh ρ q13 => ?_; go_simp
 refine Ln Ea Kh fun _ Eb => ?_; clear Kh K' Ea q13
 refine M1 Eb 14 fun K' Kh ρ q14 => ?_; go_simp
 refine Ln Eb Kh fun _ Ea => ?_; clear Kh K' Eb q14
 refine M1 Ea 15 fun K' Kh ρ q15 => ?_; go_simp; (try go_bits)
 refine Ln Ea Kh fun _ Eb => ?_; clear Kh K' Ea q15
 refine M2 Eb 12 16 fun K' Kh ρ q12 q16 => ?_; go_simp; (try go_bits)
 refine Ln Eb Kh fun _ Ea => ?_; clear Kh K' Eb q12 q16
 refine Ld [0, 1, 2, 3, 4, 17] Ea hK fun a hE => ?_; clear hK K Q' Ea
 refine Ks ?_
 replace hE := hE.turn 17 (v' := .bool true) rfl (by simp)
 refine cond_yes hE (t := 17) rfl ?_
 by_cases hlo : (x : Int) ≤ b.lost
 ·have hnl : decide (b.lost < (x : Int)) = false := decide_eq_false (by omega)
  have HNL := hid hnl
  rw [HF.out, if_pos hlo] at hp ⊢
  clear hnl hlo HF
  refine Ks ?_
  refine Rd [15, 16, 17] (fun wt => Below V.heap.size V wt) (fun w1 w2 => Below w1.heap.size w1 w2) [(0, some 18), (1, some 19), (2, some 20), (3, some 21), (4, some 22), (5, some 23), (6, some 24), (7, some 25), (8, some 26), (9, some 27), (10, some 28), (11, some 29), (12, some 30), (13, some 31), (14, some 32)] [18, 19, 20, 21, 22, 23, 24, 25, 26, 27, 28, 29, 30, 31, 32] #[true, true, true, true, true, true, true, true, true, true, true, true, true, true, true, false, false, false] [2, 3, 4, 7] hE ((Below.refl _ _).drew) fun Q' K hK => ?_
  refine SeqOps.val ?_ (Sp fun ax wx hS hT' hd K' Kh => ?_) ?_; rotate_left 1
  ·have r2 := hS.at 2 (by decide) (hE.at 2 rfl); obtain ⟨_, _, _, _, _, _⟩ := bT hT'
   refine o1 r2 fun ρ q2 => ?_; go_simp;
   exact Jo Kh hT'
  refine SeqOps.val ?_ (Sp fun ax wx hS hT' hd K' Kh => ?_) ?_; rotate_left 1
  ·have r1 := hS.at 1 (by decide) (hE.at 1 rfl); obtain ⟨_, _, _, _, _, _⟩ := bT hT'
   refine o1 r1 fun ρ q1 => ?_; go_simp;
   exact Jo Kh hT'
  refine SeqOps.val ?_ (Sp fun ax wx hS hT' hd K' Kh => ?_) ?_; rotate_left 1
  ·have r18 := Tv hd 1 0 18; have r19 := Tv hd 0 1 19; obtain ⟨_, _, _, _, _, _⟩ := bT hT'
   refine o2 r18 r19 fun ρ q18 q19 => ?_; go_simp; (try go_bits);
   go_at_call 96; refine (HLO.out _ hT').mono ?_; rintro e g1 ⟨rfl, k1⟩
   refine Kh.out _ _ _ rfl ?_ (hT'.trans (k1.mono hT'.size)) k1; rfl
  refine SeqOps.val ?_ (Sp fun ax wx hS hT' hd K' Kh => ?_) ?_; rotate_left 1
  ·have r2 := hS.at 2 (by decide) (hE.at 2 rfl); obtain ⟨_, _, _, _, _, _⟩ := bT hT'
   refine o1 r2 fun ρ q2 => ?_; go_simp;
   exact Jo Kh hT'
  refine SeqOps.val ?_ (Sp fun ax wx hS hT' hd K' Kh => ?_) ?_; rotate_left 1
  ·have r21 := Tv hd 0 3 21; obtain ⟨_, _, _, _, _, _⟩ := bT hT'
   refine o1 r21 fun ρ q21 => ?_; go_simp;
   exact Jo Kh hT'
  refine SeqOps.val ?_ (Sp fun ax wx hS hT' hd K' Kh => ?_) ?_; rotate_left 1
  ·have r22 := Tv hd 0 4 22; obtain ⟨_, _, _, _, _, _⟩ := bT hT'
   refine o1 r22 fun ρ q22 => ?_; go_simp;
   exact Jo Kh hT'
  refine SeqOps.val ?_ (Sp fun ax wx hS hT' hd K' Kh => ?_) ?_; rotate_left 1
  ·have r20 := Tv hd 3 2 20; have r23 := Tv hd 0 5 23; obtain ⟨_, _, _, _, _, _⟩ := bT hT'
   refine o2 r20 r23 fun ρ q20 q23 => ?_; go_simp; (try go_bits);
   rw [HNL.out]; refine Kh.out _ _ _ rfl ?_ hT' (Below.refl _ _); rfl
  refine SeqOps.val ?_ (Sp fun ax wx hS hT' hd K' Kh => ?_) ?_; rotate_left 1
  ·have r24 := Tv hd 0 6 24; obtain ⟨_, _, _, _, _, _⟩ := bT hT'
   refine o1 r24 fun ρ q24 => ?_; go_simp;
   exact Jo Kh hT'
  refine SeqOps.val ?_ (Sy 0 25 fun ax wx hS hT' hd K' Kh => ?_) ?_; rotate_left 1
  ·have r3 := hS.at 3 (by decide) (hE.at 3 rfl); obtain ⟨_, _, _, _, _, _⟩ := bT hT'
   refine o1 r3 fun ρ q3 => ?_; go_simp;
   exact Jo Kh hT'
  refine SeqOps.val ?_ (Sy 1 25 fun ax wx hS hT' hd K' Kh => ?_) ?_; rotate_left 1
  ·have r1 := hS.at 1 (by decide) (hE.at 1 rfl); obtain ⟨_, _, _, _, _, _⟩ := bT hT'
   refine o1 r1 fun ρ q1 => ?_; go_simp;
   exact Jo Kh hT'
  refine SeqOps.val ?_ (Sy 2 25 fun ax wx hS hT' hd K' Kh => ?_) ?_; rotate_left 1
  ·have r1 := hS.at 1 (by decide) (hE.at 1 rfl); obtain ⟨_, _, _, _, _, _⟩ := bT hT'
   refine o1 r1 fun ρ q1 => ?_; go_simp;
   exact Jo Kh hT'
  refine SeqOps.val ?_ (Sy 3 25 fun ax wx hS hT' hd K' Kh => ?_) ?_; rotate_left 1
  ·have r28 := Tv hd 0 10 28; obtain ⟨_, _, _, _, _, _⟩ := bT hT'
   refine o1 r28 fun ρ q28 => ?_; go_simp; (try go_bits);
   exact Jo Kh hT'
  refine SeqOps.val ?_ (Sy 4 25 fun ax wx hS hT' hd K' Kh => ?_) ?_; rotate_left 1
  ·have r1 := hS.at 1 (by decide) (hE.at 1 rfl); obtain ⟨_, _, _, _, _, _⟩ := bT hT'
   refine o1 r1 fun ρ q1 => ?_; go_simp;
   exact Jo Kh hT'
  refine SeqOps.val ?_ (Sy 5 25 fun ax wx hS hT' hd K' Kh => ?_) ?_; rotate_left 1
  ·have r30 := Tv hd 0 12 30; obtain ⟨_, _, _, _, _, _⟩ := bT hT'
   refine o1 r30 fun ρ q30 => ?_; go_simp; (try go_bits);
   exact Jo Kh hT'
  refine SeqOps.val ?_ (Sy 6 25 fun ax wx hS hT' hd K' Kh => ?_) ?_; rotate_left 1
  ·have r27 := Tv hd 4 9 27; have r29 := Tv hd 2 11 29; have r31 := Tv hd 0 13 31; obtain ⟨_, _, _, _, _, _⟩ := bT hT'
   refine o3 r27 r29 r31 fun ρ q27 q29 q31 => ?_; go_simp; (try go_bits);
   exact Jo Kh hT'
  refine SeqOps.nil ?_
  intro V1 hBl; (repeat refine Ek ?_)
  refine fun ax hEx => ?_
  simp only [lk, pick, Nat.reduceEqDiff, ↓reduceIte] at hEx
  refine Late.yieldg hEx (by (first | (simp only [List.getElem?_toArray, List.getElem?_cons_succ, List.getElem?_cons_zero]; rfl) | rfl)) rfl (d := 25) (by kernel_rfl) rfl (fun K' Kh => ?_)
  have hJ1 := hJ _ _ _ _ h0 (hBl.mono hV) (fun k hk => hBl.block k ((hJM _ _ _ h0).1 k hk))
  refine yield_op (R := fun e V' => ∃ x, e = .returned (.bool x) ∧ OutR J Jx XS l pre [t] M V1 x V') rfl ⟨_, rfl, hEx.eval 26 rfl⟩ (vs := #[.slice T t.length t.length]) (by simp [hEx.eval 32 rfl]) ((hY pre t M V1 _ hJ1 (Nat.le_trans hV hBl.size) ⟨T, rfl, (hTA.below hBl).more hBl.size, (hT.below hBl).typed⟩ hp).mono ?_) ?_
  ·(rintro e V' (⟨rfl, M', h1, h2, h3⟩ | ⟨rfl, h1⟩); (exact ⟨true, rfl, .inl ⟨rfl, M', h1, h2, h3⟩⟩); (exact ⟨false, rfl, .inr ⟨rfl, pre, t, hp, h1⟩⟩))
  rintro e V2 ⟨r, rfl, hO⟩
  refine ⟨_, rfl, ?_⟩
  refine Ln hEx Kh fun _ Eb => ?_; clear Kh K' hEx
  refine M2 Eb 25 33 fun K' Kh ρ q25 q33 => ?_; go_simp; (try go_bits)
  refine Ln Eb Kh fun _ Ea => ?_; clear Kh K' Eb q25 q33
  refine M1 Ea 34 fun K' Kh ρ q34 => ?_; go_simp
  refine Ln Ea Kh fun _ Eb => ?_; clear Kh K' Ea q34
  refine Ld [2, 3, 4, 7] Eb hK fun a hE => ?_; clear hK K Q' Eb
  refine Ks ?_
  refine ret_one hE rfl rfl ⟨r, rfl, ?_⟩
  rcases hO with ⟨rfl, M', h1, h2, h3⟩ | ⟨rfl, h1⟩
  ·exact .inl ⟨rfl, M', h1, fun k hk => (h2 k hk).imp id fun h => Nat.le_trans hBl.size h, (KeepM.of_below hBl).trans (.refl _ _) h3⟩
  ·exact .inr ⟨rfl, h1⟩
 ·have hnl : decide (b.lost < (x : Int)) = true := decide_eq_true (by omega)
  have HNL := hid hnl
  rw [HF.out, if_neg hlo] at hp ⊢
  clear hnl hlo HF
  refine Ks ?_
  refine Rd [15, 16, 17] (fun wt => Below V.heap.size V wt) (fun w1 w2 => Below w1.heap.size w1 w2) [(0, some 18), (1, some 19), (2, some 20), (3, some 21), (4, some 22), (5, some 23), (6, some 24), (7, some 25), (8, some 26), (9, some 27), (10, some 28), (11, some 29), (12, some 30), (13, some 31), (14, some 32)] [18, 19, 20, 21, 22, 23, 24, 25, 26, 27, 28, 29, 30, 31, 32] #[true, true, true, true, true, true, true, true, true, true, true, true, true, true, true, false, false, false] [2, 3, 4, 7] hE ((Below.refl _ _).drew) fun Q' K hK => ?_
  refine SeqOps.val ?_ (Sp fun ax wx hS hT' hd K' Kh => ?_) ?_; rotate_left 1
  ·have r2 := hS.at 2 (by decide) (hE.at 2 rfl); obtain ⟨_, _, _, _, _, _⟩ := bT hT'
   refine o1 r2 fun ρ q2 => ?_; go_simp;
   exact Jo Kh hT'
  refine SeqOps.val ?_ (Sp fun ax wx hS hT' hd K' Kh => ?_) ?_; rotate_left 1
  ·have r1 := hS.at 1 (by decide) (hE.at 1 rfl); obtain ⟨_, _, _, _, _, _⟩ := bT hT'
   refine o1 r1 fun ρ q1 => ?_; go_simp;
   exact Jo Kh hT'
  refine SeqOps.val ?_ (Sp fun ax wx hS hT' hd K' Kh => ?_) ?_; rotate_left 1
  ·have r18 := Tv hd 1 0 18; have r19 := Tv hd 0 1 19; obtain ⟨_, _, _, _, _, _⟩ := bT hT'
   refine o2 r18 r19 fun ρ q18 q19 => ?_; go_simp; (try go_bits);
   go_at_call 96; refine (HLO.out _ hT').mono ?_; rintro e g1 ⟨rfl, k1⟩
   refine Kh.out _ _ _ rfl ?_ (hT'.trans (k1.mono hT'.size)) k1; rfl
  refine SeqOps.val ?_ (Sp fun ax wx hS hT' hd K' Kh => ?_) ?_; rotate_left 1
  ·have r2 := hS.at 2 (by decide) (hE.at 2 rfl); obtain ⟨_, _, _, _, _, _⟩ := bT hT'
   refine o1 r2 fun ρ q2 => ?_; go_simp;
   exact Jo Kh hT'
  refine SeqOps.val ?_ (Sp fun ax wx hS hT' hd K' Kh => ?_) ?_; rotate_left 1
  ·have r21 := Tv hd 0 3 21; obtain ⟨_, _, _, _, _, _⟩ := bT hT'
   refine o1 r21 fun ρ q21 => ?_; go_simp;
   exact Jo Kh hT'
  refine SeqOps.val ?_ (Sp fun ax wx hS hT' hd K' Kh => ?_) ?_; rotate_left 1
  ·have r22 := Tv hd 0 4 22; obtain ⟨_, _, _, _, _, _⟩ := bT hT'
   refine o1 r22 fun ρ q22 => ?_; go_simp;
   exact Jo Kh hT'
  refine SeqOps.val ?_ (Sp fun ax wx hS hT' hd K' Kh => ?_) ?_; rotate_left 1
  ·have r20 := Tv hd 3 2 20; have r23 := Tv hd 0 5 23; obtain ⟨_, _, _, _, _, _⟩ := bT hT'
   refine o2 r20 r23 fun ρ q20 q23 => ?_; go_simp; (try go_bits);
   rw [HNL.out]; refine Kh.out _ _ _ rfl ?_ hT' (Below.refl _ _); rfl
  refine SeqOps.val ?_ (Sp fun ax wx hS hT' hd K' Kh => ?_) ?_; rotate_left 1
  ·have r24 := Tv hd 0 6 24; obtain ⟨_, _, _, _, _, _⟩ := bT hT'
   refine o1 r24 fun ρ q24 => ?_; go_simp;
   exact Jo Kh hT'
  refine SeqOps.val _ (StepOk.no (by (first | (simp only [List.getElem?_toArray, List.getElem?_cons_succ, List.getElem?_cons_zero]; rfl) | rfl)) rfl (e := 25) 0 rfl rfl (by kernel_rfl) (by kernel_rfl) (fun w => Below.refl _ _)) ?_
  refine SeqOps.val _ (StepOk.no (by (first | (simp only [List.getElem?_toArray, List.getElem?_cons_succ, List.getElem?_cons_zero]; rfl) | rfl)) rfl (e := 25) 1 rfl rfl (by kernel_rfl) (by kernel_rfl) (fun w => Below.refl _ _)) ?_
  refine SeqOps.val _ (StepOk.no (by (first | (simp only [List.getElem?_toArray, List.getElem?_cons_succ, List.getElem?_cons_zero]; rfl) | rfl)) rfl (e := 25) 2 rfl rfl (by kernel_rfl) (by kernel_rfl) (fun w => Below.refl _ _)) ?_
  refine SeqOps.val _ (StepOk.no (by (first | (simp only [List.getElem?_toArray, List.getElem?_cons_succ, List.getElem?_cons_zero]; rfl) | rfl)) rfl (e := 25) 3 rfl rfl (by kernel_rfl) (by kernel_rfl) (fun w => Below.refl _ _)) ?_
  refine SeqOps.val _ (StepOk.no (by (first | (simp only [List.getElem?_toArray, List.getElem?_cons_succ, List.getElem?_cons_zero]; rfl) | rfl)) rfl (e := 25) 4 rfl rfl (by kernel_rfl) (by kernel_rfl) (fun w => Below.refl _ _)) ?_
  refine SeqOps.val _ (StepOk.no (by (first | (simp only [List.getElem?_toArray, List.getElem?_cons_succ, List.getElem?_cons_zero]; rfl) | rfl)) rfl (e := 25) 5 rfl rfl (by kernel_rfl) (by kernel_rfl) (fun w => Below.refl _ _)) ?_
  refine SeqOps.val _ (StepOk.no (by (first | (simp only [List.getElem?_toArray, List.getElem?_cons_succ, List.getElem?_cons_zero]; rfl) | rfl)) rfl (e := 25) 6 rfl rfl (by kernel_rfl) (by kernel_rfl) (fun w => Below.refl _ _)) ?_
  refine SeqOps.nil ?_
  intro V1 hBl; (repeat refine Ek ?_)
  refine fun ax hEx => ?_
  simp only [lk, pick, Nat.reduceEqDiff, ↓reduceIte] at hEx
  refine Lno hEx 25 ?_
  refine Lu hEx fun _ Eb => ?_
  refine M2 Eb 25 33 fun K' Kh ρ q25 q33 => ?_; go_simp; (try go_bits)
  refine Ln Eb Kh fun _ Ea => ?_; clear Kh K' Eb q25 q33
  refine M1 Ea 34 fun K' Kh ρ q34 => ?_; go_simp
  refine Ln Ea Kh fun _ Eb => ?_; clear Kh K' Ea q34
  refine Ld [2, 3, 4, 7] Eb hK fun a hE => ?_; clear hK K Q' Eb
  refine Ks ?_
  have hJ1 := hJ _ _ _ _ h0 (hBl.mono hV) (fun k hk => hBl.block k ((hJM _ _ _ h0).1 k hk))
  exact ret_one hE rfl rfl ⟨true, rfl, .inl ⟨rfl, M, by simpa using hJ1, .refl _ _, .of_below hBl⟩⟩
end
end Go.Proofs.YtbimkcjdodgojaaGreat
