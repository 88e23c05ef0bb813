/- Name: the law's books, whose lines can be written. -/
import Derived.Test.YtbimkcjdodgojaaNy
import Derived.Test.YtbimkcjdodgojaaNaa
namespace Go.Proofs.Ytbimkcjdodgojaa
set_option linter.unusedSimpArgs false
set_option linter.unusedVariables false
open Go.RowKit
attribute [local go_sem high] cell_set_wr
attribute [local go_sem low] cell_wr frozen_wr
attribute [local go_sem] wr_set wr_drew wr_drewN wr_alloc wr_new

set_option maxRecDepth 100000 in
set_option maxHeartbeats 2000000 in
theorem books_row (lost : Int) (w : World) : Calls Try.prog 43 #[.int .i64 lost] w fun e w' => (∃ H G, e = .returned (.agg (bkV (some ⟨H, 0, none⟩) 2 (some ⟨G, 0, none⟩) 5 (chBk lost)).toArray) ∧ w.heap.size ≤ H ∧ H < G ∧ G < w'.heap.size ∧ Arr w' w'.heap.size (some ⟨H, 0, none⟩) (txts chEar.alike) ∧ Row w' G (nlines (chBk lost).lines)) ∧ Below w.heap.size w w' := by
 refine enterE Try.func43 rfl Try.ntmps43 (by simp) (fun a hE => ?_); simp only [envOf, Nat.zero_add, Nat.reduceAdd] at hE
 (repeat with_reducible first|refine ctl ?_|refine miss ?_)
 refine Rs 1 fun Q' K hK => ?_
 refine Lp fun K' hK' => ?_
 refine op0 fun ρ qc qf qg => ?_; go_simp; (try clear qc qf qg)
 refine Ln hE hK' fun a_1 hE_1 => ?_; clear hK' K' hE a
 refine late_done [0, 2] hE_1 hK (fun a hE => ?_); clear hK K Q' hE_1; simp only [lk, pick, Nat.reduceEqDiff, ↓reduceIte] at hE
 refine world_cut (fun wt => Below w.heap.size w wt ∧ w.heap.size < wt.heap.size ∧ ∃ cs : Array Value, cs.size = 7 ∧ wt.heap[w.heap.size]? = some (.cells cs 35)) ⟨(Below.refl _ _).alloc (Nat.le_refl _) _, by simp, _, ?_, by show (w.heap.push _)[w.heap.size]? = _; simp; rfl⟩ (fun w0 hC => ?_)
 ·rfl
 obtain ⟨hb0, hlt, cs, hcs, hG0⟩ := hC
 generalize hB : w.heap.size = B at hE hlt hG0
 (repeat with_reducible first|refine ctl ?_|refine miss ?_)
 refine Rs 11 fun Q' K hK => ?_
 refine Lp fun K' hK' => ?_
 refine op0 fun ρ qc qf qg => ?_; go_simp; (try go_bits); (try clear qc qf qg)
 go_at_call 45; refine (ear_any _).mono ?_; rintro e w1 ⟨⟨G, rfl, hlG, hG⟩, h1⟩
 refine Ln hE hK' fun a_1 hE_1 => ?_; clear hK' K' hE a
 refine Lp fun K' hK' => ?_
 refine op0 fun ρ qc qf qg => ?_; go_simp; (try go_bits); (try clear qc qf qg)
 go_at_call 56; refine (line_any _ _ _ _).mono ?_; rintro e w2 ⟨rfl, h2⟩
 refine Ln hE_1 hK' fun a_2 hE_2 => ?_; clear hK' K' hE_1
 refine Lp fun K' hK' => ?_
 refine op0 fun ρ qc qf qg => ?_; go_simp; (try go_bits); (try clear qc qf qg)
 go_at_call 56; refine (line_any _ _ _ _).mono ?_; rintro e w3 ⟨rfl, h3⟩
 refine Ln hE_2 hK' fun a_3 hE_3 => ?_; clear hK' K' hE_2
 refine Lp fun K' hK' => ?_
 refine op0 fun ρ qc qf qg => ?_; go_simp; (try go_bits); (try clear qc qf qg)
 go_at_call 56; refine (line_any _ _ _ _).mono ?_; rintro e w4 ⟨rfl, h4⟩
 refine Ln hE_3 hK' fun a_4 hE_4 => ?_; clear hK' K' hE_3
 refine Lp fun K' hK' => ?_
 refine op0 fun ρ qc qf qg => ?_; go_simp; (try go_bits); (try clear qc qf qg)
 go_at_call 56; refine (line_any _ _ _ _).mono ?_; rintro e w5 ⟨rfl, h5⟩
 refine Ln hE_4 hK' fun a_5 hE_5 => ?_; clear hK' K' hE_4
 refine Lp fun K' hK' => ?_
 refine op0 fun ρ qc qf qg => ?_; go_simp; (try go_bits); (try clear qc qf qg)
 go_at_call 56; refine (line_any _ _ _ _).mono ?_; rintro e w6 ⟨rfl, h6⟩
 refine Ln hE_5 hK' fun a_6 hE_6 => ?_; clear hK' K' hE_5
 refine Lp fun K' hK' => ?_
 have r4 := hE_6.at 4 rfl; have r5 := hE_6.at 5 rfl; have r6 := hE_6.at 6 rfl; have r7 := hE_6.at 7 rfl; have r8 := hE_6.at 8 rfl
 refine op_run (fun ρ hρ qc qf qg => ?_); have q4 := rho hρ r4; have q5 := rho hρ r5; have q6 := rho hρ r6; have q7 := rho hρ r7; have q8 := rho hρ r8; clear hρ; go_simp; (try clear qc qf qg r4 q4 r5 q5 r6 q6 r7 q7 r8 q8)
 (try clear r4 r5 r6 r7 r8)
 refine Ln hE_6 hK' fun a_7 hE_7 => ?_; clear hK' K' hE_6
 refine Lp fun K' hK' => ?_
 refine op0 fun ρ qc qf qg => ?_; go_simp; (try go_bits); (try clear qc qf qg)
 go_at_call 39; refine (to_any _ _ _).mono ?_; rintro e w7 ⟨rfl, h7⟩; have hb7 : Below w0.heap.size w0 w7 := Below.chain ((Below.chain (Below.chain (Below.chain (Below.chain (Below.chain h1 h2) h3) h4) h5) h6).alloc (by have := h1.size; have := h2.size; have := h3.size; have := h4.size; have := h5.size; have := h6.size; omega) _) h7; have hG7 : w7.heap[B]? = some (.cells cs 35) := (hb7.block B hlt).trans hG0; obtain ⟨c0, c1, c2, c3, c4, c5, c6⟩ := seven hG7 hcs; obtain ⟨f0, f1, f2, f3, f4, f5, f6⟩ := sevenF hG7; clear hG7 hG0
 refine Ln hE_7 hK' fun a_8 hE_8 => ?_; clear hK' K' hE_7
 refine Lp fun K' hK' => ?_
 have r0 := hE_8.at 0 rfl; refine op1 r0 fun ρ qc qf qg q0 => ?_; go_simp; (try clear qc qf qg r0 q0)
 refine Ln hE_8 hK' fun a_9 hE_9 => ?_; clear hK' K' hE_8
 refine Lp fun K' hK' => ?_
 have r3 := hE_9.at 3 rfl; have r9 := hE_9.at 9 rfl; have r10 := hE_9.at 10 rfl; have r11 := hE_9.at 11 rfl
 refine op_run (fun ρ hρ qc qf qg => ?_); have q3 := rho hρ r3; have q9 := rho hρ r9; have q10 := rho hρ r10; have q11 := rho hρ r11; clear hρ; go_simp; (try clear qc qf qg r3 q3 r9 q9 r10 q10 r11 q11)
 (try clear r3 r9 r10 r11)
 refine Ln hE_9 hK' fun a_10 hE_10 => ?_; clear hK' K' hE_9
 refine Lp fun K' hK' => ?_
 have r2 := hE_10.at 2 rfl; have r12 := hE_10.at 12 rfl
 refine op2 r2 r12 fun ρ qc qf qg q2 q12 => ?_; go_simp; (try clear qc qf qg r2 q2 r12 q12)
 (try clear r2 r12)
 refine late_skip hE_10 hK' (fun a_11 hE_11 => ?_); clear hK' K'; clear hE_10
 refine late_done [0, 2] hE_11 hK (fun a hE => ?_); clear hK K Q' hE_11; simp only [lk, pick, Nat.reduceEqDiff, ↓reduceIte] at hE
 have s6 : B < w6.heap.size := by have := h1.size; have := h2.size; have := h3.size; have := h4.size; have := h5.size; have := h6.size; omega
 have hRL : Row w7 w6.heap.size (nlines (chBk lost).lines) := (row_new w6 _ _).below (h7.mono (by simp)) (by simp)
 have hGw : G < w6.heap.size := by
  obtain ⟨b', o', e', q1, _⟩ := hG (by simp [txts, chEar])
  have e2 : G = b' := by cases e'; rfl
  have := h2.size; have := h3.size; have := h4.size; have := h5.size; have := h6.size
  omega
 have hb17 : Below w1.heap.size w1 w7 := Below.chain ((Below.chain (Below.chain (Below.chain (Below.chain h2 h3) h4) h5) h6).alloc (by have := h2.size; have := h3.size; have := h4.size; have := h5.size; have := h6.size; omega) _) h7
 have hA := (hG.below hb17).more hb17.size
 refine world_cut (fun wt => Cells wt B (bkV (some ⟨G, 0, none⟩) 2 (some ⟨w6.heap.size, 0, none⟩) 5 (chBk lost)) ∧ (Arr wt wt.heap.size (some ⟨G, 0, none⟩) (txts chEar.alike) ∧ Row wt w6.heap.size (nlines (chBk lost).lines)) ∧ Below B w wt ∧ wt.heap.size = w7.heap.size) ⟨?_, ?_, ?_, ?_⟩ (fun w8 hC => ?_)
 ·refine ⟨by simp only [size_set]; have := hb7.size; omega, fun j u hu => ?_⟩
  match j, hu with
  | 0, hu => have e := Option.some.inj hu; rw [← e]; refine cell_oth (cell_oth (cell_oth (cell_oth (cell_oth (cell_oth (cell_set_wr ?_) (by decide)) (by decide)) (by decide)) (by decide)) (by decide)) (by decide); (try simp only [wr_set]); exact ⟨by rw [c0]; rfl, f0⟩
  | 1, hu => have e := Option.some.inj hu; rw [← e]; refine cell_oth (cell_oth (cell_oth (cell_oth (cell_oth (cell_set_wr ?_) (by decide)) (by decide)) (by decide)) (by decide)) (by decide); (try simp only [wr_set]); exact ⟨by rw [c1]; rfl, f1⟩
  | 2, hu => have e := Option.some.inj hu; rw [← e]; refine cell_oth (cell_oth (cell_oth (cell_oth (cell_set_wr ?_) (by decide)) (by decide)) (by decide)) (by decide); (try simp only [wr_set]); exact ⟨by rw [c2]; rfl, f2⟩
  | 3, hu => have e := Option.some.inj hu; rw [← e]; refine cell_oth (cell_oth (cell_oth (cell_set_wr ?_) (by decide)) (by decide)) (by decide); (try simp only [wr_set]); exact ⟨by rw [c3]; rfl, f3⟩
  | 4, hu => have e := Option.some.inj hu; rw [← e]; refine cell_oth (cell_oth (cell_set_wr ?_) (by decide)) (by decide); (try simp only [wr_set]); exact ⟨by rw [c4]; rfl, f4⟩
  | 5, hu => have e := Option.some.inj hu; rw [← e]; refine cell_oth (cell_set_wr ?_) (by decide); (try simp only [wr_set]); exact ⟨by rw [c5]; rfl, f5⟩
  | 6, hu => have e := Option.some.inj hu; rw [← e]; refine cell_set_wr ?_; (try simp only [wr_set]); exact ⟨by rw [c6]; rfl, f6⟩
  | n + 7, hu => simp [bkV] at hu
 ·refine ⟨?_, ?_⟩
  ·simp only [size_set]
   exact arr_set (arr_set (arr_set (arr_set (arr_set (arr_set (arr_set hA (by omega)) (by omega)) (by omega)) (by omega)) (by omega)) (by omega)) (by omega)
  ·exact ((((((hRL.other (by omega)).other (by omega)).other (by omega)).other (by omega)).other (by omega)).other (by omega)).other (by omega)
 ·have hB7 : Below B w w7 := by rw [← hB]; exact Below.chain hb0 hb7
  exact ((((((hB7.setCell (Nat.le_refl _) _).setCell (Nat.le_refl _) _).setCell (Nat.le_refl _) _).setCell (Nat.le_refl _) _).setCell (Nat.le_refl _) _).setCell (Nat.le_refl _) _).setCell (Nat.le_refl _) _
 ·simp only [size_set]
 obtain ⟨hCB, ⟨hMA, hMR⟩, hBl, hsz⟩ := hC
 simp only [bkV] at hCB
 have nB := hCB.1; have cB0 := hCB.2 0 _ rfl; have cB1 := hCB.2 1 _ rfl; have cB2 := hCB.2 2 _ rfl; have cB3 := hCB.2 3 _ rfl; have cB4 := hCB.2 4 _ rfl; have cB5 := hCB.2 5 _ rfl; have cB6 := hCB.2 6 _ rfl
 (repeat with_reducible first|refine ctl ?_|refine miss ?_)
 have g := hE.at 2 rfl
 exact bodyPost_ret (v := .agg (bkV (some ⟨G, 0, none⟩) 2 (some ⟨w6.heap.size, 0, none⟩) 5 (chBk lost)).toArray) (by
  simp [results, Try.results43, go_sem, g, cB0, cB1, cB2, cB3, cB4, cB5, cB6, bkV]) hE.1 ⟨⟨_, _, rfl, by have := hb0.size; omega, hGw, by rw [hsz]; have := h7.size; simp at this; omega, hMA, hMR⟩, hBl⟩
end Go.Proofs.Ytbimkcjdodgojaa
