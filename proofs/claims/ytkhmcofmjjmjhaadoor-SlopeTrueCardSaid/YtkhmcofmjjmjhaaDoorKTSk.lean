/- Slope: whether an hour is safe. -/
import Derived.Test.YtkhmcofmjjmjhaaDoorKTSg

namespace Go.Proofs.YtkhmcofmjjmjhaaDoor
set_option linter.unusedSimpArgs false
set_option linter.unusedVariables false
open Go Go.RowKit
attribute [local go_sem high] cell_set_wr
attribute [local go_sem low] cell_wr frozen_wr
attribute [local go_sem] wr_set wr_drew wr_drewN wr_alloc wr_new Rho.c Rho.n Rho.g
/-- a book in the calculation -/
def bkV (H : Option Addr) (hcap : Nat) (S : Option Addr) (scap : Nat) (b : Sb) (P : Option Addr) (n pcap : Nat) : List Value := [.int .i64 b.sl.snow, .int .i64 b.sl.wind, .int .i64 b.sl.sun, .int .i64 b.sl.settle, .int .i64 b.sl.hold, .int .i64 b.lo, .int .i64 b.hi, .slice H b.hours.length hcap, .slice S b.sights.length scap, .slice P n pcap]
def inF (lo k : Nat) (m : Nat) : Bool := decide (lo ≤ m ∧ m < lo + k)
theorem inF_step (lo k : Nat) : (fun m => if m = lo + k then true else inF lo k m) = inF lo (k + 1) := by
 funext m
 unfold inF
 by_cases e : m = lo + k
 ·subst e; simp
 ·rw [if_neg e]
  congr 1
  exact propext ⟨fun h => ⟨h.1, by omega⟩, fun h => ⟨h.1, by omega⟩⟩
section
variable (H : Option Addr) (hcap : Nat) (S : Option Addr) (scap : Nat) (b : Sb) (P : Option Addr) (n pcap : Nat)
set_option maxRecDepth 100000 in
set_option maxHeartbeats 1000000 in
theorem start_any (lo hi : Nat) (hlo : b.lo = lo) (hhi : b.hi = hi) (h1 : lo ≤ hi) (h2 : hi < 2000) (w : World) : Calls Tryd.prog 98 #[.agg (bkV H hcap S scap b P n pcap).toArray] w fun e w' => e = .returned (.agg (bls (inF lo (hi - lo + 1))).toArray) ∧ Below w.heap.size w w' := by
 obtain ⟨sl, blo, bhi, hs, si⟩ := b
 simp only at hlo hhi
 subst hlo hhi
 simp only [bkV]
 obtain ⟨N, hN⟩ : ∃ N, hi - lo + 1 = N := ⟨_, rfl⟩
 have hNI : (hi : Int) - lo + 1 = N := by omega
 rw [hN]
 refine enterE Tryd.func98 rfl Tryd.ntmps98 (by simp) (fun a hE => ?_); simp only [envOf, Nat.zero_add, Nat.reduceAdd] at hE
 refine Ks ?_
 refine Rs 2 fun Q' K hK => ?_
 refine M1 hE 0 fun K' J ρ q0 => ?_; go_simp
 refine Ln hE J fun _ Eb => ?_; clear J K' hE a q0
 refine M0 fun K' J ρ => ?_; go_simp;
 refine Ln Eb J fun _ Ea => ?_; clear J K' Eb
 refine Ld [1, 2] Ea hK fun a hE => ?_; clear hK K Q' Ea
 obtain ⟨B, hB⟩ : ∃ B, B = w.heap.size := ⟨_, rfl⟩
 obtain ⟨R, hR⟩ : ∃ B, B = w.heap.size + 1 := ⟨_, rfl⟩
 rw [← hR, ← hB] at hE
 rw [zero_loads]
 refine world_cut (fun wt => Below w.heap.size w wt ∧ Cells wt B (bkV H hcap S scap ⟨sl, lo, hi, hs, si⟩ P n pcap) ∧ RowD wt R 2000) ?_ (fun w1 hC => ?_)
 ·rw [hB, hR]; obtain ⟨q1, q2, q3, q4⟩ := box_row w (bkV H hcap S scap ⟨sl, lo, hi, hs, si⟩ P n pcap).toArray 85 (bls fun _ => false).toArray 123; exact ⟨q1, q2, q3, bls fun _ => false, bls_length _, q4⟩
 obtain ⟨hbw1, hCB, hRD⟩ := hC
 have hnR : w.heap.size ≤ R := by omega
 clear hB hR
 simp only [bkV] at hCB
 have nB := hCB.1; have cB5 := hCB.2 5 _ rfl; have cB6 := hCB.2 6 _ rfl
 refine Ks ?_
 refine Rs 1 fun Q' K hK => ?_
 refine M0 fun K' J ρ => ?_; go_simp;
 refine Ln hE J fun _ Eb => ?_; clear J K' hE a
 refine Ld [1, 2, 3] Eb hK fun a hE => ?_; clear hK K Q' Eb
 rw [zero_loads]
 obtain ⟨C, hC⟩ : ∃ B, B = w1.heap.size := ⟨_, rfl⟩
 rw [← hC] at hE
 refine world_cut (fun wt => Below w1.heap.size w1 wt ∧ C < wt.heap.size ∧ Row wt C (bls fun _ => false)) (by rw [hC]; exact ⟨(Below.refl _ _).alloc (Nat.le_refl _) _, by simp, row_new w1 _ _⟩) (fun w2 hCut => ?_)
 obtain ⟨h2', hlC, hRC⟩ := hCut
 have hnC : w1.heap.size ≤ C := Nat.le_of_eq hC.symm
 clear hC
 have hCB1 := hCB
 have hbw2 := hbw1.trans (h2'.mono hbw1.size)
 replace hCB := hCB.below h2'
 clear nB cB5 cB6
 have nB := hCB.1; have cB5 := hCB.2 5 _ rfl; have cB6 := hCB.2 6 _ rfl
 refine Ks ?_
 refine Rs 11 fun Q' K hK => ?_
 refine M1 hE 1 fun K' J ρ q1 => ?_; go_simp
 refine Ln hE J fun _ Eb => ?_; clear J K' hE a q1
 refine M1 Eb 5 fun K' J ρ q5 => ?_; go_simp
 refine Ln Eb J fun _ Ea => ?_; clear J K' Eb q5
 refine M1 Ea 6 fun K' J ρ q6 => ?_; go_simp
 refine Ln Ea J fun _ Eb => ?_; clear J K' Ea q6
 refine M1 Eb 7 fun K' J ρ q7 => ?_; go_simp
 refine Ln Eb J fun _ Ea => ?_; clear J K' Eb q7
 refine M1 Ea 1 fun K' J ρ q1 => ?_; go_simp
 refine Ln Ea J fun _ Eb => ?_; clear J K' Ea q1
 refine M1 Eb 9 fun K' J ρ q9 => ?_; go_simp
 refine Ln Eb J fun _ Ea => ?_; clear J K' Eb q9
 refine M1 Ea 10 fun K' J ρ q10 => ?_; go_simp
 refine Ln Ea J fun _ Eb => ?_; clear J K' Ea q10
 refine M1 Eb 11 fun K' J ρ q11 => ?_; go_simp
 refine Ln Eb J fun _ Ea => ?_; clear J K' Eb q11
 refine M2 Ea 8 12 fun K' J ρ q8 q12 => ?_; go_simp; (try go_bits); (try simp (disch := omega) only [IntWalk.i64_in])
 refine Ln Ea J fun _ Eb => ?_; clear J K' Ea q8 q12
 refine M1 Eb 13 fun K' J ρ q13 => ?_; go_simp; (try go_bits); (try simp (disch := omega) only [IntWalk.i64_in])
 refine Ln Eb J fun _ Ea => ?_; clear J K' Eb q13
 refine M0 fun K' J ρ => ?_; go_simp;
 refine Ln Ea J fun _ Eb => ?_; clear J K' Ea
 refine Ld [1, 2, 3, 14, 15] Eb hK fun a hE => ?_; clear hK K Q' Eb
 have hz : bls (fun _ => false) = bls (inF lo 0) := bls_congr fun i _ => by unfold inF; exact (decide_eq_false (by omega)).symm
 rw [hz] at hRC
 refine Ks ?_
 refine loop_st (fun (k : Nat) a w' => k ≤ N ∧ Fits 27 [(1, .pointer (some ⟨B, 0, none⟩)), (2, .pointer (some ⟨R, 0, none⟩)), (3, .pointer (some ⟨C, 0, none⟩)), (14, .int .i64 N), (15, .int .i64 k)] a ∧ Below w1.heap.size w1 w' ∧ C < w'.heap.size ∧ Row w' C (bls (inF lo k))) (fun k => N - k) 0 ⟨Nat.zero_le _, by simpa using hE, h2', hlC, hRC⟩ (fun k a wr hI => ?_)
 clear hE hRC hlC hz
 obtain ⟨hk, hE, hW, hlC, hRC⟩ := hI
 have hbr := hbw1.trans (hW.mono hbw1.size)
 have d5 := (hCB1.below hW).2 5 _ rfl
 by_cases hlt : k < N
 ·have hltI : (k : Int) < N := by omega
  have hi2 : lo + k < 2000 := by omega
  have hi3 : (lo : Int) + k < 2000 := by omega
  have hwi := (hRC (lo + k) _ (bls_at _ hi2)).2
  refine Ks ?_
  refine Rs 1 fun Q' K hK => ?_
  refine M2 hE 15 14 fun K' J ρ q15 q14 => ?_; go_simp; (try go_bits)
  refine Ln hE J fun _ Eb => ?_; clear J K' hE a q15 q14
  replace Eb := Eb.turn 16 (v' := .bool true) rfl (by (first | (simp; done) | (simp; omega)))
  refine Ld [1, 2, 3, 14, 15, 16] Eb hK fun a hE => ?_; clear hK K Q' Eb
  refine Ks ?_
  refine cond_yes hE (t := 16) rfl ?_
  refine Ks ?_
  refine Rs 2 fun Q' K hK => ?_
  refine M1 hE 15 fun K' J ρ q15 => ?_; go_simp
  refine Ln hE J fun _ Eb => ?_; clear J K' hE a q15
  refine M1 Eb 17 fun K' J ρ q17 => ?_; go_simp
  refine Ln Eb J fun _ Ea => ?_; clear J K' Eb q17
  refine Ld [1, 2, 3, 4, 14, 15] Ea hK fun a hE => ?_; clear hK K Q' Ea
  refine Ks ?_
  refine Rs 8 fun Q' K hK => ?_
  refine M1 hE 1 fun K' J ρ q1 => ?_; go_simp
  refine Ln hE J fun _ Eb => ?_; clear J K' hE a q1
  refine M1 Eb 18 fun K' J ρ q18 => ?_; go_simp
  refine Ln Eb J fun _ Ea => ?_; clear J K' Eb q18
  refine M1 Ea 19 fun K' J ρ q19 => ?_; go_simp
  refine Ln Ea J fun _ Eb => ?_; clear J K' Ea q19
  refine M1 Eb 20 fun K' J ρ q20 => ?_; go_simp
  refine Ln Eb J fun _ Ea => ?_; clear J K' Eb q20
  refine M1 Ea 4 fun K' J ρ q4 => ?_; go_simp
  refine Ln Ea J fun _ Eb => ?_; clear J K' Ea q4
  refine M2 Eb 21 22 fun K' J ρ q21 q22 => ?_; go_simp; (try go_bits); (try simp (disch := omega) only [IntWalk.i64_in])
  refine Ln Eb J fun _ Ea => ?_; clear J K' Eb q21 q22
  refine M2 Ea 3 23 fun K' J ρ q3 q23 => ?_; go_simp; (try go_bits)
  refine Ln Ea J fun _ Eb => ?_; clear J K' Ea q3 q23
  refine M1 Eb 24 fun K' J ρ q24 => ?_; go_simp; (try clear q24)
  refine late_skip Eb J (fun _ Ea => ?_); clear J K'; clear Eb
  refine Ld [1, 2, 3, 14, 15] Ea hK fun a hE => ?_; clear hK K Q' Ea
  refine world_cut (fun wt => Below w1.heap.size w1 wt ∧ C < wt.heap.size ∧ Row wt C (bls (inF lo (k + 1)))) ⟨hW.setCell hnC _, by simpa using hlC, by have h := hRC.set (o := lo + k) (v := .bool true) (by rw [bls_length]; exact hi2); rw [bls_set, inF_step] at h; exact h⟩ (fun w6 hC => ?_)
  obtain ⟨hW6, hlC6, hRC6⟩ := hC
  refine Ks ?_
  refine Rs 2 fun Q' K hK => ?_
  refine M1 hE 15 fun K' J ρ q15 => ?_; go_simp; (try go_bits); (try simp (disch := omega) only [IntWalk.i64_in])
  refine Ln hE J fun _ Eb => ?_; clear J K' hE a q15
  refine M1 Eb 25 fun K' J ρ q25 => ?_; go_simp
  refine Ln Eb J fun _ Ea => ?_; clear J K' Eb q25
  refine Ld [1, 2, 3, 14, 15] Ea hK fun a hE => ?_; clear hK K Q' Ea
  refine Ks ?_
  exact ⟨k + 1, ⟨hlt, by simpa using hE, hW6, hlC6, hRC6⟩, by omega⟩
 ·have hke : k = N := by omega
  subst hke
  obtain ⟨hlR, zs, hzs, hRR⟩ := hRD.below hW
  refine Ks ?_
  refine Rs 1 fun Q' K hK => ?_
  refine M2 hE 15 14 fun K' J ρ q15 q14 => ?_; go_simp; (try go_bits)
  refine Ln hE J fun _ Eb => ?_; clear J K' hE a q15 q14
  replace Eb := Eb.turn 16 (v' := .bool false) rfl (by simp)
  refine Ld [1, 2, 3, 14, 15, 16] Eb hK fun a hE => ?_; clear hK K Q' Eb
  refine Ks ?_
  refine cond_no hE (t := 16) rfl ?_
  refine Ks ?_
  refine Rs 2 fun Q' K hK => ?_
  refine Lp fun K' J => ?_
  have r3 := hE.at 3 rfl
  refine wp_load_mid 123 (.tmp 3) rfl C 0 (eval_of r3) (bls (inF lo k)) _ (fun j u hu => by rw [Nat.zero_add]; exact (hRC j u hu).1) Tryd.underlying123 rfl (by rw [bls_length]; kernel_rfl) ?_
  (try clear r3)
  refine Ln hE J fun _ Eb => ?_; clear J K' hE a
  refine Lp fun K' J => ?_
  have r2 := Eb.at 2 rfl; have r26 := Eb.at 26 rfl
  refine wp_store_mid 123 (.tmp 2) (.tmp 26) rfl R 0 (bls (inF lo k)).toArray (eval_of r2) (eval_of r26) (there_row hRR (by rw [hzs, List.size_toArray, bls_length]; exact Nat.le_refl _)) (by rw [List.size_toArray, bls_length]; kernel_rfl) (bls_one _) ?_
  (try clear r2 r26)
  refine late_skip Eb J (fun _ Ea => ?_); clear J K'; clear Eb
  refine Ld [2] Ea hK fun a hE => ?_; clear hK K Q' Ea
  refine world_cut (fun wt => Below w.heap.size w wt ∧ Row wt R (bls (inF lo k))) ⟨Lib.below_setCells R hnR _ _ hbr, row_all hRR (by rw [hzs, bls_length])⟩ (fun w9 hC => ?_)
  obtain ⟨hb9, hRR9⟩ := hC
  refine Ks ?_
  exact ret_cell hE rfl rfl (fun j u hu => (hRR9 j u hu).1) Tryd.underlying123 rfl (by rw [bls_length]; kernel_rfl) ⟨rfl, hb9⟩
end
section
variable (H : Option Addr) (hcap : Nat) (S : Option Addr) (scap : Nat) (b : Sb) (P : Option Addr) (n pcap : Nat)
set_option maxRecDepth 100000 in
set_option maxHeartbeats 1000000 in
theorem over_any (w : World) : Calls Tryd.prog 122 #[.agg (bkV H hcap S scap b P n pcap).toArray] w fun e w' => e = .returned (.agg #[.int .i64 n, .int .i64 0]) ∧ Below w.heap.size w w' := by
 obtain ⟨⟨a0, a1, a2, a3, a4⟩, lo, hi, hs, si⟩ := b
 simp only [bkV]
 refine enterE Tryd.func122 rfl Tryd.ntmps122 (by simp) (fun a hE => ?_); simp only [envOf, Nat.zero_add, Nat.reduceAdd] at hE
 refine Ks ?_
 refine Rs 2 fun Q' K hK => ?_
 refine M1 hE 0 fun K' J ρ q0 => ?_; go_simp
 refine Ln hE J fun _ Eb => ?_; clear J K' hE a q0
 refine M0 fun K' J ρ => ?_; go_simp;
 refine Ln Eb J fun _ Ea => ?_; clear J K' Eb
 refine Ld [1, 2] Ea hK fun a hE => ?_; clear hK K Q' Ea
 obtain ⟨B, hB⟩ : ∃ B, B = w.heap.size := ⟨_, rfl⟩
 obtain ⟨R, hR⟩ : ∃ B, B = w.heap.size + 1 := ⟨_, rfl⟩
 rw [← hR, ← hB] at hE
 refine world_cut (fun wt => Below w.heap.size w wt ∧ Cells wt B (bkV H hcap S scap ⟨⟨a0, a1, a2, a3, a4⟩, lo, hi, hs, si⟩ P n pcap) ∧ RowD wt R 2) ?_ (fun w1 hC => ?_)
 ·rw [hB, hR]; obtain ⟨q1, q2, q3, q4⟩ := box_row w _ _ _ _; exact ⟨q1, q2, q3, _, rfl, q4⟩
 obtain ⟨hbw1, hCB, hRD⟩ := hC
 have hnR : w.heap.size ≤ R := by omega
 clear hB hR
 simp only [bkV] at hCB
 obtain ⟨hlR, zs, hzs, hRR⟩ := hRD
 have nB := hCB.1; have cB9 := hCB.2 9 _ rfl
 refine Ks ?_
 refine Rs 5 fun Q' K hK => ?_
 refine M1 hE 1 fun K' J ρ q1 => ?_; go_simp
 refine Ln hE J fun _ Eb => ?_; clear J K' hE a q1
 refine M1 Eb 3 fun K' J ρ q3 => ?_; go_simp
 refine Ln Eb J fun _ Ea => ?_; clear J K' Eb q3
 refine M1 Ea 4 fun K' J ρ q4 => ?_; go_simp; (try go_bits)
 refine Ln Ea J fun _ Eb => ?_; clear J K' Ea q4
 refine M1 Eb 5 fun K' J ρ q5 => ?_; go_simp
 refine Ln Eb J fun _ Ea => ?_; clear J K' Eb q5
 refine Lp fun K' J => ?_
 have r2 := Ea.at 2 rfl; have r6 := Ea.at 6 rfl
 refine wp_store_mid 160 (.tmp 2) (.tmp 6) rfl R 0 #[.int .i64 n, .int .i64 0] (eval_of r2) (eval_of r6) (there_row hRR (by rw [hzs]; exact Nat.le_refl _)) (by kernel_rfl) (by kernel_rfl) ?_
 (try clear r2 r6)
 refine late_skip Ea J (fun _ Eb => ?_); clear J K'; clear Ea
 refine Ld [2] Eb hK fun a hE => ?_; clear hK K Q' Eb
 obtain ⟨q1, q2, _, _⟩ := cells_stored hRR (vs := [.int .i64 n, .int .i64 0]) (by rw [hzs]; rfl) hlR hnR hbw1
 refine world_cut (fun wt => Cells wt R [.int .i64 n, .int .i64 0] ∧ Below w.heap.size w wt) ⟨q1, q2⟩ (fun w9 hCut => ?_)
 obtain ⟨hC9, hb9⟩ := hCut
 refine Ks ?_
 exact ret_cell hE rfl rfl hC9.2 Tryd.underlying160 rfl (by kernel_rfl) ⟨rfl, hb9⟩
set_option maxRecDepth 100000 in
set_option maxHeartbeats 1000000 in
theorem behind_any (h l : Nat) (hh : h < n) (hn : n ≤ 1000) (w : World) : Calls Tryd.prog 120 #[.agg (bkV H hcap S scap b P n pcap).toArray, .int .i64 h, .int .i64 l] w fun e w' => e = .returned (.agg (if h + 1 = n then #[.int .i64 n, .int .i64 0] else #[.int .i64 ((h + 1 : Nat) : Int), .int .i64 l])) ∧ Below w.heap.size w w' := by
 have C1 := hid (over_any H hcap S scap b P n pcap)
 obtain ⟨⟨a0, a1, a2, a3, a4⟩, lo, hi, hs, si⟩ := b
 simp only [bkV]
 refine enterE Tryd.func120 rfl Tryd.ntmps120 (by simp) (fun a hE => ?_); simp only [envOf, Nat.zero_add, Nat.reduceAdd] at hE
 refine Ks ?_
 refine Rs 2 fun Q' K hK => ?_
 refine M1 hE 0 fun K' J ρ q0 => ?_; go_simp
 refine Ln hE J fun _ Eb => ?_; clear J K' hE a q0
 refine M0 fun K' J ρ => ?_; go_simp;
 refine Ln Eb J fun _ Ea => ?_; clear J K' Eb
 refine Ld [1, 2, 3, 6] Ea hK fun a hE => ?_; clear hK K Q' Ea
 obtain ⟨B, hB⟩ : ∃ B, B = w.heap.size := ⟨_, rfl⟩
 obtain ⟨R, hR⟩ : ∃ B, B = w.heap.size + 1 := ⟨_, rfl⟩
 rw [← hR, ← hB] at hE
 refine world_cut (fun wt => Below w.heap.size w wt ∧ Cells wt B (bkV H hcap S scap ⟨⟨a0, a1, a2, a3, a4⟩, lo, hi, hs, si⟩ P n pcap) ∧ RowD wt R 2) ?_ (fun w1 hC => ?_)
 ·rw [hB, hR]; obtain ⟨q1, q2, q3, q4⟩ := box_row w _ _ _ _; exact ⟨q1, q2, q3, _, rfl, q4⟩
 obtain ⟨hbw1, hCB, hRD⟩ := hC
 have hnR : w.heap.size ≤ R := by omega
 have hCB1 := hCB
 clear hB hR
 simp only [bkV] at hCB
 have nB := hCB.1; have cB9 := hCB.2 9 _ rfl
 refine Ks ?_
 refine Rs 6 fun Q' K hK => ?_
 refine M1 hE 1 fun K' J ρ q1 => ?_; go_simp
 refine Ln hE J fun _ Eb => ?_; clear J K' hE a q1
 refine M1 Eb 7 fun K' J ρ q7 => ?_; go_simp; (try go_bits); (try simp (disch := omega) only [IntWalk.i64_in])
 refine Ln Eb J fun _ Ea => ?_; clear J K' Eb q7
 refine M1 Ea 3 fun K' J ρ q3 => ?_; go_simp
 refine Ln Ea J fun _ Eb => ?_; clear J K' Ea q3
 refine M1 Eb 9 fun K' J ρ q9 => ?_; go_simp
 refine Ln Eb J fun _ Ea => ?_; clear J K' Eb q9
 refine M1 Ea 10 fun K' J ρ q10 => ?_; go_simp; (try go_bits)
 refine Ln Ea J fun _ Eb => ?_; clear J K' Ea q10
 refine M2 Eb 8 11 fun K' J ρ q8 q11 => ?_; go_simp; (try go_bits)
 refine Ln Eb J fun _ Ea => ?_; clear J K' Eb q8 q11
 refine Ld [1, 2, 3, 6, 12] Ea hK fun a hE => ?_; clear hK K Q' Ea
 by_cases e : h + 1 = n
 ·have eI : (h : Int) + 1 = n := by omega
  rw [if_pos e]
  replace hE := hE.turn 12 (v' := .bool true) rfl (by simp [eI])
  refine Ks ?_
  refine cond_yes hE (t := 12) rfl ?_
  refine Ks ?_
  refine Rs 3 fun Q' K hK => ?_
  refine Lp fun K' J => ?_
  have r3 := hE.at 3 rfl
  refine wp_load_mid 85 (.tmp 3) rfl B 0 (eval_of r3) (bkV H hcap S scap ⟨⟨a0, a1, a2, a3, a4⟩, lo, hi, hs, si⟩ P n pcap) _ (fun j u hu => by rw [Nat.zero_add]; exact hCB1.2 j u hu) Tryd.underlying85 rfl (by kernel_rfl) ?_
  (try clear r3)
  refine Ln hE J fun _ Eb => ?_; clear J K' hE a
  refine M1 Eb 13 fun K' J ρ q13 => ?_; go_simp; (try go_bits); (try clear q13)
  go_at_call 122; refine (C1.out _).mono ?_; rintro e w5 ⟨rfl, h5⟩
  obtain ⟨hlR, zs, hzs, hRR⟩ := hRD.below h5
  have hb5 := hbw1.trans (h5.mono hbw1.size)
  (try clear r13)
  refine Ln Eb J fun _ Ea => ?_; clear J K' Eb
  refine Lp fun K' J => ?_
  have r6 := Ea.at 6 rfl; have r14 := Ea.at 14 rfl
  refine wp_store_mid 160 (.tmp 6) (.tmp 14) rfl R 0 #[.int .i64 n, .int .i64 0] (eval_of r6) (eval_of r14) (there_row hRR (by rw [hzs]; exact Nat.le_refl _)) (by kernel_rfl) (by kernel_rfl) ?_
  (try clear r6 r14)
  refine late_skip Ea J (fun _ Eb => ?_); clear J K'; clear Ea
  refine Ld [6] Eb hK fun a hE => ?_; clear hK K Q' Eb
  obtain ⟨q1, q2, _, _⟩ := cells_stored hRR (vs := [.int .i64 n, .int .i64 0]) (by rw [hzs]; rfl) hlR hnR hb5
  refine world_cut (fun wt => Cells wt R [.int .i64 n, .int .i64 0] ∧ Below w.heap.size w wt) ⟨q1, q2⟩ (fun w9 hCut => ?_)
  obtain ⟨hC9, hb9⟩ := hCut
  refine Ks ?_
  exact ret_cell hE rfl rfl hC9.2 Tryd.underlying160 rfl (by kernel_rfl) ⟨rfl, hb9⟩
 ·have eI : ¬ (h : Int) + 1 = n := by omega
  rw [if_neg e]
  obtain ⟨hlR, zs, hzs, hRR⟩ := hRD
  replace hE := hE.turn 12 (v' := .bool false) rfl (by simp [eI])
  refine Ks ?_
  refine cond_no hE (t := 12) rfl ?_
  refine Ks ?_
  refine Rs 5 fun Q' K hK => ?_
  refine M1 hE 1 fun K' J ρ q1 => ?_; go_simp
  refine Ln hE J fun _ Eb => ?_; clear J K' hE a q1
  refine M1 Eb 15 fun K' J ρ q15 => ?_; go_simp; (try go_bits); (try simp (disch := omega) only [IntWalk.i64_in])
  refine Ln Eb J fun _ Ea => ?_; clear J K' Eb q15
  refine M1 Ea 2 fun K' J ρ q2 => ?_; go_simp
  refine Ln Ea J fun _ Eb => ?_; clear J K' Ea q2
  refine M2 Eb 16 17 fun K' J ρ q16 q17 => ?_; go_simp
  refine Ln Eb J fun _ Ea => ?_; clear J K' Eb q16 q17
  refine Lp fun K' J => ?_
  have r6 := Ea.at 6 rfl; have r18 := Ea.at 18 rfl
  refine wp_store_mid 160 (.tmp 6) (.tmp 18) rfl R 0 #[.int .i64 ((h + 1 : Nat) : Int), .int .i64 l] (eval_of r6) (eval_of r18) (there_row hRR (by rw [hzs]; exact Nat.le_refl _)) (by kernel_rfl) (by kernel_rfl) ?_
  (try clear r6 r18)
  refine late_skip Ea J (fun _ Eb => ?_); clear J K'; clear Ea
  refine Ld [6] Eb hK fun a hE => ?_; clear hK K Q' Eb
  obtain ⟨q1, q2, _, _⟩ := cells_stored hRR (vs := [.int .i64 ((h + 1 : Nat) : Int), .int .i64 l]) (by rw [hzs]; rfl) hlR hnR hbw1
  refine world_cut (fun wt => Cells wt R [.int .i64 ((h + 1 : Nat) : Int), .int .i64 l] ∧ Below w.heap.size w wt) ⟨q1, q2⟩ (fun w9 hCut => ?_)
  obtain ⟨hC9, hb9⟩ := hCut
  refine Ks ?_
  exact ret_cell hE rfl rfl hC9.2 Tryd.underlying160 rfl (by kernel_rfl) ⟨rfl, hb9⟩
end
/-- loads in memory, one behind the other -/
def LdAt (w : World) (D : Option Addr) (ls : List (Nat → Bool)) : Prop := ∀ k (h : k < ls.length), ∃ b o, D = some ⟨b, o, none⟩ ∧ b < w.heap.size ∧ w.rangeAt b (o + k * 2000) (bls ls[k])
theorem LdAt.below {w w' : World} {D : Option Addr} {ls : List (Nat → Bool)} (h : LdAt w D ls) (hb : Below w.heap.size w w') : LdAt w' D ls := fun k hk => by
 obtain ⟨b, o, h1, h2, h3⟩ := h k hk
 exact ⟨b, o, h1, Nat.lt_of_lt_of_le h2 hb.size, fun j u hu => (hb.cell (p := ⟨b, o + k * 2000 + j, none⟩) h2).trans (h3 j u hu)⟩
/-- the outlook's cells -/
def olV (H : Option Addr) (hcap : Nat) (S : Option Addr) (scap : Nat) (b : Sb) (P : Option Addr) (n pcap : Nat) (D : Option Addr) (m dcap : Nat) (often : Value) : List Value := bkV H hcap S scap b P n pcap ++ [.slice D m dcap, often]
section
variable (H : Option Addr) (hcap : Nat) (S : Option Addr) (scap : Nat) (b : Sb) (P : Option Addr) (n pcap : Nat) (D : Option Addr) (dcap : Nat) (often : Value)
set_option maxRecDepth 100000 in
set_option maxHeartbeats 1000000 in
theorem oload_any (ls : List (Nat → Bool)) (h : Nat) (hh : h < ls.length) (lo hi : Nat) (hlo : lo < 2000) (hl : ∀ k, k < lo → ls[h] k = false) (hl1 : ls[h] lo = true) (hhi : hi < 2000) (hg : ∀ k, hi < k → k < 2000 → ls[h] k = false) (hg1 : ls[h] hi = true) (w : World) (hM : LdAt w D ls) : Calls Tryd.prog 66 #[.agg (olV H hcap S scap b P n pcap D ls.length dcap often).toArray, .int .i64 h] w fun e w' => e = .returned (.agg #[.int .i64 lo, .int .i64 hi]) ∧ Below w.heap.size w w' := by
 have C1 := hid (span_any ls[h] lo hi hlo hl hl1 hhi hg hg1)
 clear hlo hl hl1 hhi hg hg1
 have hhI : (h : Int) < ls.length := by omega
 obtain ⟨⟨a0, a1, a2, a3, a4⟩, blo, bhi, hs, si⟩ := b
 simp only [olV, bkV, List.cons_append, List.nil_append]
 refine enterE Tryd.func66 rfl Tryd.ntmps66 (by simp) (fun a hE => ?_); simp only [envOf, Nat.zero_add, Nat.reduceAdd] at hE
 refine Ks ?_
 refine Rs 2 fun Q' K hK => ?_
 refine M1 hE 0 fun K' J ρ q0 => ?_; go_simp
 refine Ln hE J fun _ Eb => ?_; clear J K' hE a q0
 refine M0 fun K' J ρ => ?_; go_simp;
 refine Ln Eb J fun _ Ea => ?_; clear J K' Eb
 refine Ld [1, 2, 4] Ea hK fun a hE => ?_; clear hK K Q' Ea
 obtain ⟨B, hB⟩ : ∃ B, B = w.heap.size := ⟨_, rfl⟩
 obtain ⟨R, hR⟩ : ∃ B, B = w.heap.size + 1 := ⟨_, rfl⟩
 rw [← hR, ← hB] at hE
 refine world_cut (fun wt => Below w.heap.size w wt ∧ Cells wt B (olV H hcap S scap ⟨⟨a0, a1, a2, a3, a4⟩, blo, bhi, hs, si⟩ P n pcap D ls.length dcap often) ∧ RowD wt R 2) ?_ (fun w1 hC => ?_)
 ·rw [hB, hR]; obtain ⟨q1, q2, q3, q4⟩ := box_row w _ _ _ _; exact ⟨q1, q2, q3, _, rfl, q4⟩
 obtain ⟨hbw1, hCB, hRD⟩ := hC
 have hnR : w.heap.size ≤ R := by omega
 clear hB hR
 simp only [olV, bkV, List.cons_append, List.nil_append] at hCB
 obtain ⟨b0, o0, hDe, hb0, hr⟩ := hM.below hbw1 h hh
 obtain ⟨F, hF⟩ : ∃ F, ls[h] = F := ⟨_, rfl⟩
 rw [hF] at hr C1
 have nB := hCB.1; have cB10 := hCB.2 10 _ rfl
 refine Ks ?_
 refine Rs 7 fun Q' K hK => ?_
 refine M1 hE 2 fun K' J ρ q2 => ?_; go_simp
 refine Ln hE J fun _ Eb => ?_; clear J K' hE a q2
 refine M1 Eb 5 fun K' J ρ q5 => ?_; go_simp
 refine Ln Eb J fun _ Ea => ?_; clear J K' Eb q5
 refine M1 Ea 1 fun K' J ρ q1 => ?_; go_simp
 refine Ln Ea J fun _ Eb => ?_; clear J K' Ea q1
 refine M2 Eb 6 7 fun K' J ρ q6 q7 => ?_; go_simp; (try go_bits)
 refine Ln Eb J fun _ Ea => ?_; clear J K' Eb q6 q7
 refine Lp fun K' J => ?_
 have r8 := Ea.at 8 rfl
 refine wp_load_mid 123 (.tmp 8) rfl b0 (o0 + h * 2000) (eval_of r8) (bls F) _ hr Tryd.underlying123 rfl (by rw [bls_length]; kernel_rfl) ?_
 (try clear r8)
 refine Ln Ea J fun _ Eb => ?_; clear J K' Ea
 refine M1 Eb 9 fun K' J ρ q9 => ?_; go_simp; (try go_bits); (try clear q9)
 go_at_call 85; refine (C1.out _).mono ?_; rintro e w5 ⟨rfl, h5⟩
 obtain ⟨hlR, zs, hzs, hRR⟩ := hRD.below h5
 have hb5 := hbw1.trans (h5.mono hbw1.size)
 (try clear r9)
 refine Ln Eb J fun _ Ea => ?_; clear J K' Eb
 refine Lp fun K' J => ?_
 have r4 := Ea.at 4 rfl; have r10 := Ea.at 10 rfl
 refine wp_store_mid 25 (.tmp 4) (.tmp 10) rfl R 0 #[.int .i64 lo, .int .i64 hi] (eval_of r4) (eval_of r10) (there_row hRR (by rw [hzs]; exact Nat.le_refl _)) (by kernel_rfl) (by kernel_rfl) ?_
 (try clear r4 r10)
 refine late_skip Ea J (fun _ Eb => ?_); clear J K'; clear Ea
 refine Ld [4] Eb hK fun a hE => ?_; clear hK K Q' Eb
 obtain ⟨q1, q2, _, _⟩ := cells_stored hRR (vs := [.int .i64 lo, .int .i64 hi]) (by rw [hzs]; rfl) hlR hnR hb5
 refine world_cut (fun wt => Cells wt R [.int .i64 lo, .int .i64 hi] ∧ Below w.heap.size w wt) ⟨q1, q2⟩ (fun w9 hCut => ?_)
 obtain ⟨hC9, hb9⟩ := hCut
 refine Ks ?_
 exact ret_cell hE rfl rfl hC9.2 Tryd.underlying25 rfl (by kernel_rfl) ⟨rfl, hb9⟩
end
section
variable (H : Option Addr) (hcap : Nat) (S : Option Addr) (scap : Nat) (b : Sb) (P : Option Addr) (n pcap : Nat) (D : Option Addr) (dcap : Nat) (often : Value)
set_option maxRecDepth 100000 in
set_option maxHeartbeats 1000000 in
theorem isSafe_any (ls : List (Nat → Bool)) (h : Nat) (hh : h < ls.length) (lo hi : Nat) (hlo : lo < 2000) (hl : ∀ k, k < lo → ls[h] k = false) (hl1 : ls[h] lo = true) (hhi : hi < 2000) (hg : ∀ k, hi < k → k < 2000 → ls[h] k = false) (hg1 : ls[h] hi = true) (w : World) (hM : LdAt w D ls) : Calls Tryd.prog 69 #[.agg (olV H hcap S scap b P n pcap D ls.length dcap often).toArray, .int .i64 h] w fun e w' => e = .returned (.bool (decide ((hi : Int) ≤ b.sl.hold))) ∧ Below w.heap.size w w' := by
 have C1 := hid fun (W : World) (hW : LdAt W D ls) => oload_any H hcap S scap b P n pcap D dcap often ls h hh lo hi hlo hl hl1 hhi hg hg1 W hW
 clear hlo hl hl1 hhi hg hg1
 obtain ⟨⟨a0, a1, a2, a3, a4⟩, blo, bhi, hs, si⟩ := b
 obtain ⟨V, hV⟩ : ∃ V, olV H hcap S scap ⟨⟨a0, a1, a2, a3, a4⟩, blo, bhi, hs, si⟩ P n pcap D ls.length dcap often = V := ⟨_, rfl⟩
 have HV := hid hV
 rw [hV] at C1 ⊢
 rw [← hV]
 clear hV
 simp only [olV, bkV, List.cons_append, List.nil_append]
 refine enterE Tryd.func69 rfl Tryd.ntmps69 (by simp) (fun a hE => ?_); simp only [envOf, Nat.zero_add, Nat.reduceAdd] at hE
 refine Ks ?_
 refine Rs 2 fun Q' K hK => ?_
 refine M1 hE 0 fun K' J ρ q0 => ?_; go_simp
 refine Ln hE J fun _ Eb => ?_; clear J K' hE a q0
 refine M0 fun K' J ρ => ?_; go_simp;
 refine Ln Eb J fun _ Ea => ?_; clear J K' Eb
 refine Ld [1, 2] Ea hK fun a hE => ?_; clear hK K Q' Ea
 obtain ⟨B, hB⟩ : ∃ B, B = w.heap.size := ⟨_, rfl⟩
 rw [← hB] at hE
 refine world_cut (fun wt => Below w.heap.size w wt ∧ Cells wt B V) (by rw [hB, ← HV.out]; exact ⟨(Below.refl _ _).alloc (Nat.le_refl _) _, cells_new w _ _⟩) (fun w1 hC => ?_)
 obtain ⟨hbw1, hCB⟩ := hC
 clear hB
 have hCB1 := hCB
 have hl := HV.out
 rw [← hl] at hCB
 clear hl
 simp only [olV, bkV, List.cons_append, List.nil_append] at hCB
 have hM1 := hM.below hbw1
 have nB := hCB.1; have cB4 := hCB.2 4 _ rfl
 refine Ks ?_
 refine Rd [10] (fun wt => Below w1.heap.size w1 wt) (fun w1 w2 => Below w1.heap.size w1 w2) [(0, some 5), (1, some 6), (2, some 7), (3, some 8), (4, some 9), (5, some 10), (6, some 11), (7, some 12), (8, some 13), (9, some 14)] [5, 6, 7, 8, 9, 10, 11, 12, 13, 14] #[true, true, true, true, true, true, true, true, true, true, false] [4] hE ((Below.refl _ _).drew) fun Q' K hK => ?_
 refine SeqOps.val ?_ (Sp fun ax wx hS hT' hd K' J => ?_) ?_; rotate_left 1
 ·have r2 := hS.at 2 (by decide) (hE.at 2 rfl); obtain ⟨_, _, _, _, _, _⟩ := bT hT'
  refine wp_load_mid 94 (.tmp 2) rfl B 0 (eval_of r2) V _ (fun j u hu => by rw [Nat.zero_add]; exact (hCB1.below hT').2 j u hu) Tryd.underlying94 rfl (by rw [← HV.out]; kernel_rfl) ?_
  refine J.out _ _ _ rfl ?_ hT' (Below.refl _ _); rfl
 refine SeqOps.val ?_ (Sp fun ax wx hS hT' hd K' J => ?_) ?_; rotate_left 1
 ·have r1 := hS.at 1 (by decide) (hE.at 1 rfl); obtain ⟨_, _, _, _, _, _⟩ := bT hT'
  refine o1 r1 fun ρ q1 => ?_; go_simp;
  exact Jo J hT'
 refine SeqOps.val ?_ (Sp fun ax wx hS hT' hd K' J => ?_) ?_; rotate_left 1
 ·have r5 := Tv hd 1 0 5; have r6 := Tv hd 0 1 6; obtain ⟨_, _, _, _, _, _⟩ := bT hT'
  refine o2 r5 r6 fun ρ q5 q6 => ?_; go_simp; (try go_bits);
  go_at_call 66; refine (C1.out _ (hM1.below hT')).mono ?_; rintro e w4 ⟨rfl, h4⟩
  refine J.out _ _ _ rfl ?_ (hT'.trans (h4.mono hT'.size)) h4; rfl
 refine SeqOps.val ?_ (Sp fun ax wx hS hT' hd K' J => ?_) ?_; rotate_left 1
 ·have r7 := Tv hd 0 2 7; obtain ⟨_, _, _, _, _, _⟩ := bT hT'
  refine o1 r7 fun ρ q7 => ?_; go_simp;
  refine J.out _ _ _ rfl ?_ hT' (Below.refl _ _); rfl
 refine SeqOps.val ?_ (Sp fun ax wx hS hT' hd K' J => ?_) ?_; rotate_left 1
 ·have r2 := hS.at 2 (by decide) (hE.at 2 rfl); obtain ⟨_, _, _, _, _, _⟩ := bT hT'
  refine o1 r2 fun ρ q2 => ?_; go_simp;
  exact Jo J hT'
 refine SeqOps.val ?_ (Sp fun ax wx hS hT' hd K' J => ?_) ?_; rotate_left 1
 ·have r9 := Tv hd 0 4 9; obtain ⟨_, _, _, _, _, _⟩ := bT hT'
  refine o1 r9 fun ρ q9 => ?_; go_simp;
  exact Jo J hT'
 refine SeqOps.val ?_ (Sp fun ax wx hS hT' hd K' J => ?_) ?_; rotate_left 1
 ·have r10 := Tv hd 0 5 10; obtain ⟨_, _, _, _, _, _⟩ := bT hT'
  refine o1 r10 fun ρ q10 => ?_; go_simp;
  exact Jo J hT'
 refine SeqOps.val ?_ (Sp fun ax wx hS hT' hd K' J => ?_) ?_; rotate_left 1
 ·have r11 := Tv hd 0 6 11; obtain ⟨_, _, _, _, _, _⟩ := bT hT'
  refine o1 r11 fun ρ q11 => ?_; go_simp;
  exact Jo J hT'
 refine SeqOps.val ?_ (Sp fun ax wx hS hT' hd K' J => ?_) ?_; rotate_left 1
 ·have r12 := Tv hd 0 7 12; obtain ⟨_, _, _, _, _, _⟩ := bT hT'
  refine o1 r12 fun ρ q12 => ?_; go_simp;
  exact Jo J hT'
 refine SeqOps.val ?_ (Sp fun ax wx hS hT' hd K' J => ?_) ?_; rotate_left 1
 ·have r8 := Tv hd 5 3 8; have r13 := Tv hd 0 8 13; obtain ⟨_, _, _, _, _, _⟩ := bT hT'
  refine o2 r8 r13 fun ρ q8 q13 => ?_; go_simp; (try go_bits);
  exact Jo J hT'
 refine SeqOps.nil ?_
 intro w2 hBm; (repeat refine Ek ?_)
 refine fun amx hEmx => ?_
 simp only [lk, pick, Nat.reduceEqDiff, ↓reduceIte] at hEmx
 refine M1 hEmx 14 fun K' J ρ q14 => ?_; go_simp; (try clear q14)
 refine Ln hEmx J fun am_1 hEm_1 => ?_; clear J K' hEmx
 refine Ld [4] hEm_1 hK fun a hE => ?_; clear hK K Q' hEm_1
 have hbw2 := hbw1.trans (hBm.mono hbw1.size)
 replace hCB := hCB.below hBm
 clear nB cB4
 have nB := hCB.1; have cB4 := hCB.2 4 _ rfl
 refine Ks ?_
 exact ret_one hE rfl rfl ⟨rfl, hbw2⟩
end
end Go.Proofs.YtkhmcofmjjmjhaaDoor
