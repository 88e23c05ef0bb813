/- Name: the law's spoken. -/
import Derived.Test.YtbimkcjdodgojaaNj
namespace Go.Proofs.Ytbimkcjdodgojaa
set_option linter.unusedSimpArgs false
set_option linter.unusedVariables false
open Go.RowKit
attribute [local go_sem high] cell_set_wr
attribute [local go_sem low] cell_wr frozen_wr
attribute [local go_sem] wr_set wr_drew wr_drewN wr_alloc wr_new Rho.c Rho.n Rho.g

/-- what spoken has found after k letters -/
def spk (m c : ByteArray) : Nat → Bool
 | 0 => true
 | k + 1 => spk m c k && !((m.extract k (k + 1)).toList == c.toList)
set_option maxRecDepth 100000 in
set_option maxHeartbeats 1000000 in
theorem spoken_any (A : Option Addr) (n cap : Nat) (m : ByteArray) (sl : Int) (c : ByteArray) (w : World) (hm : m.size ≤ 9223372036854775807) : Calls Try.prog 73 #[.agg #[.slice A n cap, .string m, .int .i64 sl], .string c] w fun e w' => e = .returned (.bool (spk m c m.size)) ∧ Below w.heap.size w w' := by
 refine enterE Try.func73 rfl Try.ntmps73 (by simp) (fun a hE => ?_); simp only [envOf, Nat.zero_add, Nat.reduceAdd] at hE
 refine Ks ?_
 refine Rs 2 fun Q' K hK => ?_
 refine M1 hE 0 fun K' J ρ q0 => ?_; go_simp; (try clear q0)
 refine Ln hE J fun _ Eb => ?_; clear J K' hE a
 refine M0 fun K' J ρ => ?_; go_simp;
 refine Ln Eb J fun _ Ea => ?_; clear J K' Eb
 refine late_done [1, 2] Ea hK (fun a hE => ?_); clear hK K Q' Ea; simp only [lk, pick, Nat.reduceEqDiff, ↓reduceIte] at hE
 obtain ⟨B, hBe⟩ : ∃ B, B = w.heap.size := ⟨_, rfl⟩; rw [← hBe] at hE; refine world_cut (fun wt => Below w.heap.size w wt ∧ Cells wt B [.slice A n cap, .string m, .int .i64 sl]) ⟨(Below.refl _ _).alloc (Nat.le_refl _) _, by rw [hBe]; exact cells_new _ _ _⟩ (fun w1 hCut => ?_); obtain ⟨hbw1, hCB⟩ := hCut; clear hBe
 have nB := hCB.1; have cB1 := hCB.2 1 _ rfl
 refine Ks ?_
 refine Rs 1 fun Q' K hK => ?_
 refine M0 fun K' J ρ => ?_; go_simp;
 refine Ln hE J fun _ Eb => ?_; clear J K' hE a
 refine late_done [1, 2, 5] Eb hK (fun a hE => ?_); clear hK K Q' Eb; simp only [lk, pick, Nat.reduceEqDiff, ↓reduceIte] at hE
 refine Ks ?_
 refine Rs 1 fun Q' K hK => ?_
 refine M0 fun K' J ρ => ?_; go_simp;
 refine Ln hE J fun _ Eb => ?_; clear J K' hE a
 refine late_done [1, 2, 5, 6] Eb hK (fun a hE => ?_); clear hK K Q' Eb; simp only [lk, pick, Nat.reduceEqDiff, ↓reduceIte] at hE
 refine Ks ?_
 refine loop_st (fun (k : Nat) a w' => k ≤ m.size ∧ Fits 26 [(1, .string c), (2, .pointer (some ⟨B, 0, none⟩)), (5, .bool (spk m c k)), (6, .int .i64 k)] a ∧ w1 = w') (fun k => m.size - k) 0 ⟨Nat.zero_le _, by simpa [spk] using hE, rfl⟩ (fun k a w' hI => ?_)
 clear hE
 obtain ⟨hk, hE, rfl⟩ := hI
 refine Ks ?_
 refine Rs 5 fun Q' K hK => ?_
 refine M1 hE 6 fun K' J ρ q6 => ?_; go_simp; (try clear q6)
 refine Ln hE J fun _ Eb => ?_; clear J K' hE a
 refine M1 Eb 2 fun K' J ρ q2 => ?_; go_simp; (try clear q2)
 refine Ln Eb J fun _ Ea => ?_; clear J K' Eb
 refine M1 Ea 8 fun K' J ρ q8 => ?_; go_simp; (try clear q8)
 refine Ln Ea J fun _ Eb => ?_; clear J K' Ea
 refine M1 Eb 9 fun K' J ρ q9 => ?_; go_simp; (try go_bits); (try clear q9)
 refine Ln Eb J fun _ Ea => ?_; clear J K' Eb
 refine M2 Ea 7 10 fun K' J ρ q7 q10 => ?_; go_simp; (try go_bits); (try clear q7 q10)
 refine Ln Ea J fun _ Eb => ?_; clear J K' Ea
 refine late_done [1, 2, 5, 6, 11] Eb hK (fun a hE => ?_); clear hK K Q' Eb; simp only [lk, pick, Nat.reduceEqDiff, ↓reduceIte] at hE
 refine Ks ?_
 refine cond_part hE (t := 11) rfl (fun h => ?_) (fun h => ?_)
 ·have hlt : k < m.size := by have := of_decide_eq_true h; omega
  clear h
  have hltI : (k : Int) < m.size := by omega
  refine Ks ?_
  cases hs : spk m c k
  ·rw [hs] at hE
   refine Rs 12 fun Q' K hK => ?_
   refine M1 hE 5 fun K' J ρ q5 => ?_; go_simp; (try clear q5)
   refine Ln hE J fun _ Eb => ?_; clear J K' hE a
   refine M1 Eb 14 fun K' J ρ q14 => ?_; go_simp; (try clear q14)
   refine Ln Eb J fun _ Ea => ?_; clear J K' Eb
   refine Lno Ea 15 ?_
   refine Lu Ea fun _ Eb => ?_
   refine Lno Eb 15 ?_
   refine Lu Eb fun _ Ea => ?_
   refine Lno Ea 15 ?_
   refine Lu Ea fun _ Eb => ?_
   refine Lno Eb 15 ?_
   refine Lu Eb fun _ Ea => ?_
   refine Lno Ea 15 ?_
   refine Lu Ea fun _ Eb => ?_
   refine Lno Eb 15 ?_
   refine Lu Eb fun _ Ea => ?_
   refine Lno Ea 15 ?_
   refine Lu Ea fun _ Eb => ?_
   refine Lno Eb 15 ?_
   refine Lu Eb fun _ Ea => ?_
   refine M2 Ea 15 23 fun K' J ρ q15 q23 => ?_; go_simp; (try go_bits); (try clear q15 q23)
   refine Ln Ea J fun _ Eb => ?_; clear J K' Ea
   refine M1 Eb 24 fun K' J ρ q24 => ?_; go_simp; (try clear q24)
   refine Ln Eb J fun _ Ea => ?_; clear J K' Eb
   refine late_done [1, 2, 5, 6] Ea hK (fun a hE => ?_); clear hK K Q' Ea; simp only [lk, pick, Nat.reduceEqDiff, ↓reduceIte] at hE
   refine Ks ?_
   refine Rs 3 fun Q' K hK => ?_
   refine M1 hE 6 fun K' J ρ q6 => ?_; go_simp; (try clear q6)
   refine Ln hE J fun _ Eb => ?_; clear J K' hE a
   refine M1 Eb 12 fun K' J ρ q12 => ?_; go_simp; (try go_bits); (try simp (disch := omega) only [IntWalk.i64_in]); (try clear q12)
   refine Ln Eb J fun _ Ea => ?_; clear J K' Eb
   refine M1 Ea 13 fun K' J ρ q13 => ?_; go_simp; (try clear q13)
   refine Ln Ea J fun _ Eb => ?_; clear J K' Ea
   refine late_done [1, 2, 5, 6] Eb hK (fun a hE => ?_); clear hK K Q' Eb; simp only [lk, pick, Nat.reduceEqDiff, ↓reduceIte] at hE
   refine Ks ?_
   exact ⟨k + 1, ⟨hlt, by simpa [spk, hs] using hE, rfl⟩, by omega⟩
  ·rw [hs] at hE
   have i1 : (0 : Int) ≤ (k : Int) + 1 := by omega
   have i2 : (k : Int) + 1 ≤ m.size := by omega
   have i3 : (k : Int) ≤ (k : Int) + 1 := by omega
   refine Rs 12 fun Q' K hK => ?_
   refine M1 hE 5 fun K' J ρ q5 => ?_; go_simp; (try clear q5)
   refine Ln hE J fun _ Eb => ?_; clear J K' hE a
   refine M1 Eb 14 fun K' J ρ q14 => ?_; go_simp; (try clear q14)
   refine Ln Eb J fun _ Ea => ?_; clear J K' Eb
   refine N1 Ea 15 2 fun K' J ρ q2 => ?_; go_simp; (try clear q2)
   refine Ln Ea J fun _ Eb => ?_; clear J K' Ea
   refine N1 Eb 15 16 fun K' J ρ q16 => ?_; go_simp; (try clear q16)
   refine Ln Eb J fun _ Ea => ?_; clear J K' Eb
   refine N1 Ea 15 6 fun K' J ρ q6 => ?_; go_simp; (try clear q6)
   refine Ln Ea J fun _ Eb => ?_; clear J K' Ea
   refine N1 Eb 15 6 fun K' J ρ q6 => ?_; go_simp; (try clear q6)
   refine Ln Eb J fun _ Ea => ?_; clear J K' Eb
   refine N1 Ea 15 19 fun K' J ρ q19 => ?_; go_simp; (try go_bits); (try simp (disch := omega) only [IntWalk.i64_in]); (try clear q19)
   refine Ln Ea J fun _ Eb => ?_; clear J K' Ea
   refine N3 Eb 15 17 18 20 fun K' J ρ q17 q18 q20 => ?_; go_simp; (try go_bits); (try clear q17 q18 q20)
   refine Ln Eb J fun _ Ea => ?_; clear J K' Eb
   refine N1 Ea 15 1 fun K' J ρ q1 => ?_; go_simp; (try clear q1)
   refine Ln Ea J fun _ Eb => ?_; clear J K' Ea
   refine N2 Eb 15 21 22 fun K' J ρ q21 q22 => ?_; go_simp; (try go_bits); (try clear q21 q22)
   refine Ln Eb J fun _ Ea => ?_; clear J K' Eb
   refine M2 Ea 15 23 fun K' J ρ q15 q23 => ?_; go_simp; (try go_bits); (try clear q15 q23)
   refine Ln Ea J fun _ Eb => ?_; clear J K' Ea
   refine M1 Eb 24 fun K' J ρ q24 => ?_; go_simp; (try clear q24)
   refine Ln Eb J fun _ Ea => ?_; clear J K' Eb
   refine late_done [1, 2, 5, 6] Ea hK (fun a hE => ?_); clear hK K Q' Ea; simp only [lk, pick, Nat.reduceEqDiff, ↓reduceIte] at hE
   refine Ks ?_
   refine Rs 3 fun Q' K hK => ?_
   refine M1 hE 6 fun K' J ρ q6 => ?_; go_simp; (try clear q6)
   refine Ln hE J fun _ Eb => ?_; clear J K' hE a
   refine M1 Eb 12 fun K' J ρ q12 => ?_; go_simp; (try go_bits); (try simp (disch := omega) only [IntWalk.i64_in]); (try clear q12)
   refine Ln Eb J fun _ Ea => ?_; clear J K' Eb
   refine M1 Ea 13 fun K' J ρ q13 => ?_; go_simp; (try clear q13)
   refine Ln Ea J fun _ Eb => ?_; clear J K' Ea
   refine late_done [1, 2, 5, 6] Eb hK (fun a hE => ?_); clear hK K Q' Eb; simp only [lk, pick, Nat.reduceEqDiff, ↓reduceIte] at hE
   refine Ks ?_
   exact ⟨k + 1, ⟨hlt, by simpa [spk, hs] using hE, rfl⟩, by omega⟩
 ·obtain rfl : k = m.size := by have := of_decide_eq_false h; omega
  clear h
  refine KsE ?_
  refine Ks ?_
  refine Rs 2 fun Q' K hK => ?_
  refine M1 hE 5 fun K' J ρ q5 => ?_; go_simp; (try clear q5)
  refine Ln hE J fun _ Eb => ?_; clear J K' hE a
  refine M1 Eb 25 fun K' J ρ q25 => ?_; go_simp; (try clear q25)
  refine Ln Eb J fun _ Ea => ?_; clear J K' Eb
  refine late_done [4] Ea hK (fun a hE => ?_); clear hK K Q' Ea; simp only [lk, pick, Nat.reduceEqDiff, ↓reduceIte] at hE
  refine Ks ?_
  exact ret_one hE rfl rfl ⟨rfl, hbw1⟩
end Go.Proofs.Ytbimkcjdodgojaa
