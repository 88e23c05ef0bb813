/- Name: the law's checks of an ear and of books. -/
import Derived.Test.YtbimkcjdodgojaaNd
import Derived.Test.YtbimkcjdodgojaaNj
import Derived.Test.YtbimkcjdodgojaaNpb
import Derived.Test.YtbimkcjdodgojaaBn
namespace Go.Proofs.Ytbimkcjdodgojaa
set_option linter.unusedSimpArgs false
set_option linter.unusedVariables false
open Go.RowKit
attribute [local go_sem high] cell_set_wr
attribute [local go_sem low] cell_wr frozen_wr
attribute [local go_sem] wr_set wr_drew wr_drewN wr_alloc wr_new

theorem ear_parts {e : Ear} (h : e.ok = true) : e.alike.length ≤ 4 ∧ e.mute.size ≤ 3 ∧ 0 ≤ e.slips ∧ e.slips ≤ 3 ∧ ∀ i (h : i < e.alike.length), (2 : Int) ≤ e.alike[i].size ∧ (e.alike[i].size : Int) ≤ 4 := by
 unfold Ear.ok groupsB at h
 simp only [Bool.and_eq_true, decide_eq_true_eq, Bool.not_eq_true', decide_eq_false_iff_not, List.all_eq_true] at h
 obtain ⟨⟨h1, _⟩, ⟨h2, h3, _⟩, h4, h5⟩ := h
 refine ⟨by omega, by omega, h4, h5, fun i hi => ?_⟩
 have := h3 e.alike[i] (List.getElem_mem hi)
 unfold groupB at this
 simpa using this
set_option maxRecDepth 100000 in
set_option maxHeartbeats 2000000 in
theorem lheard_any (A : Option Addr) (cap : Nat) (l : List ByteArray) (m : ByteArray) (sl : Int) (w : World) (hA : Arr w w.heap.size A (txts l)) (hcap : l.length ≤ cap) (hl : l.length ≤ 9223372036854775807) (hm : m.size ≤ 9223372036854775807) : Calls Try.prog 26 #[.agg #[.slice A l.length cap, .string m, .int .i64 sl]] w fun e w' => e = .returned (.bool (Ear.ok ⟨l, m, sl⟩)) ∧ Below w.heap.size w w' := by
 have C := hid fun W hW => pCheckEar_any A cap l m sl W hW hcap hl hm
 cases ho : Ear.ok ⟨l, m, sl⟩
 ·have e0 : earE ⟨l, m, sl⟩ = 20 := by unfold earE; rw [ho]; rfl
  rw [e0] at C
  clear e0 ho
  refine enterE Try.func26 rfl Try.ntmps26 (by simp) (fun a hE => ?_); simp only [envOf, Nat.zero_add, Nat.reduceAdd] at hE
  (repeat with_reducible first|refine ctl ?_|refine miss ?_)
  refine Rs 2 fun Q' K hK => ?_
  refine Lp fun K' hK' => ?_
  have r0 := hE.at 0 rfl; refine op1 r0 fun ρ qc qf qg q0 => ?_; go_simp; (try clear qc qf qg r0 q0)
  refine Ln hE hK' fun a_1 hE_1 => ?_; clear hK' K' hE a
  refine Lp fun K' hK' => ?_
  refine op0 fun ρ qc qf qg => ?_; go_simp; (try clear qc qf qg)
  refine Ln hE_1 hK' fun a_2 hE_2 => ?_; clear hK' K' hE_1
  refine late_done [1, 2] hE_2 hK (fun a hE => ?_); clear hK K Q' hE_2; simp only [lk, pick, Nat.reduceEqDiff, ↓reduceIte] at hE
  obtain ⟨B, hBe⟩ : ∃ B, B = w.heap.size := ⟨_, rfl⟩; rw [← hBe] at hE; refine world_cut (fun wt => Below w.heap.size w wt ∧ Cells wt B [.slice A l.length cap, .string m, .int .i64 sl]) ⟨(Below.refl _ _).alloc (Nat.le_refl _) _, by rw [hBe]; exact cells_new _ _ _⟩ (fun w1 hCut => ?_); obtain ⟨hbw1, hCB⟩ := hCut; clear hBe
  have hA1 := (hA.below hbw1).more hbw1.size
  have nB := hCB.1; have cB0 := hCB.2 0 _ rfl; have cB1 := hCB.2 1 _ rfl; have cB2 := hCB.2 2 _ rfl
  (repeat with_reducible first|refine ctl ?_|refine miss ?_)
  refine Rs 21 fun Q' K hK => ?_
  refine Lp fun K' hK' => ?_
  have r1 := hE.at 1 rfl; refine op1 r1 fun ρ qc qf qg q1 => ?_; go_simp; (try clear qc qf qg r1 q1)
  refine Ln hE hK' fun a_1 hE_1 => ?_; clear hK' K' hE a
  refine Lp fun K' hK' => ?_
  have r5 := hE_1.at 5 rfl; refine op1 r5 fun ρ qc qf qg q5 => ?_; go_simp; (try go_bits); (try clear qc qf qg r5 q5)
  go_at_call 13; refine (C.out _ hA1).mono ?_; rintro e w2 ⟨rfl, h2⟩
  (try clear r5)
  refine Ln hE_1 hK' fun a_2 hE_2 => ?_; clear hK' K' hE_1
  refine Lp fun K' hK' => ?_
  have r6 := hE_2.at 6 rfl; refine op1 r6 fun ρ qc qf qg q6 => ?_; go_simp; (try go_bits); (try clear qc qf qg r6 q6)
  refine Ln hE_2 hK' fun a_3 hE_3 => ?_; clear hK' K' hE_2
  refine Lp fun K' hK' => ?_
  have r7 := hE_3.at 7 rfl; refine op1 r7 fun ρ qc qf qg q7 => ?_; go_simp; (try clear qc qf qg r7 q7)
  refine Ln hE_3 hK' fun a_4 hE_4 => ?_; clear hK' K' hE_3
  refine Lno hE_4 8 ?_
  refine Lu hE_4 fun a_5 hE_5 => ?_
  refine Lno hE_5 8 ?_
  refine Lu hE_5 fun a_6 hE_6 => ?_
  refine Lno hE_6 8 ?_
  refine Lu hE_6 fun a_7 hE_7 => ?_
  refine Lno hE_7 8 ?_
  refine Lu hE_7 fun a_8 hE_8 => ?_
  refine Lp fun K' hK' => ?_
  have r8 := hE_8.at 8 rfl; have r12 := hE_8.at 12 rfl
  refine op2 r8 r12 fun ρ qc qf qg q8 q12 => ?_; go_simp; (try go_bits); (try clear qc qf qg r8 q8 r12 q12)
  (try clear r8 r12)
  refine Ln hE_8 hK' fun a_9 hE_9 => ?_; clear hK' K' hE_8
  refine Lp fun K' hK' => ?_
  have r13 := hE_9.at 13 rfl; refine op1 r13 fun ρ qc qf qg q13 => ?_; go_simp; (try clear qc qf qg r13 q13)
  refine Ln hE_9 hK' fun a_10 hE_10 => ?_; clear hK' K' hE_9
  refine Lno hE_10 14 ?_
  refine Lu hE_10 fun a_11 hE_11 => ?_
  refine Lno hE_11 14 ?_
  refine Lu hE_11 fun a_12 hE_12 => ?_
  refine Lno hE_12 14 ?_
  refine Lu hE_12 fun a_13 hE_13 => ?_
  refine Lno hE_13 14 ?_
  refine Lu hE_13 fun a_14 hE_14 => ?_
  refine Lp fun K' hK' => ?_
  have r14 := hE_14.at 14 rfl; have r18 := hE_14.at 18 rfl
  refine op2 r14 r18 fun ρ qc qf qg q14 q18 => ?_; go_simp; (try go_bits); (try clear qc qf qg r14 q14 r18 q18)
  (try clear r14 r18)
  refine Ln hE_14 hK' fun a_15 hE_15 => ?_; clear hK' K' hE_14
  refine Lp fun K' hK' => ?_
  have r19 := hE_15.at 19 rfl; refine op1 r19 fun ρ qc qf qg q19 => ?_; go_simp; (try clear qc qf qg r19 q19)
  refine Ln hE_15 hK' fun a_16 hE_16 => ?_; clear hK' K' hE_15
  refine Lno hE_16 20 ?_
  refine Lu hE_16 fun a_17 hE_17 => ?_
  refine Lno hE_17 20 ?_
  refine Lu hE_17 fun a_18 hE_18 => ?_
  refine Lno hE_18 20 ?_
  refine Lu hE_18 fun a_19 hE_19 => ?_
  refine Lp fun K' hK' => ?_
  have r20 := hE_19.at 20 rfl; have r23 := hE_19.at 23 rfl
  refine op2 r20 r23 fun ρ qc qf qg q20 q23 => ?_; go_simp; (try go_bits); (try clear qc qf qg r20 q20 r23 q23)
  (try clear r20 r23)
  refine Ln hE_19 hK' fun a_20 hE_20 => ?_; clear hK' K' hE_19
  refine Lp fun K' hK' => ?_
  have r24 := hE_20.at 24 rfl; refine op1 r24 fun ρ qc qf qg q24 => ?_; go_simp; (try clear qc qf qg r24 q24)
  refine Ln hE_20 hK' fun a_21 hE_21 => ?_; clear hK' K' hE_20
  refine late_done [1, 3] hE_21 hK (fun a hE => ?_); clear hK K Q' hE_21; simp only [lk, pick, Nat.reduceEqDiff, ↓reduceIte] at hE
  have hb2 := hbw1.trans (h2.mono hbw1.size)
  (repeat with_reducible first|refine ctl ?_|refine miss ?_)
  refine Rs 1 fun Q' K hK => ?_
  refine Lp fun K' hK' => ?_
  refine op0 fun ρ qc qf qg => ?_; go_simp; (try clear qc qf qg)
  refine Ln hE hK' fun a_1 hE_1 => ?_; clear hK' K' hE a
  refine late_done [1, 3, 4] hE_1 hK (fun a hE => ?_); clear hK K Q' hE_1; simp only [lk, pick, Nat.reduceEqDiff, ↓reduceIte] at hE
  (repeat with_reducible first|refine ctl ?_|refine miss ?_)
  refine loop_st (fun (_ : Nat) a w' => Fits 43 [(1, .pointer (some ⟨B, 0, none⟩)), (3, .bool false), (4, .int .i64 0)] a ∧ Below w2.heap.size w2 w') (fun k => k) 0 ⟨by simpa using hE, Below.refl _ _⟩ (fun k a w' hI => ?_)
  clear hE
  obtain ⟨hE, hW⟩ := hI
  obtain ⟨wr, hwr⟩ : ∃ x, x = w' := ⟨_, rfl⟩
  subst hwr
  (repeat with_reducible first|refine ctl ?_|refine miss ?_)
  refine Rs 8 fun Q' K hK => ?_
  refine Lp fun K' hK' => ?_
  have r3 := hE.at 3 rfl; refine op1 r3 fun ρ qc qf qg q3 => ?_; go_simp; (try clear qc qf qg r3 q3)
  refine Ln hE hK' fun a_1 hE_1 => ?_; clear hK' K' hE a
  refine Lp fun K' hK' => ?_
  have r25 := hE_1.at 25 rfl; refine op1 r25 fun ρ qc qf qg q25 => ?_; go_simp; (try clear qc qf qg r25 q25)
  refine Ln hE_1 hK' fun a_2 hE_2 => ?_; clear hK' K' hE_1
  refine Lno hE_2 26 ?_
  refine Lu hE_2 fun a_3 hE_3 => ?_
  refine Lno hE_3 26 ?_
  refine Lu hE_3 fun a_4 hE_4 => ?_
  refine Lno hE_4 26 ?_
  refine Lu hE_4 fun a_5 hE_5 => ?_
  refine Lno hE_5 26 ?_
  refine Lu hE_5 fun a_6 hE_6 => ?_
  refine Lno hE_6 26 ?_
  refine Lu hE_6 fun a_7 hE_7 => ?_
  refine Lp fun K' hK' => ?_
  have r26 := hE_7.at 26 rfl; have r31 := hE_7.at 31 rfl
  refine op2 r26 r31 fun ρ qc qf qg q26 q31 => ?_; go_simp; (try go_bits); (try clear qc qf qg r26 q26 r31 q31)
  (try clear r26 r31)
  refine Ln hE_7 hK' fun a_8 hE_8 => ?_; clear hK' K' hE_7
  refine late_done [3, 32] hE_8 hK (fun a hE => ?_); clear hK K Q' hE_8; simp only [lk, pick, Nat.reduceEqDiff, ↓reduceIte] at hE
  (repeat with_reducible first|refine ctl ?_|refine miss ?_)
  refine cond_no hE (t := 32) rfl ?_
  (repeat with_reducible first|refine ctl ?_|refine miss ?_)
  refine Rs 2 fun Q' K hK => ?_
  refine Lp fun K' hK' => ?_
  have r3 := hE.at 3 rfl; refine op1 r3 fun ρ qc qf qg q3 => ?_; go_simp; (try clear qc qf qg r3 q3)
  refine Ln hE hK' fun a_1 hE_1 => ?_; clear hK' K' hE a
  refine Lp fun K' hK' => ?_
  have r42 := hE_1.at 42 rfl; refine op1 r42 fun ρ qc qf qg q42 => ?_; go_simp; (try clear qc qf qg r42 q42)
  refine Ln hE_1 hK' fun a_2 hE_2 => ?_; clear hK' K' hE_1
  refine late_done [2] hE_2 hK (fun a hE => ?_); clear hK K Q' hE_2; simp only [lk, pick, Nat.reduceEqDiff, ↓reduceIte] at hE
  (repeat with_reducible first|refine ctl ?_|refine miss ?_)
  exact ret_one hE rfl rfl ⟨rfl, hb2.trans (hW.mono hb2.size)⟩
 ·have e0 : earE ⟨l, m, sl⟩ = 0 := by unfold earE; rw [ho]; rfl
  rw [e0] at C
  obtain ⟨p1, p2, p3, p4, p5⟩ := ear_parts ho
  simp only at p1 p2 p3 p4 p5
  have hl4 : (l.length : Int) ≤ 4 := by omega
  have hm3 : (m.size : Int) ≤ 3 := by omega
  have HS : Hid ((decide ((0 : Int) ≤ sl) && decide (sl ≤ 3)) = true) := hid (by simp [p3, p4])
  have HG : Hid (∀ i (h : i < l.length), (decide ((2 : Int) ≤ l[i].size) && decide ((l[i].size : Int) ≤ 4)) = true) := hid fun i h => by have := p5 i h; simp [this.1, this.2]
  clear e0 ho p1 p2 p3 p4 p5
  refine enterE Try.func26 rfl Try.ntmps26 (by simp) (fun a hE => ?_); simp only [envOf, Nat.zero_add, Nat.reduceAdd] at hE
  (repeat with_reducible first|refine ctl ?_|refine miss ?_)
  refine Rs 2 fun Q' K hK => ?_
  refine Lp fun K' hK' => ?_
  have r0 := hE.at 0 rfl; refine op1 r0 fun ρ qc qf qg q0 => ?_; go_simp; (try clear qc qf qg r0 q0)
  refine Ln hE hK' fun a_1 hE_1 => ?_; clear hK' K' hE a
  refine Lp fun K' hK' => ?_
  refine op0 fun ρ qc qf qg => ?_; go_simp; (try clear qc qf qg)
  refine Ln hE_1 hK' fun a_2 hE_2 => ?_; clear hK' K' hE_1
  refine late_done [1, 2] hE_2 hK (fun a hE => ?_); clear hK K Q' hE_2; simp only [lk, pick, Nat.reduceEqDiff, ↓reduceIte] at hE
  obtain ⟨B, hBe⟩ : ∃ B, B = w.heap.size := ⟨_, rfl⟩; rw [← hBe] at hE; refine world_cut (fun wt => Below w.heap.size w wt ∧ Cells wt B [.slice A l.length cap, .string m, .int .i64 sl]) ⟨(Below.refl _ _).alloc (Nat.le_refl _) _, by rw [hBe]; exact cells_new _ _ _⟩ (fun w1 hCut => ?_); obtain ⟨hbw1, hCB⟩ := hCut; clear hBe
  have hA1 := (hA.below hbw1).more hbw1.size
  have nB := hCB.1; have cB0 := hCB.2 0 _ rfl; have cB1 := hCB.2 1 _ rfl; have cB2 := hCB.2 2 _ rfl
  (repeat with_reducible first|refine ctl ?_|refine miss ?_)
  refine Rs 21 fun Q' K hK => ?_
  refine Lp fun K' hK' => ?_
  have r1 := hE.at 1 rfl; refine op1 r1 fun ρ qc qf qg q1 => ?_; go_simp; (try clear qc qf qg r1 q1)
  refine Ln hE hK' fun a_1 hE_1 => ?_; clear hK' K' hE a
  refine Lp fun K' hK' => ?_
  have r5 := hE_1.at 5 rfl; refine op1 r5 fun ρ qc qf qg q5 => ?_; go_simp; (try go_bits); (try clear qc qf qg r5 q5)
  go_at_call 13; refine (C.out _ hA1).mono ?_; rintro e w2 ⟨rfl, h2⟩; have hCB2 := hCB.below h2; have n2 := hCB2.1; have c20 := hCB2.2 0 _ rfl; have c21 := hCB2.2 1 _ rfl; have c22 := hCB2.2 2 _ rfl
  (try clear r5)
  refine Ln hE_1 hK' fun a_2 hE_2 => ?_; clear hK' K' hE_1
  refine Lp fun K' hK' => ?_
  have r6 := hE_2.at 6 rfl; refine op1 r6 fun ρ qc qf qg q6 => ?_; go_simp; (try go_bits); (try clear qc qf qg r6 q6)
  refine Ln hE_2 hK' fun a_3 hE_3 => ?_; clear hK' K' hE_2
  refine Lp fun K' hK' => ?_
  have r7 := hE_3.at 7 rfl; refine op1 r7 fun ρ qc qf qg q7 => ?_; go_simp; (try clear qc qf qg r7 q7)
  refine Ln hE_3 hK' fun a_4 hE_4 => ?_; clear hK' K' hE_3
  refine Ly hE_4 8 fun K' hK' => ?_
  have r1 := hE_4.at 1 rfl; refine op1 r1 fun ρ qc qf qg q1 => ?_; go_simp; (try clear qc qf qg r1 q1)
  refine Ln hE_4 hK' fun a_5 hE_5 => ?_; clear hK' K' hE_4
  refine Ly hE_5 8 fun K' hK' => ?_
  have r9 := hE_5.at 9 rfl; refine op1 r9 fun ρ qc qf qg q9 => ?_; go_simp; (try clear qc qf qg r9 q9)
  refine Ln hE_5 hK' fun a_6 hE_6 => ?_; clear hK' K' hE_5
  refine Ly hE_6 8 fun K' hK' => ?_
  have r10 := hE_6.at 10 rfl; refine op1 r10 fun ρ qc qf qg q10 => ?_; go_simp; (try go_bits); (try clear qc qf qg r10 q10)
  refine Ln hE_6 hK' fun a_7 hE_7 => ?_; clear hK' K' hE_6
  refine Ly hE_7 8 fun K' hK' => ?_
  have r11 := hE_7.at 11 rfl; refine op1 r11 fun ρ qc qf qg q11 => ?_; go_simp; (try go_bits); (try clear qc qf qg r11 q11)
  refine Ln hE_7 hK' fun a_8 hE_8 => ?_; clear hK' K' hE_7
  refine Lp fun K' hK' => ?_
  have r8 := hE_8.at 8 rfl; have r12 := hE_8.at 12 rfl
  refine op2 r8 r12 fun ρ qc qf qg q8 q12 => ?_; go_simp; (try go_bits); (try clear qc qf qg r8 q8 r12 q12)
  (try clear r8 r12)
  refine Ln hE_8 hK' fun a_9 hE_9 => ?_; clear hK' K' hE_8
  refine Lp fun K' hK' => ?_
  have r13 := hE_9.at 13 rfl; refine op1 r13 fun ρ qc qf qg q13 => ?_; go_simp; (try clear qc qf qg r13 q13)
  refine Ln hE_9 hK' fun a_10 hE_10 => ?_; clear hK' K' hE_9
  refine Ly hE_10 14 fun K' hK' => ?_
  have r1 := hE_10.at 1 rfl; refine op1 r1 fun ρ qc qf qg q1 => ?_; go_simp; (try clear qc qf qg r1 q1)
  refine Ln hE_10 hK' fun a_11 hE_11 => ?_; clear hK' K' hE_10
  refine Ly hE_11 14 fun K' hK' => ?_
  have r15 := hE_11.at 15 rfl; refine op1 r15 fun ρ qc qf qg q15 => ?_; go_simp; (try clear qc qf qg r15 q15)
  refine Ln hE_11 hK' fun a_12 hE_12 => ?_; clear hK' K' hE_11
  refine Ly hE_12 14 fun K' hK' => ?_
  have r16 := hE_12.at 16 rfl; refine op1 r16 fun ρ qc qf qg q16 => ?_; go_simp; (try go_bits); (try clear qc qf qg r16 q16)
  refine Ln hE_12 hK' fun a_13 hE_13 => ?_; clear hK' K' hE_12
  refine Ly hE_13 14 fun K' hK' => ?_
  have r17 := hE_13.at 17 rfl; refine op1 r17 fun ρ qc qf qg q17 => ?_; go_simp; (try go_bits); (try clear qc qf qg r17 q17)
  refine Ln hE_13 hK' fun a_14 hE_14 => ?_; clear hK' K' hE_13
  refine Lp fun K' hK' => ?_
  have r14 := hE_14.at 14 rfl; have r18 := hE_14.at 18 rfl
  refine op2 r14 r18 fun ρ qc qf qg q14 q18 => ?_; go_simp; (try go_bits); (try clear qc qf qg r14 q14 r18 q18)
  (try clear r14 r18)
  refine Ln hE_14 hK' fun a_15 hE_15 => ?_; clear hK' K' hE_14
  refine Lp fun K' hK' => ?_
  have r19 := hE_15.at 19 rfl; refine op1 r19 fun ρ qc qf qg q19 => ?_; go_simp; (try clear qc qf qg r19 q19)
  refine Ln hE_15 hK' fun a_16 hE_16 => ?_; clear hK' K' hE_15
  refine Ly hE_16 20 fun K' hK' => ?_
  have r1 := hE_16.at 1 rfl; refine op1 r1 fun ρ qc qf qg q1 => ?_; go_simp; (try clear qc qf qg r1 q1)
  refine Ln hE_16 hK' fun a_17 hE_17 => ?_; clear hK' K' hE_16
  refine Ly hE_17 20 fun K' hK' => ?_
  have r21 := hE_17.at 21 rfl; refine op1 r21 fun ρ qc qf qg q21 => ?_; go_simp; (try clear qc qf qg r21 q21)
  refine Ln hE_17 hK' fun a_18 hE_18 => ?_; clear hK' K' hE_17
  refine Ly hE_18 20 fun K' hK' => ?_
  have r22 := hE_18.at 22 rfl; refine op1 r22 fun ρ qc qf qg q22 => ?_; go_simp; (try go_bits); (try clear qc qf qg r22 q22)
  go_at_call 25; refine (between_any _ _ _ _).mono ?_; rw [HS.out]; rintro e w3 ⟨rfl, rfl⟩
  (try clear r22)
  refine Ln hE_18 hK' fun a_19 hE_19 => ?_; clear hK' K' hE_18
  refine Lp fun K' hK' => ?_
  have r20 := hE_19.at 20 rfl; have r23 := hE_19.at 23 rfl
  refine op2 r20 r23 fun ρ qc qf qg q20 q23 => ?_; go_simp; (try go_bits); (try clear qc qf qg r20 q20 r23 q23)
  (try clear r20 r23)
  refine Ln hE_19 hK' fun a_20 hE_20 => ?_; clear hK' K' hE_19
  refine Lp fun K' hK' => ?_
  have r24 := hE_20.at 24 rfl; refine op1 r24 fun ρ qc qf qg q24 => ?_; go_simp; (try clear qc qf qg r24 q24)
  refine Ln hE_20 hK' fun a_21 hE_21 => ?_; clear hK' K' hE_20
  refine late_done [1, 3] hE_21 hK (fun a hE => ?_); clear hK K Q' hE_21; simp only [lk, pick, Nat.reduceEqDiff, ↓reduceIte] at hE
  have hb2 := hbw1.trans (h2.mono hbw1.size)
  have hA2 := (hA.below hb2).more hb2.size
  clear nB cB0 cB1 cB2 n2 c20 c21 c22 hCB hl4 hm3
  (repeat with_reducible first|refine ctl ?_|refine miss ?_)
  refine Rs 1 fun Q' K hK => ?_
  refine Lp fun K' hK' => ?_
  refine op0 fun ρ qc qf qg => ?_; go_simp; (try clear qc qf qg)
  refine Ln hE hK' fun a_1 hE_1 => ?_; clear hK' K' hE a
  refine late_done [1, 3, 4] hE_1 hK (fun a hE => ?_); clear hK K Q' hE_1; simp only [lk, pick, Nat.reduceEqDiff, ↓reduceIte] at hE
  (repeat with_reducible first|refine ctl ?_|refine miss ?_)
  refine loop_st (fun (k : Nat) a w' => k ≤ l.length ∧ Fits 43 [(1, .pointer (some ⟨B, 0, none⟩)), (3, .bool true), (4, .int .i64 k)] a ∧ Below w2.heap.size w2 w') (fun k => l.length - k) 0 ⟨Nat.zero_le _, by simpa using hE, Below.refl _ _⟩ (fun k a w' hI => ?_)
  clear hE
  obtain ⟨hk, hE, hW⟩ := hI
  obtain ⟨wr, hwr⟩ : ∃ x, x = w' := ⟨_, rfl⟩
  subst hwr
  have hCr := hCB2.below hW
  have nr := hCr.1
  have cr0 := hCr.2 0 _ rfl
  (repeat with_reducible first|refine ctl ?_|refine miss ?_)
  refine Rs 8 fun Q' K hK => ?_
  refine Lp fun K' hK' => ?_
  have r3 := hE.at 3 rfl; refine op1 r3 fun ρ qc qf qg q3 => ?_; go_simp; (try clear qc qf qg r3 q3)
  refine Ln hE hK' fun a_1 hE_1 => ?_; clear hK' K' hE a
  refine Lp fun K' hK' => ?_
  have r25 := hE_1.at 25 rfl; refine op1 r25 fun ρ qc qf qg q25 => ?_; go_simp; (try clear qc qf qg r25 q25)
  refine Ln hE_1 hK' fun a_2 hE_2 => ?_; clear hK' K' hE_1
  refine Ly hE_2 26 fun K' hK' => ?_
  have r4 := hE_2.at 4 rfl; refine op1 r4 fun ρ qc qf qg q4 => ?_; go_simp; (try clear qc qf qg r4 q4)
  refine Ln hE_2 hK' fun a_3 hE_3 => ?_; clear hK' K' hE_2
  refine Ly hE_3 26 fun K' hK' => ?_
  have r1 := hE_3.at 1 rfl; refine op1 r1 fun ρ qc qf qg q1 => ?_; go_simp; (try clear qc qf qg r1 q1)
  refine Ln hE_3 hK' fun a_4 hE_4 => ?_; clear hK' K' hE_3
  refine Ly hE_4 26 fun K' hK' => ?_
  have r28 := hE_4.at 28 rfl; refine op1 r28 fun ρ qc qf qg q28 => ?_; go_simp; (try clear qc qf qg r28 q28)
  refine Ln hE_4 hK' fun a_5 hE_5 => ?_; clear hK' K' hE_4
  refine Ly hE_5 26 fun K' hK' => ?_
  have r29 := hE_5.at 29 rfl; refine op1 r29 fun ρ qc qf qg q29 => ?_; go_simp; (try go_bits); (try clear qc qf qg r29 q29)
  refine Ln hE_5 hK' fun a_6 hE_6 => ?_; clear hK' K' hE_5
  refine Ly hE_6 26 fun K' hK' => ?_
  have r27 := hE_6.at 27 rfl; have r30 := hE_6.at 30 rfl
  refine op2 r27 r30 fun ρ qc qf qg q27 q30 => ?_; go_simp; (try go_bits); (try clear qc qf qg r27 q27 r30 q30)
  (try clear r27 r30)
  refine Ln hE_6 hK' fun a_7 hE_7 => ?_; clear hK' K' hE_6
  refine Lp fun K' hK' => ?_
  have r26 := hE_7.at 26 rfl; have r31 := hE_7.at 31 rfl
  refine op2 r26 r31 fun ρ qc qf qg q26 q31 => ?_; go_simp; (try go_bits); (try clear qc qf qg r26 q26 r31 q31)
  (try clear r26 r31)
  refine Ln hE_7 hK' fun a_8 hE_8 => ?_; clear hK' K' hE_7
  refine late_done [1, 3, 4, 32] hE_8 hK (fun a hE => ?_); clear hK K Q' hE_8; simp only [lk, pick, Nat.reduceEqDiff, ↓reduceIte] at hE
  (repeat with_reducible first|refine ctl ?_|refine miss ?_)
  refine cond_part hE (t := 32) rfl (fun h => ?_) (fun h => ?_)
  ·have hlt : k < l.length := by have := of_decide_eq_true h; omega
   clear h
   have hltI : (k : Int) < l.length := by omega
   obtain ⟨b0, o0, rfl, hb0, c0⟩ := ((hA2.below hW).more hW.size).txt hlt
   have HGk := hid (HG.out k hlt)
   (repeat with_reducible first|refine ctl ?_|refine miss ?_)
   refine Rs 8 fun Q' K hK => ?_
   refine Lp fun K' hK' => ?_
   have r1 := hE.at 1 rfl; refine op1 r1 fun ρ qc qf qg q1 => ?_; go_simp; (try clear qc qf qg r1 q1)
   refine Ln hE hK' fun a_1 hE_1 => ?_; clear hK' K' hE a
   refine Lp fun K' hK' => ?_
   have r35 := hE_1.at 35 rfl; refine op1 r35 fun ρ qc qf qg q35 => ?_; go_simp; (try clear qc qf qg r35 q35)
   refine Ln hE_1 hK' fun a_2 hE_2 => ?_; clear hK' K' hE_1
   refine Lp fun K' hK' => ?_
   have r4 := hE_2.at 4 rfl; refine op1 r4 fun ρ qc qf qg q4 => ?_; go_simp; (try clear qc qf qg r4 q4)
   refine Ln hE_2 hK' fun a_3 hE_3 => ?_; clear hK' K' hE_2
   refine Lp fun K' hK' => ?_
   have r36 := hE_3.at 36 rfl; have r37 := hE_3.at 37 rfl
   refine op2 r36 r37 fun ρ qc qf qg q36 q37 => ?_; go_simp; (try go_bits); (try clear qc qf qg r36 q36 r37 q37)
   (try clear r36 r37)
   refine Ln hE_3 hK' fun a_4 hE_4 => ?_; clear hK' K' hE_3
   refine Lp fun K' hK' => ?_
   have r38 := hE_4.at 38 rfl; refine op1 r38 fun ρ qc qf qg q38 => ?_; go_simp; (try clear qc qf qg r38 q38)
   refine Ln hE_4 hK' fun a_5 hE_5 => ?_; clear hK' K' hE_4
   refine Lp fun K' hK' => ?_
   have r39 := hE_5.at 39 rfl; refine op1 r39 fun ρ qc qf qg q39 => ?_; go_simp; (try go_bits); (try clear qc qf qg r39 q39)
   refine Ln hE_5 hK' fun a_6 hE_6 => ?_; clear hK' K' hE_5
   refine Lp fun K' hK' => ?_
   have r40 := hE_6.at 40 rfl; refine op1 r40 fun ρ qc qf qg q40 => ?_; go_simp; (try go_bits); (try clear qc qf qg r40 q40)
   go_at_call 25; refine (between_any _ _ _ _).mono ?_; rw [HGk.out]; rintro e w3 ⟨rfl, rfl⟩
   (try clear r40)
   refine Ln hE_6 hK' fun a_7 hE_7 => ?_; clear hK' K' hE_6
   refine Lp fun K' hK' => ?_
   have r41 := hE_7.at 41 rfl; refine op1 r41 fun ρ qc qf qg q41 => ?_; go_simp; (try clear qc qf qg r41 q41)
   refine Ln hE_7 hK' fun a_8 hE_8 => ?_; clear hK' K' hE_7
   refine late_done [1, 3, 4] hE_8 hK (fun a hE => ?_); clear hK K Q' hE_8; simp only [lk, pick, Nat.reduceEqDiff, ↓reduceIte] at hE
   (repeat with_reducible first|refine ctl ?_|refine miss ?_)
   refine Rs 3 fun Q' K hK => ?_
   refine Lp fun K' hK' => ?_
   have r4 := hE.at 4 rfl; refine op1 r4 fun ρ qc qf qg q4 => ?_; go_simp; (try clear qc qf qg r4 q4)
   refine Ln hE hK' fun a_1 hE_1 => ?_; clear hK' K' hE a
   refine Lp fun K' hK' => ?_
   have r33 := hE_1.at 33 rfl; refine op1 r33 fun ρ qc qf qg q33 => ?_; go_simp; (try go_bits); (try simp (disch := omega) only [IntWalk.i64_in]); (try clear qc qf qg r33 q33)
   refine Ln hE_1 hK' fun a_2 hE_2 => ?_; clear hK' K' hE_1
   refine Lp fun K' hK' => ?_
   have r34 := hE_2.at 34 rfl; refine op1 r34 fun ρ qc qf qg q34 => ?_; go_simp; (try clear qc qf qg r34 q34)
   refine Ln hE_2 hK' fun a_3 hE_3 => ?_; clear hK' K' hE_2
   refine late_done [1, 3, 4] hE_3 hK (fun a hE => ?_); clear hK K Q' hE_3; simp only [lk, pick, Nat.reduceEqDiff, ↓reduceIte] at hE
   (repeat with_reducible first|refine ctl ?_|refine miss ?_)
   exact ⟨k + 1, ⟨hlt, by simpa using hE, hW⟩, by omega⟩
  ·(repeat with_reducible first|refine ctl ?_|refine miss ?_)
   refine Rs 2 fun Q' K hK => ?_
   refine Lp fun K' hK' => ?_
   have r3 := hE.at 3 rfl; refine op1 r3 fun ρ qc qf qg q3 => ?_; go_simp; (try clear qc qf qg r3 q3)
   refine Ln hE hK' fun a_1 hE_1 => ?_; clear hK' K' hE a
   refine Lp fun K' hK' => ?_
   have r42 := hE_1.at 42 rfl; refine op1 r42 fun ρ qc qf qg q42 => ?_; go_simp; (try clear qc qf qg r42 q42)
   refine Ln hE_1 hK' fun a_2 hE_2 => ?_; clear hK' K' hE_1
   refine late_done [2] hE_2 hK (fun a hE => ?_); clear hK K Q' hE_2; simp only [lk, pick, Nat.reduceEqDiff, ↓reduceIte] at hE
   (repeat with_reducible first|refine ctl ?_|refine miss ?_)
   exact ret_one hE rfl rfl ⟨rfl, hb2.trans (hW.mono hb2.size)⟩
end Go.Proofs.Ytbimkcjdodgojaa
