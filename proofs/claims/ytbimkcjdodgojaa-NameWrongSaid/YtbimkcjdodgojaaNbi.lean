/- Name: the law's check of books. -/
import Derived.Test.YtbimkcjdodgojaaNbh
namespace Go.Proofs.Ytbimkcjdodgojaa
set_option linter.unusedSimpArgs false
set_option linter.unusedVariables false
open Go.RowKit
attribute [local go_sem high] cell_set_wr
attribute [local go_sem low] cell_wr frozen_wr
attribute [local go_sem] wr_set wr_drew wr_drewN wr_alloc wr_new

theorem bk_parts {b : Bk} (h : b.ok = true) : b.ear.ok = true ∧ b.lines.length ≤ 9 ∧ (0 ≤ b.lo ∧ b.lo ≤ b.hi ∧ b.hi ≤ 1439) ∧ (0 ≤ b.lost ∧ b.lost ≤ 9) ∧ ∀ i (h : i < b.lines.length), lineB b.lines[i] = true := by
 unfold Bk.ok headB wayB at h
 simp only [Bool.and_eq_true, decide_eq_true_eq, Bool.not_eq_true', decide_eq_false_iff_not, List.all_eq_true] at h
 obtain ⟨h1, ⟨⟨h2, ⟨h3, h4⟩, h5⟩, h6, h7⟩, h8⟩ := h
 exact ⟨h1, by omega, ⟨h3, h4, h5⟩, ⟨h6, h7⟩, fun i hi => h8 _ (List.getElem_mem hi)⟩
set_option maxRecDepth 100000 in
set_option maxHeartbeats 2000000 in
theorem sound_any (A : Option Addr) (cap : Nat) (L : Option Addr) (lcap : Nat) (b : Bk) (w : World) (hM : BkAt w A L b) (hs : b.small cap lcap) : Calls Try.prog 16 #[.agg (bkV A cap L lcap b).toArray] w fun e w' => e = .returned (.bool b.ok) ∧ Below w.heap.size w w' := by
 have C : Hid (∀ W, BkAt W A L b → Calls Try.prog 44 #[.agg (bkV A cap L lcap b).toArray] W fun e w' => e = .returned (.int .i64 (bkE b)) ∧ Below W.heap.size W w') := hid fun W hW => pCheck_any A cap L lcap b W hW hs
 cases ho : b.ok
 ·have e0 : bkE b = 20 := by unfold bkE; rw [ho]; rfl
  rw [e0] at C
  clear e0 ho
  simp only [bkV] at C ⊢
  refine enterE Try.func16 rfl Try.ntmps16 (by simp) (fun a hE => ?_); simp only [envOf, Nat.zero_add, Nat.reduceAdd] at hE
  (repeat with_reducible first|refine ctl ?_|refine miss ?_)
  refine Rs 2 fun Q' K hK => ?_
  refine Lp fun K' hK' => ?_
  have r0 := hE.at 0 rfl; refine op1 r0 fun ρ qc qf qg q0 => ?_; go_simp; (try clear qc qf qg r0 q0)
  refine Ln hE hK' fun a_1 hE_1 => ?_; clear hK' K' hE a
  refine Lp fun K' hK' => ?_
  refine op0 fun ρ qc qf qg => ?_; go_simp; (try clear qc qf qg)
  refine Ln hE_1 hK' fun a_2 hE_2 => ?_; clear hK' K' hE_1
  refine late_done [1, 2] hE_2 hK (fun a hE => ?_); clear hK K Q' hE_2; simp only [lk, pick, Nat.reduceEqDiff, ↓reduceIte] at hE
  obtain ⟨B, hBe⟩ : ∃ B, B = w.heap.size := ⟨_, rfl⟩; rw [← hBe] at hE; refine world_cut (fun wt => Below w.heap.size w wt ∧ Cells wt B (bkV A cap L lcap b)) ⟨(Below.refl _ _).alloc (Nat.le_refl _) _, by rw [hBe]; exact cells_new _ _ _⟩ (fun w1 hCut => ?_); obtain ⟨hbw1, hCB⟩ := hCut; clear hBe
  have hM1 := hM.below hbw1
  simp only [bkV] at hCB
  have nB := hCB.1; have cB0 := hCB.2 0 _ rfl; have cB1 := hCB.2 1 _ rfl; have cB2 := hCB.2 2 _ rfl; have cB3 := hCB.2 3 _ rfl; have cB4 := hCB.2 4 _ rfl; have cB5 := hCB.2 5 _ rfl; have cB6 := hCB.2 6 _ rfl
  (repeat with_reducible first|refine ctl ?_|refine miss ?_)
  refine Rs 25 fun Q' K hK => ?_
  refine Lp fun K' hK' => ?_
  have r1 := hE.at 1 rfl; refine op1 r1 fun ρ qc qf qg q1 => ?_; go_simp; (try clear qc qf qg r1 q1)
  refine Ln hE hK' fun a_1 hE_1 => ?_; clear hK' K' hE a
  refine Lp fun K' hK' => ?_
  have r6 := hE_1.at 6 rfl; refine op1 r6 fun ρ qc qf qg q6 => ?_; go_simp; (try go_bits); (try clear qc qf qg r6 q6)
  go_at_call 44; refine (C.out _ hM1).mono ?_; rintro e w2 ⟨rfl, h2⟩
  (try clear r6)
  refine Ln hE_1 hK' fun a_2 hE_2 => ?_; clear hK' K' hE_1
  refine Lp fun K' hK' => ?_
  have r7 := hE_2.at 7 rfl; refine op1 r7 fun ρ qc qf qg q7 => ?_; go_simp; (try go_bits); (try clear qc qf qg r7 q7)
  refine Ln hE_2 hK' fun a_3 hE_3 => ?_; clear hK' K' hE_2
  refine Lp fun K' hK' => ?_
  have r8 := hE_3.at 8 rfl; refine op1 r8 fun ρ qc qf qg q8 => ?_; go_simp; (try clear qc qf qg r8 q8)
  refine Ln hE_3 hK' fun a_4 hE_4 => ?_; clear hK' K' hE_3
  refine Lno hE_4 9 ?_
  refine Lu hE_4 fun a_5 hE_5 => ?_
  refine Lno hE_5 9 ?_
  refine Lu hE_5 fun a_6 hE_6 => ?_
  refine Lno hE_6 9 ?_
  refine Lu hE_6 fun a_7 hE_7 => ?_
  refine Lp fun K' hK' => ?_
  have r9 := hE_7.at 9 rfl; have r12 := hE_7.at 12 rfl
  refine op2 r9 r12 fun ρ qc qf qg q9 q12 => ?_; go_simp; (try go_bits); (try clear qc qf qg r9 q9 r12 q12)
  (try clear r9 r12)
  refine Ln hE_7 hK' fun a_8 hE_8 => ?_; clear hK' K' hE_7
  refine Lp fun K' hK' => ?_
  have r13 := hE_8.at 13 rfl; refine op1 r13 fun ρ qc qf qg q13 => ?_; go_simp; (try clear qc qf qg r13 q13)
  refine Ln hE_8 hK' fun a_9 hE_9 => ?_; clear hK' K' hE_8
  refine Lno hE_9 14 ?_
  refine Lu hE_9 fun a_10 hE_10 => ?_
  refine Lno hE_10 14 ?_
  refine Lu hE_10 fun a_11 hE_11 => ?_
  refine Lno hE_11 14 ?_
  refine Lu hE_11 fun a_12 hE_12 => ?_
  refine Lno hE_12 14 ?_
  refine Lu hE_12 fun a_13 hE_13 => ?_
  refine Lp fun K' hK' => ?_
  have r14 := hE_13.at 14 rfl; have r18 := hE_13.at 18 rfl
  refine op2 r14 r18 fun ρ qc qf qg q14 q18 => ?_; go_simp; (try go_bits); (try clear qc qf qg r14 q14 r18 q18)
  (try clear r14 r18)
  refine Ln hE_13 hK' fun a_14 hE_14 => ?_; clear hK' K' hE_13
  refine Lp fun K' hK' => ?_
  have r19 := hE_14.at 19 rfl; refine op1 r19 fun ρ qc qf qg q19 => ?_; go_simp; (try clear qc qf qg r19 q19)
  refine Ln hE_14 hK' fun a_15 hE_15 => ?_; clear hK' K' hE_14
  refine Lno hE_15 20 ?_
  refine Lu hE_15 fun a_16 hE_16 => ?_
  refine Lno hE_16 20 ?_
  refine Lu hE_16 fun a_17 hE_17 => ?_
  refine Lno hE_17 20 ?_
  refine Lu hE_17 fun a_18 hE_18 => ?_
  refine Lp fun K' hK' => ?_
  have r20 := hE_18.at 20 rfl; have r23 := hE_18.at 23 rfl
  refine op2 r20 r23 fun ρ qc qf qg q20 q23 => ?_; go_simp; (try go_bits); (try clear qc qf qg r20 q20 r23 q23)
  (try clear r20 r23)
  refine Ln hE_18 hK' fun a_19 hE_19 => ?_; clear hK' K' hE_18
  refine Lp fun K' hK' => ?_
  have r24 := hE_19.at 24 rfl; refine op1 r24 fun ρ qc qf qg q24 => ?_; go_simp; (try clear qc qf qg r24 q24)
  refine Ln hE_19 hK' fun a_20 hE_20 => ?_; clear hK' K' hE_19
  refine Lno hE_20 25 ?_
  refine Lu hE_20 fun a_21 hE_21 => ?_
  refine Lno hE_21 25 ?_
  refine Lu hE_21 fun a_22 hE_22 => ?_
  refine Lno hE_22 25 ?_
  refine Lu hE_22 fun a_23 hE_23 => ?_
  refine Lp fun K' hK' => ?_
  have r25 := hE_23.at 25 rfl; have r28 := hE_23.at 28 rfl
  refine op2 r25 r28 fun ρ qc qf qg q25 q28 => ?_; go_simp; (try go_bits); (try clear qc qf qg r25 q25 r28 q28)
  (try clear r25 r28)
  refine Ln hE_23 hK' fun a_24 hE_24 => ?_; clear hK' K' hE_23
  refine Lp fun K' hK' => ?_
  have r29 := hE_24.at 29 rfl; refine op1 r29 fun ρ qc qf qg q29 => ?_; go_simp; (try clear qc qf qg r29 q29)
  refine Ln hE_24 hK' fun a_25 hE_25 => ?_; clear hK' K' hE_24
  refine late_done [1, 3] hE_25 hK (fun a hE => ?_); clear hK K Q' hE_25; simp only [lk, pick, Nat.reduceEqDiff, ↓reduceIte] at hE
  have hb2 := hbw1.trans (h2.mono hbw1.size)
  (repeat with_reducible first|refine ctl ?_|refine miss ?_)
  refine Rs 1 fun Q' K hK => ?_
  refine Lp fun K' hK' => ?_
  refine op0 fun ρ qc qf qg => ?_; go_simp; (try clear qc qf qg)
  refine Ln hE hK' fun a_1 hE_1 => ?_; clear hK' K' hE a
  refine late_done [1, 3, 4] hE_1 hK (fun a hE => ?_); clear hK K Q' hE_1; simp only [lk, pick, Nat.reduceEqDiff, ↓reduceIte] at hE
  (repeat with_reducible first|refine ctl ?_|refine miss ?_)
  refine loop_st (fun (_ : Nat) a w' => Fits 59 [(1, .pointer (some ⟨B, 0, none⟩)), (3, .bool false), (4, .int .i64 0)] a ∧ Below w2.heap.size w2 w') (fun k => k) 0 ⟨by simpa using hE, Below.refl _ _⟩ (fun k a w' hI => ?_)
  clear hE
  obtain ⟨hE, hW⟩ := hI
  obtain ⟨wr, hwr⟩ : ∃ x, x = w' := ⟨_, rfl⟩
  subst hwr
  (repeat with_reducible first|refine ctl ?_|refine miss ?_)
  refine Rs 8 fun Q' K hK => ?_
  refine Lp fun K' hK' => ?_
  have r3 := hE.at 3 rfl; refine op1 r3 fun ρ qc qf qg q3 => ?_; go_simp; (try clear qc qf qg r3 q3)
  refine Ln hE hK' fun a_1 hE_1 => ?_; clear hK' K' hE a
  refine Lp fun K' hK' => ?_
  have r30 := hE_1.at 30 rfl; refine op1 r30 fun ρ qc qf qg q30 => ?_; go_simp; (try clear qc qf qg r30 q30)
  refine Ln hE_1 hK' fun a_2 hE_2 => ?_; clear hK' K' hE_1
  refine Lno hE_2 31 ?_
  refine Lu hE_2 fun a_3 hE_3 => ?_
  refine Lno hE_3 31 ?_
  refine Lu hE_3 fun a_4 hE_4 => ?_
  refine Lno hE_4 31 ?_
  refine Lu hE_4 fun a_5 hE_5 => ?_
  refine Lno hE_5 31 ?_
  refine Lu hE_5 fun a_6 hE_6 => ?_
  refine Lno hE_6 31 ?_
  refine Lu hE_6 fun a_7 hE_7 => ?_
  refine Lp fun K' hK' => ?_
  have r31 := hE_7.at 31 rfl; have r36 := hE_7.at 36 rfl
  refine op2 r31 r36 fun ρ qc qf qg q31 q36 => ?_; go_simp; (try go_bits); (try clear qc qf qg r31 q31 r36 q36)
  (try clear r31 r36)
  refine Ln hE_7 hK' fun a_8 hE_8 => ?_; clear hK' K' hE_7
  refine late_done [3, 37] hE_8 hK (fun a hE => ?_); clear hK K Q' hE_8; simp only [lk, pick, Nat.reduceEqDiff, ↓reduceIte] at hE
  (repeat with_reducible first|refine ctl ?_|refine miss ?_)
  refine cond_no hE (t := 37) rfl ?_
  (repeat with_reducible first|refine ctl ?_|refine miss ?_)
  refine Rs 2 fun Q' K hK => ?_
  refine Lp fun K' hK' => ?_
  have r3 := hE.at 3 rfl; refine op1 r3 fun ρ qc qf qg q3 => ?_; go_simp; (try clear qc qf qg r3 q3)
  refine Ln hE hK' fun a_1 hE_1 => ?_; clear hK' K' hE a
  refine Lp fun K' hK' => ?_
  have r58 := hE_1.at 58 rfl; refine op1 r58 fun ρ qc qf qg q58 => ?_; go_simp; (try clear qc qf qg r58 q58)
  refine Ln hE_1 hK' fun a_2 hE_2 => ?_; clear hK' K' hE_1
  refine late_done [2] hE_2 hK (fun a hE => ?_); clear hK K Q' hE_2; simp only [lk, pick, Nat.reduceEqDiff, ↓reduceIte] at hE
  (repeat with_reducible first|refine ctl ?_|refine miss ?_)
  exact ret_one hE rfl rfl ⟨rfl, hb2.trans (hW.mono hb2.size)⟩
 ·have e0 : bkE b = 0 := by unfold bkE; rw [ho]; rfl
  rw [e0] at C
  obtain ⟨p1, p2, p3, p4, p5⟩ := bk_parts ho
  have hl9 : (b.lines.length : Int) ≤ 9 := by omega
  have HEa : Hid (∀ W, BkAt W A L b → Calls Try.prog 26 #[.agg #[.slice A b.ear.alike.length cap, .string b.ear.mute, .int .i64 b.ear.slips]] W fun e w' => e = .returned (.bool true) ∧ Below W.heap.size W w') := hid fun W hW => by
   have h := lheard_any A cap b.ear.alike b.ear.mute b.ear.slips W hW.1 hs.1 hs.2.1 hs.2.2.2.2.1
   rw [show Ear.ok ⟨b.ear.alike, b.ear.mute, b.ear.slips⟩ = true from p1] at h
   exact h
  have HS1 : Hid ((decide ((0 : Int) ≤ b.lo) && (decide (b.lo ≤ b.hi) && decide (b.hi ≤ 1439))) = true) := hid (by simp [p3.1, p3.2.1, p3.2.2])
  have HS2 : Hid ((decide ((0 : Int) ≤ b.lost) && decide (b.lost ≤ 9)) = true) := hid (by simp [p4.1, p4.2])
  have HLn : Hid (∀ i (h : i < b.lines.length), (decide ((0 : Int) ≤ b.lines[i].book) && decide (b.lines[i].book ≤ 1)) = true ∧ (decide ((0 : Int) ≤ b.lines[i].minute) && decide (b.lines[i].minute ≤ 1439)) = true ∧ nameB b.lines[i].heard.data.toList = true ∧ b.lines[i].heard.size ≤ 9223372036854775807) := hid fun i h => by
   have h1 := p5 i h
   unfold lineB at h1
   rw [Bool.and_eq_true, Bool.and_eq_true] at h1
   exact ⟨h1.1.1, h1.1.2, h1.2, hs.2.2.2.2.2 i h⟩
  clear e0 ho p1 p2 p3 p4 p5
  simp only [bkV] at C ⊢
  refine enterE Try.func16 rfl Try.ntmps16 (by simp) (fun a hE => ?_); simp only [envOf, Nat.zero_add, Nat.reduceAdd] at hE
  (repeat with_reducible first|refine ctl ?_|refine miss ?_)
  refine Rs 2 fun Q' K hK => ?_
  refine Lp fun K' hK' => ?_
  have r0 := hE.at 0 rfl; refine op1 r0 fun ρ qc qf qg q0 => ?_; go_simp; (try clear qc qf qg r0 q0)
  refine Ln hE hK' fun a_1 hE_1 => ?_; clear hK' K' hE a
  refine Lp fun K' hK' => ?_
  refine op0 fun ρ qc qf qg => ?_; go_simp; (try clear qc qf qg)
  refine Ln hE_1 hK' fun a_2 hE_2 => ?_; clear hK' K' hE_1
  refine late_done [1, 2] hE_2 hK (fun a hE => ?_); clear hK K Q' hE_2; simp only [lk, pick, Nat.reduceEqDiff, ↓reduceIte] at hE
  obtain ⟨B, hBe⟩ : ∃ B, B = w.heap.size := ⟨_, rfl⟩; rw [← hBe] at hE; refine world_cut (fun wt => Below w.heap.size w wt ∧ Cells wt B (bkV A cap L lcap b)) ⟨(Below.refl _ _).alloc (Nat.le_refl _) _, by rw [hBe]; exact cells_new _ _ _⟩ (fun w1 hCut => ?_); obtain ⟨hbw1, hCB⟩ := hCut; clear hBe
  have hM1 := hM.below hbw1
  simp only [bkV] at hCB
  have nB := hCB.1; have cB0 := hCB.2 0 _ rfl; have cB1 := hCB.2 1 _ rfl; have cB2 := hCB.2 2 _ rfl; have cB3 := hCB.2 3 _ rfl; have cB4 := hCB.2 4 _ rfl; have cB5 := hCB.2 5 _ rfl; have cB6 := hCB.2 6 _ rfl
  (repeat with_reducible first|refine ctl ?_|refine miss ?_)
  refine Rs 25 fun Q' K hK => ?_
  refine Lp fun K' hK' => ?_
  have r1 := hE.at 1 rfl; refine op1 r1 fun ρ qc qf qg q1 => ?_; go_simp; (try clear qc qf qg r1 q1)
  refine Ln hE hK' fun a_1 hE_1 => ?_; clear hK' K' hE a
  refine Lp fun K' hK' => ?_
  have r6 := hE_1.at 6 rfl; refine op1 r6 fun ρ qc qf qg q6 => ?_; go_simp; (try go_bits); (try clear qc qf qg r6 q6)
  go_at_call 44; refine (C.out _ hM1).mono ?_; rintro e w2 ⟨rfl, h2⟩; have hM2 := hM1.below h2; have hCB2 := hCB.below h2; have n2 := hCB2.1; have c20 := hCB2.2 0 _ rfl; have c21 := hCB2.2 1 _ rfl; have c22 := hCB2.2 2 _ rfl
  (try clear r6)
  refine Ln hE_1 hK' fun a_2 hE_2 => ?_; clear hK' K' hE_1
  refine Lp fun K' hK' => ?_
  have r7 := hE_2.at 7 rfl; refine op1 r7 fun ρ qc qf qg q7 => ?_; go_simp; (try go_bits); (try clear qc qf qg r7 q7)
  refine Ln hE_2 hK' fun a_3 hE_3 => ?_; clear hK' K' hE_2
  refine Lp fun K' hK' => ?_
  have r8 := hE_3.at 8 rfl; refine op1 r8 fun ρ qc qf qg q8 => ?_; go_simp; (try clear qc qf qg r8 q8)
  refine Ln hE_3 hK' fun a_4 hE_4 => ?_; clear hK' K' hE_3
  refine Ly hE_4 9 fun K' hK' => ?_
  have r1 := hE_4.at 1 rfl; refine op1 r1 fun ρ qc qf qg q1 => ?_; go_simp; (try clear qc qf qg r1 q1)
  refine Ln hE_4 hK' fun a_5 hE_5 => ?_; clear hK' K' hE_4
  refine Ly hE_5 9 fun K' hK' => ?_
  have r10 := hE_5.at 10 rfl; refine op1 r10 fun ρ qc qf qg q10 => ?_; go_simp; (try clear qc qf qg r10 q10)
  refine Ln hE_5 hK' fun a_6 hE_6 => ?_; clear hK' K' hE_5
  refine Ly hE_6 9 fun K' hK' => ?_
  have r11 := hE_6.at 11 rfl; refine op1 r11 fun ρ qc qf qg q11 => ?_; go_simp; (try go_bits); (try clear qc qf qg r11 q11)
  go_at_call 26; refine (HEa.out _ hM2).mono ?_; rintro e w3 ⟨rfl, h3⟩; have hCB3 := hCB2.below h3; have n3 := hCB3.1; have c33 := hCB3.2 3 _ rfl; have c34 := hCB3.2 4 _ rfl; have c35 := hCB3.2 5 _ rfl
  (try clear r11)
  refine Ln hE_6 hK' fun a_7 hE_7 => ?_; clear hK' K' hE_6
  refine Lp fun K' hK' => ?_
  have r9 := hE_7.at 9 rfl; have r12 := hE_7.at 12 rfl
  refine op2 r9 r12 fun ρ qc qf qg q9 q12 => ?_; go_simp; (try go_bits); (try clear qc qf qg r9 q9 r12 q12)
  (try clear r9 r12)
  refine Ln hE_7 hK' fun a_8 hE_8 => ?_; clear hK' K' hE_7
  refine Lp fun K' hK' => ?_
  have r13 := hE_8.at 13 rfl; refine op1 r13 fun ρ qc qf qg q13 => ?_; go_simp; (try clear qc qf qg r13 q13)
  refine Ln hE_8 hK' fun a_9 hE_9 => ?_; clear hK' K' hE_8
  refine Ly hE_9 14 fun K' hK' => ?_
  have r1 := hE_9.at 1 rfl; refine op1 r1 fun ρ qc qf qg q1 => ?_; go_simp; (try clear qc qf qg r1 q1)
  refine Ln hE_9 hK' fun a_10 hE_10 => ?_; clear hK' K' hE_9
  refine Ly hE_10 14 fun K' hK' => ?_
  have r15 := hE_10.at 15 rfl; refine op1 r15 fun ρ qc qf qg q15 => ?_; go_simp; (try clear qc qf qg r15 q15)
  refine Ln hE_10 hK' fun a_11 hE_11 => ?_; clear hK' K' hE_10
  refine Ly hE_11 14 fun K' hK' => ?_
  have r16 := hE_11.at 16 rfl; refine op1 r16 fun ρ qc qf qg q16 => ?_; go_simp; (try go_bits); (try clear qc qf qg r16 q16)
  refine Ln hE_11 hK' fun a_12 hE_12 => ?_; clear hK' K' hE_11
  refine Ly hE_12 14 fun K' hK' => ?_
  have r17 := hE_12.at 17 rfl; refine op1 r17 fun ρ qc qf qg q17 => ?_; go_simp; (try go_bits); (try clear qc qf qg r17 q17)
  refine Ln hE_12 hK' fun a_13 hE_13 => ?_; clear hK' K' hE_12
  refine Lp fun K' hK' => ?_
  have r14 := hE_13.at 14 rfl; have r18 := hE_13.at 18 rfl
  refine op2 r14 r18 fun ρ qc qf qg q14 q18 => ?_; go_simp; (try go_bits); (try clear qc qf qg r14 q14 r18 q18)
  (try clear r14 r18)
  refine Ln hE_13 hK' fun a_14 hE_14 => ?_; clear hK' K' hE_13
  refine Lp fun K' hK' => ?_
  have r19 := hE_14.at 19 rfl; refine op1 r19 fun ρ qc qf qg q19 => ?_; go_simp; (try clear qc qf qg r19 q19)
  refine Ln hE_14 hK' fun a_15 hE_15 => ?_; clear hK' K' hE_14
  refine Ly hE_15 20 fun K' hK' => ?_
  have r1 := hE_15.at 1 rfl; refine op1 r1 fun ρ qc qf qg q1 => ?_; go_simp; (try clear qc qf qg r1 q1)
  refine Ln hE_15 hK' fun a_16 hE_16 => ?_; clear hK' K' hE_15
  refine Ly hE_16 20 fun K' hK' => ?_
  have r21 := hE_16.at 21 rfl; refine op1 r21 fun ρ qc qf qg q21 => ?_; go_simp; (try clear qc qf qg r21 q21)
  refine Ln hE_16 hK' fun a_17 hE_17 => ?_; clear hK' K' hE_16
  refine Ly hE_17 20 fun K' hK' => ?_
  have r22 := hE_17.at 22 rfl; refine op1 r22 fun ρ qc qf qg q22 => ?_; go_simp; (try go_bits); (try clear qc qf qg r22 q22)
  go_at_call 55; refine (spans_any _ _ _ _ _).mono ?_; rw [HS1.out]; rintro e w4 ⟨rfl, h4⟩; have hCB4 := hCB3.below h4; have n4 := hCB4.1; have c46 := hCB4.2 6 _ rfl
  (try clear r22)
  refine Ln hE_17 hK' fun a_18 hE_18 => ?_; clear hK' K' hE_17
  refine Lp fun K' hK' => ?_
  have r20 := hE_18.at 20 rfl; have r23 := hE_18.at 23 rfl
  refine op2 r20 r23 fun ρ qc qf qg q20 q23 => ?_; go_simp; (try go_bits); (try clear qc qf qg r20 q20 r23 q23)
  (try clear r20 r23)
  refine Ln hE_18 hK' fun a_19 hE_19 => ?_; clear hK' K' hE_18
  refine Lp fun K' hK' => ?_
  have r24 := hE_19.at 24 rfl; refine op1 r24 fun ρ qc qf qg q24 => ?_; go_simp; (try clear qc qf qg r24 q24)
  refine Ln hE_19 hK' fun a_20 hE_20 => ?_; clear hK' K' hE_19
  refine Ly hE_20 25 fun K' hK' => ?_
  have r1 := hE_20.at 1 rfl; refine op1 r1 fun ρ qc qf qg q1 => ?_; go_simp; (try clear qc qf qg r1 q1)
  refine Ln hE_20 hK' fun a_21 hE_21 => ?_; clear hK' K' hE_20
  refine Ly hE_21 25 fun K' hK' => ?_
  have r26 := hE_21.at 26 rfl; refine op1 r26 fun ρ qc qf qg q26 => ?_; go_simp; (try clear qc qf qg r26 q26)
  refine Ln hE_21 hK' fun a_22 hE_22 => ?_; clear hK' K' hE_21
  refine Ly hE_22 25 fun K' hK' => ?_
  have r27 := hE_22.at 27 rfl; refine op1 r27 fun ρ qc qf qg q27 => ?_; go_simp; (try go_bits); (try clear qc qf qg r27 q27)
  go_at_call 25; refine (between_any _ _ _ _).mono ?_; rw [HS2.out]; rintro e w5 ⟨rfl, rfl⟩
  (try clear r27)
  refine Ln hE_22 hK' fun a_23 hE_23 => ?_; clear hK' K' hE_22
  refine Lp fun K' hK' => ?_
  have r25 := hE_23.at 25 rfl; have r28 := hE_23.at 28 rfl
  refine op2 r25 r28 fun ρ qc qf qg q25 q28 => ?_; go_simp; (try go_bits); (try clear qc qf qg r25 q25 r28 q28)
  (try clear r25 r28)
  refine Ln hE_23 hK' fun a_24 hE_24 => ?_; clear hK' K' hE_23
  refine Lp fun K' hK' => ?_
  have r29 := hE_24.at 29 rfl; refine op1 r29 fun ρ qc qf qg q29 => ?_; go_simp; (try clear qc qf qg r29 q29)
  refine Ln hE_24 hK' fun a_25 hE_25 => ?_; clear hK' K' hE_24
  refine late_done [1, 3] hE_25 hK (fun a hE => ?_); clear hK K Q' hE_25; simp only [lk, pick, Nat.reduceEqDiff, ↓reduceIte] at hE
  have h14 := h2.trans ((h3.trans (h4.mono h3.size)).mono h2.size)
  have hb4 := hbw1.trans (h14.mono hbw1.size)
  have hM4 := hM.below hb4
  clear nB cB0 cB1 cB2 cB3 cB4 cB5 cB6 n2 c20 c21 c22 n3 c33 c34 c35 n4 c46 hCB hl9 hM1 hM2 hCB2 hCB3 h2 h3 h4 C HEa
  (repeat with_reducible first|refine ctl ?_|refine miss ?_)
  refine Rs 1 fun Q' K hK => ?_
  refine Lp fun K' hK' => ?_
  refine op0 fun ρ qc qf qg => ?_; go_simp; (try clear qc qf qg)
  refine Ln hE hK' fun a_1 hE_1 => ?_; clear hK' K' hE a
  refine late_done [1, 3, 4] hE_1 hK (fun a hE => ?_); clear hK K Q' hE_1; simp only [lk, pick, Nat.reduceEqDiff, ↓reduceIte] at hE
  (repeat with_reducible first|refine ctl ?_|refine miss ?_)
  refine loop_st (fun (k : Nat) a w' => k ≤ b.lines.length ∧ Fits 59 [(1, .pointer (some ⟨B, 0, none⟩)), (3, .bool true), (4, .int .i64 k)] a ∧ Below w4.heap.size w4 w') (fun k => b.lines.length - k) 0 ⟨Nat.zero_le _, by simpa using hE, Below.refl _ _⟩ (fun k a w' hI => ?_)
  clear hE
  obtain ⟨hk, hE, hW⟩ := hI
  obtain ⟨wr, hwr⟩ : ∃ x, x = w' := ⟨_, rfl⟩
  subst hwr
  have hCr := hCB4.below hW
  have nr := hCr.1
  have cr3 := hCr.2 3 _ rfl
  (repeat with_reducible first|refine ctl ?_|refine miss ?_)
  refine Rs 8 fun Q' K hK => ?_
  refine Lp fun K' hK' => ?_
  have r3 := hE.at 3 rfl; refine op1 r3 fun ρ qc qf qg q3 => ?_; go_simp; (try clear qc qf qg r3 q3)
  refine Ln hE hK' fun a_1 hE_1 => ?_; clear hK' K' hE a
  refine Lp fun K' hK' => ?_
  have r30 := hE_1.at 30 rfl; refine op1 r30 fun ρ qc qf qg q30 => ?_; go_simp; (try clear qc qf qg r30 q30)
  refine Ln hE_1 hK' fun a_2 hE_2 => ?_; clear hK' K' hE_1
  refine Ly hE_2 31 fun K' hK' => ?_
  have r4 := hE_2.at 4 rfl; refine op1 r4 fun ρ qc qf qg q4 => ?_; go_simp; (try clear qc qf qg r4 q4)
  refine Ln hE_2 hK' fun a_3 hE_3 => ?_; clear hK' K' hE_2
  refine Ly hE_3 31 fun K' hK' => ?_
  have r1 := hE_3.at 1 rfl; refine op1 r1 fun ρ qc qf qg q1 => ?_; go_simp; (try clear qc qf qg r1 q1)
  refine Ln hE_3 hK' fun a_4 hE_4 => ?_; clear hK' K' hE_3
  refine Ly hE_4 31 fun K' hK' => ?_
  have r33 := hE_4.at 33 rfl; refine op1 r33 fun ρ qc qf qg q33 => ?_; go_simp; (try clear qc qf qg r33 q33)
  refine Ln hE_4 hK' fun a_5 hE_5 => ?_; clear hK' K' hE_4
  refine Ly hE_5 31 fun K' hK' => ?_
  have r34 := hE_5.at 34 rfl; refine op1 r34 fun ρ qc qf qg q34 => ?_; go_simp; (try go_bits); (try clear qc qf qg r34 q34)
  refine Ln hE_5 hK' fun a_6 hE_6 => ?_; clear hK' K' hE_5
  refine Ly hE_6 31 fun K' hK' => ?_
  have r32 := hE_6.at 32 rfl; have r35 := hE_6.at 35 rfl
  refine op2 r32 r35 fun ρ qc qf qg q32 q35 => ?_; go_simp; (try go_bits); (try clear qc qf qg r32 q32 r35 q35)
  (try clear r32 r35)
  refine Ln hE_6 hK' fun a_7 hE_7 => ?_; clear hK' K' hE_6
  refine Lp fun K' hK' => ?_
  have r31 := hE_7.at 31 rfl; have r36 := hE_7.at 36 rfl
  refine op2 r31 r36 fun ρ qc qf qg q31 q36 => ?_; go_simp; (try go_bits); (try clear qc qf qg r31 q31 r36 q36)
  (try clear r31 r36)
  refine Ln hE_7 hK' fun a_8 hE_8 => ?_; clear hK' K' hE_7
  refine late_done [1, 3, 4, 37] hE_8 hK (fun a hE => ?_); clear hK K Q' hE_8; simp only [lk, pick, Nat.reduceEqDiff, ↓reduceIte] at hE
  (repeat with_reducible first|refine ctl ?_|refine miss ?_)
  refine cond_part hE (t := 37) rfl (fun h => ?_) (fun h => ?_)
  ·have hlt : k < b.lines.length := by have := of_decide_eq_true h; omega
   clear h
   have hltI : (k : Int) < b.lines.length := by omega
   have hl63 := hs.2.2.2.1
   obtain ⟨b0, o0, rfl, hb0, c0, c1, c2⟩ := (hM4.below hW).2.nl hlt
   obtain ⟨q1, q2, q3, q4⟩ := HLn.out k hlt
   obtain ⟨ln, hln⟩ : ∃ ln, b.lines[k] = ln := ⟨_, rfl⟩
   rw [hln] at c0 c1 c2 q1 q2 q3 q4
   have Q1 := hid q1
   have Q2 := hid q2
   have Q3 := hid q3
   have Q4 := hid q4
   clear q1 q2 q3 q4 hln
   (repeat with_reducible first|refine ctl ?_|refine miss ?_)
   refine Rs 7 fun Q' K hK => ?_
   refine Lp fun K' hK' => ?_
   have r1 := hE.at 1 rfl; refine op1 r1 fun ρ qc qf qg q1 => ?_; go_simp; (try clear qc qf qg r1 q1)
   refine Ln hE hK' fun a_1 hE_1 => ?_; clear hK' K' hE a
   refine Lp fun K' hK' => ?_
   have r40 := hE_1.at 40 rfl; refine op1 r40 fun ρ qc qf qg q40 => ?_; go_simp; (try clear qc qf qg r40 q40)
   refine Ln hE_1 hK' fun a_2 hE_2 => ?_; clear hK' K' hE_1
   refine Lp fun K' hK' => ?_
   have r4 := hE_2.at 4 rfl; refine op1 r4 fun ρ qc qf qg q4 => ?_; go_simp; (try clear qc qf qg r4 q4)
   refine Ln hE_2 hK' fun a_3 hE_3 => ?_; clear hK' K' hE_2
   refine Lp fun K' hK' => ?_
   have r41 := hE_3.at 41 rfl; have r42 := hE_3.at 42 rfl
   refine op2 r41 r42 fun ρ qc qf qg q41 q42 => ?_; go_simp; (try go_bits); (try clear qc qf qg r41 q41 r42 q42)
   (try clear r41 r42)
   refine Ln hE_3 hK' fun a_4 hE_4 => ?_; clear hK' K' hE_3
   refine Lp fun K' hK' => ?_
   have r43 := hE_4.at 43 rfl; refine op1 r43 fun ρ qc qf qg q43 => ?_; go_simp; (try clear qc qf qg r43 q43)
   refine Ln hE_4 hK' fun a_5 hE_5 => ?_; clear hK' K' hE_4
   refine Lp fun K' hK' => ?_
   refine op0 fun ρ qc qf qg => ?_; go_simp; (try clear qc qf qg)
   refine Ln hE_5 hK' fun a_6 hE_6 => ?_; clear hK' K' hE_5
   refine Lp fun K' hK' => ?_
   have r5 := hE_6.at 5 rfl; have r44 := hE_6.at 44 rfl
   refine op2 r5 r44 fun ρ qc qf qg q5 q44 => ?_; go_simp; (try clear qc qf qg r5 q5 r44 q44)
   (try clear r5 r44)
   refine late_skip hE_6 hK' (fun a_7 hE_7 => ?_); clear hK' K'; clear hE_6
   refine late_done [1, 3, 4, 5] hE_7 hK (fun a hE => ?_); clear hK K Q' hE_7; simp only [lk, pick, Nat.reduceEqDiff, ↓reduceIte] at hE
   obtain ⟨S, hSe⟩ : ∃ B, B = wr.heap.size := ⟨_, rfl⟩; rw [← hSe] at hE; refine world_cut (fun wt => Below wr.heap.size wr wt ∧ Cells wt S [.int .i64 ln.book, .int .i64 ln.minute, .string ln.heard]) ⟨(Below.refl _ _).alloc (Nat.le_refl _) _, by rw [hSe]; exact cells_new _ _ _⟩ (fun wx hCut => ?_); obtain ⟨hbwx, hCS⟩ := hCut; clear hSe
   clear c0 c1 c2 nr cr3
   have nS := hCS.1; have cS0 := hCS.2 0 _ rfl; have cS1 := hCS.2 1 _ rfl; have cS2 := hCS.2 2 _ rfl
   (repeat with_reducible first|refine ctl ?_|refine miss ?_)
   refine Rs 14 fun Q' K hK => ?_
   refine Lp fun K' hK' => ?_
   have r5 := hE.at 5 rfl; refine op1 r5 fun ρ qc qf qg q5 => ?_; go_simp; (try clear qc qf qg r5 q5)
   refine Ln hE hK' fun a_1 hE_1 => ?_; clear hK' K' hE a
   refine Lp fun K' hK' => ?_
   have r45 := hE_1.at 45 rfl; refine op1 r45 fun ρ qc qf qg q45 => ?_; go_simp; (try clear qc qf qg r45 q45)
   refine Ln hE_1 hK' fun a_2 hE_2 => ?_; clear hK' K' hE_1
   refine Lp fun K' hK' => ?_
   have r46 := hE_2.at 46 rfl; refine op1 r46 fun ρ qc qf qg q46 => ?_; go_simp; (try go_bits); (try clear qc qf qg r46 q46)
   go_at_call 25; refine (between_any _ _ _ _).mono ?_; rw [Q1.out]; rintro e w5 ⟨rfl, rfl⟩
   (try clear r46)
   refine Ln hE_2 hK' fun a_3 hE_3 => ?_; clear hK' K' hE_2
   refine Lp fun K' hK' => ?_
   have r47 := hE_3.at 47 rfl; refine op1 r47 fun ρ qc qf qg q47 => ?_; go_simp; (try clear qc qf qg r47 q47)
   refine Ln hE_3 hK' fun a_4 hE_4 => ?_; clear hK' K' hE_3
   refine Ly hE_4 48 fun K' hK' => ?_
   have r5 := hE_4.at 5 rfl; refine op1 r5 fun ρ qc qf qg q5 => ?_; go_simp; (try clear qc qf qg r5 q5)
   refine Ln hE_4 hK' fun a_5 hE_5 => ?_; clear hK' K' hE_4
   refine Ly hE_5 48 fun K' hK' => ?_
   have r49 := hE_5.at 49 rfl; refine op1 r49 fun ρ qc qf qg q49 => ?_; go_simp; (try clear qc qf qg r49 q49)
   refine Ln hE_5 hK' fun a_6 hE_6 => ?_; clear hK' K' hE_5
   refine Ly hE_6 48 fun K' hK' => ?_
   have r50 := hE_6.at 50 rfl; refine op1 r50 fun ρ qc qf qg q50 => ?_; go_simp; (try go_bits); (try clear qc qf qg r50 q50)
   go_at_call 25; refine (between_any _ _ _ _).mono ?_; rw [Q2.out]; rintro e w5 ⟨rfl, rfl⟩
   (try clear r50)
   refine Ln hE_6 hK' fun a_7 hE_7 => ?_; clear hK' K' hE_6
   refine Lp fun K' hK' => ?_
   have r48 := hE_7.at 48 rfl; have r51 := hE_7.at 51 rfl
   refine op2 r48 r51 fun ρ qc qf qg q48 q51 => ?_; go_simp; (try go_bits); (try clear qc qf qg r48 q48 r51 q51)
   (try clear r48 r51)
   refine Ln hE_7 hK' fun a_8 hE_8 => ?_; clear hK' K' hE_7
   refine Lp fun K' hK' => ?_
   have r52 := hE_8.at 52 rfl; refine op1 r52 fun ρ qc qf qg q52 => ?_; go_simp; (try clear qc qf qg r52 q52)
   refine Ln hE_8 hK' fun a_9 hE_9 => ?_; clear hK' K' hE_8
   refine Ly hE_9 53 fun K' hK' => ?_
   have r5 := hE_9.at 5 rfl; refine op1 r5 fun ρ qc qf qg q5 => ?_; go_simp; (try clear qc qf qg r5 q5)
   refine Ln hE_9 hK' fun a_10 hE_10 => ?_; clear hK' K' hE_9
   refine Ly hE_10 53 fun K' hK' => ?_
   have r54 := hE_10.at 54 rfl; refine op1 r54 fun ρ qc qf qg q54 => ?_; go_simp; (try clear qc qf qg r54 q54)
   refine Ln hE_10 hK' fun a_11 hE_11 => ?_; clear hK' K' hE_10
   refine Ly hE_11 53 fun K' hK' => ?_
   have r55 := hE_11.at 55 rfl; refine op1 r55 fun ρ qc qf qg q55 => ?_; go_simp; (try go_bits); (try clear qc qf qg r55 q55)
   go_at_call 27; refine (rNames_any _ _ Q4.out).mono ?_; rw [Q3.out]; rintro e w5 ⟨rfl, rfl⟩
   (try clear r55)
   refine Ln hE_11 hK' fun a_12 hE_12 => ?_; clear hK' K' hE_11
   refine Lp fun K' hK' => ?_
   have r53 := hE_12.at 53 rfl; have r56 := hE_12.at 56 rfl
   refine op2 r53 r56 fun ρ qc qf qg q53 q56 => ?_; go_simp; (try go_bits); (try clear qc qf qg r53 q53 r56 q56)
   (try clear r53 r56)
   refine Ln hE_12 hK' fun a_13 hE_13 => ?_; clear hK' K' hE_12
   refine Lp fun K' hK' => ?_
   have r57 := hE_13.at 57 rfl; refine op1 r57 fun ρ qc qf qg q57 => ?_; go_simp; (try clear qc qf qg r57 q57)
   refine Ln hE_13 hK' fun a_14 hE_14 => ?_; clear hK' K' hE_13
   refine late_done [1, 3, 4] hE_14 hK (fun a hE => ?_); clear hK K Q' hE_14; simp only [lk, pick, Nat.reduceEqDiff, ↓reduceIte] at hE
   (repeat with_reducible first|refine ctl ?_|refine miss ?_)
   refine Rs 3 fun Q' K hK => ?_
   refine Lp fun K' hK' => ?_
   have r4 := hE.at 4 rfl; refine op1 r4 fun ρ qc qf qg q4 => ?_; go_simp; (try clear qc qf qg r4 q4)
   refine Ln hE hK' fun a_1 hE_1 => ?_; clear hK' K' hE a
   refine Lp fun K' hK' => ?_
   have r38 := hE_1.at 38 rfl; refine op1 r38 fun ρ qc qf qg q38 => ?_; go_simp; (try go_bits); (try simp (disch := omega) only [IntWalk.i64_in]); (try clear qc qf qg r38 q38)
   refine Ln hE_1 hK' fun a_2 hE_2 => ?_; clear hK' K' hE_1
   refine Lp fun K' hK' => ?_
   have r39 := hE_2.at 39 rfl; refine op1 r39 fun ρ qc qf qg q39 => ?_; go_simp; (try clear qc qf qg r39 q39)
   refine Ln hE_2 hK' fun a_3 hE_3 => ?_; clear hK' K' hE_2
   refine late_done [1, 3, 4] hE_3 hK (fun a hE => ?_); clear hK K Q' hE_3; simp only [lk, pick, Nat.reduceEqDiff, ↓reduceIte] at hE
   (repeat with_reducible first|refine ctl ?_|refine miss ?_)
   exact ⟨k + 1, ⟨hlt, by simpa using hE, hW.trans (hbwx.mono hW.size)⟩, by omega⟩
  ·(repeat with_reducible first|refine ctl ?_|refine miss ?_)
   refine Rs 2 fun Q' K hK => ?_
   refine Lp fun K' hK' => ?_
   have r3 := hE.at 3 rfl; refine op1 r3 fun ρ qc qf qg q3 => ?_; go_simp; (try clear qc qf qg r3 q3)
   refine Ln hE hK' fun a_1 hE_1 => ?_; clear hK' K' hE a
   refine Lp fun K' hK' => ?_
   have r58 := hE_1.at 58 rfl; refine op1 r58 fun ρ qc qf qg q58 => ?_; go_simp; (try clear qc qf qg r58 q58)
   refine Ln hE_1 hK' fun a_2 hE_2 => ?_; clear hK' K' hE_1
   refine late_done [2] hE_2 hK (fun a hE => ?_); clear hK K Q' hE_2; simp only [lk, pick, Nat.reduceEqDiff, ↓reduceIte] at hE
   (repeat with_reducible first|refine ctl ?_|refine miss ?_)
   exact ret_one hE rfl rfl ⟨rfl, hb4.trans (hW.mono hb4.size)⟩
end Go.Proofs.Ytbimkcjdodgojaa
