/- Name: the reference's small checks: Between, letter, digit, Names. -/
import Derived.Test.YtbimkcjdodgojaaNo
import Derived.WalkSpells
namespace Go.Proofs.Ytbimkcjdodgojaa
set_option linter.unusedSimpArgs false
set_option linter.unusedVariables false
open Go.RowKit
attribute [local go_sem high] cell_set_wr
attribute [local go_sem low] cell_wr frozen_wr
attribute [local go_sem] wr_set wr_drew wr_drewN wr_alloc wr_new

theorem between_any (n lo hi : Int) (w : World) :
    Calls Try.prog 25 #[.int .i64 n, .int .i64 lo, .int .i64 hi] w fun e w' => e = .returned (.bool (decide (lo ≤ n) && decide (n ≤ hi))) ∧ w = w' := by
 by_cases h : lo ≤ n
 all_goals
  go_enter Try.func25, Try.ntmps25
  go_wp2
  go_ret
  exact ⟨ret_bool (by first | (simp [h]; done) | (simp; omega)), rfl⟩
theorem rletter_any (c : UInt8) (w : World) : Calls Try.prog 71 #[.int .u8 c.toNat] w fun e w' => e = .returned (.bool (letterB c)) ∧ w = w' := by
 by_cases h : 97 ≤ (c.toNat : Int)
 all_goals
  go_enter Try.func71, Try.ntmps71
  go_wp2
  go_ret
  exact ⟨ret_bool (by unfold letterB; first | (simp [h]; done) | (simp; omega)), rfl⟩
theorem rdigit_any (c : UInt8) (w : World) : Calls Try.prog 72 #[.int .u8 c.toNat] w fun e w' => e = .returned (.bool (digitB c)) ∧ w = w' := by
 by_cases h : 48 ≤ (c.toNat : Int)
 all_goals
  go_enter Try.func72, Try.ntmps72
  go_wp2
  go_ret
  exact ⟨ret_bool (by unfold digitB; first | (simp [h]; done) | (simp; omega)), rfl⟩
def okTo (l : List UInt8) (k : Nat) : Bool := (decide (1 ≤ l.length) && decide (l.length ≤ 12)) && (List.range k).all (nameAt l)
theorem okTo_succ (l : List UInt8) (k : Nat) : okTo l (k + 1) = (okTo l k && nameAt l k) := by
 unfold okTo
 rw [List.range_succ, List.all_append, List.all_cons, List.all_nil, Bool.and_true]
 simp only [Bool.and_assoc]
theorem okTo_false (l : List UInt8) {k : Nat} (h : okTo l k = false) (hk : k ≤ l.length ∨ l.length = 0) : nameB l = false := by
 unfold okTo at h
 unfold nameB
 cases hq : (decide (1 ≤ l.length) && decide (l.length ≤ 12)) with
 | false => rfl
 | true =>
  rw [hq, Bool.true_and] at h
  rw [Bool.true_and]
  rcases hk with hk | hk
  ·rw [List.all_eq_false] at h ⊢
   obtain ⟨i, hi, h⟩ := h
   exact ⟨i, List.mem_range.2 (by have := List.mem_range.1 hi; omega), h⟩
  ·rw [hk] at hq; simp at hq
set_option maxRecDepth 100000 in
set_option maxHeartbeats 1000000 in
theorem rNames_any (s : ByteArray) (w : World) (hs : s.size ≤ 9223372036854775807) : Calls Try.prog 27 #[.string s] w fun e w' => e = .returned (.bool (nameB s.data.toList)) ∧ w = w' := by
 have hlen : s.data.toList.length = s.size := by simp
 obtain ⟨q, hq⟩ : ∃ q, (decide ((1 : Int) ≤ s.size) && decide ((s.size : Int) ≤ 12)) = q := ⟨_, rfl⟩
 have hqn : (decide (1 ≤ s.data.toList.length) && decide (s.data.toList.length ≤ 12)) = q := by
  rw [← hq, hlen]
  congr 1
  ·exact decide_eq_decide.2 (by omega)
  ·exact decide_eq_decide.2 (by omega)
 have hpos : q = true → 0 < s.size := fun h => by
  rw [h] at hq
  simp only [Bool.and_eq_true, decide_eq_true_eq] at hq
  omega
 have HQ := hid hq
 have HN := hid hqn
 have HL := hid hlen
 have HP := hid hpos
 clear hq hqn hlen hpos
 refine enterE Try.func27 rfl Try.ntmps27 (by simp) (fun a hE => ?_); simp only [envOf, Nat.zero_add, Nat.reduceAdd] at hE
 (repeat with_reducible first|refine ctl ?_|refine miss ?_)
 refine Rs 1 fun Q' K hK => ?_
 refine Lp fun K' hK' => ?_
 refine op0 fun ρ qc qf qg => ?_; go_simp; (try clear qc qf qg)
 refine Ln hE hK' fun a_1 hE_1 => ?_; clear hK' K' hE a
 refine late_done [0] hE_1 hK (fun a hE => ?_); clear hK K Q' hE_1; simp only [lk, pick, Nat.reduceEqDiff, ↓reduceIte] at hE
 (repeat with_reducible first|refine ctl ?_|refine miss ?_)
 obtain ⟨f0, hf0⟩ : ∃ f, okTo s.data.toList 1 = f := ⟨_, rfl⟩
 have hf1 : f0 = (q && letterB (s.data.toList.getD 0 0)) := by
  rw [← hf0, okTo_succ]
  unfold okTo nameAt
  rw [HN.out]
  simp
 have HF := hid hf0
 have HF1 := hid hf1
 clear hf0 hf1
 cases hqv : q
 ·have HV := hid hqv
  clear hqv
  refine Rs 9 fun Q' K hK => ?_
  refine Lp fun K' hK' => ?_
  have r0 := hE.at 0 rfl; refine op1 r0 fun ρ qc qf qg q0 => ?_; go_simp; (try clear qc qf qg r0 q0)
  refine Ln hE hK' fun a_1 hE_1 => ?_; clear hK' K' hE a
  refine Lp fun K' hK' => ?_
  have r5 := hE_1.at 5 rfl; refine op1 r5 fun ρ qc qf qg q5 => ?_; go_simp; (try go_bits); (try clear qc qf qg r5 q5)
  refine Ln hE_1 hK' fun a_2 hE_2 => ?_; clear hK' K' hE_1
  refine Lp fun K' hK' => ?_
  have r6 := hE_2.at 6 rfl; refine op1 r6 fun ρ qc qf qg q6 => ?_; go_simp; (try go_bits); (try clear qc qf qg r6 q6)
  go_at_call 25; refine (between_any _ _ _ _).mono ?_; rw [HQ.out, HV.out]; rintro e w1 ⟨rfl, rfl⟩
  (try clear r6)
  refine Ln hE_2 hK' fun a_3 hE_3 => ?_; clear hK' K' hE_2
  refine Lp fun K' hK' => ?_
  have r7 := hE_3.at 7 rfl; refine op1 r7 fun ρ qc qf qg q7 => ?_; go_simp; (try clear qc qf qg r7 q7)
  refine Ln hE_3 hK' fun a_4 hE_4 => ?_; clear hK' K' hE_3
  refine Lno hE_4 8 ?_
  refine Lu hE_4 fun a_5 hE_5 => ?_
  refine Lno hE_5 8 ?_
  refine Lu hE_5 fun a_6 hE_6 => ?_
  refine Lno hE_6 8 ?_
  refine Lu hE_6 fun a_7 hE_7 => ?_
  refine Lp fun K' hK' => ?_
  have r8 := hE_7.at 8 rfl; have r11 := hE_7.at 11 rfl
  refine op2 r8 r11 fun ρ qc qf qg q8 q11 => ?_; go_simp; (try go_bits); (try clear qc qf qg r8 q8 r11 q11)
  (try clear r8 r11)
  refine Ln hE_7 hK' fun a_8 hE_8 => ?_; clear hK' K' hE_7
  refine Lp fun K' hK' => ?_
  have r12 := hE_8.at 12 rfl; refine op1 r12 fun ρ qc qf qg q12 => ?_; go_simp; (try clear qc qf qg r12 q12)
  refine Ln hE_8 hK' fun a_9 hE_9 => ?_; clear hK' K' hE_8
  refine late_done [0, 3] hE_9 hK (fun a hE => ?_); clear hK K Q' hE_9; simp only [lk, pick, Nat.reduceEqDiff, ↓reduceIte] at hE
  (repeat with_reducible first|refine ctl ?_|refine miss ?_)
  refine Rs 1 fun Q' K hK => ?_
  refine Lp fun K' hK' => ?_
  refine op0 fun ρ qc qf qg => ?_; go_simp; (try clear qc qf qg)
  refine Ln hE hK' fun a_1 hE_1 => ?_; clear hK' K' hE a
  refine late_done [0, 3, 4] hE_1 hK (fun a hE => ?_); clear hK K Q' hE_1; simp only [lk, pick, Nat.reduceEqDiff, ↓reduceIte] at hE
  (repeat with_reducible first|refine ctl ?_|refine miss ?_)
  have hnm : nameB s.data.toList = false := by unfold nameB; rw [HN.out, HV.out]; rfl
  have HM := hid hnm
  clear hnm
  refine loop_st (fun (_ : Unit) a w' => Fits 33 [(0, .string s), (3, .bool false), (4, .int .i64 1)] a ∧ w = w') (fun _ => 0) () ?_ (fun k a w' hI => ?_)
  ·exact ⟨by simpa using hE, rfl⟩
  clear hE
  obtain ⟨hE, rfl⟩ := hI
  (repeat with_reducible first|refine ctl ?_|refine miss ?_)
  refine Rs 7 fun Q' K hK => ?_
  refine Lp fun K' hK' => ?_
  have r3 := hE.at 3 rfl; refine op1 r3 fun ρ qc qf qg q3 => ?_; go_simp; (try clear qc qf qg r3 q3)
  refine Ln hE hK' fun a_1 hE_1 => ?_; clear hK' K' hE a
  refine Lp fun K' hK' => ?_
  have r13 := hE_1.at 13 rfl; refine op1 r13 fun ρ qc qf qg q13 => ?_; go_simp; (try clear qc qf qg r13 q13)
  refine Ln hE_1 hK' fun a_2 hE_2 => ?_; clear hK' K' hE_1
  refine Lno hE_2 14 ?_
  refine Lu hE_2 fun a_3 hE_3 => ?_
  refine Lno hE_3 14 ?_
  refine Lu hE_3 fun a_4 hE_4 => ?_
  refine Lno hE_4 14 ?_
  refine Lu hE_4 fun a_5 hE_5 => ?_
  refine Lno hE_5 14 ?_
  refine Lu hE_5 fun a_6 hE_6 => ?_
  refine Lp fun K' hK' => ?_
  have r14 := hE_6.at 14 rfl; have r18 := hE_6.at 18 rfl
  refine op2 r14 r18 fun ρ qc qf qg q14 q18 => ?_; go_simp; (try go_bits); (try clear qc qf qg r14 q14 r18 q18)
  (try clear r14 r18)
  refine Ln hE_6 hK' fun a_7 hE_7 => ?_; clear hK' K' hE_6
  refine late_done [0, 3, 4, 19] hE_7 hK (fun a hE => ?_); clear hK K Q' hE_7; simp only [lk, pick, Nat.reduceEqDiff, ↓reduceIte] at hE
  (repeat with_reducible first|refine ctl ?_|refine miss ?_)
  refine cond_no hE (t := 19) rfl ?_
  (repeat with_reducible first|refine ctl ?_|refine miss ?_)
  refine Rs 2 fun Q' K hK => ?_
  refine Lp fun K' hK' => ?_
  have r3 := hE.at 3 rfl; refine op1 r3 fun ρ qc qf qg q3 => ?_; go_simp; (try clear qc qf qg r3 q3)
  refine Ln hE hK' fun a_1 hE_1 => ?_; clear hK' K' hE a
  refine Lp fun K' hK' => ?_
  have r32 := hE_1.at 32 rfl; refine op1 r32 fun ρ qc qf qg q32 => ?_; go_simp; (try clear qc qf qg r32 q32)
  refine Ln hE_1 hK' fun a_2 hE_2 => ?_; clear hK' K' hE_1
  refine late_done [2] hE_2 hK (fun a hE => ?_); clear hK K Q' hE_2; simp only [lk, pick, Nat.reduceEqDiff, ↓reduceIte] at hE
  (repeat with_reducible first|refine ctl ?_|refine miss ?_)
  exact ret_one hE rfl rfl ⟨ret_bool HM.out.symm, rfl⟩
 ·have hp := HP.out hqv
  have HV := hid hqv
  clear hqv
  have hp0 : (0 : Int) < s.size := by omega
  have hb0 := byte_at s 0 hp
  have HB := hid hb0
  clear hb0
  refine Rs 9 fun Q' K hK => ?_
  refine Lp fun K' hK' => ?_
  have r0 := hE.at 0 rfl; refine op1 r0 fun ρ qc qf qg q0 => ?_; go_simp; (try clear qc qf qg r0 q0)
  refine Ln hE hK' fun a_1 hE_1 => ?_; clear hK' K' hE a
  refine Lp fun K' hK' => ?_
  have r5 := hE_1.at 5 rfl; refine op1 r5 fun ρ qc qf qg q5 => ?_; go_simp; (try go_bits); (try clear qc qf qg r5 q5)
  refine Ln hE_1 hK' fun a_2 hE_2 => ?_; clear hK' K' hE_1
  refine Lp fun K' hK' => ?_
  have r6 := hE_2.at 6 rfl; refine op1 r6 fun ρ qc qf qg q6 => ?_; go_simp; (try go_bits); (try clear qc qf qg r6 q6)
  go_at_call 25; refine (between_any _ _ _ _).mono ?_; rw [HQ.out, HV.out]; rintro e w1 ⟨rfl, rfl⟩
  (try clear r6)
  refine Ln hE_2 hK' fun a_3 hE_3 => ?_; clear hK' K' hE_2
  refine Lp fun K' hK' => ?_
  have r7 := hE_3.at 7 rfl; refine op1 r7 fun ρ qc qf qg q7 => ?_; go_simp; (try clear qc qf qg r7 q7)
  refine Ln hE_3 hK' fun a_4 hE_4 => ?_; clear hK' K' hE_3
  refine Ly hE_4 8 fun K' hK' => ?_
  have r0 := hE_4.at 0 rfl; refine op1 r0 fun ρ qc qf qg q0 => ?_; go_simp; (try clear qc qf qg r0 q0)
  refine Ln hE_4 hK' fun a_5 hE_5 => ?_; clear hK' K' hE_4
  refine Ly hE_5 8 fun K' hK' => ?_
  have r9 := hE_5.at 9 rfl; refine op1 r9 fun ρ qc qf qg q9 => ?_; go_simp; (try go_bits); (try clear qc qf qg r9 q9)
  refine Ln hE_5 hK' fun a_6 hE_6 => ?_; clear hK' K' hE_5
  refine Ly hE_6 8 fun K' hK' => ?_
  have r10 := hE_6.at 10 rfl; refine op1 r10 fun ρ qc qf qg q10 => ?_; go_simp; (try go_bits); (try clear qc qf qg r10 q10)
  go_at_call 71; refine (rletter_any s[0] _).mono ?_; rintro e w1 ⟨rfl, rfl⟩
  (try clear r10)
  refine Ln hE_6 hK' fun a_7 hE_7 => ?_; clear hK' K' hE_6
  refine Lp fun K' hK' => ?_
  have r8 := hE_7.at 8 rfl; have r11 := hE_7.at 11 rfl
  refine op2 r8 r11 fun ρ qc qf qg q8 q11 => ?_; go_simp; (try go_bits); (try clear qc qf qg r8 q8 r11 q11)
  (try clear r8 r11)
  refine Ln hE_7 hK' fun a_8 hE_8 => ?_; clear hK' K' hE_7
  refine Lp fun K' hK' => ?_
  have r12 := hE_8.at 12 rfl; refine op1 r12 fun ρ qc qf qg q12 => ?_; go_simp; (try clear qc qf qg r12 q12)
  refine Ln hE_8 hK' fun a_9 hE_9 => ?_; clear hK' K' hE_8
  refine late_done [0, 3] hE_9 hK (fun a hE => ?_); clear hK K Q' hE_9; simp only [lk, pick, Nat.reduceEqDiff, ↓reduceIte] at hE
  replace hE := hE.turn 3 (v' := .bool (okTo s.data.toList 1)) rfl (by rw [HF.out, HF1.out, HV.out, HB.out]; simp)
  (repeat with_reducible first|refine ctl ?_|refine miss ?_)
  refine Rs 1 fun Q' K hK => ?_
  refine Lp fun K' hK' => ?_
  refine op0 fun ρ qc qf qg => ?_; go_simp; (try clear qc qf qg)
  refine Ln hE hK' fun a_1 hE_1 => ?_; clear hK' K' hE a
  refine late_done [0, 3, 4] hE_1 hK (fun a hE => ?_); clear hK K Q' hE_1; simp only [lk, pick, Nat.reduceEqDiff, ↓reduceIte] at hE
  (repeat with_reducible first|refine ctl ?_|refine miss ?_)
  refine loop_st (fun (k : Nat) a w' => k ≤ s.size ∧ Fits 33 [(0, .string s), (3, .bool (okTo s.data.toList k)), (4, .int .i64 k)] a ∧ w = w' ∧ 1 ≤ k) (fun k => s.size - k) 1 ?_ (fun k a w' hI => ?_)
  ·exact ⟨hp, by simpa using hE, rfl, Nat.le_refl _⟩
  clear hE
  obtain ⟨hk, hE, rfl, hk1⟩ := hI
  obtain ⟨f, hf⟩ : ∃ f, okTo s.data.toList k = f := ⟨_, rfl⟩
  rw [hf] at hE
  have HFk := hid hf
  clear hf
  (repeat with_reducible first|refine ctl ?_|refine miss ?_)
  refine Rs 7 fun Q' K hK => ?_
  refine Lp fun K' hK' => ?_
  have r3 := hE.at 3 rfl; refine op1 r3 fun ρ qc qf qg q3 => ?_; go_simp; (try clear qc qf qg r3 q3)
  refine Ln hE hK' fun a_1 hE_1 => ?_; clear hK' K' hE a
  refine Lp fun K' hK' => ?_
  have r13 := hE_1.at 13 rfl; refine op1 r13 fun ρ qc qf qg q13 => ?_; go_simp; (try clear qc qf qg r13 q13)
  refine Ln hE_1 hK' fun a_2 hE_2 => ?_; clear hK' K' hE_1
  refine Late.may hE_2 (d' := 15) (by decide) (by (first | (simp only [List.getElem?_toArray, List.getElem?_cons_succ, List.getElem?_cons_zero]; rfl) | rfl)) rfl rfl (d := 14) (by kernel_rfl) rfl ?_ (fun hx K' hK' => ?_) (fun a_3 hE_3 => ?_); rotate_left 1
  ·have hx0 := hx; (try simp only [beq_iff_eq, Bool.and_eq_true, Bool.beq_true, Bool.beq_false, Bool.not_eq_true', beq_eq_false_iff_ne] at hx); have r4 := hE_2.at 4 rfl; clear hx0
   refine op1 r4 fun ρ qc qf qg q4 => ?_; go_simp;
   refine put_eq hK' ?_; rfl
  clear hE_2
  refine Late.may hE_3 (d' := 16) (by decide) (by (first | (simp only [List.getElem?_toArray, List.getElem?_cons_succ, List.getElem?_cons_zero]; rfl) | rfl)) rfl rfl (d := 14) (by kernel_rfl) rfl ?_ (fun hx K' hK' => ?_) (fun a_4 hE_4 => ?_); rotate_left 1
  ·have hx0 := hx; (try simp only [beq_iff_eq, Bool.and_eq_true, Bool.beq_true, Bool.beq_false, Bool.not_eq_true', beq_eq_false_iff_ne] at hx); have r0 := hE_3.at 0 rfl; clear hx0
   refine op1 r0 fun ρ qc qf qg q0 => ?_; go_simp;
   refine put_eq hK' ?_; rfl
  clear hE_3
  refine Late.may hE_4 (d' := 17) (by decide) (by (first | (simp only [List.getElem?_toArray, List.getElem?_cons_succ, List.getElem?_cons_zero]; rfl) | rfl)) rfl rfl (d := 14) (by kernel_rfl) rfl ?_ (fun hx K' hK' => ?_) (fun a_5 hE_5 => ?_); rotate_left 1
  ·have hx0 := hx; (try simp only [beq_iff_eq, Bool.and_eq_true, Bool.beq_true, Bool.beq_false, Bool.not_eq_true', beq_eq_false_iff_ne] at hx); have r16 := hE_4.at 16 rfl; (try simp only [hx0, may_true] at r16); clear hx0
   refine op1 r16 fun ρ qc qf qg q16 => ?_; go_simp; (try go_bits);
   refine put_eq hK' ?_; rfl
  clear hE_4
  refine Late.may hE_5 (d' := 18) (by decide) (by (first | (simp only [List.getElem?_toArray, List.getElem?_cons_succ, List.getElem?_cons_zero]; rfl) | rfl)) rfl rfl (d := 14) (by kernel_rfl) rfl ?_ (fun hx K' hK' => ?_) (fun a_6 hE_6 => ?_); rotate_left 1
  ·have hx0 := hx; (try simp only [beq_iff_eq, Bool.and_eq_true, Bool.beq_true, Bool.beq_false, Bool.not_eq_true', beq_eq_false_iff_ne] at hx); have r15 := hE_5.at 15 rfl; have r17 := hE_5.at 17 rfl; (try simp only [hx0, may_true] at r15); (try simp only [hx0, may_true] at r17); clear hx0
   refine op2 r15 r17 fun ρ qc qf qg q15 q17 => ?_; go_simp; (try go_bits);
   refine put_eq hK' ?_; rfl
  clear hE_5
  refine Lp fun K' hK' => ?_
  have r14 := hE_6.at 14 rfl; have r18 := hE_6.at 18 rfl
  refine op2 r14 r18 fun ρ qc qf qg q14 q18 => ?_; go_simp; (try go_bits); (try clear qc qf qg r14 q14 r18 q18)
  (try clear r14 r18)
  refine Ln hE_6 hK' fun a_7 hE_7 => ?_; clear hK' K' hE_6
  refine late_done [0, 3, 4, 19] hE_7 hK (fun a hE => ?_); clear hK K Q' hE_7; simp only [lk, pick, Nat.reduceEqDiff, ↓reduceIte] at hE
  (repeat with_reducible first|refine ctl ?_|refine miss ?_)
  refine cond_part hE (t := 19) rfl (fun h => ?_) (fun h => ?_)
  ·have hb : f = true ∧ k < s.size := by simpa using h
   obtain ⟨hft, hlt⟩ := hb
   clear h
   have hltI : (k : Int) < s.size := by omega
   have hbk := byte_at s k hlt
   have HBk := hid hbk
   clear hbk
   have hk0 : ¬ k = 0 := by omega
   (repeat with_reducible first|refine ctl ?_|refine miss ?_)
   refine Rs 11 fun Q' K hK => ?_
   refine Lp fun K' hK' => ?_
   have r0 := hE.at 0 rfl; refine op1 r0 fun ρ qc qf qg q0 => ?_; go_simp; (try clear qc qf qg r0 q0)
   refine Ln hE hK' fun a_1 hE_1 => ?_; clear hK' K' hE a
   refine Lp fun K' hK' => ?_
   have r4 := hE_1.at 4 rfl; refine op1 r4 fun ρ qc qf qg q4 => ?_; go_simp; (try clear qc qf qg r4 q4)
   refine Ln hE_1 hK' fun a_2 hE_2 => ?_; clear hK' K' hE_1
   refine Lp fun K' hK' => ?_
   have r22 := hE_2.at 22 rfl; have r23 := hE_2.at 23 rfl
   refine op2 r22 r23 fun ρ qc qf qg q22 q23 => ?_; go_simp; (try go_bits); (try clear qc qf qg r22 q22 r23 q23)
   (try clear r22 r23)
   refine Ln hE_2 hK' fun a_3 hE_3 => ?_; clear hK' K' hE_2
   refine Lp fun K' hK' => ?_
   have r24 := hE_3.at 24 rfl; refine op1 r24 fun ρ qc qf qg q24 => ?_; go_simp; (try go_bits); (try clear qc qf qg r24 q24)
   go_at_call 71; refine (rletter_any s[k] _).mono ?_; rintro e w1 ⟨rfl, rfl⟩
   (try clear r24)
   refine Ln hE_3 hK' fun a_4 hE_4 => ?_; clear hK' K' hE_3
   refine Lp fun K' hK' => ?_
   have r25 := hE_4.at 25 rfl; refine op1 r25 fun ρ qc qf qg q25 => ?_; go_simp; (try clear qc qf qg r25 q25)
   refine Ln hE_4 hK' fun a_5 hE_5 => ?_; clear hK' K' hE_4
   refine Late.may hE_5 (d' := 27) (by decide) (by (first | (simp only [List.getElem?_toArray, List.getElem?_cons_succ, List.getElem?_cons_zero]; rfl) | rfl)) rfl rfl (d := 26) (by kernel_rfl) rfl ?_ (fun hx K' hK' => ?_) (fun a_6 hE_6 => ?_); rotate_left 1
   ·have hx0 := hx; (try simp only [beq_iff_eq, Bool.and_eq_true, Bool.beq_true, Bool.beq_false, Bool.not_eq_true', beq_eq_false_iff_ne] at hx); have r0 := hE_5.at 0 rfl; clear hx0
    refine op1 r0 fun ρ qc qf qg q0 => ?_; go_simp;
    refine put_eq hK' ?_; rfl
   clear hE_5
   refine Late.may hE_6 (d' := 28) (by decide) (by (first | (simp only [List.getElem?_toArray, List.getElem?_cons_succ, List.getElem?_cons_zero]; rfl) | rfl)) rfl rfl (d := 26) (by kernel_rfl) rfl ?_ (fun hx K' hK' => ?_) (fun a_7 hE_7 => ?_); rotate_left 1
   ·have hx0 := hx; (try simp only [beq_iff_eq, Bool.and_eq_true, Bool.beq_true, Bool.beq_false, Bool.not_eq_true', beq_eq_false_iff_ne] at hx); have r4 := hE_6.at 4 rfl; clear hx0
    refine op1 r4 fun ρ qc qf qg q4 => ?_; go_simp;
    refine put_eq hK' ?_; rfl
   clear hE_6
   refine Late.may hE_7 (d' := 29) (by decide) (by (first | (simp only [List.getElem?_toArray, List.getElem?_cons_succ, List.getElem?_cons_zero]; rfl) | rfl)) rfl rfl (d := 26) (by kernel_rfl) rfl ?_ (fun hx K' hK' => ?_) (fun a_8 hE_8 => ?_); rotate_left 1
   ·have hx0 := hx; (try simp only [beq_iff_eq, Bool.and_eq_true, Bool.beq_true, Bool.beq_false, Bool.not_eq_true', beq_eq_false_iff_ne] at hx); have r27 := hE_7.at 27 rfl; have r28 := hE_7.at 28 rfl; (try simp only [hx0, may_true] at r27); (try simp only [hx0, may_true] at r28); clear hx0
    refine op2 r27 r28 fun ρ qc qf qg q27 q28 => ?_; go_simp; (try go_bits);
    refine put_eq hK' ?_; rfl
   clear hE_7
   refine Late.may hE_8 (d' := 30) (by decide) (by (first | (simp only [List.getElem?_toArray, List.getElem?_cons_succ, List.getElem?_cons_zero]; rfl) | rfl)) rfl rfl (d := 26) (by kernel_rfl) rfl ?_ (fun hx K' hK' => ?_) (fun a_9 hE_9 => ?_); rotate_left 1
   ·have hx0 := hx; (try simp only [beq_iff_eq, Bool.and_eq_true, Bool.beq_true, Bool.beq_false, Bool.not_eq_true', beq_eq_false_iff_ne] at hx); have r29 := hE_8.at 29 rfl; (try simp only [hx0, may_true] at r29); clear hx0
    refine op1 r29 fun ρ qc qf qg q29 => ?_; go_simp; (try go_bits);
    go_at_call 72; refine (rdigit_any s[k] _).mono ?_; rintro e w1 ⟨rfl, rfl⟩; refine put_eq hK' ?_; rfl
   clear hE_8
   refine Lp fun K' hK' => ?_
   have r26 := hE_9.at 26 rfl; have r30 := hE_9.at 30 rfl
   refine op2 r26 r30 fun ρ qc qf qg q26 q30 => ?_; go_simp; (try go_bits); (try clear qc qf qg r26 q26 r30 q30)
   (try clear r26 r30)
   refine Ln hE_9 hK' fun a_10 hE_10 => ?_; clear hK' K' hE_9
   refine Lp fun K' hK' => ?_
   have r31 := hE_10.at 31 rfl; refine op1 r31 fun ρ qc qf qg q31 => ?_; go_simp; (try clear qc qf qg r31 q31)
   refine Ln hE_10 hK' fun a_11 hE_11 => ?_; clear hK' K' hE_10
   replace hE_11 := hE_11.turn 3 (v' := .bool (okTo s.data.toList (k + 1))) rfl (by (rw [okTo_succ, HFk.out, hft, Bool.true_and]; unfold nameAt; rw [HBk.out]; cases letterB s[k] <;> simp [hk0]))
   refine late_done [0, 3, 4] hE_11 hK (fun a hE => ?_); clear hK K Q' hE_11; simp only [lk, pick, Nat.reduceEqDiff, ↓reduceIte] at hE
   (repeat with_reducible first|refine ctl ?_|refine miss ?_)
   refine Rs 3 fun Q' K hK => ?_
   refine Lp fun K' hK' => ?_
   have r4 := hE.at 4 rfl; refine op1 r4 fun ρ qc qf qg q4 => ?_; go_simp; (try clear qc qf qg r4 q4)
   refine Ln hE hK' fun a_1 hE_1 => ?_; clear hK' K' hE a
   refine Lp fun K' hK' => ?_
   have r20 := hE_1.at 20 rfl; refine op1 r20 fun ρ qc qf qg q20 => ?_; go_simp; (try go_bits); (try simp (disch := omega) only [IntWalk.i64_in]); (try clear qc qf qg r20 q20)
   refine Ln hE_1 hK' fun a_2 hE_2 => ?_; clear hK' K' hE_1
   refine Lp fun K' hK' => ?_
   have r21 := hE_2.at 21 rfl; refine op1 r21 fun ρ qc qf qg q21 => ?_; go_simp; (try clear qc qf qg r21 q21)
   refine Ln hE_2 hK' fun a_3 hE_3 => ?_; clear hK' K' hE_2
   refine late_done [0, 3, 4] hE_3 hK (fun a hE => ?_); clear hK K Q' hE_3; simp only [lk, pick, Nat.reduceEqDiff, ↓reduceIte] at hE
   (repeat with_reducible first|refine ctl ?_|refine miss ?_)
   exact ⟨k + 1, ⟨hlt, by simpa using hE, rfl, by omega⟩, by omega⟩
  ·have hnm : nameB s.data.toList = f := by
    cases hfv : f with
    | false => exact okTo_false _ (HFk.out.trans hfv) (.inl (by rw [HL.out]; exact hk))
    | true =>
     rw [hfv] at h
     have h' : ¬ k < s.size := by simpa using h
     have hk2 : k = s.data.toList.length := by rw [HL.out]; omega
     have := HFk.out
     rw [hfv, hk2] at this
     exact this
   have HM := hid hnm
   clear hnm h
   (repeat with_reducible first|refine ctl ?_|refine miss ?_)
   refine Rs 2 fun Q' K hK => ?_
   refine Lp fun K' hK' => ?_
   have r3 := hE.at 3 rfl; refine op1 r3 fun ρ qc qf qg q3 => ?_; go_simp; (try clear qc qf qg r3 q3)
   refine Ln hE hK' fun a_1 hE_1 => ?_; clear hK' K' hE a
   refine Lp fun K' hK' => ?_
   have r32 := hE_1.at 32 rfl; refine op1 r32 fun ρ qc qf qg q32 => ?_; go_simp; (try clear qc qf qg r32 q32)
   refine Ln hE_1 hK' fun a_2 hE_2 => ?_; clear hK' K' hE_1
   refine late_done [2] hE_2 hK (fun a hE => ?_); clear hK K Q' hE_2; simp only [lk, pick, Nat.reduceEqDiff, ↓reduceIte] at hE
   (repeat with_reducible first|refine ctl ?_|refine miss ?_)
   exact ret_one hE rfl rfl ⟨ret_bool HM.out.symm, rfl⟩
end Go.Proofs.Ytbimkcjdodgojaa
