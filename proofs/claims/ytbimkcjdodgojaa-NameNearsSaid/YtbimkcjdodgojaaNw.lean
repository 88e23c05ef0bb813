/- Name: the reference's Near. -/
import Derived.Test.YtbimkcjdodgojaaNt
namespace Go.Proofs.Ytbimkcjdodgojaa
set_option linter.unusedSimpArgs false
set_option linter.unusedVariables false
open Go.RowKit
attribute [local go_sem high] cell_set_wr
attribute [local go_sem low] cell_wr frozen_wr
attribute [local go_sem] wr_set wr_drew wr_drewN wr_alloc wr_new

def pairTo (l : List ByteArray) (i k : Nat) : Bool := (List.range k).all fun j => lettersR (l.getD i default ++ l.getD j default) 4 8
def pairsTo (l : List ByteArray) (n : Nat) : Bool := (List.range n).all fun i => pairTo l i i
def rHeadB (e : Ear) : Bool := (!decide ((4 : Int) < e.alike.length) && lettersR e.mute 0 3) && (decide (0 ≤ e.slips) && decide (e.slips ≤ 3))
def rEarB (e : Ear) : Bool := rHeadB e && (e.alike.all (fun g => lettersR g 2 4) && pairsTo e.alike e.alike.length)
theorem getT_at {l : List ByteArray} {k : Nat} (h : k < l.length) : l.getD k default = l[k] := by
 rw [List.getD_eq_getElem?_getD, List.getElem?_eq_getElem h]; rfl
theorem lettersR_size {s : ByteArray} {lo hi : Int} (h : lettersR s lo hi = true) : (s.size : Int) ≤ hi := by
 unfold lettersR at h
 simp only [Bool.and_eq_true, decide_eq_true_eq] at h
 exact h.1.2
set_option maxRecDepth 100000 in
set_option maxHeartbeats 2000000 in
theorem rCheckEar_any (A : Option Addr) (cap : Nat) (l : List ByteArray) (m : ByteArray) (sl : Int) (w : World) (hA : Arr w w.heap.size A (txts l)) (hl : l.length ≤ 9223372036854775807) (hm : m.size ≤ 9223372036854775807) (hz : ∀ i (h : i < l.length), l[i].size ≤ 9223372036854775807) : Calls Try.prog 14 #[.agg #[.slice A l.length cap, .string m, .int .i64 sl]] w fun e w' => e = .returned (.int .i64 (if rEarB ⟨l, m, sl⟩ then 0 else 20)) ∧ Below w.heap.size w w' := by
 have HZ := hid hz
 clear hz
 refine enterE Try.func14 rfl Try.ntmps14 (by simp) (fun a hE => ?_); simp only [envOf, Nat.zero_add, Nat.reduceAdd] at hE
 (repeat with_reducible first|refine ctl ?_|refine miss ?_)
 refine Rs 2 fun Q' K hK => ?_
 refine Lp fun K' hK' => ?_
 have r0 := hE.at 0 rfl; refine op1 r0 fun ρ qc qf qg q0 => ?_; go_simp; (try clear qc qf qg r0 q0)
 refine Ln hE hK' fun a_1 hE_1 => ?_; clear hK' K' hE a
 refine Lp fun K' hK' => ?_
 refine op0 fun ρ qc qf qg => ?_; go_simp; (try clear qc qf qg)
 refine Ln hE_1 hK' fun a_2 hE_2 => ?_; clear hK' K' hE_1
 refine late_done [1] hE_2 hK (fun a hE => ?_); clear hK K Q' hE_2; simp only [lk, pick, Nat.reduceEqDiff, ↓reduceIte] at hE
 obtain ⟨B, hBe⟩ : ∃ B, B = w.heap.size := ⟨_, rfl⟩; rw [← hBe] at hE; refine world_cut (fun wt => Below w.heap.size w wt ∧ Cells wt B [.slice A l.length cap, .string m, .int .i64 sl]) ⟨(Below.refl _ _).alloc (Nat.le_refl _) _, by rw [hBe]; exact cells_new _ _ _⟩ (fun w1 hCut => ?_); obtain ⟨hbw1, hCB⟩ := hCut; clear hBe
 have nB := hCB.1; have cB0 := hCB.2 0 _ rfl; have cB1 := hCB.2 1 _ rfl
 obtain ⟨z, hz⟩ : ∃ z, decide ((4 : Int) < l.length) = z := ⟨_, rfl⟩
 have HZ4 := hid hz
 (repeat with_reducible first|refine ctl ?_|refine miss ?_)
 refine Rs 16 fun Q' K hK => ?_
 refine Lp fun K' hK' => ?_
 have r1 := hE.at 1 rfl; refine op1 r1 fun ρ qc qf qg q1 => ?_; go_simp; (try clear qc qf qg r1 q1)
 refine Ln hE hK' fun a_1 hE_1 => ?_; clear hK' K' hE a
 refine Lp fun K' hK' => ?_
 have r6 := hE_1.at 6 rfl; refine op1 r6 fun ρ qc qf qg q6 => ?_; go_simp; (try clear qc qf qg r6 q6)
 refine Ln hE_1 hK' fun a_2 hE_2 => ?_; clear hK' K' hE_1
 refine Lp fun K' hK' => ?_
 have r7 := hE_2.at 7 rfl; refine op1 r7 fun ρ qc qf qg q7 => ?_; go_simp; (try go_bits); (try clear qc qf qg r7 q7)
 refine Ln hE_2 hK' fun a_3 hE_3 => ?_; clear hK' K' hE_2
 refine Lp fun K' hK' => ?_
 have r8 := hE_3.at 8 rfl; refine op1 r8 fun ρ qc qf qg q8 => ?_; go_simp; (try go_bits); (try clear qc qf qg r8 q8)
 refine Ln hE_3 hK' fun a_4 hE_4 => ?_; clear hK' K' hE_3
 refine Lp fun K' hK' => ?_
 have r9 := hE_4.at 9 rfl; refine op1 r9 fun ρ qc qf qg q9 => ?_; go_simp; (try clear qc qf qg r9 q9)
 refine Ln hE_4 hK' fun a_5 hE_5 => ?_; clear hK' K' hE_4
 refine Late.may hE_5 (d' := 11) (by decide) (by (first | (simp only [List.getElem?_toArray, List.getElem?_cons_succ, List.getElem?_cons_zero]; rfl) | rfl)) rfl rfl (d := 10) (by kernel_rfl) rfl ?_ (fun hx K' hK' => ?_) (fun a_6 hE_6 => ?_); rotate_left 1
 ·have hx0 := hx; (try simp only [beq_iff_eq, Bool.and_eq_true, Bool.beq_true, Bool.beq_false, Bool.not_eq_true', beq_eq_false_iff_ne] at hx); have r1 := hE_5.at 1 rfl; clear hx0
  refine op1 r1 fun ρ qc qf qg q1 => ?_; go_simp;
  refine put_eq hK' ?_; rfl
 clear hE_5
 refine Late.may hE_6 (d' := 12) (by decide) (by (first | (simp only [List.getElem?_toArray, List.getElem?_cons_succ, List.getElem?_cons_zero]; rfl) | rfl)) rfl rfl (d := 10) (by kernel_rfl) rfl ?_ (fun hx K' hK' => ?_) (fun a_7 hE_7 => ?_); rotate_left 1
 ·have hx0 := hx; (try simp only [beq_iff_eq, Bool.and_eq_true, Bool.beq_true, Bool.beq_false, Bool.not_eq_true', beq_eq_false_iff_ne] at hx); have r11 := hE_6.at 11 rfl; (try simp only [hx0, may_true] at r11); clear hx0
  refine op1 r11 fun ρ qc qf qg q11 => ?_; go_simp;
  refine put_eq hK' ?_; rfl
 clear hE_6
 refine Late.mayw hE_7 (d' := 13) (by decide) (by (first | (simp only [List.getElem?_toArray, List.getElem?_cons_succ, List.getElem?_cons_zero]; rfl) | rfl)) rfl rfl (d := 10) (by kernel_rfl) rfl ?_ (fun hx K' hK' => ?_) (fun a_8 w2 hbw2 hE_8 => ?_); rotate_left 1
 ·have hx0 := hx; (try simp only [beq_iff_eq, Bool.and_eq_true, Bool.beq_true, Bool.beq_false, Bool.not_eq_true', beq_eq_false_iff_ne] at hx); have r12 := hE_7.at 12 rfl; (try simp only [hx0, may_true] at r12); clear hx0
  refine op1 r12 fun ρ qc qf qg q12 => ?_; go_simp; (try go_bits);
  go_at_call 53; refine (rletters_any m 0 3 _ hm).mono ?_; rintro e w2 ⟨rfl, h2⟩; refine put_eqw hK' h2 ?_; rfl
 clear hE_7
 refine Late.may hE_8 (d' := 14) (by decide) (by (first | (simp only [List.getElem?_toArray, List.getElem?_cons_succ, List.getElem?_cons_zero]; rfl) | rfl)) rfl rfl (d := 10) (by kernel_rfl) rfl ?_ (fun hx K' hK' => ?_) (fun a_9 hE_9 => ?_); rotate_left 1
 ·have hx0 := hx; (try simp only [beq_iff_eq, Bool.and_eq_true, Bool.beq_true, Bool.beq_false, Bool.not_eq_true', beq_eq_false_iff_ne] at hx); have r13 := hE_8.at 13 rfl; (try simp only [hx0, may_true] at r13); clear hx0
  refine op1 r13 fun ρ qc qf qg q13 => ?_; go_simp; (try go_bits); (try simp (disch := omega) only [IntWalk.i64_in]);
  refine put_eq hK' ?_; rfl
 clear hE_8
 refine Lp fun K' hK' => ?_
 have r10 := hE_9.at 10 rfl; have r14 := hE_9.at 14 rfl
 refine op2 r10 r14 fun ρ qc qf qg q10 q14 => ?_; go_simp; (try go_bits); (try clear qc qf qg r10 q10 r14 q14)
 (try clear r10 r14)
 refine Ln hE_9 hK' fun a_10 hE_10 => ?_; clear hK' K' hE_9
 replace hE_10 := hE_10.turn 15 (v' := .bool (z || !lettersR m 0 3)) rfl (by (cases z <;> simp))
 refine Lp fun K' hK' => ?_
 have r15 := hE_10.at 15 rfl; refine op1 r15 fun ρ qc qf qg q15 => ?_; go_simp; (try clear qc qf qg r15 q15)
 refine Ln hE_10 hK' fun a_11 hE_11 => ?_; clear hK' K' hE_10
 have hC2 := hCB.below hbw2; have nC := hC2.1; have e2 := hC2.2 2 _ rfl; clear hC2
 refine Late.may hE_11 (d' := 17) (by decide) (by (first | (simp only [List.getElem?_toArray, List.getElem?_cons_succ, List.getElem?_cons_zero]; rfl) | rfl)) rfl rfl (d := 16) (by kernel_rfl) rfl ?_ (fun hx K' hK' => ?_) (fun a_12 hE_12 => ?_); rotate_left 1
 ·have hx0 := hx; (try simp only [beq_iff_eq, Bool.and_eq_true, Bool.beq_true, Bool.beq_false, Bool.not_eq_true', beq_eq_false_iff_ne] at hx); have r1 := hE_11.at 1 rfl; clear hx0
  refine op1 r1 fun ρ qc qf qg q1 => ?_; go_simp;
  refine put_eq hK' ?_; rfl
 clear hE_11
 refine Late.may hE_12 (d' := 18) (by decide) (by (first | (simp only [List.getElem?_toArray, List.getElem?_cons_succ, List.getElem?_cons_zero]; rfl) | rfl)) rfl rfl (d := 16) (by kernel_rfl) rfl ?_ (fun hx K' hK' => ?_) (fun a_13 hE_13 => ?_); rotate_left 1
 ·have hx0 := hx; (try simp only [beq_iff_eq, Bool.and_eq_true, Bool.beq_true, Bool.beq_false, Bool.not_eq_true', beq_eq_false_iff_ne] at hx); have r17 := hE_12.at 17 rfl; (try simp only [hx0, may_true] at r17); clear hx0
  refine op1 r17 fun ρ qc qf qg q17 => ?_; go_simp;
  refine put_eq hK' ?_; rfl
 clear hE_12
 refine Late.may hE_13 (d' := 19) (by decide) (by (first | (simp only [List.getElem?_toArray, List.getElem?_cons_succ, List.getElem?_cons_zero]; rfl) | rfl)) rfl rfl (d := 16) (by kernel_rfl) rfl ?_ (fun hx K' hK' => ?_) (fun a_14 hE_14 => ?_); rotate_left 1
 ·have hx0 := hx; (try simp only [beq_iff_eq, Bool.and_eq_true, Bool.beq_true, Bool.beq_false, Bool.not_eq_true', beq_eq_false_iff_ne] at hx); have r18 := hE_13.at 18 rfl; (try simp only [hx0, may_true] at r18); clear hx0
  refine op1 r18 fun ρ qc qf qg q18 => ?_; go_simp; (try go_bits);
  go_at_call 25; refine (between_any _ _ _ _).mono ?_; rintro e w4 ⟨rfl, rfl⟩; refine put_eq hK' ?_; rfl
 clear hE_13
 refine Late.may hE_14 (d' := 20) (by decide) (by (first | (simp only [List.getElem?_toArray, List.getElem?_cons_succ, List.getElem?_cons_zero]; rfl) | rfl)) rfl rfl (d := 16) (by kernel_rfl) rfl ?_ (fun hx K' hK' => ?_) (fun a_15 hE_15 => ?_); rotate_left 1
 ·have hx0 := hx; (try simp only [beq_iff_eq, Bool.and_eq_true, Bool.beq_true, Bool.beq_false, Bool.not_eq_true', beq_eq_false_iff_ne] at hx); have r19 := hE_14.at 19 rfl; (try simp only [hx0, may_true] at r19); clear hx0
  refine op1 r19 fun ρ qc qf qg q19 => ?_; go_simp; (try go_bits); (try simp (disch := omega) only [IntWalk.i64_in]);
  refine put_eq hK' ?_; rfl
 clear hE_14
 refine Lp fun K' hK' => ?_
 have r16 := hE_15.at 16 rfl; have r20 := hE_15.at 20 rfl
 refine op2 r16 r20 fun ρ qc qf qg q16 q20 => ?_; go_simp; (try go_bits); (try clear qc qf qg r16 q16 r20 q20)
 (try clear r16 r20)
 refine Ln hE_15 hK' fun a_16 hE_16 => ?_; clear hK' K' hE_15
 replace hE_16 := hE_16.turn 21 (v' := .bool ((z || !lettersR m 0 3) || !(decide (0 ≤ sl) && decide (sl ≤ 3)))) rfl (by (cases z <;> cases lettersR m 0 3 <;> simp))
 refine late_done [1, 21] hE_16 hK (fun a hE => ?_); clear hK K Q' hE_16; simp only [lk, pick, Nat.reduceEqDiff, ↓reduceIte] at hE
 clear hz nC e2 nB cB0 cB1
 replace hE := hE.turn 21 (v' := .bool (!rHeadB ⟨l, m, sl⟩)) rfl (by
  unfold rHeadB
  rw [HZ4.out]
  cases z <;> cases lettersR m 0 3 <;> simp)
 have hb2 := hbw1.trans (hbw2.mono hbw1.size)
 replace hCB := hCB.below hbw2
 clear hbw1 hbw2
 (repeat with_reducible first|refine ctl ?_|refine miss ?_)
 refine cond_part hE (t := 21) rfl (fun h => ?_) (fun h => ?_)
 ·have hh : rHeadB ⟨l, m, sl⟩ = false := by simpa using h
  (repeat with_reducible first|refine ctl ?_|refine miss ?_)
  refine Rs 1 fun Q' K hK => ?_
  refine Lp fun K' hK' => ?_
  refine op0 fun ρ qc qf qg => ?_; go_simp; (try clear qc qf qg)
  refine Ln hE hK' fun a_1 hE_1 => ?_; clear hK' K' hE a
  refine late_done [2] hE_1 hK (fun a hE => ?_); clear hK K Q' hE_1; simp only [lk, pick, Nat.reduceEqDiff, ↓reduceIte] at hE
  (repeat with_reducible first|refine ctl ?_|refine miss ?_)
  refine ret_one hE rfl rfl ⟨?_, hb2⟩
  unfold rEarB
  rw [hh]; rfl
 ·have hh : rHeadB ⟨l, m, sl⟩ = true := by simpa using h
  have HH := hid hh
  clear hh h
  have HA := hid ((hA.below hb2).more hb2.size)
  (repeat with_reducible first|refine ctl ?_|refine miss ?_)
  refine Rs 1 fun Q' K hK => ?_
  refine Lp fun K' hK' => ?_
  refine op0 fun ρ qc qf qg => ?_; go_simp; (try clear qc qf qg)
  refine Ln hE hK' fun a_1 hE_1 => ?_; clear hK' K' hE a
  refine late_done [1, 3] hE_1 hK (fun a hE => ?_); clear hK K Q' hE_1; simp only [lk, pick, Nat.reduceEqDiff, ↓reduceIte] at hE
  (repeat with_reducible first|refine ctl ?_|refine miss ?_)
  refine loop_st (fun (k : Nat) a w' => k ≤ l.length ∧ Fits 61 [(1, .pointer (some ⟨B, 0, none⟩)), (3, .int .i64 k)] a ∧ Below w2.heap.size w2 w' ∧ ∀ i (h : i < l.length), i < k → lettersR l[i] 2 4 = true) (fun k => l.length - k) 0 ?_ (fun k a w' hI => ?_)
  ·exact ⟨Nat.zero_le _, by simpa using hE, Below.refl _ _, fun i _ hi => absurd hi (Nat.not_lt_zero i)⟩
  clear hE
  obtain ⟨hk, hE, hBr, hN⟩ := hI
  obtain ⟨wr, hwr⟩ : ∃ x, x = w' := ⟨_, rfl⟩
  subst hwr
  have HN := hid hN
  clear hN
  have hbr := hb2.trans (hBr.mono hb2.size)
  have hCr := hCB.below hBr
  have nr := hCr.1
  have d0 := hCr.2 0 _ rfl
  clear hCr
  (repeat with_reducible first|refine ctl ?_|refine miss ?_)
  refine Rs 5 fun Q' K hK => ?_
  refine Lp fun K' hK' => ?_
  have r3 := hE.at 3 rfl; refine op1 r3 fun ρ qc qf qg q3 => ?_; go_simp; (try clear qc qf qg r3 q3)
  refine Ln hE hK' fun a_1 hE_1 => ?_; clear hK' K' hE a
  refine Lp fun K' hK' => ?_
  have r1 := hE_1.at 1 rfl; refine op1 r1 fun ρ qc qf qg q1 => ?_; go_simp; (try clear qc qf qg r1 q1)
  refine Ln hE_1 hK' fun a_2 hE_2 => ?_; clear hK' K' hE_1
  refine Lp fun K' hK' => ?_
  have r23 := hE_2.at 23 rfl; refine op1 r23 fun ρ qc qf qg q23 => ?_; go_simp; (try clear qc qf qg r23 q23)
  refine Ln hE_2 hK' fun a_3 hE_3 => ?_; clear hK' K' hE_2
  refine Lp fun K' hK' => ?_
  have r24 := hE_3.at 24 rfl; refine op1 r24 fun ρ qc qf qg q24 => ?_; go_simp; (try go_bits); (try clear qc qf qg r24 q24)
  refine Ln hE_3 hK' fun a_4 hE_4 => ?_; clear hK' K' hE_3
  refine Lp fun K' hK' => ?_
  have r22 := hE_4.at 22 rfl; have r25 := hE_4.at 25 rfl
  refine op2 r22 r25 fun ρ qc qf qg q22 q25 => ?_; go_simp; (try go_bits); (try clear qc qf qg r22 q22 r25 q25)
  (try clear r22 r25)
  refine Ln hE_4 hK' fun a_5 hE_5 => ?_; clear hK' K' hE_4
  refine late_done [1, 3, 26] hE_5 hK (fun a hE => ?_); clear hK K Q' hE_5; simp only [lk, pick, Nat.reduceEqDiff, ↓reduceIte] at hE
  (repeat with_reducible first|refine ctl ?_|refine miss ?_)
  refine cond_part hE (t := 26) rfl (fun h => ?_) (fun h => ?_)
  ·have hlt : k < l.length := of_decide_eq_true h
   clear h
   have hltI : (k : Int) < l.length := by omega
   obtain ⟨bg, o, rfl, hb, hc⟩ := ((HA.out.below hBr).more hBr.size).txt hlt
   have hg1 := HZ.out k hlt
   obtain ⟨g, hg⟩ : ∃ g, l[k] = g := ⟨_, rfl⟩
   rw [hg] at hc hg1
   have HGk := hid hg
   clear hg
   (repeat with_reducible first|refine ctl ?_|refine miss ?_)
   refine Rs 7 fun Q' K hK => ?_
   refine Lp fun K' hK' => ?_
   have r1 := hE.at 1 rfl; refine op1 r1 fun ρ qc qf qg q1 => ?_; go_simp; (try clear qc qf qg r1 q1)
   refine Ln hE hK' fun a_1 hE_1 => ?_; clear hK' K' hE a
   refine Lp fun K' hK' => ?_
   have r29 := hE_1.at 29 rfl; refine op1 r29 fun ρ qc qf qg q29 => ?_; go_simp; (try clear qc qf qg r29 q29)
   refine Ln hE_1 hK' fun a_2 hE_2 => ?_; clear hK' K' hE_1
   refine Lp fun K' hK' => ?_
   have r3 := hE_2.at 3 rfl; refine op1 r3 fun ρ qc qf qg q3 => ?_; go_simp; (try clear qc qf qg r3 q3)
   refine Ln hE_2 hK' fun a_3 hE_3 => ?_; clear hK' K' hE_2
   refine Lp fun K' hK' => ?_
   have r30 := hE_3.at 30 rfl; have r31 := hE_3.at 31 rfl
   refine op2 r30 r31 fun ρ qc qf qg q30 q31 => ?_; go_simp; (try go_bits); (try clear qc qf qg r30 q30 r31 q31)
   (try clear r30 r31)
   refine Ln hE_3 hK' fun a_4 hE_4 => ?_; clear hK' K' hE_3
   refine Lp fun K' hK' => ?_
   have r32 := hE_4.at 32 rfl; refine op1 r32 fun ρ qc qf qg q32 => ?_; go_simp; (try clear qc qf qg r32 q32)
   refine Ln hE_4 hK' fun a_5 hE_5 => ?_; clear hK' K' hE_4
   refine Lp fun K' hK' => ?_
   have r33 := hE_5.at 33 rfl; refine op1 r33 fun ρ qc qf qg q33 => ?_; go_simp; (try go_bits); (try clear qc qf qg r33 q33)
   go_at_call 53; refine (rletters_any g 2 4 _ hg1).mono ?_; rintro e w3 ⟨rfl, h3⟩
   (try clear r33)
   refine Ln hE_5 hK' fun a_6 hE_6 => ?_; clear hK' K' hE_5
   refine Lp fun K' hK' => ?_
   have r34 := hE_6.at 34 rfl; refine op1 r34 fun ρ qc qf qg q34 => ?_; go_simp; (try go_bits); (try simp (disch := omega) only [IntWalk.i64_in]); (try clear qc qf qg r34 q34)
   refine Ln hE_6 hK' fun a_7 hE_7 => ?_; clear hK' K' hE_6
   refine late_done [1, 3, 35] hE_7 hK (fun a hE => ?_); clear hK K Q' hE_7; simp only [lk, pick, Nat.reduceEqDiff, ↓reduceIte] at hE
   have hB3 := hBr.trans (h3.mono hBr.size)
   (repeat with_reducible first|refine ctl ?_|refine miss ?_)
   refine cond_part hE (t := 35) rfl (fun h => ?_) (fun h => ?_)
   ·(repeat with_reducible first|refine ctl ?_|refine miss ?_)
    refine Rs 1 fun Q' K hK => ?_
    refine Lp fun K' hK' => ?_
    refine op0 fun ρ qc qf qg => ?_; go_simp; (try clear qc qf qg)
    refine Ln hE hK' fun a_1 hE_1 => ?_; clear hK' K' hE a
    refine late_done [2] hE_1 hK (fun a hE => ?_); clear hK K Q' hE_1; simp only [lk, pick, Nat.reduceEqDiff, ↓reduceIte] at hE
    (repeat with_reducible first|refine ctl ?_|refine miss ?_)
    refine ret_one hE rfl rfl ⟨?_, hb2.trans (hB3.mono hb2.size)⟩
    have hx : l.all (fun g => lettersR g 2 4) = false := List.all_eq_false.2 ⟨l[k], List.getElem_mem hlt, by rw [HGk.out]; simpa using h⟩
    unfold rEarB
    rw [HH.out, hx]; rfl
   ·(repeat with_reducible first|refine ctl ?_|refine miss ?_)
    refine Rs 3 fun Q' K hK => ?_
    refine Lp fun K' hK' => ?_
    have r3 := hE.at 3 rfl; refine op1 r3 fun ρ qc qf qg q3 => ?_; go_simp; (try clear qc qf qg r3 q3)
    refine Ln hE hK' fun a_1 hE_1 => ?_; clear hK' K' hE a
    refine Lp fun K' hK' => ?_
    have r27 := hE_1.at 27 rfl; refine op1 r27 fun ρ qc qf qg q27 => ?_; go_simp; (try go_bits); (try simp (disch := omega) only [IntWalk.i64_in]); (try clear qc qf qg r27 q27)
    refine Ln hE_1 hK' fun a_2 hE_2 => ?_; clear hK' K' hE_1
    refine Lp fun K' hK' => ?_
    have r28 := hE_2.at 28 rfl; refine op1 r28 fun ρ qc qf qg q28 => ?_; go_simp; (try clear qc qf qg r28 q28)
    refine Ln hE_2 hK' fun a_3 hE_3 => ?_; clear hK' K' hE_2
    refine late_done [1, 3] hE_3 hK (fun a hE => ?_); clear hK K Q' hE_3; simp only [lk, pick, Nat.reduceEqDiff, ↓reduceIte] at hE
    (repeat with_reducible first|refine ctl ?_|refine miss ?_)
    refine ⟨k + 1, ⟨hlt, by simpa using hE, hB3, fun i hi hik => ?_⟩, by omega⟩
    rcases Nat.lt_or_ge i k with h1 | h1
    ·exact HN.out i hi h1
    ·obtain rfl : i = k := by omega
     rw [HGk.out]; simpa using h
  ·have hkk : k = l.length := by have := of_decide_eq_false h; omega
   clear h
   have hx : l.all (fun g => lettersR g 2 4) = true := by
    rw [List.all_eq_true]
    intro g hg
    obtain ⟨i, hi, rfl⟩ := List.getElem_of_mem hg
    exact HN.out i hi (by omega)
   have hsz : ∀ i (h : i < l.length), l[i].size ≤ 4 := fun i hi => by
    have := lettersR_size (HN.out i hi (by omega)); omega
   have HX := hid hx
   have HS := hid hsz
   clear hx hsz hkk hk HN nr d0
   (repeat with_reducible first|refine ctl ?_|refine miss ?_)
   refine Rs 1 fun Q' K hK => ?_
   refine Lp fun K' hK' => ?_
   refine op0 fun ρ qc qf qg => ?_; go_simp; (try clear qc qf qg)
   refine Ln hE hK' fun a_1 hE_1 => ?_; clear hK' K' hE a
   refine late_done [1, 4] hE_1 hK (fun a hE => ?_); clear hK K Q' hE_1; simp only [lk, pick, Nat.reduceEqDiff, ↓reduceIte] at hE
   (repeat with_reducible first|refine ctl ?_|refine miss ?_)
   refine loop_st (fun (k : Nat) a w' => k ≤ l.length ∧ Fits 61 [(1, .pointer (some ⟨B, 0, none⟩)), (4, .int .i64 k)] a ∧ Below w2.heap.size w2 w' ∧ pairsTo l k = true) (fun k => l.length - k) 0 ?_ (fun k a w' hI => ?_)
   ·exact ⟨Nat.zero_le _, by simpa using hE, hBr, rfl⟩
   clear hE hBr hbr
   obtain ⟨hk, hE, hBr, hN⟩ := hI
   obtain ⟨wp, hwp⟩ : ∃ x, x = w' := ⟨_, rfl⟩
   subst hwp
   have HN := hid hN
   clear hN
   have hCr := hCB.below hBr
   have nr := hCr.1
   have d0 := hCr.2 0 _ rfl
   clear hCr
   (repeat with_reducible first|refine ctl ?_|refine miss ?_)
   refine Rs 5 fun Q' K hK => ?_
   refine Lp fun K' hK' => ?_
   have r4 := hE.at 4 rfl; refine op1 r4 fun ρ qc qf qg q4 => ?_; go_simp; (try clear qc qf qg r4 q4)
   refine Ln hE hK' fun a_1 hE_1 => ?_; clear hK' K' hE a
   refine Lp fun K' hK' => ?_
   have r1 := hE_1.at 1 rfl; refine op1 r1 fun ρ qc qf qg q1 => ?_; go_simp; (try clear qc qf qg r1 q1)
   refine Ln hE_1 hK' fun a_2 hE_2 => ?_; clear hK' K' hE_1
   refine Lp fun K' hK' => ?_
   have r37 := hE_2.at 37 rfl; refine op1 r37 fun ρ qc qf qg q37 => ?_; go_simp; (try clear qc qf qg r37 q37)
   refine Ln hE_2 hK' fun a_3 hE_3 => ?_; clear hK' K' hE_2
   refine Lp fun K' hK' => ?_
   have r38 := hE_3.at 38 rfl; refine op1 r38 fun ρ qc qf qg q38 => ?_; go_simp; (try go_bits); (try clear qc qf qg r38 q38)
   refine Ln hE_3 hK' fun a_4 hE_4 => ?_; clear hK' K' hE_3
   refine Lp fun K' hK' => ?_
   have r36 := hE_4.at 36 rfl; have r39 := hE_4.at 39 rfl
   refine op2 r36 r39 fun ρ qc qf qg q36 q39 => ?_; go_simp; (try go_bits); (try clear qc qf qg r36 q36 r39 q39)
   (try clear r36 r39)
   refine Ln hE_4 hK' fun a_5 hE_5 => ?_; clear hK' K' hE_4
   refine late_done [1, 4, 40] hE_5 hK (fun a hE => ?_); clear hK K Q' hE_5; simp only [lk, pick, Nat.reduceEqDiff, ↓reduceIte] at hE
   (repeat with_reducible first|refine ctl ?_|refine miss ?_)
   refine cond_part hE (t := 40) rfl (fun h => ?_) (fun h => ?_)
   ·have hlt : k < l.length := of_decide_eq_true h
    clear h nr d0
    (repeat with_reducible first|refine ctl ?_|refine miss ?_)
    refine Rs 1 fun Q' K hK => ?_
    refine Lp fun K' hK' => ?_
    refine op0 fun ρ qc qf qg => ?_; go_simp; (try clear qc qf qg)
    refine Ln hE hK' fun a_1 hE_1 => ?_; clear hK' K' hE a
    refine late_done [1, 4, 5] hE_1 hK (fun a hE => ?_); clear hK K Q' hE_1; simp only [lk, pick, Nat.reduceEqDiff, ↓reduceIte] at hE
    (repeat with_reducible first|refine ctl ?_|refine miss ?_)
    refine loop_st (fun (j : Nat) a w' => j ≤ k ∧ Fits 61 [(1, .pointer (some ⟨B, 0, none⟩)), (4, .int .i64 k), (5, .int .i64 j)] a ∧ Below w2.heap.size w2 w' ∧ pairTo l k j = true) (fun j => k - j) 0 ?_ (fun j a w' hI => ?_)
    ·exact ⟨Nat.zero_le _, by simpa using hE, hBr, rfl⟩
    clear hE hBr
    obtain ⟨hj, hE, hBr, hP⟩ := hI
    obtain ⟨wq, hwq⟩ : ∃ x, x = w' := ⟨_, rfl⟩
    subst hwq
    have HP := hid hP
    clear hP
    (repeat with_reducible first|refine ctl ?_|refine miss ?_)
    refine Rs 3 fun Q' K hK => ?_
    refine Lp fun K' hK' => ?_
    have r5 := hE.at 5 rfl; refine op1 r5 fun ρ qc qf qg q5 => ?_; go_simp; (try clear qc qf qg r5 q5)
    refine Ln hE hK' fun a_1 hE_1 => ?_; clear hK' K' hE a
    refine Lp fun K' hK' => ?_
    have r4 := hE_1.at 4 rfl; refine op1 r4 fun ρ qc qf qg q4 => ?_; go_simp; (try clear qc qf qg r4 q4)
    refine Ln hE_1 hK' fun a_2 hE_2 => ?_; clear hK' K' hE_1
    refine Lp fun K' hK' => ?_
    have r43 := hE_2.at 43 rfl; have r44 := hE_2.at 44 rfl
    refine op2 r43 r44 fun ρ qc qf qg q43 q44 => ?_; go_simp; (try go_bits); (try clear qc qf qg r43 q43 r44 q44)
    (try clear r43 r44)
    refine Ln hE_2 hK' fun a_3 hE_3 => ?_; clear hK' K' hE_2
    refine late_done [1, 4, 5, 45] hE_3 hK (fun a hE => ?_); clear hK K Q' hE_3; simp only [lk, pick, Nat.reduceEqDiff, ↓reduceIte] at hE
    (repeat with_reducible first|refine ctl ?_|refine miss ?_)
    refine cond_part hE (t := 45) rfl (fun h => ?_) (fun h => ?_)
    ·have hjk : j < k := of_decide_eq_true h
     clear h
     have hltI : (k : Int) < l.length := by omega
     have hjI : (j : Int) < l.length := by omega
     have hjl : j < l.length := by omega
     have hCr := hCB.below hBr
     have nr := hCr.1
     have d0 := hCr.2 0 _ rfl
     clear hCr
     have hAq := (HA.out.below hBr).more hBr.size
     obtain ⟨bg, o, rfl, hb, hc⟩ := hAq.txt hlt
     obtain ⟨bg', o', e', -, hc'⟩ := hAq.txt hjl
     simp only [Option.some.injEq, Addr.mk.injEq, and_true] at e'
     obtain ⟨rfl, rfl⟩ := e'
     have z1 := HS.out k hlt
     have z2 := HS.out j hjl
     have t1 := getT_at hlt
     have t2 := getT_at hjl
     obtain ⟨g, hg⟩ : ∃ g, l[k] = g := ⟨_, rfl⟩
     obtain ⟨g', hg'⟩ : ∃ g, l[j] = g := ⟨_, rfl⟩
     rw [hg] at hc z1 t1
     rw [hg'] at hc' z2 t2
     clear hg hg' hAq
     have hsum : ¬ 9223372036854775807 < g.size + g'.size := by omega
     have hcs : (g ++ g').size ≤ 9223372036854775807 := by
      have : (g ++ g').size = g.size + g'.size := by simp
      omega
     have hps : pairTo l k (j + 1) = (pairTo l k j && lettersR (g ++ g') 4 8) := by
      unfold pairTo
      rw [List.range_succ, List.all_append, List.all_cons, List.all_nil, Bool.and_true, t1, t2]
     have HPS := hid hps
     clear hps t1 t2
     (repeat with_reducible first|refine ctl ?_|refine miss ?_)
     refine Rd [] (fun wt => Below wq.heap.size wq wt) (fun w1 w2 => Below w1.heap.size w1 w2) [(0, some 48), (1, some 49), (2, some 50), (3, some 51), (4, some 52), (5, some 53), (6, some 54), (7, some 55), (8, some 56), (9, some 57), (10, some 58), (11, some 59), (12, some 60)] [48, 49, 50, 51, 52, 53, 54, 55, 56, 57, 58, 59, 60] #[true, true, true, true, true, true, true, true, true, true, true, true, true] [1, 4, 5] hE ((Below.refl _ _).drew) fun Q' K hK => ?_
     refine SeqOps.val ?_ (Sp fun ax wx hS hT' hd K' hK' => ?_) ?_; rotate_left 1
     ·have r1 := hS.at 1 (by decide) (hE.at 1 rfl); obtain ⟨hcT, hfT, hlT, hmT, hwT, hzT⟩ := bT hT'
      refine op1 r1 fun ρ qc qf qg q1 => ?_; go_simp;
      refine hK'.out _ _ _ rfl ?_ hT' (Below.refl _ _); rfl
     refine SeqOps.val ?_ (Sp fun ax wx hS hT' hd K' hK' => ?_) ?_; rotate_left 1
     ·have r48 := Tv hd 0 0 48; obtain ⟨hcT, hfT, hlT, hmT, hwT, hzT⟩ := bT hT'
      refine op1 r48 fun ρ qc qf qg q48 => ?_; go_simp;
      refine hK'.out _ _ _ rfl ?_ hT' (Below.refl _ _); rfl
     refine SeqOps.val ?_ (Sp fun ax wx hS hT' hd K' hK' => ?_) ?_; rotate_left 1
     ·have r4 := hS.at 4 (by decide) (hE.at 4 rfl); obtain ⟨hcT, hfT, hlT, hmT, hwT, hzT⟩ := bT hT'
      refine op1 r4 fun ρ qc qf qg q4 => ?_; go_simp;
      refine hK'.out _ _ _ rfl ?_ hT' (Below.refl _ _); rfl
     refine SeqOps.val ?_ (Sp fun ax wx hS hT' hd K' hK' => ?_) ?_; rotate_left 1
     ·have r49 := Tv hd 1 1 49; have r50 := Tv hd 0 2 50; obtain ⟨hcT, hfT, hlT, hmT, hwT, hzT⟩ := bT hT'
      refine op2 r49 r50 fun ρ qc qf qg q49 q50 => ?_; go_simp; (try go_bits);
      refine hK'.out _ _ _ rfl ?_ hT' (Below.refl _ _); rfl
     refine SeqOps.val ?_ (Sp fun ax wx hS hT' hd K' hK' => ?_) ?_; rotate_left 1
     ·have r51 := Tv hd 0 3 51; obtain ⟨hcT, hfT, hlT, hmT, hwT, hzT⟩ := bT hT'
      refine op1 r51 fun ρ qc qf qg q51 => ?_; go_simp;
      refine hK'.out _ _ _ rfl ?_ hT' (Below.refl _ _); rfl
     refine SeqOps.val ?_ (Sp fun ax wx hS hT' hd K' hK' => ?_) ?_; rotate_left 1
     ·have r1 := hS.at 1 (by decide) (hE.at 1 rfl); obtain ⟨hcT, hfT, hlT, hmT, hwT, hzT⟩ := bT hT'
      refine op1 r1 fun ρ qc qf qg q1 => ?_; go_simp;
      refine hK'.out _ _ _ rfl ?_ hT' (Below.refl _ _); rfl
     refine SeqOps.val ?_ (Sp fun ax wx hS hT' hd K' hK' => ?_) ?_; rotate_left 1
     ·have r53 := Tv hd 0 5 53; obtain ⟨hcT, hfT, hlT, hmT, hwT, hzT⟩ := bT hT'
      refine op1 r53 fun ρ qc qf qg q53 => ?_; go_simp;
      refine hK'.out _ _ _ rfl ?_ hT' (Below.refl _ _); rfl
     refine SeqOps.val ?_ (Sp fun ax wx hS hT' hd K' hK' => ?_) ?_; rotate_left 1
     ·have r5 := hS.at 5 (by decide) (hE.at 5 rfl); obtain ⟨hcT, hfT, hlT, hmT, hwT, hzT⟩ := bT hT'
      refine op1 r5 fun ρ qc qf qg q5 => ?_; go_simp;
      refine hK'.out _ _ _ rfl ?_ hT' (Below.refl _ _); rfl
     refine SeqOps.val ?_ (Sp fun ax wx hS hT' hd K' hK' => ?_) ?_; rotate_left 1
     ·have r54 := Tv hd 1 6 54; have r55 := Tv hd 0 7 55; obtain ⟨hcT, hfT, hlT, hmT, hwT, hzT⟩ := bT hT'
      refine op2 r54 r55 fun ρ qc qf qg q54 q55 => ?_; go_simp; (try go_bits);
      refine hK'.out _ _ _ rfl ?_ hT' (Below.refl _ _); rfl
     refine SeqOps.val ?_ (Sp fun ax wx hS hT' hd K' hK' => ?_) ?_; rotate_left 1
     ·have r56 := Tv hd 0 8 56; obtain ⟨hcT, hfT, hlT, hmT, hwT, hzT⟩ := bT hT'
      refine op1 r56 fun ρ qc qf qg q56 => ?_; go_simp;
      refine hK'.out _ _ _ rfl ?_ hT' (Below.refl _ _); rfl
     refine SeqOps.val ?_ (Sp fun ax wx hS hT' hd K' hK' => ?_) ?_; rotate_left 1
     ·have r52 := Tv hd 5 4 52; have r57 := Tv hd 0 9 57; obtain ⟨hcT, hfT, hlT, hmT, hwT, hzT⟩ := bT hT'
      refine op2 r52 r57 fun ρ qc qf qg q52 q57 => ?_; go_simp; (try go_bits); (try simp (disch := omega) only [IntWalk.i64_in]);
      refine hK'.out _ _ _ rfl ?_ hT' (Below.refl _ _); rfl
     refine SeqOps.val ?_ (Sp fun ax wx hS hT' hd K' hK' => ?_) ?_; rotate_left 1
     ·have r58 := Tv hd 0 10 58; obtain ⟨hcT, hfT, hlT, hmT, hwT, hzT⟩ := bT hT'
      refine op1 r58 fun ρ qc qf qg q58 => ?_; go_simp; (try go_bits);
      go_at_call 53; refine (rletters_any (g ++ g') 4 8 _ hcs).mono ?_; rintro e g1 ⟨rfl, k1⟩
      refine hK'.out _ _ _ rfl ?_ (hT'.trans (k1.mono hT'.size)) k1; rfl
     refine SeqOps.val ?_ (Sp fun ax wx hS hT' hd K' hK' => ?_) ?_; rotate_left 1
     ·have r59 := Tv hd 0 11 59; obtain ⟨hcT, hfT, hlT, hmT, hwT, hzT⟩ := bT hT'
      refine op1 r59 fun ρ qc qf qg q59 => ?_; go_simp; (try go_bits); (try simp (disch := omega) only [IntWalk.i64_in]);
      refine hK'.out _ _ _ rfl ?_ hT' (Below.refl _ _); rfl
     refine SeqOps.nil ?_
     intro wn hBl; (refine fun v h => ?_; obtain rfl := h); (refine fun v h => ?_; obtain rfl := h); (refine fun v h => ?_; obtain rfl := h); (refine fun v h => ?_; obtain rfl := h); (refine fun v h => ?_; obtain rfl := h); (refine fun v h => ?_; obtain rfl := h); (refine fun v h => ?_; obtain rfl := h); (refine fun v h => ?_; obtain rfl := h); (refine fun v h => ?_; obtain rfl := h); (refine fun v h => ?_; obtain rfl := h); (refine fun v h => ?_; obtain rfl := h); (refine fun v h => ?_; obtain rfl := h); (refine fun v h => ?_; obtain rfl := h);
     refine fun ax hEx => ?_
     simp only [lk, pick, Nat.reduceEqDiff, ↓reduceIte] at hEx
     refine late_done [1, 4, 5, 60] hEx hK (fun a hE => ?_); clear hK K Q' hEx; simp only [lk, pick, Nat.reduceEqDiff, ↓reduceIte] at hE
     have hB3 := hBr.trans (hBl.mono hBr.size)
     (repeat with_reducible first|refine ctl ?_|refine miss ?_)
     refine cond_part hE (t := 60) rfl (fun h => ?_) (fun h => ?_)
     ·(repeat with_reducible first|refine ctl ?_|refine miss ?_)
      refine Rs 1 fun Q' K hK => ?_
      refine Lp fun K' hK' => ?_
      refine op0 fun ρ qc qf qg => ?_; go_simp; (try clear qc qf qg)
      refine Ln hE hK' fun a_1 hE_1 => ?_; clear hK' K' hE a
      refine late_done [2] hE_1 hK (fun a hE => ?_); clear hK K Q' hE_1; simp only [lk, pick, Nat.reduceEqDiff, ↓reduceIte] at hE
      (repeat with_reducible first|refine ctl ?_|refine miss ?_)
      refine ret_one hE rfl rfl ⟨?_, hb2.trans (hB3.mono hb2.size)⟩
      have hx : pairsTo l l.length = false := by
       unfold pairsTo
       refine List.all_eq_false.2 ⟨k, List.mem_range.2 hlt, ?_⟩
       have h0 : lettersR (g ++ g') 4 8 = false := by simpa using h
       have hp1 : pairTo l k (j + 1) = false := by rw [HPS.out, h0, Bool.and_false]
       unfold pairTo at hp1 ⊢
       rw [List.all_eq_false] at hp1
       obtain ⟨x, hx1, hx2⟩ := hp1
       intro hall
       exact hx2 (List.all_eq_true.1 hall x (List.mem_range.2 (by have := List.mem_range.1 hx1; omega)))
      unfold rEarB
      rw [HH.out, HX.out, hx]; rfl
     ·(repeat with_reducible first|refine ctl ?_|refine miss ?_)
      refine Rs 3 fun Q' K hK => ?_
      refine Lp fun K' hK' => ?_
      have r5 := hE.at 5 rfl; refine op1 r5 fun ρ qc qf qg q5 => ?_; go_simp; (try clear qc qf qg r5 q5)
      refine Ln hE hK' fun a_1 hE_1 => ?_; clear hK' K' hE a
      refine Lp fun K' hK' => ?_
      have r46 := hE_1.at 46 rfl; refine op1 r46 fun ρ qc qf qg q46 => ?_; go_simp; (try go_bits); (try simp (disch := omega) only [IntWalk.i64_in]); (try clear qc qf qg r46 q46)
      refine Ln hE_1 hK' fun a_2 hE_2 => ?_; clear hK' K' hE_1
      refine Lp fun K' hK' => ?_
      have r47 := hE_2.at 47 rfl; refine op1 r47 fun ρ qc qf qg q47 => ?_; go_simp; (try clear qc qf qg r47 q47)
      refine Ln hE_2 hK' fun a_3 hE_3 => ?_; clear hK' K' hE_2
      refine late_done [1, 4, 5] hE_3 hK (fun a hE => ?_); clear hK K Q' hE_3; simp only [lk, pick, Nat.reduceEqDiff, ↓reduceIte] at hE
      (repeat with_reducible first|refine ctl ?_|refine miss ?_)
      refine ⟨j + 1, ⟨hjk, by simpa using hE, hB3, ?_⟩, by omega⟩
      have h0 : lettersR (g ++ g') 4 8 = true := by simpa using h
      rw [HPS.out, HP.out, h0]; rfl
    ·have hjk : j = k := by have := of_decide_eq_false h; omega
     subst hjk
     clear h
     (repeat with_reducible first|refine ctl ?_|refine miss ?_)
     refine Rs 3 fun Q' K hK => ?_
     refine Lp fun K' hK' => ?_
     have r4 := hE.at 4 rfl; refine op1 r4 fun ρ qc qf qg q4 => ?_; go_simp; (try clear qc qf qg r4 q4)
     refine Ln hE hK' fun a_1 hE_1 => ?_; clear hK' K' hE a
     refine Lp fun K' hK' => ?_
     have r41 := hE_1.at 41 rfl; refine op1 r41 fun ρ qc qf qg q41 => ?_; go_simp; (try go_bits); (try simp (disch := omega) only [IntWalk.i64_in]); (try clear qc qf qg r41 q41)
     refine Ln hE_1 hK' fun a_2 hE_2 => ?_; clear hK' K' hE_1
     refine Lp fun K' hK' => ?_
     have r42 := hE_2.at 42 rfl; refine op1 r42 fun ρ qc qf qg q42 => ?_; go_simp; (try clear qc qf qg r42 q42)
     refine Ln hE_2 hK' fun a_3 hE_3 => ?_; clear hK' K' hE_2
     refine late_done [1, 4] hE_3 hK (fun a hE => ?_); clear hK K Q' hE_3; simp only [lk, pick, Nat.reduceEqDiff, ↓reduceIte] at hE
     (repeat with_reducible first|refine ctl ?_|refine miss ?_)
     refine ⟨j + 1, ⟨hlt, by simpa using hE, hBr, ?_⟩, by omega⟩
     have h1 := HN.out
     have h2 := HP.out
     unfold pairsTo at h1 ⊢
     rw [List.range_succ, List.all_append, h1, List.all_cons, List.all_nil, h2]; rfl
   ·have hkk : k = l.length := by have := of_decide_eq_false h; omega
    subst hkk
    clear h
    (repeat with_reducible first|refine ctl ?_|refine miss ?_)
    refine Rs 1 fun Q' K hK => ?_
    refine Lp fun K' hK' => ?_
    refine op0 fun ρ qc qf qg => ?_; go_simp; (try clear qc qf qg)
    refine Ln hE hK' fun a_1 hE_1 => ?_; clear hK' K' hE a
    refine late_done [2] hE_1 hK (fun a hE => ?_); clear hK K Q' hE_1; simp only [lk, pick, Nat.reduceEqDiff, ↓reduceIte] at hE
    (repeat with_reducible first|refine ctl ?_|refine miss ?_)
    refine ret_one hE rfl rfl ⟨?_, hb2.trans (hBr.mono hb2.size)⟩
    unfold rEarB
    rw [HH.out, HX.out, HN.out]; rfl

theorem lettersB_iff (l : List UInt8) : lettersB l = true ↔ (∀ c ∈ l, letterB c = true) ∧ l.Nodup := by
 unfold lettersB
 rw [List.all_eq_true]
 constructor
 ·intro h
  refine ⟨fun c hc => ?_, ?_⟩
  ·obtain ⟨i, hi, rfl⟩ := List.getElem_of_mem hc
   have := h i (List.mem_range.2 hi)
   rw [newB_inner _ _ (by omega)] at this
   unfold innerTo at this
   rw [Bool.and_eq_true, getD_at hi] at this
   exact this.1
  ·unfold List.Nodup
   rw [List.pairwise_iff_getElem]
   intro i j hi hj hij heq
   have := h j (List.mem_range.2 hj)
   rw [newB_inner _ _ (by omega)] at this
   unfold innerTo at this
   rw [Bool.and_eq_true, List.all_eq_true] at this
   have := this.2 i (List.mem_range.2 hij)
   rw [bne_iff_ne, getD_at hi, getD_at hj] at this
   exact this heq
 ·rintro ⟨h1, h2⟩ i hi
  have hi := List.mem_range.1 hi
  unfold List.Nodup at h2
  rw [List.pairwise_iff_getElem] at h2
  rw [newB_inner _ _ (by omega)]
  unfold innerTo
  rw [Bool.and_eq_true, List.all_eq_true, getD_at hi]
  refine ⟨h1 _ (List.getElem_mem hi), fun j hj => ?_⟩
  have hj := List.mem_range.1 hj
  rw [bne_iff_ne, getD_at (by omega)]
  exact h2 j i (by omega) hi hj
theorem flat_letters (l : List ByteArray) : lettersB (flatT l) = true ↔ (∀ i (h : i < l.length), lettersB l[i].data.toList = true) ∧ ∀ i (h : i < l.length), ∀ k (hk : k < i), ∀ x ∈ l[i].data.toList, ∀ y ∈ (l[k]'(by omega)).data.toList, x ≠ y := by
 rw [lettersB_iff]
 unfold flatT List.Nodup
 rw [List.pairwise_flatMap]
 constructor
 ·rintro ⟨h1, h2, h3⟩
  refine ⟨fun i hi => ?_, fun i hi k hk x hx y hy => ?_⟩
  ·rw [lettersB_iff]
   exact ⟨fun c hc => h1 c (List.mem_flatMap.2 ⟨l[i], List.getElem_mem hi, hc⟩), h2 _ (List.getElem_mem hi)⟩
  ·rw [List.pairwise_iff_getElem] at h3
   exact fun e => h3 k i (by omega) hi hk y hy x hx e.symm
 ·rintro ⟨h1, h2⟩
  refine ⟨fun c hc => ?_, fun g hg => ?_, ?_⟩
  ·obtain ⟨g, hg, hc⟩ := List.mem_flatMap.1 hc
   obtain ⟨i, hi, rfl⟩ := List.getElem_of_mem hg
   exact ((lettersB_iff _).1 (h1 i hi)).1 c hc
  ·obtain ⟨i, hi, rfl⟩ := List.getElem_of_mem hg
   exact ((lettersB_iff _).1 (h1 i hi)).2
  ·rw [List.pairwise_iff_getElem]
   intro k i hk hi hki x hx y hy e
   exact h2 i hi k hki y hy x hx e.symm
theorem pair_letters (g h : ByteArray) (hg : groupB g = true) (hh : groupB h = true) (lg : lettersB g.data.toList = true) (lh : lettersB h.data.toList = true) : lettersR (g ++ h) 4 8 = true ↔ ∀ x ∈ g.data.toList, ∀ y ∈ h.data.toList, x ≠ y := by
 unfold groupB at hg hh
 simp only [Bool.and_eq_true, decide_eq_true_eq] at hg hh
 unfold lettersR
 have hs : (g ++ h).size = g.size + h.size := by simp
 have hd : (g ++ h).data.toList = g.data.toList ++ h.data.toList := by rw [ByteArray.data_append, Array.toList_append]
 rw [hs, hd, Bool.and_eq_true, Bool.and_eq_true, decide_eq_true_eq, decide_eq_true_eq, lettersB_iff]
 obtain ⟨a1, a2⟩ := (lettersB_iff _).1 lg
 obtain ⟨b1, b2⟩ := (lettersB_iff _).1 lh
 unfold List.Nodup at a2 b2 ⊢
 rw [List.pairwise_append]
 constructor
 ·rintro ⟨_, _, _, _, h4⟩
  exact h4
 ·intro h4
  refine ⟨⟨by omega, by omega⟩, fun c hc => ?_, a2, b2, h4⟩
  rcases List.mem_append.1 hc with hc | hc
  ·exact a1 c hc
  ·exact b1 c hc
theorem ear_eq (e : Ear) : rEarB e = e.ok := by
 obtain ⟨l, m, sl⟩ := e
 have h1 : lettersR m 0 3 = (decide ((m.size : Int) ≤ 3) && lettersB m.data.toList) := by
  unfold lettersR
  rw [decide_eq_true (by omega : (0 : Int) ≤ m.size), Bool.true_and]
 have h2 : (l.all (fun g => lettersR g 2 4) && pairsTo l l.length) = (l.all groupB && lettersB (flatT l)) := by
  rw [Bool.eq_iff_iff, Bool.and_eq_true, Bool.and_eq_true, flat_letters]
  have hR : ∀ g : ByteArray, lettersR g 2 4 = (groupB g && lettersB g.data.toList) := fun g => rfl
  constructor
  ·rintro ⟨ha, hp⟩
   rw [List.all_eq_true] at ha
   have hg : ∀ i (h : i < l.length), groupB l[i] = true ∧ lettersB l[i].data.toList = true := fun i hi => by
    have := ha l[i] (List.getElem_mem hi)
    rw [hR, Bool.and_eq_true] at this
    exact this
   refine ⟨List.all_eq_true.2 fun g hg' => ?_, fun i hi => (hg i hi).2, fun i hi k hk => ?_⟩
   ·obtain ⟨i, hi, rfl⟩ := List.getElem_of_mem hg'
    exact (hg i hi).1
   ·unfold pairsTo at hp
    have := List.all_eq_true.1 hp i (List.mem_range.2 hi)
    unfold pairTo at this
    have := List.all_eq_true.1 this k (List.mem_range.2 hk)
    rw [getT_at hi, getT_at (by omega : k < l.length)] at this
    exact (pair_letters _ _ (hg i hi).1 (hg k (by omega)).1 (hg i hi).2 (hg k (by omega)).2).1 this
  ·rintro ⟨hg, hl, hp⟩
   rw [List.all_eq_true] at hg
   refine ⟨List.all_eq_true.2 fun g hg' => ?_, ?_⟩
   ·obtain ⟨i, hi, rfl⟩ := List.getElem_of_mem hg'
    rw [hR, hg _ (List.getElem_mem hi), hl i hi]; rfl
   ·unfold pairsTo
    refine List.all_eq_true.2 fun i hi => ?_
    have hi := List.mem_range.1 hi
    unfold pairTo
    refine List.all_eq_true.2 fun k hk => ?_
    have hk := List.mem_range.1 hk
    rw [getT_at hi, getT_at (by omega : k < l.length)]
    exact (pair_letters _ _ (hg _ (List.getElem_mem hi)) (hg _ (List.getElem_mem (by omega))) (hl i hi) (hl k (by omega))).2 (hp i hi k hk)
 unfold rEarB rHeadB Ear.ok groupsB
 simp only [h1, h2]
 cases decide ((4 : Int) < l.length) <;> cases decide ((m.size : Int) ≤ 3) <;> cases lettersB m.data.toList <;> cases (decide (0 ≤ sl) && decide (sl ≤ 3)) <;> cases (l.all groupB && lettersB (flatT l)) <;> rfl

set_option maxRecDepth 100000 in
set_option maxHeartbeats 2000000 in
theorem rNear_any (A : Option Addr) (cap : Nat) (l : List ByteArray) (m : ByteArray) (sl : Int) (s t : ByteArray) (w : World) (hA : Arr w w.heap.size A (txts l)) (hz : ∀ i (h : i < l.length), l[i].size ≤ 9223372036854775807) (hl : l.length ≤ 9223372036854775807) (hm : m.size ≤ 9223372036854775807) (hs : s.size ≤ 9223372036854775807) (ht : t.size ≤ 9223372036854775807) : Calls Try.prog 12 #[.agg #[.slice A l.length cap, .string m, .int .i64 sl], .string s, .string t] w fun e w' => e = .returned (.tuple #[.int .i64 (pNearR ⟨l, m, sl⟩ s t).1, .int .i64 (pNearR ⟨l, m, sl⟩ s t).2]) ∧ Below w.heap.size w w' := by
 refine enterE Try.func12 rfl Try.ntmps12 (by simp) (fun a hE => ?_); simp only [envOf, Nat.zero_add, Nat.reduceAdd] at hE
 (repeat with_reducible first|refine ctl ?_|refine miss ?_)
 refine Rs 3 fun Q' K hK => ?_
 refine Lp fun K' hK' => ?_
 have r0 := hE.at 0 rfl; refine op1 r0 fun ρ qc qf qg q0 => ?_; go_simp; (try clear qc qf qg r0 q0)
 refine Ln hE hK' fun a_1 hE_1 => ?_; clear hK' K' hE a
 refine Lp fun K' hK' => ?_
 refine op0 fun ρ qc qf qg => ?_; go_simp; (try clear qc qf qg)
 refine Ln hE_1 hK' fun a_2 hE_2 => ?_; clear hK' K' hE_1
 refine Lp fun K' hK' => ?_
 refine op0 fun ρ qc qf qg => ?_; go_simp; (try clear qc qf qg)
 refine Ln hE_2 hK' fun a_3 hE_3 => ?_; clear hK' K' hE_2
 refine late_done [1, 2, 3] hE_3 hK (fun a hE => ?_); clear hK K Q' hE_3; simp only [lk, pick, Nat.reduceEqDiff, ↓reduceIte] at hE
 obtain ⟨B, hBe⟩ : ∃ B, B = w.heap.size := ⟨_, rfl⟩; rw [← hBe] at hE; refine world_cut (fun wt => Below w.heap.size w wt ∧ Cells wt B [.slice A l.length cap, .string m, .int .i64 sl]) ⟨(Below.refl _ _).alloc (Nat.le_refl _) _, by rw [hBe]; exact cells_new _ _ _⟩ (fun w1 hCut => ?_); obtain ⟨hbw1, hCB⟩ := hCut; clear hBe
 (repeat with_reducible first|refine ctl ?_|refine miss ?_)
 have nB := hCB.1; have cB0 := hCB.2 0 _ rfl; have cB1 := hCB.2 1 _ rfl; have cB2 := hCB.2 2 _ rfl
 have hA1 := (hA.below hbw1).more hbw1.size
 obtain ⟨q, hq⟩ : ∃ q, Ear.ok ⟨l, m, sl⟩ = q := ⟨_, rfl⟩
 have HQ := hid hq
 clear hq
 have HC := hid (rCheckEar_any A cap l m sl w1 hA1 hl hm hz)
 rw [ear_eq, HQ.out] at HC
 have HZ := hid hz
 clear hz
 refine Rs 3 fun Q' K hK => ?_
 refine Lp fun K' hK' => ?_
 have r3 := hE.at 3 rfl; refine op1 r3 fun ρ qc qf qg q3 => ?_; go_simp; (try clear qc qf qg r3 q3)
 refine Ln hE hK' fun a_1 hE_1 => ?_; clear hK' K' hE a
 refine Lp fun K' hK' => ?_
 have r10 := hE_1.at 10 rfl; refine op1 r10 fun ρ qc qf qg q10 => ?_; go_simp; (try go_bits); (try clear qc qf qg r10 q10)
 go_at_call 14; refine (HC.out).mono ?_; rintro e w2 ⟨rfl, h2⟩
 (try clear r10)
 refine Ln hE_1 hK' fun a_2 hE_2 => ?_; clear hK' K' hE_1
 refine Lp fun K' hK' => ?_
 have r11 := hE_2.at 11 rfl; refine op1 r11 fun ρ qc qf qg q11 => ?_; go_simp; (try clear qc qf qg r11 q11)
 refine Ln hE_2 hK' fun a_3 hE_3 => ?_; clear hK' K' hE_2
 refine late_done [1, 2, 3, 8] hE_3 hK (fun a hE => ?_); clear hK K Q' hE_3; simp only [lk, pick, Nat.reduceEqDiff, ↓reduceIte] at hE
 have hb2 := hbw1.trans (h2.mono hbw1.size)
 (repeat with_reducible first|refine ctl ?_|refine miss ?_)
 refine Rs 2 fun Q' K hK => ?_
 refine Lp fun K' hK' => ?_
 have r8 := hE.at 8 rfl; refine op1 r8 fun ρ qc qf qg q8 => ?_; go_simp; (try clear qc qf qg r8 q8)
 refine Ln hE hK' fun a_1 hE_1 => ?_; clear hK' K' hE a
 refine Lp fun K' hK' => ?_
 have r12 := hE_1.at 12 rfl; refine op1 r12 fun ρ qc qf qg q12 => ?_; go_simp; (try go_bits); (try clear qc qf qg r12 q12)
 refine Ln hE_1 hK' fun a_2 hE_2 => ?_; clear hK' K' hE_1
 refine late_done [1, 2, 3, 8, 13] hE_2 hK (fun a hE => ?_); clear hK K Q' hE_2; simp only [lk, pick, Nat.reduceEqDiff, ↓reduceIte] at hE
 replace hE := hE.turn 13 (v' := .bool (!q)) rfl (by cases q <;> rfl)
 (repeat with_reducible first|refine ctl ?_|refine miss ?_)
 refine cond_part hE (t := 13) rfl (fun h => ?_) (fun h => ?_)
 ·have hq0 : q = false := by simpa using h
  (repeat with_reducible first|refine ctl ?_|refine miss ?_)
  refine Rs 3 fun Q' K hK => ?_
  refine Lp fun K' hK' => ?_
  have r8 := hE.at 8 rfl; refine op1 r8 fun ρ qc qf qg q8 => ?_; go_simp; (try clear qc qf qg r8 q8)
  refine Ln hE hK' fun a_1 hE_1 => ?_; clear hK' K' hE a
  refine Lp fun K' hK' => ?_
  refine op0 fun ρ qc qf qg => ?_; go_simp; (try clear qc qf qg)
  refine Ln hE_1 hK' fun a_2 hE_2 => ?_; clear hK' K' hE_1
  refine Lp fun K' hK' => ?_
  have r14 := hE_2.at 14 rfl; refine op1 r14 fun ρ qc qf qg q14 => ?_; go_simp; (try clear qc qf qg r14 q14)
  refine Ln hE_2 hK' fun a_3 hE_3 => ?_; clear hK' K' hE_2
  refine late_done [6, 7] hE_3 hK (fun a hE => ?_); clear hK K Q' hE_3; simp only [lk, pick, Nat.reduceEqDiff, ↓reduceIte] at hE
  (repeat with_reducible first|refine ctl ?_|refine miss ?_)
  refine ret_two hE rfl rfl rfl ⟨?_, hb2⟩
  unfold pNearR
  rw [HQ.out, hq0]; rfl
 ·have hq1 : q = true := by simpa using h
  clear h
  obtain ⟨n1, hn1⟩ : ∃ n, nameB s.data.toList = n := ⟨_, rfl⟩
  obtain ⟨n2, hn2⟩ : ∃ n, nameB t.data.toList = n := ⟨_, rfl⟩
  have HN1 := hid hn1
  have HN2 := hid hn2
  clear hn1 hn2
  (repeat with_reducible first|refine ctl ?_|refine miss ?_)
  refine Rs 8 fun Q' K hK => ?_
  refine Lp fun K' hK' => ?_
  have r1 := hE.at 1 rfl; refine op1 r1 fun ρ qc qf qg q1 => ?_; go_simp; (try clear qc qf qg r1 q1)
  refine Ln hE hK' fun a_1 hE_1 => ?_; clear hK' K' hE a
  refine Lp fun K' hK' => ?_
  have r15 := hE_1.at 15 rfl; refine op1 r15 fun ρ qc qf qg q15 => ?_; go_simp; (try go_bits); (try clear qc qf qg r15 q15)
  go_at_call 27; refine (rNames_any s _ hs).mono ?_; rw [HN1.out]; rintro e w3 ⟨rfl, rfl⟩
  (try clear r15)
  refine Ln hE_1 hK' fun a_2 hE_2 => ?_; clear hK' K' hE_1
  refine Lp fun K' hK' => ?_
  have r16 := hE_2.at 16 rfl; refine op1 r16 fun ρ qc qf qg q16 => ?_; go_simp; (try go_bits); (try simp (disch := omega) only [IntWalk.i64_in]); (try clear qc qf qg r16 q16)
  refine Ln hE_2 hK' fun a_3 hE_3 => ?_; clear hK' K' hE_2
  refine Lp fun K' hK' => ?_
  have r17 := hE_3.at 17 rfl; refine op1 r17 fun ρ qc qf qg q17 => ?_; go_simp; (try clear qc qf qg r17 q17)
  refine Ln hE_3 hK' fun a_4 hE_4 => ?_; clear hK' K' hE_3
  refine Late.may hE_4 (d' := 19) (by decide) (by (first | (simp only [List.getElem?_toArray, List.getElem?_cons_succ, List.getElem?_cons_zero]; rfl) | rfl)) rfl rfl (d := 18) (by kernel_rfl) rfl ?_ (fun hx K' hK' => ?_) (fun a_5 hE_5 => ?_); rotate_left 1
  ·have hx0 := hx; (try simp only [beq_iff_eq, Bool.and_eq_true, Bool.beq_true, Bool.beq_false, Bool.not_eq_true', beq_eq_false_iff_ne] at hx); have r2 := hE_4.at 2 rfl; clear hx0
   refine op1 r2 fun ρ qc qf qg q2 => ?_; go_simp;
   refine put_eq hK' ?_; rfl
  clear hE_4
  refine Late.may hE_5 (d' := 20) (by decide) (by (first | (simp only [List.getElem?_toArray, List.getElem?_cons_succ, List.getElem?_cons_zero]; rfl) | rfl)) rfl rfl (d := 18) (by kernel_rfl) rfl ?_ (fun hx K' hK' => ?_) (fun a_6 hE_6 => ?_); rotate_left 1
  ·have hx0 := hx; (try simp only [beq_iff_eq, Bool.and_eq_true, Bool.beq_true, Bool.beq_false, Bool.not_eq_true', beq_eq_false_iff_ne] at hx); have r19 := hE_5.at 19 rfl; (try simp only [hx0, may_true] at r19); clear hx0
   refine op1 r19 fun ρ qc qf qg q19 => ?_; go_simp; (try go_bits);
   go_at_call 27; refine (rNames_any t _ ht).mono ?_; rw [HN2.out]; rintro e w3 ⟨rfl, rfl⟩; refine put_eq hK' ?_; rfl
  clear hE_5
  refine Late.may hE_6 (d' := 21) (by decide) (by (first | (simp only [List.getElem?_toArray, List.getElem?_cons_succ, List.getElem?_cons_zero]; rfl) | rfl)) rfl rfl (d := 18) (by kernel_rfl) rfl ?_ (fun hx K' hK' => ?_) (fun a_7 hE_7 => ?_); rotate_left 1
  ·have hx0 := hx; (try simp only [beq_iff_eq, Bool.and_eq_true, Bool.beq_true, Bool.beq_false, Bool.not_eq_true', beq_eq_false_iff_ne] at hx); have r20 := hE_6.at 20 rfl; (try simp only [hx0, may_true] at r20); clear hx0
   refine op1 r20 fun ρ qc qf qg q20 => ?_; go_simp; (try go_bits); (try simp (disch := omega) only [IntWalk.i64_in]);
   refine put_eq hK' ?_; rfl
  clear hE_6
  refine Lp fun K' hK' => ?_
  have r18 := hE_7.at 18 rfl; have r21 := hE_7.at 21 rfl
  refine op2 r18 r21 fun ρ qc qf qg q18 q21 => ?_; go_simp; (try go_bits); (try clear qc qf qg r18 q18 r21 q21)
  (try clear r18 r21)
  refine Ln hE_7 hK' fun a_8 hE_8 => ?_; clear hK' K' hE_7
  replace hE_8 := hE_8.turn 22 (v' := .bool (!(n1 && n2))) rfl (by (cases n1 <;> simp))
  refine late_done [1, 2, 3, 22] hE_8 hK (fun a hE => ?_); clear hK K Q' hE_8; simp only [lk, pick, Nat.reduceEqDiff, ↓reduceIte] at hE
  (repeat with_reducible first|refine ctl ?_|refine miss ?_)
  refine cond_part hE (t := 22) rfl (fun h => ?_) (fun h => ?_)
  ·(repeat with_reducible first|refine ctl ?_|refine miss ?_)
   refine Rs 2 fun Q' K hK => ?_
   refine Lp fun K' hK' => ?_
   refine op0 fun ρ qc qf qg => ?_; go_simp; (try clear qc qf qg)
   refine Ln hE hK' fun a_1 hE_1 => ?_; clear hK' K' hE a
   refine Lp fun K' hK' => ?_
   refine op0 fun ρ qc qf qg => ?_; go_simp; (try clear qc qf qg)
   refine Ln hE_1 hK' fun a_2 hE_2 => ?_; clear hK' K' hE_1
   refine late_done [6, 7] hE_2 hK (fun a hE => ?_); clear hK K Q' hE_2; simp only [lk, pick, Nat.reduceEqDiff, ↓reduceIte] at hE
   (repeat with_reducible first|refine ctl ?_|refine miss ?_)
   refine ret_two hE rfl rfl rfl ⟨?_, hb2⟩
   have hn : (n1 && n2) = false := by revert h; cases n1 <;> cases n2 <;> decide
   unfold pNearR
   rw [HQ.out, hq1, HN1.out, HN2.out, hn]; rfl
  ·have hn : (n1 && n2) = true := by revert h; cases n1 <;> cases n2 <;> decide
   clear h
   have hC2 := hCB.below h2
   have n2' := hC2.1
   have d0 := hC2.2 0 _ rfl
   have d1 := hC2.2 1 _ rfl
   have d2 := hC2.2 2 _ rfl
   clear hC2 nB cB0 cB1 cB2
   have hA2 := (hA1.below h2).more h2.size
   obtain ⟨r, hr⟩ : ∃ r, apR l sl (keptL m s.data.toList) (keptL m t.data.toList) = r := ⟨_, rfl⟩
   have hr0 : r.2 = true → 0 ≤ r.1 := fun h => by
    rw [← hr] at h ⊢
    unfold apR at h ⊢
    split at h
    ·rename_i hc; rw [if_pos hc]; simp
    ·cases h
   have hap := rapart_any A cap l m sl s t w2 hA2 hl HZ.out hm hs ht
   unfold rapR at hap
   rw [hr] at hap
   have HR := hid hr
   have HAP := hid hap
   clear hap hr
   (repeat with_reducible first|refine ctl ?_|refine miss ?_)
   refine Rs 5 fun Q' K hK => ?_
   refine Lp fun K' hK' => ?_
   have r3 := hE.at 3 rfl; refine op1 r3 fun ρ qc qf qg q3 => ?_; go_simp; (try clear qc qf qg r3 q3)
   refine Ln hE hK' fun a_1 hE_1 => ?_; clear hK' K' hE a
   refine Lp fun K' hK' => ?_
   have r1 := hE_1.at 1 rfl; refine op1 r1 fun ρ qc qf qg q1 => ?_; go_simp; (try clear qc qf qg r1 q1)
   refine Ln hE_1 hK' fun a_2 hE_2 => ?_; clear hK' K' hE_1
   refine Lp fun K' hK' => ?_
   have r2 := hE_2.at 2 rfl; refine op1 r2 fun ρ qc qf qg q2 => ?_; go_simp; (try clear qc qf qg r2 q2)
   refine Ln hE_2 hK' fun a_3 hE_3 => ?_; clear hK' K' hE_2
   refine Lp fun K' hK' => ?_
   have r23 := hE_3.at 23 rfl; have r24 := hE_3.at 24 rfl; have r25 := hE_3.at 25 rfl
   refine op3 r23 r24 r25 fun ρ qc qf qg q23 q24 q25 => ?_; go_simp; (try go_bits); (try clear qc qf qg r23 q23 r24 q24 r25 q25)
   go_at_call 49; refine (HAP.out).mono ?_; rintro e w3 ⟨rfl, h3⟩
   (try clear r23 r24 r25)
   refine Ln hE_3 hK' fun a_4 hE_4 => ?_; clear hK' K' hE_3
   refine Lp fun K' hK' => ?_
   have r26 := hE_4.at 26 rfl; refine op1 r26 fun ρ qc qf qg q26 => ?_; go_simp; (try clear qc qf qg r26 q26)
   refine Ln hE_4 hK' fun a_5 hE_5 => ?_; clear hK' K' hE_4
   refine late_done [9] hE_5 hK (fun a hE => ?_); clear hK K Q' hE_5; simp only [lk, pick, Nat.reduceEqDiff, ↓reduceIte] at hE
   have hb3 := hb2.trans (h3.mono hb2.size)
   have hR : pNearR ⟨l, m, sl⟩ s t = if r.2 then (r.1, 0) else (0, 4) := by
    unfold pNearR
    rw [HQ.out, hq1, HN1.out, HN2.out, hn]
    simp only [HR.out, if_true]
   have HRR := hid hR
   clear hR
   (repeat with_reducible first|refine ctl ?_|refine miss ?_)
   refine Rs 2 fun Q' K hK => ?_
   refine Lp fun K' hK' => ?_
   have r9 := hE.at 9 rfl; refine op1 r9 fun ρ qc qf qg q9 => ?_; go_simp; (try clear qc qf qg r9 q9)
   refine Ln hE hK' fun a_1 hE_1 => ?_; clear hK' K' hE a
   refine Lp fun K' hK' => ?_
   have r27 := hE_1.at 27 rfl; refine op1 r27 fun ρ qc qf qg q27 => ?_; go_simp; (try go_bits); (try clear qc qf qg r27 q27)
   refine Ln hE_1 hK' fun a_2 hE_2 => ?_; clear hK' K' hE_1
   refine late_done [9, 28] hE_2 hK (fun a hE => ?_); clear hK K Q' hE_2; simp only [lk, pick, Nat.reduceEqDiff, ↓reduceIte] at hE
   replace hE := hE.turn 28 (v' := .bool (!r.2)) rfl (by
    cases hr2 : r.2 with
    | false => simp
    | true => have := hr0 hr2; simp; omega)
   (repeat with_reducible first|refine ctl ?_|refine miss ?_)
   refine cond_part hE (t := 28) rfl (fun h => ?_) (fun h => ?_)
   ·have h2 : r.2 = false := by simpa using h
    (repeat with_reducible first|refine ctl ?_|refine miss ?_)
    refine Rs 2 fun Q' K hK => ?_
    refine Lp fun K' hK' => ?_
    refine op0 fun ρ qc qf qg => ?_; go_simp; (try clear qc qf qg)
    refine Ln hE hK' fun a_1 hE_1 => ?_; clear hK' K' hE a
    refine Lp fun K' hK' => ?_
    refine op0 fun ρ qc qf qg => ?_; go_simp; (try clear qc qf qg)
    refine Ln hE_1 hK' fun a_2 hE_2 => ?_; clear hK' K' hE_1
    refine late_done [6, 7] hE_2 hK (fun a hE => ?_); clear hK K Q' hE_2; simp only [lk, pick, Nat.reduceEqDiff, ↓reduceIte] at hE
    (repeat with_reducible first|refine ctl ?_|refine miss ?_)
    refine ret_two hE rfl rfl rfl ⟨?_, hb3⟩
    rw [HRR.out, h2]; rfl
   ·have h2 : r.2 = true := by simpa using h
    rw [h2] at hE
    (repeat with_reducible first|refine ctl ?_|refine miss ?_)
    refine Rs 3 fun Q' K hK => ?_
    refine Lp fun K' hK' => ?_
    have r9 := hE.at 9 rfl; refine op1 r9 fun ρ qc qf qg q9 => ?_; go_simp; (try clear qc qf qg r9 q9)
    refine Ln hE hK' fun a_1 hE_1 => ?_; clear hK' K' hE a
    refine Lp fun K' hK' => ?_
    have r29 := hE_1.at 29 rfl; refine op1 r29 fun ρ qc qf qg q29 => ?_; go_simp; (try clear qc qf qg r29 q29)
    refine Ln hE_1 hK' fun a_2 hE_2 => ?_; clear hK' K' hE_1
    refine Lp fun K' hK' => ?_
    refine op0 fun ρ qc qf qg => ?_; go_simp; (try clear qc qf qg)
    refine Ln hE_2 hK' fun a_3 hE_3 => ?_; clear hK' K' hE_2
    refine late_done [6, 7] hE_3 hK (fun a hE => ?_); clear hK K Q' hE_3; simp only [lk, pick, Nat.reduceEqDiff, ↓reduceIte] at hE
    (repeat with_reducible first|refine ctl ?_|refine miss ?_)
    refine ret_two hE rfl rfl rfl ⟨?_, hb3⟩
    rw [HRR.out, h2]; rfl
end Go.Proofs.Ytbimkcjdodgojaa
