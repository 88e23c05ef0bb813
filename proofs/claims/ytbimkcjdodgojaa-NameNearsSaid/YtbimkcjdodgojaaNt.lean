/- Name: the reference's letters. -/
import Derived.Test.YtbimkcjdodgojaaNp
namespace Go.Proofs.Ytbimkcjdodgojaa
set_option linter.unusedSimpArgs false
set_option linter.unusedVariables false
open Go.RowKit
attribute [local go_sem high] cell_set_wr
attribute [local go_sem low] cell_wr frozen_wr
attribute [local go_sem] wr_set wr_drew wr_drewN wr_alloc wr_new

def anyTo (l : List ByteArray) (ca cb : UInt8) (k : Nat) : Bool := (ca == cb) || (l.take k).any fun g => standsB g ca && standsB g cb
theorem anyTo_succ (l : List ByteArray) (ca cb : UInt8) (k : Nat) (h : k < l.length) : anyTo l ca cb (k + 1) = (anyTo l ca cb k || (standsB l[k] ca && standsB l[k] cb)) := by
 unfold anyTo
 rw [List.take_succ_eq_append_getElem h, List.any_append, List.any_cons, List.any_nil, Bool.or_false, Bool.or_assoc]
theorem anyTo_all (l : List ByteArray) (ca cb : UInt8) : anyTo l ca cb l.length = alikeB l ca cb := by
 unfold anyTo alikeB; rw [List.take_length]
set_option maxRecDepth 100000 in
set_option maxHeartbeats 1000000 in
theorem ralike_any (A : Option Addr) (cap : Nat) (l : List ByteArray) (m : ByteArray) (sl : Int) (ca cb : UInt8) (w : World) (hA : Arr w w.heap.size A (txts l)) (hl : l.length ≤ 9223372036854775807) (hz : ∀ i (h : i < l.length), l[i].size ≤ 9223372036854775807) : Calls Try.prog 86 #[.agg #[.slice A l.length cap, .string m, .int .i64 sl], .int .u8 ca.toNat, .int .u8 cb.toNat] w fun e w' => e = .returned (.bool (alikeB l ca cb)) ∧ Below w.heap.size w w' := by
 have HZ := hid hz
 clear hz
 refine enterE Try.func86 rfl Try.ntmps86 (by simp) (fun a hE => ?_); simp only [envOf, Nat.zero_add, Nat.reduceAdd] at hE
 (repeat with_reducible first|refine ctl ?_|refine miss ?_)
 refine Rs 2 fun Q' K hK => ?_
 refine Lp fun K' hK' => ?_
 have r0 := hE.at 0 rfl; refine op1 r0 fun ρ qc qf qg q0 => ?_; go_simp; (try clear qc qf qg r0 q0)
 refine Ln hE hK' fun a_1 hE_1 => ?_; clear hK' K' hE a
 refine Lp fun K' hK' => ?_
 refine op0 fun ρ qc qf qg => ?_; go_simp; (try clear qc qf qg)
 refine Ln hE_1 hK' fun a_2 hE_2 => ?_; clear hK' K' hE_1
 refine late_done [1, 2, 3] hE_2 hK (fun a hE => ?_); clear hK K Q' hE_2; simp only [lk, pick, Nat.reduceEqDiff, ↓reduceIte] at hE
 obtain ⟨B, hBe⟩ : ∃ B, B = w.heap.size := ⟨_, rfl⟩; rw [← hBe] at hE; refine world_cut (fun wt => Below w.heap.size w wt ∧ Cells wt B [.slice A l.length cap, .string m, .int .i64 sl]) ⟨(Below.refl _ _).alloc (Nat.le_refl _) _, by rw [hBe]; exact cells_new _ _ _⟩ (fun w1 hCut => ?_); obtain ⟨hbw1, hCB⟩ := hCut; clear hBe
 (repeat with_reducible first|refine ctl ?_|refine miss ?_)
 refine Rs 4 fun Q' K hK => ?_
 refine Lp fun K' hK' => ?_
 have r1 := hE.at 1 rfl; refine op1 r1 fun ρ qc qf qg q1 => ?_; go_simp; (try clear qc qf qg r1 q1)
 refine Ln hE hK' fun a_1 hE_1 => ?_; clear hK' K' hE a
 refine Lp fun K' hK' => ?_
 have r2 := hE_1.at 2 rfl; refine op1 r2 fun ρ qc qf qg q2 => ?_; go_simp; (try clear qc qf qg r2 q2)
 refine Ln hE_1 hK' fun a_2 hE_2 => ?_; clear hK' K' hE_1
 refine Lp fun K' hK' => ?_
 have r9 := hE_2.at 9 rfl; have r10 := hE_2.at 10 rfl
 refine op2 r9 r10 fun ρ qc qf qg q9 q10 => ?_; go_simp; (try go_bits); (try clear qc qf qg r9 q9 r10 q10)
 (try clear r9 r10)
 refine Ln hE_2 hK' fun a_3 hE_3 => ?_; clear hK' K' hE_2
 refine Lp fun K' hK' => ?_
 have r11 := hE_3.at 11 rfl; refine op1 r11 fun ρ qc qf qg q11 => ?_; go_simp; (try clear qc qf qg r11 q11)
 refine Ln hE_3 hK' fun a_4 hE_4 => ?_; clear hK' K' hE_3
 refine late_done [1, 2, 3, 7] hE_4 hK (fun a hE => ?_); clear hK K Q' hE_4; simp only [lk, pick, Nat.reduceEqDiff, ↓reduceIte] at hE
 replace hE := hE.turn 7 (v' := .bool (anyTo l ca cb 0)) rfl (by
  unfold anyTo; congr 1; rw [List.take_zero, List.any_nil, Bool.or_false, Bool.eq_iff_iff]; simp [← UInt8.toNat_inj]; constructor <;> intro h <;> omega)
 (repeat with_reducible first|refine ctl ?_|refine miss ?_)
 refine Rs 1 fun Q' K hK => ?_
 refine Lp fun K' hK' => ?_
 refine op0 fun ρ qc qf qg => ?_; go_simp; (try clear qc qf qg)
 refine Ln hE hK' fun a_1 hE_1 => ?_; clear hK' K' hE a
 refine late_done [1, 2, 3, 7, 8] hE_1 hK (fun a hE => ?_); clear hK K Q' hE_1; simp only [lk, pick, Nat.reduceEqDiff, ↓reduceIte] at hE
 have nB := hCB.1; have cB0 := hCB.2 0 _ rfl
 have hA1 := (hA.below hbw1).more hbw1.size
 (repeat with_reducible first|refine ctl ?_|refine miss ?_)
 refine loop_st (fun (k : Nat) a w' => k ≤ l.length ∧ Fits 39 [(1, .int .u8 ca.toNat), (2, .int .u8 cb.toNat), (3, .pointer (some ⟨B, 0, none⟩)), (7, .bool (anyTo l ca cb k)), (8, .int .i64 k)] a ∧ w1 = w') (fun k => l.length - k) 0 ?_ (fun k a w' hI => ?_)
 ·exact ⟨Nat.zero_le _, by simpa using hE, rfl⟩
 clear hE
 obtain ⟨hk, hE, rfl⟩ := hI
 (repeat with_reducible first|refine ctl ?_|refine miss ?_)
 refine Rs 5 fun Q' K hK => ?_
 refine Lp fun K' hK' => ?_
 have r8 := hE.at 8 rfl; refine op1 r8 fun ρ qc qf qg q8 => ?_; go_simp; (try clear qc qf qg r8 q8)
 refine Ln hE hK' fun a_1 hE_1 => ?_; clear hK' K' hE a
 refine Lp fun K' hK' => ?_
 have r3 := hE_1.at 3 rfl; refine op1 r3 fun ρ qc qf qg q3 => ?_; go_simp; (try clear qc qf qg r3 q3)
 refine Ln hE_1 hK' fun a_2 hE_2 => ?_; clear hK' K' hE_1
 refine Lp fun K' hK' => ?_
 have r13 := hE_2.at 13 rfl; refine op1 r13 fun ρ qc qf qg q13 => ?_; go_simp; (try clear qc qf qg r13 q13)
 refine Ln hE_2 hK' fun a_3 hE_3 => ?_; clear hK' K' hE_2
 refine Lp fun K' hK' => ?_
 have r14 := hE_3.at 14 rfl; refine op1 r14 fun ρ qc qf qg q14 => ?_; go_simp; (try go_bits); (try clear qc qf qg r14 q14)
 refine Ln hE_3 hK' fun a_4 hE_4 => ?_; clear hK' K' hE_3
 refine Lp fun K' hK' => ?_
 have r12 := hE_4.at 12 rfl; have r15 := hE_4.at 15 rfl
 refine op2 r12 r15 fun ρ qc qf qg q12 q15 => ?_; go_simp; (try go_bits); (try clear qc qf qg r12 q12 r15 q15)
 (try clear r12 r15)
 refine Ln hE_4 hK' fun a_5 hE_5 => ?_; clear hK' K' hE_4
 refine late_done [1, 2, 3, 7, 8, 16] hE_5 hK (fun a hE => ?_); clear hK K Q' hE_5; simp only [lk, pick, Nat.reduceEqDiff, ↓reduceIte] at hE
 (repeat with_reducible first|refine ctl ?_|refine miss ?_)
 refine cond_part hE (t := 16) rfl (fun h => ?_) (fun h => ?_)
 ·have hlt : k < l.length := of_decide_eq_true h
  clear h
  have hltI : (k : Int) < l.length := by omega
  obtain ⟨bg, o, rfl, hb, hc⟩ := hA1.txt hlt
  have hg1 := HZ.out k hlt
  have hs := anyTo_succ l ca cb k hlt
  obtain ⟨g, hg⟩ : ∃ g, l[k] = g := ⟨_, rfl⟩
  rw [hg] at hc hg1 hs
  obtain ⟨f, hf⟩ : ∃ f, anyTo l ca cb k = f := ⟨_, rfl⟩
  rw [hf] at hE hs
  have HS := hid hs
  clear hg hf hs
  obtain ⟨p, hp⟩ : ∃ p, standsB g ca = p := ⟨_, rfl⟩
  have HP := hid hp
  clear hp
  (repeat with_reducible first|refine ctl ?_|refine miss ?_)
  refine Rs 20 fun Q' K hK => ?_
  refine Lp fun K' hK' => ?_
  have r7 := hE.at 7 rfl; refine op1 r7 fun ρ qc qf qg q7 => ?_; go_simp; (try clear qc qf qg r7 q7)
  refine Ln hE hK' fun a_1 hE_1 => ?_; clear hK' K' hE a
  refine Lp fun K' hK' => ?_
  have r19 := hE_1.at 19 rfl; refine op1 r19 fun ρ qc qf qg q19 => ?_; go_simp; (try clear qc qf qg r19 q19)
  refine Ln hE_1 hK' fun a_2 hE_2 => ?_; clear hK' K' hE_1
  refine Late.may hE_2 (d' := 21) (by decide) (by (first | (simp only [List.getElem?_toArray, List.getElem?_cons_succ, List.getElem?_cons_zero]; rfl) | rfl)) rfl rfl (d := 20) (by kernel_rfl) rfl ?_ (fun hx K' hK' => ?_) (fun a_3 hE_3 => ?_); rotate_left 1
  ·have hx0 := hx; (try simp only [beq_iff_eq, Bool.and_eq_true, Bool.beq_true, Bool.beq_false, Bool.not_eq_true', beq_eq_false_iff_ne] at hx); have r3 := hE_2.at 3 rfl; clear hx0
   refine op1 r3 fun ρ qc qf qg q3 => ?_; go_simp;
   refine put_eq hK' ?_; rfl
  clear hE_2
  refine Late.may hE_3 (d' := 22) (by decide) (by (first | (simp only [List.getElem?_toArray, List.getElem?_cons_succ, List.getElem?_cons_zero]; rfl) | rfl)) rfl rfl (d := 20) (by kernel_rfl) rfl ?_ (fun hx K' hK' => ?_) (fun a_4 hE_4 => ?_); rotate_left 1
  ·have hx0 := hx; (try simp only [beq_iff_eq, Bool.and_eq_true, Bool.beq_true, Bool.beq_false, Bool.not_eq_true', beq_eq_false_iff_ne] at hx); have r21 := hE_3.at 21 rfl; (try simp only [hx0, may_true] at r21); clear hx0
   refine op1 r21 fun ρ qc qf qg q21 => ?_; go_simp;
   refine put_eq hK' ?_; rfl
  clear hE_3
  refine Late.may hE_4 (d' := 23) (by decide) (by (first | (simp only [List.getElem?_toArray, List.getElem?_cons_succ, List.getElem?_cons_zero]; rfl) | rfl)) rfl rfl (d := 20) (by kernel_rfl) rfl ?_ (fun hx K' hK' => ?_) (fun a_5 hE_5 => ?_); rotate_left 1
  ·have hx0 := hx; (try simp only [beq_iff_eq, Bool.and_eq_true, Bool.beq_true, Bool.beq_false, Bool.not_eq_true', beq_eq_false_iff_ne] at hx); have r8 := hE_4.at 8 rfl; clear hx0
   refine op1 r8 fun ρ qc qf qg q8 => ?_; go_simp;
   refine put_eq hK' ?_; rfl
  clear hE_4
  refine Late.may hE_5 (d' := 24) (by decide) (by (first | (simp only [List.getElem?_toArray, List.getElem?_cons_succ, List.getElem?_cons_zero]; rfl) | rfl)) rfl rfl (d := 20) (by kernel_rfl) rfl ?_ (fun hx K' hK' => ?_) (fun a_6 hE_6 => ?_); rotate_left 1
  ·have hx0 := hx; (try simp only [beq_iff_eq, Bool.and_eq_true, Bool.beq_true, Bool.beq_false, Bool.not_eq_true', beq_eq_false_iff_ne] at hx); have r22 := hE_5.at 22 rfl; have r23 := hE_5.at 23 rfl; (try simp only [hx0, may_true] at r22); (try simp only [hx0, may_true] at r23); clear hx0
   refine op2 r22 r23 fun ρ qc qf qg q22 q23 => ?_; go_simp; (try go_bits);
   refine put_eq hK' ?_; rfl
  clear hE_5
  refine Late.may hE_6 (d' := 25) (by decide) (by (first | (simp only [List.getElem?_toArray, List.getElem?_cons_succ, List.getElem?_cons_zero]; rfl) | rfl)) rfl rfl (d := 20) (by kernel_rfl) rfl ?_ (fun hx K' hK' => ?_) (fun a_7 hE_7 => ?_); rotate_left 1
  ·have hx0 := hx; (try simp only [beq_iff_eq, Bool.and_eq_true, Bool.beq_true, Bool.beq_false, Bool.not_eq_true', beq_eq_false_iff_ne] at hx); have r24 := hE_6.at 24 rfl; (try simp only [hx0, may_true] at r24); clear hx0
   refine op1 r24 fun ρ qc qf qg q24 => ?_; go_simp;
   refine put_eq hK' ?_; rfl
  clear hE_6
  refine Late.may hE_7 (d' := 26) (by decide) (by (first | (simp only [List.getElem?_toArray, List.getElem?_cons_succ, List.getElem?_cons_zero]; rfl) | rfl)) rfl rfl (d := 20) (by kernel_rfl) rfl ?_ (fun hx K' hK' => ?_) (fun a_8 hE_8 => ?_); rotate_left 1
  ·have hx0 := hx; (try simp only [beq_iff_eq, Bool.and_eq_true, Bool.beq_true, Bool.beq_false, Bool.not_eq_true', beq_eq_false_iff_ne] at hx); have r1 := hE_7.at 1 rfl; clear hx0
   refine op1 r1 fun ρ qc qf qg q1 => ?_; go_simp;
   refine put_eq hK' ?_; rfl
  clear hE_7
  refine Late.may hE_8 (d' := 27) (by decide) (by (first | (simp only [List.getElem?_toArray, List.getElem?_cons_succ, List.getElem?_cons_zero]; rfl) | rfl)) rfl rfl (d := 20) (by kernel_rfl) rfl ?_ (fun hx K' hK' => ?_) (fun a_9 hE_9 => ?_); rotate_left 1
  ·have hx0 := hx; (try simp only [beq_iff_eq, Bool.and_eq_true, Bool.beq_true, Bool.beq_false, Bool.not_eq_true', beq_eq_false_iff_ne] at hx); have r25 := hE_8.at 25 rfl; have r26 := hE_8.at 26 rfl; (try simp only [hx0, may_true] at r25); (try simp only [hx0, may_true] at r26); clear hx0
   refine op2 r25 r26 fun ρ qc qf qg q25 q26 => ?_; go_simp; (try go_bits);
   go_at_call 101; refine (rstands_any g ca _ hg1).mono ?_; rw [HP.out]; rintro e w2 ⟨rfl, rfl⟩; refine put_eq hK' ?_; rfl
  clear hE_8
  refine Late.may hE_9 (d' := 28) (by decide) (by (first | (simp only [List.getElem?_toArray, List.getElem?_cons_succ, List.getElem?_cons_zero]; rfl) | rfl)) rfl rfl (d := 20) (by kernel_rfl) rfl ?_ (fun hx K' hK' => ?_) (fun a_10 hE_10 => ?_); rotate_left 1
  ·have hx0 := hx; (try simp only [beq_iff_eq, Bool.and_eq_true, Bool.beq_true, Bool.beq_false, Bool.not_eq_true', beq_eq_false_iff_ne] at hx); have r27 := hE_9.at 27 rfl; (try simp only [hx0, may_true] at r27); clear hx0
   refine op1 r27 fun ρ qc qf qg q27 => ?_; go_simp;
   refine put_eq hK' ?_; rfl
  clear hE_9
  refine Late.mayy hE_10 (d' := 29) (by decide) (by (first | (simp only [List.getElem?_toArray, List.getElem?_cons_succ, List.getElem?_cons_zero]; rfl) | rfl)) rfl rfl (d := 28) (by kernel_rfl) rfl ?_ (fun hx K' hK' => ?_) (fun a_11 hE_11 => ?_); rotate_left 1
  ·have hx0 := hx; have hxa := and_l hx; have hxb := and_r hx; (try simp only [beq_iff_eq, Bool.and_eq_true, Bool.beq_true, Bool.beq_false, Bool.not_eq_true', beq_eq_false_iff_ne] at hx); have r3 := hE_10.at 3 rfl; clear hx0 hxa hxb
   refine op1 r3 fun ρ qc qf qg q3 => ?_; go_simp;
   refine put_eq hK' ?_; rfl
  clear hE_10
  refine Late.mayy hE_11 (d' := 30) (by decide) (by (first | (simp only [List.getElem?_toArray, List.getElem?_cons_succ, List.getElem?_cons_zero]; rfl) | rfl)) rfl rfl (d := 28) (by kernel_rfl) rfl ?_ (fun hx K' hK' => ?_) (fun a_12 hE_12 => ?_); rotate_left 1
  ·have hx0 := hx; have hxa := and_l hx; have hxb := and_r hx; (try simp only [beq_iff_eq, Bool.and_eq_true, Bool.beq_true, Bool.beq_false, Bool.not_eq_true', beq_eq_false_iff_ne] at hx); have r29 := hE_11.at 29 rfl; (try simp only [hx0, hxa, hxb, may_true] at r29); clear hx0 hxa hxb
   refine op1 r29 fun ρ qc qf qg q29 => ?_; go_simp;
   refine put_eq hK' ?_; rfl
  clear hE_11
  refine Late.mayy hE_12 (d' := 31) (by decide) (by (first | (simp only [List.getElem?_toArray, List.getElem?_cons_succ, List.getElem?_cons_zero]; rfl) | rfl)) rfl rfl (d := 28) (by kernel_rfl) rfl ?_ (fun hx K' hK' => ?_) (fun a_13 hE_13 => ?_); rotate_left 1
  ·have hx0 := hx; have hxa := and_l hx; have hxb := and_r hx; (try simp only [beq_iff_eq, Bool.and_eq_true, Bool.beq_true, Bool.beq_false, Bool.not_eq_true', beq_eq_false_iff_ne] at hx); have r8 := hE_12.at 8 rfl; clear hx0 hxa hxb
   refine op1 r8 fun ρ qc qf qg q8 => ?_; go_simp;
   refine put_eq hK' ?_; rfl
  clear hE_12
  refine Late.mayy hE_13 (d' := 32) (by decide) (by (first | (simp only [List.getElem?_toArray, List.getElem?_cons_succ, List.getElem?_cons_zero]; rfl) | rfl)) rfl rfl (d := 28) (by kernel_rfl) rfl ?_ (fun hx K' hK' => ?_) (fun a_14 hE_14 => ?_); rotate_left 1
  ·have hx0 := hx; have hxa := and_l hx; have hxb := and_r hx; (try simp only [beq_iff_eq, Bool.and_eq_true, Bool.beq_true, Bool.beq_false, Bool.not_eq_true', beq_eq_false_iff_ne] at hx); have r30 := hE_13.at 30 rfl; have r31 := hE_13.at 31 rfl; (try simp only [hx0, hxa, hxb, may_true] at r30); (try simp only [hx0, hxa, hxb, may_true] at r31); clear hx0 hxa hxb
   refine op2 r30 r31 fun ρ qc qf qg q30 q31 => ?_; go_simp; (try go_bits);
   refine put_eq hK' ?_; rfl
  clear hE_13
  refine Late.mayy hE_14 (d' := 33) (by decide) (by (first | (simp only [List.getElem?_toArray, List.getElem?_cons_succ, List.getElem?_cons_zero]; rfl) | rfl)) rfl rfl (d := 28) (by kernel_rfl) rfl ?_ (fun hx K' hK' => ?_) (fun a_15 hE_15 => ?_); rotate_left 1
  ·have hx0 := hx; have hxa := and_l hx; have hxb := and_r hx; (try simp only [beq_iff_eq, Bool.and_eq_true, Bool.beq_true, Bool.beq_false, Bool.not_eq_true', beq_eq_false_iff_ne] at hx); have r32 := hE_14.at 32 rfl; (try simp only [hx0, hxa, hxb, may_true] at r32); clear hx0 hxa hxb
   refine op1 r32 fun ρ qc qf qg q32 => ?_; go_simp;
   refine put_eq hK' ?_; rfl
  clear hE_14
  refine Late.mayy hE_15 (d' := 34) (by decide) (by (first | (simp only [List.getElem?_toArray, List.getElem?_cons_succ, List.getElem?_cons_zero]; rfl) | rfl)) rfl rfl (d := 28) (by kernel_rfl) rfl ?_ (fun hx K' hK' => ?_) (fun a_16 hE_16 => ?_); rotate_left 1
  ·have hx0 := hx; have hxa := and_l hx; have hxb := and_r hx; (try simp only [beq_iff_eq, Bool.and_eq_true, Bool.beq_true, Bool.beq_false, Bool.not_eq_true', beq_eq_false_iff_ne] at hx); have r2 := hE_15.at 2 rfl; clear hx0 hxa hxb
   refine op1 r2 fun ρ qc qf qg q2 => ?_; go_simp;
   refine put_eq hK' ?_; rfl
  clear hE_15
  refine Late.mayy hE_16 (d' := 35) (by decide) (by (first | (simp only [List.getElem?_toArray, List.getElem?_cons_succ, List.getElem?_cons_zero]; rfl) | rfl)) rfl rfl (d := 28) (by kernel_rfl) rfl ?_ (fun hx K' hK' => ?_) (fun a_17 hE_17 => ?_); rotate_left 1
  ·have hx0 := hx; have hxa := and_l hx; have hxb := and_r hx; (try simp only [beq_iff_eq, Bool.and_eq_true, Bool.beq_true, Bool.beq_false, Bool.not_eq_true', beq_eq_false_iff_ne] at hx); have r33 := hE_16.at 33 rfl; have r34 := hE_16.at 34 rfl; (try simp only [hx0, hxa, hxb, may_true] at r33); (try simp only [hx0, hxa, hxb, may_true] at r34); clear hx0 hxa hxb
   refine op2 r33 r34 fun ρ qc qf qg q33 q34 => ?_; go_simp; (try go_bits);
   go_at_call 101; refine (rstands_any g cb _ hg1).mono ?_; rintro e w2 ⟨rfl, rfl⟩; refine put_eq hK' ?_; rfl
  clear hE_16
  refine Late.may hE_17 (d' := 36) (by decide) (by (first | (simp only [List.getElem?_toArray, List.getElem?_cons_succ, List.getElem?_cons_zero]; rfl) | rfl)) rfl rfl (d := 20) (by kernel_rfl) rfl ?_ (fun hx K' hK' => ?_) (fun a_18 hE_18 => ?_); rotate_left 1
  ·have hx0 := hx; (try simp only [beq_iff_eq, Bool.and_eq_true, Bool.beq_true, Bool.beq_false, Bool.not_eq_true', beq_eq_false_iff_ne] at hx); have r28 := hE_17.at 28 rfl; have r35 := hE_17.at 35 rfl; (try simp only [hx0, may_true] at r28); (try simp only [hx0, may_true] at r35); clear hx0
   refine op2 r28 r35 fun ρ qc qf qg q28 q35 => ?_; go_simp; (try go_bits);
   refine put_eq hK' ?_; rfl
  clear hE_17
  refine Lp fun K' hK' => ?_
  have r20 := hE_18.at 20 rfl; have r36 := hE_18.at 36 rfl
  refine op2 r20 r36 fun ρ qc qf qg q20 q36 => ?_; go_simp; (try go_bits); (try clear qc qf qg r20 q20 r36 q36)
  (try clear r20 r36)
  refine Ln hE_18 hK' fun a_19 hE_19 => ?_; clear hK' K' hE_18
  replace hE_19 := hE_19.turn 37 (v' := .bool (f || (p && standsB g cb))) rfl (by (cases f <;> cases p <;> simp))
  refine Lp fun K' hK' => ?_
  have r37 := hE_19.at 37 rfl; refine op1 r37 fun ρ qc qf qg q37 => ?_; go_simp; (try clear qc qf qg r37 q37)
  refine Ln hE_19 hK' fun a_20 hE_20 => ?_; clear hK' K' hE_19
  refine late_done [1, 2, 3, 7, 8] hE_20 hK (fun a hE => ?_); clear hK K Q' hE_20; simp only [lk, pick, Nat.reduceEqDiff, ↓reduceIte] at hE
  (repeat with_reducible first|refine ctl ?_|refine miss ?_)
  refine Rs 3 fun Q' K hK => ?_
  refine Lp fun K' hK' => ?_
  have r8 := hE.at 8 rfl; refine op1 r8 fun ρ qc qf qg q8 => ?_; go_simp; (try clear qc qf qg r8 q8)
  refine Ln hE hK' fun a_1 hE_1 => ?_; clear hK' K' hE a
  refine Lp fun K' hK' => ?_
  have r17 := hE_1.at 17 rfl; refine op1 r17 fun ρ qc qf qg q17 => ?_; go_simp; (try go_bits); (try simp (disch := omega) only [IntWalk.i64_in]); (try clear qc qf qg r17 q17)
  refine Ln hE_1 hK' fun a_2 hE_2 => ?_; clear hK' K' hE_1
  refine Lp fun K' hK' => ?_
  have r18 := hE_2.at 18 rfl; refine op1 r18 fun ρ qc qf qg q18 => ?_; go_simp; (try clear qc qf qg r18 q18)
  refine Ln hE_2 hK' fun a_3 hE_3 => ?_; clear hK' K' hE_2
  refine late_done [1, 2, 3, 7, 8] hE_3 hK (fun a hE => ?_); clear hK K Q' hE_3; simp only [lk, pick, Nat.reduceEqDiff, ↓reduceIte] at hE
  (repeat with_reducible first|refine ctl ?_|refine miss ?_)
  refine ⟨k + 1, ⟨hlt, ?_, rfl⟩, by omega⟩
  rw [HS.out, HP.out]
  simpa using hE
 ·have hkk : k = l.length := by have := of_decide_eq_false h; omega
  clear h
  rw [hkk, anyTo_all] at hE
  (repeat with_reducible first|refine ctl ?_|refine miss ?_)
  refine Rs 2 fun Q' K hK => ?_
  refine Lp fun K' hK' => ?_
  have r7 := hE.at 7 rfl; refine op1 r7 fun ρ qc qf qg q7 => ?_; go_simp; (try clear qc qf qg r7 q7)
  refine Ln hE hK' fun a_1 hE_1 => ?_; clear hK' K' hE a
  refine Lp fun K' hK' => ?_
  have r38 := hE_1.at 38 rfl; refine op1 r38 fun ρ qc qf qg q38 => ?_; go_simp; (try clear qc qf qg r38 q38)
  refine Ln hE_1 hK' fun a_2 hE_2 => ?_; clear hK' K' hE_1
  refine late_done [6] hE_2 hK (fun a hE => ?_); clear hK K Q' hE_2; simp only [lk, pick, Nat.reduceEqDiff, ↓reduceIte] at hE
  (repeat with_reducible first|refine ctl ?_|refine miss ?_)
  exact ret_one hE rfl rfl ⟨rfl, hbw1⟩

def okTo (l : List UInt8) (k : Nat) : Bool := (decide (1 ≤ l.length) && decide (l.length ≤ 12)) && (List.range k).all (nameAt l)
theorem okTo_succ (l : List UInt8) (k : Nat) : okTo l (k + 1) = (okTo l k && nameAt l k) := by
 unfold okTo
 rw [List.range_succ, List.all_append, List.all_cons, List.all_nil, Bool.and_true]
 simp only [Bool.and_assoc]
theorem okTo_false (l : List UInt8) {k : Nat} (h : okTo l k = false) (hk : k ≤ l.length ∨ l.length = 0) : nameB l = false := by
 unfold okTo at h
 unfold nameB
 cases hq : (decide (1 ≤ l.length) && decide (l.length ≤ 12)) with
 | false => rfl
 | true =>
  rw [hq, Bool.true_and] at h
  rw [Bool.true_and]
  rcases hk with hk | hk
  ·rw [List.all_eq_false] at h ⊢
   obtain ⟨i, hi, h⟩ := h
   exact ⟨i, List.mem_range.2 (by have := List.mem_range.1 hi; omega), h⟩
  ·rw [hk] at hq; simp at hq
set_option maxRecDepth 100000 in
set_option maxHeartbeats 1000000 in
theorem rNames_any (s : ByteArray) (w : World) (hs : s.size ≤ 9223372036854775807) : Calls Try.prog 27 #[.string s] w fun e w' => e = .returned (.bool (nameB s.data.toList)) ∧ w = w' := by
 have hlen : s.data.toList.length = s.size := by simp
 obtain ⟨q, hq⟩ : ∃ q, (decide ((1 : Int) ≤ s.size) && decide ((s.size : Int) ≤ 12)) = q := ⟨_, rfl⟩
 have hqn : (decide (1 ≤ s.data.toList.length) && decide (s.data.toList.length ≤ 12)) = q := by
  rw [← hq, hlen]
  congr 1
  ·exact decide_eq_decide.2 (by omega)
  ·exact decide_eq_decide.2 (by omega)
 have hpos : q = true → 0 < s.size := fun h => by
  rw [h] at hq
  simp only [Bool.and_eq_true, decide_eq_true_eq] at hq
  omega
 have HQ := hid hq
 have HN := hid hqn
 have HL := hid hlen
 have HP := hid hpos
 clear hq hqn hlen hpos
 refine enterE Try.func27 rfl Try.ntmps27 (by simp) (fun a hE => ?_); simp only [envOf, Nat.zero_add, Nat.reduceAdd] at hE
 (repeat with_reducible first|refine ctl ?_|refine miss ?_)
 refine Rs 1 fun Q' K hK => ?_
 refine Lp fun K' hK' => ?_
 refine op0 fun ρ qc qf qg => ?_; go_simp; (try clear qc qf qg)
 refine Ln hE hK' fun a_1 hE_1 => ?_; clear hK' K' hE a
 refine late_done [0] hE_1 hK (fun a hE => ?_); clear hK K Q' hE_1; simp only [lk, pick, Nat.reduceEqDiff, ↓reduceIte] at hE
 (repeat with_reducible first|refine ctl ?_|refine miss ?_)
 obtain ⟨f0, hf0⟩ : ∃ f, okTo s.data.toList 1 = f := ⟨_, rfl⟩
 have hf1 : f0 = (q && letterB (s.data.toList.getD 0 0)) := by
  rw [← hf0, okTo_succ]
  unfold okTo nameAt
  rw [HN.out]
  simp
 have HF := hid hf0
 have HF1 := hid hf1
 clear hf0 hf1
 cases hqv : q
 ·have HV := hid hqv
  clear hqv
  refine Rs 9 fun Q' K hK => ?_
  refine Lp fun K' hK' => ?_
  have r0 := hE.at 0 rfl; refine op1 r0 fun ρ qc qf qg q0 => ?_; go_simp; (try clear qc qf qg r0 q0)
  refine Ln hE hK' fun a_1 hE_1 => ?_; clear hK' K' hE a
  refine Lp fun K' hK' => ?_
  have r5 := hE_1.at 5 rfl; refine op1 r5 fun ρ qc qf qg q5 => ?_; go_simp; (try go_bits); (try clear qc qf qg r5 q5)
  refine Ln hE_1 hK' fun a_2 hE_2 => ?_; clear hK' K' hE_1
  refine Lp fun K' hK' => ?_
  have r6 := hE_2.at 6 rfl; refine op1 r6 fun ρ qc qf qg q6 => ?_; go_simp; (try go_bits); (try clear qc qf qg r6 q6)
  go_at_call 25; refine (between_any _ _ _ _).mono ?_; rw [HQ.out, HV.out]; rintro e w1 ⟨rfl, rfl⟩
  (try clear r6)
  refine Ln hE_2 hK' fun a_3 hE_3 => ?_; clear hK' K' hE_2
  refine Lp fun K' hK' => ?_
  have r7 := hE_3.at 7 rfl; refine op1 r7 fun ρ qc qf qg q7 => ?_; go_simp; (try clear qc qf qg r7 q7)
  refine Ln hE_3 hK' fun a_4 hE_4 => ?_; clear hK' K' hE_3
  refine Lno hE_4 8 ?_
  refine Lu hE_4 fun a_5 hE_5 => ?_
  refine Lno hE_5 8 ?_
  refine Lu hE_5 fun a_6 hE_6 => ?_
  refine Lno hE_6 8 ?_
  refine Lu hE_6 fun a_7 hE_7 => ?_
  refine Lp fun K' hK' => ?_
  have r8 := hE_7.at 8 rfl; have r11 := hE_7.at 11 rfl
  refine op2 r8 r11 fun ρ qc qf qg q8 q11 => ?_; go_simp; (try go_bits); (try clear qc qf qg r8 q8 r11 q11)
  (try clear r8 r11)
  refine Ln hE_7 hK' fun a_8 hE_8 => ?_; clear hK' K' hE_7
  refine Lp fun K' hK' => ?_
  have r12 := hE_8.at 12 rfl; refine op1 r12 fun ρ qc qf qg q12 => ?_; go_simp; (try clear qc qf qg r12 q12)
  refine Ln hE_8 hK' fun a_9 hE_9 => ?_; clear hK' K' hE_8
  refine late_done [0, 3] hE_9 hK (fun a hE => ?_); clear hK K Q' hE_9; simp only [lk, pick, Nat.reduceEqDiff, ↓reduceIte] at hE
  (repeat with_reducible first|refine ctl ?_|refine miss ?_)
  refine Rs 1 fun Q' K hK => ?_
  refine Lp fun K' hK' => ?_
  refine op0 fun ρ qc qf qg => ?_; go_simp; (try clear qc qf qg)
  refine Ln hE hK' fun a_1 hE_1 => ?_; clear hK' K' hE a
  refine late_done [0, 3, 4] hE_1 hK (fun a hE => ?_); clear hK K Q' hE_1; simp only [lk, pick, Nat.reduceEqDiff, ↓reduceIte] at hE
  (repeat with_reducible first|refine ctl ?_|refine miss ?_)
  have hnm : nameB s.data.toList = false := by unfold nameB; rw [HN.out, HV.out]; rfl
  have HM := hid hnm
  clear hnm
  refine loop_st (fun (_ : Unit) a w' => Fits 33 [(0, .string s), (3, .bool false), (4, .int .i64 1)] a ∧ w = w') (fun _ => 0) () ?_ (fun k a w' hI => ?_)
  ·exact ⟨by simpa using hE, rfl⟩
  clear hE
  obtain ⟨hE, rfl⟩ := hI
  (repeat with_reducible first|refine ctl ?_|refine miss ?_)
  refine Rs 7 fun Q' K hK => ?_
  refine Lp fun K' hK' => ?_
  have r3 := hE.at 3 rfl; refine op1 r3 fun ρ qc qf qg q3 => ?_; go_simp; (try clear qc qf qg r3 q3)
  refine Ln hE hK' fun a_1 hE_1 => ?_; clear hK' K' hE a
  refine Lp fun K' hK' => ?_
  have r13 := hE_1.at 13 rfl; refine op1 r13 fun ρ qc qf qg q13 => ?_; go_simp; (try clear qc qf qg r13 q13)
  refine Ln hE_1 hK' fun a_2 hE_2 => ?_; clear hK' K' hE_1
  refine Lno hE_2 14 ?_
  refine Lu hE_2 fun a_3 hE_3 => ?_
  refine Lno hE_3 14 ?_
  refine Lu hE_3 fun a_4 hE_4 => ?_
  refine Lno hE_4 14 ?_
  refine Lu hE_4 fun a_5 hE_5 => ?_
  refine Lno hE_5 14 ?_
  refine Lu hE_5 fun a_6 hE_6 => ?_
  refine Lp fun K' hK' => ?_
  have r14 := hE_6.at 14 rfl; have r18 := hE_6.at 18 rfl
  refine op2 r14 r18 fun ρ qc qf qg q14 q18 => ?_; go_simp; (try go_bits); (try clear qc qf qg r14 q14 r18 q18)
  (try clear r14 r18)
  refine Ln hE_6 hK' fun a_7 hE_7 => ?_; clear hK' K' hE_6
  refine late_done [0, 3, 4, 19] hE_7 hK (fun a hE => ?_); clear hK K Q' hE_7; simp only [lk, pick, Nat.reduceEqDiff, ↓reduceIte] at hE
  (repeat with_reducible first|refine ctl ?_|refine miss ?_)
  refine cond_no hE (t := 19) rfl ?_
  (repeat with_reducible first|refine ctl ?_|refine miss ?_)
  refine Rs 2 fun Q' K hK => ?_
  refine Lp fun K' hK' => ?_
  have r3 := hE.at 3 rfl; refine op1 r3 fun ρ qc qf qg q3 => ?_; go_simp; (try clear qc qf qg r3 q3)
  refine Ln hE hK' fun a_1 hE_1 => ?_; clear hK' K' hE a
  refine Lp fun K' hK' => ?_
  have r32 := hE_1.at 32 rfl; refine op1 r32 fun ρ qc qf qg q32 => ?_; go_simp; (try clear qc qf qg r32 q32)
  refine Ln hE_1 hK' fun a_2 hE_2 => ?_; clear hK' K' hE_1
  refine late_done [2] hE_2 hK (fun a hE => ?_); clear hK K Q' hE_2; simp only [lk, pick, Nat.reduceEqDiff, ↓reduceIte] at hE
  (repeat with_reducible first|refine ctl ?_|refine miss ?_)
  exact ret_one hE rfl rfl ⟨ret_bool HM.out.symm, rfl⟩
 ·have hp := HP.out hqv
  have HV := hid hqv
  clear hqv
  have hp0 : (0 : Int) < s.size := by omega
  have hb0 := byte_at s 0 hp
  have HB := hid hb0
  clear hb0
  refine Rs 9 fun Q' K hK => ?_
  refine Lp fun K' hK' => ?_
  have r0 := hE.at 0 rfl; refine op1 r0 fun ρ qc qf qg q0 => ?_; go_simp; (try clear qc qf qg r0 q0)
  refine Ln hE hK' fun a_1 hE_1 => ?_; clear hK' K' hE a
  refine Lp fun K' hK' => ?_
  have r5 := hE_1.at 5 rfl; refine op1 r5 fun ρ qc qf qg q5 => ?_; go_simp; (try go_bits); (try clear qc qf qg r5 q5)
  refine Ln hE_1 hK' fun a_2 hE_2 => ?_; clear hK' K' hE_1
  refine Lp fun K' hK' => ?_
  have r6 := hE_2.at 6 rfl; refine op1 r6 fun ρ qc qf qg q6 => ?_; go_simp; (try go_bits); (try clear qc qf qg r6 q6)
  go_at_call 25; refine (between_any _ _ _ _).mono ?_; rw [HQ.out, HV.out]; rintro e w1 ⟨rfl, rfl⟩
  (try clear r6)
  refine Ln hE_2 hK' fun a_3 hE_3 => ?_; clear hK' K' hE_2
  refine Lp fun K' hK' => ?_
  have r7 := hE_3.at 7 rfl; refine op1 r7 fun ρ qc qf qg q7 => ?_; go_simp; (try clear qc qf qg r7 q7)
  refine Ln hE_3 hK' fun a_4 hE_4 => ?_; clear hK' K' hE_3
  refine Ly hE_4 8 fun K' hK' => ?_
  have r0 := hE_4.at 0 rfl; refine op1 r0 fun ρ qc qf qg q0 => ?_; go_simp; (try clear qc qf qg r0 q0)
  refine Ln hE_4 hK' fun a_5 hE_5 => ?_; clear hK' K' hE_4
  refine Ly hE_5 8 fun K' hK' => ?_
  have r9 := hE_5.at 9 rfl; refine op1 r9 fun ρ qc qf qg q9 => ?_; go_simp; (try go_bits); (try clear qc qf qg r9 q9)
  refine Ln hE_5 hK' fun a_6 hE_6 => ?_; clear hK' K' hE_5
  refine Ly hE_6 8 fun K' hK' => ?_
  have r10 := hE_6.at 10 rfl; refine op1 r10 fun ρ qc qf qg q10 => ?_; go_simp; (try go_bits); (try clear qc qf qg r10 q10)
  go_at_call 71; refine (rletter_any s[0] _).mono ?_; rintro e w1 ⟨rfl, rfl⟩
  (try clear r10)
  refine Ln hE_6 hK' fun a_7 hE_7 => ?_; clear hK' K' hE_6
  refine Lp fun K' hK' => ?_
  have r8 := hE_7.at 8 rfl; have r11 := hE_7.at 11 rfl
  refine op2 r8 r11 fun ρ qc qf qg q8 q11 => ?_; go_simp; (try go_bits); (try clear qc qf qg r8 q8 r11 q11)
  (try clear r8 r11)
  refine Ln hE_7 hK' fun a_8 hE_8 => ?_; clear hK' K' hE_7
  refine Lp fun K' hK' => ?_
  have r12 := hE_8.at 12 rfl; refine op1 r12 fun ρ qc qf qg q12 => ?_; go_simp; (try clear qc qf qg r12 q12)
  refine Ln hE_8 hK' fun a_9 hE_9 => ?_; clear hK' K' hE_8
  refine late_done [0, 3] hE_9 hK (fun a hE => ?_); clear hK K Q' hE_9; simp only [lk, pick, Nat.reduceEqDiff, ↓reduceIte] at hE
  replace hE := hE.turn 3 (v' := .bool (okTo s.data.toList 1)) rfl (by rw [HF.out, HF1.out, HV.out, HB.out]; simp)
  (repeat with_reducible first|refine ctl ?_|refine miss ?_)
  refine Rs 1 fun Q' K hK => ?_
  refine Lp fun K' hK' => ?_
  refine op0 fun ρ qc qf qg => ?_; go_simp; (try clear qc qf qg)
  refine Ln hE hK' fun a_1 hE_1 => ?_; clear hK' K' hE a
  refine late_done [0, 3, 4] hE_1 hK (fun a hE => ?_); clear hK K Q' hE_1; simp only [lk, pick, Nat.reduceEqDiff, ↓reduceIte] at hE
  (repeat with_reducible first|refine ctl ?_|refine miss ?_)
  refine loop_st (fun (k : Nat) a w' => k ≤ s.size ∧ Fits 33 [(0, .string s), (3, .bool (okTo s.data.toList k)), (4, .int .i64 k)] a ∧ w = w' ∧ 1 ≤ k) (fun k => s.size - k) 1 ?_ (fun k a w' hI => ?_)
  ·exact ⟨hp, by simpa using hE, rfl, Nat.le_refl _⟩
  clear hE
  obtain ⟨hk, hE, rfl, hk1⟩ := hI
  obtain ⟨f, hf⟩ : ∃ f, okTo s.data.toList k = f := ⟨_, rfl⟩
  rw [hf] at hE
  have HFk := hid hf
  clear hf
  (repeat with_reducible first|refine ctl ?_|refine miss ?_)
  refine Rs 7 fun Q' K hK => ?_
  refine Lp fun K' hK' => ?_
  have r3 := hE.at 3 rfl; refine op1 r3 fun ρ qc qf qg q3 => ?_; go_simp; (try clear qc qf qg r3 q3)
  refine Ln hE hK' fun a_1 hE_1 => ?_; clear hK' K' hE a
  refine Lp fun K' hK' => ?_
  have r13 := hE_1.at 13 rfl; refine op1 r13 fun ρ qc qf qg q13 => ?_; go_simp; (try clear qc qf qg r13 q13)
  refine Ln hE_1 hK' fun a_2 hE_2 => ?_; clear hK' K' hE_1
  refine Late.may hE_2 (d' := 15) (by decide) (by (first | (simp only [List.getElem?_toArray, List.getElem?_cons_succ, List.getElem?_cons_zero]; rfl) | rfl)) rfl rfl (d := 14) (by kernel_rfl) rfl ?_ (fun hx K' hK' => ?_) (fun a_3 hE_3 => ?_); rotate_left 1
  ·have hx0 := hx; (try simp only [beq_iff_eq, Bool.and_eq_true, Bool.beq_true, Bool.beq_false, Bool.not_eq_true', beq_eq_false_iff_ne] at hx); have r4 := hE_2.at 4 rfl; clear hx0
   refine op1 r4 fun ρ qc qf qg q4 => ?_; go_simp;
   refine put_eq hK' ?_; rfl
  clear hE_2
  refine Late.may hE_3 (d' := 16) (by decide) (by (first | (simp only [List.getElem?_toArray, List.getElem?_cons_succ, List.getElem?_cons_zero]; rfl) | rfl)) rfl rfl (d := 14) (by kernel_rfl) rfl ?_ (fun hx K' hK' => ?_) (fun a_4 hE_4 => ?_); rotate_left 1
  ·have hx0 := hx; (try simp only [beq_iff_eq, Bool.and_eq_true, Bool.beq_true, Bool.beq_false, Bool.not_eq_true', beq_eq_false_iff_ne] at hx); have r0 := hE_3.at 0 rfl; clear hx0
   refine op1 r0 fun ρ qc qf qg q0 => ?_; go_simp;
   refine put_eq hK' ?_; rfl
  clear hE_3
  refine Late.may hE_4 (d' := 17) (by decide) (by (first | (simp only [List.getElem?_toArray, List.getElem?_cons_succ, List.getElem?_cons_zero]; rfl) | rfl)) rfl rfl (d := 14) (by kernel_rfl) rfl ?_ (fun hx K' hK' => ?_) (fun a_5 hE_5 => ?_); rotate_left 1
  ·have hx0 := hx; (try simp only [beq_iff_eq, Bool.and_eq_true, Bool.beq_true, Bool.beq_false, Bool.not_eq_true', beq_eq_false_iff_ne] at hx); have r16 := hE_4.at 16 rfl; (try simp only [hx0, may_true] at r16); clear hx0
   refine op1 r16 fun ρ qc qf qg q16 => ?_; go_simp; (try go_bits);
   refine put_eq hK' ?_; rfl
  clear hE_4
  refine Late.may hE_5 (d' := 18) (by decide) (by (first | (simp only [List.getElem?_toArray, List.getElem?_cons_succ, List.getElem?_cons_zero]; rfl) | rfl)) rfl rfl (d := 14) (by kernel_rfl) rfl ?_ (fun hx K' hK' => ?_) (fun a_6 hE_6 => ?_); rotate_left 1
  ·have hx0 := hx; (try simp only [beq_iff_eq, Bool.and_eq_true, Bool.beq_true, Bool.beq_false, Bool.not_eq_true', beq_eq_false_iff_ne] at hx); have r15 := hE_5.at 15 rfl; have r17 := hE_5.at 17 rfl; (try simp only [hx0, may_true] at r15); (try simp only [hx0, may_true] at r17); clear hx0
   refine op2 r15 r17 fun ρ qc qf qg q15 q17 => ?_; go_simp; (try go_bits);
   refine put_eq hK' ?_; rfl
  clear hE_5
  refine Lp fun K' hK' => ?_
  have r14 := hE_6.at 14 rfl; have r18 := hE_6.at 18 rfl
  refine op2 r14 r18 fun ρ qc qf qg q14 q18 => ?_; go_simp; (try go_bits); (try clear qc qf qg r14 q14 r18 q18)
  (try clear r14 r18)
  refine Ln hE_6 hK' fun a_7 hE_7 => ?_; clear hK' K' hE_6
  refine late_done [0, 3, 4, 19] hE_7 hK (fun a hE => ?_); clear hK K Q' hE_7; simp only [lk, pick, Nat.reduceEqDiff, ↓reduceIte] at hE
  (repeat with_reducible first|refine ctl ?_|refine miss ?_)
  refine cond_part hE (t := 19) rfl (fun h => ?_) (fun h => ?_)
  ·have hb : f = true ∧ k < s.size := by simpa using h
   obtain ⟨hft, hlt⟩ := hb
   clear h
   have hltI : (k : Int) < s.size := by omega
   have hbk := byte_at s k hlt
   have HBk := hid hbk
   clear hbk
   have hk0 : ¬ k = 0 := by omega
   (repeat with_reducible first|refine ctl ?_|refine miss ?_)
   refine Rs 11 fun Q' K hK => ?_
   refine Lp fun K' hK' => ?_
   have r0 := hE.at 0 rfl; refine op1 r0 fun ρ qc qf qg q0 => ?_; go_simp; (try clear qc qf qg r0 q0)
   refine Ln hE hK' fun a_1 hE_1 => ?_; clear hK' K' hE a
   refine Lp fun K' hK' => ?_
   have r4 := hE_1.at 4 rfl; refine op1 r4 fun ρ qc qf qg q4 => ?_; go_simp; (try clear qc qf qg r4 q4)
   refine Ln hE_1 hK' fun a_2 hE_2 => ?_; clear hK' K' hE_1
   refine Lp fun K' hK' => ?_
   have r22 := hE_2.at 22 rfl; have r23 := hE_2.at 23 rfl
   refine op2 r22 r23 fun ρ qc qf qg q22 q23 => ?_; go_simp; (try go_bits); (try clear qc qf qg r22 q22 r23 q23)
   (try clear r22 r23)
   refine Ln hE_2 hK' fun a_3 hE_3 => ?_; clear hK' K' hE_2
   refine Lp fun K' hK' => ?_
   have r24 := hE_3.at 24 rfl; refine op1 r24 fun ρ qc qf qg q24 => ?_; go_simp; (try go_bits); (try clear qc qf qg r24 q24)
   go_at_call 71; refine (rletter_any s[k] _).mono ?_; rintro e w1 ⟨rfl, rfl⟩
   (try clear r24)
   refine Ln hE_3 hK' fun a_4 hE_4 => ?_; clear hK' K' hE_3
   refine Lp fun K' hK' => ?_
   have r25 := hE_4.at 25 rfl; refine op1 r25 fun ρ qc qf qg q25 => ?_; go_simp; (try clear qc qf qg r25 q25)
   refine Ln hE_4 hK' fun a_5 hE_5 => ?_; clear hK' K' hE_4
   refine Late.may hE_5 (d' := 27) (by decide) (by (first | (simp only [List.getElem?_toArray, List.getElem?_cons_succ, List.getElem?_cons_zero]; rfl) | rfl)) rfl rfl (d := 26) (by kernel_rfl) rfl ?_ (fun hx K' hK' => ?_) (fun a_6 hE_6 => ?_); rotate_left 1
   ·have hx0 := hx; (try simp only [beq_iff_eq, Bool.and_eq_true, Bool.beq_true, Bool.beq_false, Bool.not_eq_true', beq_eq_false_iff_ne] at hx); have r0 := hE_5.at 0 rfl; clear hx0
    refine op1 r0 fun ρ qc qf qg q0 => ?_; go_simp;
    refine put_eq hK' ?_; rfl
   clear hE_5
   refine Late.may hE_6 (d' := 28) (by decide) (by (first | (simp only [List.getElem?_toArray, List.getElem?_cons_succ, List.getElem?_cons_zero]; rfl) | rfl)) rfl rfl (d := 26) (by kernel_rfl) rfl ?_ (fun hx K' hK' => ?_) (fun a_7 hE_7 => ?_); rotate_left 1
   ·have hx0 := hx; (try simp only [beq_iff_eq, Bool.and_eq_true, Bool.beq_true, Bool.beq_false, Bool.not_eq_true', beq_eq_false_iff_ne] at hx); have r4 := hE_6.at 4 rfl; clear hx0
    refine op1 r4 fun ρ qc qf qg q4 => ?_; go_simp;
    refine put_eq hK' ?_; rfl
   clear hE_6
   refine Late.may hE_7 (d' := 29) (by decide) (by (first | (simp only [List.getElem?_toArray, List.getElem?_cons_succ, List.getElem?_cons_zero]; rfl) | rfl)) rfl rfl (d := 26) (by kernel_rfl) rfl ?_ (fun hx K' hK' => ?_) (fun a_8 hE_8 => ?_); rotate_left 1
   ·have hx0 := hx; (try simp only [beq_iff_eq, Bool.and_eq_true, Bool.beq_true, Bool.beq_false, Bool.not_eq_true', beq_eq_false_iff_ne] at hx); have r27 := hE_7.at 27 rfl; have r28 := hE_7.at 28 rfl; (try simp only [hx0, may_true] at r27); (try simp only [hx0, may_true] at r28); clear hx0
    refine op2 r27 r28 fun ρ qc qf qg q27 q28 => ?_; go_simp; (try go_bits);
    refine put_eq hK' ?_; rfl
   clear hE_7
   refine Late.may hE_8 (d' := 30) (by decide) (by (first | (simp only [List.getElem?_toArray, List.getElem?_cons_succ, List.getElem?_cons_zero]; rfl) | rfl)) rfl rfl (d := 26) (by kernel_rfl) rfl ?_ (fun hx K' hK' => ?_) (fun a_9 hE_9 => ?_); rotate_left 1
   ·have hx0 := hx; (try simp only [beq_iff_eq, Bool.and_eq_true, Bool.beq_true, Bool.beq_false, Bool.not_eq_true', beq_eq_false_iff_ne] at hx); have r29 := hE_8.at 29 rfl; (try simp only [hx0, may_true] at r29); clear hx0
    refine op1 r29 fun ρ qc qf qg q29 => ?_; go_simp; (try go_bits);
    go_at_call 72; refine (rdigit_any s[k] _).mono ?_; rintro e w1 ⟨rfl, rfl⟩; refine put_eq hK' ?_; rfl
   clear hE_8
   refine Lp fun K' hK' => ?_
   have r26 := hE_9.at 26 rfl; have r30 := hE_9.at 30 rfl
   refine op2 r26 r30 fun ρ qc qf qg q26 q30 => ?_; go_simp; (try go_bits); (try clear qc qf qg r26 q26 r30 q30)
   (try clear r26 r30)
   refine Ln hE_9 hK' fun a_10 hE_10 => ?_; clear hK' K' hE_9
   refine Lp fun K' hK' => ?_
   have r31 := hE_10.at 31 rfl; refine op1 r31 fun ρ qc qf qg q31 => ?_; go_simp; (try clear qc qf qg r31 q31)
   refine Ln hE_10 hK' fun a_11 hE_11 => ?_; clear hK' K' hE_10
   replace hE_11 := hE_11.turn 3 (v' := .bool (okTo s.data.toList (k + 1))) rfl (by (rw [okTo_succ, HFk.out, hft, Bool.true_and]; unfold nameAt; rw [HBk.out]; cases letterB s[k] <;> simp [hk0]))
   refine late_done [0, 3, 4] hE_11 hK (fun a hE => ?_); clear hK K Q' hE_11; simp only [lk, pick, Nat.reduceEqDiff, ↓reduceIte] at hE
   (repeat with_reducible first|refine ctl ?_|refine miss ?_)
   refine Rs 3 fun Q' K hK => ?_
   refine Lp fun K' hK' => ?_
   have r4 := hE.at 4 rfl; refine op1 r4 fun ρ qc qf qg q4 => ?_; go_simp; (try clear qc qf qg r4 q4)
   refine Ln hE hK' fun a_1 hE_1 => ?_; clear hK' K' hE a
   refine Lp fun K' hK' => ?_
   have r20 := hE_1.at 20 rfl; refine op1 r20 fun ρ qc qf qg q20 => ?_; go_simp; (try go_bits); (try simp (disch := omega) only [IntWalk.i64_in]); (try clear qc qf qg r20 q20)
   refine Ln hE_1 hK' fun a_2 hE_2 => ?_; clear hK' K' hE_1
   refine Lp fun K' hK' => ?_
   have r21 := hE_2.at 21 rfl; refine op1 r21 fun ρ qc qf qg q21 => ?_; go_simp; (try clear qc qf qg r21 q21)
   refine Ln hE_2 hK' fun a_3 hE_3 => ?_; clear hK' K' hE_2
   refine late_done [0, 3, 4] hE_3 hK (fun a hE => ?_); clear hK K Q' hE_3; simp only [lk, pick, Nat.reduceEqDiff, ↓reduceIte] at hE
   (repeat with_reducible first|refine ctl ?_|refine miss ?_)
   exact ⟨k + 1, ⟨hlt, by simpa using hE, rfl, by omega⟩, by omega⟩
  ·have hnm : nameB s.data.toList = f := by
    cases hfv : f with
    | false => exact okTo_false _ (HFk.out.trans hfv) (.inl (by rw [HL.out]; exact hk))
    | true =>
     rw [hfv] at h
     have h' : ¬ k < s.size := by simpa using h
     have hk2 : k = s.data.toList.length := by rw [HL.out]; omega
     have := HFk.out
     rw [hfv, hk2] at this
     exact this
   have HM := hid hnm
   clear hnm h
   (repeat with_reducible first|refine ctl ?_|refine miss ?_)
   refine Rs 2 fun Q' K hK => ?_
   refine Lp fun K' hK' => ?_
   have r3 := hE.at 3 rfl; refine op1 r3 fun ρ qc qf qg q3 => ?_; go_simp; (try clear qc qf qg r3 q3)
   refine Ln hE hK' fun a_1 hE_1 => ?_; clear hK' K' hE a
   refine Lp fun K' hK' => ?_
   have r32 := hE_1.at 32 rfl; refine op1 r32 fun ρ qc qf qg q32 => ?_; go_simp; (try clear qc qf qg r32 q32)
   refine Ln hE_1 hK' fun a_2 hE_2 => ?_; clear hK' K' hE_1
   refine late_done [2] hE_2 hK (fun a hE => ?_); clear hK K Q' hE_2; simp only [lk, pick, Nat.reduceEqDiff, ↓reduceIte] at hE
   (repeat with_reducible first|refine ctl ?_|refine miss ?_)
   exact ret_one hE rfl rfl ⟨ret_bool HM.out.symm, rfl⟩

def rapR (al : List ByteArray) (sl : Int) (x y : List UInt8) : Int := if (apR al sl x y).2 then (apR al sl x y).1 else -1
set_option maxRecDepth 100000 in
set_option maxHeartbeats 2000000 in
theorem rapart_any (A : Option Addr) (cap : Nat) (l : List ByteArray) (m : ByteArray) (sl : Int) (s t : ByteArray) (w : World) (hA : Arr w w.heap.size A (txts l)) (hl : l.length ≤ 9223372036854775807) (hz : ∀ i (h : i < l.length), l[i].size ≤ 9223372036854775807) (hm : m.size ≤ 9223372036854775807) (hs : s.size ≤ 9223372036854775807) (ht : t.size ≤ 9223372036854775807) : Calls Try.prog 49 #[.agg #[.slice A l.length cap, .string m, .int .i64 sl], .string s, .string t] w fun e w' => e = .returned (.int .i64 (rapR l sl (keptL m s.data.toList) (keptL m t.data.toList))) ∧ Below w.heap.size w w' := by
 have ext : ∀ x : List UInt8, ∃ X : ByteArray, ByteArray.mk x.toArray = X ∧ X.data.toList = x := fun x => ⟨_, rfl, by simp⟩
 obtain ⟨X, hX, hXl⟩ := ext (keptL m s.data.toList)
 obtain ⟨Y, hY, hYl⟩ := ext (keptL m t.data.toList)
 have hxs : X.data.toList.length = X.size := by simp
 have hys : Y.data.toList.length = Y.size := by simp
 have hxl : X.size ≤ 9223372036854775807 := by
  rw [← hxs, hXl]; have := List.length_filter_le (fun c => !standsB m c) s.data.toList; have h2 : s.data.toList.length = s.size := by simp
  unfold keptL; omega
 have hyl : Y.size ≤ 9223372036854775807 := by
  rw [← hys, hYl]; have := List.length_filter_le (fun c => !standsB m c) t.data.toList; have h2 : t.data.toList.length = t.size := by simp
  unfold keptL; omega
 rw [← hXl, ← hYl]
 have HX := hid hX
 have HY := hid hY
 have HZ := hid hz
 have HXS := hid hxs
 have HYS := hid hys
 clear hX hY hXl hYl hz ext hxs hys
 refine enterE Try.func49 rfl Try.ntmps49 (by simp) (fun a hE => ?_); simp only [envOf, Nat.zero_add, Nat.reduceAdd] at hE
 (repeat with_reducible first|refine ctl ?_|refine miss ?_)
 refine Rs 2 fun Q' K hK => ?_
 refine Lp fun K' hK' => ?_
 have r0 := hE.at 0 rfl; refine op1 r0 fun ρ qc qf qg q0 => ?_; go_simp; (try clear qc qf qg r0 q0)
 refine Ln hE hK' fun a_1 hE_1 => ?_; clear hK' K' hE a
 refine Lp fun K' hK' => ?_
 refine op0 fun ρ qc qf qg => ?_; go_simp; (try clear qc qf qg)
 refine Ln hE_1 hK' fun a_2 hE_2 => ?_; clear hK' K' hE_1
 refine late_done [1, 2, 3] hE_2 hK (fun a hE => ?_); clear hK K Q' hE_2; simp only [lk, pick, Nat.reduceEqDiff, ↓reduceIte] at hE
 obtain ⟨B, hBe⟩ : ∃ B, B = w.heap.size := ⟨_, rfl⟩; rw [← hBe] at hE; refine world_cut (fun wt => Below w.heap.size w wt ∧ Cells wt B [.slice A l.length cap, .string m, .int .i64 sl]) ⟨(Below.refl _ _).alloc (Nat.le_refl _) _, by rw [hBe]; exact cells_new _ _ _⟩ (fun w1 hCut => ?_); obtain ⟨hbw1, hCB⟩ := hCut; clear hBe
 (repeat with_reducible first|refine ctl ?_|refine miss ?_)
 have nB := hCB.1; have cB0 := hCB.2 0 _ rfl; have cB1 := hCB.2 1 _ rfl; have cB2 := hCB.2 2 _ rfl
 refine Rd [] (fun wt => Below w1.heap.size w1 wt) (fun w1 w2 => Below w1.heap.size w1 w2) [(0, some 11), (1, some 12), (2, some 13), (3, some 14), (4, some 15), (5, some 16), (6, some 7), (7, some 8)] [11, 12, 13, 14, 15, 16, 7, 8] #[true, true, true, true, true, true, true, true] [3] hE ((Below.refl _ _).drew) fun Q' K hK => ?_
 refine SeqOps.val ?_ (Sp fun ax wx hS hT' hd K' hK' => ?_) ?_; rotate_left 1
 ·have r3 := hS.at 3 (by decide) (hE.at 3 rfl); obtain ⟨hcT, hfT, hlT, hmT, hwT, hzT⟩ := bT hT'
  refine op1 r3 fun ρ qc qf qg q3 => ?_; go_simp;
  refine hK'.out _ _ _ rfl ?_ hT' (Below.refl _ _); rfl
 refine SeqOps.val ?_ (Sp fun ax wx hS hT' hd K' hK' => ?_) ?_; rotate_left 1
 ·have r1 := hS.at 1 (by decide) (hE.at 1 rfl); obtain ⟨hcT, hfT, hlT, hmT, hwT, hzT⟩ := bT hT'
  refine op1 r1 fun ρ qc qf qg q1 => ?_; go_simp;
  refine hK'.out _ _ _ rfl ?_ hT' (Below.refl _ _); rfl
 refine SeqOps.val ?_ (Sp fun ax wx hS hT' hd K' hK' => ?_) ?_; rotate_left 1
 ·have r11 := Tv hd 1 0 11; have r12 := Tv hd 0 1 12; obtain ⟨hcT, hfT, hlT, hmT, hwT, hzT⟩ := bT hT'
  refine op2 r11 r12 fun ρ qc qf qg q11 q12 => ?_; go_simp; (try go_bits);
  go_at_call 85; refine (rsounds_any A _ cap m sl s _ hm hs).mono ?_; rw [HX.out]; rintro e u1 ⟨rfl, g1⟩
  refine hK'.out _ _ _ rfl ?_ (hT'.trans (g1.mono hT'.size)) g1; rfl
 refine SeqOps.val ?_ (Sp fun ax wx hS hT' hd K' hK' => ?_) ?_; rotate_left 1
 ·have r3 := hS.at 3 (by decide) (hE.at 3 rfl); obtain ⟨hcT, hfT, hlT, hmT, hwT, hzT⟩ := bT hT'
  refine op1 r3 fun ρ qc qf qg q3 => ?_; go_simp;
  refine hK'.out _ _ _ rfl ?_ hT' (Below.refl _ _); rfl
 refine SeqOps.val ?_ (Sp fun ax wx hS hT' hd K' hK' => ?_) ?_; rotate_left 1
 ·have r2 := hS.at 2 (by decide) (hE.at 2 rfl); obtain ⟨hcT, hfT, hlT, hmT, hwT, hzT⟩ := bT hT'
  refine op1 r2 fun ρ qc qf qg q2 => ?_; go_simp;
  refine hK'.out _ _ _ rfl ?_ hT' (Below.refl _ _); rfl
 refine SeqOps.val ?_ (Sp fun ax wx hS hT' hd K' hK' => ?_) ?_; rotate_left 1
 ·have r14 := Tv hd 1 3 14; have r15 := Tv hd 0 4 15; obtain ⟨hcT, hfT, hlT, hmT, hwT, hzT⟩ := bT hT'
  refine op2 r14 r15 fun ρ qc qf qg q14 q15 => ?_; go_simp; (try go_bits);
  go_at_call 85; refine (rsounds_any A _ cap m sl t _ hm ht).mono ?_; rw [HY.out]; rintro e u1 ⟨rfl, g1⟩
  refine hK'.out _ _ _ rfl ?_ (hT'.trans (g1.mono hT'.size)) g1; rfl
 refine SeqOps.val ?_ (Sp fun ax wx hS hT' hd K' hK' => ?_) ?_; rotate_left 1
 ·have r13 := Tv hd 3 2 13; obtain ⟨hcT, hfT, hlT, hmT, hwT, hzT⟩ := bT hT'
  refine op1 r13 fun ρ qc qf qg q13 => ?_; go_simp;
  refine hK'.out _ _ _ rfl ?_ hT' (Below.refl _ _); rfl
 refine SeqOps.val ?_ (Sp fun ax wx hS hT' hd K' hK' => ?_) ?_; rotate_left 1
 ·have r16 := Tv hd 1 5 16; obtain ⟨hcT, hfT, hlT, hmT, hwT, hzT⟩ := bT hT'
  refine op1 r16 fun ρ qc qf qg q16 => ?_; go_simp;
  refine hK'.out _ _ _ rfl ?_ hT' (Below.refl _ _); rfl
 refine SeqOps.nil ?_
 intro w2 hBl; (refine fun v h => ?_; obtain rfl := h); (refine fun v h => ?_; obtain rfl := h); (refine fun v h => ?_; obtain rfl := h); (refine fun v h => ?_; obtain rfl := h); (refine fun v h => ?_; obtain rfl := h); (refine fun v h => ?_; obtain rfl := h); (refine fun v h => ?_; obtain rfl := h); (refine fun v h => ?_; obtain rfl := h);
 refine fun ax hEx => ?_
 simp only [lk, pick, Nat.reduceEqDiff, ↓reduceIte] at hEx
 refine late_done [3, 7, 8] hEx hK (fun a hE => ?_); clear hK K Q' hEx; simp only [lk, pick, Nat.reduceEqDiff, ↓reduceIte] at hE
 clear nB cB0 cB1 cB2 HX HY
 have hb2 := hbw1.trans (hBl.mono hbw1.size)
 replace hCB := hCB.below hBl
 have hA2 := (hA.below hb2).more hb2.size
 clear hBl hbw1 hA
 (repeat with_reducible first|refine ctl ?_|refine miss ?_)
 refine Rs 5 fun Q' K hK => ?_
 refine Lp fun K' hK' => ?_
 have r7 := hE.at 7 rfl; refine op1 r7 fun ρ qc qf qg q7 => ?_; go_simp; (try clear qc qf qg r7 q7)
 refine Ln hE hK' fun a_1 hE_1 => ?_; clear hK' K' hE a
 refine Lp fun K' hK' => ?_
 have r17 := hE_1.at 17 rfl; refine op1 r17 fun ρ qc qf qg q17 => ?_; go_simp; (try go_bits); (try clear qc qf qg r17 q17)
 refine Ln hE_1 hK' fun a_2 hE_2 => ?_; clear hK' K' hE_1
 refine Lp fun K' hK' => ?_
 have r8 := hE_2.at 8 rfl; refine op1 r8 fun ρ qc qf qg q8 => ?_; go_simp; (try clear qc qf qg r8 q8)
 refine Ln hE_2 hK' fun a_3 hE_3 => ?_; clear hK' K' hE_2
 refine Lp fun K' hK' => ?_
 have r19 := hE_3.at 19 rfl; refine op1 r19 fun ρ qc qf qg q19 => ?_; go_simp; (try go_bits); (try clear qc qf qg r19 q19)
 refine Ln hE_3 hK' fun a_4 hE_4 => ?_; clear hK' K' hE_3
 refine Lp fun K' hK' => ?_
 have r18 := hE_4.at 18 rfl; have r20 := hE_4.at 20 rfl
 refine op2 r18 r20 fun ρ qc qf qg q18 q20 => ?_; go_simp; (try go_bits); (try clear qc qf qg r18 q18 r20 q20)
 (try clear r18 r20)
 refine Ln hE_4 hK' fun a_5 hE_5 => ?_; clear hK' K' hE_4
 refine late_done [3, 7, 8, 21] hE_5 hK (fun a hE => ?_); clear hK K Q' hE_5; simp only [lk, pick, Nat.reduceEqDiff, ↓reduceIte] at hE
 (repeat with_reducible first|refine ctl ?_|refine miss ?_)
 refine cond_part hE (t := 21) rfl (fun h => ?_) (fun h => ?_)
 ·(repeat with_reducible first|refine ctl ?_|refine miss ?_)
  refine Rs 1 fun Q' K hK => ?_
  refine Lp fun K' hK' => ?_
  refine op0 fun ρ qc qf qg => ?_; go_simp; (try clear qc qf qg)
  refine Ln hE hK' fun a_1 hE_1 => ?_; clear hK' K' hE a
  refine late_done [6] hE_1 hK (fun a hE => ?_); clear hK K Q' hE_1; simp only [lk, pick, Nat.reduceEqDiff, ↓reduceIte] at hE
  (repeat with_reducible first|refine ctl ?_|refine miss ?_)
  have h' : ¬ (X.size : Int) = Y.size := by simpa using h
  have e : apR l sl X.data.toList Y.data.toList = (0, false) := by unfold apR; rw [if_neg (fun q => h' (by have := q.1; rw [HXS.out, HYS.out] at this; omega))]
  refine ret_one hE rfl rfl ⟨?_, hb2⟩
  unfold rapR
  rw [e]; rfl
 ·have h' : (X.size : Int) = Y.size := by simpa using h
  have hlen : X.size = Y.size := by omega
  clear h h'
  have HL := hid hlen
  have hlt0 : ∀ k, k < X.size → k < Y.size := fun k hk => by omega
  clear hlen
  (repeat with_reducible first|refine ctl ?_|refine miss ?_)
  refine Rs 1 fun Q' K hK => ?_
  refine Lp fun K' hK' => ?_
  refine op0 fun ρ qc qf qg => ?_; go_simp; (try clear qc qf qg)
  refine Ln hE hK' fun a_1 hE_1 => ?_; clear hK' K' hE a
  refine late_done [3, 7, 8, 9] hE_1 hK (fun a hE => ?_); clear hK K Q' hE_1; simp only [lk, pick, Nat.reduceEqDiff, ↓reduceIte] at hE
  (repeat with_reducible first|refine ctl ?_|refine miss ?_)
  refine Rs 1 fun Q' K hK => ?_
  refine Lp fun K' hK' => ?_
  refine op0 fun ρ qc qf qg => ?_; go_simp; (try clear qc qf qg)
  refine Ln hE hK' fun a_1 hE_1 => ?_; clear hK' K' hE a
  refine late_done [3, 7, 8, 9, 10] hE_1 hK (fun a hE => ?_); clear hK K Q' hE_1; simp only [lk, pick, Nat.reduceEqDiff, ↓reduceIte] at hE
  (repeat with_reducible first|refine ctl ?_|refine miss ?_)
  refine loop_st (fun (k : Nat) a w' => k ≤ X.size ∧ Fits 51 [(3, .pointer (some ⟨B, 0, none⟩)), (7, .string X), (8, .string Y), (9, .int .i64 (diffN X.data.toList Y.data.toList k)), (10, .int .i64 k)] a ∧ Below w2.heap.size w2 w' ∧ ∀ i, i < k → alikeB l (X.data.toList.getD i 0) (Y.data.toList.getD i 0) = true) (fun k => X.size - k) 0 ?_ (fun k a w' hI => ?_)
  ·exact ⟨Nat.zero_le _, by simpa [diffN] using hE, Below.refl _ _, fun i hi => absurd hi (Nat.not_lt_zero i)⟩
  clear hE
  obtain ⟨hk, hE, hBr, hN⟩ := hI
  obtain ⟨wr, hwr⟩ : ∃ x, x = w' := ⟨_, rfl⟩
  subst hwr
  have HN := hid hN
  clear hN
  (repeat with_reducible first|refine ctl ?_|refine miss ?_)
  refine Rs 4 fun Q' K hK => ?_
  refine Lp fun K' hK' => ?_
  have r10 := hE.at 10 rfl; refine op1 r10 fun ρ qc qf qg q10 => ?_; go_simp; (try clear qc qf qg r10 q10)
  refine Ln hE hK' fun a_1 hE_1 => ?_; clear hK' K' hE a
  refine Lp fun K' hK' => ?_
  have r7 := hE_1.at 7 rfl; refine op1 r7 fun ρ qc qf qg q7 => ?_; go_simp; (try clear qc qf qg r7 q7)
  refine Ln hE_1 hK' fun a_2 hE_2 => ?_; clear hK' K' hE_1
  refine Lp fun K' hK' => ?_
  have r23 := hE_2.at 23 rfl; refine op1 r23 fun ρ qc qf qg q23 => ?_; go_simp; (try go_bits); (try clear qc qf qg r23 q23)
  refine Ln hE_2 hK' fun a_3 hE_3 => ?_; clear hK' K' hE_2
  refine Lp fun K' hK' => ?_
  have r22 := hE_3.at 22 rfl; have r24 := hE_3.at 24 rfl
  refine op2 r22 r24 fun ρ qc qf qg q22 q24 => ?_; go_simp; (try go_bits); (try clear qc qf qg r22 q22 r24 q24)
  (try clear r22 r24)
  refine Ln hE_3 hK' fun a_4 hE_4 => ?_; clear hK' K' hE_3
  refine late_done [3, 7, 8, 9, 10, 25] hE_4 hK (fun a hE => ?_); clear hK K Q' hE_4; simp only [lk, pick, Nat.reduceEqDiff, ↓reduceIte] at hE
  (repeat with_reducible first|refine ctl ?_|refine miss ?_)
  refine cond_part hE (t := 25) rfl (fun h => ?_) (fun h => ?_)
  ·have hlt : k < X.size := of_decide_eq_true h
   clear h
   have hlty := hlt0 k hlt
   have hltI : (k : Int) < X.size := by omega
   have hltY : (k : Int) < Y.size := by omega
   have hbx := byte_at X k hlt
   have hby := byte_at Y k hlty
   have HA := hid hbx
   have HB := hid hby
   clear hbx hby
   have hCr := hCB.below hBr
   have nr := hCr.1
   have d0 := hCr.2 0 _ rfl
   have d1 := hCr.2 1 _ rfl
   have d2 := hCr.2 2 _ rfl
   clear hCr
   have hAr := (hA2.below hBr).more hBr.size
   (repeat with_reducible first|refine ctl ?_|refine miss ?_)
   refine Rd [] (fun wt => Below wr.heap.size wr wt) (fun w1 w2 => Below w1.heap.size w1 w2) [(0, some 28), (1, some 29), (2, some 30), (3, some 31), (4, some 32), (5, some 33), (6, some 34), (7, some 35), (8, some 36)] [28, 29, 30, 31, 32, 33, 34, 35, 36] #[true, true, true, true, true, true, true, true, true] [3, 7, 8, 9, 10] hE ((Below.refl _ _).drew) fun Q' K hK => ?_
   refine SeqOps.val ?_ (Sp fun ax wx hS hT' hd K' hK' => ?_) ?_; rotate_left 1
   ·have r3 := hS.at 3 (by decide) (hE.at 3 rfl); obtain ⟨hcT, hfT, hlT, hmT, hwT, hzT⟩ := bT hT'
    refine op1 r3 fun ρ qc qf qg q3 => ?_; go_simp;
    refine hK'.out _ _ _ rfl ?_ hT' (Below.refl _ _); rfl
   refine SeqOps.val ?_ (Sp fun ax wx hS hT' hd K' hK' => ?_) ?_; rotate_left 1
   ·have r7 := hS.at 7 (by decide) (hE.at 7 rfl); obtain ⟨hcT, hfT, hlT, hmT, hwT, hzT⟩ := bT hT'
    refine op1 r7 fun ρ qc qf qg q7 => ?_; go_simp;
    refine hK'.out _ _ _ rfl ?_ hT' (Below.refl _ _); rfl
   refine SeqOps.val ?_ (Sp fun ax wx hS hT' hd K' hK' => ?_) ?_; rotate_left 1
   ·have r10 := hS.at 10 (by decide) (hE.at 10 rfl); obtain ⟨hcT, hfT, hlT, hmT, hwT, hzT⟩ := bT hT'
    refine op1 r10 fun ρ qc qf qg q10 => ?_; go_simp;
    refine hK'.out _ _ _ rfl ?_ hT' (Below.refl _ _); rfl
   refine SeqOps.val ?_ (Sp fun ax wx hS hT' hd K' hK' => ?_) ?_; rotate_left 1
   ·have r29 := Tv hd 1 1 29; have r30 := Tv hd 0 2 30; obtain ⟨hcT, hfT, hlT, hmT, hwT, hzT⟩ := bT hT'
    refine op2 r29 r30 fun ρ qc qf qg q29 q30 => ?_; go_simp; (try go_bits);
    refine hK'.out _ _ _ rfl ?_ hT' (Below.refl _ _); rfl
   refine SeqOps.val ?_ (Sp fun ax wx hS hT' hd K' hK' => ?_) ?_; rotate_left 1
   ·have r8 := hS.at 8 (by decide) (hE.at 8 rfl); obtain ⟨hcT, hfT, hlT, hmT, hwT, hzT⟩ := bT hT'
    refine op1 r8 fun ρ qc qf qg q8 => ?_; go_simp;
    refine hK'.out _ _ _ rfl ?_ hT' (Below.refl _ _); rfl
   refine SeqOps.val ?_ (Sp fun ax wx hS hT' hd K' hK' => ?_) ?_; rotate_left 1
   ·have r10 := hS.at 10 (by decide) (hE.at 10 rfl); obtain ⟨hcT, hfT, hlT, hmT, hwT, hzT⟩ := bT hT'
    refine op1 r10 fun ρ qc qf qg q10 => ?_; go_simp;
    refine hK'.out _ _ _ rfl ?_ hT' (Below.refl _ _); rfl
   refine SeqOps.val ?_ (Sp fun ax wx hS hT' hd K' hK' => ?_) ?_; rotate_left 1
   ·have r32 := Tv hd 1 4 32; have r33 := Tv hd 0 5 33; obtain ⟨hcT, hfT, hlT, hmT, hwT, hzT⟩ := bT hT'
    refine op2 r32 r33 fun ρ qc qf qg q32 q33 => ?_; go_simp; (try go_bits);
    refine hK'.out _ _ _ rfl ?_ hT' (Below.refl _ _); rfl
   refine SeqOps.val ?_ (Sp fun ax wx hS hT' hd K' hK' => ?_) ?_; rotate_left 1
   ·have r28 := Tv hd 6 0 28; have r31 := Tv hd 3 3 31; have r34 := Tv hd 0 6 34; obtain ⟨hcT, hfT, hlT, hmT, hwT, hzT⟩ := bT hT'
    refine op3 r28 r31 r34 fun ρ qc qf qg q28 q31 q34 => ?_; go_simp; (try go_bits);
    go_at_call 86; refine (ralike_any A cap l m sl X[k] Y[k] _ ((hAr.below hT').more hT'.size) hl HZ.out).mono ?_; rintro e u1 ⟨rfl, g1⟩
    refine hK'.out _ _ _ rfl ?_ (hT'.trans (g1.mono hT'.size)) g1; rfl
   refine SeqOps.val ?_ (Sp fun ax wx hS hT' hd K' hK' => ?_) ?_; rotate_left 1
   ·have r35 := Tv hd 0 7 35; obtain ⟨hcT, hfT, hlT, hmT, hwT, hzT⟩ := bT hT'
    refine op1 r35 fun ρ qc qf qg q35 => ?_; go_simp; (try go_bits); (try simp (disch := omega) only [IntWalk.i64_in]);
    refine hK'.out _ _ _ rfl ?_ hT' (Below.refl _ _); rfl
   refine SeqOps.nil ?_
   intro w3 hBl; (refine fun v h => ?_; obtain rfl := h); (refine fun v h => ?_; obtain rfl := h); (refine fun v h => ?_; obtain rfl := h); (refine fun v h => ?_; obtain rfl := h); (refine fun v h => ?_; obtain rfl := h); (refine fun v h => ?_; obtain rfl := h); (refine fun v h => ?_; obtain rfl := h); (refine fun v h => ?_; obtain rfl := h); (refine fun v h => ?_; obtain rfl := h);
   refine fun ax hEx => ?_
   simp only [lk, pick, Nat.reduceEqDiff, ↓reduceIte] at hEx
   refine late_done [3, 7, 8, 9, 10, 36] hEx hK (fun a hE => ?_); clear hK K Q' hEx; simp only [lk, pick, Nat.reduceEqDiff, ↓reduceIte] at hE
   have hB3 := hBr.trans (hBl.mono hBr.size)
   clear d0 d1 d2 nr hAr hBl
   (repeat with_reducible first|refine ctl ?_|refine miss ?_)
   refine cond_part hE (t := 36) rfl (fun h => ?_) (fun h => ?_)
   ·(repeat with_reducible first|refine ctl ?_|refine miss ?_)
    refine Rs 1 fun Q' K hK => ?_
    refine Lp fun K' hK' => ?_
    refine op0 fun ρ qc qf qg => ?_; go_simp; (try clear qc qf qg)
    refine Ln hE hK' fun a_1 hE_1 => ?_; clear hK' K' hE a
    refine late_done [6] hE_1 hK (fun a hE => ?_); clear hK K Q' hE_1; simp only [lk, pick, Nat.reduceEqDiff, ↓reduceIte] at hE
    (repeat with_reducible first|refine ctl ?_|refine miss ?_)
    have e : apR l sl X.data.toList Y.data.toList = (0, false) := by
     unfold apR
     rw [if_neg]
     rintro ⟨_, q, _⟩
     have := List.all_eq_true.1 q k (List.mem_range.2 (by rw [HXS.out]; exact hlt))
     rw [HA.out, HB.out] at this
     rw [this] at h; cases h
    refine ret_one hE rfl rfl ⟨?_, hb2.trans (hB3.mono hb2.size)⟩
    unfold rapR
    rw [e]; rfl
   ·have hal : alikeB l X[k] Y[k] = true := by simpa using h
    clear h
    (repeat with_reducible first|refine ctl ?_|refine miss ?_)
    refine Rd [] (fun wt => Below w3.heap.size w3 wt) (fun w1 w2 => Below w1.heap.size w1 w2) [(0, some 37), (1, some 38), (2, some 39), (3, some 40), (4, some 41), (5, some 42), (6, some 43)] [37, 38, 39, 40, 41, 42, 43] #[true, true, true, true, true, true, true] [3, 7, 8, 9, 10] hE ((Below.refl _ _).drew) fun Q' K hK => ?_
    refine SeqOps.val ?_ (Sp fun ax wx hS hT' hd K' hK' => ?_) ?_; rotate_left 1
    ·have r7 := hS.at 7 (by decide) (hE.at 7 rfl); obtain ⟨hcT, hfT, hlT, hmT, hwT, hzT⟩ := bT hT'
     refine op1 r7 fun ρ qc qf qg q7 => ?_; go_simp;
     refine hK'.out _ _ _ rfl ?_ hT' (Below.refl _ _); rfl
    refine SeqOps.val ?_ (Sp fun ax wx hS hT' hd K' hK' => ?_) ?_; rotate_left 1
    ·have r10 := hS.at 10 (by decide) (hE.at 10 rfl); obtain ⟨hcT, hfT, hlT, hmT, hwT, hzT⟩ := bT hT'
     refine op1 r10 fun ρ qc qf qg q10 => ?_; go_simp;
     refine hK'.out _ _ _ rfl ?_ hT' (Below.refl _ _); rfl
    refine SeqOps.val ?_ (Sp fun ax wx hS hT' hd K' hK' => ?_) ?_; rotate_left 1
    ·have r37 := Tv hd 1 0 37; have r38 := Tv hd 0 1 38; obtain ⟨hcT, hfT, hlT, hmT, hwT, hzT⟩ := bT hT'
     refine op2 r37 r38 fun ρ qc qf qg q37 q38 => ?_; go_simp; (try go_bits);
     refine hK'.out _ _ _ rfl ?_ hT' (Below.refl _ _); rfl
    refine SeqOps.val ?_ (Sp fun ax wx hS hT' hd K' hK' => ?_) ?_; rotate_left 1
    ·have r8 := hS.at 8 (by decide) (hE.at 8 rfl); obtain ⟨hcT, hfT, hlT, hmT, hwT, hzT⟩ := bT hT'
     refine op1 r8 fun ρ qc qf qg q8 => ?_; go_simp;
     refine hK'.out _ _ _ rfl ?_ hT' (Below.refl _ _); rfl
    refine SeqOps.val ?_ (Sp fun ax wx hS hT' hd K' hK' => ?_) ?_; rotate_left 1
    ·have r10 := hS.at 10 (by decide) (hE.at 10 rfl); obtain ⟨hcT, hfT, hlT, hmT, hwT, hzT⟩ := bT hT'
     refine op1 r10 fun ρ qc qf qg q10 => ?_; go_simp;
     refine hK'.out _ _ _ rfl ?_ hT' (Below.refl _ _); rfl
    refine SeqOps.val ?_ (Sp fun ax wx hS hT' hd K' hK' => ?_) ?_; rotate_left 1
    ·have r40 := Tv hd 1 3 40; have r41 := Tv hd 0 4 41; obtain ⟨hcT, hfT, hlT, hmT, hwT, hzT⟩ := bT hT'
     refine op2 r40 r41 fun ρ qc qf qg q40 q41 => ?_; go_simp; (try go_bits);
     refine hK'.out _ _ _ rfl ?_ hT' (Below.refl _ _); rfl
    refine SeqOps.val ?_ (Sp fun ax wx hS hT' hd K' hK' => ?_) ?_; rotate_left 1
    ·have r39 := Tv hd 3 2 39; have r42 := Tv hd 0 5 42; obtain ⟨hcT, hfT, hlT, hmT, hwT, hzT⟩ := bT hT'
     refine op2 r39 r42 fun ρ qc qf qg q39 q42 => ?_; go_simp; (try go_bits);
     refine hK'.out _ _ _ rfl ?_ hT' (Below.refl _ _); rfl
    refine SeqOps.nil ?_
    intro w4 hBl; (refine fun v h => ?_; obtain rfl := h); (refine fun v h => ?_; obtain rfl := h); (refine fun v h => ?_; obtain rfl := h); (refine fun v h => ?_; obtain rfl := h); (refine fun v h => ?_; obtain rfl := h); (refine fun v h => ?_; obtain rfl := h); (refine fun v h => ?_; obtain rfl := h);
    refine fun ax hEx => ?_
    simp only [lk, pick, Nat.reduceEqDiff, ↓reduceIte] at hEx
    refine late_done [3, 7, 8, 9, 10, 43] hEx hK (fun a hE => ?_); clear hK K Q' hEx; simp only [lk, pick, Nat.reduceEqDiff, ↓reduceIte] at hE
    have hB4 := hB3.trans (hBl.mono hB3.size)
    replace hE := hE.turn 43 (v' := .bool (!(X[k] == Y[k]))) rfl (by
     congr 1; rw [Bool.eq_iff_iff]; simp [← UInt8.toNat_inj]; constructor <;> intro h <;> omega)
    have hall : ∀ i, i < k + 1 → alikeB l (X.data.toList.getD i 0) (Y.data.toList.getD i 0) = true := fun i hi => by
     rcases Nat.lt_or_ge i k with h1 | h1
     ·exact HN.out i h1
     ·obtain rfl : i = k := by omega
      rw [HA.out, HB.out]; exact hal
    have hdn : diffN X.data.toList Y.data.toList (k + 1) = diffN X.data.toList Y.data.toList k + (if X[k] == Y[k] then 0 else 1) := by
     show diffN X.data.toList Y.data.toList k + _ = _
     rw [HA.out, HB.out]
    have hdl := diffN_le X.data.toList Y.data.toList k
    have HH := hid hall
    have HD := hid hdn
    clear hall hdn hB3 hal
    (repeat with_reducible first|refine ctl ?_|refine miss ?_)
    refine cond_part hE (t := 43) rfl (fun h => ?_) (fun h => ?_)
    ·have he : (X[k] == Y[k]) = false := by simpa using h
     clear h
     (repeat with_reducible first|refine ctl ?_|refine miss ?_)
     refine Rs 3 fun Q' K hK => ?_
     refine Lp fun K' hK' => ?_
     have r9 := hE.at 9 rfl; refine op1 r9 fun ρ qc qf qg q9 => ?_; go_simp; (try clear qc qf qg r9 q9)
     refine Ln hE hK' fun a_1 hE_1 => ?_; clear hK' K' hE a
     refine Lp fun K' hK' => ?_
     have r44 := hE_1.at 44 rfl; refine op1 r44 fun ρ qc qf qg q44 => ?_; go_simp; (try go_bits); (try simp (disch := omega) only [IntWalk.i64_in]); (try clear qc qf qg r44 q44)
     refine Ln hE_1 hK' fun a_2 hE_2 => ?_; clear hK' K' hE_1
     refine Lp fun K' hK' => ?_
     have r45 := hE_2.at 45 rfl; refine op1 r45 fun ρ qc qf qg q45 => ?_; go_simp; (try clear qc qf qg r45 q45)
     refine Ln hE_2 hK' fun a_3 hE_3 => ?_; clear hK' K' hE_2
     refine late_done [3, 7, 8, 9, 10] hE_3 hK (fun a hE => ?_); clear hK K Q' hE_3; simp only [lk, pick, Nat.reduceEqDiff, ↓reduceIte] at hE
     (repeat with_reducible first|refine ctl ?_|refine miss ?_)
     refine Rs 3 fun Q' K hK => ?_
     refine Lp fun K' hK' => ?_
     have r10 := hE.at 10 rfl; refine op1 r10 fun ρ qc qf qg q10 => ?_; go_simp; (try clear qc qf qg r10 q10)
     refine Ln hE hK' fun a_1 hE_1 => ?_; clear hK' K' hE a
     refine Lp fun K' hK' => ?_
     have r26 := hE_1.at 26 rfl; refine op1 r26 fun ρ qc qf qg q26 => ?_; go_simp; (try go_bits); (try simp (disch := omega) only [IntWalk.i64_in]); (try clear qc qf qg r26 q26)
     refine Ln hE_1 hK' fun a_2 hE_2 => ?_; clear hK' K' hE_1
     refine Lp fun K' hK' => ?_
     have r27 := hE_2.at 27 rfl; refine op1 r27 fun ρ qc qf qg q27 => ?_; go_simp; (try clear qc qf qg r27 q27)
     refine Ln hE_2 hK' fun a_3 hE_3 => ?_; clear hK' K' hE_2
     refine late_done [3, 7, 8, 9, 10] hE_3 hK (fun a hE => ?_); clear hK K Q' hE_3; simp only [lk, pick, Nat.reduceEqDiff, ↓reduceIte] at hE
     (repeat with_reducible first|refine ctl ?_|refine miss ?_)
     refine ⟨k + 1, ⟨hlt, ?_, hB4, HH.out⟩, by omega⟩
     rw [HD.out, he]; simpa using hE
    ·have he : (X[k] == Y[k]) = true := by simpa using h
     clear h
     (repeat with_reducible first|refine ctl ?_|refine miss ?_)
     refine Rs 3 fun Q' K hK => ?_
     refine Lp fun K' hK' => ?_
     have r10 := hE.at 10 rfl; refine op1 r10 fun ρ qc qf qg q10 => ?_; go_simp; (try clear qc qf qg r10 q10)
     refine Ln hE hK' fun a_1 hE_1 => ?_; clear hK' K' hE a
     refine Lp fun K' hK' => ?_
     have r26 := hE_1.at 26 rfl; refine op1 r26 fun ρ qc qf qg q26 => ?_; go_simp; (try go_bits); (try simp (disch := omega) only [IntWalk.i64_in]); (try clear qc qf qg r26 q26)
     refine Ln hE_1 hK' fun a_2 hE_2 => ?_; clear hK' K' hE_1
     refine Lp fun K' hK' => ?_
     have r27 := hE_2.at 27 rfl; refine op1 r27 fun ρ qc qf qg q27 => ?_; go_simp; (try clear qc qf qg r27 q27)
     refine Ln hE_2 hK' fun a_3 hE_3 => ?_; clear hK' K' hE_2
     refine late_done [3, 7, 8, 9, 10] hE_3 hK (fun a hE => ?_); clear hK K Q' hE_3; simp only [lk, pick, Nat.reduceEqDiff, ↓reduceIte] at hE
     (repeat with_reducible first|refine ctl ?_|refine miss ?_)
     refine ⟨k + 1, ⟨hlt, ?_, hB4, HH.out⟩, by omega⟩
     rw [HD.out, he]; simpa using hE
  ·have hkx : k = X.data.toList.length := by have := of_decide_eq_false h; rw [HXS.out]; omega
   clear h
   have hall : allB l X.data.toList Y.data.toList = true := List.all_eq_true.2 fun i hi => HN.out i (by have := List.mem_range.1 hi; omega)
   have HA := hid hall
   clear hall
   have hbr := hb2.trans (hBr.mono hb2.size)
   have hCr := hCB.below hBr
   have nr := hCr.1
   have d2 := hCr.2 2 _ rfl
   clear hCr
   obtain ⟨dn, hdn⟩ : ∃ dn, diffN X.data.toList Y.data.toList X.data.toList.length = dn := ⟨_, rfl⟩
   rw [hkx, hdn] at hE
   have HD := hid hdn
   clear hdn hkx
   (repeat with_reducible first|refine ctl ?_|refine miss ?_)
   refine Rs 4 fun Q' K hK => ?_
   refine Lp fun K' hK' => ?_
   have r9 := hE.at 9 rfl; refine op1 r9 fun ρ qc qf qg q9 => ?_; go_simp; (try clear qc qf qg r9 q9)
   refine Ln hE hK' fun a_1 hE_1 => ?_; clear hK' K' hE a
   refine Lp fun K' hK' => ?_
   have r3 := hE_1.at 3 rfl; refine op1 r3 fun ρ qc qf qg q3 => ?_; go_simp; (try clear qc qf qg r3 q3)
   refine Ln hE_1 hK' fun a_2 hE_2 => ?_; clear hK' K' hE_1
   refine Lp fun K' hK' => ?_
   have r47 := hE_2.at 47 rfl; refine op1 r47 fun ρ qc qf qg q47 => ?_; go_simp; (try clear qc qf qg r47 q47)
   refine Ln hE_2 hK' fun a_3 hE_3 => ?_; clear hK' K' hE_2
   refine Lp fun K' hK' => ?_
   have r46 := hE_3.at 46 rfl; have r48 := hE_3.at 48 rfl
   refine op2 r46 r48 fun ρ qc qf qg q46 q48 => ?_; go_simp; (try go_bits); (try clear qc qf qg r46 q46 r48 q48)
   (try clear r46 r48)
   refine Ln hE_3 hK' fun a_4 hE_4 => ?_; clear hK' K' hE_3
   refine late_done [9, 49] hE_4 hK (fun a hE => ?_); clear hK K Q' hE_4; simp only [lk, pick, Nat.reduceEqDiff, ↓reduceIte] at hE
   (repeat with_reducible first|refine ctl ?_|refine miss ?_)
   refine cond_part hE (t := 49) rfl (fun h => ?_) (fun h => ?_)
   ·have hgt : ¬ (dn : Int) ≤ sl := by have := of_decide_eq_true h; omega
    (repeat with_reducible first|refine ctl ?_|refine miss ?_)
    refine Rs 1 fun Q' K hK => ?_
    refine Lp fun K' hK' => ?_
    refine op0 fun ρ qc qf qg => ?_; go_simp; (try clear qc qf qg)
    refine Ln hE hK' fun a_1 hE_1 => ?_; clear hK' K' hE a
    refine late_done [6] hE_1 hK (fun a hE => ?_); clear hK K Q' hE_1; simp only [lk, pick, Nat.reduceEqDiff, ↓reduceIte] at hE
    (repeat with_reducible first|refine ctl ?_|refine miss ?_)
    have e : apR l sl X.data.toList Y.data.toList = (0, false) := by unfold apR; rw [HD.out, if_neg (fun q => hgt q.2.2)]
    refine ret_one hE rfl rfl ⟨?_, hbr⟩
    unfold rapR
    rw [e]; rfl
   ·have hle : (dn : Int) ≤ sl := by have := of_decide_eq_false h; omega
    (repeat with_reducible first|refine ctl ?_|refine miss ?_)
    refine Rs 2 fun Q' K hK => ?_
    refine Lp fun K' hK' => ?_
    have r9 := hE.at 9 rfl; refine op1 r9 fun ρ qc qf qg q9 => ?_; go_simp; (try clear qc qf qg r9 q9)
    refine Ln hE hK' fun a_1 hE_1 => ?_; clear hK' K' hE a
    refine Lp fun K' hK' => ?_
    have r50 := hE_1.at 50 rfl; refine op1 r50 fun ρ qc qf qg q50 => ?_; go_simp; (try clear qc qf qg r50 q50)
    refine Ln hE_1 hK' fun a_2 hE_2 => ?_; clear hK' K' hE_1
    refine late_done [6] hE_2 hK (fun a hE => ?_); clear hK K Q' hE_2; simp only [lk, pick, Nat.reduceEqDiff, ↓reduceIte] at hE
    (repeat with_reducible first|refine ctl ?_|refine miss ?_)
    have e : apR l sl X.data.toList Y.data.toList = ((dn : Int), true) := by unfold apR; rw [HD.out, if_pos ⟨by rw [HXS.out, HYS.out]; exact HL.out, HA.out, hle⟩]
    refine ret_one hE rfl rfl ⟨?_, hbr⟩
    unfold rapR
    rw [e]; rfl

def innerTo (l : List UInt8) (i k : Nat) : Bool := letterB (l.getD i 0) && (List.range k).all fun j => l.getD j 0 != l.getD i 0
def outerTo (l : List UInt8) (q : Bool) (k : Nat) : Bool := q && (List.range k).all (newB l)
theorem innerTo_succ (l : List UInt8) (i k : Nat) : innerTo l i (k + 1) = (innerTo l i k && (l.getD k 0 != l.getD i 0)) := by
 unfold innerTo
 rw [List.range_succ, List.all_append, List.all_cons, List.all_nil, Bool.and_true, Bool.and_assoc]
theorem outerTo_succ (l : List UInt8) (q : Bool) (k : Nat) : outerTo l q (k + 1) = (outerTo l q k && newB l k) := by
 unfold outerTo
 rw [List.range_succ, List.all_append, List.all_cons, List.all_nil, Bool.and_true, Bool.and_assoc]
theorem newB_inner (l : List UInt8) (i : Nat) (h : i ≤ l.length) : newB l i = innerTo l i i := by
 unfold newB innerTo
 congr 1
 have e := stands_contains (l.take i) (l.getD i 0)
 have e2 : decide (Lib.indexByte (l.take i) (l.getD i 0) < 0) = !decide (0 ≤ Lib.indexByte (l.take i) (l.getD i 0)) := by
  by_cases h0 : 0 ≤ Lib.indexByte (l.take i) (l.getD i 0)
  ·rw [decide_eq_true h0, decide_eq_false (by omega)]; rfl
  ·rw [decide_eq_false h0, decide_eq_true (by omega)]; rfl
 rw [e2, e, Bool.eq_iff_iff, Bool.not_eq_true', List.all_eq_true]
 constructor
 ·intro hc j hj
  have hji := List.mem_range.1 hj
  rw [bne_iff_ne]
  intro heq
  have : (l.take i).contains (l.getD i 0) = true := by
   rw [List.contains_iff_mem, List.mem_iff_getElem]
   refine ⟨j, by simp; omega, ?_⟩
   rw [List.getElem_take, ← getD_at (by omega), heq]
  rw [hc] at this; cases this
 ·intro hall
  cases hc : (l.take i).contains (l.getD i 0) with
  | false => rfl
  | true =>
   rw [List.contains_iff_mem, List.mem_iff_getElem] at hc
   obtain ⟨j, hj, he⟩ := hc
   have hj' : j < i := by simp at hj; omega
   have := hall j (List.mem_range.2 hj')
   rw [bne_iff_ne] at this
   rw [List.getElem_take, ← getD_at (by simp at hj; omega)] at he
   exact absurd he this
theorem outerTo_false (l : List UInt8) (q : Bool) {k n : Nat} (h : outerTo l q k = false) (hk : k ≤ n) : outerTo l q n = false := by
 unfold outerTo at h ⊢
 cases q with
 | false => rfl
 | true =>
  rw [Bool.true_and] at h ⊢
  rw [List.all_eq_false] at h ⊢
  obtain ⟨i, hi, h⟩ := h
  exact ⟨i, List.mem_range.2 (by have := List.mem_range.1 hi; omega), h⟩
theorem innerTo_false (l : List UInt8) (i : Nat) {k n : Nat} (h : innerTo l i k = false) (hk : k ≤ n) : innerTo l i n = false := by
 unfold innerTo at h ⊢
 cases hq : letterB (l.getD i 0) with
 | false => rfl
 | true =>
  rw [hq, Bool.true_and] at h
  rw [Bool.true_and]
  rw [List.all_eq_false] at h ⊢
  obtain ⟨j, hj, h⟩ := h
  exact ⟨j, List.mem_range.2 (by have := List.mem_range.1 hj; omega), h⟩
def lettersR (s : ByteArray) (lo hi : Int) : Bool := (decide (lo ≤ (s.size : Int)) && decide ((s.size : Int) ≤ hi)) && lettersB s.data.toList
set_option maxRecDepth 100000 in
set_option maxHeartbeats 2000000 in
theorem rletters_any (s : ByteArray) (lo hi : Int) (w : World) (hs : s.size ≤ 9223372036854775807) : Calls Try.prog 53 #[.string s, .int .i64 lo, .int .i64 hi] w fun e w' => e = .returned (.bool (lettersR s lo hi)) ∧ Below w.heap.size w w' := by
 have hlen : s.data.toList.length = s.size := by simp
 have HL := hid hlen
 clear hlen
 obtain ⟨q, hq⟩ : ∃ q, (decide (lo ≤ (s.size : Int)) && decide ((s.size : Int) ≤ hi)) = q := ⟨_, rfl⟩
 have HQ := hid hq
 clear hq
 refine enterE Try.func53 rfl Try.ntmps53 (by simp) (fun a hE => ?_); simp only [envOf, Nat.zero_add, Nat.reduceAdd] at hE
 (repeat with_reducible first|refine ctl ?_|refine miss ?_)
 refine Rs 1 fun Q' K hK => ?_
 refine Lp fun K' hK' => ?_
 refine op0 fun ρ qc qf qg => ?_; go_simp; (try clear qc qf qg)
 refine Ln hE hK' fun a_1 hE_1 => ?_; clear hK' K' hE a
 refine late_done [0, 1, 2] hE_1 hK (fun a hE => ?_); clear hK K Q' hE_1; simp only [lk, pick, Nat.reduceEqDiff, ↓reduceIte] at hE
 (repeat with_reducible first|refine ctl ?_|refine miss ?_)
 refine Rs 6 fun Q' K hK => ?_
 refine Lp fun K' hK' => ?_
 have r0 := hE.at 0 rfl; refine op1 r0 fun ρ qc qf qg q0 => ?_; go_simp; (try clear qc qf qg r0 q0)
 refine Ln hE hK' fun a_1 hE_1 => ?_; clear hK' K' hE a
 refine Lp fun K' hK' => ?_
 have r10 := hE_1.at 10 rfl; refine op1 r10 fun ρ qc qf qg q10 => ?_; go_simp; (try go_bits); (try clear qc qf qg r10 q10)
 refine Ln hE_1 hK' fun a_2 hE_2 => ?_; clear hK' K' hE_1
 refine Lp fun K' hK' => ?_
 have r1 := hE_2.at 1 rfl; refine op1 r1 fun ρ qc qf qg q1 => ?_; go_simp; (try clear qc qf qg r1 q1)
 refine Ln hE_2 hK' fun a_3 hE_3 => ?_; clear hK' K' hE_2
 refine Lp fun K' hK' => ?_
 have r2 := hE_3.at 2 rfl; refine op1 r2 fun ρ qc qf qg q2 => ?_; go_simp; (try clear qc qf qg r2 q2)
 refine Ln hE_3 hK' fun a_4 hE_4 => ?_; clear hK' K' hE_3
 refine Lp fun K' hK' => ?_
 have r11 := hE_4.at 11 rfl; have r12 := hE_4.at 12 rfl; have r13 := hE_4.at 13 rfl
 refine op3 r11 r12 r13 fun ρ qc qf qg q11 q12 q13 => ?_; go_simp; (try go_bits); (try clear qc qf qg r11 q11 r12 q12 r13 q13)
 go_at_call 25; refine (between_any _ _ _ _).mono ?_; rw [HQ.out]; rintro e w1 ⟨rfl, rfl⟩
 (try clear r11 r12 r13)
 refine Ln hE_4 hK' fun a_5 hE_5 => ?_; clear hK' K' hE_4
 refine Lp fun K' hK' => ?_
 have r14 := hE_5.at 14 rfl; refine op1 r14 fun ρ qc qf qg q14 => ?_; go_simp; (try clear qc qf qg r14 q14)
 refine Ln hE_5 hK' fun a_6 hE_6 => ?_; clear hK' K' hE_5
 refine late_done [0, 7] hE_6 hK (fun a hE => ?_); clear hK K Q' hE_6; simp only [lk, pick, Nat.reduceEqDiff, ↓reduceIte] at hE
 (repeat with_reducible first|refine ctl ?_|refine miss ?_)
 refine Rs 1 fun Q' K hK => ?_
 refine Lp fun K' hK' => ?_
 refine op0 fun ρ qc qf qg => ?_; go_simp; (try clear qc qf qg)
 refine Ln hE hK' fun a_1 hE_1 => ?_; clear hK' K' hE a
 refine late_done [0, 7, 8] hE_1 hK (fun a hE => ?_); clear hK K Q' hE_1; simp only [lk, pick, Nat.reduceEqDiff, ↓reduceIte] at hE
 (repeat with_reducible first|refine ctl ?_|refine miss ?_)
 refine loop_st (fun (k : Nat) a w' => k ≤ s.size ∧ Fits 50 [(0, .string s), (7, .bool (outerTo s.data.toList q k)), (8, .int .i64 k)] a ∧ Below w.heap.size w w') (fun k => s.size - k) 0 ?_ (fun k a w' hI => ?_)
 ·exact ⟨Nat.zero_le _, by simpa [outerTo] using hE, Below.refl _ _⟩
 clear hE
 obtain ⟨hk, hE, hB⟩ := hI
 obtain ⟨wr, hwr⟩ : ∃ x, x = w' := ⟨_, rfl⟩
 subst hwr
 obtain ⟨f, hf⟩ : ∃ f, outerTo s.data.toList q k = f := ⟨_, rfl⟩
 rw [hf] at hE
 have HF := hid hf
 clear hf
 (repeat with_reducible first|refine ctl ?_|refine miss ?_)
 refine Rs 7 fun Q' K hK => ?_
 refine Lp fun K' hK' => ?_
 have r7 := hE.at 7 rfl; refine op1 r7 fun ρ qc qf qg q7 => ?_; go_simp; (try clear qc qf qg r7 q7)
 refine Ln hE hK' fun a_1 hE_1 => ?_; clear hK' K' hE a
 refine Lp fun K' hK' => ?_
 have r15 := hE_1.at 15 rfl; refine op1 r15 fun ρ qc qf qg q15 => ?_; go_simp; (try clear qc qf qg r15 q15)
 refine Ln hE_1 hK' fun a_2 hE_2 => ?_; clear hK' K' hE_1
 refine Late.may hE_2 (d' := 17) (by decide) (by (first | (simp only [List.getElem?_toArray, List.getElem?_cons_succ, List.getElem?_cons_zero]; rfl) | rfl)) rfl rfl (d := 16) (by kernel_rfl) rfl ?_ (fun hx K' hK' => ?_) (fun a_3 hE_3 => ?_); rotate_left 1
 ·have hx0 := hx; (try simp only [beq_iff_eq, Bool.and_eq_true, Bool.beq_true, Bool.beq_false, Bool.not_eq_true', beq_eq_false_iff_ne] at hx); have r8 := hE_2.at 8 rfl; clear hx0
  refine op1 r8 fun ρ qc qf qg q8 => ?_; go_simp;
  refine put_eq hK' ?_; rfl
 clear hE_2
 refine Late.may hE_3 (d' := 18) (by decide) (by (first | (simp only [List.getElem?_toArray, List.getElem?_cons_succ, List.getElem?_cons_zero]; rfl) | rfl)) rfl rfl (d := 16) (by kernel_rfl) rfl ?_ (fun hx K' hK' => ?_) (fun a_4 hE_4 => ?_); rotate_left 1
 ·have hx0 := hx; (try simp only [beq_iff_eq, Bool.and_eq_true, Bool.beq_true, Bool.beq_false, Bool.not_eq_true', beq_eq_false_iff_ne] at hx); have r0 := hE_3.at 0 rfl; clear hx0
  refine op1 r0 fun ρ qc qf qg q0 => ?_; go_simp;
  refine put_eq hK' ?_; rfl
 clear hE_3
 refine Late.may hE_4 (d' := 19) (by decide) (by (first | (simp only [List.getElem?_toArray, List.getElem?_cons_succ, List.getElem?_cons_zero]; rfl) | rfl)) rfl rfl (d := 16) (by kernel_rfl) rfl ?_ (fun hx K' hK' => ?_) (fun a_5 hE_5 => ?_); rotate_left 1
 ·have hx0 := hx; (try simp only [beq_iff_eq, Bool.and_eq_true, Bool.beq_true, Bool.beq_false, Bool.not_eq_true', beq_eq_false_iff_ne] at hx); have r18 := hE_4.at 18 rfl; (try simp only [hx0, may_true] at r18); clear hx0
  refine op1 r18 fun ρ qc qf qg q18 => ?_; go_simp; (try go_bits);
  refine put_eq hK' ?_; rfl
 clear hE_4
 refine Late.may hE_5 (d' := 20) (by decide) (by (first | (simp only [List.getElem?_toArray, List.getElem?_cons_succ, List.getElem?_cons_zero]; rfl) | rfl)) rfl rfl (d := 16) (by kernel_rfl) rfl ?_ (fun hx K' hK' => ?_) (fun a_6 hE_6 => ?_); rotate_left 1
 ·have hx0 := hx; (try simp only [beq_iff_eq, Bool.and_eq_true, Bool.beq_true, Bool.beq_false, Bool.not_eq_true', beq_eq_false_iff_ne] at hx); have r17 := hE_5.at 17 rfl; have r19 := hE_5.at 19 rfl; (try simp only [hx0, may_true] at r17); (try simp only [hx0, may_true] at r19); clear hx0
  refine op2 r17 r19 fun ρ qc qf qg q17 q19 => ?_; go_simp; (try go_bits);
  refine put_eq hK' ?_; rfl
 clear hE_5
 refine Lp fun K' hK' => ?_
 have r16 := hE_6.at 16 rfl; have r20 := hE_6.at 20 rfl
 refine op2 r16 r20 fun ρ qc qf qg q16 q20 => ?_; go_simp; (try go_bits); (try clear qc qf qg r16 q16 r20 q20)
 (try clear r16 r20)
 refine Ln hE_6 hK' fun a_7 hE_7 => ?_; clear hK' K' hE_6
 refine late_done [0, 7, 8, 21] hE_7 hK (fun a hE => ?_); clear hK K Q' hE_7; simp only [lk, pick, Nat.reduceEqDiff, ↓reduceIte] at hE
 (repeat with_reducible first|refine ctl ?_|refine miss ?_)
 refine cond_part hE (t := 21) rfl (fun h => ?_) (fun h => ?_)
 ·have hb : f = true ∧ k < s.size := by simpa using h
  obtain ⟨hft, hlt⟩ := hb
  clear h
  have hltI : (k : Int) < s.size := by omega
  have hbk := byte_at s k hlt
  have HBk := hid hbk
  clear hbk
  (repeat with_reducible first|refine ctl ?_|refine miss ?_)
  refine Rs 11 fun Q' K hK => ?_
  refine Lp fun K' hK' => ?_
  have r0 := hE.at 0 rfl; refine op1 r0 fun ρ qc qf qg q0 => ?_; go_simp; (try clear qc qf qg r0 q0)
  refine Ln hE hK' fun a_1 hE_1 => ?_; clear hK' K' hE a
  refine Lp fun K' hK' => ?_
  have r8 := hE_1.at 8 rfl; refine op1 r8 fun ρ qc qf qg q8 => ?_; go_simp; (try clear qc qf qg r8 q8)
  refine Ln hE_1 hK' fun a_2 hE_2 => ?_; clear hK' K' hE_1
  refine Lp fun K' hK' => ?_
  have r24 := hE_2.at 24 rfl; have r25 := hE_2.at 25 rfl
  refine op2 r24 r25 fun ρ qc qf qg q24 q25 => ?_; go_simp; (try go_bits); (try clear qc qf qg r24 q24 r25 q25)
  (try clear r24 r25)
  refine Ln hE_2 hK' fun a_3 hE_3 => ?_; clear hK' K' hE_2
  refine Lp fun K' hK' => ?_
  have r26 := hE_3.at 26 rfl; refine op1 r26 fun ρ qc qf qg q26 => ?_; go_simp; (try go_bits); (try clear qc qf qg r26 q26)
  refine Ln hE_3 hK' fun a_4 hE_4 => ?_; clear hK' K' hE_3
  refine Lp fun K' hK' => ?_
  have r27 := hE_4.at 27 rfl; refine op1 r27 fun ρ qc qf qg q27 => ?_; go_simp; (try clear qc qf qg r27 q27)
  refine Ln hE_4 hK' fun a_5 hE_5 => ?_; clear hK' K' hE_4
  refine Late.may hE_5 (d' := 29) (by decide) (by (first | (simp only [List.getElem?_toArray, List.getElem?_cons_succ, List.getElem?_cons_zero]; rfl) | rfl)) rfl rfl (d := 28) (by kernel_rfl) rfl ?_ (fun hx K' hK' => ?_) (fun a_6 hE_6 => ?_); rotate_left 1
  ·have hx0 := hx; (try simp only [beq_iff_eq, Bool.and_eq_true, Bool.beq_true, Bool.beq_false, Bool.not_eq_true', beq_eq_false_iff_ne] at hx); have r0 := hE_5.at 0 rfl; clear hx0
   refine op1 r0 fun ρ qc qf qg q0 => ?_; go_simp;
   refine put_eq hK' ?_; rfl
  clear hE_5
  refine Late.may hE_6 (d' := 30) (by decide) (by (first | (simp only [List.getElem?_toArray, List.getElem?_cons_succ, List.getElem?_cons_zero]; rfl) | rfl)) rfl rfl (d := 28) (by kernel_rfl) rfl ?_ (fun hx K' hK' => ?_) (fun a_7 hE_7 => ?_); rotate_left 1
  ·have hx0 := hx; (try simp only [beq_iff_eq, Bool.and_eq_true, Bool.beq_true, Bool.beq_false, Bool.not_eq_true', beq_eq_false_iff_ne] at hx); have r8 := hE_6.at 8 rfl; clear hx0
   refine op1 r8 fun ρ qc qf qg q8 => ?_; go_simp;
   refine put_eq hK' ?_; rfl
  clear hE_6
  refine Late.may hE_7 (d' := 31) (by decide) (by (first | (simp only [List.getElem?_toArray, List.getElem?_cons_succ, List.getElem?_cons_zero]; rfl) | rfl)) rfl rfl (d := 28) (by kernel_rfl) rfl ?_ (fun hx K' hK' => ?_) (fun a_8 hE_8 => ?_); rotate_left 1
  ·have hx0 := hx; (try simp only [beq_iff_eq, Bool.and_eq_true, Bool.beq_true, Bool.beq_false, Bool.not_eq_true', beq_eq_false_iff_ne] at hx); have r29 := hE_7.at 29 rfl; have r30 := hE_7.at 30 rfl; (try simp only [hx0, may_true] at r29); (try simp only [hx0, may_true] at r30); clear hx0
   refine op2 r29 r30 fun ρ qc qf qg q29 q30 => ?_; go_simp; (try go_bits);
   refine put_eq hK' ?_; rfl
  clear hE_7
  refine Late.may hE_8 (d' := 32) (by decide) (by (first | (simp only [List.getElem?_toArray, List.getElem?_cons_succ, List.getElem?_cons_zero]; rfl) | rfl)) rfl rfl (d := 28) (by kernel_rfl) rfl ?_ (fun hx K' hK' => ?_) (fun a_9 hE_9 => ?_); rotate_left 1
  ·have hx0 := hx; (try simp only [beq_iff_eq, Bool.and_eq_true, Bool.beq_true, Bool.beq_false, Bool.not_eq_true', beq_eq_false_iff_ne] at hx); have r31 := hE_8.at 31 rfl; (try simp only [hx0, may_true] at r31); clear hx0
   refine op1 r31 fun ρ qc qf qg q31 => ?_; go_simp; (try go_bits);
   refine put_eq hK' ?_; rfl
  clear hE_8
  refine Lp fun K' hK' => ?_
  have r28 := hE_9.at 28 rfl; have r32 := hE_9.at 32 rfl
  refine op2 r28 r32 fun ρ qc qf qg q28 q32 => ?_; go_simp; (try go_bits); (try clear qc qf qg r28 q28 r32 q32)
  (try clear r28 r32)
  refine Ln hE_9 hK' fun a_10 hE_10 => ?_; clear hK' K' hE_9
  refine Lp fun K' hK' => ?_
  have r33 := hE_10.at 33 rfl; refine op1 r33 fun ρ qc qf qg q33 => ?_; go_simp; (try clear qc qf qg r33 q33)
  refine Ln hE_10 hK' fun a_11 hE_11 => ?_; clear hK' K' hE_10
  refine late_done [0, 7, 8] hE_11 hK (fun a hE => ?_); clear hK K Q' hE_11; simp only [lk, pick, Nat.reduceEqDiff, ↓reduceIte] at hE
  replace hE := hE.turn 7 (v' := .bool (innerTo s.data.toList k 0)) rfl (by
   unfold innerTo letterB; rw [HBk.out, List.range_zero, List.all_nil, Bool.and_true]
   by_cases h9 : 97 ≤ ((s[k]).toNat : Int)
   ·rw [if_pos h9, decide_eq_true h9]; rfl
   ·rw [if_neg h9, decide_eq_false h9]; rfl)
  (repeat with_reducible first|refine ctl ?_|refine miss ?_)
  refine Rs 1 fun Q' K hK => ?_
  refine Lp fun K' hK' => ?_
  refine op0 fun ρ qc qf qg => ?_; go_simp; (try clear qc qf qg)
  refine Ln hE hK' fun a_1 hE_1 => ?_; clear hK' K' hE a
  refine late_done [0, 7, 8, 9] hE_1 hK (fun a hE => ?_); clear hK K Q' hE_1; simp only [lk, pick, Nat.reduceEqDiff, ↓reduceIte] at hE
  (repeat with_reducible first|refine ctl ?_|refine miss ?_)
  refine loop_st (fun (j : Nat) a w' => j ≤ k ∧ Fits 50 [(0, .string s), (7, .bool (innerTo s.data.toList k j)), (8, .int .i64 k), (9, .int .i64 j)] a ∧ Below w.heap.size w w') (fun j => k - j) 0 ?_ (fun j a w' hI => ?_)
  ·exact ⟨Nat.zero_le _, by simpa using hE, hB⟩
  clear hE hB
  obtain ⟨hj, hE, hB⟩ := hI
  obtain ⟨wi, hwi⟩ : ∃ x, x = w' := ⟨_, rfl⟩
  subst hwi
  obtain ⟨g, hg⟩ : ∃ g, innerTo s.data.toList k j = g := ⟨_, rfl⟩
  rw [hg] at hE
  have HG := hid hg
  clear hg
  (repeat with_reducible first|refine ctl ?_|refine miss ?_)
  refine Rs 6 fun Q' K hK => ?_
  refine Lp fun K' hK' => ?_
  have r7 := hE.at 7 rfl; refine op1 r7 fun ρ qc qf qg q7 => ?_; go_simp; (try clear qc qf qg r7 q7)
  refine Ln hE hK' fun a_1 hE_1 => ?_; clear hK' K' hE a
  refine Lp fun K' hK' => ?_
  have r34 := hE_1.at 34 rfl; refine op1 r34 fun ρ qc qf qg q34 => ?_; go_simp; (try clear qc qf qg r34 q34)
  refine Ln hE_1 hK' fun a_2 hE_2 => ?_; clear hK' K' hE_1
  refine Late.may hE_2 (d' := 36) (by decide) (by (first | (simp only [List.getElem?_toArray, List.getElem?_cons_succ, List.getElem?_cons_zero]; rfl) | rfl)) rfl rfl (d := 35) (by kernel_rfl) rfl ?_ (fun hx K' hK' => ?_) (fun a_3 hE_3 => ?_); rotate_left 1
  ·have hx0 := hx; (try simp only [beq_iff_eq, Bool.and_eq_true, Bool.beq_true, Bool.beq_false, Bool.not_eq_true', beq_eq_false_iff_ne] at hx); have r9 := hE_2.at 9 rfl; clear hx0
   refine op1 r9 fun ρ qc qf qg q9 => ?_; go_simp;
   refine put_eq hK' ?_; rfl
  clear hE_2
  refine Late.may hE_3 (d' := 37) (by decide) (by (first | (simp only [List.getElem?_toArray, List.getElem?_cons_succ, List.getElem?_cons_zero]; rfl) | rfl)) rfl rfl (d := 35) (by kernel_rfl) rfl ?_ (fun hx K' hK' => ?_) (fun a_4 hE_4 => ?_); rotate_left 1
  ·have hx0 := hx; (try simp only [beq_iff_eq, Bool.and_eq_true, Bool.beq_true, Bool.beq_false, Bool.not_eq_true', beq_eq_false_iff_ne] at hx); have r8 := hE_3.at 8 rfl; clear hx0
   refine op1 r8 fun ρ qc qf qg q8 => ?_; go_simp;
   refine put_eq hK' ?_; rfl
  clear hE_3
  refine Late.may hE_4 (d' := 38) (by decide) (by (first | (simp only [List.getElem?_toArray, List.getElem?_cons_succ, List.getElem?_cons_zero]; rfl) | rfl)) rfl rfl (d := 35) (by kernel_rfl) rfl ?_ (fun hx K' hK' => ?_) (fun a_5 hE_5 => ?_); rotate_left 1
  ·have hx0 := hx; (try simp only [beq_iff_eq, Bool.and_eq_true, Bool.beq_true, Bool.beq_false, Bool.not_eq_true', beq_eq_false_iff_ne] at hx); have r36 := hE_4.at 36 rfl; have r37 := hE_4.at 37 rfl; (try simp only [hx0, may_true] at r36); (try simp only [hx0, may_true] at r37); clear hx0
   refine op2 r36 r37 fun ρ qc qf qg q36 q37 => ?_; go_simp; (try go_bits);
   refine put_eq hK' ?_; rfl
  clear hE_4
  refine Lp fun K' hK' => ?_
  have r35 := hE_5.at 35 rfl; have r38 := hE_5.at 38 rfl
  refine op2 r35 r38 fun ρ qc qf qg q35 q38 => ?_; go_simp; (try go_bits); (try clear qc qf qg r35 q35 r38 q38)
  (try clear r35 r38)
  refine Ln hE_5 hK' fun a_6 hE_6 => ?_; clear hK' K' hE_5
  refine late_done [0, 7, 8, 9, 39] hE_6 hK (fun a hE => ?_); clear hK K Q' hE_6; simp only [lk, pick, Nat.reduceEqDiff, ↓reduceIte] at hE
  (repeat with_reducible first|refine ctl ?_|refine miss ?_)
  refine cond_part hE (t := 39) rfl (fun h => ?_) (fun h => ?_)
  ·have hb : g = true ∧ j < k := by simpa using h
   obtain ⟨hgt, hjk⟩ := hb
   clear h
   have hjs : j < s.size := by omega
   have hjI : (j : Int) < s.size := by omega
   have hbj := byte_at s j hjs
   have HBj := hid hbj
   clear hbj
   (repeat with_reducible first|refine ctl ?_|refine miss ?_)
   refine Rd [] (fun wt => Below wi.heap.size wi wt) (fun w1 w2 => Below w1.heap.size w1 w2) [(0, some 42), (1, some 43), (2, some 44), (3, some 45), (4, some 46), (5, some 47), (6, some 48), (7, some 7)] [42, 43, 44, 45, 46, 47, 48, 7] #[true, true, true, true, true, true, true, true] [0, 8, 9] hE ((Below.refl _ _).drew) fun Q' K hK => ?_
   refine SeqOps.val ?_ (Sp fun ax wx hS hT' hd K' hK' => ?_) ?_; rotate_left 1
   ·have r0 := hS.at 0 (by decide) (hE.at 0 rfl); obtain ⟨hcT, hfT, hlT, hmT, hwT, hzT⟩ := bT hT'
    refine op1 r0 fun ρ qc qf qg q0 => ?_; go_simp;
    refine hK'.out _ _ _ rfl ?_ hT' (Below.refl _ _); rfl
   refine SeqOps.val ?_ (Sp fun ax wx hS hT' hd K' hK' => ?_) ?_; rotate_left 1
   ·have r9 := hS.at 9 (by decide) (hE.at 9 rfl); obtain ⟨hcT, hfT, hlT, hmT, hwT, hzT⟩ := bT hT'
    refine op1 r9 fun ρ qc qf qg q9 => ?_; go_simp;
    refine hK'.out _ _ _ rfl ?_ hT' (Below.refl _ _); rfl
   refine SeqOps.val ?_ (Sp fun ax wx hS hT' hd K' hK' => ?_) ?_; rotate_left 1
   ·have r42 := Tv hd 1 0 42; have r43 := Tv hd 0 1 43; obtain ⟨hcT, hfT, hlT, hmT, hwT, hzT⟩ := bT hT'
    refine op2 r42 r43 fun ρ qc qf qg q42 q43 => ?_; go_simp; (try go_bits);
    refine hK'.out _ _ _ rfl ?_ hT' (Below.refl _ _); rfl
   refine SeqOps.val ?_ (Sp fun ax wx hS hT' hd K' hK' => ?_) ?_; rotate_left 1
   ·have r0 := hS.at 0 (by decide) (hE.at 0 rfl); obtain ⟨hcT, hfT, hlT, hmT, hwT, hzT⟩ := bT hT'
    refine op1 r0 fun ρ qc qf qg q0 => ?_; go_simp;
    refine hK'.out _ _ _ rfl ?_ hT' (Below.refl _ _); rfl
   refine SeqOps.val ?_ (Sp fun ax wx hS hT' hd K' hK' => ?_) ?_; rotate_left 1
   ·have r8 := hS.at 8 (by decide) (hE.at 8 rfl); obtain ⟨hcT, hfT, hlT, hmT, hwT, hzT⟩ := bT hT'
    refine op1 r8 fun ρ qc qf qg q8 => ?_; go_simp;
    refine hK'.out _ _ _ rfl ?_ hT' (Below.refl _ _); rfl
   refine SeqOps.val ?_ (Sp fun ax wx hS hT' hd K' hK' => ?_) ?_; rotate_left 1
   ·have r45 := Tv hd 1 3 45; have r46 := Tv hd 0 4 46; obtain ⟨hcT, hfT, hlT, hmT, hwT, hzT⟩ := bT hT'
    refine op2 r45 r46 fun ρ qc qf qg q45 q46 => ?_; go_simp; (try go_bits);
    refine hK'.out _ _ _ rfl ?_ hT' (Below.refl _ _); rfl
   refine SeqOps.val ?_ (Sp fun ax wx hS hT' hd K' hK' => ?_) ?_; rotate_left 1
   ·have r44 := Tv hd 3 2 44; have r47 := Tv hd 0 5 47; obtain ⟨hcT, hfT, hlT, hmT, hwT, hzT⟩ := bT hT'
    refine op2 r44 r47 fun ρ qc qf qg q44 q47 => ?_; go_simp; (try go_bits);
    refine hK'.out _ _ _ rfl ?_ hT' (Below.refl _ _); rfl
   refine SeqOps.val ?_ (Sp fun ax wx hS hT' hd K' hK' => ?_) ?_; rotate_left 1
   ·have r48 := Tv hd 0 6 48; obtain ⟨hcT, hfT, hlT, hmT, hwT, hzT⟩ := bT hT'
    refine op1 r48 fun ρ qc qf qg q48 => ?_; go_simp;
    refine hK'.out _ _ _ rfl ?_ hT' (Below.refl _ _); rfl
   refine SeqOps.nil ?_
   intro wj hBl; (refine fun v h => ?_; obtain rfl := h); (refine fun v h => ?_; obtain rfl := h); (refine fun v h => ?_; obtain rfl := h); (refine fun v h => ?_; obtain rfl := h); (refine fun v h => ?_; obtain rfl := h); (refine fun v h => ?_; obtain rfl := h); (refine fun v h => ?_; obtain rfl := h); (refine fun v h => ?_; obtain rfl := h);
   refine fun ax hEx => ?_
   simp only [lk, pick, Nat.reduceEqDiff, ↓reduceIte] at hEx
   refine late_done [0, 7, 8, 9] hEx hK (fun a hE => ?_); clear hK K Q' hEx; simp only [lk, pick, Nat.reduceEqDiff, ↓reduceIte] at hE
   replace hE := hE.turn 7 (v' := .bool (innerTo s.data.toList k (j + 1))) rfl (by
    rw [innerTo_succ, HG.out, hgt, Bool.true_and, HBj.out, HBk.out]
    congr 1; rw [Bool.eq_iff_iff]; simp [← UInt8.toNat_inj]; omega)
   have hBj := hB.trans (hBl.mono hB.size)
   (repeat with_reducible first|refine ctl ?_|refine miss ?_)
   refine Rs 3 fun Q' K hK => ?_
   refine Lp fun K' hK' => ?_
   have r9 := hE.at 9 rfl; refine op1 r9 fun ρ qc qf qg q9 => ?_; go_simp; (try clear qc qf qg r9 q9)
   refine Ln hE hK' fun a_1 hE_1 => ?_; clear hK' K' hE a
   refine Lp fun K' hK' => ?_
   have r40 := hE_1.at 40 rfl; refine op1 r40 fun ρ qc qf qg q40 => ?_; go_simp; (try go_bits); (try simp (disch := omega) only [IntWalk.i64_in]); (try clear qc qf qg r40 q40)
   refine Ln hE_1 hK' fun a_2 hE_2 => ?_; clear hK' K' hE_1
   refine Lp fun K' hK' => ?_
   have r41 := hE_2.at 41 rfl; refine op1 r41 fun ρ qc qf qg q41 => ?_; go_simp; (try clear qc qf qg r41 q41)
   refine Ln hE_2 hK' fun a_3 hE_3 => ?_; clear hK' K' hE_2
   refine late_done [0, 7, 8, 9] hE_3 hK (fun a hE => ?_); clear hK K Q' hE_3; simp only [lk, pick, Nat.reduceEqDiff, ↓reduceIte] at hE
   (repeat with_reducible first|refine ctl ?_|refine miss ?_)
   exact ⟨j + 1, ⟨hjk, by simpa using hE, hBj⟩, by omega⟩
  ·have hnew : newB s.data.toList k = g := by
    rw [newB_inner _ _ (by rw [HL.out]; omega)]
    cases hgv : g with
    | false => exact innerTo_false _ _ (HG.out.trans hgv) hj
    | true =>
     rw [hgv] at h
     have h' : ¬ j < k := by simpa using h
     obtain rfl : j = k := by omega
     exact HG.out.trans hgv
   have hout : outerTo s.data.toList q (k + 1) = g := by rw [outerTo_succ, HF.out, hft, Bool.true_and, hnew]
   have HO := hid hout
   clear hnew hout h
   (repeat with_reducible first|refine ctl ?_|refine miss ?_)
   refine Rs 3 fun Q' K hK => ?_
   refine Lp fun K' hK' => ?_
   have r8 := hE.at 8 rfl; refine op1 r8 fun ρ qc qf qg q8 => ?_; go_simp; (try clear qc qf qg r8 q8)
   refine Ln hE hK' fun a_1 hE_1 => ?_; clear hK' K' hE a
   refine Lp fun K' hK' => ?_
   have r22 := hE_1.at 22 rfl; refine op1 r22 fun ρ qc qf qg q22 => ?_; go_simp; (try go_bits); (try simp (disch := omega) only [IntWalk.i64_in]); (try clear qc qf qg r22 q22)
   refine Ln hE_1 hK' fun a_2 hE_2 => ?_; clear hK' K' hE_1
   refine Lp fun K' hK' => ?_
   have r23 := hE_2.at 23 rfl; refine op1 r23 fun ρ qc qf qg q23 => ?_; go_simp; (try clear qc qf qg r23 q23)
   refine Ln hE_2 hK' fun a_3 hE_3 => ?_; clear hK' K' hE_2
   refine late_done [0, 7, 8] hE_3 hK (fun a hE => ?_); clear hK K Q' hE_3; simp only [lk, pick, Nat.reduceEqDiff, ↓reduceIte] at hE
   (repeat with_reducible first|refine ctl ?_|refine miss ?_)
   refine ⟨k + 1, ⟨hlt, ?_, hB⟩, by omega⟩
   rw [HO.out]
   simpa using hE
 ·have hnm : outerTo s.data.toList q s.data.toList.length = f := by
   cases hfv : f with
   | false => exact outerTo_false _ _ (HF.out.trans hfv) (by rw [HL.out]; exact hk)
   | true =>
    rw [hfv] at h
    have h' : ¬ k < s.size := by simpa using h
    have hk2 : k = s.data.toList.length := by rw [HL.out]; omega
    have := HF.out
    rw [hfv, hk2] at this
    exact this
  have HM := hid hnm
  clear hnm h
  (repeat with_reducible first|refine ctl ?_|refine miss ?_)
  refine Rs 2 fun Q' K hK => ?_
  refine Lp fun K' hK' => ?_
  have r7 := hE.at 7 rfl; refine op1 r7 fun ρ qc qf qg q7 => ?_; go_simp; (try clear qc qf qg r7 q7)
  refine Ln hE hK' fun a_1 hE_1 => ?_; clear hK' K' hE a
  refine Lp fun K' hK' => ?_
  have r49 := hE_1.at 49 rfl; refine op1 r49 fun ρ qc qf qg q49 => ?_; go_simp; (try clear qc qf qg r49 q49)
  refine Ln hE_1 hK' fun a_2 hE_2 => ?_; clear hK' K' hE_1
  refine late_done [6] hE_2 hK (fun a hE => ?_); clear hK K Q' hE_2; simp only [lk, pick, Nat.reduceEqDiff, ↓reduceIte] at hE
  (repeat with_reducible first|refine ctl ?_|refine miss ?_)
  refine ret_one hE rfl rfl ⟨ret_bool ?_, hB⟩
  unfold lettersR lettersB
  rw [HQ.out, ← HM.out]; rfl
end Go.Proofs.Ytbimkcjdodgojaa
