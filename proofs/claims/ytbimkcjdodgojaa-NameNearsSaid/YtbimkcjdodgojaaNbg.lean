/- Name: the law of Near and CheckEar, walked. -/
import Derived.Test.YtbimkcjdodgojaaNbf
import Derived.Test.YtbimkcjdodgojaaNw
namespace Go.Proofs.Ytbimkcjdodgojaa
set_option linter.unusedSimpArgs false
set_option linter.unusedVariables false
open Go Go.RowKit
attribute [local go_sem high] cell_set_wr
attribute [local go_sem low] cell_wr frozen_wr
attribute [local go_sem] wr_set wr_drew wr_drewN wr_alloc wr_new

set_option maxRecDepth 100000 in
set_option maxHeartbeats 2000000 in
theorem nears_any (A : Option Addr) (cap : Nat) (l : List ByteArray) (m : ByteArray) (sl : Int) (s t : ByteArray) (w : World) (hA : Arr w w.heap.size A (txts l)) (hcap : l.length ≤ cap) (hz : ∀ i (h : i < l.length), l[i].size ≤ 9223372036854775807) (hl : l.length ≤ 9223372036854775807) (hm : m.size ≤ 9223372036854775807) (hs : s.size ≤ 9223372036854775807) (ht : t.size ≤ 9223372036854775807) : Calls Try.prog 3 #[.agg #[.slice A l.length cap, .string m, .int .i64 sl], .string s, .string t] w fun e w' => e = .returned (.bool true) ∧ Below w.heap.size w w' := by
 have C1 := hid fun W hW => pNear_any A cap l m sl s t W hW hcap hl hm hs ht
 have C2 := hid fun W hW => rNear_any A cap l m sl s t W hW hz hl hm hs ht
 have C3 := hid fun W hW => pCheckEar_any A cap l m sl W hW hcap hl hm
 have C4 : Hid (∀ W, Arr W W.heap.size A (txts l) → Calls Try.prog 14 #[.agg #[.slice A l.length cap, .string m, .int .i64 sl]] W fun e w' => e = .returned (.int .i64 (earE ⟨l, m, sl⟩)) ∧ Below W.heap.size W w') := hid fun W hW => by
  have h := rCheckEar_any A cap l m sl W hW hl hm hz
  rw [ear_eq] at h
  exact h
 obtain ⟨p, hp⟩ : ∃ p, (pNearR ⟨l, m, sl⟩ s t).1 = p := ⟨_, rfl⟩
 obtain ⟨q, hq⟩ : ∃ q, (pNearR ⟨l, m, sl⟩ s t).2 = q := ⟨_, rfl⟩
 obtain ⟨r, hr⟩ : ∃ r, earE ⟨l, m, sl⟩ = r := ⟨_, rfl⟩
 rw [hp, hq] at C1 C2
 rw [hr] at C3 C4
 clear hp hq hr hz
 refine enterE Try.func3 rfl Try.ntmps3 (by simp) (fun a hE => ?_); simp only [envOf, Nat.zero_add, Nat.reduceAdd] at hE
 (repeat with_reducible first|refine ctl ?_|refine miss ?_)
 refine Rs 2 fun Q' K hK => ?_
 refine Lp fun K' hK' => ?_
 have r0 := hE.at 0 rfl; refine op1 r0 fun ρ qc qf qg q0 => ?_; go_simp; (try clear qc qf qg r0 q0)
 refine Ln hE hK' fun a_1 hE_1 => ?_; clear hK' K' hE a
 refine Lp fun K' hK' => ?_
 refine op0 fun ρ qc qf qg => ?_; go_simp; (try clear qc qf qg)
 refine Ln hE_1 hK' fun a_2 hE_2 => ?_; clear hK' K' hE_1
 refine late_done [1, 2, 3] hE_2 hK (fun a hE => ?_); clear hK K Q' hE_2; simp only [lk, pick, Nat.reduceEqDiff, ↓reduceIte] at hE
 obtain ⟨B, hBe⟩ : ∃ B, B = w.heap.size := ⟨_, rfl⟩; rw [← hBe] at hE; refine world_cut (fun wt => Below w.heap.size w wt ∧ Cells wt B [.slice A l.length cap, .string m, .int .i64 sl]) ⟨(Below.refl _ _).alloc (Nat.le_refl _) _, by rw [hBe]; exact cells_new _ _ _⟩ (fun w1 hCut => ?_); obtain ⟨hbw1, hCB⟩ := hCut; clear hBe
 have hA1 := (hA.below hbw1).more hbw1.size
 have nB := hCB.1; have cB0 := hCB.2 0 _ rfl; have cB1 := hCB.2 1 _ rfl; have cB2 := hCB.2 2 _ rfl
 (repeat with_reducible first|refine ctl ?_|refine miss ?_)
 refine Rs 9 fun Q' K hK => ?_
 refine Lp fun K' hK' => ?_
 have r3 := hE.at 3 rfl; refine op1 r3 fun ρ qc qf qg q3 => ?_; go_simp; (try clear qc qf qg r3 q3)
 refine Ln hE hK' fun a_1 hE_1 => ?_; clear hK' K' hE a
 refine Lp fun K' hK' => ?_
 have r1 := hE_1.at 1 rfl; refine op1 r1 fun ρ qc qf qg q1 => ?_; go_simp; (try clear qc qf qg r1 q1)
 refine Ln hE_1 hK' fun a_2 hE_2 => ?_; clear hK' K' hE_1
 refine Lp fun K' hK' => ?_
 have r2 := hE_2.at 2 rfl; refine op1 r2 fun ρ qc qf qg q2 => ?_; go_simp; (try clear qc qf qg r2 q2)
 refine Ln hE_2 hK' fun a_3 hE_3 => ?_; clear hK' K' hE_2
 refine Lp fun K' hK' => ?_
 have r12 := hE_3.at 12 rfl; have r13 := hE_3.at 13 rfl; have r14 := hE_3.at 14 rfl
 refine op3 r12 r13 r14 fun ρ qc qf qg q12 q13 q14 => ?_; go_simp; (try go_bits); (try clear qc qf qg r12 q12 r13 q13 r14 q14)
 go_at_call 11; refine (C1.out _ hA1).mono ?_; rintro e w2 ⟨rfl, h2⟩
 (try clear r12 r13 r14)
 refine Ln hE_3 hK' fun a_4 hE_4 => ?_; clear hK' K' hE_3
 refine Lp fun K' hK' => ?_
 have r15 := hE_4.at 15 rfl; refine op1 r15 fun ρ qc qf qg q15 => ?_; go_simp; (try clear qc qf qg r15 q15)
 refine Ln hE_4 hK' fun a_5 hE_5 => ?_; clear hK' K' hE_4
 refine Lp fun K' hK' => ?_
 have r11 := hE_5.at 11 rfl; refine op1 r11 fun ρ qc qf qg q11 => ?_; go_simp; (try clear qc qf qg r11 q11)
 refine Ln hE_5 hK' fun a_6 hE_6 => ?_; clear hK' K' hE_5
 refine Lp fun K' hK' => ?_
 have r11 := hE_6.at 11 rfl; refine op1 r11 fun ρ qc qf qg q11 => ?_; go_simp; (try clear qc qf qg r11 q11)
 refine Ln hE_6 hK' fun a_7 hE_7 => ?_; clear hK' K' hE_6
 refine Lp fun K' hK' => ?_
 have r16 := hE_7.at 16 rfl; refine op1 r16 fun ρ qc qf qg q16 => ?_; go_simp; (try clear qc qf qg r16 q16)
 refine Ln hE_7 hK' fun a_8 hE_8 => ?_; clear hK' K' hE_7
 refine Lp fun K' hK' => ?_
 have r17 := hE_8.at 17 rfl; refine op1 r17 fun ρ qc qf qg q17 => ?_; go_simp; (try clear qc qf qg r17 q17)
 refine Ln hE_8 hK' fun a_9 hE_9 => ?_; clear hK' K' hE_8
 refine late_done [1, 2, 3, 7, 8] hE_9 hK (fun a hE => ?_); clear hK K Q' hE_9; simp only [lk, pick, Nat.reduceEqDiff, ↓reduceIte] at hE
 have hb2 := hbw1.trans (h2.mono hbw1.size)
 have hA2 := (hA.below hb2).more hb2.size
 replace hCB := hCB.below h2
 clear nB cB0 cB1 cB2
 have nB := hCB.1; have cB0 := hCB.2 0 _ rfl; have cB1 := hCB.2 1 _ rfl; have cB2 := hCB.2 2 _ rfl
 (repeat with_reducible first|refine ctl ?_|refine miss ?_)
 refine Rs 9 fun Q' K hK => ?_
 refine Lp fun K' hK' => ?_
 have r3 := hE.at 3 rfl; refine op1 r3 fun ρ qc qf qg q3 => ?_; go_simp; (try clear qc qf qg r3 q3)
 refine Ln hE hK' fun a_1 hE_1 => ?_; clear hK' K' hE a
 refine Lp fun K' hK' => ?_
 have r1 := hE_1.at 1 rfl; refine op1 r1 fun ρ qc qf qg q1 => ?_; go_simp; (try clear qc qf qg r1 q1)
 refine Ln hE_1 hK' fun a_2 hE_2 => ?_; clear hK' K' hE_1
 refine Lp fun K' hK' => ?_
 have r2 := hE_2.at 2 rfl; refine op1 r2 fun ρ qc qf qg q2 => ?_; go_simp; (try clear qc qf qg r2 q2)
 refine Ln hE_2 hK' fun a_3 hE_3 => ?_; clear hK' K' hE_2
 refine Lp fun K' hK' => ?_
 have r19 := hE_3.at 19 rfl; have r20 := hE_3.at 20 rfl; have r21 := hE_3.at 21 rfl
 refine op3 r19 r20 r21 fun ρ qc qf qg q19 q20 q21 => ?_; go_simp; (try go_bits); (try clear qc qf qg r19 q19 r20 q20 r21 q21)
 go_at_call 12; refine (C2.out _ hA2).mono ?_; rintro e w3 ⟨rfl, h3⟩
 (try clear r19 r20 r21)
 refine Ln hE_3 hK' fun a_4 hE_4 => ?_; clear hK' K' hE_3
 refine Lp fun K' hK' => ?_
 have r22 := hE_4.at 22 rfl; refine op1 r22 fun ρ qc qf qg q22 => ?_; go_simp; (try clear qc qf qg r22 q22)
 refine Ln hE_4 hK' fun a_5 hE_5 => ?_; clear hK' K' hE_4
 refine Lp fun K' hK' => ?_
 have r18 := hE_5.at 18 rfl; refine op1 r18 fun ρ qc qf qg q18 => ?_; go_simp; (try clear qc qf qg r18 q18)
 refine Ln hE_5 hK' fun a_6 hE_6 => ?_; clear hK' K' hE_5
 refine Lp fun K' hK' => ?_
 have r18 := hE_6.at 18 rfl; refine op1 r18 fun ρ qc qf qg q18 => ?_; go_simp; (try clear qc qf qg r18 q18)
 refine Ln hE_6 hK' fun a_7 hE_7 => ?_; clear hK' K' hE_6
 refine Lp fun K' hK' => ?_
 have r23 := hE_7.at 23 rfl; refine op1 r23 fun ρ qc qf qg q23 => ?_; go_simp; (try clear qc qf qg r23 q23)
 refine Ln hE_7 hK' fun a_8 hE_8 => ?_; clear hK' K' hE_7
 refine Lp fun K' hK' => ?_
 have r24 := hE_8.at 24 rfl; refine op1 r24 fun ρ qc qf qg q24 => ?_; go_simp; (try clear qc qf qg r24 q24)
 refine Ln hE_8 hK' fun a_9 hE_9 => ?_; clear hK' K' hE_8
 refine late_done [3, 7, 8, 9, 10] hE_9 hK (fun a hE => ?_); clear hK K Q' hE_9; simp only [lk, pick, Nat.reduceEqDiff, ↓reduceIte] at hE
 have hb3 := hb2.trans (h3.mono hb2.size)
 have hA3 := (hA.below hb3).more hb3.size
 replace hCB := hCB.below h3
 clear nB cB0 cB1 cB2
 have nB := hCB.1; have cB0 := hCB.2 0 _ rfl; have cB1 := hCB.2 1 _ rfl; have cB2 := hCB.2 2 _ rfl
 (repeat with_reducible first|refine ctl ?_|refine miss ?_)
 refine Rd [18] (fun wt => Below w3.heap.size w3 wt) (fun w1 w2 => Below w1.heap.size w1 w2) [(0, some 25), (1, some 26), (2, some 27), (3, some 28), (4, some 29), (5, some 30), (6, some 31), (7, some 32), (8, some 33), (9, some 34), (10, some 35), (11, some 36), (12, some 37), (13, some 38), (14, some 39), (15, some 40), (16, some 41), (17, some 42)] [25, 26, 27, 28, 29, 30, 31, 32, 33, 34, 35, 36, 37, 38, 39, 40, 41, 42] #[true, true, true, true, true, true, true, true, true, true, true, true, true, true, true, true, true, true, false] [6] hE ((Below.refl _ _).drew) fun Q' K hK => ?_
 refine SeqOps.val ?_ (Sp fun ax wx hS hT' hd K' hK' => ?_) ?_; rotate_left 1
 ·have r7 := hS.at 7 (by decide) (hE.at 7 rfl); obtain ⟨hcT, hfT, hlT, hmT, hwT, hzT⟩ := bT hT'
  refine op1 r7 fun ρ qc qf qg q7 => ?_; go_simp;
  refine hK'.out _ _ _ rfl ?_ hT' (Below.refl _ _); rfl
 refine SeqOps.val ?_ (Sp fun ax wx hS hT' hd K' hK' => ?_) ?_; rotate_left 1
 ·have r9 := hS.at 9 (by decide) (hE.at 9 rfl); obtain ⟨hcT, hfT, hlT, hmT, hwT, hzT⟩ := bT hT'
  refine op1 r9 fun ρ qc qf qg q9 => ?_; go_simp;
  refine hK'.out _ _ _ rfl ?_ hT' (Below.refl _ _); rfl
 refine SeqOps.val ?_ (Sp fun ax wx hS hT' hd K' hK' => ?_) ?_; rotate_left 1
 ·have r25 := Tv hd 1 0 25; have r26 := Tv hd 0 1 26; obtain ⟨hcT, hfT, hlT, hmT, hwT, hzT⟩ := bT hT'
  refine op2 r25 r26 fun ρ qc qf qg q25 q26 => ?_; go_simp; (try go_bits);
  refine hK'.out _ _ _ rfl ?_ hT' (Below.refl _ _); rfl
 refine SeqOps.val ?_ (Sp fun ax wx hS hT' hd K' hK' => ?_) ?_; rotate_left 1
 ·have r27 := Tv hd 0 2 27; obtain ⟨hcT, hfT, hlT, hmT, hwT, hzT⟩ := bT hT'
  refine op1 r27 fun ρ qc qf qg q27 => ?_; go_simp;
  refine hK'.out _ _ _ rfl ?_ hT' (Below.refl _ _); rfl
 refine SeqOps.val ?_ (Sy 0 28 fun ax wx hS hT' hd K' hK' => ?_) ?_; rotate_left 1
 ·have r8 := hS.at 8 (by decide) (hE.at 8 rfl); obtain ⟨hcT, hfT, hlT, hmT, hwT, hzT⟩ := bT hT'
  refine op1 r8 fun ρ qc qf qg q8 => ?_; go_simp;
  refine hK'.out _ _ _ rfl ?_ hT' (Below.refl _ _); rfl
 refine SeqOps.val ?_ (Sy 1 28 fun ax wx hS hT' hd K' hK' => ?_) ?_; rotate_left 1
 ·have r10 := hS.at 10 (by decide) (hE.at 10 rfl); obtain ⟨hcT, hfT, hlT, hmT, hwT, hzT⟩ := bT hT'
  refine op1 r10 fun ρ qc qf qg q10 => ?_; go_simp;
  refine hK'.out _ _ _ rfl ?_ hT' (Below.refl _ _); rfl
 refine SeqOps.val ?_ (Sy 2 28 fun ax wx hS hT' hd K' hK' => ?_) ?_; rotate_left 1
 ·have r29 := Tv hd 1 4 29; have r30 := Tv hd 0 5 30; obtain ⟨hcT, hfT, hlT, hmT, hwT, hzT⟩ := bT hT'
  refine op2 r29 r30 fun ρ qc qf qg q29 q30 => ?_; go_simp; (try go_bits);
  refine hK'.out _ _ _ rfl ?_ hT' (Below.refl _ _); rfl
 refine SeqOps.val ?_ (Sp fun ax wx hS hT' hd K' hK' => ?_) ?_; rotate_left 1
 ·have r28 := Tv hd 3 3 28; have r31 := Tv hd 0 6 31; obtain ⟨hcT, hfT, hlT, hmT, hwT, hzT⟩ := bT hT'
  refine op2 r28 r31 fun ρ qc qf qg q28 q31 => ?_; go_simp; (try go_bits);
  refine hK'.out _ _ _ rfl ?_ hT' (Below.refl _ _); rfl
 refine SeqOps.val ?_ (Sp fun ax wx hS hT' hd K' hK' => ?_) ?_; rotate_left 1
 ·have r32 := Tv hd 0 7 32; obtain ⟨hcT, hfT, hlT, hmT, hwT, hzT⟩ := bT hT'
  refine op1 r32 fun ρ qc qf qg q32 => ?_; go_simp;
  refine hK'.out _ _ _ rfl ?_ hT' (Below.refl _ _); rfl
 refine SeqOps.val ?_ (Sy 0 33 fun ax wx hS hT' hd K' hK' => ?_) ?_; rotate_left 1
 ·have r3 := hS.at 3 (by decide) (hE.at 3 rfl); obtain ⟨hcT, hfT, hlT, hmT, hwT, hzT⟩ := bT hT'
  refine op1 r3 fun ρ qc qf qg q3 => ?_; go_simp;
  refine hK'.out _ _ _ rfl ?_ hT' (Below.refl _ _); rfl
 refine SeqOps.val ?_ (Sy 1 33 fun ax wx hS hT' hd K' hK' => ?_) ?_; rotate_left 1
 ·have r34 := Tv hd 0 9 34; obtain ⟨hcT, hfT, hlT, hmT, hwT, hzT⟩ := bT hT'
  refine op1 r34 fun ρ qc qf qg q34 => ?_; go_simp; (try go_bits);
  go_at_call 13; refine (C3.out _ ((hA3.below hT').more hT'.size)).mono ?_; rintro e g1 ⟨rfl, k1⟩
  refine hK'.out _ _ _ rfl ?_ (hT'.trans (k1.mono hT'.size)) k1; rfl
 refine SeqOps.val ?_ (Sy 2 33 fun ax wx hS hT' hd K' hK' => ?_) ?_; rotate_left 1
 ·have r3 := hS.at 3 (by decide) (hE.at 3 rfl); obtain ⟨hcT, hfT, hlT, hmT, hwT, hzT⟩ := bT hT'
  refine op1 r3 fun ρ qc qf qg q3 => ?_; go_simp;
  refine hK'.out _ _ _ rfl ?_ hT' (Below.refl _ _); rfl
 refine SeqOps.val ?_ (Sy 3 33 fun ax wx hS hT' hd K' hK' => ?_) ?_; rotate_left 1
 ·have r36 := Tv hd 0 11 36; obtain ⟨hcT, hfT, hlT, hmT, hwT, hzT⟩ := bT hT'
  refine op1 r36 fun ρ qc qf qg q36 => ?_; go_simp; (try go_bits);
  go_at_call 14; refine (C4.out _ ((hA3.below hT').more hT'.size)).mono ?_; rintro e g1 ⟨rfl, k1⟩
  refine hK'.out _ _ _ rfl ?_ (hT'.trans (k1.mono hT'.size)) k1; rfl
 refine SeqOps.val ?_ (Sy 4 33 fun ax wx hS hT' hd K' hK' => ?_) ?_; rotate_left 1
 ·have r35 := Tv hd 2 10 35; have r37 := Tv hd 0 12 37; obtain ⟨hcT, hfT, hlT, hmT, hwT, hzT⟩ := bT hT'
  refine op2 r35 r37 fun ρ qc qf qg q35 q37 => ?_; go_simp; (try go_bits);
  refine hK'.out _ _ _ rfl ?_ hT' (Below.refl _ _); rfl
 refine SeqOps.val ?_ (Sp fun ax wx hS hT' hd K' hK' => ?_) ?_; rotate_left 1
 ·have r33 := Tv hd 5 8 33; have r38 := Tv hd 0 13 38; obtain ⟨hcT, hfT, hlT, hmT, hwT, hzT⟩ := bT hT'
  refine op2 r33 r38 fun ρ qc qf qg q33 q38 => ?_; go_simp; (try go_bits);
  refine hK'.out _ _ _ rfl ?_ hT' (Below.refl _ _); rfl
 refine SeqOps.val ?_ (Sp fun ax wx hS hT' hd K' hK' => ?_) ?_; rotate_left 1
 ·have r39 := Tv hd 0 14 39; obtain ⟨hcT, hfT, hlT, hmT, hwT, hzT⟩ := bT hT'
  refine op1 r39 fun ρ qc qf qg q39 => ?_; go_simp;
  refine hK'.out _ _ _ rfl ?_ hT' (Below.refl _ _); rfl
 refine SeqOps.val ?_ (Sy 0 40 fun ax wx hS hT' hd K' hK' => ?_) ?_; rotate_left 1
 ·obtain ⟨hcT, hfT, hlT, hmT, hwT, hzT⟩ := bT hT'
  refine op0 fun ρ qc qf qg => ?_; go_simp; (try go_bits);
  go_at_call 15; refine (written_any _).mono ?_; rintro e g1 ⟨rfl, k1⟩
  refine hK'.out _ _ _ rfl ?_ (hT'.trans (k1.mono hT'.size)) k1; rfl
 refine SeqOps.val ?_ (Sp fun ax wx hS hT' hd K' hK' => ?_) ?_; rotate_left 1
 ·have r40 := Tv hd 1 15 40; have r41 := Tv hd 0 16 41; obtain ⟨hcT, hfT, hlT, hmT, hwT, hzT⟩ := bT hT'
  refine op2 r40 r41 fun ρ qc qf qg q40 q41 => ?_; go_simp; (try go_bits);
  refine hK'.out _ _ _ rfl ?_ hT' (Below.refl _ _); rfl
 refine SeqOps.nil ?_
 intro w4 hBl; (refine fun v h => ?_; obtain rfl := h); (refine fun v h => ?_; obtain rfl := h); (refine fun v h => ?_; obtain rfl := h); (refine fun v h => ?_; obtain rfl := h); (refine fun v h => ?_; obtain rfl := h); (refine fun v h => ?_; obtain rfl := h); (refine fun v h => ?_; obtain rfl := h); (refine fun v h => ?_; obtain rfl := h); (refine fun v h => ?_; obtain rfl := h); (refine fun v h => ?_; obtain rfl := h); (refine fun v h => ?_; obtain rfl := h); (refine fun v h => ?_; obtain rfl := h); (refine fun v h => ?_; obtain rfl := h); (refine fun v h => ?_; obtain rfl := h); (refine fun v h => ?_; obtain rfl := h); (refine fun v h => ?_; obtain rfl := h); (refine fun v h => ?_; obtain rfl := h); (refine fun v h => ?_; obtain rfl := h);
 refine fun ax hEx => ?_
 simp only [lk, pick, Nat.reduceEqDiff, ↓reduceIte] at hEx
 refine Lp fun K' hK' => ?_
 have r42 := hEx.at 42 rfl; refine op1 r42 fun ρ qc qf qg q42 => ?_; go_simp; (try clear qc qf qg r42 q42)
 refine Ln hEx hK' fun a_1 hE_1 => ?_; clear hK' K' hEx
 refine late_done [6] hE_1 hK (fun a hE => ?_); clear hK K Q' hE_1; simp only [lk, pick, Nat.reduceEqDiff, ↓reduceIte] at hE
 (repeat with_reducible first|refine ctl ?_|refine miss ?_)
 exact ret_one hE rfl rfl ⟨rfl, hb3.trans (hBl.mono hb3.size)⟩
end Go.Proofs.Ytbimkcjdodgojaa
