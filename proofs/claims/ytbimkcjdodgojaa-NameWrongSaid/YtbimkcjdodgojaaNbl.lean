/- Name: the law of the lines that must be wrong, walked. -/
import Derived.Test.YtbimkcjdodgojaaNbf
import Derived.Test.YtbimkcjdodgojaaNbi
import Derived.Test.YtbimkcjdodgojaaNbj
import Derived.Test.YtbimkcjdodgojaaNbk
namespace Go.Proofs.Ytbimkcjdodgojaa
set_option linter.unusedSimpArgs false
set_option linter.unusedVariables false
open Go Go.RowKit
attribute [local go_sem high] cell_set_wr
attribute [local go_sem low] cell_wr frozen_wr
attribute [local go_sem] wr_set wr_drew wr_drewN wr_alloc wr_new

theorem ok_without {b : Bk} (h : b.ok = true) (out : List Nat) : (b.without out).ok = true := by
 unfold Bk.ok headB at h ⊢
 simp only [Bool.and_eq_true, decide_eq_true_eq, Bool.not_eq_true', decide_eq_false_iff_not, List.all_eq_true] at h ⊢
 obtain ⟨h1, ⟨⟨h2, h3⟩, h4⟩, h5⟩ := h
 have hl := dropK_len b.lines out b.lines.length
 refine ⟨h1, ⟨⟨?_, h3⟩, h4⟩, fun x hx => h5 x (dropK_mem (Nat.le_refl _) hx)⟩
 show ¬ (9 : Int) < (dropK b.lines out b.lines.length).length
 omega
section
variable (A : Option Addr) (cap : Nat) (L : Option Addr) (lcap : Nat) (b : Bk)
theorem truths_of (b : Bk) (h : b.ok = true) : pTruthsR b = ((b.ts.length : Int), (0 : Int)) := by unfold pTruthsR; rw [h]; rfl
set_option maxRecDepth 100000 in
set_option maxHeartbeats 2000000 in
theorem wrong_end (ho : b.ok = true) (hs : b.small cap lcap) (out : List Nat) (hx : rightP b out = false) (hol : out.length ≤ 9) (O : Option Addr) (oc : Nat) (B : Nat) (w V : World) (hM : BkAt V A L b) (hb : Below w.heap.size w V) (hCB : Cells V B (bkV A cap L lcap b)) (hO : Arr V V.heap.size O (nats out)) (a : Act) (hE : Fits 115 [(2, .pointer (some ⟨B, 0, none⟩)), (11, .slice O out.length oc)] a) :
    (cr 9 (bodyOf Try.f7)).wp Try.prog (bodyPost Try.prog Try.f7 fun e w' => e = .returned (.bool true) ∧ Below w.heap.size w w') a V := by
 have C1 := hid (lwithout_any A cap L lcap b O oc out V hM hs (ok_nine ho) hO (by omega))
 have C2 : Hid (∀ W A' cap', BkAt W A A' (b.without out) → (b.without out).small cap cap' → Calls Try.prog 30 #[.agg (bkV A cap A' cap' (b.without out)).toArray] W fun e w' => e = .returned (.tuple #[.int .i64 0, .int .i64 0]) ∧ Below W.heap.size W w') := hid fun W A' cap' hW hs' => by
  have h := pTruths_any A cap A' cap' (b.without out) W hW hs'
  rw [truths_of _ (ok_without ho out)] at h
  have h0 : (b.without out).ts.length = 0 := by
   rw [right_ts] at hx
   cases hts : (b.without out).ts with
   | nil => rfl
   | cons x l => rw [hts] at hx; cases hx
  rw [h0] at h
  exact h
 simp only [bkV] at C1 hCB
 have nB := hCB.1; have cB0 := hCB.2 0 _ rfl; have cB1 := hCB.2 1 _ rfl; have cB2 := hCB.2 2 _ rfl; have cB3 := hCB.2 3 _ rfl; have cB4 := hCB.2 4 _ rfl; have cB5 := hCB.2 5 _ rfl; have cB6 := hCB.2 6 _ rfl
 clear hx ho
 refine wp_seq ?_; (repeat with_reducible first|refine ctl ?_|refine miss ?_)
 refine Rs 9 fun Q' K hK => ?_
 refine Lp fun K' hK' => ?_
 have r2 := hE.at 2 rfl; refine op1 r2 fun ρ qc qf qg q2 => ?_; go_simp; (try clear qc qf qg r2 q2)
 refine Ln hE hK' fun a_1 hE_1 => ?_; clear hK' K' hE a
 refine Lp fun K' hK' => ?_
 have r11 := hE_1.at 11 rfl; refine op1 r11 fun ρ qc qf qg q11 => ?_; go_simp; (try clear qc qf qg r11 q11)
 refine Ln hE_1 hK' fun a_2 hE_2 => ?_; clear hK' K' hE_1
 refine Lp fun K' hK' => ?_
 have r100 := hE_2.at 100 rfl; have r101 := hE_2.at 101 rfl
 refine op2 r100 r101 fun ρ qc qf qg q100 q101 => ?_; go_simp; (try go_bits); (try clear qc qf qg r100 q100 r101 q101)
 go_at_call 35; refine (C1.out).mono ?_; rintro e w2 ⟨⟨A', cap', rfl, hsm, hM2⟩, h2⟩
 (try clear r100 r101)
 refine Ln hE_2 hK' fun a_3 hE_3 => ?_; clear hK' K' hE_2
 refine Lp fun K' hK' => ?_
 have r102 := hE_3.at 102 rfl; refine op1 r102 fun ρ qc qf qg q102 => ?_; go_simp; (try go_bits); (try clear qc qf qg r102 q102)
 go_at_call 30; refine (C2.out _ A' cap' hM2 hsm).mono ?_; rintro e w3 ⟨rfl, h3⟩
 (try clear r102)
 refine Ln hE_3 hK' fun a_4 hE_4 => ?_; clear hK' K' hE_3
 refine Lp fun K' hK' => ?_
 have r103 := hE_4.at 103 rfl; refine op1 r103 fun ρ qc qf qg q103 => ?_; go_simp; (try clear qc qf qg r103 q103)
 refine Ln hE_4 hK' fun a_5 hE_5 => ?_; clear hK' K' hE_4
 refine Lp fun K' hK' => ?_
 have r99 := hE_5.at 99 rfl; refine op1 r99 fun ρ qc qf qg q99 => ?_; go_simp; (try clear qc qf qg r99 q99)
 refine Ln hE_5 hK' fun a_6 hE_6 => ?_; clear hK' K' hE_5
 refine Lp fun K' hK' => ?_
 have r99 := hE_6.at 99 rfl; refine op1 r99 fun ρ qc qf qg q99 => ?_; go_simp; (try clear qc qf qg r99 q99)
 refine Ln hE_6 hK' fun a_7 hE_7 => ?_; clear hK' K' hE_6
 refine Lp fun K' hK' => ?_
 have r104 := hE_7.at 104 rfl; refine op1 r104 fun ρ qc qf qg q104 => ?_; go_simp; (try clear qc qf qg r104 q104)
 refine Ln hE_7 hK' fun a_8 hE_8 => ?_; clear hK' K' hE_7
 refine Lp fun K' hK' => ?_
 have r105 := hE_8.at 105 rfl; refine op1 r105 fun ρ qc qf qg q105 => ?_; go_simp; (try clear qc qf qg r105 q105)
 refine Ln hE_8 hK' fun a_9 hE_9 => ?_; clear hK' K' hE_8
 refine late_done [9, 10] hE_9 hK (fun a hE => ?_); clear hK K Q' hE_9; simp only [lk, pick, Nat.reduceEqDiff, ↓reduceIte] at hE
 (repeat with_reducible first|refine ctl ?_|refine miss ?_)
 refine Rs 10 fun Q' K hK => ?_
 refine Lp fun K' hK' => ?_
 have r10 := hE.at 10 rfl; refine op1 r10 fun ρ qc qf qg q10 => ?_; go_simp; (try clear qc qf qg r10 q10)
 refine Ln hE hK' fun a_1 hE_1 => ?_; clear hK' K' hE a
 refine Lp fun K' hK' => ?_
 have r106 := hE_1.at 106 rfl; refine op1 r106 fun ρ qc qf qg q106 => ?_; go_simp; (try go_bits); (try clear qc qf qg r106 q106)
 refine Ln hE_1 hK' fun a_2 hE_2 => ?_; clear hK' K' hE_1
 refine Lp fun K' hK' => ?_
 have r107 := hE_2.at 107 rfl; refine op1 r107 fun ρ qc qf qg q107 => ?_; go_simp; (try clear qc qf qg r107 q107)
 refine Ln hE_2 hK' fun a_3 hE_3 => ?_; clear hK' K' hE_2
 refine Ly hE_3 108 fun K' hK' => ?_
 have r9 := hE_3.at 9 rfl; refine op1 r9 fun ρ qc qf qg q9 => ?_; go_simp; (try clear qc qf qg r9 q9)
 refine Ln hE_3 hK' fun a_4 hE_4 => ?_; clear hK' K' hE_3
 refine Ly hE_4 108 fun K' hK' => ?_
 have r109 := hE_4.at 109 rfl; refine op1 r109 fun ρ qc qf qg q109 => ?_; go_simp; (try go_bits); (try clear qc qf qg r109 q109)
 refine Ln hE_4 hK' fun a_5 hE_5 => ?_; clear hK' K' hE_4
 refine Lp fun K' hK' => ?_
 have r108 := hE_5.at 108 rfl; have r110 := hE_5.at 110 rfl
 refine op2 r108 r110 fun ρ qc qf qg q108 q110 => ?_; go_simp; (try go_bits); (try clear qc qf qg r108 q108 r110 q110)
 (try clear r108 r110)
 refine Ln hE_5 hK' fun a_6 hE_6 => ?_; clear hK' K' hE_5
 refine Lp fun K' hK' => ?_
 have r111 := hE_6.at 111 rfl; refine op1 r111 fun ρ qc qf qg q111 => ?_; go_simp; (try clear qc qf qg r111 q111)
 refine Ln hE_6 hK' fun a_7 hE_7 => ?_; clear hK' K' hE_6
 refine Ly hE_7 112 fun K' hK' => ?_
 refine op0 fun ρ qc qf qg => ?_; go_simp; (try go_bits); (try clear qc qf qg)
 go_at_call 15; refine (written_any _).mono ?_; rintro e w4 ⟨rfl, h4⟩
 refine Ln hE_7 hK' fun a_8 hE_8 => ?_; clear hK' K' hE_7
 refine Lp fun K' hK' => ?_
 have r112 := hE_8.at 112 rfl; have r113 := hE_8.at 113 rfl
 refine op2 r112 r113 fun ρ qc qf qg q112 q113 => ?_; go_simp; (try go_bits); (try clear qc qf qg r112 q112 r113 q113)
 (try clear r112 r113)
 refine Ln hE_8 hK' fun a_9 hE_9 => ?_; clear hK' K' hE_8
 refine Lp fun K' hK' => ?_
 have r114 := hE_9.at 114 rfl; refine op1 r114 fun ρ qc qf qg q114 => ?_; go_simp; (try clear qc qf qg r114 q114)
 refine Ln hE_9 hK' fun a_10 hE_10 => ?_; clear hK' K' hE_9
 refine late_done [4] hE_10 hK (fun a hE => ?_); clear hK K Q' hE_10; simp only [lk, pick, Nat.reduceEqDiff, ↓reduceIte] at hE
 (repeat with_reducible first|refine ctl ?_|refine miss ?_)
 have h24 := h2.trans ((h3.trans (h4.mono h3.size)).mono h2.size)
 exact ret_one hE rfl rfl ⟨rfl, hb.trans (h24.mono hb.size)⟩
set_option maxRecDepth 100000 in
set_option maxHeartbeats 2000000 in
theorem wrong_bad (ho : b.ok = false) (n : Int) (w : World) (hM : BkAt w A L b) (hs : b.small cap lcap) : Calls Try.prog 7 #[.agg (bkV A cap L lcap b).toArray, .int .i64 n] w fun e w' => e = .returned (.bool true) ∧ Below w.heap.size w w' := by
 have e1 : pWrongL b = [] := by unfold pWrongL; rw [ho]; rfl
 have e2 : bkE b = 20 := by unfold bkE; rw [ho]; rfl
 have C1 : Hid (∀ W, BkAt W A L b → Calls Try.prog 21 #[.agg (bkV A cap L lcap b).toArray] W fun e w' => (∃ T c, e = .returned (.tuple #[.slice T 0 c, .int .i64 20])) ∧ Below W.heap.size W w') := hid fun W hW => (pWrong_any A cap L lcap b W hW hs).mono (by
  rintro e w' ⟨⟨T, c, rfl, _⟩, hb⟩
  rw [e1, e2]
  exact ⟨⟨T, c, rfl⟩, hb⟩)
 have C2 : Hid (∀ W, BkAt W A L b → Calls Try.prog 16 #[.agg (bkV A cap L lcap b).toArray] W fun e w' => e = .returned (.bool false) ∧ Below W.heap.size W w') := hid fun W hW => by
  have h := sound_any A cap L lcap b W hW hs
  rw [ho] at h
  exact h
 clear e1 e2 ho
 simp only [bkV] at C1 C2 ⊢
 refine enterE Try.func7 rfl Try.ntmps7 (by simp) (fun a hE => ?_); simp only [envOf, Nat.zero_add, Nat.reduceAdd] at hE
 (repeat with_reducible first|refine ctl ?_|refine miss ?_)
 refine Rs 2 fun Q' K hK => ?_
 refine Lp fun K' hK' => ?_
 have r0 := hE.at 0 rfl; refine op1 r0 fun ρ qc qf qg q0 => ?_; go_simp; (try clear qc qf qg r0 q0)
 refine Ln hE hK' fun a_1 hE_1 => ?_; clear hK' K' hE a
 refine Lp fun K' hK' => ?_
 refine op0 fun ρ qc qf qg => ?_; go_simp; (try clear qc qf qg)
 refine Ln hE_1 hK' fun a_2 hE_2 => ?_; clear hK' K' hE_1
 refine late_done [1, 2] hE_2 hK (fun a hE => ?_); clear hK K Q' hE_2; simp only [lk, pick, Nat.reduceEqDiff, ↓reduceIte] at hE
 obtain ⟨B, hBe⟩ : ∃ B, B = w.heap.size := ⟨_, rfl⟩; rw [← hBe] at hE; refine world_cut (fun wt => Below w.heap.size w wt ∧ Cells wt B (bkV A cap L lcap b)) ⟨(Below.refl _ _).alloc (Nat.le_refl _) _, by rw [hBe]; exact cells_new _ _ _⟩ (fun w1 hCut => ?_); obtain ⟨hbw1, hCB⟩ := hCut; clear hBe
 have hM1 := hM.below hbw1
 simp only [bkV] at hCB
 have nB := hCB.1; have cB0 := hCB.2 0 _ rfl; have cB1 := hCB.2 1 _ rfl; have cB2 := hCB.2 2 _ rfl; have cB3 := hCB.2 3 _ rfl; have cB4 := hCB.2 4 _ rfl; have cB5 := hCB.2 5 _ rfl; have cB6 := hCB.2 6 _ rfl
 (repeat with_reducible first|refine ctl ?_|refine miss ?_)
 refine Rs 7 fun Q' K hK => ?_
 refine Lp fun K' hK' => ?_
 have r2 := hE.at 2 rfl; refine op1 r2 fun ρ qc qf qg q2 => ?_; go_simp; (try clear qc qf qg r2 q2)
 refine Ln hE hK' fun a_1 hE_1 => ?_; clear hK' K' hE a
 refine Lp fun K' hK' => ?_
 have r13 := hE_1.at 13 rfl; refine op1 r13 fun ρ qc qf qg q13 => ?_; go_simp; (try go_bits); (try clear qc qf qg r13 q13)
 go_at_call 21; refine (C1.out _ hM1).mono ?_; rintro e w2 ⟨⟨T, c, rfl⟩, h2⟩
 (try clear r13)
 refine Ln hE_1 hK' fun a_2 hE_2 => ?_; clear hK' K' hE_1
 refine Lp fun K' hK' => ?_
 have r14 := hE_2.at 14 rfl; refine op1 r14 fun ρ qc qf qg q14 => ?_; go_simp; (try clear qc qf qg r14 q14)
 refine Ln hE_2 hK' fun a_3 hE_3 => ?_; clear hK' K' hE_2
 refine Lp fun K' hK' => ?_
 have r12 := hE_3.at 12 rfl; refine op1 r12 fun ρ qc qf qg q12 => ?_; go_simp; (try clear qc qf qg r12 q12)
 refine Ln hE_3 hK' fun a_4 hE_4 => ?_; clear hK' K' hE_3
 refine Lp fun K' hK' => ?_
 have r12 := hE_4.at 12 rfl; refine op1 r12 fun ρ qc qf qg q12 => ?_; go_simp; (try clear qc qf qg r12 q12)
 refine Ln hE_4 hK' fun a_5 hE_5 => ?_; clear hK' K' hE_4
 refine Lp fun K' hK' => ?_
 have r15 := hE_5.at 15 rfl; refine op1 r15 fun ρ qc qf qg q15 => ?_; go_simp; (try clear qc qf qg r15 q15)
 refine Ln hE_5 hK' fun a_6 hE_6 => ?_; clear hK' K' hE_5
 refine Lp fun K' hK' => ?_
 have r16 := hE_6.at 16 rfl; refine op1 r16 fun ρ qc qf qg q16 => ?_; go_simp; (try clear qc qf qg r16 q16)
 refine Ln hE_6 hK' fun a_7 hE_7 => ?_; clear hK' K' hE_6
 refine late_done [2, 5, 6] hE_7 hK (fun a hE => ?_); clear hK K Q' hE_7; simp only [lk, pick, Nat.reduceEqDiff, ↓reduceIte] at hE
 have hb2 := hbw1.trans (h2.mono hbw1.size)
 have hM2 := hM.below hb2
 replace hCB := hCB.below h2
 clear nB cB0 cB1 cB2 cB3 cB4 cB5 cB6
 have nB := hCB.1; have cB0 := hCB.2 0 _ rfl; have cB1 := hCB.2 1 _ rfl; have cB2 := hCB.2 2 _ rfl; have cB3 := hCB.2 3 _ rfl; have cB4 := hCB.2 4 _ rfl; have cB5 := hCB.2 5 _ rfl; have cB6 := hCB.2 6 _ rfl
 (repeat with_reducible first|refine ctl ?_|refine miss ?_)
 refine Rs 3 fun Q' K hK => ?_
 refine Lp fun K' hK' => ?_
 have r2 := hE.at 2 rfl; refine op1 r2 fun ρ qc qf qg q2 => ?_; go_simp; (try clear qc qf qg r2 q2)
 refine Ln hE hK' fun a_1 hE_1 => ?_; clear hK' K' hE a
 refine Lp fun K' hK' => ?_
 have r17 := hE_1.at 17 rfl; refine op1 r17 fun ρ qc qf qg q17 => ?_; go_simp; (try go_bits); (try clear qc qf qg r17 q17)
 go_at_call 16; refine (C2.out _ hM2).mono ?_; rintro e w3 ⟨rfl, h3⟩
 (try clear r17)
 refine Ln hE_1 hK' fun a_2 hE_2 => ?_; clear hK' K' hE_1
 refine Lp fun K' hK' => ?_
 have r18 := hE_2.at 18 rfl; refine op1 r18 fun ρ qc qf qg q18 => ?_; go_simp; (try go_bits); (try simp (disch := omega) only [IntWalk.i64_in]); (try clear qc qf qg r18 q18)
 refine Ln hE_2 hK' fun a_3 hE_3 => ?_; clear hK' K' hE_2
 refine late_done [5, 6, 19] hE_3 hK (fun a hE => ?_); clear hK K Q' hE_3; simp only [lk, pick, Nat.reduceEqDiff, ↓reduceIte] at hE
 (repeat with_reducible first|refine ctl ?_|refine miss ?_)
 refine cond_yes hE (t := 19) rfl ?_
 (repeat with_reducible first|refine ctl ?_|refine miss ?_)
 refine Rs 11 fun Q' K hK => ?_
 refine Lp fun K' hK' => ?_
 have r6 := hE.at 6 rfl; refine op1 r6 fun ρ qc qf qg q6 => ?_; go_simp; (try clear qc qf qg r6 q6)
 refine Ln hE hK' fun a_1 hE_1 => ?_; clear hK' K' hE a
 refine Lp fun K' hK' => ?_
 have r20 := hE_1.at 20 rfl; refine op1 r20 fun ρ qc qf qg q20 => ?_; go_simp; (try go_bits); (try clear qc qf qg r20 q20)
 refine Ln hE_1 hK' fun a_2 hE_2 => ?_; clear hK' K' hE_1
 refine Lp fun K' hK' => ?_
 have r21 := hE_2.at 21 rfl; refine op1 r21 fun ρ qc qf qg q21 => ?_; go_simp; (try clear qc qf qg r21 q21)
 refine Ln hE_2 hK' fun a_3 hE_3 => ?_; clear hK' K' hE_2
 refine Ly hE_3 22 fun K' hK' => ?_
 have r5 := hE_3.at 5 rfl; refine op1 r5 fun ρ qc qf qg q5 => ?_; go_simp; (try clear qc qf qg r5 q5)
 refine Ln hE_3 hK' fun a_4 hE_4 => ?_; clear hK' K' hE_3
 refine Ly hE_4 22 fun K' hK' => ?_
 have r23 := hE_4.at 23 rfl; refine op1 r23 fun ρ qc qf qg q23 => ?_; go_simp; (try go_bits); (try clear qc qf qg r23 q23)
 refine Ln hE_4 hK' fun a_5 hE_5 => ?_; clear hK' K' hE_4
 refine Ly hE_5 22 fun K' hK' => ?_
 have r24 := hE_5.at 24 rfl; refine op1 r24 fun ρ qc qf qg q24 => ?_; go_simp; (try go_bits); (try clear qc qf qg r24 q24)
 refine Ln hE_5 hK' fun a_6 hE_6 => ?_; clear hK' K' hE_5
 refine Lp fun K' hK' => ?_
 have r22 := hE_6.at 22 rfl; have r25 := hE_6.at 25 rfl
 refine op2 r22 r25 fun ρ qc qf qg q22 q25 => ?_; go_simp; (try go_bits); (try clear qc qf qg r22 q22 r25 q25)
 (try clear r22 r25)
 refine Ln hE_6 hK' fun a_7 hE_7 => ?_; clear hK' K' hE_6
 refine Lp fun K' hK' => ?_
 have r26 := hE_7.at 26 rfl; refine op1 r26 fun ρ qc qf qg q26 => ?_; go_simp; (try clear qc qf qg r26 q26)
 refine Ln hE_7 hK' fun a_8 hE_8 => ?_; clear hK' K' hE_7
 refine Ly hE_8 27 fun K' hK' => ?_
 refine op0 fun ρ qc qf qg => ?_; go_simp; (try go_bits); (try clear qc qf qg)
 go_at_call 15; refine (written_any _).mono ?_; rintro e w4 ⟨rfl, h4⟩
 refine Ln hE_8 hK' fun a_9 hE_9 => ?_; clear hK' K' hE_8
 refine Lp fun K' hK' => ?_
 have r27 := hE_9.at 27 rfl; have r28 := hE_9.at 28 rfl
 refine op2 r27 r28 fun ρ qc qf qg q27 q28 => ?_; go_simp; (try go_bits); (try clear qc qf qg r27 q27 r28 q28)
 (try clear r27 r28)
 refine Ln hE_9 hK' fun a_10 hE_10 => ?_; clear hK' K' hE_9
 refine Lp fun K' hK' => ?_
 have r29 := hE_10.at 29 rfl; refine op1 r29 fun ρ qc qf qg q29 => ?_; go_simp; (try clear qc qf qg r29 q29)
 refine Ln hE_10 hK' fun a_11 hE_11 => ?_; clear hK' K' hE_10
 refine late_done [4] hE_11 hK (fun a hE => ?_); clear hK K Q' hE_11; simp only [lk, pick, Nat.reduceEqDiff, ↓reduceIte] at hE
 (repeat with_reducible first|refine ctl ?_|refine miss ?_)
 exact ret_one hE rfl rfl ⟨rfl, hb2.trans ((h3.trans (h4.mono h3.size)).mono hb2.size)⟩
theorem windI_in (n b : Int) (h : 0 < b) : 0 ≤ windI n b ∧ windI n b < b := by
 unfold windI
 rw [if_neg (by omega)]
 exact ⟨Int.emod_nonneg _ (by omega), Int.emod_lt_of_pos _ h⟩
theorem pow_w (n : Nat) (h : n ≤ 9) : 0 < wrap64 (2 ^ n) ∧ wrap64 (2 ^ n) ≤ 512 := by
 have h9 : n = 0 ∨ n = 1 ∨ n = 2 ∨ n = 3 ∨ n = 4 ∨ n = 5 ∨ n = 6 ∨ n = 7 ∨ n = 8 ∨ n = 9 := by omega
 rcases h9 with e | e | e | e | e | e | e | e | e | e <;> subst e <;> simp [wrap64]
theorem onesN_len (s n : Nat) : (onesN s n).length ≤ n := by
 unfold onesN
 exact Nat.le_trans (List.length_filter_le _ _) (by simp)
set_option maxRecDepth 100000 in
set_option maxHeartbeats 4000000 in
theorem wrong_c (ho : b.ok = true) (n : Int) (wl : List Nat) (hwl9 : wl.length ≤ 9) (l3 : ∀ u, IncN 0 b.lines.length u → u.length < wl.length → rightP b u = false) (l4 : ∀ u, IncN 0 b.lines.length u → u.length = wl.length → lessN u wl = true → rightP b u = false) (hs : b.small cap lcap) (T : Option Addr) (c B : Nat) (w w7 : World) (hM7 : BkAt w7 A L b) (hb7 : Below w.heap.size w w7) (hCB : Cells w7 B (bkV A cap L lcap b)) (hT7 : Arr w7 w7.heap.size T (nats wl)) (a : Act) (hE : Fits 115 [(1, .int .i64 n), (2, .pointer (some ⟨B, 0, none⟩)), (5, .slice T wl.length c)] a) :
    (cr 7 (bodyOf Try.f7)).wp Try.prog (bodyPost Try.prog Try.f7 fun e w' => e = .returned (.bool true) ∧ Below w.heap.size w w') a w7 := by
 have h9 := ok_nine ho
 obtain ⟨hp1, hp2⟩ := pow_w b.lines.length h9
 obtain ⟨hw1, hw2⟩ := windI_in n _ hp1
 obtain ⟨s, hsx⟩ : ∃ s : Nat, windI n (wrap64 (2 ^ b.lines.length)) = s := ⟨(windI n (wrap64 (2 ^ b.lines.length))).toNat, by omega⟩
 have hs512 : s < 512 := by omega
 have HS := hid hsx
 have HW64 : Hid (wrap64 (2 ^ b.lines.length) ≤ 9223372036854775807) := hid (by omega)
 clear hp1 hp2 hw1 hw2 hsx
 obtain ⟨out, hout⟩ : ∃ out, onesN s b.lines.length = out := ⟨_, rfl⟩
 have hoi := incN_ones s b.lines.length
 have hol := onesN_len s b.lines.length
 have C8 : Hid (∀ W, Calls Try.prog 36 #[.int .i64 s, .int .i64 b.lines.length] W fun e w' => (∃ O oc, e = .returned (.slice O out.length oc) ∧ Arr w' w'.heap.size O (nats out)) ∧ Below W.heap.size W w') := hid fun W => by
  have h := ones_any s b.lines.length W (by omega) (by omega)
  rw [ones_map, List.length_map, ← nats_ints, hout] at h
  exact h.mono (by
   rintro e w' ⟨O, oc, rfl, _, h1, h2⟩
   exact ⟨⟨O, oc, rfl, h1⟩, h2⟩)
 rw [hout] at hoi hol
 have hol9 : out.length ≤ 9 := by omega
 have C9 : Hid (∀ O oc T c W, Arr W W.heap.size O (nats out) → Arr W W.heap.size T (nats wl) → Calls Try.prog 38 #[.slice O out.length oc, .slice T wl.length c] W fun e w' => e = .returned (.bool (lessN out wl)) ∧ Below W.heap.size W w') := hid fun O oc T c W hO hT => by
  have h := less_any O T oc c (out.map fun (i : Nat) => (i : Int)) (wl.map fun (i : Nat) => (i : Int)) W (by rw [← nats_ints]; exact hO) (by rw [← nats_ints]; exact hT) (by rw [List.length_map]; omega) (by rw [List.length_map]; omega)
  rw [List.length_map, List.length_map, lessN_int] at h
  exact h
 have HX : Hid ((out.length < wl.length ∨ (out.length = wl.length ∧ lessN out wl = true)) → rightP b out = false) := hid fun h => by
  rcases h with h | ⟨h1, h2⟩
  ·exact l3 out hoi h
  ·exact l4 out hoi h1 h2
 have HO := hid ho
 have HMN : Hid (min b.lines.length 64 = b.lines.length) := hid (by omega)
 clear l3 l4 hoi hol hout hs512 ho h9
 have hCB' := hCB
 simp only [bkV] at hCB
 have nB := hCB.1; have cB3 := hCB.2 3 _ rfl
 refine wp_seq ?_; (repeat with_reducible first|refine ctl ?_|refine miss ?_)
 refine Rd [10] (fun wt => Below w7.heap.size w7 wt) (fun w1 w2 => Below w1.heap.size w1 w2) [(0, some 70), (1, some 71), (2, some 72), (3, some 73), (4, some 74), (5, some 75), (6, some 76), (7, some 77), (8, some 78), (9, some 79)] [70, 71, 72, 73, 74, 75, 76, 77, 78, 79] #[true, true, true, true, true, true, true, true, true, true, false] [2, 5, 11] hE ((Below.refl _ _).drew) fun Q' K hK => ?_
 refine SeqOps.val ?_ (Sp fun ax wx hS hT' hd K' hK' => ?_) ?_; rotate_left 1
 ·have r1 := hS.at 1 (by decide) (hE.at 1 rfl); obtain ⟨hcT, hfT, hlT, hmT, hwT, hzT⟩ := bT hT'
  refine op1 r1 fun ρ qc qf qg q1 => ?_; go_simp;
  refine hK'.out _ _ _ rfl ?_ hT' (Below.refl _ _); rfl
 refine SeqOps.val ?_ (Sp fun ax wx hS hT' hd K' hK' => ?_) ?_; rotate_left 1
 ·have r2 := hS.at 2 (by decide) (hE.at 2 rfl); obtain ⟨hcT, hfT, hlT, hmT, hwT, hzT⟩ := bT hT'
  refine op1 r2 fun ρ qc qf qg q2 => ?_; go_simp;
  refine hK'.out _ _ _ rfl ?_ hT' (Below.refl _ _); rfl
 refine SeqOps.val ?_ (Sp fun ax wx hS hT' hd K' hK' => ?_) ?_; rotate_left 1
 ·have r71 := Tv hd 0 1 71; obtain ⟨hcT, hfT, hlT, hmT, hwT, hzT⟩ := bT hT'
  refine op1 r71 fun ρ qc qf qg q71 => ?_; go_simp;
  refine hK'.out _ _ _ rfl ?_ hT' (Below.refl _ _); rfl
 refine SeqOps.val ?_ (Sp fun ax wx hS hT' hd K' hK' => ?_) ?_; rotate_left 1
 ·have r72 := Tv hd 0 2 72; obtain ⟨hcT, hfT, hlT, hmT, hwT, hzT⟩ := bT hT'
  refine op1 r72 fun ρ qc qf qg q72 => ?_; go_simp; (try go_bits);
  refine hK'.out _ _ _ rfl ?_ hT' (Below.refl _ _); rfl
 refine SeqOps.val ?_ (Sp fun ax wx hS hT' hd K' hK' => ?_) ?_; rotate_left 1
 ·have r73 := Tv hd 0 3 73; obtain ⟨hcT, hfT, hlT, hmT, hwT, hzT⟩ := bT hT'
  refine op1 r73 fun ρ qc qf qg q73 => ?_; go_simp; (try go_bits); (try simp (disch := omega) only [IntWalk.i64_in]);
  refine hK'.out _ _ _ rfl ?_ hT' (Below.refl _ _); rfl
 refine SeqOps.val ?_ (Sp fun ax wx hS hT' hd K' hK' => ?_) ?_; rotate_left 1
 ·have r70 := Tv hd 4 0 70; have r74 := Tv hd 0 4 74; obtain ⟨hcT, hfT, hlT, hmT, hwT, hzT⟩ := bT hT'
  refine op2 r70 r74 fun ρ qc qf qg q70 q74 => ?_; go_simp; (try go_bits);
  go_at_call 37; rw [HMN.out]; refine (wind_any n _ HW64.out _).mono ?_; rw [HS.out]; rintro e g1 ⟨rfl, rfl⟩
  refine hK'.out _ _ _ rfl ?_ hT' (Below.refl _ _); rfl
 refine SeqOps.val ?_ (Sp fun ax wx hS hT' hd K' hK' => ?_) ?_; rotate_left 1
 ·have r2 := hS.at 2 (by decide) (hE.at 2 rfl); obtain ⟨hcT, hfT, hlT, hmT, hwT, hzT⟩ := bT hT'
  refine op1 r2 fun ρ qc qf qg q2 => ?_; go_simp;
  refine hK'.out _ _ _ rfl ?_ hT' (Below.refl _ _); rfl
 refine SeqOps.val ?_ (Sp fun ax wx hS hT' hd K' hK' => ?_) ?_; rotate_left 1
 ·have r76 := Tv hd 0 6 76; obtain ⟨hcT, hfT, hlT, hmT, hwT, hzT⟩ := bT hT'
  refine op1 r76 fun ρ qc qf qg q76 => ?_; go_simp;
  refine hK'.out _ _ _ rfl ?_ hT' (Below.refl _ _); rfl
 refine SeqOps.val ?_ (Sp fun ax wx hS hT' hd K' hK' => ?_) ?_; rotate_left 1
 ·have r77 := Tv hd 0 7 77; obtain ⟨hcT, hfT, hlT, hmT, hwT, hzT⟩ := bT hT'
  refine op1 r77 fun ρ qc qf qg q77 => ?_; go_simp; (try go_bits);
  refine hK'.out _ _ _ rfl ?_ hT' (Below.refl _ _); rfl
 refine SeqOps.say (fun v wt => ∃ O oc, v = .slice O out.length oc ∧ Arr wt wt.heap.size O (nats out)) (fun _ _ _ hR ⟨O, oc, e, h⟩ => ⟨O, oc, e, (h.below hR).more hR.size⟩) (Sp fun ax wx hS hT' hd K' hK' => ?_) ?_
 ·have r75 := Tv hd 3 5 75; have r78 := Tv hd 0 8 78; obtain ⟨hcT, hfT, hlT, hmT, hwT, hzT⟩ := bT hT'
  refine op2 r75 r78 fun ρ qc qf qg q75 q78 => ?_; go_simp; (try go_bits);
  go_at_call 36; refine (C8.out _).mono ?_; rintro e g1 ⟨⟨O, oc, rfl, hO⟩, k1⟩
  exact hK'.out _ _ _ rfl ⟨O, oc, rfl, hO⟩ (hT'.trans (k1.mono hT'.size)) k1
 refine SeqOps.nil ?_
 intro w8 hBl; (refine fun v h => ?_; obtain rfl := h); (refine fun v h => ?_; obtain rfl := h); (refine fun v h => ?_; obtain rfl := h); (refine fun v h => ?_; obtain rfl := h); (refine fun v h => ?_; obtain rfl := h); (refine fun v h => ?_; obtain rfl := h); (refine fun v h => ?_; obtain rfl := h); (refine fun v h => ?_; obtain rfl := h); (refine fun v h => ?_; obtain rfl := h); (refine fun v h => ?_; obtain ⟨O, oc, rfl, hO⟩ := h);
 refine fun ax hEx => ?_
 simp only [lk, pick, Nat.reduceEqDiff, ↓reduceIte] at hEx
 refine Lp fun K' hK' => ?_
 have r79 := hEx.at 79 rfl; refine op1 r79 fun ρ qc qf qg q79 => ?_; go_simp; (try clear qc qf qg r79 q79)
 refine Ln hEx hK' fun a_1 hE_1 => ?_; clear hK' K' hEx
 refine late_done [2, 5, 11] hE_1 hK (fun a hE => ?_); clear hK K Q' hE_1; simp only [lk, pick, Nat.reduceEqDiff, ↓reduceIte] at hE
 have h78 := hBl
 have hb8 := hb7.trans (hBl.mono hb7.size)
 have hM8 := hM7.below hBl
 have hT8 := (hT7.below hBl).more hBl.size
 replace hCB := hCB.below hBl
 clear nB cB3 hT7
 (repeat with_reducible first|refine ctl ?_|refine miss ?_)
 by_cases g1 : wl.length < out.length
 ·have g1I : (wl.length : Int) < out.length := by omega
  refine Rs 18 fun Q' K hK => ?_
  refine Lp fun K' hK' => ?_
  have r11 := hE.at 11 rfl; refine op1 r11 fun ρ qc qf qg q11 => ?_; go_simp; (try clear qc qf qg r11 q11)
  refine Ln hE hK' fun a_1 hE_1 => ?_; clear hK' K' hE a
  refine Lp fun K' hK' => ?_
  have r80 := hE_1.at 80 rfl; refine op1 r80 fun ρ qc qf qg q80 => ?_; go_simp; (try go_bits); (try clear qc qf qg r80 q80)
  refine Ln hE_1 hK' fun a_2 hE_2 => ?_; clear hK' K' hE_1
  refine Lp fun K' hK' => ?_
  have r5 := hE_2.at 5 rfl; refine op1 r5 fun ρ qc qf qg q5 => ?_; go_simp; (try clear qc qf qg r5 q5)
  refine Ln hE_2 hK' fun a_3 hE_3 => ?_; clear hK' K' hE_2
  refine Lp fun K' hK' => ?_
  have r82 := hE_3.at 82 rfl; refine op1 r82 fun ρ qc qf qg q82 => ?_; go_simp; (try go_bits); (try clear qc qf qg r82 q82)
  refine Ln hE_3 hK' fun a_4 hE_4 => ?_; clear hK' K' hE_3
  refine Lp fun K' hK' => ?_
  have r81 := hE_4.at 81 rfl; have r83 := hE_4.at 83 rfl
  refine op2 r81 r83 fun ρ qc qf qg q81 q83 => ?_; go_simp; (try go_bits); (try clear qc qf qg r81 q81 r83 q83)
  (try clear r81 r83)
  refine Ln hE_4 hK' fun a_5 hE_5 => ?_; clear hK' K' hE_4
  refine Lp fun K' hK' => ?_
  have r84 := hE_5.at 84 rfl; refine op1 r84 fun ρ qc qf qg q84 => ?_; go_simp; (try clear qc qf qg r84 q84)
  refine Ln hE_5 hK' fun a_6 hE_6 => ?_; clear hK' K' hE_5
  refine Lno hE_6 85 ?_
  refine Lu hE_6 fun a_7 hE_7 => ?_
  refine Lno hE_7 85 ?_
  refine Lu hE_7 fun a_8 hE_8 => ?_
  refine Lno hE_8 85 ?_
  refine Lu hE_8 fun a_9 hE_9 => ?_
  refine Lno hE_9 85 ?_
  refine Lu hE_9 fun a_10 hE_10 => ?_
  refine Lno hE_10 85 ?_
  refine Lu hE_10 fun a_11 hE_11 => ?_
  refine Lno hE_11 85 ?_
  refine Lu hE_11 fun a_12 hE_12 => ?_
  refine Lun hE_12 91 ?_
  refine Lu hE_12 fun a_13 hE_13 => ?_
  refine Lun hE_13 91 ?_
  refine Lu hE_13 fun a_14 hE_14 => ?_
  refine Lun hE_14 91 ?_
  refine Lu hE_14 fun a_15 hE_15 => ?_
  refine Lun hE_15 91 ?_
  refine Lu hE_15 fun a_16 hE_16 => ?_
  refine Lno hE_16 85 ?_
  refine Lu hE_16 fun a_17 hE_17 => ?_
  refine Lp fun K' hK' => ?_
  have r85 := hE_17.at 85 rfl; have r96 := hE_17.at 96 rfl
  refine op2 r85 r96 fun ρ qc qf qg q85 q96 => ?_; go_simp; (try go_bits); (try clear qc qf qg r85 q85 r96 q96)
  (try clear r85 r96)
  refine Ln hE_17 hK' fun a_18 hE_18 => ?_; clear hK' K' hE_17
  refine late_done [97] hE_18 hK (fun a hE => ?_); clear hK K Q' hE_18; simp only [lk, pick, Nat.reduceEqDiff, ↓reduceIte] at hE
  (repeat with_reducible first|refine ctl ?_|refine miss ?_)
  refine cond_yes hE (t := 97) rfl ?_
  (repeat with_reducible first|refine ctl ?_|refine miss ?_)
  refine Rs 2 fun Q' K hK => ?_
  refine Lp fun K' hK' => ?_
  refine op0 fun ρ qc qf qg => ?_; go_simp; (try go_bits); (try clear qc qf qg)
  go_at_call 15; refine (written_any _).mono ?_; rintro e w9 ⟨rfl, h9'⟩
  refine Ln hE hK' fun a_1 hE_1 => ?_; clear hK' K' hE a
  refine Lp fun K' hK' => ?_
  have r98 := hE_1.at 98 rfl; refine op1 r98 fun ρ qc qf qg q98 => ?_; go_simp; (try clear qc qf qg r98 q98)
  refine Ln hE_1 hK' fun a_2 hE_2 => ?_; clear hK' K' hE_1
  refine late_done [4] hE_2 hK (fun a hE => ?_); clear hK K Q' hE_2; simp only [lk, pick, Nat.reduceEqDiff, ↓reduceIte] at hE
  (repeat with_reducible first|refine ctl ?_|refine miss ?_)
  exact ret_one hE rfl rfl ⟨rfl, hb8.trans (h9'.mono hb8.size)⟩
 ·have g1I : ¬ (wl.length : Int) < out.length := by omega
  by_cases g2 : out.length = wl.length
  ·have g2I : (out.length : Int) = wl.length := by omega
   obtain ⟨q, hq⟩ : ∃ q, lessN out wl = q := ⟨_, rfl⟩
   rw [hq] at C9
   have HXq := hid hq
   have HG2 := hid g2
   clear hq g2 g1
   refine Rs 18 fun Q' K hK => ?_
   refine Lp fun K' hK' => ?_
   have r11 := hE.at 11 rfl; refine op1 r11 fun ρ qc qf qg q11 => ?_; go_simp; (try clear qc qf qg r11 q11)
   refine Ln hE hK' fun a_1 hE_1 => ?_; clear hK' K' hE a
   refine Lp fun K' hK' => ?_
   have r80 := hE_1.at 80 rfl; refine op1 r80 fun ρ qc qf qg q80 => ?_; go_simp; (try go_bits); (try clear qc qf qg r80 q80)
   refine Ln hE_1 hK' fun a_2 hE_2 => ?_; clear hK' K' hE_1
   refine Lp fun K' hK' => ?_
   have r5 := hE_2.at 5 rfl; refine op1 r5 fun ρ qc qf qg q5 => ?_; go_simp; (try clear qc qf qg r5 q5)
   refine Ln hE_2 hK' fun a_3 hE_3 => ?_; clear hK' K' hE_2
   refine Lp fun K' hK' => ?_
   have r82 := hE_3.at 82 rfl; refine op1 r82 fun ρ qc qf qg q82 => ?_; go_simp; (try go_bits); (try clear qc qf qg r82 q82)
   refine Ln hE_3 hK' fun a_4 hE_4 => ?_; clear hK' K' hE_3
   refine Lp fun K' hK' => ?_
   have r81 := hE_4.at 81 rfl; have r83 := hE_4.at 83 rfl
   refine op2 r81 r83 fun ρ qc qf qg q81 q83 => ?_; go_simp; (try go_bits); (try clear qc qf qg r81 q81 r83 q83)
   (try clear r81 r83)
   refine Ln hE_4 hK' fun a_5 hE_5 => ?_; clear hK' K' hE_4
   replace hE_5 := hE_5.turn 84 (v' := .bool false) rfl (by (simp [g1I]))
   refine Lp fun K' hK' => ?_
   have r84 := hE_5.at 84 rfl; refine op1 r84 fun ρ qc qf qg q84 => ?_; go_simp; (try clear qc qf qg r84 q84)
   refine Ln hE_5 hK' fun a_6 hE_6 => ?_; clear hK' K' hE_5
   refine Ly hE_6 85 fun K' hK' => ?_
   have r11 := hE_6.at 11 rfl; refine op1 r11 fun ρ qc qf qg q11 => ?_; go_simp; (try clear qc qf qg r11 q11)
   refine Ln hE_6 hK' fun a_7 hE_7 => ?_; clear hK' K' hE_6
   refine Ly hE_7 85 fun K' hK' => ?_
   have r86 := hE_7.at 86 rfl; refine op1 r86 fun ρ qc qf qg q86 => ?_; go_simp; (try go_bits); (try clear qc qf qg r86 q86)
   refine Ln hE_7 hK' fun a_8 hE_8 => ?_; clear hK' K' hE_7
   refine Ly hE_8 85 fun K' hK' => ?_
   have r5 := hE_8.at 5 rfl; refine op1 r5 fun ρ qc qf qg q5 => ?_; go_simp; (try clear qc qf qg r5 q5)
   refine Ln hE_8 hK' fun a_9 hE_9 => ?_; clear hK' K' hE_8
   refine Ly hE_9 85 fun K' hK' => ?_
   have r88 := hE_9.at 88 rfl; refine op1 r88 fun ρ qc qf qg q88 => ?_; go_simp; (try go_bits); (try clear qc qf qg r88 q88)
   refine Ln hE_9 hK' fun a_10 hE_10 => ?_; clear hK' K' hE_9
   refine Ly hE_10 85 fun K' hK' => ?_
   have r87 := hE_10.at 87 rfl; have r89 := hE_10.at 89 rfl
   refine op2 r87 r89 fun ρ qc qf qg q87 q89 => ?_; go_simp; (try go_bits); (try clear qc qf qg r87 q87 r89 q89)
   (try clear r87 r89)
   refine Ln hE_10 hK' fun a_11 hE_11 => ?_; clear hK' K' hE_10
   replace hE_11 := hE_11.turn 90 (v' := .bool true) rfl (by (simp [g2I]))
   refine Ly hE_11 85 fun K' hK' => ?_
   have r90 := hE_11.at 90 rfl; refine op1 r90 fun ρ qc qf qg q90 => ?_; go_simp; (try clear qc qf qg r90 q90)
   refine Ln hE_11 hK' fun a_12 hE_12 => ?_; clear hK' K' hE_11
   refine Ly hE_12 91 fun K' hK' => ?_
   have r11 := hE_12.at 11 rfl; refine op1 r11 fun ρ qc qf qg q11 => ?_; go_simp; (try clear qc qf qg r11 q11)
   refine Ln hE_12 hK' fun a_13 hE_13 => ?_; clear hK' K' hE_12
   refine Ly hE_13 91 fun K' hK' => ?_
   have r5 := hE_13.at 5 rfl; refine op1 r5 fun ρ qc qf qg q5 => ?_; go_simp; (try clear qc qf qg r5 q5)
   refine Ln hE_13 hK' fun a_14 hE_14 => ?_; clear hK' K' hE_13
   refine Ly hE_14 91 fun K' hK' => ?_
   have r92 := hE_14.at 92 rfl; have r93 := hE_14.at 93 rfl
   refine op2 r92 r93 fun ρ qc qf qg q92 q93 => ?_; go_simp; (try go_bits); (try clear qc qf qg r92 q92 r93 q93)
   go_at_call 38; refine (C9.out _ _ _ _ _ hO hT8).mono ?_; rintro e w9 ⟨rfl, h9'⟩
   (try clear r92 r93)
   refine Ln hE_14 hK' fun a_15 hE_15 => ?_; clear hK' K' hE_14
   refine Ly hE_15 91 fun K' hK' => ?_
   have r94 := hE_15.at 94 rfl; refine op1 r94 fun ρ qc qf qg q94 => ?_; go_simp; (try go_bits); (try simp (disch := omega) only [IntWalk.i64_in]); (try clear qc qf qg r94 q94)
   refine Ln hE_15 hK' fun a_16 hE_16 => ?_; clear hK' K' hE_15
   refine Ly hE_16 85 fun K' hK' => ?_
   have r91 := hE_16.at 91 rfl; have r95 := hE_16.at 95 rfl
   refine op2 r91 r95 fun ρ qc qf qg q91 q95 => ?_; go_simp; (try go_bits); (try clear qc qf qg r91 q91 r95 q95)
   (try clear r91 r95)
   refine Ln hE_16 hK' fun a_17 hE_17 => ?_; clear hK' K' hE_16
   refine Lp fun K' hK' => ?_
   have r85 := hE_17.at 85 rfl; have r96 := hE_17.at 96 rfl
   refine op2 r85 r96 fun ρ qc qf qg q85 q96 => ?_; go_simp; (try go_bits); (try clear qc qf qg r85 q85 r96 q96)
   (try clear r85 r96)
   refine Ln hE_17 hK' fun a_18 hE_18 => ?_; clear hK' K' hE_17
   refine late_done [2, 11, 97] hE_18 hK (fun a hE => ?_); clear hK K Q' hE_18; simp only [lk, pick, Nat.reduceEqDiff, ↓reduceIte] at hE
   have hb9 := hb8.trans (h9'.mono hb8.size)
   (repeat with_reducible first|refine ctl ?_|refine miss ?_)
   cases hqv : q
   ·rw [hqv] at hE
    refine cond_yes hE (t := 97) rfl ?_
    (repeat with_reducible first|refine ctl ?_|refine miss ?_)
    refine Rs 2 fun Q' K hK => ?_
    refine Lp fun K' hK' => ?_
    refine op0 fun ρ qc qf qg => ?_; go_simp; (try go_bits); (try clear qc qf qg)
    go_at_call 15; refine (written_any _).mono ?_; rintro e w10 ⟨rfl, h10⟩
    refine Ln hE hK' fun a_1 hE_1 => ?_; clear hK' K' hE a
    refine Lp fun K' hK' => ?_
    have r98 := hE_1.at 98 rfl; refine op1 r98 fun ρ qc qf qg q98 => ?_; go_simp; (try clear qc qf qg r98 q98)
    refine Ln hE_1 hK' fun a_2 hE_2 => ?_; clear hK' K' hE_1
    refine late_done [4] hE_2 hK (fun a hE => ?_); clear hK K Q' hE_2; simp only [lk, pick, Nat.reduceEqDiff, ↓reduceIte] at hE
    (repeat with_reducible first|refine ctl ?_|refine miss ?_)
    exact ret_one hE rfl rfl ⟨rfl, hb9.trans (h10.mono hb9.size)⟩
   ·rw [hqv] at hE
    refine cond_no hE (t := 97) rfl ?_
    refine wp_skip ?_
    (repeat with_reducible first|refine ctlE ?_|refine miss ?_)
    exact wrong_end A cap L lcap b HO.out hs out (HX.out (.inr ⟨HG2.out, HXq.out.trans hqv⟩)) hol9 O oc B w w9 (hM7.below (h78.trans (h9'.mono h78.size))) hb9 ((hCB'.below h78).below h9') ((hO.below h9').more h9'.size) _ (hE.keep [2, 11])
  ·have g2I : ¬ (out.length : Int) = wl.length := by omega
   refine Rs 18 fun Q' K hK => ?_
   refine Lp fun K' hK' => ?_
   have r11 := hE.at 11 rfl; refine op1 r11 fun ρ qc qf qg q11 => ?_; go_simp; (try clear qc qf qg r11 q11)
   refine Ln hE hK' fun a_1 hE_1 => ?_; clear hK' K' hE a
   refine Lp fun K' hK' => ?_
   have r80 := hE_1.at 80 rfl; refine op1 r80 fun ρ qc qf qg q80 => ?_; go_simp; (try go_bits); (try clear qc qf qg r80 q80)
   refine Ln hE_1 hK' fun a_2 hE_2 => ?_; clear hK' K' hE_1
   refine Lp fun K' hK' => ?_
   have r5 := hE_2.at 5 rfl; refine op1 r5 fun ρ qc qf qg q5 => ?_; go_simp; (try clear qc qf qg r5 q5)
   refine Ln hE_2 hK' fun a_3 hE_3 => ?_; clear hK' K' hE_2
   refine Lp fun K' hK' => ?_
   have r82 := hE_3.at 82 rfl; refine op1 r82 fun ρ qc qf qg q82 => ?_; go_simp; (try go_bits); (try clear qc qf qg r82 q82)
   refine Ln hE_3 hK' fun a_4 hE_4 => ?_; clear hK' K' hE_3
   refine Lp fun K' hK' => ?_
   have r81 := hE_4.at 81 rfl; have r83 := hE_4.at 83 rfl
   refine op2 r81 r83 fun ρ qc qf qg q81 q83 => ?_; go_simp; (try go_bits); (try clear qc qf qg r81 q81 r83 q83)
   (try clear r81 r83)
   refine Ln hE_4 hK' fun a_5 hE_5 => ?_; clear hK' K' hE_4
   replace hE_5 := hE_5.turn 84 (v' := .bool false) rfl (by (simp [g1I]))
   refine Lp fun K' hK' => ?_
   have r84 := hE_5.at 84 rfl; refine op1 r84 fun ρ qc qf qg q84 => ?_; go_simp; (try clear qc qf qg r84 q84)
   refine Ln hE_5 hK' fun a_6 hE_6 => ?_; clear hK' K' hE_5
   refine Ly hE_6 85 fun K' hK' => ?_
   have r11 := hE_6.at 11 rfl; refine op1 r11 fun ρ qc qf qg q11 => ?_; go_simp; (try clear qc qf qg r11 q11)
   refine Ln hE_6 hK' fun a_7 hE_7 => ?_; clear hK' K' hE_6
   refine Ly hE_7 85 fun K' hK' => ?_
   have r86 := hE_7.at 86 rfl; refine op1 r86 fun ρ qc qf qg q86 => ?_; go_simp; (try go_bits); (try clear qc qf qg r86 q86)
   refine Ln hE_7 hK' fun a_8 hE_8 => ?_; clear hK' K' hE_7
   refine Ly hE_8 85 fun K' hK' => ?_
   have r5 := hE_8.at 5 rfl; refine op1 r5 fun ρ qc qf qg q5 => ?_; go_simp; (try clear qc qf qg r5 q5)
   refine Ln hE_8 hK' fun a_9 hE_9 => ?_; clear hK' K' hE_8
   refine Ly hE_9 85 fun K' hK' => ?_
   have r88 := hE_9.at 88 rfl; refine op1 r88 fun ρ qc qf qg q88 => ?_; go_simp; (try go_bits); (try clear qc qf qg r88 q88)
   refine Ln hE_9 hK' fun a_10 hE_10 => ?_; clear hK' K' hE_9
   refine Ly hE_10 85 fun K' hK' => ?_
   have r87 := hE_10.at 87 rfl; have r89 := hE_10.at 89 rfl
   refine op2 r87 r89 fun ρ qc qf qg q87 q89 => ?_; go_simp; (try go_bits); (try clear qc qf qg r87 q87 r89 q89)
   (try clear r87 r89)
   refine Ln hE_10 hK' fun a_11 hE_11 => ?_; clear hK' K' hE_10
   replace hE_11 := hE_11.turn 90 (v' := .bool false) rfl (by (simp [g2I]))
   refine Ly hE_11 85 fun K' hK' => ?_
   have r90 := hE_11.at 90 rfl; refine op1 r90 fun ρ qc qf qg q90 => ?_; go_simp; (try clear qc qf qg r90 q90)
   refine Ln hE_11 hK' fun a_12 hE_12 => ?_; clear hK' K' hE_11
   refine Lno hE_12 91 ?_
   refine Lu hE_12 fun a_13 hE_13 => ?_
   refine Lno hE_13 91 ?_
   refine Lu hE_13 fun a_14 hE_14 => ?_
   refine Lno hE_14 91 ?_
   refine Lu hE_14 fun a_15 hE_15 => ?_
   refine Lno hE_15 91 ?_
   refine Lu hE_15 fun a_16 hE_16 => ?_
   refine Ly hE_16 85 fun K' hK' => ?_
   have r91 := hE_16.at 91 rfl; have r95 := hE_16.at 95 rfl
   refine op2 r91 r95 fun ρ qc qf qg q91 q95 => ?_; go_simp; (try go_bits); (try clear qc qf qg r91 q91 r95 q95)
   (try clear r91 r95)
   refine Ln hE_16 hK' fun a_17 hE_17 => ?_; clear hK' K' hE_16
   refine Lp fun K' hK' => ?_
   have r85 := hE_17.at 85 rfl; have r96 := hE_17.at 96 rfl
   refine op2 r85 r96 fun ρ qc qf qg q85 q96 => ?_; go_simp; (try go_bits); (try clear qc qf qg r85 q85 r96 q96)
   (try clear r85 r96)
   refine Ln hE_17 hK' fun a_18 hE_18 => ?_; clear hK' K' hE_17
   refine late_done [2, 11, 97] hE_18 hK (fun a hE => ?_); clear hK K Q' hE_18; simp only [lk, pick, Nat.reduceEqDiff, ↓reduceIte] at hE
   (repeat with_reducible first|refine ctl ?_|refine miss ?_)
   refine cond_no hE (t := 97) rfl ?_
   refine wp_skip ?_
   (repeat with_reducible first|refine ctlE ?_|refine miss ?_)
   exact wrong_end A cap L lcap b HO.out hs out (HX.out (.inl (by omega))) hol9 O oc B w w8 hM8 hb8 (hCB'.below h78) hO _ (hE.keep [2, 11])
set_option maxRecDepth 100000 in
set_option maxHeartbeats 4000000 in
theorem wrong_b (ho : b.ok = true) (n : Int) (wl : List Nat) (hwl9 : wl.length ≤ 9) (l2 : rightP b wl = true) (l3 : ∀ u, IncN 0 b.lines.length u → u.length < wl.length → rightP b u = false) (l4 : ∀ u, IncN 0 b.lines.length u → u.length = wl.length → lessN u wl = true → rightP b u = false) (hs : b.small cap lcap) (T : Option Addr) (c B : Nat) (w w5 : World) (hM5 : BkAt w5 A L b) (hb5 : Below w.heap.size w w5) (hCB : Cells w5 B (bkV A cap L lcap b)) (hT5 : Arr w5 w5.heap.size T (nats wl)) (a : Act) (hE : Fits 115 [(1, .int .i64 n), (2, .pointer (some ⟨B, 0, none⟩)), (5, .slice T wl.length c)] a) :
    (cr 5 (bodyOf Try.f7)).wp Try.prog (bodyPost Try.prog Try.f7 fun e w' => e = .returned (.bool true) ∧ Below w.heap.size w w') a w5 := by
 have HC := hid (wrong_c A cap L lcap b ho n wl hwl9 l3 l4 hs T c B w)
 have C5 := hid (lwithout_any A cap L lcap b T c wl w5 hM5 hs (ok_nine ho) hT5 (by omega))
 obtain ⟨m2, hm2⟩ : ∃ m, (b.without wl).ts.length = m := ⟨_, rfl⟩
 have hm2p : 1 ≤ m2 := by
  rw [right_ts] at l2
  cases hts : (b.without wl).ts with
  | nil => rw [hts] at l2; cases l2
  | cons x l => rw [hts] at hm2; simp at hm2; omega
 have C6 : Hid (∀ W A' cap', BkAt W A A' (b.without wl) → (b.without wl).small cap cap' → Calls Try.prog 30 #[.agg (bkV A cap A' cap' (b.without wl)).toArray] W fun e w' => e = .returned (.tuple #[.int .i64 m2, .int .i64 0]) ∧ Below W.heap.size W w') := hid fun W A' cap' hW hs' => by
  have h := pTruths_any A cap A' cap' (b.without wl) W hW hs'
  rw [truths_of _ (ok_without ho wl), hm2] at h
  exact h
 have HM2 := hid hm2p
 clear l2 l3 l4 hm2 hm2p ho
 have hCB' := hCB
 simp only [bkV] at C5 hCB
 have nB := hCB.1; have cB0 := hCB.2 0 _ rfl; have cB1 := hCB.2 1 _ rfl; have cB2 := hCB.2 2 _ rfl; have cB3 := hCB.2 3 _ rfl; have cB4 := hCB.2 4 _ rfl; have cB5 := hCB.2 5 _ rfl; have cB6 := hCB.2 6 _ rfl
 refine wp_seq ?_; (repeat with_reducible first|refine ctl ?_|refine miss ?_)
 refine Rs 9 fun Q' K hK => ?_
 refine Lp fun K' hK' => ?_
 have r2 := hE.at 2 rfl; refine op1 r2 fun ρ qc qf qg q2 => ?_; go_simp; (try clear qc qf qg r2 q2)
 refine Ln hE hK' fun a_1 hE_1 => ?_; clear hK' K' hE a
 refine Lp fun K' hK' => ?_
 have r5 := hE_1.at 5 rfl; refine op1 r5 fun ρ qc qf qg q5 => ?_; go_simp; (try clear qc qf qg r5 q5)
 refine Ln hE_1 hK' fun a_2 hE_2 => ?_; clear hK' K' hE_1
 refine Lp fun K' hK' => ?_
 have r58 := hE_2.at 58 rfl; have r59 := hE_2.at 59 rfl
 refine op2 r58 r59 fun ρ qc qf qg q58 q59 => ?_; go_simp; (try go_bits); (try clear qc qf qg r58 q58 r59 q59)
 go_at_call 35; refine (C5.out).mono ?_; rintro e w6 ⟨⟨A', cap', rfl, hsm, hM6⟩, h6⟩
 (try clear r58 r59)
 refine Ln hE_2 hK' fun a_3 hE_3 => ?_; clear hK' K' hE_2
 refine Lp fun K' hK' => ?_
 have r60 := hE_3.at 60 rfl; refine op1 r60 fun ρ qc qf qg q60 => ?_; go_simp; (try go_bits); (try clear qc qf qg r60 q60)
 go_at_call 30; refine (C6.out _ A' cap' hM6 hsm).mono ?_; rintro e w7 ⟨rfl, h7⟩
 (try clear r60)
 refine Ln hE_3 hK' fun a_4 hE_4 => ?_; clear hK' K' hE_3
 refine Lp fun K' hK' => ?_
 have r61 := hE_4.at 61 rfl; refine op1 r61 fun ρ qc qf qg q61 => ?_; go_simp; (try clear qc qf qg r61 q61)
 refine Ln hE_4 hK' fun a_5 hE_5 => ?_; clear hK' K' hE_4
 refine Lp fun K' hK' => ?_
 have r57 := hE_5.at 57 rfl; refine op1 r57 fun ρ qc qf qg q57 => ?_; go_simp; (try clear qc qf qg r57 q57)
 refine Ln hE_5 hK' fun a_6 hE_6 => ?_; clear hK' K' hE_5
 refine Lp fun K' hK' => ?_
 have r57 := hE_6.at 57 rfl; refine op1 r57 fun ρ qc qf qg q57 => ?_; go_simp; (try clear qc qf qg r57 q57)
 refine Ln hE_6 hK' fun a_7 hE_7 => ?_; clear hK' K' hE_6
 refine Lp fun K' hK' => ?_
 have r62 := hE_7.at 62 rfl; refine op1 r62 fun ρ qc qf qg q62 => ?_; go_simp; (try clear qc qf qg r62 q62)
 refine Ln hE_7 hK' fun a_8 hE_8 => ?_; clear hK' K' hE_7
 refine Lp fun K' hK' => ?_
 have r63 := hE_8.at 63 rfl; refine op1 r63 fun ρ qc qf qg q63 => ?_; go_simp; (try clear qc qf qg r63 q63)
 refine Ln hE_8 hK' fun a_9 hE_9 => ?_; clear hK' K' hE_8
 refine late_done [1, 2, 5, 9, 10] hE_9 hK (fun a hE => ?_); clear hK K Q' hE_9; simp only [lk, pick, Nat.reduceEqDiff, ↓reduceIte] at hE
 have h57 := h6.trans (h7.mono h6.size)
 have hb7 := hb5.trans (h57.mono hb5.size)
 have hM7 := hM5.below h57
 have hT7 := (hT5.below h57).more h57.size
 clear nB cB0 cB1 cB2 cB3 cB4 cB5 cB6 hM6 hsm h6 h7
 (repeat with_reducible first|refine ctl ?_|refine miss ?_)
 refine Rs 6 fun Q' K hK => ?_
 refine Lp fun K' hK' => ?_
 have r10 := hE.at 10 rfl; refine op1 r10 fun ρ qc qf qg q10 => ?_; go_simp; (try clear qc qf qg r10 q10)
 refine Ln hE hK' fun a_1 hE_1 => ?_; clear hK' K' hE a
 refine Lp fun K' hK' => ?_
 have r64 := hE_1.at 64 rfl; refine op1 r64 fun ρ qc qf qg q64 => ?_; go_simp; (try go_bits); (try clear qc qf qg r64 q64)
 refine Ln hE_1 hK' fun a_2 hE_2 => ?_; clear hK' K' hE_1
 refine Lp fun K' hK' => ?_
 have r65 := hE_2.at 65 rfl; refine op1 r65 fun ρ qc qf qg q65 => ?_; go_simp; (try clear qc qf qg r65 q65)
 refine Ln hE_2 hK' fun a_3 hE_3 => ?_; clear hK' K' hE_2
 refine Ly hE_3 66 fun K' hK' => ?_
 have r9 := hE_3.at 9 rfl; refine op1 r9 fun ρ qc qf qg q9 => ?_; go_simp; (try clear qc qf qg r9 q9)
 refine Ln hE_3 hK' fun a_4 hE_4 => ?_; clear hK' K' hE_3
 refine Ly hE_4 66 fun K' hK' => ?_
 have r67 := hE_4.at 67 rfl; refine op1 r67 fun ρ qc qf qg q67 => ?_; go_simp; (try go_bits); (try clear qc qf qg r67 q67)
 refine Ln hE_4 hK' fun a_5 hE_5 => ?_; clear hK' K' hE_4
 replace hE_5 := hE_5.turn 68 (v' := .bool false) rfl (by (have := HM2.out; simp; omega))
 refine Lp fun K' hK' => ?_
 have r66 := hE_5.at 66 rfl; have r68 := hE_5.at 68 rfl
 refine op2 r66 r68 fun ρ qc qf qg q66 q68 => ?_; go_simp; (try go_bits); (try clear qc qf qg r66 q66 r68 q68)
 (try clear r66 r68)
 refine Ln hE_5 hK' fun a_6 hE_6 => ?_; clear hK' K' hE_5
 refine late_done [1, 2, 5, 69] hE_6 hK (fun a hE => ?_); clear hK K Q' hE_6; simp only [lk, pick, Nat.reduceEqDiff, ↓reduceIte] at hE
 (repeat with_reducible first|refine ctl ?_|refine miss ?_)
 refine cond_no hE (t := 69) rfl ?_
 refine wp_skip ?_
 (repeat with_reducible first|refine ctlE ?_|refine miss ?_)
 exact HC.out w7 hM7 hb7 (hCB'.below h57) hT7 _ (hE.keep [1, 2, 5])
set_option maxRecDepth 100000 in
set_option maxHeartbeats 4000000 in
theorem wrong_good (ho : b.ok = true) (n : Int) (w : World) (hM : BkAt w A L b) (hs : b.small cap lcap) : Calls Try.prog 7 #[.agg (bkV A cap L lcap b).toArray, .int .i64 n] w fun e w' => e = .returned (.bool true) ∧ Below w.heap.size w w' := by
 have h9 := ok_nine ho
 have hlo := (bk_parts ho).2.2.2.1.1
 have e1 : pWrongL b = wrongP b := by unfold pWrongL; rw [ho]; rfl
 have e2 : bkE b = 0 := by unfold bkE; rw [ho]; rfl
 obtain ⟨l1, l2, l3, l4, l5⟩ := wrong_lawN hlo
 obtain ⟨wl, hwl⟩ : ∃ wl, wrongP b = wl := ⟨_, rfl⟩
 rw [hwl] at e1 l1 l2 l3 l4 l5
 have hwn := incN_len l1
 have hwl9 : wl.length ≤ 9 := by omega
 have HB := hid fun T c B V => wrong_b A cap L lcap b ho n wl hwl9 l2 l3 l4 hs T c B w V
 have C1 : Hid (∀ W, BkAt W A L b → Calls Try.prog 21 #[.agg (bkV A cap L lcap b).toArray] W fun e w' => (∃ T c, e = .returned (.tuple #[.slice T wl.length c, .int .i64 0]) ∧ Arr w' w'.heap.size T (nats wl)) ∧ Below W.heap.size W w') := hid fun W hW => by
  have h := pWrong_any A cap L lcap b W hW hs
  rw [e1, e2] at h
  exact h
 have C2 : Hid (∀ W, BkAt W A L b → Calls Try.prog 16 #[.agg (bkV A cap L lcap b).toArray] W fun e w' => e = .returned (.bool true) ∧ Below W.heap.size W w') := hid fun W hW => by
  have h := sound_any A cap L lcap b W hW hs
  rw [ho] at h
  exact h
 obtain ⟨m, hm⟩ : ∃ m, b.ts.length = m := ⟨_, rfl⟩
 have C3 : Hid (∀ W, BkAt W A L b → Calls Try.prog 30 #[.agg (bkV A cap L lcap b).toArray] W fun e w' => e = .returned (.tuple #[.int .i64 m, .int .i64 0]) ∧ Below W.heap.size W w') := hid fun W hW => by
  have h := pTruths_any A cap L lcap b W hW hs
  rw [truths_of _ ho, hm] at h
  exact h
 have C4 : Hid (∀ T c W, Arr W W.heap.size T (nats wl) → Calls Try.prog 34 #[.slice T wl.length c, .int .i64 b.lines.length] W fun e w' => e = .returned (.bool true) ∧ Below W.heap.size W w') := hid fun T c W hW => by
  have h := climbs_yes T c (wl.map fun (i : Nat) => (i : Int)) b.lines.length W (by rw [← nats_ints]; exact hW) (by rw [List.length_map]; omega) (incN_climbsI l1)
  rw [List.length_map] at h
  exact h
 have HQ : Hid ((wl.length = 0 ∧ 0 < m) ∨ (0 < wl.length ∧ m = 0)) := hid (by rw [hm] at l5; omega)
 clear e1 e2 l1 l2 l3 l4 l5 hwl hm hlo hwn ho h9
 simp only [bkV] at C1 C2 C3 ⊢
 refine enterE Try.func7 rfl Try.ntmps7 (by simp) (fun a hE => ?_); simp only [envOf, Nat.zero_add, Nat.reduceAdd] at hE
 (repeat with_reducible first|refine ctl ?_|refine miss ?_)
 refine Rs 2 fun Q' K hK => ?_
 refine Lp fun K' hK' => ?_
 have r0 := hE.at 0 rfl; refine op1 r0 fun ρ qc qf qg q0 => ?_; go_simp; (try clear qc qf qg r0 q0)
 refine Ln hE hK' fun a_1 hE_1 => ?_; clear hK' K' hE a
 refine Lp fun K' hK' => ?_
 refine op0 fun ρ qc qf qg => ?_; go_simp; (try clear qc qf qg)
 refine Ln hE_1 hK' fun a_2 hE_2 => ?_; clear hK' K' hE_1
 refine late_done [1, 2] hE_2 hK (fun a hE => ?_); clear hK K Q' hE_2; simp only [lk, pick, Nat.reduceEqDiff, ↓reduceIte] at hE
 obtain ⟨B, hBe⟩ : ∃ B, B = w.heap.size := ⟨_, rfl⟩; rw [← hBe] at hE; refine world_cut (fun wt => Below w.heap.size w wt ∧ Cells wt B (bkV A cap L lcap b)) ⟨(Below.refl _ _).alloc (Nat.le_refl _) _, by rw [hBe]; exact cells_new _ _ _⟩ (fun w1 hCut => ?_); obtain ⟨hbw1, hCB⟩ := hCut; clear hBe
 have hM1 := hM.below hbw1
 simp only [bkV] at hCB
 have nB := hCB.1; have cB0 := hCB.2 0 _ rfl; have cB1 := hCB.2 1 _ rfl; have cB2 := hCB.2 2 _ rfl; have cB3 := hCB.2 3 _ rfl; have cB4 := hCB.2 4 _ rfl; have cB5 := hCB.2 5 _ rfl; have cB6 := hCB.2 6 _ rfl
 (repeat with_reducible first|refine ctl ?_|refine miss ?_)
 refine Rs 7 fun Q' K hK => ?_
 refine Lp fun K' hK' => ?_
 have r2 := hE.at 2 rfl; refine op1 r2 fun ρ qc qf qg q2 => ?_; go_simp; (try clear qc qf qg r2 q2)
 refine Ln hE hK' fun a_1 hE_1 => ?_; clear hK' K' hE a
 refine Lp fun K' hK' => ?_
 have r13 := hE_1.at 13 rfl; refine op1 r13 fun ρ qc qf qg q13 => ?_; go_simp; (try go_bits); (try clear qc qf qg r13 q13)
 go_at_call 21; refine (C1.out _ hM1).mono ?_; rintro e w2 ⟨⟨T, c, rfl, hT2⟩, h2⟩
 (try clear r13)
 refine Ln hE_1 hK' fun a_2 hE_2 => ?_; clear hK' K' hE_1
 refine Lp fun K' hK' => ?_
 have r14 := hE_2.at 14 rfl; refine op1 r14 fun ρ qc qf qg q14 => ?_; go_simp; (try clear qc qf qg r14 q14)
 refine Ln hE_2 hK' fun a_3 hE_3 => ?_; clear hK' K' hE_2
 refine Lp fun K' hK' => ?_
 have r12 := hE_3.at 12 rfl; refine op1 r12 fun ρ qc qf qg q12 => ?_; go_simp; (try clear qc qf qg r12 q12)
 refine Ln hE_3 hK' fun a_4 hE_4 => ?_; clear hK' K' hE_3
 refine Lp fun K' hK' => ?_
 have r12 := hE_4.at 12 rfl; refine op1 r12 fun ρ qc qf qg q12 => ?_; go_simp; (try clear qc qf qg r12 q12)
 refine Ln hE_4 hK' fun a_5 hE_5 => ?_; clear hK' K' hE_4
 refine Lp fun K' hK' => ?_
 have r15 := hE_5.at 15 rfl; refine op1 r15 fun ρ qc qf qg q15 => ?_; go_simp; (try clear qc qf qg r15 q15)
 refine Ln hE_5 hK' fun a_6 hE_6 => ?_; clear hK' K' hE_5
 refine Lp fun K' hK' => ?_
 have r16 := hE_6.at 16 rfl; refine op1 r16 fun ρ qc qf qg q16 => ?_; go_simp; (try clear qc qf qg r16 q16)
 refine Ln hE_6 hK' fun a_7 hE_7 => ?_; clear hK' K' hE_6
 refine late_done [1, 2, 5, 6] hE_7 hK (fun a hE => ?_); clear hK K Q' hE_7; simp only [lk, pick, Nat.reduceEqDiff, ↓reduceIte] at hE
 have hb2 := hbw1.trans (h2.mono hbw1.size)
 have hM2 := hM.below hb2
 replace hCB := hCB.below h2
 clear nB cB0 cB1 cB2 cB3 cB4 cB5 cB6 hM1
 have nB := hCB.1; have cB0 := hCB.2 0 _ rfl; have cB1 := hCB.2 1 _ rfl; have cB2 := hCB.2 2 _ rfl; have cB3 := hCB.2 3 _ rfl; have cB4 := hCB.2 4 _ rfl; have cB5 := hCB.2 5 _ rfl; have cB6 := hCB.2 6 _ rfl
 (repeat with_reducible first|refine ctl ?_|refine miss ?_)
 refine Rs 3 fun Q' K hK => ?_
 refine Lp fun K' hK' => ?_
 have r2 := hE.at 2 rfl; refine op1 r2 fun ρ qc qf qg q2 => ?_; go_simp; (try clear qc qf qg r2 q2)
 refine Ln hE hK' fun a_1 hE_1 => ?_; clear hK' K' hE a
 refine Lp fun K' hK' => ?_
 have r17 := hE_1.at 17 rfl; refine op1 r17 fun ρ qc qf qg q17 => ?_; go_simp; (try go_bits); (try clear qc qf qg r17 q17)
 go_at_call 16; refine (C2.out _ hM2).mono ?_; rintro e w3 ⟨rfl, h3⟩
 (try clear r17)
 refine Ln hE_1 hK' fun a_2 hE_2 => ?_; clear hK' K' hE_1
 refine Lp fun K' hK' => ?_
 have r18 := hE_2.at 18 rfl; refine op1 r18 fun ρ qc qf qg q18 => ?_; go_simp; (try go_bits); (try simp (disch := omega) only [IntWalk.i64_in]); (try clear qc qf qg r18 q18)
 refine Ln hE_2 hK' fun a_3 hE_3 => ?_; clear hK' K' hE_2
 refine late_done [1, 2, 5, 6, 19] hE_3 hK (fun a hE => ?_); clear hK K Q' hE_3; simp only [lk, pick, Nat.reduceEqDiff, ↓reduceIte] at hE
 have hb3 := hb2.trans (h3.mono hb2.size)
 have hM3 := hM.below hb3
 have hT3 := (hT2.below h3).more h3.size
 replace hCB := hCB.below h3
 clear nB cB0 cB1 cB2 cB3 cB4 cB5 cB6 hM2 hT2
 have nB := hCB.1; have cB0 := hCB.2 0 _ rfl; have cB1 := hCB.2 1 _ rfl; have cB2 := hCB.2 2 _ rfl; have cB3 := hCB.2 3 _ rfl; have cB4 := hCB.2 4 _ rfl; have cB5 := hCB.2 5 _ rfl; have cB6 := hCB.2 6 _ rfl
 (repeat with_reducible first|refine ctl ?_|refine miss ?_)
 refine cond_no hE (t := 19) rfl ?_
 (repeat with_reducible first|refine ctl ?_|refine miss ?_)
 refine Rs 7 fun Q' K hK => ?_
 refine Lp fun K' hK' => ?_
 have r2 := hE.at 2 rfl; refine op1 r2 fun ρ qc qf qg q2 => ?_; go_simp; (try clear qc qf qg r2 q2)
 refine Ln hE hK' fun a_1 hE_1 => ?_; clear hK' K' hE a
 refine Lp fun K' hK' => ?_
 have r31 := hE_1.at 31 rfl; refine op1 r31 fun ρ qc qf qg q31 => ?_; go_simp; (try go_bits); (try clear qc qf qg r31 q31)
 go_at_call 30; refine (C3.out _ hM3).mono ?_; rintro e w4 ⟨rfl, h4⟩
 (try clear r31)
 refine Ln hE_1 hK' fun a_2 hE_2 => ?_; clear hK' K' hE_1
 refine Lp fun K' hK' => ?_
 have r32 := hE_2.at 32 rfl; refine op1 r32 fun ρ qc qf qg q32 => ?_; go_simp; (try clear qc qf qg r32 q32)
 refine Ln hE_2 hK' fun a_3 hE_3 => ?_; clear hK' K' hE_2
 refine Lp fun K' hK' => ?_
 have r30 := hE_3.at 30 rfl; refine op1 r30 fun ρ qc qf qg q30 => ?_; go_simp; (try clear qc qf qg r30 q30)
 refine Ln hE_3 hK' fun a_4 hE_4 => ?_; clear hK' K' hE_3
 refine Lp fun K' hK' => ?_
 have r30 := hE_4.at 30 rfl; refine op1 r30 fun ρ qc qf qg q30 => ?_; go_simp; (try clear qc qf qg r30 q30)
 refine Ln hE_4 hK' fun a_5 hE_5 => ?_; clear hK' K' hE_4
 refine Lp fun K' hK' => ?_
 have r33 := hE_5.at 33 rfl; refine op1 r33 fun ρ qc qf qg q33 => ?_; go_simp; (try clear qc qf qg r33 q33)
 refine Ln hE_5 hK' fun a_6 hE_6 => ?_; clear hK' K' hE_5
 refine Lp fun K' hK' => ?_
 have r34 := hE_6.at 34 rfl; refine op1 r34 fun ρ qc qf qg q34 => ?_; go_simp; (try clear qc qf qg r34 q34)
 refine Ln hE_6 hK' fun a_7 hE_7 => ?_; clear hK' K' hE_6
 refine late_done [1, 2, 5, 6, 7, 8] hE_7 hK (fun a hE => ?_); clear hK K Q' hE_7; simp only [lk, pick, Nat.reduceEqDiff, ↓reduceIte] at hE
 have hb4 := hb3.trans (h4.mono hb3.size)
 have hM4 := hM.below hb4
 have hT4 := (hT3.below h4).more h4.size
 replace hCB := hCB.below h4
 clear nB cB0 cB1 cB2 cB3 cB4 cB5 cB6 hM3 hT3
 have nB := hCB.1; have cB3 := hCB.2 3 _ rfl
 (repeat with_reducible first|refine ctl ?_|refine miss ?_)
 refine Rs 22 fun Q' K hK => ?_
 refine Lp fun K' hK' => ?_
 have r6 := hE.at 6 rfl; refine op1 r6 fun ρ qc qf qg q6 => ?_; go_simp; (try clear qc qf qg r6 q6)
 refine Ln hE hK' fun a_1 hE_1 => ?_; clear hK' K' hE a
 refine Lp fun K' hK' => ?_
 have r35 := hE_1.at 35 rfl; refine op1 r35 fun ρ qc qf qg q35 => ?_; go_simp; (try go_bits); (try clear qc qf qg r35 q35)
 refine Ln hE_1 hK' fun a_2 hE_2 => ?_; clear hK' K' hE_1
 refine Lp fun K' hK' => ?_
 have r36 := hE_2.at 36 rfl; refine op1 r36 fun ρ qc qf qg q36 => ?_; go_simp; (try clear qc qf qg r36 q36)
 refine Ln hE_2 hK' fun a_3 hE_3 => ?_; clear hK' K' hE_2
 refine Ly hE_3 37 fun K' hK' => ?_
 have r8 := hE_3.at 8 rfl; refine op1 r8 fun ρ qc qf qg q8 => ?_; go_simp; (try clear qc qf qg r8 q8)
 refine Ln hE_3 hK' fun a_4 hE_4 => ?_; clear hK' K' hE_3
 refine Ly hE_4 37 fun K' hK' => ?_
 have r38 := hE_4.at 38 rfl; refine op1 r38 fun ρ qc qf qg q38 => ?_; go_simp; (try go_bits); (try clear qc qf qg r38 q38)
 refine Ln hE_4 hK' fun a_5 hE_5 => ?_; clear hK' K' hE_4
 refine Lp fun K' hK' => ?_
 have r37 := hE_5.at 37 rfl; have r39 := hE_5.at 39 rfl
 refine op2 r37 r39 fun ρ qc qf qg q37 q39 => ?_; go_simp; (try go_bits); (try clear qc qf qg r37 q37 r39 q39)
 (try clear r37 r39)
 refine Ln hE_5 hK' fun a_6 hE_6 => ?_; clear hK' K' hE_5
 refine Lp fun K' hK' => ?_
 have r40 := hE_6.at 40 rfl; refine op1 r40 fun ρ qc qf qg q40 => ?_; go_simp; (try clear qc qf qg r40 q40)
 refine Ln hE_6 hK' fun a_7 hE_7 => ?_; clear hK' K' hE_6
 refine Ly hE_7 41 fun K' hK' => ?_
 have r5 := hE_7.at 5 rfl; refine op1 r5 fun ρ qc qf qg q5 => ?_; go_simp; (try clear qc qf qg r5 q5)
 refine Ln hE_7 hK' fun a_8 hE_8 => ?_; clear hK' K' hE_7
 refine Ly hE_8 41 fun K' hK' => ?_
 have r2 := hE_8.at 2 rfl; refine op1 r2 fun ρ qc qf qg q2 => ?_; go_simp; (try clear qc qf qg r2 q2)
 refine Ln hE_8 hK' fun a_9 hE_9 => ?_; clear hK' K' hE_8
 refine Ly hE_9 41 fun K' hK' => ?_
 have r43 := hE_9.at 43 rfl; refine op1 r43 fun ρ qc qf qg q43 => ?_; go_simp; (try clear qc qf qg r43 q43)
 refine Ln hE_9 hK' fun a_10 hE_10 => ?_; clear hK' K' hE_9
 refine Ly hE_10 41 fun K' hK' => ?_
 have r44 := hE_10.at 44 rfl; refine op1 r44 fun ρ qc qf qg q44 => ?_; go_simp; (try go_bits); (try clear qc qf qg r44 q44)
 refine Ln hE_10 hK' fun a_11 hE_11 => ?_; clear hK' K' hE_10
 refine Ly hE_11 41 fun K' hK' => ?_
 have r42 := hE_11.at 42 rfl; have r45 := hE_11.at 45 rfl
 refine op2 r42 r45 fun ρ qc qf qg q42 q45 => ?_; go_simp; (try go_bits); (try clear qc qf qg r42 q42 r45 q45)
 go_at_call 34; refine (C4.out _ _ _ hT4).mono ?_; rintro e w5 ⟨rfl, h5⟩
 (try clear r42 r45)
 refine Ln hE_11 hK' fun a_12 hE_12 => ?_; clear hK' K' hE_11
 refine Ly hE_12 41 fun K' hK' => ?_
 have r46 := hE_12.at 46 rfl; refine op1 r46 fun ρ qc qf qg q46 => ?_; go_simp; (try go_bits); (try simp (disch := omega) only [IntWalk.i64_in]); (try clear qc qf qg r46 q46)
 refine Ln hE_12 hK' fun a_13 hE_13 => ?_; clear hK' K' hE_12
 refine Lp fun K' hK' => ?_
 have r41 := hE_13.at 41 rfl; have r47 := hE_13.at 47 rfl
 refine op2 r41 r47 fun ρ qc qf qg q41 q47 => ?_; go_simp; (try go_bits); (try clear qc qf qg r41 q41 r47 q47)
 (try clear r41 r47)
 refine Ln hE_13 hK' fun a_14 hE_14 => ?_; clear hK' K' hE_13
 refine Lp fun K' hK' => ?_
 have r48 := hE_14.at 48 rfl; refine op1 r48 fun ρ qc qf qg q48 => ?_; go_simp; (try clear qc qf qg r48 q48)
 refine Ln hE_14 hK' fun a_15 hE_15 => ?_; clear hK' K' hE_14
 refine Ly hE_15 49 fun K' hK' => ?_
 have r5 := hE_15.at 5 rfl; refine op1 r5 fun ρ qc qf qg q5 => ?_; go_simp; (try clear qc qf qg r5 q5)
 refine Ln hE_15 hK' fun a_16 hE_16 => ?_; clear hK' K' hE_15
 refine Ly hE_16 49 fun K' hK' => ?_
 have r50 := hE_16.at 50 rfl; refine op1 r50 fun ρ qc qf qg q50 => ?_; go_simp; (try go_bits); (try clear qc qf qg r50 q50)
 refine Ln hE_16 hK' fun a_17 hE_17 => ?_; clear hK' K' hE_16
 refine Ly hE_17 49 fun K' hK' => ?_
 have r51 := hE_17.at 51 rfl; refine op1 r51 fun ρ qc qf qg q51 => ?_; go_simp; (try go_bits); (try clear qc qf qg r51 q51)
 refine Ln hE_17 hK' fun a_18 hE_18 => ?_; clear hK' K' hE_17
 refine Ly hE_18 49 fun K' hK' => ?_
 have r7 := hE_18.at 7 rfl; refine op1 r7 fun ρ qc qf qg q7 => ?_; go_simp; (try clear qc qf qg r7 q7)
 refine Ln hE_18 hK' fun a_19 hE_19 => ?_; clear hK' K' hE_18
 refine Ly hE_19 49 fun K' hK' => ?_
 have r53 := hE_19.at 53 rfl; refine op1 r53 fun ρ qc qf qg q53 => ?_; go_simp; (try go_bits); (try clear qc qf qg r53 q53)
 refine Ln hE_19 hK' fun a_20 hE_20 => ?_; clear hK' K' hE_19
 refine Ly hE_20 49 fun K' hK' => ?_
 have r52 := hE_20.at 52 rfl; have r54 := hE_20.at 54 rfl
 refine op2 r52 r54 fun ρ qc qf qg q52 q54 => ?_; go_simp; (try go_bits); (try clear qc qf qg r52 q52 r54 q54)
 (try clear r52 r54)
 refine Ln hE_20 hK' fun a_21 hE_21 => ?_; clear hK' K' hE_20
 replace hE_21 := hE_21.turn 55 (v' := .bool false) rfl (by (rcases HQ.out with ⟨h1, h2⟩ | ⟨h1, h2⟩; (have h3 : wl = [] := List.eq_nil_of_length_eq_zero h1; simp [h3, h2]); (have h3 : wl ≠ [] := fun e => by (rw [e] at h1; simp at h1)); simp [h3, h2]))
 refine Lp fun K' hK' => ?_
 have r49 := hE_21.at 49 rfl; have r55 := hE_21.at 55 rfl
 refine op2 r49 r55 fun ρ qc qf qg q49 q55 => ?_; go_simp; (try go_bits); (try clear qc qf qg r49 q49 r55 q55)
 (try clear r49 r55)
 refine Ln hE_21 hK' fun a_22 hE_22 => ?_; clear hK' K' hE_21
 refine late_done [1, 2, 5, 56] hE_22 hK (fun a hE => ?_); clear hK K Q' hE_22; simp only [lk, pick, Nat.reduceEqDiff, ↓reduceIte] at hE
 have hb5 := hb4.trans (h5.mono hb4.size)
 have hM5 := hM.below hb5
 have hT5 := (hT4.below h5).more h5.size
 replace hCB := hCB.below h5
 clear nB cB3
 (repeat with_reducible first|refine ctl ?_|refine miss ?_)
 refine cond_no hE (t := 56) rfl ?_
 refine wp_skip ?_
 (repeat with_reducible first|refine ctlE ?_|refine miss ?_)
 exact HB.out T c B w5 hM5 hb5 hCB hT5 _ (hE.keep [1, 2, 5])
theorem nwrong_any (n : Int) (w : World) (hM : BkAt w A L b) (hs : b.small cap lcap) : Calls Try.prog 7 #[.agg (bkV A cap L lcap b).toArray, .int .i64 n] w fun e w' => e = .returned (.bool true) ∧ Below w.heap.size w w' := by
 cases ho : b.ok
 ·exact wrong_bad A cap L lcap b ho n w hM hs
 ·exact wrong_good A cap L lcap b ho n w hM hs
end
end Go.Proofs.Ytbimkcjdodgojaa
