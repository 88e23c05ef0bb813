/- Name: how many truths; the wrong lines. -/
import Derived.Test.YtbimkcjdodgojaaNo
import Derived.Test.YtbimkcjdodgojaaNan
import Derived.Test.YtbimkcjdodgojaaNap
import Derived.Test.YtbimkcjdodgojaaNai
import Derived.Test.YtbimkcjdodgojaaNas
import Derived.Test.YtbimkcjdodgojaaNat
namespace Go.Proofs.Ytbimkcjdodgojaa
set_option linter.unusedSimpArgs false
set_option linter.unusedVariables false
open Go Go.RowKit
attribute [local go_sem high] cell_set_wr
attribute [local go_sem low] cell_wr frozen_wr
attribute [local go_sem] wr_set wr_drew wr_drewN wr_alloc wr_new

/-- the book's truths -/
def Bk.ts (b : Bk) : List Prs := fromP b.lines.length b.lost (couldsP b) b.lines.length 0 []
def pIsTruthR (b : Bk) (ps : IPrs) : Bool × Int := if b.ok then (b.ts.any fun t => sameP t ps, 0) else (false, 20)
theorem ok_nine {b : Bk} (h : b.ok = true) : b.lines.length ≤ 9 := by
 unfold Bk.ok headB at h
 simp only [Bool.and_eq_true, Bool.not_eq_true', decide_eq_false_iff_not] at h
 have := h.2.1.1.1
 omega
theorem couldsP_nine {b : Bk} (h : b.lines.length ≤ 9) (k : Nat) : ((couldsP b).getD k []).length ≤ 9 := Nat.le_trans (couldsP_len b k) h
theorem ts_short (b : Bk) : ∀ x ∈ b.ts, x.length ≤ b.lines.length := fun x hx => by
 have := fromP_tlen _ _ _ _ _ _ x hx
 simpa using this
set_option maxRecDepth 100000 in
set_option maxHeartbeats 2000000 in
theorem pIsTruth_any (A : Option Addr) (cap : Nat) (L : Option Addr) (lcap : Nat) (b : Bk) (G : Option Addr) (d : Nat) (ps : IPrs) (w : World) (hM : BkAt w A L b) (hs : b.small cap lcap) (hG : Arr w w.heap.size G (pairsI ps)) (hps : ps.length ≤ 9223372036854775807) : Calls Try.prog 18 #[.agg (bkV A cap L lcap b).toArray, .slice G ps.length d] w fun e w' => e = .returned (.tuple #[.bool (pIsTruthR b ps).1, .int .i64 (pIsTruthR b ps).2]) ∧ Below w.heap.size w w' := by
 have C1 : Hid (∀ W, BkAt W A L b → Calls Try.prog 44 #[.agg (bkV A cap L lcap b).toArray] W fun e w' => e = .returned (.int .i64 (bkE b)) ∧ Below W.heap.size W w') := hid fun W hW => pCheck_any A cap L lcap b W hW hs
 have C2 : Hid (b.ok = true → ∀ W, BkAt W A L b → _) := hid fun ho W hW => compared_any A cap L lcap b W hW hs (ok_nine ho) (ok_minutes ho)
 simp only [bkV] at C1 C2 ⊢
 refine enterE Try.func18 rfl Try.ntmps18 (by simp) (fun a hE => ?_); simp only [envOf, Nat.zero_add, Nat.reduceAdd] at hE
 (repeat with_reducible first|refine ctl ?_|refine miss ?_)
 refine Rs 3 fun Q' K hK => ?_
 refine Lp fun K' hK' => ?_
 have r0 := hE.at 0 rfl; refine op1 r0 fun ρ qc qf qg q0 => ?_; go_simp; (try clear qc qf qg r0 q0)
 refine Ln hE hK' fun a_1 hE_1 => ?_; clear hK' K' hE a
 refine Lp fun K' hK' => ?_
 refine op0 fun ρ qc qf qg => ?_; go_simp; (try clear qc qf qg)
 refine Ln hE_1 hK' fun a_2 hE_2 => ?_; clear hK' K' hE_1
 refine Lp fun K' hK' => ?_
 refine op0 fun ρ qc qf qg => ?_; go_simp; (try clear qc qf qg)
 refine Ln hE_2 hK' fun a_3 hE_3 => ?_; clear hK' K' hE_2
 refine late_done [1, 2] hE_3 hK (fun a hE => ?_); clear hK K Q' hE_3; simp only [lk, pick, Nat.reduceEqDiff, ↓reduceIte] at hE
 obtain ⟨B, hBe⟩ : ∃ B, B = w.heap.size := ⟨_, rfl⟩; rw [← hBe] at hE; refine world_cut (fun wt => Below w.heap.size w wt ∧ Cells wt B (bkV A cap L lcap b)) ⟨(Below.refl _ _).alloc (Nat.le_refl _) _, by rw [hBe]; exact cells_new _ _ _⟩ (fun w1 hCut => ?_); obtain ⟨hbw1, hCB⟩ := hCut; clear hBe
 have hM1 := hM.below hbw1
 have hG1 := (hG.below hbw1).more hbw1.size
 simp only [bkV] at hCB
 have nB := hCB.1; have cB0 := hCB.2 0 _ rfl; have cB1 := hCB.2 1 _ rfl; have cB2 := hCB.2 2 _ rfl; have cB3 := hCB.2 3 _ rfl; have cB4 := hCB.2 4 _ rfl; have cB5 := hCB.2 5 _ rfl; have cB6 := hCB.2 6 _ rfl
 obtain ⟨r, hr⟩ : ∃ r, bkE b = r := ⟨_, rfl⟩
 rw [hr] at C1
 have HR := hid hr
 clear hr
 (repeat with_reducible first|refine ctl ?_|refine miss ?_)
 refine Rs 3 fun Q' K hK => ?_
 refine Lp fun K' hK' => ?_
 have r2 := hE.at 2 rfl; refine op1 r2 fun ρ qc qf qg q2 => ?_; go_simp; (try clear qc qf qg r2 q2)
 refine Ln hE hK' fun a_1 hE_1 => ?_; clear hK' K' hE a
 refine Lp fun K' hK' => ?_
 have r7 := hE_1.at 7 rfl; refine op1 r7 fun ρ qc qf qg q7 => ?_; go_simp; (try go_bits); (try clear qc qf qg r7 q7)
 go_at_call 44; refine (C1.out _ hM1).mono ?_; rintro e w2 ⟨rfl, h2⟩
 (try clear r7)
 refine Ln hE_1 hK' fun a_2 hE_2 => ?_; clear hK' K' hE_1
 refine Lp fun K' hK' => ?_
 have r8 := hE_2.at 8 rfl; refine op1 r8 fun ρ qc qf qg q8 => ?_; go_simp; (try clear qc qf qg r8 q8)
 refine Ln hE_2 hK' fun a_3 hE_3 => ?_; clear hK' K' hE_2
 refine late_done [1, 2, 6] hE_3 hK (fun a hE => ?_); clear hK K Q' hE_3; simp only [lk, pick, Nat.reduceEqDiff, ↓reduceIte] at hE
 have hb2 := hbw1.trans (h2.mono hbw1.size)
 have hM2 := hM.below hb2
 have hG2 := (hG.below hb2).more hb2.size
 replace hCB := hCB.below h2
 clear nB cB0 cB1 cB2 cB3 cB4 cB5 cB6 C1
 have nB := hCB.1; have cB0 := hCB.2 0 _ rfl; have cB1 := hCB.2 1 _ rfl; have cB2 := hCB.2 2 _ rfl; have cB3 := hCB.2 3 _ rfl; have cB4 := hCB.2 4 _ rfl; have cB5 := hCB.2 5 _ rfl; have cB6 := hCB.2 6 _ rfl
 by_cases hr0 : r = 0
 ·subst hr0
  have hok : b.ok = true := by
   have := HR.out
   unfold bkE at this
   revert this
   cases b.ok <;> simp
  have HO := hid hok
  clear hok
  (repeat with_reducible first|refine ctl ?_|refine miss ?_)
  refine Rs 2 fun Q' K hK => ?_
  refine Lp fun K' hK' => ?_
  have r6 := hE.at 6 rfl; refine op1 r6 fun ρ qc qf qg q6 => ?_; go_simp; (try clear qc qf qg r6 q6)
  refine Ln hE hK' fun a_1 hE_1 => ?_; clear hK' K' hE a
  refine Lp fun K' hK' => ?_
  have r9 := hE_1.at 9 rfl; refine op1 r9 fun ρ qc qf qg q9 => ?_; go_simp; (try go_bits); (try clear qc qf qg r9 q9)
  refine Ln hE_1 hK' fun a_2 hE_2 => ?_; clear hK' K' hE_1
  refine late_done [1, 2, 10] hE_2 hK (fun a hE => ?_); clear hK K Q' hE_2; simp only [lk, pick, Nat.reduceEqDiff, ↓reduceIte] at hE
  (repeat with_reducible first|refine ctl ?_|refine miss ?_)
  refine cond_no hE (t := 10) rfl ?_
  (repeat with_reducible first|refine ctl ?_|refine miss ?_)
  refine Rs 6 fun Q' K hK => ?_
  refine Lp fun K' hK' => ?_
  have r2 := hE.at 2 rfl; refine op1 r2 fun ρ qc qf qg q2 => ?_; go_simp; (try clear qc qf qg r2 q2)
  refine Ln hE hK' fun a_1 hE_1 => ?_; clear hK' K' hE a
  refine Lp fun K' hK' => ?_
  have r12 := hE_1.at 12 rfl; refine op1 r12 fun ρ qc qf qg q12 => ?_; go_simp; (try go_bits); (try clear qc qf qg r12 q12)
  go_at_call 59; refine (C2.out HO.out _ hM2).mono ?_; rintro e w3 ⟨⟨f, rfl, hu⟩, h3⟩
  (try clear r12)
  refine Ln hE_1 hK' fun a_2 hE_2 => ?_; clear hK' K' hE_1
  refine Lp fun K' hK' => ?_
  have r1 := hE_2.at 1 rfl; refine op1 r1 fun ρ qc qf qg q1 => ?_; go_simp; (try clear qc qf qg r1 q1)
  refine Ln hE_2 hK' fun a_3 hE_3 => ?_; clear hK' K' hE_2
  refine Lp fun K' hK' => ?_
  have r13 := hE_3.at 13 rfl; have r14 := hE_3.at 14 rfl
  refine op2 r13 r14 fun ρ qc qf qg q13 q14 => ?_; go_simp; (try go_bits); (try clear qc qf qg r13 q13 r14 q14)
  go_at_call 60; refine (areTrue_any (w := w3) G d ps ((hG2.below h3).more h3.size) hps (ok_nine HO.out) hs.2.2.1 (fun k => Nat.le_trans (couldsP_nine (ok_nine HO.out) k) (by decide)) (hu.of_below (Below.refl _ _) (fun k hk _ => hk.elim)) (fun x hx => Nat.le_trans (ts_short b x hx) (Nat.le_trans (ok_nine HO.out) (by decide)))).mono ?_; rintro e w4 ⟨rfl, h4⟩
  (try clear r13 r14)
  refine Ln hE_3 hK' fun a_4 hE_4 => ?_; clear hK' K' hE_3
  refine Lp fun K' hK' => ?_
  have r15 := hE_4.at 15 rfl; refine op1 r15 fun ρ qc qf qg q15 => ?_; go_simp; (try clear qc qf qg r15 q15)
  refine Ln hE_4 hK' fun a_5 hE_5 => ?_; clear hK' K' hE_4
  refine Lp fun K' hK' => ?_
  refine op0 fun ρ qc qf qg => ?_; go_simp; (try clear qc qf qg)
  refine Ln hE_5 hK' fun a_6 hE_6 => ?_; clear hK' K' hE_5
  refine late_done [4, 5] hE_6 hK (fun a hE => ?_); clear hK K Q' hE_6; simp only [lk, pick, Nat.reduceEqDiff, ↓reduceIte] at hE
  (repeat with_reducible first|refine ctl ?_|refine miss ?_)
  refine ret_two hE rfl rfl rfl ⟨?_, hb2.trans ((h3.trans (h4.mono h3.size)).mono hb2.size)⟩
  unfold pIsTruthR
  rw [HO.out]; rfl
 ·have hno : b.ok = false ∧ r = 20 := by
   have := HR.out
   unfold bkE at this
   revert this
   cases b.ok
   ·intro h; exact ⟨rfl, by simpa using h.symm⟩
   ·intro h; simp at h; exact absurd h.symm hr0
  obtain ⟨hno, rfl⟩ := hno
  have HO := hid hno
  clear hno
  (repeat with_reducible first|refine ctl ?_|refine miss ?_)
  refine Rs 2 fun Q' K hK => ?_
  refine Lp fun K' hK' => ?_
  have r6 := hE.at 6 rfl; refine op1 r6 fun ρ qc qf qg q6 => ?_; go_simp; (try clear qc qf qg r6 q6)
  refine Ln hE hK' fun a_1 hE_1 => ?_; clear hK' K' hE a
  refine Lp fun K' hK' => ?_
  have r9 := hE_1.at 9 rfl; refine op1 r9 fun ρ qc qf qg q9 => ?_; go_simp; (try go_bits); (try clear qc qf qg r9 q9)
  refine Ln hE_1 hK' fun a_2 hE_2 => ?_; clear hK' K' hE_1
  refine late_done [1, 2, 6, 10] hE_2 hK (fun a hE => ?_); clear hK K Q' hE_2; simp only [lk, pick, Nat.reduceEqDiff, ↓reduceIte] at hE
  (repeat with_reducible first|refine ctl ?_|refine miss ?_)
  refine cond_yes hE (t := 10) rfl ?_
  (repeat with_reducible first|refine ctl ?_|refine miss ?_)
  refine Rs 3 fun Q' K hK => ?_
  refine Lp fun K' hK' => ?_
  have r6 := hE.at 6 rfl; refine op1 r6 fun ρ qc qf qg q6 => ?_; go_simp; (try clear qc qf qg r6 q6)
  refine Ln hE hK' fun a_1 hE_1 => ?_; clear hK' K' hE a
  refine Lp fun K' hK' => ?_
  refine op0 fun ρ qc qf qg => ?_; go_simp; (try clear qc qf qg)
  refine Ln hE_1 hK' fun a_2 hE_2 => ?_; clear hK' K' hE_1
  refine Lp fun K' hK' => ?_
  have r11 := hE_2.at 11 rfl; refine op1 r11 fun ρ qc qf qg q11 => ?_; go_simp; (try clear qc qf qg r11 q11)
  refine Ln hE_2 hK' fun a_3 hE_3 => ?_; clear hK' K' hE_2
  refine late_done [4, 5] hE_3 hK (fun a hE => ?_); clear hK K Q' hE_3; simp only [lk, pick, Nat.reduceEqDiff, ↓reduceIte] at hE
  (repeat with_reducible first|refine ctl ?_|refine miss ?_)
  refine ret_two hE rfl rfl rfl ⟨?_, hb2⟩
  unfold pIsTruthR
  rw [HO.out]; rfl

def pTruthsR (b : Bk) : Int × Int := if b.ok then (b.ts.length, 0) else (0, 20)
def pWrongL (b : Bk) : List Nat := if b.ok then wrongP b else []
theorem couldsP_lt {b : Bk} (h : b.lines.length ≤ 9) (k : Nat) : ∀ o ∈ (couldsP b).getD k [], o < 9 := fun o ho => by
 rw [List.getD_eq_getElem?_getD, couldsP, List.getElem?_map] at ho
 cases hq : (List.range b.lines.length)[k]? with
 | none => rw [hq] at ho; simp at ho
 | some i =>
  rw [hq] at ho
  simp only [Option.map_some, Option.getD_some, couldP, List.mem_filter, List.mem_range] at ho
  omega
set_option maxRecDepth 100000 in
set_option maxHeartbeats 2000000 in
theorem pTruths_any (A : Option Addr) (cap : Nat) (L : Option Addr) (lcap : Nat) (b : Bk) (w : World) (hM : BkAt w A L b) (hs : b.small cap lcap) : Calls Try.prog 30 #[.agg (bkV A cap L lcap b).toArray] w fun e w' => e = .returned (.tuple #[.int .i64 (pTruthsR b).1, .int .i64 (pTruthsR b).2]) ∧ Below w.heap.size w w' := by
 have C1 : Hid (∀ W, BkAt W A L b → Calls Try.prog 44 #[.agg (bkV A cap L lcap b).toArray] W fun e w' => e = .returned (.int .i64 (bkE b)) ∧ Below W.heap.size W w') := hid fun W hW => pCheck_any A cap L lcap b W hW hs
 have C2 : Hid (b.ok = true → ∀ W, BkAt W A L b → _) := hid fun ho W hW => compared_any A cap L lcap b W hW hs (ok_nine ho) (ok_minutes ho)
 simp only [bkV] at C1 C2 ⊢
 refine enterE Try.func30 rfl Try.ntmps30 (by simp) (fun a hE => ?_); simp only [envOf, Nat.zero_add, Nat.reduceAdd] at hE
 (repeat with_reducible first|refine ctl ?_|refine miss ?_)
 refine Rs 3 fun Q' K hK => ?_
 refine Lp fun K' hK' => ?_
 have r0 := hE.at 0 rfl; refine op1 r0 fun ρ qc qf qg q0 => ?_; go_simp; (try clear qc qf qg r0 q0)
 refine Ln hE hK' fun a_1 hE_1 => ?_; clear hK' K' hE a
 refine Lp fun K' hK' => ?_
 refine op0 fun ρ qc qf qg => ?_; go_simp; (try clear qc qf qg)
 refine Ln hE_1 hK' fun a_2 hE_2 => ?_; clear hK' K' hE_1
 refine Lp fun K' hK' => ?_
 refine op0 fun ρ qc qf qg => ?_; go_simp; (try clear qc qf qg)
 refine Ln hE_2 hK' fun a_3 hE_3 => ?_; clear hK' K' hE_2
 refine late_done [1] hE_3 hK (fun a hE => ?_); clear hK K Q' hE_3; simp only [lk, pick, Nat.reduceEqDiff, ↓reduceIte] at hE
 obtain ⟨B, hBe⟩ : ∃ B, B = w.heap.size := ⟨_, rfl⟩; rw [← hBe] at hE; refine world_cut (fun wt => Below w.heap.size w wt ∧ Cells wt B (bkV A cap L lcap b)) ⟨(Below.refl _ _).alloc (Nat.le_refl _) _, by rw [hBe]; exact cells_new _ _ _⟩ (fun w1 hCut => ?_); obtain ⟨hbw1, hCB⟩ := hCut; clear hBe
 have hM1 := hM.below hbw1
 simp only [bkV] at hCB
 have nB := hCB.1; have cB0 := hCB.2 0 _ rfl; have cB1 := hCB.2 1 _ rfl; have cB2 := hCB.2 2 _ rfl; have cB3 := hCB.2 3 _ rfl; have cB4 := hCB.2 4 _ rfl; have cB5 := hCB.2 5 _ rfl; have cB6 := hCB.2 6 _ rfl
 obtain ⟨r, hr⟩ : ∃ r, bkE b = r := ⟨_, rfl⟩
 rw [hr] at C1
 have HR := hid hr
 clear hr
 (repeat with_reducible first|refine ctl ?_|refine miss ?_)
 refine Rs 3 fun Q' K hK => ?_
 refine Lp fun K' hK' => ?_
 have r1 := hE.at 1 rfl; refine op1 r1 fun ρ qc qf qg q1 => ?_; go_simp; (try clear qc qf qg r1 q1)
 refine Ln hE hK' fun a_1 hE_1 => ?_; clear hK' K' hE a
 refine Lp fun K' hK' => ?_
 have r5 := hE_1.at 5 rfl; refine op1 r5 fun ρ qc qf qg q5 => ?_; go_simp; (try go_bits); (try clear qc qf qg r5 q5)
 go_at_call 44; refine (C1.out _ hM1).mono ?_; rintro e w2 ⟨rfl, h2⟩
 (try clear r5)
 refine Ln hE_1 hK' fun a_2 hE_2 => ?_; clear hK' K' hE_1
 refine Lp fun K' hK' => ?_
 have r6 := hE_2.at 6 rfl; refine op1 r6 fun ρ qc qf qg q6 => ?_; go_simp; (try clear qc qf qg r6 q6)
 refine Ln hE_2 hK' fun a_3 hE_3 => ?_; clear hK' K' hE_2
 refine late_done [1, 4] hE_3 hK (fun a hE => ?_); clear hK K Q' hE_3; simp only [lk, pick, Nat.reduceEqDiff, ↓reduceIte] at hE
 have hb2 := hbw1.trans (h2.mono hbw1.size)
 have hM2 := hM.below hb2
 replace hCB := hCB.below h2
 clear nB cB0 cB1 cB2 cB3 cB4 cB5 cB6 C1
 have nB := hCB.1; have cB0 := hCB.2 0 _ rfl; have cB1 := hCB.2 1 _ rfl; have cB2 := hCB.2 2 _ rfl; have cB3 := hCB.2 3 _ rfl; have cB4 := hCB.2 4 _ rfl; have cB5 := hCB.2 5 _ rfl; have cB6 := hCB.2 6 _ rfl
 by_cases hr0 : r = 0
 ·subst hr0
  have hok : b.ok = true := by
   have := HR.out
   unfold bkE at this
   revert this
   cases b.ok <;> simp
  have HO := hid hok
  clear hok
  (repeat with_reducible first|refine ctl ?_|refine miss ?_)
  refine Rs 2 fun Q' K hK => ?_
  refine Lp fun K' hK' => ?_
  have r4 := hE.at 4 rfl; refine op1 r4 fun ρ qc qf qg q4 => ?_; go_simp; (try clear qc qf qg r4 q4)
  refine Ln hE hK' fun a_1 hE_1 => ?_; clear hK' K' hE a
  refine Lp fun K' hK' => ?_
  have r7 := hE_1.at 7 rfl; refine op1 r7 fun ρ qc qf qg q7 => ?_; go_simp; (try go_bits); (try clear qc qf qg r7 q7)
  refine Ln hE_1 hK' fun a_2 hE_2 => ?_; clear hK' K' hE_1
  refine late_done [1, 8] hE_2 hK (fun a hE => ?_); clear hK K Q' hE_2; simp only [lk, pick, Nat.reduceEqDiff, ↓reduceIte] at hE
  (repeat with_reducible first|refine ctl ?_|refine miss ?_)
  refine cond_no hE (t := 8) rfl ?_
  (repeat with_reducible first|refine ctl ?_|refine miss ?_)
  refine Rs 6 fun Q' K hK => ?_
  refine Lp fun K' hK' => ?_
  have r1 := hE.at 1 rfl; refine op1 r1 fun ρ qc qf qg q1 => ?_; go_simp; (try clear qc qf qg r1 q1)
  refine Ln hE hK' fun a_1 hE_1 => ?_; clear hK' K' hE a
  refine Lp fun K' hK' => ?_
  have r10 := hE_1.at 10 rfl; refine op1 r10 fun ρ qc qf qg q10 => ?_; go_simp; (try go_bits); (try clear qc qf qg r10 q10)
  go_at_call 59; refine (C2.out HO.out _ hM2).mono ?_; rintro e w3 ⟨⟨f, rfl, hu⟩, h3⟩
  (try clear r10)
  refine Ln hE_1 hK' fun a_2 hE_2 => ?_; clear hK' K' hE_1
  refine Lp fun K' hK' => ?_
  have r11 := hE_2.at 11 rfl; refine op1 r11 fun ρ qc qf qg q11 => ?_; go_simp; (try go_bits); (try clear qc qf qg r11 q11)
  go_at_call 75; refine (counted_any (w := w3) (ok_nine HO.out) hs.2.2.1 (couldsP_nine (ok_nine HO.out)) (couldsP_lt (ok_nine HO.out)) (hu.of_below (Below.refl _ _) (fun k hk _ => hk.elim))).mono ?_; rintro e w4 ⟨⟨T, c, Mb, rfl, hT4, hTl4⟩, h4⟩
  (try clear r11)
  refine Ln hE_2 hK' fun a_3 hE_3 => ?_; clear hK' K' hE_2
  refine Lp fun K' hK' => ?_
  have r12 := hE_3.at 12 rfl; refine op1 r12 fun ρ qc qf qg q12 => ?_; go_simp; (try go_bits); (try clear qc qf qg r12 q12)
  go_at_call 76; refine (tTruths_any A cap L lcap b _ _ _ _ _ _ _ _ _ T _ c Mb w4).mono ?_; rintro e w5 ⟨rfl, h5⟩
  (try clear r12)
  refine Ln hE_3 hK' fun a_4 hE_4 => ?_; clear hK' K' hE_3
  refine Lp fun K' hK' => ?_
  have r13 := hE_4.at 13 rfl; refine op1 r13 fun ρ qc qf qg q13 => ?_; go_simp; (try clear qc qf qg r13 q13)
  refine Ln hE_4 hK' fun a_5 hE_5 => ?_; clear hK' K' hE_4
  refine Lp fun K' hK' => ?_
  refine op0 fun ρ qc qf qg => ?_; go_simp; (try clear qc qf qg)
  refine Ln hE_5 hK' fun a_6 hE_6 => ?_; clear hK' K' hE_5
  refine late_done [2, 3] hE_6 hK (fun a hE => ?_); clear hK K Q' hE_6; simp only [lk, pick, Nat.reduceEqDiff, ↓reduceIte] at hE
  (repeat with_reducible first|refine ctl ?_|refine miss ?_)
  refine ret_two hE rfl rfl rfl ⟨?_, hb2.trans ((h3.trans ((h4.trans (h5.mono h4.size)).mono h3.size)).mono hb2.size)⟩
  unfold pTruthsR
  rw [HO.out]; rfl
 ·have hno : b.ok = false ∧ r = 20 := by
   have := HR.out
   unfold bkE at this
   revert this
   cases b.ok
   ·intro h; exact ⟨rfl, by simpa using h.symm⟩
   ·intro h; simp at h; exact absurd h.symm hr0
  obtain ⟨hno, rfl⟩ := hno
  have HO := hid hno
  clear hno
  (repeat with_reducible first|refine ctl ?_|refine miss ?_)
  refine Rs 2 fun Q' K hK => ?_
  refine Lp fun K' hK' => ?_
  have r4 := hE.at 4 rfl; refine op1 r4 fun ρ qc qf qg q4 => ?_; go_simp; (try clear qc qf qg r4 q4)
  refine Ln hE hK' fun a_1 hE_1 => ?_; clear hK' K' hE a
  refine Lp fun K' hK' => ?_
  have r7 := hE_1.at 7 rfl; refine op1 r7 fun ρ qc qf qg q7 => ?_; go_simp; (try go_bits); (try clear qc qf qg r7 q7)
  refine Ln hE_1 hK' fun a_2 hE_2 => ?_; clear hK' K' hE_1
  refine late_done [1, 4, 8] hE_2 hK (fun a hE => ?_); clear hK K Q' hE_2; simp only [lk, pick, Nat.reduceEqDiff, ↓reduceIte] at hE
  (repeat with_reducible first|refine ctl ?_|refine miss ?_)
  refine cond_yes hE (t := 8) rfl ?_
  (repeat with_reducible first|refine ctl ?_|refine miss ?_)
  refine Rs 3 fun Q' K hK => ?_
  refine Lp fun K' hK' => ?_
  have r4 := hE.at 4 rfl; refine op1 r4 fun ρ qc qf qg q4 => ?_; go_simp; (try clear qc qf qg r4 q4)
  refine Ln hE hK' fun a_1 hE_1 => ?_; clear hK' K' hE a
  refine Lp fun K' hK' => ?_
  refine op0 fun ρ qc qf qg => ?_; go_simp; (try clear qc qf qg)
  refine Ln hE_1 hK' fun a_2 hE_2 => ?_; clear hK' K' hE_1
  refine Lp fun K' hK' => ?_
  have r9 := hE_2.at 9 rfl; refine op1 r9 fun ρ qc qf qg q9 => ?_; go_simp; (try clear qc qf qg r9 q9)
  refine Ln hE_2 hK' fun a_3 hE_3 => ?_; clear hK' K' hE_2
  refine late_done [2, 3] hE_3 hK (fun a hE => ?_); clear hK K Q' hE_3; simp only [lk, pick, Nat.reduceEqDiff, ↓reduceIte] at hE
  (repeat with_reducible first|refine ctl ?_|refine miss ?_)
  refine ret_two hE rfl rfl rfl ⟨?_, hb2⟩
  unfold pTruthsR
  rw [HO.out]; rfl
set_option maxRecDepth 100000 in
set_option maxHeartbeats 2000000 in
theorem pWrong_any (A : Option Addr) (cap : Nat) (L : Option Addr) (lcap : Nat) (b : Bk) (w : World) (hM : BkAt w A L b) (hs : b.small cap lcap) : Calls Try.prog 21 #[.agg (bkV A cap L lcap b).toArray] w fun e w' => (∃ T c, e = .returned (.tuple #[.slice T (pWrongL b).length c, .int .i64 (bkE b)]) ∧ Arr w' w'.heap.size T (nats (pWrongL b))) ∧ Below w.heap.size w w' := by
 have C1 : Hid (∀ W, BkAt W A L b → Calls Try.prog 44 #[.agg (bkV A cap L lcap b).toArray] W fun e w' => e = .returned (.int .i64 (bkE b)) ∧ Below W.heap.size W w') := hid fun W hW => pCheck_any A cap L lcap b W hW hs
 have C2 : Hid (b.ok = true → ∀ W, BkAt W A L b → _) := hid fun ho W hW => compared_any A cap L lcap b W hW hs (ok_nine ho) (ok_minutes ho)
 simp only [bkV] at C1 C2 ⊢
 refine enterE Try.func21 rfl Try.ntmps21 (by simp) (fun a hE => ?_); simp only [envOf, Nat.zero_add, Nat.reduceAdd] at hE
 (repeat with_reducible first|refine ctl ?_|refine miss ?_)
 refine Rs 3 fun Q' K hK => ?_
 refine Lp fun K' hK' => ?_
 have r0 := hE.at 0 rfl; refine op1 r0 fun ρ qc qf qg q0 => ?_; go_simp; (try clear qc qf qg r0 q0)
 refine Ln hE hK' fun a_1 hE_1 => ?_; clear hK' K' hE a
 refine Lp fun K' hK' => ?_
 refine op0 fun ρ qc qf qg => ?_; go_simp; (try clear qc qf qg)
 refine Ln hE_1 hK' fun a_2 hE_2 => ?_; clear hK' K' hE_1
 refine Lp fun K' hK' => ?_
 refine op0 fun ρ qc qf qg => ?_; go_simp; (try clear qc qf qg)
 refine Ln hE_2 hK' fun a_3 hE_3 => ?_; clear hK' K' hE_2
 refine late_done [1] hE_3 hK (fun a hE => ?_); clear hK K Q' hE_3; simp only [lk, pick, Nat.reduceEqDiff, ↓reduceIte] at hE
 obtain ⟨B, hBe⟩ : ∃ B, B = w.heap.size := ⟨_, rfl⟩; rw [← hBe] at hE; refine world_cut (fun wt => Below w.heap.size w wt ∧ Cells wt B (bkV A cap L lcap b)) ⟨(Below.refl _ _).alloc (Nat.le_refl _) _, by rw [hBe]; exact cells_new _ _ _⟩ (fun w1 hCut => ?_); obtain ⟨hbw1, hCB⟩ := hCut; clear hBe
 have hM1 := hM.below hbw1
 simp only [bkV] at hCB
 have nB := hCB.1; have cB0 := hCB.2 0 _ rfl; have cB1 := hCB.2 1 _ rfl; have cB2 := hCB.2 2 _ rfl; have cB3 := hCB.2 3 _ rfl; have cB4 := hCB.2 4 _ rfl; have cB5 := hCB.2 5 _ rfl; have cB6 := hCB.2 6 _ rfl
 obtain ⟨r, hr⟩ : ∃ r, bkE b = r := ⟨_, rfl⟩
 rw [hr] at C1
 have HR := hid hr
 clear hr
 (repeat with_reducible first|refine ctl ?_|refine miss ?_)
 refine Rs 3 fun Q' K hK => ?_
 refine Lp fun K' hK' => ?_
 have r1 := hE.at 1 rfl; refine op1 r1 fun ρ qc qf qg q1 => ?_; go_simp; (try clear qc qf qg r1 q1)
 refine Ln hE hK' fun a_1 hE_1 => ?_; clear hK' K' hE a
 refine Lp fun K' hK' => ?_
 have r5 := hE_1.at 5 rfl; refine op1 r5 fun ρ qc qf qg q5 => ?_; go_simp; (try go_bits); (try clear qc qf qg r5 q5)
 go_at_call 44; refine (C1.out _ hM1).mono ?_; rintro e w2 ⟨rfl, h2⟩
 (try clear r5)
 refine Ln hE_1 hK' fun a_2 hE_2 => ?_; clear hK' K' hE_1
 refine Lp fun K' hK' => ?_
 have r6 := hE_2.at 6 rfl; refine op1 r6 fun ρ qc qf qg q6 => ?_; go_simp; (try clear qc qf qg r6 q6)
 refine Ln hE_2 hK' fun a_3 hE_3 => ?_; clear hK' K' hE_2
 refine late_done [1, 4] hE_3 hK (fun a hE => ?_); clear hK K Q' hE_3; simp only [lk, pick, Nat.reduceEqDiff, ↓reduceIte] at hE
 have hb2 := hbw1.trans (h2.mono hbw1.size)
 have hM2 := hM.below hb2
 replace hCB := hCB.below h2
 clear nB cB0 cB1 cB2 cB3 cB4 cB5 cB6 C1
 have nB := hCB.1; have cB0 := hCB.2 0 _ rfl; have cB1 := hCB.2 1 _ rfl; have cB2 := hCB.2 2 _ rfl; have cB3 := hCB.2 3 _ rfl; have cB4 := hCB.2 4 _ rfl; have cB5 := hCB.2 5 _ rfl; have cB6 := hCB.2 6 _ rfl
 by_cases hr0 : r = 0
 ·subst hr0
  have hok : b.ok = true := by
   have := HR.out
   unfold bkE at this
   revert this
   cases b.ok <;> simp
  have HO := hid hok
  clear hok
  (repeat with_reducible first|refine ctl ?_|refine miss ?_)
  refine Rs 2 fun Q' K hK => ?_
  refine Lp fun K' hK' => ?_
  have r4 := hE.at 4 rfl; refine op1 r4 fun ρ qc qf qg q4 => ?_; go_simp; (try clear qc qf qg r4 q4)
  refine Ln hE hK' fun a_1 hE_1 => ?_; clear hK' K' hE a
  refine Lp fun K' hK' => ?_
  have r7 := hE_1.at 7 rfl; refine op1 r7 fun ρ qc qf qg q7 => ?_; go_simp; (try go_bits); (try clear qc qf qg r7 q7)
  refine Ln hE_1 hK' fun a_2 hE_2 => ?_; clear hK' K' hE_1
  refine late_done [1, 8] hE_2 hK (fun a hE => ?_); clear hK K Q' hE_2; simp only [lk, pick, Nat.reduceEqDiff, ↓reduceIte] at hE
  (repeat with_reducible first|refine ctl ?_|refine miss ?_)
  refine cond_no hE (t := 8) rfl ?_
  (repeat with_reducible first|refine ctl ?_|refine miss ?_)
  refine Rs 5 fun Q' K hK => ?_
  refine Lp fun K' hK' => ?_
  have r1 := hE.at 1 rfl; refine op1 r1 fun ρ qc qf qg q1 => ?_; go_simp; (try clear qc qf qg r1 q1)
  refine Ln hE hK' fun a_1 hE_1 => ?_; clear hK' K' hE a
  refine Lp fun K' hK' => ?_
  have r10 := hE_1.at 10 rfl; refine op1 r10 fun ρ qc qf qg q10 => ?_; go_simp; (try go_bits); (try clear qc qf qg r10 q10)
  go_at_call 59; refine (C2.out HO.out _ hM2).mono ?_; rintro e w3 ⟨⟨f, rfl, hu⟩, h3⟩
  (try clear r10)
  refine Ln hE_1 hK' fun a_2 hE_2 => ?_; clear hK' K' hE_1
  refine Lp fun K' hK' => ?_
  have r11 := hE_2.at 11 rfl; refine op1 r11 fun ρ qc qf qg q11 => ?_; go_simp; (try go_bits); (try clear qc qf qg r11 q11)
  go_at_call 66; refine (wrong_any w3 (hM2.below h3) hs (ok_nine HO.out) (ok_minutes HO.out)).mono ?_; rintro e w4 ⟨⟨T, c, rfl, hT4⟩, h4⟩
  (try clear r11)
  refine Ln hE_2 hK' fun a_3 hE_3 => ?_; clear hK' K' hE_2
  refine Lp fun K' hK' => ?_
  have r12 := hE_3.at 12 rfl; refine op1 r12 fun ρ qc qf qg q12 => ?_; go_simp; (try clear qc qf qg r12 q12)
  refine Ln hE_3 hK' fun a_4 hE_4 => ?_; clear hK' K' hE_3
  refine Lp fun K' hK' => ?_
  refine op0 fun ρ qc qf qg => ?_; go_simp; (try clear qc qf qg)
  refine Ln hE_4 hK' fun a_5 hE_5 => ?_; clear hK' K' hE_4
  refine late_done [2, 3] hE_5 hK (fun a hE => ?_); clear hK K Q' hE_5; simp only [lk, pick, Nat.reduceEqDiff, ↓reduceIte] at hE
  (repeat with_reducible first|refine ctl ?_|refine miss ?_)
  have hq : pWrongL b = wrongP b := by unfold pWrongL; rw [HO.out]; rfl
  refine ret_two hE rfl rfl rfl ⟨⟨T, c, ?_, ?_⟩, hb2.trans ((h3.trans (h4.mono h3.size)).mono hb2.size)⟩
  ·rw [hq, HR.out]
  ·rw [hq]; exact hT4
 ·have hno : b.ok = false ∧ r = 20 := by
   have := HR.out
   unfold bkE at this
   revert this
   cases b.ok
   ·intro h; exact ⟨rfl, by simpa using h.symm⟩
   ·intro h; simp at h; exact absurd h.symm hr0
  obtain ⟨hno, rfl⟩ := hno
  have HO := hid hno
  clear hno
  (repeat with_reducible first|refine ctl ?_|refine miss ?_)
  refine Rs 2 fun Q' K hK => ?_
  refine Lp fun K' hK' => ?_
  have r4 := hE.at 4 rfl; refine op1 r4 fun ρ qc qf qg q4 => ?_; go_simp; (try clear qc qf qg r4 q4)
  refine Ln hE hK' fun a_1 hE_1 => ?_; clear hK' K' hE a
  refine Lp fun K' hK' => ?_
  have r7 := hE_1.at 7 rfl; refine op1 r7 fun ρ qc qf qg q7 => ?_; go_simp; (try go_bits); (try clear qc qf qg r7 q7)
  refine Ln hE_1 hK' fun a_2 hE_2 => ?_; clear hK' K' hE_1
  refine late_done [1, 4, 8] hE_2 hK (fun a hE => ?_); clear hK K Q' hE_2; simp only [lk, pick, Nat.reduceEqDiff, ↓reduceIte] at hE
  (repeat with_reducible first|refine ctl ?_|refine miss ?_)
  refine cond_yes hE (t := 8) rfl ?_
  (repeat with_reducible first|refine ctl ?_|refine miss ?_)
  refine Rs 3 fun Q' K hK => ?_
  refine Lp fun K' hK' => ?_
  have r4 := hE.at 4 rfl; refine op1 r4 fun ρ qc qf qg q4 => ?_; go_simp; (try clear qc qf qg r4 q4)
  refine Ln hE hK' fun a_1 hE_1 => ?_; clear hK' K' hE a
  refine Lp fun K' hK' => ?_
  refine op0 fun ρ qc qf qg => ?_; go_simp; (try clear qc qf qg)
  refine Ln hE_1 hK' fun a_2 hE_2 => ?_; clear hK' K' hE_1
  refine Lp fun K' hK' => ?_
  have r9 := hE_2.at 9 rfl; refine op1 r9 fun ρ qc qf qg q9 => ?_; go_simp; (try clear qc qf qg r9 q9)
  refine Ln hE_2 hK' fun a_3 hE_3 => ?_; clear hK' K' hE_2
  refine late_done [2, 3] hE_3 hK (fun a hE => ?_); clear hK K Q' hE_3; simp only [lk, pick, Nat.reduceEqDiff, ↓reduceIte] at hE
  (repeat with_reducible first|refine ctl ?_|refine miss ?_)
  have hq : pWrongL b = [] := by unfold pWrongL; rw [HO.out]; rfl
  refine ret_two hE rfl rfl rfl ⟨⟨none, 0, ?_, ?_⟩, hb2⟩
  ·rw [hq, HR.out]; rfl
  ·rw [hq]; intro hx; exact absurd rfl hx
end Go.Proofs.Ytbimkcjdodgojaa
