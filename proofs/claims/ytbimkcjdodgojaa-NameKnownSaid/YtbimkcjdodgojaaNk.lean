/- Name: questions. -/
import Derived.Test.YtbimkcjdodgojaaNj
namespace Go.Proofs.Ytbimkcjdodgojaa
set_option linter.unusedSimpArgs false
set_option linter.unusedVariables false
open Go.RowKit
attribute [local go_sem high] cell_set_wr
attribute [local go_sem low] cell_wr frozen_wr
attribute [local go_sem] wr_set wr_drew wr_drewN wr_alloc wr_new

def zeroLn : NLn := ⟨0, 0, ⟨#[]⟩⟩
def Bk.at (b : Bk) (n : Int) : NLn := b.lines.getD n.toNat zeroLn
def inLines (b : Bk) (n : Int) : Bool := decide (0 ≤ n) && decide (n ≤ (b.lines.length : Int) - 1)
def lineOfB (b : Bk) (n f t : Int) : Bool := inLines b n && (decide (f ≤ (b.at n).book) && decide ((b.at n).book ≤ t))
def refE (b : Bk) (v : Bool) : Int := if b.ok then (if v then 0 else 21) else 20
set_option maxRecDepth 100000 in
theorem refuse_any (A : Option Addr) (cap : Nat) (L : Option Addr) (lcap : Nat) (b : Bk) (v : Bool) (w : World) (hM : BkAt w A L b) (hs : b.small cap lcap) : Calls Try.prog 67 #[.agg (bkV A cap L lcap b).toArray, .bool v] w fun e w' => e = .returned (.int .i64 (refE b v)) ∧ Below w.heap.size w w' := by
 obtain ⟨q, hq⟩ : ∃ q, b.ok = q := ⟨_, rfl⟩
 have HQ := hid hq
 clear hq
 have HC : Hid (∀ W, BkAt W A L b → Calls Try.prog 44 #[.agg (bkV A cap L lcap b).toArray] W fun e w' => e = .returned (.int .i64 (if q then 0 else 20)) ∧ Below W.heap.size W w') := hid fun W hW => by
  have := pCheck_any A cap L lcap b W hW hs
  unfold bkE at this
  rw [HQ.out] at this
  exact this
 simp only [bkV] at HC ⊢
 refine enterE Try.func67 rfl Try.ntmps67 (by simp) (fun a hE => ?_); simp only [envOf, Nat.zero_add, Nat.reduceAdd] at hE
 (repeat with_reducible first|refine ctl ?_|refine miss ?_)
 refine Rs 2 fun Q' K hK => ?_
 refine Lp fun K' hK' => ?_
 have r0 := hE.at 0 rfl; refine op1 r0 fun ρ qc qf qg q0 => ?_; go_simp; (try clear qc qf qg r0 q0)
 refine Ln hE hK' fun a_1 hE_1 => ?_; clear hK' K' hE a
 refine Lp fun K' hK' => ?_
 refine op0 fun ρ qc qf qg => ?_; go_simp; (try clear qc qf qg)
 refine Ln hE_1 hK' fun a_2 hE_2 => ?_; clear hK' K' hE_1
 refine late_done [1, 2] hE_2 hK (fun a hE => ?_); clear hK K Q' hE_2; simp only [lk, pick, Nat.reduceEqDiff, ↓reduceIte] at hE
 obtain ⟨B, hBe⟩ : ∃ B, B = w.heap.size := ⟨_, rfl⟩; rw [← hBe] at hE; refine world_cut (fun wt => Below w.heap.size w wt ∧ Cells wt B (bkV A cap L lcap b)) ⟨(Below.refl _ _).alloc (Nat.le_refl _) _, by rw [hBe]; exact cells_new _ _ _⟩ (fun w1 hCut => ?_); obtain ⟨hbw1, hCB⟩ := hCut; clear hBe
 have hM1 := hM.below hbw1
 simp only [bkV] at hCB
 have nB := hCB.1; have cB0 := hCB.2 0 _ rfl; have cB1 := hCB.2 1 _ rfl; have cB2 := hCB.2 2 _ rfl; have cB3 := hCB.2 3 _ rfl; have cB4 := hCB.2 4 _ rfl; have cB5 := hCB.2 5 _ rfl; have cB6 := hCB.2 6 _ rfl
 (repeat with_reducible first|refine ctl ?_|refine miss ?_)
 refine Rs 3 fun Q' K hK => ?_
 refine Lp fun K' hK' => ?_
 have r2 := hE.at 2 rfl; refine op1 r2 fun ρ qc qf qg q2 => ?_; go_simp; (try clear qc qf qg r2 q2)
 refine Ln hE hK' fun a_1 hE_1 => ?_; clear hK' K' hE a
 refine Lp fun K' hK' => ?_
 have r6 := hE_1.at 6 rfl; refine op1 r6 fun ρ qc qf qg q6 => ?_; go_simp; (try go_bits); (try clear qc qf qg r6 q6)
 go_at_call 44; refine (HC.out _ hM1).mono ?_; rintro e w2 ⟨rfl, h2⟩
 (try clear r6)
 refine Ln hE_1 hK' fun a_2 hE_2 => ?_; clear hK' K' hE_1
 refine Lp fun K' hK' => ?_
 have r7 := hE_2.at 7 rfl; refine op1 r7 fun ρ qc qf qg q7 => ?_; go_simp; (try clear qc qf qg r7 q7)
 refine Ln hE_2 hK' fun a_3 hE_3 => ?_; clear hK' K' hE_2
 refine late_done [1, 5] hE_3 hK (fun a hE => ?_); clear hK K Q' hE_3; simp only [lk, pick, Nat.reduceEqDiff, ↓reduceIte] at hE
 have hb2 := hbw1.trans (h2.mono hbw1.size)
 (repeat with_reducible first|refine ctl ?_|refine miss ?_)
 refine Rs 2 fun Q' K hK => ?_
 refine Lp fun K' hK' => ?_
 have r5 := hE.at 5 rfl; refine op1 r5 fun ρ qc qf qg q5 => ?_; go_simp; (try clear qc qf qg r5 q5)
 refine Ln hE hK' fun a_1 hE_1 => ?_; clear hK' K' hE a
 refine Lp fun K' hK' => ?_
 have r8 := hE_1.at 8 rfl; refine op1 r8 fun ρ qc qf qg q8 => ?_; go_simp; (try go_bits); (try clear qc qf qg r8 q8)
 refine Ln hE_1 hK' fun a_2 hE_2 => ?_; clear hK' K' hE_1
 refine late_done [1, 5, 9] hE_2 hK (fun a hE => ?_); clear hK K Q' hE_2; simp only [lk, pick, Nat.reduceEqDiff, ↓reduceIte] at hE
 replace hE := hE.turn 9 (v' := .bool (!q)) rfl (by cases q <;> rfl)
 (repeat with_reducible first|refine ctl ?_|refine miss ?_)
 refine cond_part hE (t := 9) rfl (fun h => ?_) (fun h => ?_)
 ·have hq0 : q = false := by simpa using h
  (repeat with_reducible first|refine ctl ?_|refine miss ?_)
  refine Rs 2 fun Q' K hK => ?_
  refine Lp fun K' hK' => ?_
  have r5 := hE.at 5 rfl; refine op1 r5 fun ρ qc qf qg q5 => ?_; go_simp; (try clear qc qf qg r5 q5)
  refine Ln hE hK' fun a_1 hE_1 => ?_; clear hK' K' hE a
  refine Lp fun K' hK' => ?_
  have r10 := hE_1.at 10 rfl; refine op1 r10 fun ρ qc qf qg q10 => ?_; go_simp; (try clear qc qf qg r10 q10)
  refine Ln hE_1 hK' fun a_2 hE_2 => ?_; clear hK' K' hE_1
  refine late_done [4] hE_2 hK (fun a hE => ?_); clear hK K Q' hE_2; simp only [lk, pick, Nat.reduceEqDiff, ↓reduceIte] at hE
  (repeat with_reducible first|refine ctl ?_|refine miss ?_)
  refine ret_one hE rfl rfl ⟨?_, hb2⟩
  unfold refE
  rw [HQ.out, hq0]; rfl
 ·have hq1 : q = true := by simpa using h
  (repeat with_reducible first|refine ctl ?_|refine miss ?_)
  refine Rs 2 fun Q' K hK => ?_
  refine Lp fun K' hK' => ?_
  have r1 := hE.at 1 rfl; refine op1 r1 fun ρ qc qf qg q1 => ?_; go_simp; (try clear qc qf qg r1 q1)
  refine Ln hE hK' fun a_1 hE_1 => ?_; clear hK' K' hE a
  refine Lp fun K' hK' => ?_
  have r11 := hE_1.at 11 rfl; refine op1 r11 fun ρ qc qf qg q11 => ?_; go_simp; (try go_bits); (try simp (disch := omega) only [IntWalk.i64_in]); (try clear qc qf qg r11 q11)
  refine Ln hE_1 hK' fun a_2 hE_2 => ?_; clear hK' K' hE_1
  refine late_done [12] hE_2 hK (fun a hE => ?_); clear hK K Q' hE_2; simp only [lk, pick, Nat.reduceEqDiff, ↓reduceIte] at hE
  (repeat with_reducible first|refine ctl ?_|refine miss ?_)
  refine cond_part hE (t := 12) rfl (fun h => ?_) (fun h => ?_)
  ·have hv : v = false := by simpa using h
   (repeat with_reducible first|refine ctl ?_|refine miss ?_)
   refine Rs 1 fun Q' K hK => ?_
   refine Lp fun K' hK' => ?_
   refine op0 fun ρ qc qf qg => ?_; go_simp; (try clear qc qf qg)
   refine Ln hE hK' fun a_1 hE_1 => ?_; clear hK' K' hE a
   refine late_done [4] hE_1 hK (fun a hE => ?_); clear hK K Q' hE_1; simp only [lk, pick, Nat.reduceEqDiff, ↓reduceIte] at hE
   (repeat with_reducible first|refine ctl ?_|refine miss ?_)
   refine ret_one hE rfl rfl ⟨?_, hb2⟩
   unfold refE
   rw [HQ.out, hq1, hv]; rfl
  ·have hv : v = true := by simpa using h
   (repeat with_reducible first|refine ctl ?_|refine miss ?_)
   refine Rs 1 fun Q' K hK => ?_
   refine Lp fun K' hK' => ?_
   refine op0 fun ρ qc qf qg => ?_; go_simp; (try clear qc qf qg)
   refine Ln hE hK' fun a_1 hE_1 => ?_; clear hK' K' hE a
   refine late_done [4] hE_1 hK (fun a hE => ?_); clear hK K Q' hE_1; simp only [lk, pick, Nat.reduceEqDiff, ↓reduceIte] at hE
   (repeat with_reducible first|refine ctl ?_|refine miss ?_)
   refine ret_one hE rfl rfl ⟨?_, hb2⟩
   unfold refE
   rw [HQ.out, hq1, hv]; rfl
set_option maxRecDepth 100000 in
set_option maxHeartbeats 1000000 in
theorem isLineOf_any (A : Option Addr) (cap : Nat) (L : Option Addr) (lcap : Nat) (b : Bk) (n f t : Int) (w : World) (hM : BkAt w A L b) (hs : b.small cap lcap) : Calls Try.prog 68 #[.agg (bkV A cap L lcap b).toArray, .int .i64 n, .int .i64 f, .int .i64 t] w fun e w' => e = .returned (.bool (lineOfB b n f t)) ∧ Below w.heap.size w w' := by
 obtain ⟨q, hq⟩ : ∃ q, inLines b n = q := ⟨_, rfl⟩
 have HQ := hid hq
 have hll := hs.2.2.2.1
 have hL := hM.2
 have hline : q = true → ∃ b' o k, L = some ⟨b', o, none⟩ ∧ b' < w.heap.size ∧ n = (k : Nat) ∧ k < b.lines.length ∧ w.cell? ⟨b', o + k * 3, none⟩ = some (.int .i64 (b.at n).book) := fun h => by
  rw [h] at hq
  unfold inLines at hq
  simp only [Bool.and_eq_true, decide_eq_true_eq] at hq
  obtain ⟨k, rfl⟩ : ∃ k : Nat, n = k := ⟨n.toNat, by omega⟩
  have hk : k < b.lines.length := by omega
  obtain ⟨b', o, hA, hb, c0, _, _⟩ := hL.nl hk
  refine ⟨b', o, k, hA, hb, rfl, hk, ?_⟩
  have : b.at (k : Int) = b.lines[k] := by
   unfold Bk.at
   rw [List.getD_eq_getElem?_getD]; simp [hk]
  rw [this]; exact c0
 have HL := hid hline
 clear hq hline
 simp only [bkV]
 refine enterE Try.func68 rfl Try.ntmps68 (by simp) (fun a hE => ?_); simp only [envOf, Nat.zero_add, Nat.reduceAdd] at hE
 (repeat with_reducible first|refine ctl ?_|refine miss ?_)
 refine Rs 2 fun Q' K hK => ?_
 refine Lp fun K' hK' => ?_
 have r0 := hE.at 0 rfl; refine op1 r0 fun ρ qc qf qg q0 => ?_; go_simp; (try clear qc qf qg r0 q0)
 refine Ln hE hK' fun a_1 hE_1 => ?_; clear hK' K' hE a
 refine Lp fun K' hK' => ?_
 refine op0 fun ρ qc qf qg => ?_; go_simp; (try clear qc qf qg)
 refine Ln hE_1 hK' fun a_2 hE_2 => ?_; clear hK' K' hE_1
 refine late_done [1, 2, 3, 4] hE_2 hK (fun a hE => ?_); clear hK K Q' hE_2; simp only [lk, pick, Nat.reduceEqDiff, ↓reduceIte] at hE
 obtain ⟨B, hBe⟩ : ∃ B, B = w.heap.size := ⟨_, rfl⟩; rw [← hBe] at hE; refine world_cut (fun wt => Below w.heap.size w wt ∧ Cells wt B (bkV A cap L lcap b)) ⟨(Below.refl _ _).alloc (Nat.le_refl _) _, by rw [hBe]; exact cells_new _ _ _⟩ (fun w1 hCut => ?_); obtain ⟨hbw1, hCB⟩ := hCut; clear hBe
 simp only [bkV] at hCB
 have nB := hCB.1; have cB3 := hCB.2 3 _ rfl
 (repeat with_reducible first|refine ctl ?_|refine miss ?_)
 cases hqv : q
 ·have HV := hid hqv
  clear hqv
  refine Rs 18 fun Q' K hK => ?_
  refine Lp fun K' hK' => ?_
  have r1 := hE.at 1 rfl; refine op1 r1 fun ρ qc qf qg q1 => ?_; go_simp; (try clear qc qf qg r1 q1)
  refine Ln hE hK' fun a_1 hE_1 => ?_; clear hK' K' hE a
  refine Lp fun K' hK' => ?_
  have r4 := hE_1.at 4 rfl; refine op1 r4 fun ρ qc qf qg q4 => ?_; go_simp; (try clear qc qf qg r4 q4)
  refine Ln hE_1 hK' fun a_2 hE_2 => ?_; clear hK' K' hE_1
  refine Lp fun K' hK' => ?_
  have r10 := hE_2.at 10 rfl; refine op1 r10 fun ρ qc qf qg q10 => ?_; go_simp; (try clear qc qf qg r10 q10)
  refine Ln hE_2 hK' fun a_3 hE_3 => ?_; clear hK' K' hE_2
  refine Lp fun K' hK' => ?_
  have r11 := hE_3.at 11 rfl; refine op1 r11 fun ρ qc qf qg q11 => ?_; go_simp; (try go_bits); (try clear qc qf qg r11 q11)
  refine Ln hE_3 hK' fun a_4 hE_4 => ?_; clear hK' K' hE_3
  refine Lp fun K' hK' => ?_
  have r12 := hE_4.at 12 rfl; refine op1 r12 fun ρ qc qf qg q12 => ?_; go_simp; (try go_bits); (try simp (disch := omega) only [IntWalk.i64_in]); (try clear qc qf qg r12 q12)
  refine Ln hE_4 hK' fun a_5 hE_5 => ?_; clear hK' K' hE_4
  refine Lp fun K' hK' => ?_
  have r9 := hE_5.at 9 rfl; have r13 := hE_5.at 13 rfl
  refine op2 r9 r13 fun ρ qc qf qg q9 q13 => ?_; go_simp; (try go_bits); (try clear qc qf qg r9 q9 r13 q13)
  go_at_call 52; refine (within_any _ _ _ _).mono ?_; rintro e w3 ⟨rfl, rfl⟩; rw [show (decide ((0 : Int) ≤ n) && decide (n ≤ (b.lines.length : Int) - 1)) = false from HQ.out.trans HV.out]
  (try clear r9 r13)
  refine Ln hE_5 hK' fun a_6 hE_6 => ?_; clear hK' K' hE_5
  refine Lp fun K' hK' => ?_
  have r14 := hE_6.at 14 rfl; refine op1 r14 fun ρ qc qf qg q14 => ?_; go_simp; (try clear qc qf qg r14 q14)
  refine Ln hE_6 hK' fun a_7 hE_7 => ?_; clear hK' K' hE_6
  refine Lno hE_7 15 ?_
  refine Lu hE_7 fun a_8 hE_8 => ?_
  refine Lno hE_8 15 ?_
  refine Lu hE_8 fun a_9 hE_9 => ?_
  refine Lno hE_9 15 ?_
  refine Lu hE_9 fun a_10 hE_10 => ?_
  refine Lno hE_10 15 ?_
  refine Lu hE_10 fun a_11 hE_11 => ?_
  refine Lno hE_11 15 ?_
  refine Lu hE_11 fun a_12 hE_12 => ?_
  refine Lno hE_12 15 ?_
  refine Lu hE_12 fun a_13 hE_13 => ?_
  refine Lno hE_13 15 ?_
  refine Lu hE_13 fun a_14 hE_14 => ?_
  refine Lno hE_14 15 ?_
  refine Lu hE_14 fun a_15 hE_15 => ?_
  refine Lno hE_15 15 ?_
  refine Lu hE_15 fun a_16 hE_16 => ?_
  refine Lp fun K' hK' => ?_
  have r15 := hE_16.at 15 rfl; have r24 := hE_16.at 24 rfl
  refine op2 r15 r24 fun ρ qc qf qg q15 q24 => ?_; go_simp; (try go_bits); (try clear qc qf qg r15 q15 r24 q24)
  (try clear r15 r24)
  refine Ln hE_16 hK' fun a_17 hE_17 => ?_; clear hK' K' hE_16
  refine Lp fun K' hK' => ?_
  have r25 := hE_17.at 25 rfl; refine op1 r25 fun ρ qc qf qg q25 => ?_; go_simp; (try clear qc qf qg r25 q25)
  refine Ln hE_17 hK' fun a_18 hE_18 => ?_; clear hK' K' hE_17
  refine late_done [8] hE_18 hK (fun a hE => ?_); clear hK K Q' hE_18; simp only [lk, pick, Nat.reduceEqDiff, ↓reduceIte] at hE
  (repeat with_reducible first|refine ctl ?_|refine miss ?_)
  refine ret_one hE rfl rfl ⟨ret_bool ?_, hbw1⟩
  unfold lineOfB
  rw [HQ.out, HV.out]; rfl
 ·obtain ⟨b', o, k, rfl, hb, rfl, hk, c0⟩ := HL.out hqv
  have HV := hid hqv
  clear hqv
  have hkI : (k : Int) < b.lines.length := by omega
  have e0 := (hbw1.cell (p := ⟨b', o + k * 3, none⟩) hb).trans c0
  clear c0
  refine Rs 18 fun Q' K hK => ?_
  refine Lp fun K' hK' => ?_
  have r1 := hE.at 1 rfl; refine op1 r1 fun ρ qc qf qg q1 => ?_; go_simp; (try clear qc qf qg r1 q1)
  refine Ln hE hK' fun a_1 hE_1 => ?_; clear hK' K' hE a
  refine Lp fun K' hK' => ?_
  have r4 := hE_1.at 4 rfl; refine op1 r4 fun ρ qc qf qg q4 => ?_; go_simp; (try clear qc qf qg r4 q4)
  refine Ln hE_1 hK' fun a_2 hE_2 => ?_; clear hK' K' hE_1
  refine Lp fun K' hK' => ?_
  have r10 := hE_2.at 10 rfl; refine op1 r10 fun ρ qc qf qg q10 => ?_; go_simp; (try clear qc qf qg r10 q10)
  refine Ln hE_2 hK' fun a_3 hE_3 => ?_; clear hK' K' hE_2
  refine Lp fun K' hK' => ?_
  have r11 := hE_3.at 11 rfl; refine op1 r11 fun ρ qc qf qg q11 => ?_; go_simp; (try go_bits); (try clear qc qf qg r11 q11)
  refine Ln hE_3 hK' fun a_4 hE_4 => ?_; clear hK' K' hE_3
  refine Lp fun K' hK' => ?_
  have r12 := hE_4.at 12 rfl; refine op1 r12 fun ρ qc qf qg q12 => ?_; go_simp; (try go_bits); (try simp (disch := omega) only [IntWalk.i64_in]); (try clear qc qf qg r12 q12)
  refine Ln hE_4 hK' fun a_5 hE_5 => ?_; clear hK' K' hE_4
  refine Lp fun K' hK' => ?_
  have r9 := hE_5.at 9 rfl; have r13 := hE_5.at 13 rfl
  refine op2 r9 r13 fun ρ qc qf qg q9 q13 => ?_; go_simp; (try go_bits); (try clear qc qf qg r9 q9 r13 q13)
  go_at_call 52; refine (within_any _ _ _ _).mono ?_; rintro e w3 ⟨rfl, rfl⟩; rw [show (decide ((0 : Int) ≤ (k : Int)) && decide ((k : Int) ≤ (b.lines.length : Int) - 1)) = true from HQ.out.trans HV.out]
  (try clear r9 r13)
  refine Ln hE_5 hK' fun a_6 hE_6 => ?_; clear hK' K' hE_5
  refine Lp fun K' hK' => ?_
  have r14 := hE_6.at 14 rfl; refine op1 r14 fun ρ qc qf qg q14 => ?_; go_simp; (try clear qc qf qg r14 q14)
  refine Ln hE_6 hK' fun a_7 hE_7 => ?_; clear hK' K' hE_6
  refine Ly hE_7 15 fun K' hK' => ?_
  have r4 := hE_7.at 4 rfl; refine op1 r4 fun ρ qc qf qg q4 => ?_; go_simp; (try clear qc qf qg r4 q4)
  refine Ln hE_7 hK' fun a_8 hE_8 => ?_; clear hK' K' hE_7
  refine Ly hE_8 15 fun K' hK' => ?_
  have r16 := hE_8.at 16 rfl; refine op1 r16 fun ρ qc qf qg q16 => ?_; go_simp; (try clear qc qf qg r16 q16)
  refine Ln hE_8 hK' fun a_9 hE_9 => ?_; clear hK' K' hE_8
  refine Ly hE_9 15 fun K' hK' => ?_
  have r1 := hE_9.at 1 rfl; refine op1 r1 fun ρ qc qf qg q1 => ?_; go_simp; (try clear qc qf qg r1 q1)
  refine Ln hE_9 hK' fun a_10 hE_10 => ?_; clear hK' K' hE_9
  refine Ly hE_10 15 fun K' hK' => ?_
  have r17 := hE_10.at 17 rfl; have r18 := hE_10.at 18 rfl
  refine op2 r17 r18 fun ρ qc qf qg q17 q18 => ?_; go_simp; (try go_bits); (try clear qc qf qg r17 q17 r18 q18)
  (try clear r17 r18)
  refine Ln hE_10 hK' fun a_11 hE_11 => ?_; clear hK' K' hE_10
  refine Ly hE_11 15 fun K' hK' => ?_
  have r19 := hE_11.at 19 rfl; refine op1 r19 fun ρ qc qf qg q19 => ?_; go_simp; (try clear qc qf qg r19 q19)
  refine Ln hE_11 hK' fun a_12 hE_12 => ?_; clear hK' K' hE_11
  refine Ly hE_12 15 fun K' hK' => ?_
  have r20 := hE_12.at 20 rfl; refine op1 r20 fun ρ qc qf qg q20 => ?_; go_simp; (try clear qc qf qg r20 q20)
  refine Ln hE_12 hK' fun a_13 hE_13 => ?_; clear hK' K' hE_12
  refine Ly hE_13 15 fun K' hK' => ?_
  have r2 := hE_13.at 2 rfl; refine op1 r2 fun ρ qc qf qg q2 => ?_; go_simp; (try clear qc qf qg r2 q2)
  refine Ln hE_13 hK' fun a_14 hE_14 => ?_; clear hK' K' hE_13
  refine Ly hE_14 15 fun K' hK' => ?_
  have r3 := hE_14.at 3 rfl; refine op1 r3 fun ρ qc qf qg q3 => ?_; go_simp; (try clear qc qf qg r3 q3)
  refine Ln hE_14 hK' fun a_15 hE_15 => ?_; clear hK' K' hE_14
  refine Ly hE_15 15 fun K' hK' => ?_
  have r21 := hE_15.at 21 rfl; have r22 := hE_15.at 22 rfl; have r23 := hE_15.at 23 rfl
  refine op3 r21 r22 r23 fun ρ qc qf qg q21 q22 q23 => ?_; go_simp; (try go_bits); (try clear qc qf qg r21 q21 r22 q22 r23 q23)
  go_at_call 52; refine (within_any _ _ _ _).mono ?_; rintro e w3 ⟨rfl, rfl⟩
  (try clear r21 r22 r23)
  refine Ln hE_15 hK' fun a_16 hE_16 => ?_; clear hK' K' hE_15
  refine Lp fun K' hK' => ?_
  have r15 := hE_16.at 15 rfl; have r24 := hE_16.at 24 rfl
  refine op2 r15 r24 fun ρ qc qf qg q15 q24 => ?_; go_simp; (try go_bits); (try clear qc qf qg r15 q15 r24 q24)
  (try clear r15 r24)
  refine Ln hE_16 hK' fun a_17 hE_17 => ?_; clear hK' K' hE_16
  refine Lp fun K' hK' => ?_
  have r25 := hE_17.at 25 rfl; refine op1 r25 fun ρ qc qf qg q25 => ?_; go_simp; (try clear qc qf qg r25 q25)
  refine Ln hE_17 hK' fun a_18 hE_18 => ?_; clear hK' K' hE_17
  refine late_done [8] hE_18 hK (fun a hE => ?_); clear hK K Q' hE_18; simp only [lk, pick, Nat.reduceEqDiff, ↓reduceIte] at hE
  (repeat with_reducible first|refine ctl ?_|refine miss ?_)
  refine ret_one hE rfl rfl ⟨ret_bool ?_, hbw1⟩
  unfold lineOfB
  rw [HQ.out, HV.out]; rfl
end Go.Proofs.Ytbimkcjdodgojaa
