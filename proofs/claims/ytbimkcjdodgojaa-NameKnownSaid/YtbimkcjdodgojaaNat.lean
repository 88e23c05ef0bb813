/- Name: what is told of all truths that were counted. -/
import Derived.Test.YtbimkcjdodgojaaNao
import Derived.Test.YtbimkcjdodgojaaNl
import Derived.Deep.MidRow
namespace Go.Proofs.Ytbimkcjdodgojaa
set_option linter.unusedSimpArgs false
set_option linter.unusedVariables false
open Go Go.RowKit
attribute [local go_sem high] cell_set_wr
attribute [local go_sem low] cell_wr frozen_wr
attribute [local go_sem] wr_set wr_drew wr_drewN wr_alloc wr_new

section
variable (A : Option Addr) (cap : Nat) (L : Option Addr) (lcap : Nat) (b : Bk) (u0 u1 u2 u3 u4 u5 u6 u7 u8 : Value) (T : Option Addr) (n c Mb : Nat)
/-- a tally's cells -/
def talV : List Value := [.slice A b.ear.alike.length cap, .string b.ear.mute, .int .i64 b.ear.slips, .slice L b.lines.length lcap, .int .i64 b.lo, .int .i64 b.hi, .int .i64 b.lost, u0, u1, u2, u3, u4, u5, u6, u7, u8, .slice T n c, .map (some Mb)]
set_option maxRecDepth 100000 in
theorem tTruths_any (w : World) : Calls Try.prog 76 #[.agg (talV A cap L lcap b u0 u1 u2 u3 u4 u5 u6 u7 u8 T n c Mb).toArray] w fun e w' => e = .returned (.int .i64 n) ∧ Below w.heap.size w w' := by
 simp only [talV]
 refine enterE Try.func76 rfl Try.ntmps76 (by simp) (fun a hE => ?_); simp only [envOf, Nat.zero_add, Nat.reduceAdd] at hE
 (repeat with_reducible first|refine ctl ?_|refine miss ?_)
 refine Rs 2 fun Q' K hK => ?_
 refine Lp fun K' hK' => ?_
 have r0 := hE.at 0 rfl; refine op1 r0 fun ρ qc qf qg q0 => ?_; go_simp; (try clear qc qf qg r0 q0)
 refine Ln hE hK' fun a_1 hE_1 => ?_; clear hK' K' hE a
 refine Lp fun K' hK' => ?_
 refine op0 fun ρ qc qf qg => ?_; go_simp; (try clear qc qf qg)
 refine Ln hE_1 hK' fun a_2 hE_2 => ?_; clear hK' K' hE_1
 refine late_done [1] hE_2 hK (fun a hE => ?_); clear hK K Q' hE_2; simp only [lk, pick, Nat.reduceEqDiff, ↓reduceIte] at hE
 obtain ⟨B, hBe⟩ : ∃ B, B = w.heap.size := ⟨_, rfl⟩; rw [← hBe] at hE; refine world_cut (fun wt => Below w.heap.size w wt ∧ Cells wt B [.slice A b.ear.alike.length cap, .string b.ear.mute, .int .i64 b.ear.slips, .slice L b.lines.length lcap, .int .i64 b.lo, .int .i64 b.hi, .int .i64 b.lost, u0, u1, u2, u3, u4, u5, u6, u7, u8, .slice T n c, .map (some Mb)]) ⟨(Below.refl _ _).alloc (Nat.le_refl _) _, by rw [hBe]; exact cells_new _ _ _⟩ (fun w1 hCut => ?_); obtain ⟨hbw1, hCB⟩ := hCut; clear hBe
 have nB := hCB.1; have cB16 := hCB.2 16 _ rfl
 (repeat with_reducible first|refine ctl ?_|refine miss ?_)
 refine Rs 4 fun Q' K hK => ?_
 refine Lp fun K' hK' => ?_
 have r1 := hE.at 1 rfl; refine op1 r1 fun ρ qc qf qg q1 => ?_; go_simp; (try clear qc qf qg r1 q1)
 refine Ln hE hK' fun a_1 hE_1 => ?_; clear hK' K' hE a
 refine Lp fun K' hK' => ?_
 have r3 := hE_1.at 3 rfl; refine op1 r3 fun ρ qc qf qg q3 => ?_; go_simp; (try clear qc qf qg r3 q3)
 refine Ln hE_1 hK' fun a_2 hE_2 => ?_; clear hK' K' hE_1
 refine Lp fun K' hK' => ?_
 have r4 := hE_2.at 4 rfl; refine op1 r4 fun ρ qc qf qg q4 => ?_; go_simp; (try go_bits); (try clear qc qf qg r4 q4)
 refine Ln hE_2 hK' fun a_3 hE_3 => ?_; clear hK' K' hE_2
 refine Lp fun K' hK' => ?_
 have r5 := hE_3.at 5 rfl; refine op1 r5 fun ρ qc qf qg q5 => ?_; go_simp; (try clear qc qf qg r5 q5)
 refine Ln hE_3 hK' fun a_4 hE_4 => ?_; clear hK' K' hE_3
 refine late_done [2] hE_4 hK (fun a hE => ?_); clear hK K Q' hE_4; simp only [lk, pick, Nat.reduceEqDiff, ↓reduceIte] at hE
 (repeat with_reducible first|refine ctl ?_|refine miss ?_)
 exact ret_one hE rfl rfl ⟨rfl, hbw1⟩
/-- in how many truths two lines are a pair -/
def kindP (x n : Int) : Int := if x = n then 2 else if x = 0 then 0 else 1
set_option maxRecDepth 100000 in
set_option maxHeartbeats 1000000 in
theorem kind_any (cnt : Int → Int → Int) (k : Nat) (x y : Int) (w : World) (hT : Tal w Mb k cnt) (hx : WfI x) (hy : WfI y) : Calls Try.prog 70 #[.agg (talV A cap L lcap b u0 u1 u2 u3 u4 u5 u6 u7 u8 T n c Mb).toArray, .int .i64 x, .int .i64 y] w fun e w' => e = .returned (.int .i64 (kindP (cnt x y) n)) ∧ Below w.heap.size w w' := by
 have HTr := hid (tTruths_any A cap L lcap b u0 u1 u2 u3 u4 u5 u6 u7 u8 T n c Mb)
 simp only [talV] at HTr ⊢
 refine enterE Try.func70 rfl Try.ntmps70 (by simp) (fun a hE => ?_); simp only [envOf, Nat.zero_add, Nat.reduceAdd] at hE
 (repeat with_reducible first|refine ctl ?_|refine miss ?_)
 refine Rs 2 fun Q' K hK => ?_
 refine Lp fun K' hK' => ?_
 have r0 := hE.at 0 rfl; refine op1 r0 fun ρ qc qf qg q0 => ?_; go_simp; (try clear qc qf qg r0 q0)
 refine Ln hE hK' fun a_1 hE_1 => ?_; clear hK' K' hE a
 refine Lp fun K' hK' => ?_
 refine op0 fun ρ qc qf qg => ?_; go_simp; (try clear qc qf qg)
 refine Ln hE_1 hK' fun a_2 hE_2 => ?_; clear hK' K' hE_1
 refine late_done [1, 2, 3] hE_2 hK (fun a hE => ?_); clear hK K Q' hE_2; simp only [lk, pick, Nat.reduceEqDiff, ↓reduceIte] at hE
 obtain ⟨B, hBe⟩ : ∃ B, B = w.heap.size := ⟨_, rfl⟩; rw [← hBe] at hE; refine world_cut (fun wt => Below w.heap.size w wt ∧ Cells wt B [.slice A b.ear.alike.length cap, .string b.ear.mute, .int .i64 b.ear.slips, .slice L b.lines.length lcap, .int .i64 b.lo, .int .i64 b.hi, .int .i64 b.lost, u0, u1, u2, u3, u4, u5, u6, u7, u8, .slice T n c, .map (some Mb)]) ⟨(Below.refl _ _).alloc (Nat.le_refl _) _, by rw [hBe]; exact cells_new _ _ _⟩ (fun w1 hCut => ?_); obtain ⟨hbw1, hCB⟩ := hCut; clear hBe
 have hlk := (hT.of_block (hbw1.block Mb hT.lt)).lookup x y hx hy
 obtain ⟨q, hq⟩ : ∃ q, cnt x y = q := ⟨_, rfl⟩
 rw [hq] at hlk ⊢
 have nB := hCB.1; have cB17 := hCB.2 17 _ rfl
 (repeat with_reducible first|refine ctl ?_|refine miss ?_)
 refine Rs 6 fun Q' K hK => ?_
 refine Lp fun K' hK' => ?_
 have r3 := hE.at 3 rfl; refine op1 r3 fun ρ qc qf qg q3 => ?_; go_simp; (try clear qc qf qg r3 q3)
 refine Ln hE hK' fun a_1 hE_1 => ?_; clear hK' K' hE a
 refine Lp fun K' hK' => ?_
 have r7 := hE_1.at 7 rfl; refine op1 r7 fun ρ qc qf qg q7 => ?_; go_simp; (try clear qc qf qg r7 q7)
 refine Ln hE_1 hK' fun a_2 hE_2 => ?_; clear hK' K' hE_1
 refine Lp fun K' hK' => ?_
 have r1 := hE_2.at 1 rfl; refine op1 r1 fun ρ qc qf qg q1 => ?_; go_simp; (try clear qc qf qg r1 q1)
 refine Ln hE_2 hK' fun a_3 hE_3 => ?_; clear hK' K' hE_2
 refine Lp fun K' hK' => ?_
 have r2 := hE_3.at 2 rfl; refine op1 r2 fun ρ qc qf qg q2 => ?_; go_simp; (try clear qc qf qg r2 q2)
 refine Ln hE_3 hK' fun a_4 hE_4 => ?_; clear hK' K' hE_3
 refine Lp fun K' hK' => ?_
 have r9 := hE_4.at 9 rfl; have r10 := hE_4.at 10 rfl
 refine op2 r9 r10 fun ρ qc qf qg q9 q10 => ?_; go_simp; (try clear qc qf qg r9 q9 r10 q10)
 (try clear r9 r10)
 refine Ln hE_4 hK' fun a_5 hE_5 => ?_; clear hK' K' hE_4
 refine Lp fun K' hK' => ?_
 have r8 := hE_5.at 8 rfl; have r11 := hE_5.at 11 rfl
 refine op2 r8 r11 fun ρ qc qf qg q8 q11 => ?_; go_simp; (try clear qc qf qg r8 q8 r11 q11)
 (try clear r8 r11)
 refine Ln hE_5 hK' fun a_6 hE_6 => ?_; clear hK' K' hE_5
 refine late_done [3, 12] hE_6 hK (fun a hE => ?_); clear hK K Q' hE_6; simp only [lk, pick, Nat.reduceEqDiff, ↓reduceIte] at hE
 clear hlk hq
 (repeat with_reducible first|refine ctl ?_|refine miss ?_)
 refine Rs 4 fun Q' K hK => ?_
 refine Lp fun K' hK' => ?_
 have r3 := hE.at 3 rfl
 refine wp_load_mid 103 (.tmp 3) rfl B 0 (eval_of r3) [.slice A b.ear.alike.length cap, .string b.ear.mute, .int .i64 b.ear.slips, .slice L b.lines.length lcap, .int .i64 b.lo, .int .i64 b.hi, .int .i64 b.lost, u0, u1, u2, u3, u4, u5, u6, u7, u8, .slice T n c, .map (some Mb)] _ (fun j u hu => by rw [Nat.zero_add]; exact hCB.2 j u hu) Try.underlying103 rfl (by kernel_rfl) ?_
 (try clear r3)
 refine Ln hE hK' fun a_1 hE_1 => ?_; clear hK' K' hE a
 refine Lp fun K' hK' => ?_
 have r14 := hE_1.at 14 rfl; refine op1 r14 fun ρ qc qf qg q14 => ?_; go_simp; (try go_bits); (try clear qc qf qg r14 q14)
 go_at_call 76; refine (HTr.out _).mono ?_; rintro e w2 ⟨rfl, h2⟩
 (try clear r14)
 refine Ln hE_1 hK' fun a_2 hE_2 => ?_; clear hK' K' hE_1
 refine Lp fun K' hK' => ?_
 have r12 := hE_2.at 12 rfl; have r15 := hE_2.at 15 rfl
 refine op2 r12 r15 fun ρ qc qf qg q12 q15 => ?_; go_simp; (try go_bits); (try clear qc qf qg r12 q12 r15 q15)
 (try clear r12 r15)
 refine Ln hE_2 hK' fun a_3 hE_3 => ?_; clear hK' K' hE_2
 refine Lp fun K' hK' => ?_
 have r16 := hE_3.at 16 rfl; refine op1 r16 fun ρ qc qf qg q16 => ?_; go_simp; (try clear qc qf qg r16 q16)
 refine Ln hE_3 hK' fun a_4 hE_4 => ?_; clear hK' K' hE_3
 refine late_done [12, 13] hE_4 hK (fun a hE => ?_); clear hK K Q' hE_4; simp only [lk, pick, Nat.reduceEqDiff, ↓reduceIte] at hE
 have hb2 := hbw1.trans (h2.mono hbw1.size)
 (repeat with_reducible first|refine ctl ?_|refine miss ?_)
 refine cond_part hE (t := 13) rfl (fun h => ?_) (fun h => ?_)
 ·have hh : q = n := by simpa using h
  (repeat with_reducible first|refine ctl ?_|refine miss ?_)
  refine Rs 1 fun Q' K hK => ?_
  refine Lp fun K' hK' => ?_
  refine op0 fun ρ qc qf qg => ?_; go_simp; (try clear qc qf qg)
  refine Ln hE hK' fun a_1 hE_1 => ?_; clear hK' K' hE a
  refine late_done [6] hE_1 hK (fun a hE => ?_); clear hK K Q' hE_1; simp only [lk, pick, Nat.reduceEqDiff, ↓reduceIte] at hE
  (repeat with_reducible first|refine ctl ?_|refine miss ?_)
  exact ret_one hE rfl rfl ⟨ret_int (by unfold kindP; rw [if_pos hh]), hb2⟩
 ·have hh : ¬ q = n := by simpa using h
  clear h
  (repeat with_reducible first|refine ctl ?_|refine miss ?_)
  refine Rs 2 fun Q' K hK => ?_
  refine Lp fun K' hK' => ?_
  have r12 := hE.at 12 rfl; refine op1 r12 fun ρ qc qf qg q12 => ?_; go_simp; (try go_bits); (try clear qc qf qg r12 q12)
  refine Ln hE hK' fun a_1 hE_1 => ?_; clear hK' K' hE a
  refine Lp fun K' hK' => ?_
  have r18 := hE_1.at 18 rfl; refine op1 r18 fun ρ qc qf qg q18 => ?_; go_simp; (try clear qc qf qg r18 q18)
  refine Ln hE_1 hK' fun a_2 hE_2 => ?_; clear hK' K' hE_1
  refine late_done [12, 17] hE_2 hK (fun a hE => ?_); clear hK K Q' hE_2; simp only [lk, pick, Nat.reduceEqDiff, ↓reduceIte] at hE
  (repeat with_reducible first|refine ctl ?_|refine miss ?_)
  refine cond_part hE (t := 17) rfl (fun h => ?_) (fun h => ?_)
  ·have h0 : q = 0 := by simpa using h
   (repeat with_reducible first|refine ctl ?_|refine miss ?_)
   refine Rs 1 fun Q' K hK => ?_
   refine Lp fun K' hK' => ?_
   refine op0 fun ρ qc qf qg => ?_; go_simp; (try clear qc qf qg)
   refine Ln hE hK' fun a_1 hE_1 => ?_; clear hK' K' hE a
   refine late_done [6] hE_1 hK (fun a hE => ?_); clear hK K Q' hE_1; simp only [lk, pick, Nat.reduceEqDiff, ↓reduceIte] at hE
   (repeat with_reducible first|refine ctl ?_|refine miss ?_)
   exact ret_one hE rfl rfl ⟨ret_int (by unfold kindP; rw [if_neg hh, if_pos h0]), hb2⟩
  ·have h0 : ¬ q = 0 := by simpa using h
   (repeat with_reducible first|refine ctl ?_|refine miss ?_)
   refine Rs 1 fun Q' K hK => ?_
   refine Lp fun K' hK' => ?_
   refine op0 fun ρ qc qf qg => ?_; go_simp; (try clear qc qf qg)
   refine Ln hE hK' fun a_1 hE_1 => ?_; clear hK' K' hE a
   refine late_done [6] hE_1 hK (fun a hE => ?_); clear hK K Q' hE_1; simp only [lk, pick, Nat.reduceEqDiff, ↓reduceIte] at hE
   (repeat with_reducible first|refine ctl ?_|refine miss ?_)
   exact ret_one hE rfl rfl ⟨ret_int (by unfold kindP; rw [if_neg hh, if_neg h0]), hb2⟩
end
end Go.Proofs.Ytbimkcjdodgojaa
