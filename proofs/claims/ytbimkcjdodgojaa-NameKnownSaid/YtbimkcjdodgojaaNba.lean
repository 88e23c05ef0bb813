/- Name: the line of which it is best to ask. -/
import Derived.Test.YtbimkcjdodgojaaNay
import Derived.Test.YtbimkcjdodgojaaNat
namespace Go.Proofs.Ytbimkcjdodgojaa
set_option linter.unusedSimpArgs false
set_option linter.unusedVariables false
open Go Go.RowKit
attribute [local go_sem high] cell_set_wr
attribute [local go_sem low] cell_wr frozen_wr
attribute [local go_sem] wr_set wr_drew wr_drewN wr_alloc wr_new

/-- the greatest count of a line's matches -/
def WorstOf (cnt : Int → Int → Int) (x r : Int) : Prop := 0 ≤ r ∧ (r = 0 ∨ ∃ o, WfI o ∧ r = cnt x o) ∧ ∀ o, WfI o → cnt x o ≤ r
theorem WorstOf.uniq {cnt : Int → Int → Int} {x r s : Int} (h : WorstOf cnt x r) (g : WorstOf cnt x s) : r = s := by
 obtain ⟨h1, h2, h3⟩ := h
 obtain ⟨g1, g2, g3⟩ := g
 have a : r ≤ s := by
  rcases h2 with rfl | ⟨o, ho, rfl⟩
  ·exact g1
  ·exact g3 o ho
 have b : s ≤ r := by
  rcases g2 with rfl | ⟨o, ho, rfl⟩
  ·exact h1
  ·exact h3 o ho
 omega
theorem grown_below {w w' : World} {B : Nat} {row : Option Nat} (h : w.grownBy w' row) (hr : ∀ g, row = some g → B ≤ g) (hB : B ≤ w.heap.size) : Below B w w' :=
 ⟨h.os, h.tape, h.output, h.size, fun k hk => h.block k (by omega) (fun e => by have := hr k e.symm; omega)⟩
section
variable (A : Option Addr) (cap : Nat) (L : Option Addr) (lcap : Nat) (b : Bk) (u0 u1 u2 u3 u4 u5 u6 u7 u8 : Value) (T : Option Addr) (n c Mb : Nat)
set_option maxRecDepth 100000 in
set_option maxHeartbeats 1000000 in
theorem left_any (cnt : Int → Int → Int) (k : Nat) (x : Int) (w : World) (hT : Tal w Mb k cnt) (hx : WfI x) : Calls Try.prog 98 #[.agg (talV A cap L lcap b u0 u1 u2 u3 u4 u5 u6 u7 u8 T n c Mb).toArray, .int .i64 x] w fun e w' => (∃ r : Int, e = .returned (.int .i64 r) ∧ WorstOf cnt x r) ∧ Below w.heap.size w w' := by
 simp only [talV]
 refine enterE Try.func98 rfl Try.ntmps98 (by simp) (fun a hE => ?_); simp only [envOf, Nat.zero_add, Nat.reduceAdd] at hE
 (repeat with_reducible first|refine ctl ?_|refine miss ?_)
 refine Rs 2 fun Q' K hK => ?_
 refine Lp fun K' hK' => ?_
 have r0 := hE.at 0 rfl; refine op1 r0 fun ρ qc qf qg q0 => ?_; go_simp; (try clear qc qf qg r0 q0)
 refine Ln hE hK' fun a_1 hE_1 => ?_; clear hK' K' hE a
 refine Lp fun K' hK' => ?_
 refine op0 fun ρ qc qf qg => ?_; go_simp; (try clear qc qf qg)
 refine Ln hE_1 hK' fun a_2 hE_2 => ?_; clear hK' K' hE_1
 refine late_done [1, 2] hE_2 hK (fun a hE => ?_); clear hK K Q' hE_2; simp only [lk, pick, Nat.reduceEqDiff, ↓reduceIte] at hE
 obtain ⟨B, hBe⟩ : ∃ B, B = w.heap.size := ⟨_, rfl⟩; rw [← hBe] at hE; refine world_cut (fun wt => Below w.heap.size w wt ∧ Cells wt B [.slice A b.ear.alike.length cap, .string b.ear.mute, .int .i64 b.ear.slips, .slice L b.lines.length lcap, .int .i64 b.lo, .int .i64 b.hi, .int .i64 b.lost, u0, u1, u2, u3, u4, u5, u6, u7, u8, .slice T n c, .map (some Mb)]) ⟨(Below.refl _ _).alloc (Nat.le_refl _) _, by rw [hBe]; exact cells_new _ _ _⟩ (fun w1 hCut => ?_); obtain ⟨hbw1, hCB⟩ := hCut; clear hBe
 have hT1 := hT.of_block (hbw1.block Mb hT.lt)
 have hMw := hT.lt
 have nB := hCB.1; have cB17 := hCB.2 17 _ rfl
 (repeat with_reducible first|refine ctl ?_|refine miss ?_)
 refine Rs 1 fun Q' K hK => ?_
 refine Lp fun K' hK' => ?_
 refine op0 fun ρ qc qf qg => ?_; go_simp; (try clear qc qf qg)
 refine Ln hE hK' fun a_1 hE_1 => ?_; clear hK' K' hE a
 refine late_done [1, 2, 5] hE_1 hK (fun a hE => ?_); clear hK K Q' hE_1; simp only [lk, pick, Nat.reduceEqDiff, ↓reduceIte] at hE
 obtain ⟨w2, c0, hrun, hR, hg2, hs2⟩ := hT1.range
 obtain ⟨RI, hRI⟩ : ∃ r, r = w1.heap.size := ⟨_, rfl⟩
 rw [← hRI] at hrun hR
 have hRI0 : w1.heap.size ≤ RI := Nat.le_of_eq hRI.symm
 clear hRI
 (repeat with_reducible first|refine ctl ?_|refine miss ?_)
 refine Rs 3 fun Q' K hK => ?_
 refine Lp fun K' hK' => ?_
 have r2 := hE.at 2 rfl; refine op1 r2 fun ρ qc qf qg q2 => ?_; go_simp; (try clear qc qf qg r2 q2)
 refine Ln hE hK' fun a_1 hE_1 => ?_; clear hK' K' hE a
 refine Lp fun K' hK' => ?_
 have r8 := hE_1.at 8 rfl; refine op1 r8 fun ρ qc qf qg q8 => ?_; go_simp; (try clear qc qf qg r8 q8)
 refine Ln hE_1 hK' fun a_2 hE_2 => ?_; clear hK' K' hE_1
 refine Lp fun K' hK' => ?_
 have r9 := hE_2.at 9 rfl; refine op1 r9 fun ρ qc qf qg q9 => ?_; go_simp; (try clear qc qf qg r9 q9)
 refine Ln hE_2 hK' fun a_3 hE_3 => ?_; clear hK' K' hE_2
 refine late_done [1, 5, 10] hE_3 hK (fun a hE => ?_); clear hK K Q' hE_3; simp only [lk, pick, Nat.reduceEqDiff, ↓reduceIte] at hE
 clear hrun nB cB17
 have hb2 : Below w1.heap.size w1 w2 := grown_below hg2 (fun g e => by cases e) (Nat.le_refl _)
 (repeat with_reducible first|refine ctl ?_|refine miss ?_)
 refine loop_st (fun (cc : Nat) a w' => ∃ wst : Int, Fits 25 [(1, .int .i64 x), (5, .int .i64 wst), (10, .pointer (some ⟨RI, 0, none⟩))] a ∧ Below w1.heap.size w1 w' ∧ TalR w' Mb RI k cnt cc (fun l o => l = x → cnt l o ≤ wst) ∧ 0 ≤ wst ∧ (wst = 0 ∨ ∃ o, WfI o ∧ wst = cnt x o)) (fun cc => cc) c0 ?_ (fun cc a w' hI => ?_)
 ·exact ⟨0, by simpa using hE, hb2, hR.imp (fun l o h _ => by rw [h]; exact Int.le_refl 0), Int.le_refl 0, .inl rfl⟩
 clear hE hR hb2 hs2 hg2
 obtain ⟨wst, hE, hW, hR, h0, hw0⟩ := hI
 obtain ⟨wi, hwi⟩ : ∃ x, x = w' := ⟨_, rfl⟩
 subst hwi
 have hRlt := hR.lt
 rcases hR.next 0 with ⟨hc0, hd, hrun⟩ | ⟨l, o, wn, c', wl, wo, wq, hrun, hRn, hlt, hg, hs, hen⟩
 ·(repeat with_reducible first|refine ctl ?_|refine miss ?_)
  refine Rs 2 fun Q' K hK => ?_
  refine Lp fun K' hK' => ?_
  have r10 := hE.at 10 rfl; refine op1 r10 fun ρ qc qf qg q10 => ?_; go_simp; (try clear qc qf qg r10 q10)
  refine Ln hE hK' fun a_1 hE_1 => ?_; clear hK' K' hE a
  refine Lp fun K' hK' => ?_
  have r11 := hE_1.at 11 rfl; refine op1 r11 fun ρ qc qf qg q11 => ?_; go_simp; (try clear qc qf qg r11 q11)
  refine Ln hE_1 hK' fun a_2 hE_2 => ?_; clear hK' K' hE_1
  refine late_done [5, 12] hE_2 hK (fun a hE => ?_); clear hK K Q' hE_2; simp only [lk, pick, Nat.reduceEqDiff, ↓reduceIte] at hE
  clear hrun
  (repeat with_reducible first|refine ctl ?_|refine miss ?_)
  refine cond_no hE (t := 12) rfl ?_
  (repeat with_reducible first|refine ctl ?_|refine miss ?_)
  refine Rs 2 fun Q' K hK => ?_
  refine Lp fun K' hK' => ?_
  have r5 := hE.at 5 rfl; refine op1 r5 fun ρ qc qf qg q5 => ?_; go_simp; (try clear qc qf qg r5 q5)
  refine Ln hE hK' fun a_1 hE_1 => ?_; clear hK' K' hE a
  refine Lp fun K' hK' => ?_
  have r24 := hE_1.at 24 rfl; refine op1 r24 fun ρ qc qf qg q24 => ?_; go_simp; (try clear qc qf qg r24 q24)
  refine Ln hE_1 hK' fun a_2 hE_2 => ?_; clear hK' K' hE_1
  refine late_done [4] hE_2 hK (fun a hE => ?_); clear hK K Q' hE_2; simp only [lk, pick, Nat.reduceEqDiff, ↓reduceIte] at hE
  (repeat with_reducible first|refine ctl ?_|refine miss ?_)
  exact ret_one hE rfl rfl ⟨⟨wst, rfl, h0, hw0, fun o ho => hd x o hx ho rfl⟩, hbw1.trans (hW.mono hbw1.size)⟩
 ·have hWn : Below w1.heap.size w1 wn := hW.trans (grown_below hg (fun g e => by cases e; exact hRI0) hW.size)
  obtain ⟨q, hq⟩ : ∃ q, cnt l o = q := ⟨_, rfl⟩
  rw [hq] at hrun hen wq
  have HQ := hid hq
  clear hs
  clear hq
  (repeat with_reducible first|refine ctl ?_|refine miss ?_)
  refine Rs 2 fun Q' K hK => ?_
  refine Lp fun K' hK' => ?_
  have r10 := hE.at 10 rfl; refine op1 r10 fun ρ qc qf qg q10 => ?_; go_simp; (try clear qc qf qg r10 q10)
  refine Ln hE hK' fun a_1 hE_1 => ?_; clear hK' K' hE a
  refine Lp fun K' hK' => ?_
  have r11 := hE_1.at 11 rfl; refine op1 r11 fun ρ qc qf qg q11 => ?_; go_simp; (try clear qc qf qg r11 q11)
  refine Ln hE_1 hK' fun a_2 hE_2 => ?_; clear hK' K' hE_1
  refine late_done [1, 5, 10, 12] hE_2 hK (fun a hE => ?_); clear hK K Q' hE_2; simp only [lk, pick, Nat.reduceEqDiff, ↓reduceIte] at hE
  clear hrun
  (repeat with_reducible first|refine ctl ?_|refine miss ?_)
  refine cond_yes hE (t := 12) rfl ?_
  (repeat with_reducible first|refine ctl ?_|refine miss ?_)
  refine Rs 6 fun Q' K hK => ?_
  refine Lp fun K' hK' => ?_
  have r10 := hE.at 10 rfl; refine op1 r10 fun ρ qc qf qg q10 => ?_; go_simp; (try clear qc qf qg r10 q10)
  refine Ln hE hK' fun a_1 hE_1 => ?_; clear hK' K' hE a
  refine Lp fun K' hK' => ?_
  have r13 := hE_1.at 13 rfl; refine op1 r13 fun ρ qc qf qg q13 => ?_; go_simp; (try clear qc qf qg r13 q13)
  refine Ln hE_1 hK' fun a_2 hE_2 => ?_; clear hK' K' hE_1
  refine Lp fun K' hK' => ?_
  have r13 := hE_2.at 13 rfl; refine op1 r13 fun ρ qc qf qg q13 => ?_; go_simp; (try clear qc qf qg r13 q13)
  refine Ln hE_2 hK' fun a_3 hE_3 => ?_; clear hK' K' hE_2
  refine Lp fun K' hK' => ?_
  refine op0 fun ρ qc qf qg => ?_; go_simp; (try clear qc qf qg)
  refine Ln hE_3 hK' fun a_4 hE_4 => ?_; clear hK' K' hE_3
  refine Lp fun K' hK' => ?_
  have r6 := hE_4.at 6 rfl; have r14 := hE_4.at 14 rfl
  refine op2 r6 r14 fun ρ qc qf qg q6 q14 => ?_; go_simp; (try clear qc qf qg r6 q6 r14 q14)
  (try clear r6 r14)
  refine late_skip hE_4 hK' (fun a_5 hE_5 => ?_); clear hK' K'; clear hE_4
  refine Lp fun K' hK' => ?_
  have r15 := hE_5.at 15 rfl; refine op1 r15 fun ρ qc qf qg q15 => ?_; go_simp; (try clear qc qf qg r15 q15)
  refine Ln hE_5 hK' fun a_6 hE_6 => ?_; clear hK' K' hE_5
  refine late_done [1, 5, 6, 7, 10] hE_6 hK (fun a hE => ?_); clear hK K Q' hE_6; simp only [lk, pick, Nat.reduceEqDiff, ↓reduceIte] at hE
  obtain ⟨G, hGe⟩ : ∃ B, B = wn.heap.size := ⟨_, rfl⟩; rw [← hGe] at hE; refine world_cut (fun wt => Below wn.heap.size wn wt ∧ Cells wt G [.int .i64 l, .int .i64 o]) ⟨(Below.refl _ _).alloc (Nat.le_refl _) _, by rw [hGe]; exact cells_new _ _ _⟩ (fun wm hCut => ?_); obtain ⟨hbwm, hCG⟩ := hCut; clear hGe
  clear hen
  have nG := hCG.1; have cG0 := hCG.2 0 _ rfl
  have hWm := hWn.trans (hbwm.mono hWn.size)
  have hRm : TalR wm Mb RI k cnt c' (fun l' o' => (l' = x → cnt l' o' ≤ wst) ∨ (l' = l ∧ o' = o)) := hRn.kept (row := none) ⟨hbwm.os, hbwm.tape, hbwm.output, hbwm.size, fun k hk _ => hbwm.block k hk⟩ (by simp) (by simp)
  (repeat with_reducible first|refine ctl ?_|refine miss ?_)
  refine Rs 4 fun Q' K hK => ?_
  refine Lp fun K' hK' => ?_
  have r6 := hE.at 6 rfl; refine op1 r6 fun ρ qc qf qg q6 => ?_; go_simp; (try clear qc qf qg r6 q6)
  refine Ln hE hK' fun a_1 hE_1 => ?_; clear hK' K' hE a
  refine Lp fun K' hK' => ?_
  have r16 := hE_1.at 16 rfl; refine op1 r16 fun ρ qc qf qg q16 => ?_; go_simp; (try clear qc qf qg r16 q16)
  refine Ln hE_1 hK' fun a_2 hE_2 => ?_; clear hK' K' hE_1
  refine Lp fun K' hK' => ?_
  have r1 := hE_2.at 1 rfl; refine op1 r1 fun ρ qc qf qg q1 => ?_; go_simp; (try clear qc qf qg r1 q1)
  refine Ln hE_2 hK' fun a_3 hE_3 => ?_; clear hK' K' hE_2
  refine Lp fun K' hK' => ?_
  have r17 := hE_3.at 17 rfl; have r18 := hE_3.at 18 rfl
  refine op2 r17 r18 fun ρ qc qf qg q17 q18 => ?_; go_simp; (try go_bits); (try clear qc qf qg r17 q17 r18 q18)
  (try clear r17 r18)
  refine Ln hE_3 hK' fun a_4 hE_4 => ?_; clear hK' K' hE_3
  refine late_done [1, 5, 7, 10, 19] hE_4 hK (fun a hE => ?_); clear hK K Q' hE_4; simp only [lk, pick, Nat.reduceEqDiff, ↓reduceIte] at hE
  clear nG cG0 hCG
  (repeat with_reducible first|refine ctl ?_|refine miss ?_)
  refine cond_part hE (t := 19) rfl (fun h => ?_) (fun h => ?_)
  ·have hlx : l = x := by simpa using h
   clear h
   (repeat with_reducible first|refine ctl ?_|refine miss ?_)
   refine Rs 5 fun Q' K hK => ?_
   refine Lp fun K' hK' => ?_
   have r5 := hE.at 5 rfl; refine op1 r5 fun ρ qc qf qg q5 => ?_; go_simp; (try clear qc qf qg r5 q5)
   refine Ln hE hK' fun a_1 hE_1 => ?_; clear hK' K' hE a
   refine Lp fun K' hK' => ?_
   have r7 := hE_1.at 7 rfl; refine op1 r7 fun ρ qc qf qg q7 => ?_; go_simp; (try clear qc qf qg r7 q7)
   refine Ln hE_1 hK' fun a_2 hE_2 => ?_; clear hK' K' hE_1
   refine Lp fun K' hK' => ?_
   have r21 := hE_2.at 21 rfl; refine op1 r21 fun ρ qc qf qg q21 => ?_; go_simp; (try clear qc qf qg r21 q21)
   refine Ln hE_2 hK' fun a_3 hE_3 => ?_; clear hK' K' hE_2
   refine Lp fun K' hK' => ?_
   have r20 := hE_3.at 20 rfl; have r22 := hE_3.at 22 rfl
   refine op2 r20 r22 fun ρ qc qf qg q20 q22 => ?_; go_simp; (try go_bits); (try clear qc qf qg r20 q20 r22 q22)
   go_at_call 65; refine (greatest_any wst _ _ [q] _ (arr_new wm _ _ |>.more (by simp)) (by simp)).mono ?_; rintro e w4 ⟨rfl, rfl⟩
   (try clear r20 r22)
   refine Ln hE_3 hK' fun a_4 hE_4 => ?_; clear hK' K' hE_3
   refine Lp fun K' hK' => ?_
   have r23 := hE_4.at 23 rfl; refine op1 r23 fun ρ qc qf qg q23 => ?_; go_simp; (try clear qc qf qg r23 q23)
   refine Ln hE_4 hK' fun a_5 hE_5 => ?_; clear hK' K' hE_4
   refine late_done [1, 5, 10] hE_5 hK (fun a hE => ?_); clear hK K Q' hE_5; simp only [lk, pick, Nat.reduceEqDiff, ↓reduceIte] at hE
   refine world_cut (fun wt => Below wm.heap.size wm wt) ((Below.refl _ _).alloc (Nat.le_refl _) _) (fun w5 hb5 => ?_)
   (repeat with_reducible first|refine ctl ?_|refine miss ?_)
   refine ⟨c', ⟨max wst q, by simpa [maxL] using hE, hWm.trans (hb5.mono hWm.size), (hRm.kept (row := none) ⟨hb5.os, hb5.tape, hb5.output, hb5.size, fun k hk _ => hb5.block k hk⟩ (by simp) (by simp)).imp (fun l' o' h' e => ?_), by omega, ?_⟩, hlt⟩
   ·rcases h' with h' | ⟨rfl, rfl⟩
    ·have := h' e; omega
    ·rw [HQ.out]; omega
   ·rcases (by omega : max wst q = wst ∨ max wst q = q) with h | h
    ·rw [h]; exact hw0
    ·rw [h]; exact .inr ⟨o, wo, by rw [← HQ.out, hlx]⟩
  ·have hlx : ¬ l = x := by simpa using h
   clear h
   (repeat with_reducible first|refine ctl ?_|refine miss ?_)
   refine ⟨c', ⟨wst, hE.keep [1, 5, 10], hWm, hRm.imp (fun l' o' h' e => ?_), h0, hw0⟩, hlt⟩
   rcases h' with h' | ⟨rfl, rfl⟩
   ·exact h' e
   ·exact absurd e hlx
end

/-- the first of some lines of which the least is left at the worst -/
def askP (f : Nat → Int) : Nat → Nat
 | 0 => 0
 | n + 1 => if f n < f (askP f n) then n else askP f n
theorem askP_le (f : Nat → Int) (n : Nat) : askP f n ≤ n := by
 induction n with
 | zero => exact Nat.le_refl _
 | succ n ih => unfold askP; split <;> omega
section
variable (A : Option Addr) (cap : Nat) (L : Option Addr) (lcap : Nat) (b : Bk) (u0 u1 u2 u3 u4 u5 u6 u7 u8 : Value) (T : Option Addr) (n c Mb : Nat)
set_option maxRecDepth 100000 in
set_option maxHeartbeats 1000000 in
theorem ask_any (cnt : Int → Int → Int) (f : Nat → Int) (hf : ∀ i : Nat, i ≤ 9 → WorstOf cnt i (f i)) (k : Nat) (w : World) (hT : Tal w Mb k cnt) (hn : b.lines.length ≤ 9) : Calls Try.prog 78 #[.agg (talV A cap L lcap b u0 u1 u2 u3 u4 u5 u6 u7 u8 T n c Mb).toArray] w fun e w' => e = .returned (.int .i64 (askP f b.lines.length)) ∧ Below w.heap.size w w' := by
 have HL : Hid (∀ (i : Nat) (W : World), i ≤ 9 → Tal W Mb k cnt → Calls Try.prog 98 #[.agg (talV A cap L lcap b u0 u1 u2 u3 u4 u5 u6 u7 u8 T n c Mb).toArray, .int .i64 i] W fun e w' => e = .returned (.int .i64 (f i)) ∧ Below W.heap.size W w') := hid fun i W hi hW =>
  (left_any A cap L lcap b u0 u1 u2 u3 u4 u5 u6 u7 u8 T n c Mb cnt k i W hW (wf_int _ (by omega))).mono (by
   rintro e w' ⟨⟨r, rfl, hr⟩, h2⟩
   exact ⟨ret_int (hr.uniq (hf i hi)), h2⟩)
 simp only [talV] at HL ⊢
 refine enterE Try.func78 rfl Try.ntmps78 (by simp) (fun a hE => ?_); simp only [envOf, Nat.zero_add, Nat.reduceAdd] at hE
 (repeat with_reducible first|refine ctl ?_|refine miss ?_)
 refine Rs 2 fun Q' K hK => ?_
 refine Lp fun K' hK' => ?_
 have r0 := hE.at 0 rfl; refine op1 r0 fun ρ qc qf qg q0 => ?_; go_simp; (try clear qc qf qg r0 q0)
 refine Ln hE hK' fun a_1 hE_1 => ?_; clear hK' K' hE a
 refine Lp fun K' hK' => ?_
 refine op0 fun ρ qc qf qg => ?_; go_simp; (try clear qc qf qg)
 refine Ln hE_1 hK' fun a_2 hE_2 => ?_; clear hK' K' hE_1
 refine late_done [1] hE_2 hK (fun a hE => ?_); clear hK K Q' hE_2; simp only [lk, pick, Nat.reduceEqDiff, ↓reduceIte] at hE
 obtain ⟨B, hBe⟩ : ∃ B, B = w.heap.size := ⟨_, rfl⟩; rw [← hBe] at hE; refine world_cut (fun wt => Below w.heap.size w wt ∧ Cells wt B [.slice A b.ear.alike.length cap, .string b.ear.mute, .int .i64 b.ear.slips, .slice L b.lines.length lcap, .int .i64 b.lo, .int .i64 b.hi, .int .i64 b.lost, u0, u1, u2, u3, u4, u5, u6, u7, u8, .slice T n c, .map (some Mb)]) ⟨(Below.refl _ _).alloc (Nat.le_refl _) _, by rw [hBe]; exact cells_new _ _ _⟩ (fun w1 hCut => ?_); obtain ⟨hbw1, hCB⟩ := hCut; clear hBe
 have hMw := hT.lt
 have hT1 := hT.of_block (hbw1.block Mb hMw)
 have nB := hCB.1; have cB3 := hCB.2 3 _ rfl
 (repeat with_reducible first|refine ctl ?_|refine miss ?_)
 refine Rs 1 fun Q' K hK => ?_
 refine Lp fun K' hK' => ?_
 refine op0 fun ρ qc qf qg => ?_; go_simp; (try clear qc qf qg)
 refine Ln hE hK' fun a_1 hE_1 => ?_; clear hK' K' hE a
 refine late_done [1, 3] hE_1 hK (fun a hE => ?_); clear hK K Q' hE_1; simp only [lk, pick, Nat.reduceEqDiff, ↓reduceIte] at hE
 (repeat with_reducible first|refine ctl ?_|refine miss ?_)
 refine Rs 6 fun Q' K hK => ?_
 refine Lp fun K' hK' => ?_
 have r1 := hE.at 1 rfl; refine op1 r1 fun ρ qc qf qg q1 => ?_; go_simp; (try clear qc qf qg r1 q1)
 refine Ln hE hK' fun a_1 hE_1 => ?_; clear hK' K' hE a
 refine Lp fun K' hK' => ?_
 have r5 := hE_1.at 5 rfl; refine op1 r5 fun ρ qc qf qg q5 => ?_; go_simp; (try clear qc qf qg r5 q5)
 refine Ln hE_1 hK' fun a_2 hE_2 => ?_; clear hK' K' hE_1
 refine Lp fun K' hK' => ?_
 have r6 := hE_2.at 6 rfl; refine op1 r6 fun ρ qc qf qg q6 => ?_; go_simp; (try clear qc qf qg r6 q6)
 refine Ln hE_2 hK' fun a_3 hE_3 => ?_; clear hK' K' hE_2
 refine Lp fun K' hK' => ?_
 have r7 := hE_3.at 7 rfl; refine op1 r7 fun ρ qc qf qg q7 => ?_; go_simp; (try clear qc qf qg r7 q7)
 refine Ln hE_3 hK' fun a_4 hE_4 => ?_; clear hK' K' hE_3
 refine Lp fun K' hK' => ?_
 have r8 := hE_4.at 8 rfl; refine op1 r8 fun ρ qc qf qg q8 => ?_; go_simp; (try go_bits); (try clear qc qf qg r8 q8)
 refine Ln hE_4 hK' fun a_5 hE_5 => ?_; clear hK' K' hE_4
 refine Lp fun K' hK' => ?_
 refine op0 fun ρ qc qf qg => ?_; go_simp; (try clear qc qf qg)
 refine Ln hE_5 hK' fun a_6 hE_6 => ?_; clear hK' K' hE_5
 refine late_done [1, 3, 9, 10] hE_6 hK (fun a hE => ?_); clear hK K Q' hE_6; simp only [lk, pick, Nat.reduceEqDiff, ↓reduceIte] at hE
 clear nB cB3
 (repeat with_reducible first|refine ctl ?_|refine miss ?_)
 refine loop_st (fun (i : Nat) a w' => i ≤ b.lines.length ∧ Fits 23 [(1, .pointer (some ⟨B, 0, none⟩)), (3, .int .i64 (askP f i)), (9, .int .i64 b.lines.length), (10, .int .i64 i)] a ∧ Below w1.heap.size w1 w') (fun i => b.lines.length - i) 0 ?_ (fun i a w' hI => ?_)
 ·exact ⟨Nat.zero_le _, by simpa [askP] using hE, Below.refl _ _⟩
 clear hE
 obtain ⟨hi, hE, hW⟩ := hI
 obtain ⟨wi, hwi⟩ : ∃ x, x = w' := ⟨_, rfl⟩
 subst hwi
 (repeat with_reducible first|refine ctl ?_|refine miss ?_)
 refine Rs 1 fun Q' K hK => ?_
 refine Lp fun K' hK' => ?_
 have r10 := hE.at 10 rfl; have r9 := hE.at 9 rfl
 refine op2 r10 r9 fun ρ qc qf qg q10 q9 => ?_; go_simp; (try go_bits); (try clear qc qf qg r10 q10 r9 q9)
 (try clear r10 r9)
 refine Ln hE hK' fun a_1 hE_1 => ?_; clear hK' K' hE a
 refine late_done [1, 3, 9, 10, 11] hE_1 hK (fun a hE => ?_); clear hK K Q' hE_1; simp only [lk, pick, Nat.reduceEqDiff, ↓reduceIte] at hE
 (repeat with_reducible first|refine ctl ?_|refine miss ?_)
 refine cond_part hE (t := 11) rfl (fun h => ?_) (fun h => ?_)
 ·have hlt : i < b.lines.length := by have := of_decide_eq_true h; omega
  clear h
  (repeat with_reducible first|refine ctl ?_|refine miss ?_)
  refine Rs 2 fun Q' K hK => ?_
  refine Lp fun K' hK' => ?_
  have r10 := hE.at 10 rfl; refine op1 r10 fun ρ qc qf qg q10 => ?_; go_simp; (try clear qc qf qg r10 q10)
  refine Ln hE hK' fun a_1 hE_1 => ?_; clear hK' K' hE a
  refine Lp fun K' hK' => ?_
  have r12 := hE_1.at 12 rfl; refine op1 r12 fun ρ qc qf qg q12 => ?_; go_simp; (try clear qc qf qg r12 q12)
  refine Ln hE_1 hK' fun a_2 hE_2 => ?_; clear hK' K' hE_1
  refine late_done [1, 3, 4, 9, 10] hE_2 hK (fun a hE => ?_); clear hK K Q' hE_2; simp only [lk, pick, Nat.reduceEqDiff, ↓reduceIte] at hE
  have hCi := hCB.below hW
  have hTi := hT1.of_block (hW.block Mb (Nat.lt_of_lt_of_le hMw hbw1.size))
  have hMi : Mb < wi.heap.size := Nat.lt_of_lt_of_le hMw (Nat.le_trans hbw1.size hW.size)
  have ha9 := askP_le f i
  have hsu : askP f (i + 1) = if f i < f (askP f i) then i else askP f i := rfl
  obtain ⟨m, hm⟩ : ∃ m, askP f i = m := ⟨_, rfl⟩
  rw [hm] at hE hsu ha9
  have H1 := hid fun W => HL.out i W (by omega)
  have H2 := hid fun W => HL.out m W (by omega)
  obtain ⟨x, hx⟩ : ∃ x, f i = x := ⟨_, rfl⟩
  obtain ⟨y, hy⟩ : ∃ y, f m = y := ⟨_, rfl⟩
  rw [hx] at H1
  rw [hy] at H2
  rw [hx, hy] at hsu
  have HSU := hid hsu
  clear hsu hm hx hy
  (repeat with_reducible first|refine ctl ?_|refine miss ?_)
  refine Rd [] (fun wt => Below wi.heap.size wi wt) (fun w1 w2 => Below w1.heap.size w1 w2) [(0, some 13), (1, some 14), (2, some 15), (3, some 16), (4, some 17), (5, some 18), (6, some 19)] [13, 14, 15, 16, 17, 18, 19] #[true, true, true, true, true, true, true] [1, 3, 4, 9, 10] hE ((Below.refl _ _).drew) fun Q' K hK => ?_
  refine SeqOps.val ?_ (Sp fun ax wx hS hT' hd K' hK' => ?_) ?_; rotate_left 1
  ·have r1 := hS.at 1 (by decide) (hE.at 1 rfl); obtain ⟨hcT, hfT, hlT, hmT, hwT, hzT⟩ := bT hT'
   refine wp_load_mid 103 (.tmp 1) rfl B 0 (eval_of r1) [.slice A b.ear.alike.length cap, .string b.ear.mute, .int .i64 b.ear.slips, .slice L b.lines.length lcap, .int .i64 b.lo, .int .i64 b.hi, .int .i64 b.lost, u0, u1, u2, u3, u4, u5, u6, u7, u8, .slice T n c, .map (some Mb)] _ (fun j u hu => by rw [Nat.zero_add]; exact (hCi.below hT').2 j u hu) Try.underlying103 rfl (by kernel_rfl) ?_
   refine hK'.out _ _ _ rfl ?_ hT' (Below.refl _ _); rfl
  refine SeqOps.val ?_ (Sp fun ax wx hS hT' hd K' hK' => ?_) ?_; rotate_left 1
  ·have r4 := hS.at 4 (by decide) (hE.at 4 rfl); obtain ⟨hcT, hfT, hlT, hmT, hwT, hzT⟩ := bT hT'
   refine op1 r4 fun ρ qc qf qg q4 => ?_; go_simp;
   refine hK'.out _ _ _ rfl ?_ hT' (Below.refl _ _); rfl
  refine SeqOps.val ?_ (Sp fun ax wx hS hT' hd K' hK' => ?_) ?_; rotate_left 1
  ·have r13 := Tv hd 1 0 13; have r14 := Tv hd 0 1 14; obtain ⟨hcT, hfT, hlT, hmT, hwT, hzT⟩ := bT hT'
   refine op2 r13 r14 fun ρ qc qf qg q13 q14 => ?_; go_simp; (try go_bits);
   go_at_call 98; refine (H1.out _ (hTi.of_block (hT'.block Mb hMi))).mono ?_; rintro e g1 ⟨rfl, k1⟩
   refine hK'.out _ _ _ rfl ?_ (hT'.trans (k1.mono hT'.size)) k1; rfl
  refine SeqOps.val ?_ (Sp fun ax wx hS hT' hd K' hK' => ?_) ?_; rotate_left 1
  ·have r1 := hS.at 1 (by decide) (hE.at 1 rfl); obtain ⟨hcT, hfT, hlT, hmT, hwT, hzT⟩ := bT hT'
   refine wp_load_mid 103 (.tmp 1) rfl B 0 (eval_of r1) [.slice A b.ear.alike.length cap, .string b.ear.mute, .int .i64 b.ear.slips, .slice L b.lines.length lcap, .int .i64 b.lo, .int .i64 b.hi, .int .i64 b.lost, u0, u1, u2, u3, u4, u5, u6, u7, u8, .slice T n c, .map (some Mb)] _ (fun j u hu => by rw [Nat.zero_add]; exact (hCi.below hT').2 j u hu) Try.underlying103 rfl (by kernel_rfl) ?_
   refine hK'.out _ _ _ rfl ?_ hT' (Below.refl _ _); rfl
  refine SeqOps.val ?_ (Sp fun ax wx hS hT' hd K' hK' => ?_) ?_; rotate_left 1
  ·have r3 := hS.at 3 (by decide) (hE.at 3 rfl); obtain ⟨hcT, hfT, hlT, hmT, hwT, hzT⟩ := bT hT'
   refine op1 r3 fun ρ qc qf qg q3 => ?_; go_simp;
   refine hK'.out _ _ _ rfl ?_ hT' (Below.refl _ _); rfl
  refine SeqOps.val ?_ (Sp fun ax wx hS hT' hd K' hK' => ?_) ?_; rotate_left 1
  ·have r16 := Tv hd 1 3 16; have r17 := Tv hd 0 4 17; obtain ⟨hcT, hfT, hlT, hmT, hwT, hzT⟩ := bT hT'
   refine op2 r16 r17 fun ρ qc qf qg q16 q17 => ?_; go_simp; (try go_bits);
   go_at_call 98; refine (H2.out _ (hTi.of_block (hT'.block Mb hMi))).mono ?_; rintro e g1 ⟨rfl, k1⟩
   refine hK'.out _ _ _ rfl ?_ (hT'.trans (k1.mono hT'.size)) k1; rfl
  refine SeqOps.val ?_ (Sp fun ax wx hS hT' hd K' hK' => ?_) ?_; rotate_left 1
  ·have r15 := Tv hd 3 2 15; have r18 := Tv hd 0 5 18; obtain ⟨hcT, hfT, hlT, hmT, hwT, hzT⟩ := bT hT'
   refine op2 r15 r18 fun ρ qc qf qg q15 q18 => ?_; go_simp; (try go_bits);
   refine hK'.out _ _ _ rfl ?_ hT' (Below.refl _ _); rfl
  refine SeqOps.nil ?_
  intro w4 hBl; (refine fun v h => ?_; obtain rfl := h); (refine fun v h => ?_; obtain rfl := h); (refine fun v h => ?_; obtain rfl := h); (refine fun v h => ?_; obtain rfl := h); (refine fun v h => ?_; obtain rfl := h); (refine fun v h => ?_; obtain rfl := h); (refine fun v h => ?_; obtain rfl := h);
  refine fun ax hEx => ?_
  simp only [lk, pick, Nat.reduceEqDiff, ↓reduceIte] at hEx
  refine late_done [1, 3, 4, 9, 10, 19] hEx hK (fun a hE => ?_); clear hK K Q' hEx; simp only [lk, pick, Nat.reduceEqDiff, ↓reduceIte] at hE
  have hW4 := hW.trans (hBl.mono hW.size)
  clear hCi hTi
  (repeat with_reducible first|refine ctl ?_|refine miss ?_)
  refine cond_part hE (t := 19) rfl (fun h => ?_) (fun h => ?_)
  ·have hxy : x < y := by have := of_decide_eq_true h; omega
   (repeat with_reducible first|refine ctl ?_|refine miss ?_)
   refine Rs 2 fun Q' K hK => ?_
   refine Lp fun K' hK' => ?_
   have r4 := hE.at 4 rfl; refine op1 r4 fun ρ qc qf qg q4 => ?_; go_simp; (try clear qc qf qg r4 q4)
   refine Ln hE hK' fun a_1 hE_1 => ?_; clear hK' K' hE a
   refine Lp fun K' hK' => ?_
   have r20 := hE_1.at 20 rfl; refine op1 r20 fun ρ qc qf qg q20 => ?_; go_simp; (try clear qc qf qg r20 q20)
   refine Ln hE_1 hK' fun a_2 hE_2 => ?_; clear hK' K' hE_1
   refine late_done [1, 3, 9, 10] hE_2 hK (fun a hE => ?_); clear hK K Q' hE_2; simp only [lk, pick, Nat.reduceEqDiff, ↓reduceIte] at hE
   (repeat with_reducible first|refine ctl ?_|refine miss ?_)
   refine Rs 2 fun Q' K hK => ?_
   refine Lp fun K' hK' => ?_
   have r10 := hE.at 10 rfl; refine op1 r10 fun ρ qc qf qg q10 => ?_; go_simp; (try go_bits); (try simp (disch := omega) only [IntWalk.i64_in]); (try clear qc qf qg r10 q10)
   refine Ln hE hK' fun a_1 hE_1 => ?_; clear hK' K' hE a
   refine Lp fun K' hK' => ?_
   have r21 := hE_1.at 21 rfl; refine op1 r21 fun ρ qc qf qg q21 => ?_; go_simp; (try clear qc qf qg r21 q21)
   refine Ln hE_1 hK' fun a_2 hE_2 => ?_; clear hK' K' hE_1
   refine late_done [1, 3, 9, 10] hE_2 hK (fun a hE => ?_); clear hK K Q' hE_2; simp only [lk, pick, Nat.reduceEqDiff, ↓reduceIte] at hE
   (repeat with_reducible first|refine ctl ?_|refine miss ?_)
   refine ⟨i + 1, ⟨hlt, ?_, hW4⟩, by omega⟩
   rw [HSU.out, if_pos hxy]; simpa using hE
  ·have hxy : ¬ x < y := by have := of_decide_eq_false h; omega
   (repeat with_reducible first|refine ctl ?_|refine miss ?_)
   refine Rs 2 fun Q' K hK => ?_
   refine Lp fun K' hK' => ?_
   have r10 := hE.at 10 rfl; refine op1 r10 fun ρ qc qf qg q10 => ?_; go_simp; (try go_bits); (try simp (disch := omega) only [IntWalk.i64_in]); (try clear qc qf qg r10 q10)
   refine Ln hE hK' fun a_1 hE_1 => ?_; clear hK' K' hE a
   refine Lp fun K' hK' => ?_
   have r21 := hE_1.at 21 rfl; refine op1 r21 fun ρ qc qf qg q21 => ?_; go_simp; (try clear qc qf qg r21 q21)
   refine Ln hE_1 hK' fun a_2 hE_2 => ?_; clear hK' K' hE_1
   refine late_done [1, 3, 9, 10] hE_2 hK (fun a hE => ?_); clear hK K Q' hE_2; simp only [lk, pick, Nat.reduceEqDiff, ↓reduceIte] at hE
   (repeat with_reducible first|refine ctl ?_|refine miss ?_)
   refine ⟨i + 1, ⟨hlt, ?_, hW4⟩, by omega⟩
   rw [HSU.out, if_neg hxy]; simpa using hE
 ·have hii : i = b.lines.length := by have := of_decide_eq_false h; omega
  subst hii
  (repeat with_reducible first|refine ctl ?_|refine miss ?_)
  refine Rs 2 fun Q' K hK => ?_
  refine Lp fun K' hK' => ?_
  have r3 := hE.at 3 rfl; refine op1 r3 fun ρ qc qf qg q3 => ?_; go_simp; (try clear qc qf qg r3 q3)
  refine Ln hE hK' fun a_1 hE_1 => ?_; clear hK' K' hE a
  refine Lp fun K' hK' => ?_
  have r22 := hE_1.at 22 rfl; refine op1 r22 fun ρ qc qf qg q22 => ?_; go_simp; (try clear qc qf qg r22 q22)
  refine Ln hE_1 hK' fun a_2 hE_2 => ?_; clear hK' K' hE_1
  refine late_done [2] hE_2 hK (fun a hE => ?_); clear hK K Q' hE_2; simp only [lk, pick, Nat.reduceEqDiff, ↓reduceIte] at hE
  (repeat with_reducible first|refine ctl ?_|refine miss ?_)
  exact ret_one hE rfl rfl ⟨rfl, hbw1.trans (hW.mono hbw1.size)⟩
end
end Go.Proofs.Ytbimkcjdodgojaa
