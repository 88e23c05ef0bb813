/- Name: what is told of all truths that were counted. -/
import Derived.Test.YtbimkcjdodgojaaNao
import Derived.Test.YtbimkcjdodgojaaNl
import Derived.Deep.MidRow
namespace Go.Proofs.Ytbimkcjdodgojaa
set_option linter.unusedSimpArgs false
set_option linter.unusedVariables false
open Go Go.RowKit
attribute [local go_sem high] cell_set_wr
attribute [local go_sem low] cell_wr frozen_wr
attribute [local go_sem] wr_set wr_drew wr_drewN wr_alloc wr_new Rho.c Rho.n Rho.g

section
variable (A : Option Addr) (cap : Nat) (L : Option Addr) (lcap : Nat) (b : Bk) (u0 u1 u2 u3 u4 u5 u6 u7 u8 : Value) (T : Option Addr) (n c Mb : Nat)
/-- a tally's cells -/
def talV : List Value := [.slice A b.ear.alike.length cap, .string b.ear.mute, .int .i64 b.ear.slips, .slice L b.lines.length lcap, .int .i64 b.lo, .int .i64 b.hi, .int .i64 b.lost, u0, u1, u2, u3, u4, u5, u6, u7, u8, .slice T n c, .map (some Mb)]
set_option maxRecDepth 100000 in
theorem tTruths_any (w : World) : Calls Try.prog 76 #[.agg (talV A cap L lcap b u0 u1 u2 u3 u4 u5 u6 u7 u8 T n c Mb).toArray] w fun e w' => e = .returned (.int .i64 n) ∧ Below w.heap.size w w' := by
 simp only [talV]
 refine enterE Try.func76 rfl Try.ntmps76 (by simp) (fun a hE => ?_); simp only [envOf, Nat.zero_add, Nat.reduceAdd] at hE
 refine Ks ?_
 refine Rs 2 fun Q' K hK => ?_
 refine M1 hE 0 fun K' J ρ q0 => ?_; go_simp; (try clear q0)
 refine Ln hE J fun _ Eb => ?_; clear J K' hE a
 refine M0 fun K' J ρ => ?_; go_simp;
 refine Ln Eb J fun _ Ea => ?_; clear J K' Eb
 refine late_done [1] Ea hK (fun a hE => ?_); clear hK K Q' Ea; simp only [lk, pick, Nat.reduceEqDiff, ↓reduceIte] at hE
 obtain ⟨B, hBe⟩ : ∃ B, B = w.heap.size := ⟨_, rfl⟩; rw [← hBe] at hE; refine world_cut (fun wt => Below w.heap.size w wt ∧ Cells wt B [.slice A b.ear.alike.length cap, .string b.ear.mute, .int .i64 b.ear.slips, .slice L b.lines.length lcap, .int .i64 b.lo, .int .i64 b.hi, .int .i64 b.lost, u0, u1, u2, u3, u4, u5, u6, u7, u8, .slice T n c, .map (some Mb)]) ⟨(Below.refl _ _).alloc (Nat.le_refl _) _, by rw [hBe]; exact cells_new _ _ _⟩ (fun w1 hCut => ?_); obtain ⟨hbw1, hCB⟩ := hCut; clear hBe
 have nB := hCB.1; have cB16 := hCB.2 16 _ rfl
 refine Ks ?_
 refine Rs 4 fun Q' K hK => ?_
 refine M1 hE 1 fun K' J ρ q1 => ?_; go_simp; (try clear q1)
 refine Ln hE J fun _ Eb => ?_; clear J K' hE a
 refine M1 Eb 3 fun K' J ρ q3 => ?_; go_simp; (try clear q3)
 refine Ln Eb J fun _ Ea => ?_; clear J K' Eb
 refine M1 Ea 4 fun K' J ρ q4 => ?_; go_simp; (try go_bits); (try clear q4)
 refine Ln Ea J fun _ Eb => ?_; clear J K' Ea
 refine M1 Eb 5 fun K' J ρ q5 => ?_; go_simp; (try clear q5)
 refine Ln Eb J fun _ Ea => ?_; clear J K' Eb
 refine late_done [2] Ea hK (fun a hE => ?_); clear hK K Q' Ea; simp only [lk, pick, Nat.reduceEqDiff, ↓reduceIte] at hE
 refine Ks ?_
 exact ret_one hE rfl rfl ⟨rfl, hbw1⟩
/-- in how many truths two lines are a pair -/
def kindP (x n : Int) : Int := if x = n then 2 else if x = 0 then 0 else 1
set_option maxRecDepth 100000 in
set_option maxHeartbeats 1000000 in
theorem kind_any (cnt : Int → Int → Int) (k : Nat) (x y : Int) (w : World) (hT : Tal w Mb k cnt) (hx : WfI x) (hy : WfI y) : Calls Try.prog 70 #[.agg (talV A cap L lcap b u0 u1 u2 u3 u4 u5 u6 u7 u8 T n c Mb).toArray, .int .i64 x, .int .i64 y] w fun e w' => e = .returned (.int .i64 (kindP (cnt x y) n)) ∧ Below w.heap.size w w' := by
 have HTr := hid (tTruths_any A cap L lcap b u0 u1 u2 u3 u4 u5 u6 u7 u8 T n c Mb)
 simp only [talV] at HTr ⊢
 refine enterE Try.func70 rfl Try.ntmps70 (by simp) (fun a hE => ?_); simp only [envOf, Nat.zero_add, Nat.reduceAdd] at hE
 refine Ks ?_
 refine Rs 2 fun Q' K hK => ?_
 refine M1 hE 0 fun K' J ρ q0 => ?_; go_simp; (try clear q0)
 refine Ln hE J fun _ Eb => ?_; clear J K' hE a
 refine M0 fun K' J ρ => ?_; go_simp;
 refine Ln Eb J fun _ Ea => ?_; clear J K' Eb
 refine late_done [1, 2, 3] Ea hK (fun a hE => ?_); clear hK K Q' Ea; simp only [lk, pick, Nat.reduceEqDiff, ↓reduceIte] at hE
 obtain ⟨B, hBe⟩ : ∃ B, B = w.heap.size := ⟨_, rfl⟩; rw [← hBe] at hE; refine world_cut (fun wt => Below w.heap.size w wt ∧ Cells wt B [.slice A b.ear.alike.length cap, .string b.ear.mute, .int .i64 b.ear.slips, .slice L b.lines.length lcap, .int .i64 b.lo, .int .i64 b.hi, .int .i64 b.lost, u0, u1, u2, u3, u4, u5, u6, u7, u8, .slice T n c, .map (some Mb)]) ⟨(Below.refl _ _).alloc (Nat.le_refl _) _, by rw [hBe]; exact cells_new _ _ _⟩ (fun w1 hCut => ?_); obtain ⟨hbw1, hCB⟩ := hCut; clear hBe
 have hlk := (hT.of_block (hbw1.block Mb hT.lt)).lookup x y hx hy
 obtain ⟨q, hq⟩ : ∃ q, cnt x y = q := ⟨_, rfl⟩
 rw [hq] at hlk ⊢
 have nB := hCB.1; have cB17 := hCB.2 17 _ rfl
 refine Ks ?_
 refine Rs 6 fun Q' K hK => ?_
 refine M1 hE 3 fun K' J ρ q3 => ?_; go_simp; (try clear q3)
 refine Ln hE J fun _ Eb => ?_; clear J K' hE a
 refine M1 Eb 7 fun K' J ρ q7 => ?_; go_simp; (try clear q7)
 refine Ln Eb J fun _ Ea => ?_; clear J K' Eb
 refine M1 Ea 1 fun K' J ρ q1 => ?_; go_simp; (try clear q1)
 refine Ln Ea J fun _ Eb => ?_; clear J K' Ea
 refine M1 Eb 2 fun K' J ρ q2 => ?_; go_simp; (try clear q2)
 refine Ln Eb J fun _ Ea => ?_; clear J K' Eb
 refine M2 Ea 9 10 fun K' J ρ q9 q10 => ?_; go_simp; (try clear q9 q10)
 refine Ln Ea J fun _ Eb => ?_; clear J K' Ea
 refine M2 Eb 8 11 fun K' J ρ q8 q11 => ?_; go_simp; (try clear q8 q11)
 refine Ln Eb J fun _ Ea => ?_; clear J K' Eb
 refine late_done [3, 12] Ea hK (fun a hE => ?_); clear hK K Q' Ea; simp only [lk, pick, Nat.reduceEqDiff, ↓reduceIte] at hE
 clear hlk hq
 refine Ks ?_
 refine Rs 4 fun Q' K hK => ?_
 refine Lp fun K' J => ?_
 have r3 := hE.at 3 rfl
 refine wp_load_mid 103 (.tmp 3) rfl B 0 (eval_of r3) [.slice A b.ear.alike.length cap, .string b.ear.mute, .int .i64 b.ear.slips, .slice L b.lines.length lcap, .int .i64 b.lo, .int .i64 b.hi, .int .i64 b.lost, u0, u1, u2, u3, u4, u5, u6, u7, u8, .slice T n c, .map (some Mb)] _ (fun j u hu => by rw [Nat.zero_add]; exact hCB.2 j u hu) Try.underlying103 rfl (by kernel_rfl) ?_
 (try clear r3)
 refine Ln hE J fun _ Eb => ?_; clear J K' hE a
 refine M1 Eb 14 fun K' J ρ q14 => ?_; go_simp; (try go_bits); (try clear q14)
 go_at_call 76; refine (HTr.out _).mono ?_; rintro e w2 ⟨rfl, h2⟩
 (try clear r14)
 refine Ln Eb J fun _ Ea => ?_; clear J K' Eb
 refine M2 Ea 12 15 fun K' J ρ q12 q15 => ?_; go_simp; (try go_bits); (try clear q12 q15)
 refine Ln Ea J fun _ Eb => ?_; clear J K' Ea
 refine M1 Eb 16 fun K' J ρ q16 => ?_; go_simp; (try clear q16)
 refine Ln Eb J fun _ Ea => ?_; clear J K' Eb
 refine late_done [12, 13] Ea hK (fun a hE => ?_); clear hK K Q' Ea; simp only [lk, pick, Nat.reduceEqDiff, ↓reduceIte] at hE
 have hb2 := hbw1.trans (h2.mono hbw1.size)
 refine Ks ?_
 refine cond_part hE (t := 13) rfl (fun h => ?_) (fun h => ?_)
 ·have hh : q = n := by simpa using h
  refine Ks ?_
  refine Rs 1 fun Q' K hK => ?_
  refine M0 fun K' J ρ => ?_; go_simp;
  refine Ln hE J fun _ Eb => ?_; clear J K' hE a
  refine late_done [6] Eb hK (fun a hE => ?_); clear hK K Q' Eb; simp only [lk, pick, Nat.reduceEqDiff, ↓reduceIte] at hE
  refine Ks ?_
  exact ret_one hE rfl rfl ⟨ret_int (by unfold kindP; rw [if_pos hh]), hb2⟩
 ·have hh : ¬ q = n := by simpa using h
  clear h
  refine Ks ?_
  refine Rs 2 fun Q' K hK => ?_
  refine M1 hE 12 fun K' J ρ q12 => ?_; go_simp; (try go_bits); (try clear q12)
  refine Ln hE J fun _ Eb => ?_; clear J K' hE a
  refine M1 Eb 18 fun K' J ρ q18 => ?_; go_simp; (try clear q18)
  refine Ln Eb J fun _ Ea => ?_; clear J K' Eb
  refine late_done [12, 17] Ea hK (fun a hE => ?_); clear hK K Q' Ea; simp only [lk, pick, Nat.reduceEqDiff, ↓reduceIte] at hE
  refine Ks ?_
  refine cond_part hE (t := 17) rfl (fun h => ?_) (fun h => ?_)
  ·have h0 : q = 0 := by simpa using h
   refine Ks ?_
   refine Rs 1 fun Q' K hK => ?_
   refine M0 fun K' J ρ => ?_; go_simp;
   refine Ln hE J fun _ Eb => ?_; clear J K' hE a
   refine late_done [6] Eb hK (fun a hE => ?_); clear hK K Q' Eb; simp only [lk, pick, Nat.reduceEqDiff, ↓reduceIte] at hE
   refine Ks ?_
   exact ret_one hE rfl rfl ⟨ret_int (by unfold kindP; rw [if_neg hh, if_pos h0]), hb2⟩
  ·have h0 : ¬ q = 0 := by simpa using h
   refine Ks ?_
   refine Rs 1 fun Q' K hK => ?_
   refine M0 fun K' J ρ => ?_; go_simp;
   refine Ln hE J fun _ Eb => ?_; clear J K' hE a
   refine late_done [6] Eb hK (fun a hE => ?_); clear hK K Q' Eb; simp only [lk, pick, Nat.reduceEqDiff, ↓reduceIte] at hE
   refine Ks ?_
   exact ret_one hE rfl rfl ⟨ret_int (by unfold kindP; rw [if_neg hh, if_neg h0]), hb2⟩
end
end Go.Proofs.Ytbimkcjdodgojaa
