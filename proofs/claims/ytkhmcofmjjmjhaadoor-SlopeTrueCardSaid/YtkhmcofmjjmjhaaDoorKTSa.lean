/- Slope: books, and which are valid. -/
import Derived.Test.YtkhmcofmjjmjhaaDoorKTBg

namespace Go.Proofs.YtkhmcofmjjmjhaaDoor
set_option linter.unusedSimpArgs false
set_option linter.unusedVariables false
open Go Go.RowKit
attribute [local go_sem high] cell_set_wr
attribute [local go_sem low] cell_wr frozen_wr
attribute [local go_sem] wr_set wr_drew wr_drewN wr_alloc wr_new Rho.c Rho.n Rho.g
structure Sl where
 snow : Int
 wind : Int
 sun : Int
 settle : Int
 hold : Int
structure Hr where
 n1 : Int
 n2 : Int
 w1 : Int
 w2 : Int
 s1 : Int
 s2 : Int
structure Si where
 hour : Int
 fell : Bool
 lo : Int
 hi : Int
structure Sb where
 sl : Sl
 lo : Int
 hi : Int
 hours : List Hr
 sights : List Si
def Sl.cells (x : Sl) : List Value := [.int .i64 x.snow, .int .i64 x.wind, .int .i64 x.sun, .int .i64 x.settle, .int .i64 x.hold]
def Hr.cells (x : Hr) : List Value := [.int .i64 x.n1, .int .i64 x.n2, .int .i64 x.w1, .int .i64 x.w2, .int .i64 x.s1, .int .i64 x.s2]
def Si.cells (x : Si) : List Value := [.int .i64 x.hour, .bool x.fell, .int .i64 x.lo, .int .i64 x.hi]
def hrs (l : List Hr) : List Value := l.flatMap Hr.cells
def sis (l : List Si) : List Value := l.flatMap Si.cells
def sbV (H : Option Addr) (hcap : Nat) (S : Option Addr) (scap : Nat) (b : Sb) : List Value := [.int .i64 b.sl.snow, .int .i64 b.sl.wind, .int .i64 b.sl.sun, .int .i64 b.sl.settle, .int .i64 b.sl.hold, .int .i64 b.lo, .int .i64 b.hi, .slice H b.hours.length hcap, .slice S b.sights.length scap]
def SbAt (w : World) (H S : Option Addr) (b : Sb) : Prop := ArrD w H (hrs b.hours) ∧ ArrD w S (sis b.sights)
theorem SbAt.below {w w' : World} {H S : Option Addr} {b : Sb} (h : SbAt w H S b) (hb : Below w.heap.size w w') : SbAt w' H S b := ⟨h.1.below hb, h.2.below hb⟩
theorem ArrD.hr {w : World} {A : Option Addr} {l : List Hr} (h : ArrD w A (hrs l)) {k : Nat} (hk : k < l.length) :
    ∃ b o, A = some ⟨b, o, none⟩ ∧ b < w.heap.size ∧ w.cell? ⟨b, o + k * 6, none⟩ = some (.int .i64 l[k].n1) ∧ w.cell? ⟨b, o + k * 6 + 1, none⟩ = some (.int .i64 l[k].n2) ∧ w.cell? ⟨b, o + k * 6 + 2, none⟩ = some (.int .i64 l[k].w1) ∧
     w.cell? ⟨b, o + k * 6 + 3, none⟩ = some (.int .i64 l[k].w2) ∧ w.cell? ⟨b, o + k * 6 + 4, none⟩ = some (.int .i64 l[k].s1) ∧ w.cell? ⟨b, o + k * 6 + 5, none⟩ = some (.int .i64 l[k].s2) := by
 obtain ⟨b, o, hA, hlt, hc⟩ := Arr.elem (f := Hr.cells) (m := 6) (fun _ => rfl) (by omega) h hk
 exact ⟨b, o, hA, hlt, hc 0 _ (by omega) rfl, hc 1 _ (by omega) rfl, hc 2 _ (by omega) rfl, hc 3 _ (by omega) rfl, hc 4 _ (by omega) rfl, hc 5 _ (by omega) rfl⟩
theorem ArrD.si {w : World} {A : Option Addr} {l : List Si} (h : ArrD w A (sis l)) {k : Nat} (hk : k < l.length) :
    ∃ b o, A = some ⟨b, o, none⟩ ∧ b < w.heap.size ∧ w.cell? ⟨b, o + k * 4, none⟩ = some (.int .i64 l[k].hour) ∧ w.cell? ⟨b, o + k * 4 + 1, none⟩ = some (.bool l[k].fell) ∧ w.cell? ⟨b, o + k * 4 + 2, none⟩ = some (.int .i64 l[k].lo) ∧ w.cell? ⟨b, o + k * 4 + 3, none⟩ = some (.int .i64 l[k].hi) := by
 obtain ⟨b, o, hA, hlt, hc⟩ := Arr.elem (f := Si.cells) (m := 4) (fun _ => rfl) (by omega) h hk
 exact ⟨b, o, hA, hlt, hc 0 _ (by omega) rfl, hc 1 _ (by omega) rfl, hc 2 _ (by omega) rfl, hc 3 _ (by omega) rfl⟩
def wB (n lo hi : Int) : Bool := decide (lo ≤ n) && decide (n ≤ hi)
def spB (lo hi most : Int) : Bool := (decide (0 ≤ lo) && decide (lo ≤ hi)) && decide (hi ≤ most)
def naB (lo hi most : Int) : Bool := spB lo hi most && decide (hi - lo ≤ 3)
def Sl.ok (x : Sl) : Bool := (wB x.snow 0 5 && (wB x.wind 0 5 && wB x.sun 0 5)) && (wB x.settle 0 30 && wB x.hold 1 300)
def Hr.ok (x : Hr) : Bool := (naB x.n1 x.n2 9 && naB x.w1 x.w2 5) && naB x.s1 x.s2 5
def Sb.isHour (b : Sb) (n : Int) : Bool := wB n 0 ((b.hours.length : Int) - 1)
def Si.ok (b : Sb) (x : Si) : Bool := b.isHour x.hour && spB x.lo x.hi 2000
def Sb.head (b : Sb) : Bool := (b.sl.ok && spB b.lo b.hi 300) && (wB b.hours.length 1 12 && decide ((b.sights.length : Int) ≤ 6))
def Sb.ok (b : Sb) : Bool := (b.head && b.hours.all Hr.ok) && b.sights.all (Si.ok b)
def sbE (b : Sb) : Int := if b.ok then 0 else 30
theorem within_any (n lo hi : Int) (w : World) : Calls Tryd.prog 60 #[.int .i64 n, .int .i64 lo, .int .i64 hi] w fun e w' => e = .returned (.bool (wB n lo hi)) ∧ w = w' := by
 by_cases h : lo ≤ n
 all_goals
  go_enter Tryd.func60, Tryd.ntmps60
  go_wp2
  go_ret
  exact ⟨ret_bool (by unfold wB; first | (simp [h]; done) | (simp; omega)), rfl⟩
set_option maxRecDepth 100000 in
theorem isSpan_any (lo hi most : Int) (w : World) : Calls Tryd.prog 59 #[.agg #[.int .i64 lo, .int .i64 hi], .int .i64 most] w fun e w' => e = .returned (.bool (spB lo hi most)) ∧ Below w.heap.size w w' := by
 refine enterE Tryd.func59 rfl Tryd.ntmps59 (by simp) (fun a hE => ?_); simp only [envOf, Nat.zero_add, Nat.reduceAdd] at hE
 refine Ks ?_
 refine Rs 2 fun Q' K hK => ?_
 refine M1 hE 0 fun K' J ρ q0 => ?_; go_simp
 refine Ln hE J fun _ Eb => ?_; clear J K' hE a q0
 refine M0 fun K' J ρ => ?_; go_simp;
 refine Ln Eb J fun _ Ea => ?_; clear J K' Eb
 refine Ld [1, 2] Ea hK fun a hE => ?_; clear hK K Q' Ea
 obtain ⟨B, hBe⟩ : ∃ B, B = w.heap.size := ⟨_, rfl⟩; rw [← hBe] at hE; refine world_cut (fun wt => Below w.heap.size w wt ∧ Cells wt B [.int .i64 lo, .int .i64 hi]) ⟨(Below.refl _ _).alloc (Nat.le_refl _) _, by rw [hBe]; exact cells_new _ _ _⟩ (fun w1 hCut => ?_); obtain ⟨hbw1, hCB⟩ := hCut; clear hBe
 refine Ks ?_
 obtain ⟨nB, cB0, cB1⟩ := hCB.c2
 refine Rs 17 fun Q' K hK => ?_
 refine M1 hE 2 fun K' J ρ q2 => ?_; go_simp
 refine Ln hE J fun _ Eb => ?_; clear J K' hE a q2
 refine M1 Eb 5 fun K' J ρ q5 => ?_; go_simp
 refine Ln Eb J fun _ Ea => ?_; clear J K' Eb q5
 refine M1 Ea 6 fun K' J ρ q6 => ?_; go_simp; (try go_bits)
 refine Ln Ea J fun _ Eb => ?_; clear J K' Ea q6
 refine M1 Eb 7 fun K' J ρ q7 => ?_; go_simp
 refine Ln Eb J fun _ Ea => ?_; clear J K' Eb q7
 refine Lm Ea 9 8 ?_ (fun hx K' J => ?_) (fun _ Eb => ?_); rotate_left 1
 ·have hx0 := hx; (try simp only [beq_iff_eq, Bool.and_eq_true, Bool.beq_true, Bool.beq_false, Bool.not_eq_true', beq_eq_false_iff_ne] at hx); have r2 := Ea.at 2 rfl; clear hx0
  refine o1 r2 fun ρ q2 => ?_; go_simp;
  refine put_eq J ?_; rfl
 clear Ea
 refine Lm Eb 10 8 ?_ (fun hx K' J => ?_) (fun _ Ea => ?_); rotate_left 1
 ·have hx0 := hx; (try simp only [beq_iff_eq, Bool.and_eq_true, Bool.beq_true, Bool.beq_false, Bool.not_eq_true', beq_eq_false_iff_ne] at hx); have r9 := Eb.at 9 rfl; (try simp only [hx0, may_true] at r9); clear hx0
  refine o1 r9 fun ρ q9 => ?_; go_simp;
  refine put_eq J ?_; rfl
 clear Eb
 refine Lm Ea 11 8 ?_ (fun hx K' J => ?_) (fun _ Eb => ?_); rotate_left 1
 ·have hx0 := hx; (try simp only [beq_iff_eq, Bool.and_eq_true, Bool.beq_true, Bool.beq_false, Bool.not_eq_true', beq_eq_false_iff_ne] at hx); have r2 := Ea.at 2 rfl; clear hx0
  refine o1 r2 fun ρ q2 => ?_; go_simp;
  refine put_eq J ?_; rfl
 clear Ea
 refine Lm Eb 12 8 ?_ (fun hx K' J => ?_) (fun _ Ea => ?_); rotate_left 1
 ·have hx0 := hx; (try simp only [beq_iff_eq, Bool.and_eq_true, Bool.beq_true, Bool.beq_false, Bool.not_eq_true', beq_eq_false_iff_ne] at hx); have r11 := Eb.at 11 rfl; (try simp only [hx0, may_true] at r11); clear hx0
  refine o1 r11 fun ρ q11 => ?_; go_simp;
  refine put_eq J ?_; rfl
 clear Eb
 refine Lm Ea 13 8 ?_ (fun hx K' J => ?_) (fun _ Eb => ?_); rotate_left 1
 ·have hx0 := hx; (try simp only [beq_iff_eq, Bool.and_eq_true, Bool.beq_true, Bool.beq_false, Bool.not_eq_true', beq_eq_false_iff_ne] at hx); have r10 := Ea.at 10 rfl; have r12 := Ea.at 12 rfl; (try simp only [hx0, may_true] at r10); (try simp only [hx0, may_true] at r12); clear hx0
  refine o2 r10 r12 fun ρ q10 q12 => ?_; go_simp; (try go_bits);
  refine put_eq J ?_; rfl
 clear Ea
 refine M2 Eb 8 13 fun K' J ρ q8 q13 => ?_; go_simp; (try go_bits)
 refine Ln Eb J fun _ Ea => ?_; clear J K' Eb q8 q13
 replace Ea := Ea.turn 14 (v' := .bool (decide (0 ≤ lo) && decide (lo ≤ hi))) rfl (by (by_cases h : 0 ≤ lo <;> simp [h]))
 refine M1 Ea 14 fun K' J ρ q14 => ?_; go_simp
 refine Ln Ea J fun _ Eb => ?_; clear J K' Ea q14
 refine Lm Eb 16 15 ?_ (fun hx K' J => ?_) (fun _ Ea => ?_); rotate_left 1
 ·have hx0 := hx; (try simp only [beq_iff_eq, Bool.and_eq_true, Bool.beq_true, Bool.beq_false, Bool.not_eq_true', beq_eq_false_iff_ne] at hx); have r2 := Eb.at 2 rfl; clear hx0
  refine o1 r2 fun ρ q2 => ?_; go_simp;
  refine put_eq J ?_; rfl
 clear Eb
 refine Lm Ea 17 15 ?_ (fun hx K' J => ?_) (fun _ Eb => ?_); rotate_left 1
 ·have hx0 := hx; (try simp only [beq_iff_eq, Bool.and_eq_true, Bool.beq_true, Bool.beq_false, Bool.not_eq_true', beq_eq_false_iff_ne] at hx); have r16 := Ea.at 16 rfl; (try simp only [hx0, may_true] at r16); clear hx0
  refine o1 r16 fun ρ q16 => ?_; go_simp;
  refine put_eq J ?_; rfl
 clear Ea
 refine Lm Eb 18 15 ?_ (fun hx K' J => ?_) (fun _ Ea => ?_); rotate_left 1
 ·have hx0 := hx; (try simp only [beq_iff_eq, Bool.and_eq_true, Bool.beq_true, Bool.beq_false, Bool.not_eq_true', beq_eq_false_iff_ne] at hx); have r1 := Eb.at 1 rfl; clear hx0
  refine o1 r1 fun ρ q1 => ?_; go_simp;
  refine put_eq J ?_; rfl
 clear Eb
 refine Lm Ea 19 15 ?_ (fun hx K' J => ?_) (fun _ Eb => ?_); rotate_left 1
 ·have hx0 := hx; (try simp only [beq_iff_eq, Bool.and_eq_true, Bool.beq_true, Bool.beq_false, Bool.not_eq_true', beq_eq_false_iff_ne] at hx); have r17 := Ea.at 17 rfl; have r18 := Ea.at 18 rfl; (try simp only [hx0, may_true] at r17); (try simp only [hx0, may_true] at r18); clear hx0
  refine o2 r17 r18 fun ρ q17 q18 => ?_; go_simp; (try go_bits);
  refine put_eq J ?_; rfl
 clear Ea
 refine M2 Eb 15 19 fun K' J ρ q15 q19 => ?_; go_simp; (try go_bits)
 refine Ln Eb J fun _ Ea => ?_; clear J K' Eb q15 q19
 replace Ea := Ea.turn 20 (v' := .bool (spB lo hi most)) rfl (by (unfold spB; by_cases h : 0 ≤ lo <;> by_cases h' : lo ≤ hi <;> simp [h, h']))
 refine M1 Ea 20 fun K' J ρ q20 => ?_; go_simp
 refine Ln Ea J fun _ Eb => ?_; clear J K' Ea q20
 refine Ld [4] Eb hK fun a hE => ?_; clear hK K Q' Eb
 refine Ks ?_
 exact ret_one hE rfl rfl ⟨rfl, hbw1⟩
set_option maxRecDepth 100000 in
theorem isNarrow_any (lo hi most : Int) (w : World) (hm : most ≤ 2000) : Calls Tryd.prog 83 #[.agg #[.int .i64 lo, .int .i64 hi], .int .i64 most] w fun e w' => e = .returned (.bool (naB lo hi most)) ∧ Below w.heap.size w w' := by
 have C1 := hid fun W => isSpan_any lo hi most W
 cases h : spB lo hi most
 ·rw [h] at C1
  have e : naB lo hi most = false := by unfold naB; rw [h]; rfl
  rw [e]
  clear h e
  refine enterE Tryd.func83 rfl Tryd.ntmps83 (by simp) (fun a hE => ?_); simp only [envOf, Nat.zero_add, Nat.reduceAdd] at hE
  refine Ks ?_
  refine Rs 2 fun Q' K hK => ?_
  refine M1 hE 0 fun K' J ρ q0 => ?_; go_simp
  refine Ln hE J fun _ Eb => ?_; clear J K' hE a q0
  refine M0 fun K' J ρ => ?_; go_simp;
  refine Ln Eb J fun _ Ea => ?_; clear J K' Eb
  refine Ld [1, 2] Ea hK fun a hE => ?_; clear hK K Q' Ea
  obtain ⟨B, hBe⟩ : ∃ B, B = w.heap.size := ⟨_, rfl⟩; rw [← hBe] at hE; refine world_cut (fun wt => Below w.heap.size w wt ∧ Cells wt B [.int .i64 lo, .int .i64 hi]) ⟨(Below.refl _ _).alloc (Nat.le_refl _) _, by rw [hBe]; exact cells_new _ _ _⟩ (fun w1 hCut => ?_); obtain ⟨hbw1, hCB⟩ := hCut; clear hBe
  obtain ⟨nB, cB0, cB1⟩ := hCB.c2
  refine Ks ?_
  refine Rs 12 fun Q' K hK => ?_
  refine M1 hE 2 fun K' J ρ q2 => ?_; go_simp
  refine Ln hE J fun _ Eb => ?_; clear J K' hE a q2
  refine M1 Eb 1 fun K' J ρ q1 => ?_; go_simp
  refine Ln Eb J fun _ Ea => ?_; clear J K' Eb q1
  refine M2 Ea 5 6 fun K' J ρ q5 q6 => ?_; go_simp; (try go_bits); (try clear q5 q6)
  go_at_call 59; refine (C1.out _).mono ?_; rintro e w2 ⟨rfl, h2⟩; have hbw2 := hbw1.trans (h2.mono hbw1.size); replace hCB := hCB.below h2; clear nB cB0 cB1; obtain ⟨nB, cB0, cB1⟩ := hCB.c2
  (try clear r5 r6)
  refine Ln Ea J fun _ Eb => ?_; clear J K' Ea
  refine M1 Eb 7 fun K' J ρ q7 => ?_; go_simp
  refine Ln Eb J fun _ Ea => ?_; clear J K' Eb q7
  refine Lno Ea 8 ?_
  refine Lu Ea fun _ Eb => ?_
  refine Lno Eb 8 ?_
  refine Lu Eb fun _ Ea => ?_
  refine Lno Ea 8 ?_
  refine Lu Ea fun _ Eb => ?_
  refine Lno Eb 8 ?_
  refine Lu Eb fun _ Ea => ?_
  refine Lno Ea 8 ?_
  refine Lu Ea fun _ Eb => ?_
  refine Lno Eb 8 ?_
  refine Lu Eb fun _ Ea => ?_
  refine M2 Ea 8 14 fun K' J ρ q8 q14 => ?_; go_simp; (try go_bits)
  refine Ln Ea J fun _ Eb => ?_; clear J K' Ea q8 q14
  refine M1 Eb 15 fun K' J ρ q15 => ?_; go_simp
  refine Ln Eb J fun _ Ea => ?_; clear J K' Eb q15
  refine Ld [4] Ea hK fun a hE => ?_; clear hK K Q' Ea
  refine Ks ?_
  exact ret_one hE rfl rfl ⟨rfl, hbw2⟩
 ·rw [h] at C1
  have e : naB lo hi most = decide (hi - lo ≤ 3) := by unfold naB; rw [h]; rfl
  rw [e]
  unfold spB at h
  simp only [Bool.and_eq_true, decide_eq_true_eq] at h
  obtain ⟨⟨h1, h2⟩, h3⟩ := h
  clear e
  refine enterE Tryd.func83 rfl Tryd.ntmps83 (by simp) (fun a hE => ?_); simp only [envOf, Nat.zero_add, Nat.reduceAdd] at hE
  refine Ks ?_
  refine Rs 2 fun Q' K hK => ?_
  refine M1 hE 0 fun K' J ρ q0 => ?_; go_simp
  refine Ln hE J fun _ Eb => ?_; clear J K' hE a q0
  refine M0 fun K' J ρ => ?_; go_simp;
  refine Ln Eb J fun _ Ea => ?_; clear J K' Eb
  refine Ld [1, 2] Ea hK fun a hE => ?_; clear hK K Q' Ea
  obtain ⟨B, hBe⟩ : ∃ B, B = w.heap.size := ⟨_, rfl⟩; rw [← hBe] at hE; refine world_cut (fun wt => Below w.heap.size w wt ∧ Cells wt B [.int .i64 lo, .int .i64 hi]) ⟨(Below.refl _ _).alloc (Nat.le_refl _) _, by rw [hBe]; exact cells_new _ _ _⟩ (fun w1 hCut => ?_); obtain ⟨hbw1, hCB⟩ := hCut; clear hBe
  obtain ⟨nB, cB0, cB1⟩ := hCB.c2
  refine Ks ?_
  refine Rs 12 fun Q' K hK => ?_
  refine M1 hE 2 fun K' J ρ q2 => ?_; go_simp
  refine Ln hE J fun _ Eb => ?_; clear J K' hE a q2
  refine M1 Eb 1 fun K' J ρ q1 => ?_; go_simp
  refine Ln Eb J fun _ Ea => ?_; clear J K' Eb q1
  refine M2 Ea 5 6 fun K' J ρ q5 q6 => ?_; go_simp; (try go_bits); (try clear q5 q6)
  go_at_call 59; refine (C1.out _).mono ?_; rintro e w2 ⟨rfl, h2⟩; have hbw2 := hbw1.trans (h2.mono hbw1.size); replace hCB := hCB.below h2; clear nB cB0 cB1; obtain ⟨nB, cB0, cB1⟩ := hCB.c2
  (try clear r5 r6)
  refine Ln Ea J fun _ Eb => ?_; clear J K' Ea
  refine M1 Eb 7 fun K' J ρ q7 => ?_; go_simp
  refine Ln Eb J fun _ Ea => ?_; clear J K' Eb q7
  refine N1 Ea 8 2 fun K' J ρ q2 => ?_; go_simp
  refine Ln Ea J fun _ Eb => ?_; clear J K' Ea q2
  refine N1 Eb 8 9 fun K' J ρ q9 => ?_; go_simp
  refine Ln Eb J fun _ Ea => ?_; clear J K' Eb q9
  refine N1 Ea 8 2 fun K' J ρ q2 => ?_; go_simp
  refine Ln Ea J fun _ Eb => ?_; clear J K' Ea q2
  refine N1 Eb 8 11 fun K' J ρ q11 => ?_; go_simp
  refine Ln Eb J fun _ Ea => ?_; clear J K' Eb q11
  refine N2 Ea 8 10 12 fun K' J ρ q10 q12 => ?_; go_simp; (try go_bits); (try simp (disch := omega) only [IntWalk.i64_in])
  refine Ln Ea J fun _ Eb => ?_; clear J K' Ea q10 q12
  refine N1 Eb 8 13 fun K' J ρ q13 => ?_; go_simp; (try go_bits)
  refine Ln Eb J fun _ Ea => ?_; clear J K' Eb q13
  refine M2 Ea 8 14 fun K' J ρ q8 q14 => ?_; go_simp; (try go_bits)
  refine Ln Ea J fun _ Eb => ?_; clear J K' Ea q8 q14
  refine M1 Eb 15 fun K' J ρ q15 => ?_; go_simp
  refine Ln Eb J fun _ Ea => ?_; clear J K' Eb q15
  refine Ld [4] Ea hK fun a hE => ?_; clear hK K Q' Ea
  refine Ks ?_
  exact ret_one hE rfl rfl ⟨rfl, hbw2⟩
set_option maxRecDepth 100000 in
theorem isWeather_any (x : Hr) (w : World) : Calls Tryd.prog 61 #[.agg x.cells.toArray] w fun e w' => e = .returned (.bool x.ok) ∧ Below w.heap.size w w' := by
 obtain ⟨n1, n2, w1', w2', s1, s2⟩ := x
 have C1 := hid fun W => isNarrow_any n1 n2 9 W (by omega)
 have C2 := hid fun W => isNarrow_any w1' w2' 5 W (by omega)
 have C3 := hid fun W => isNarrow_any s1 s2 5 W (by omega)
 have HX : Hid (Hr.ok ⟨n1, n2, w1', w2', s1, s2⟩ = ((naB n1 n2 9 && naB w1' w2' 5) && naB s1 s2 5)) := hid rfl
 obtain ⟨p, hp⟩ : ∃ p, naB n1 n2 9 = p := ⟨_, rfl⟩
 obtain ⟨q, hq⟩ : ∃ p, naB w1' w2' 5 = p := ⟨_, rfl⟩
 obtain ⟨r, hr⟩ : ∃ p, naB s1 s2 5 = p := ⟨_, rfl⟩
 rw [hp] at C1 HX
 rw [hq] at C2 HX
 rw [hr] at C3 HX
 clear hp hq hr
 rw [HX.out]
 clear HX
 simp only [Hr.cells]
 cases hv : p
 ·rw [hv] at C1
  clear hv
  refine enterE Tryd.func61 rfl Tryd.ntmps61 (by simp) (fun a hE => ?_); simp only [envOf, Nat.zero_add, Nat.reduceAdd] at hE
  refine Ks ?_
  refine Rs 2 fun Q' K hK => ?_
  refine M1 hE 0 fun K' J ρ q0 => ?_; go_simp
  refine Ln hE J fun _ Eb => ?_; clear J K' hE a q0
  refine M0 fun K' J ρ => ?_; go_simp;
  refine Ln Eb J fun _ Ea => ?_; clear J K' Eb
  refine Ld [1] Ea hK fun a hE => ?_; clear hK K Q' Ea
  obtain ⟨B, hBe⟩ : ∃ B, B = w.heap.size := ⟨_, rfl⟩; rw [← hBe] at hE; refine world_cut (fun wt => Below w.heap.size w wt ∧ Cells wt B [.int .i64 n1, .int .i64 n2, .int .i64 w1', .int .i64 w2', .int .i64 s1, .int .i64 s2]) ⟨(Below.refl _ _).alloc (Nat.le_refl _) _, by rw [hBe]; exact cells_new _ _ _⟩ (fun w1 hCut => ?_); obtain ⟨hbw1, hCB⟩ := hCut; clear hBe
  obtain ⟨nB, cB0, cB1, cB2, cB3, cB4, cB5⟩ := hCB.c6
  refine Ks ?_
  refine Rs 14 fun Q' K hK => ?_
  refine M1 hE 1 fun K' J ρ q1 => ?_; go_simp
  refine Ln hE J fun _ Eb => ?_; clear J K' hE a q1
  refine M1 Eb 3 fun K' J ρ q3 => ?_; go_simp
  refine Ln Eb J fun _ Ea => ?_; clear J K' Eb q3
  refine M1 Ea 4 fun K' J ρ q4 => ?_; go_simp; (try go_bits); (try clear q4)
  go_at_call 83; refine (C1.out _).mono ?_; rintro e w2 ⟨rfl, h2⟩; have hbw2 := hbw1.trans (h2.mono hbw1.size); replace hCB := hCB.below h2; clear nB cB0 cB1 cB2 cB3 cB4 cB5; obtain ⟨nB, cB0, cB1, cB2, cB3, cB4, cB5⟩ := hCB.c6
  (try clear r4)
  refine Ln Ea J fun _ Eb => ?_; clear J K' Ea
  refine M1 Eb 5 fun K' J ρ q5 => ?_; go_simp
  refine Ln Eb J fun _ Ea => ?_; clear J K' Eb q5
  refine Lno Ea 6 ?_
  refine Lu Ea fun _ Eb => ?_
  refine Lno Eb 6 ?_
  refine Lu Eb fun _ Ea => ?_
  refine Lno Ea 6 ?_
  refine Lu Ea fun _ Eb => ?_
  refine M2 Eb 6 9 fun K' J ρ q6 q9 => ?_; go_simp; (try go_bits)
  refine Ln Eb J fun _ Ea => ?_; clear J K' Eb q6 q9
  refine M1 Ea 10 fun K' J ρ q10 => ?_; go_simp
  refine Ln Ea J fun _ Eb => ?_; clear J K' Ea q10
  refine Lno Eb 11 ?_
  refine Lu Eb fun _ Ea => ?_
  refine Lno Ea 11 ?_
  refine Lu Ea fun _ Eb => ?_
  refine Lno Eb 11 ?_
  refine Lu Eb fun _ Ea => ?_
  refine M2 Ea 11 14 fun K' J ρ q11 q14 => ?_; go_simp; (try go_bits)
  refine Ln Ea J fun _ Eb => ?_; clear J K' Ea q11 q14
  refine M1 Eb 15 fun K' J ρ q15 => ?_; go_simp
  refine Ln Eb J fun _ Ea => ?_; clear J K' Eb q15
  refine Ld [2] Ea hK fun a hE => ?_; clear hK K Q' Ea
  refine Ks ?_
  exact ret_one hE rfl rfl ⟨rfl, hbw2⟩
 ·rw [hv] at C1
  clear hv
  cases hv : q
  ·rw [hv] at C2
   clear hv
   refine enterE Tryd.func61 rfl Tryd.ntmps61 (by simp) (fun a hE => ?_); simp only [envOf, Nat.zero_add, Nat.reduceAdd] at hE
   refine Ks ?_
   refine Rs 2 fun Q' K hK => ?_
   refine M1 hE 0 fun K' J ρ q0 => ?_; go_simp
   refine Ln hE J fun _ Eb => ?_; clear J K' hE a q0
   refine M0 fun K' J ρ => ?_; go_simp;
   refine Ln Eb J fun _ Ea => ?_; clear J K' Eb
   refine Ld [1] Ea hK fun a hE => ?_; clear hK K Q' Ea
   obtain ⟨B, hBe⟩ : ∃ B, B = w.heap.size := ⟨_, rfl⟩; rw [← hBe] at hE; refine world_cut (fun wt => Below w.heap.size w wt ∧ Cells wt B [.int .i64 n1, .int .i64 n2, .int .i64 w1', .int .i64 w2', .int .i64 s1, .int .i64 s2]) ⟨(Below.refl _ _).alloc (Nat.le_refl _) _, by rw [hBe]; exact cells_new _ _ _⟩ (fun w1 hCut => ?_); obtain ⟨hbw1, hCB⟩ := hCut; clear hBe
   obtain ⟨nB, cB0, cB1, cB2, cB3, cB4, cB5⟩ := hCB.c6
   refine Ks ?_
   refine Rs 14 fun Q' K hK => ?_
   refine M1 hE 1 fun K' J ρ q1 => ?_; go_simp
   refine Ln hE J fun _ Eb => ?_; clear J K' hE a q1
   refine M1 Eb 3 fun K' J ρ q3 => ?_; go_simp
   refine Ln Eb J fun _ Ea => ?_; clear J K' Eb q3
   refine M1 Ea 4 fun K' J ρ q4 => ?_; go_simp; (try go_bits); (try clear q4)
   go_at_call 83; refine (C1.out _).mono ?_; rintro e w2 ⟨rfl, h2⟩; have hbw2 := hbw1.trans (h2.mono hbw1.size); replace hCB := hCB.below h2; clear nB cB0 cB1 cB2 cB3 cB4 cB5; obtain ⟨nB, cB0, cB1, cB2, cB3, cB4, cB5⟩ := hCB.c6
   (try clear r4)
   refine Ln Ea J fun _ Eb => ?_; clear J K' Ea
   refine M1 Eb 5 fun K' J ρ q5 => ?_; go_simp
   refine Ln Eb J fun _ Ea => ?_; clear J K' Eb q5
   refine N1 Ea 6 1 fun K' J ρ q1 => ?_; go_simp
   refine Ln Ea J fun _ Eb => ?_; clear J K' Ea q1
   refine N1 Eb 6 7 fun K' J ρ q7 => ?_; go_simp
   refine Ln Eb J fun _ Ea => ?_; clear J K' Eb q7
   refine N1 Ea 6 8 fun K' J ρ q8 => ?_; go_simp; (try go_bits); (try clear q8)
   go_at_call 83; refine (C2.out _).mono ?_; rintro e w3 ⟨rfl, h3⟩; have hbw3 := hbw2.trans (h3.mono hbw2.size); replace hCB := hCB.below h3; clear nB cB0 cB1 cB2 cB3 cB4 cB5; obtain ⟨nB, cB0, cB1, cB2, cB3, cB4, cB5⟩ := hCB.c6
   (try clear r8)
   refine Ln Ea J fun _ Eb => ?_; clear J K' Ea
   refine M2 Eb 6 9 fun K' J ρ q6 q9 => ?_; go_simp; (try go_bits)
   refine Ln Eb J fun _ Ea => ?_; clear J K' Eb q6 q9
   refine M1 Ea 10 fun K' J ρ q10 => ?_; go_simp
   refine Ln Ea J fun _ Eb => ?_; clear J K' Ea q10
   refine Lno Eb 11 ?_
   refine Lu Eb fun _ Ea => ?_
   refine Lno Ea 11 ?_
   refine Lu Ea fun _ Eb => ?_
   refine Lno Eb 11 ?_
   refine Lu Eb fun _ Ea => ?_
   refine M2 Ea 11 14 fun K' J ρ q11 q14 => ?_; go_simp; (try go_bits)
   refine Ln Ea J fun _ Eb => ?_; clear J K' Ea q11 q14
   refine M1 Eb 15 fun K' J ρ q15 => ?_; go_simp
   refine Ln Eb J fun _ Ea => ?_; clear J K' Eb q15
   refine Ld [2] Ea hK fun a hE => ?_; clear hK K Q' Ea
   refine Ks ?_
   exact ret_one hE rfl rfl ⟨rfl, hbw3⟩
  ·rw [hv] at C2
   clear hv
   refine enterE Tryd.func61 rfl Tryd.ntmps61 (by simp) (fun a hE => ?_); simp only [envOf, Nat.zero_add, Nat.reduceAdd] at hE
   refine Ks ?_
   refine Rs 2 fun Q' K hK => ?_
   refine M1 hE 0 fun K' J ρ q0 => ?_; go_simp
   refine Ln hE J fun _ Eb => ?_; clear J K' hE a q0
   refine M0 fun K' J ρ => ?_; go_simp;
   refine Ln Eb J fun _ Ea => ?_; clear J K' Eb
   refine Ld [1] Ea hK fun a hE => ?_; clear hK K Q' Ea
   obtain ⟨B, hBe⟩ : ∃ B, B = w.heap.size := ⟨_, rfl⟩; rw [← hBe] at hE; refine world_cut (fun wt => Below w.heap.size w wt ∧ Cells wt B [.int .i64 n1, .int .i64 n2, .int .i64 w1', .int .i64 w2', .int .i64 s1, .int .i64 s2]) ⟨(Below.refl _ _).alloc (Nat.le_refl _) _, by rw [hBe]; exact cells_new _ _ _⟩ (fun w1 hCut => ?_); obtain ⟨hbw1, hCB⟩ := hCut; clear hBe
   obtain ⟨nB, cB0, cB1, cB2, cB3, cB4, cB5⟩ := hCB.c6
   refine Ks ?_
   refine Rs 14 fun Q' K hK => ?_
   refine M1 hE 1 fun K' J ρ q1 => ?_; go_simp
   refine Ln hE J fun _ Eb => ?_; clear J K' hE a q1
   refine M1 Eb 3 fun K' J ρ q3 => ?_; go_simp
   refine Ln Eb J fun _ Ea => ?_; clear J K' Eb q3
   refine M1 Ea 4 fun K' J ρ q4 => ?_; go_simp; (try go_bits); (try clear q4)
   go_at_call 83; refine (C1.out _).mono ?_; rintro e w2 ⟨rfl, h2⟩; have hbw2 := hbw1.trans (h2.mono hbw1.size); replace hCB := hCB.below h2; clear nB cB0 cB1 cB2 cB3 cB4 cB5; obtain ⟨nB, cB0, cB1, cB2, cB3, cB4, cB5⟩ := hCB.c6
   (try clear r4)
   refine Ln Ea J fun _ Eb => ?_; clear J K' Ea
   refine M1 Eb 5 fun K' J ρ q5 => ?_; go_simp
   refine Ln Eb J fun _ Ea => ?_; clear J K' Eb q5
   refine N1 Ea 6 1 fun K' J ρ q1 => ?_; go_simp
   refine Ln Ea J fun _ Eb => ?_; clear J K' Ea q1
   refine N1 Eb 6 7 fun K' J ρ q7 => ?_; go_simp
   refine Ln Eb J fun _ Ea => ?_; clear J K' Eb q7
   refine N1 Ea 6 8 fun K' J ρ q8 => ?_; go_simp; (try go_bits); (try clear q8)
   go_at_call 83; refine (C2.out _).mono ?_; rintro e w3 ⟨rfl, h3⟩; have hbw3 := hbw2.trans (h3.mono hbw2.size); replace hCB := hCB.below h3; clear nB cB0 cB1 cB2 cB3 cB4 cB5; obtain ⟨nB, cB0, cB1, cB2, cB3, cB4, cB5⟩ := hCB.c6
   (try clear r8)
   refine Ln Ea J fun _ Eb => ?_; clear J K' Ea
   refine M2 Eb 6 9 fun K' J ρ q6 q9 => ?_; go_simp; (try go_bits)
   refine Ln Eb J fun _ Ea => ?_; clear J K' Eb q6 q9
   refine M1 Ea 10 fun K' J ρ q10 => ?_; go_simp
   refine Ln Ea J fun _ Eb => ?_; clear J K' Ea q10
   refine N1 Eb 11 1 fun K' J ρ q1 => ?_; go_simp
   refine Ln Eb J fun _ Ea => ?_; clear J K' Eb q1
   refine N1 Ea 11 12 fun K' J ρ q12 => ?_; go_simp
   refine Ln Ea J fun _ Eb => ?_; clear J K' Ea q12
   refine N1 Eb 11 13 fun K' J ρ q13 => ?_; go_simp; (try go_bits); (try clear q13)
   go_at_call 83; refine (C3.out _).mono ?_; rintro e w4 ⟨rfl, h4⟩; have hbw4 := hbw3.trans (h4.mono hbw3.size); replace hCB := hCB.below h4; clear nB cB0 cB1 cB2 cB3 cB4 cB5; obtain ⟨nB, cB0, cB1, cB2, cB3, cB4, cB5⟩ := hCB.c6
   (try clear r13)
   refine Ln Eb J fun _ Ea => ?_; clear J K' Eb
   refine M2 Ea 11 14 fun K' J ρ q11 q14 => ?_; go_simp; (try go_bits)
   refine Ln Ea J fun _ Eb => ?_; clear J K' Ea q11 q14
   refine M1 Eb 15 fun K' J ρ q15 => ?_; go_simp
   refine Ln Eb J fun _ Ea => ?_; clear J K' Eb q15
   refine Ld [2] Ea hK fun a hE => ?_; clear hK K Q' Ea
   refine Ks ?_
   exact ret_one hE rfl rfl ⟨rfl, hbw4⟩
section
variable (H : Option Addr) (hcap : Nat) (S : Option Addr) (scap : Nat) (b : Sb)
set_option maxRecDepth 100000 in
theorem isHour_any (n : Int) (w : World) (hh : b.hours.length ≤ 9223372036854775807) : Calls Tryd.prog 62 #[.agg (sbV H hcap S scap b).toArray, .int .i64 n] w fun e w' => e = .returned (.bool (b.isHour n)) ∧ Below w.heap.size w w' := by
 have HX : Hid (b.isHour n = wB n 0 ((b.hours.length : Int) - 1)) := hid rfl
 rw [HX.out]
 simp only [sbV]
 refine enterE Tryd.func62 rfl Tryd.ntmps62 (by simp) (fun a hE => ?_); simp only [envOf, Nat.zero_add, Nat.reduceAdd] at hE
 refine Ks ?_
 refine Rs 2 fun Q' K hK => ?_
 refine M1 hE 0 fun K' J ρ q0 => ?_; go_simp
 refine Ln hE J fun _ Eb => ?_; clear J K' hE a q0
 refine M0 fun K' J ρ => ?_; go_simp;
 refine Ln Eb J fun _ Ea => ?_; clear J K' Eb
 refine Ld [1, 2] Ea hK fun a hE => ?_; clear hK K Q' Ea
 obtain ⟨B, hBe⟩ : ∃ B, B = w.heap.size := ⟨_, rfl⟩; rw [← hBe] at hE; refine world_cut (fun wt => Below w.heap.size w wt ∧ Cells wt B (sbV H hcap S scap b)) ⟨(Below.refl _ _).alloc (Nat.le_refl _) _, by rw [hBe]; exact cells_new _ _ _⟩ (fun w1 hCut => ?_); obtain ⟨hbw1, hCB⟩ := hCut; clear hBe
 simp only [sbV] at hCB
 have nB := hCB.1; have cB0 := hCB.2 0 _ rfl; have cB1 := hCB.2 1 _ rfl; have cB2 := hCB.2 2 _ rfl; have cB3 := hCB.2 3 _ rfl; have cB4 := hCB.2 4 _ rfl; have cB5 := hCB.2 5 _ rfl; have cB6 := hCB.2 6 _ rfl; have cB7 := hCB.2 7 _ rfl; have cB8 := hCB.2 8 _ rfl
 refine Ks ?_
 refine Rs 7 fun Q' K hK => ?_
 refine M1 hE 1 fun K' J ρ q1 => ?_; go_simp
 refine Ln hE J fun _ Eb => ?_; clear J K' hE a q1
 refine M1 Eb 2 fun K' J ρ q2 => ?_; go_simp
 refine Ln Eb J fun _ Ea => ?_; clear J K' Eb q2
 refine M1 Ea 6 fun K' J ρ q6 => ?_; go_simp
 refine Ln Ea J fun _ Eb => ?_; clear J K' Ea q6
 refine M1 Eb 7 fun K' J ρ q7 => ?_; go_simp; (try go_bits)
 refine Ln Eb J fun _ Ea => ?_; clear J K' Eb q7
 refine M1 Ea 8 fun K' J ρ q8 => ?_; go_simp; (try go_bits); (try simp (disch := omega) only [IntWalk.i64_in])
 refine Ln Ea J fun _ Eb => ?_; clear J K' Ea q8
 refine M2 Eb 5 9 fun K' J ρ q5 q9 => ?_; go_simp; (try go_bits); (try clear q5 q9)
 go_at_call 60; refine (within_any _ _ _ _).mono ?_; rintro e w2 ⟨rfl, rfl⟩
 (try clear r5 r9)
 refine Ln Eb J fun _ Ea => ?_; clear J K' Eb
 refine M1 Ea 10 fun K' J ρ q10 => ?_; go_simp
 refine Ln Ea J fun _ Eb => ?_; clear J K' Ea q10
 refine Ld [4] Eb hK fun a hE => ?_; clear hK K Q' Eb
 refine Ks ?_
 exact ret_one hE rfl rfl ⟨rfl, hbw1⟩
end
set_option maxRecDepth 100000 in
set_option maxHeartbeats 1000000 in
theorem isSlope_any (x : Sl) (w : World) : Calls Tryd.prog 58 #[.agg x.cells.toArray] w fun e w' => e = .returned (.bool x.ok) ∧ Below w.heap.size w w' := by
 obtain ⟨sn, wi, su, se, ho⟩ := x
 have HX : Hid (Sl.ok ⟨sn, wi, su, se, ho⟩ = ((wB sn 0 5 && (wB wi 0 5 && wB su 0 5)) && (wB se 0 30 && wB ho 1 300))) := hid rfl
 simp only [Sl.cells]
 refine enterE Tryd.func58 rfl Tryd.ntmps58 (by simp) (fun a hE => ?_); simp only [envOf, Nat.zero_add, Nat.reduceAdd] at hE
 refine Ks ?_
 refine Rs 2 fun Q' K hK => ?_
 refine M1 hE 0 fun K' J ρ q0 => ?_; go_simp
 refine Ln hE J fun _ Eb => ?_; clear J K' hE a q0
 refine M0 fun K' J ρ => ?_; go_simp;
 refine Ln Eb J fun _ Ea => ?_; clear J K' Eb
 refine Ld [1] Ea hK fun a hE => ?_; clear hK K Q' Ea
 obtain ⟨B, hBe⟩ : ∃ B, B = w.heap.size := ⟨_, rfl⟩; rw [← hBe] at hE; refine world_cut (fun wt => Below w.heap.size w wt ∧ Cells wt B [.int .i64 sn, .int .i64 wi, .int .i64 su, .int .i64 se, .int .i64 ho]) ⟨(Below.refl _ _).alloc (Nat.le_refl _) _, by rw [hBe]; exact cells_new _ _ _⟩ (fun w1 hCut => ?_); obtain ⟨hbw1, hCB⟩ := hCut; clear hBe
 obtain ⟨nB, cB0, cB1, cB2, cB3, cB4⟩ := hCB.c5
 refine Ks ?_
 refine Rs 8 fun Q' K hK => ?_
 refine M1 hE 1 fun K' J ρ q1 => ?_; go_simp
 refine Ln hE J fun _ Eb => ?_; clear J K' hE a q1
 refine M1 Eb 5 fun K' J ρ q5 => ?_; go_simp
 refine Ln Eb J fun _ Ea => ?_; clear J K' Eb q5
 refine M1 Ea 1 fun K' J ρ q1 => ?_; go_simp
 refine Ln Ea J fun _ Eb => ?_; clear J K' Ea q1
 refine M1 Eb 7 fun K' J ρ q7 => ?_; go_simp
 refine Ln Eb J fun _ Ea => ?_; clear J K' Eb q7
 refine M1 Ea 1 fun K' J ρ q1 => ?_; go_simp
 refine Ln Ea J fun _ Eb => ?_; clear J K' Ea q1
 refine M1 Eb 9 fun K' J ρ q9 => ?_; go_simp
 refine Ln Eb J fun _ Ea => ?_; clear J K' Eb q9
 refine M3 Ea 6 8 10 fun K' J ρ q6 q8 q10 => ?_; go_simp
 refine Ln Ea J fun _ Eb => ?_; clear J K' Ea q6 q8 q10
 refine M0 fun K' J ρ => ?_; go_simp;
 refine Ln Eb J fun _ Ea => ?_; clear J K' Eb
 refine Ld [1, 11, 12] Ea hK fun a hE => ?_; clear hK K Q' Ea
 refine Ks ?_
 refine loop_st (fun (k : Nat) a w' => k ≤ 3 ∧ Fits 27 [(1, .pointer (some ⟨B, 0, none⟩)), (11, .agg #[.int .i64 sn, .int .i64 wi, .int .i64 su]), (12, .int .i64 k)] a ∧ w' = w1 ∧ ∀ i, i < k → wB ([sn, wi, su].getD i 0) 0 5 = true) (fun k => 3 - k) 0 ⟨Nat.zero_le _, by simpa using hE, rfl, fun i h => absurd h (Nat.not_lt_zero _)⟩ (fun k a w' hI => ?_)
 clear hE
 obtain ⟨hk, hE, hw, hN⟩ := hI
 subst hw
 have HN := hid hN
 clear hN
 by_cases hlt : k < 3
 ·have h3 : k = 0 ∨ k = 1 ∨ k = 2 := by omega
  clear hlt hk
  rcases h3 with rfl | rfl | rfl
  ·replace hE := hE.turn 12 (v' := .int .i64 0) rfl rfl
   refine Ks ?_
   refine Rs 1 fun Q' K hK => ?_
   refine M1 hE 12 fun K' J ρ q12 => ?_; go_simp; (try go_bits)
   refine Ln hE J fun _ Eb => ?_; clear J K' hE a q12
   replace Eb := Eb.turn 13 (v' := .bool true) rfl (by (first | rfl | simp))
   refine Ld [1, 11, 12, 13] Eb hK fun a hE => ?_; clear hK K Q' Eb
   refine Ks ?_
   refine cond_yes hE (t := 13) rfl ?_
   refine Ks ?_
   refine Rs 2 fun Q' K hK => ?_
   refine M2 hE 11 12 fun K' J ρ q11 q12 => ?_; go_simp; (try go_bits)
   refine Ln hE J fun _ Eb => ?_; clear J K' hE a q11 q12
   refine M1 Eb 14 fun K' J ρ q14 => ?_; go_simp
   refine Ln Eb J fun _ Ea => ?_; clear J K' Eb q14
   refine Ld [1, 4, 11, 12] Ea hK fun a hE => ?_; clear hK K Q' Ea
   refine Ks ?_
   refine Rs 3 fun Q' K hK => ?_
   refine M1 hE 4 fun K' J ρ q4 => ?_; go_simp
   refine Ln hE J fun _ Eb => ?_; clear J K' hE a q4
   refine M1 Eb 15 fun K' J ρ q15 => ?_; go_simp; (try go_bits); (try clear q15)
   go_at_call 60; refine (within_any _ _ _ _).mono ?_; rintro e w2 ⟨rfl, rfl⟩
   (try clear r15)
   refine Ln Eb J fun _ Ea => ?_; clear J K' Eb
   refine M1 Ea 16 fun K' J ρ q16 => ?_; go_simp; (try go_bits); (try simp (disch := omega) only [IntWalk.i64_in])
   refine Ln Ea J fun _ Eb => ?_; clear J K' Ea q16
   refine Ld [1, 11, 12, 17] Eb hK fun a hE => ?_; clear hK K Q' Eb
   refine Ks ?_
   refine cond_part hE (t := 17) rfl (fun h => ?_) (fun h => ?_)
   ·have hq : wB sn 0 5 = false := by simpa using h
    have HQ := hid hq
    clear h hq
    refine Ks ?_
    refine Rs 1 fun Q' K hK => ?_
    refine M0 fun K' J ρ => ?_; go_simp;
    refine Ln hE J fun _ Eb => ?_; clear J K' hE a
    refine Ld [2] Eb hK fun a hE => ?_; clear hK K Q' Eb
    refine Ks ?_
    exact ret_one hE rfl rfl ⟨by rw [HX.out, HQ.out]; simp, hbw1⟩
   ·have hq : wB sn 0 5 = true := by simpa using h
    clear h
    refine Ks ?_
    refine Rs 2 fun Q' K hK => ?_
    refine M1 hE 12 fun K' J ρ q12 => ?_; go_simp; (try go_bits); (try simp (disch := omega) only [IntWalk.i64_in])
    refine Ln hE J fun _ Eb => ?_; clear J K' hE a q12
    refine M1 Eb 18 fun K' J ρ q18 => ?_; go_simp
    refine Ln Eb J fun _ Ea => ?_; clear J K' Eb q18
    refine Ld [1, 11, 12] Ea hK fun a hE => ?_; clear hK K Q' Ea
    refine Ks ?_
    exact ⟨1, ⟨by omega, by simpa using hE, rfl, fun i hi => by
     rcases Nat.lt_or_ge i 0 with h' | h'
     ·exact HN.out i h'
     ·have : i = 0 := by omega
      subst this
      exact hq⟩, by omega⟩
  ·replace hE := hE.turn 12 (v' := .int .i64 1) rfl rfl
   refine Ks ?_
   refine Rs 1 fun Q' K hK => ?_
   refine M1 hE 12 fun K' J ρ q12 => ?_; go_simp; (try go_bits)
   refine Ln hE J fun _ Eb => ?_; clear J K' hE a q12
   replace Eb := Eb.turn 13 (v' := .bool true) rfl (by (first | rfl | simp))
   refine Ld [1, 11, 12, 13] Eb hK fun a hE => ?_; clear hK K Q' Eb
   refine Ks ?_
   refine cond_yes hE (t := 13) rfl ?_
   refine Ks ?_
   refine Rs 2 fun Q' K hK => ?_
   refine M2 hE 11 12 fun K' J ρ q11 q12 => ?_; go_simp; (try go_bits)
   refine Ln hE J fun _ Eb => ?_; clear J K' hE a q11 q12
   refine M1 Eb 14 fun K' J ρ q14 => ?_; go_simp
   refine Ln Eb J fun _ Ea => ?_; clear J K' Eb q14
   refine Ld [1, 4, 11, 12] Ea hK fun a hE => ?_; clear hK K Q' Ea
   refine Ks ?_
   refine Rs 3 fun Q' K hK => ?_
   refine M1 hE 4 fun K' J ρ q4 => ?_; go_simp
   refine Ln hE J fun _ Eb => ?_; clear J K' hE a q4
   refine M1 Eb 15 fun K' J ρ q15 => ?_; go_simp; (try go_bits); (try clear q15)
   go_at_call 60; refine (within_any _ _ _ _).mono ?_; rintro e w2 ⟨rfl, rfl⟩
   (try clear r15)
   refine Ln Eb J fun _ Ea => ?_; clear J K' Eb
   refine M1 Ea 16 fun K' J ρ q16 => ?_; go_simp; (try go_bits); (try simp (disch := omega) only [IntWalk.i64_in])
   refine Ln Ea J fun _ Eb => ?_; clear J K' Ea q16
   refine Ld [1, 11, 12, 17] Eb hK fun a hE => ?_; clear hK K Q' Eb
   refine Ks ?_
   refine cond_part hE (t := 17) rfl (fun h => ?_) (fun h => ?_)
   ·have hq : wB wi 0 5 = false := by simpa using h
    have HQ := hid hq
    clear h hq
    refine Ks ?_
    refine Rs 1 fun Q' K hK => ?_
    refine M0 fun K' J ρ => ?_; go_simp;
    refine Ln hE J fun _ Eb => ?_; clear J K' hE a
    refine Ld [2] Eb hK fun a hE => ?_; clear hK K Q' Eb
    refine Ks ?_
    exact ret_one hE rfl rfl ⟨by rw [HX.out, HQ.out]; simp, hbw1⟩
   ·have hq : wB wi 0 5 = true := by simpa using h
    clear h
    refine Ks ?_
    refine Rs 2 fun Q' K hK => ?_
    refine M1 hE 12 fun K' J ρ q12 => ?_; go_simp; (try go_bits); (try simp (disch := omega) only [IntWalk.i64_in])
    refine Ln hE J fun _ Eb => ?_; clear J K' hE a q12
    refine M1 Eb 18 fun K' J ρ q18 => ?_; go_simp
    refine Ln Eb J fun _ Ea => ?_; clear J K' Eb q18
    refine Ld [1, 11, 12] Ea hK fun a hE => ?_; clear hK K Q' Ea
    refine Ks ?_
    exact ⟨2, ⟨by omega, by simpa using hE, rfl, fun i hi => by
     rcases Nat.lt_or_ge i 1 with h' | h'
     ·exact HN.out i h'
     ·have : i = 1 := by omega
      subst this
      exact hq⟩, by omega⟩
  ·replace hE := hE.turn 12 (v' := .int .i64 2) rfl rfl
   refine Ks ?_
   refine Rs 1 fun Q' K hK => ?_
   refine M1 hE 12 fun K' J ρ q12 => ?_; go_simp; (try go_bits)
   refine Ln hE J fun _ Eb => ?_; clear J K' hE a q12
   replace Eb := Eb.turn 13 (v' := .bool true) rfl (by (first | rfl | simp))
   refine Ld [1, 11, 12, 13] Eb hK fun a hE => ?_; clear hK K Q' Eb
   refine Ks ?_
   refine cond_yes hE (t := 13) rfl ?_
   refine Ks ?_
   refine Rs 2 fun Q' K hK => ?_
   refine M2 hE 11 12 fun K' J ρ q11 q12 => ?_; go_simp; (try go_bits)
   refine Ln hE J fun _ Eb => ?_; clear J K' hE a q11 q12
   refine M1 Eb 14 fun K' J ρ q14 => ?_; go_simp
   refine Ln Eb J fun _ Ea => ?_; clear J K' Eb q14
   refine Ld [1, 4, 11, 12] Ea hK fun a hE => ?_; clear hK K Q' Ea
   refine Ks ?_
   refine Rs 3 fun Q' K hK => ?_
   refine M1 hE 4 fun K' J ρ q4 => ?_; go_simp
   refine Ln hE J fun _ Eb => ?_; clear J K' hE a q4
   refine M1 Eb 15 fun K' J ρ q15 => ?_; go_simp; (try go_bits); (try clear q15)
   go_at_call 60; refine (within_any _ _ _ _).mono ?_; rintro e w2 ⟨rfl, rfl⟩
   (try clear r15)
   refine Ln Eb J fun _ Ea => ?_; clear J K' Eb
   refine M1 Ea 16 fun K' J ρ q16 => ?_; go_simp; (try go_bits); (try simp (disch := omega) only [IntWalk.i64_in])
   refine Ln Ea J fun _ Eb => ?_; clear J K' Ea q16
   refine Ld [1, 11, 12, 17] Eb hK fun a hE => ?_; clear hK K Q' Eb
   refine Ks ?_
   refine cond_part hE (t := 17) rfl (fun h => ?_) (fun h => ?_)
   ·have hq : wB su 0 5 = false := by simpa using h
    have HQ := hid hq
    clear h hq
    refine Ks ?_
    refine Rs 1 fun Q' K hK => ?_
    refine M0 fun K' J ρ => ?_; go_simp;
    refine Ln hE J fun _ Eb => ?_; clear J K' hE a
    refine Ld [2] Eb hK fun a hE => ?_; clear hK K Q' Eb
    refine Ks ?_
    exact ret_one hE rfl rfl ⟨by rw [HX.out, HQ.out]; simp, hbw1⟩
   ·have hq : wB su 0 5 = true := by simpa using h
    clear h
    refine Ks ?_
    refine Rs 2 fun Q' K hK => ?_
    refine M1 hE 12 fun K' J ρ q12 => ?_; go_simp; (try go_bits); (try simp (disch := omega) only [IntWalk.i64_in])
    refine Ln hE J fun _ Eb => ?_; clear J K' hE a q12
    refine M1 Eb 18 fun K' J ρ q18 => ?_; go_simp
    refine Ln Eb J fun _ Ea => ?_; clear J K' Eb q18
    refine Ld [1, 11, 12] Ea hK fun a hE => ?_; clear hK K Q' Ea
    refine Ks ?_
    exact ⟨3, ⟨by omega, by simpa using hE, rfl, fun i hi => by
     rcases Nat.lt_or_ge i 2 with h' | h'
     ·exact HN.out i h'
     ·have : i = 2 := by omega
      subst this
      exact hq⟩, by omega⟩
 ·have hke : k = 3 := by omega
  subst hke
  have e0 := HN.out 0 (by omega)
  have e1 := HN.out 1 (by omega)
  have e2 := HN.out 2 (by omega)
  simp only [List.getD_cons_zero, List.getD_cons_succ] at e0 e1 e2
  have HY : Hid (Sl.ok ⟨sn, wi, su, se, ho⟩ = (wB se 0 30 && wB ho 1 300)) := hid (by rw [HX.out, e0, e1, e2]; rfl)
  clear e0 e1 e2 HX HN hlt hk
  rw [HY.out]
  replace hE := hE.turn 12 (v' := .int .i64 3) rfl rfl
  cases hv : wB se 0 30
  ·have HV := hid hv
   clear hv
   refine Ks ?_
   refine Rs 1 fun Q' K hK => ?_
   refine M1 hE 12 fun K' J ρ q12 => ?_; go_simp; (try go_bits)
   refine Ln hE J fun _ Eb => ?_; clear J K' hE a q12
   replace Eb := Eb.turn 13 (v' := .bool false) rfl (by (first | rfl | simp))
   refine Ld [1, 11, 12, 13] Eb hK fun a hE => ?_; clear hK K Q' Eb
   refine Ks ?_
   refine cond_no hE (t := 13) rfl ?_
   refine Ks ?_
   refine Rs 9 fun Q' K hK => ?_
   refine M1 hE 1 fun K' J ρ q1 => ?_; go_simp
   refine Ln hE J fun _ Eb => ?_; clear J K' hE a q1
   refine M1 Eb 19 fun K' J ρ q19 => ?_; go_simp
   refine Ln Eb J fun _ Ea => ?_; clear J K' Eb q19
   refine M1 Ea 20 fun K' J ρ q20 => ?_; go_simp; (try go_bits); (try clear q20)
   go_at_call 60; refine (within_any _ _ _ _).mono ?_; rw [HV.out]; rintro e w2 ⟨rfl, rfl⟩
   (try clear r20)
   refine Ln Ea J fun _ Eb => ?_; clear J K' Ea
   refine M1 Eb 21 fun K' J ρ q21 => ?_; go_simp
   refine Ln Eb J fun _ Ea => ?_; clear J K' Eb q21
   refine Lno Ea 22 ?_
   refine Lu Ea fun _ Eb => ?_
   refine Lno Eb 22 ?_
   refine Lu Eb fun _ Ea => ?_
   refine Lno Ea 22 ?_
   refine Lu Ea fun _ Eb => ?_
   refine M2 Eb 22 25 fun K' J ρ q22 q25 => ?_; go_simp; (try go_bits)
   refine Ln Eb J fun _ Ea => ?_; clear J K' Eb q22 q25
   refine M1 Ea 26 fun K' J ρ q26 => ?_; go_simp
   refine Ln Ea J fun _ Eb => ?_; clear J K' Ea q26
   refine Ld [2] Eb hK fun a hE => ?_; clear hK K Q' Eb
   refine Ks ?_
   exact ret_one hE rfl rfl ⟨rfl, hbw1⟩
  ·have HV := hid hv
   clear hv
   refine Ks ?_
   refine Rs 1 fun Q' K hK => ?_
   refine M1 hE 12 fun K' J ρ q12 => ?_; go_simp; (try go_bits)
   refine Ln hE J fun _ Eb => ?_; clear J K' hE a q12
   replace Eb := Eb.turn 13 (v' := .bool false) rfl (by (first | rfl | simp))
   refine Ld [1, 11, 12, 13] Eb hK fun a hE => ?_; clear hK K Q' Eb
   refine Ks ?_
   refine cond_no hE (t := 13) rfl ?_
   refine Ks ?_
   refine Rs 9 fun Q' K hK => ?_
   refine M1 hE 1 fun K' J ρ q1 => ?_; go_simp
   refine Ln hE J fun _ Eb => ?_; clear J K' hE a q1
   refine M1 Eb 19 fun K' J ρ q19 => ?_; go_simp
   refine Ln Eb J fun _ Ea => ?_; clear J K' Eb q19
   refine M1 Ea 20 fun K' J ρ q20 => ?_; go_simp; (try go_bits); (try clear q20)
   go_at_call 60; refine (within_any _ _ _ _).mono ?_; rw [HV.out]; rintro e w2 ⟨rfl, rfl⟩
   (try clear r20)
   refine Ln Ea J fun _ Eb => ?_; clear J K' Ea
   refine M1 Eb 21 fun K' J ρ q21 => ?_; go_simp
   refine Ln Eb J fun _ Ea => ?_; clear J K' Eb q21
   refine N1 Ea 22 1 fun K' J ρ q1 => ?_; go_simp
   refine Ln Ea J fun _ Eb => ?_; clear J K' Ea q1
   refine N1 Eb 22 23 fun K' J ρ q23 => ?_; go_simp
   refine Ln Eb J fun _ Ea => ?_; clear J K' Eb q23
   refine N1 Ea 22 24 fun K' J ρ q24 => ?_; go_simp; (try go_bits); (try clear q24)
   go_at_call 60; refine (within_any _ _ _ _).mono ?_; rintro e w2 ⟨rfl, rfl⟩
   (try clear r24)
   refine Ln Ea J fun _ Eb => ?_; clear J K' Ea
   refine M2 Eb 22 25 fun K' J ρ q22 q25 => ?_; go_simp; (try go_bits)
   refine Ln Eb J fun _ Ea => ?_; clear J K' Eb q22 q25
   refine M1 Ea 26 fun K' J ρ q26 => ?_; go_simp
   refine Ln Ea J fun _ Eb => ?_; clear J K' Ea q26
   refine Ld [2] Eb hK fun a hE => ?_; clear hK K Q' Eb
   refine Ks ?_
   exact ret_one hE rfl rfl ⟨by simp, hbw1⟩
end Go.Proofs.YtkhmcofmjjmjhaaDoor
