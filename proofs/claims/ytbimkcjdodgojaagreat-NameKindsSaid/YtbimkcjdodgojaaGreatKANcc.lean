/- Name: which lists of pairs are truths; what is joined, and how many people there are. -/
import Derived.Test.YtbimkcjdodgojaaGreatKANdd
import Derived.Test.YtbimkcjdodgojaaGreatKANo
import Derived.Test.YtbimkcjdodgojaaGreatKANbd

namespace Go.Proofs.YtbimkcjdodgojaaGreat
set_option linter.unusedSimpArgs false
set_option linter.unusedVariables false
open Go Go.RowKit
attribute [local go_sem high] cell_set_wr
attribute [local go_sem low] cell_wr frozen_wr
attribute [local go_sem] wr_set wr_drew wr_drewN wr_alloc wr_new Rho.c Rho.n Rho.g
section
variable (A : Option Addr) (cap : Nat) (L : Option Addr) (lcap : Nat) (b : Bk)
set_option maxRecDepth 100000 in
set_option maxHeartbeats 2000000 in
theorem rasked_any (v : Bool) (w : World) (hM : BkAt w A L b) (hs : b.small cap lcap) (hz : ∀ i (h : i < b.ear.alike.length), b.ear.alike[i].size ≤ 9223372036854775807)
    (HC : Hid (b.ok = true → ∀ (W : World), BkAt W A L b → Calls Tryz.prog 42 #[.agg (bkV A cap L lcap b).toArray] W fun e w' => (∃ O c, e = .returned (.slice O b.ts.length c)) ∧ Below W.heap.size W w')) :
    Calls Tryz.prog 52 #[.agg (bkV A cap L lcap b).toArray, .bool v] w fun e w' => e = .returned (.int .i64 (setE b v)) ∧ Below w.heap.size w w' := by
 have C1 : Hid (∀ W, BkAt W A L b → Calls Tryz.prog 9 #[.agg (bkV A cap L lcap b).toArray] W fun e w' => e = .returned (.int .i64 (bkE b)) ∧ Below W.heap.size W w') := hid fun W hW => rCheck_any A cap L lcap b W hW hs hz
 cases ho : b.ok
 ·have e0 : bkE b = 20 := by unfold bkE; rw [ho]; rfl
  have e1 : setE b v = 20 := by unfold setE refE; rw [ho]; rfl
  rw [e0] at C1
  rw [e1]
  clear e0 e1 ho HC
  simp only [bkV] at C1 ⊢
  refine enterE Tryz.func52 rfl Tryz.ntmps52 (by simp) (fun a hE => ?_); simp only [envOf, Nat.zero_add, Nat.reduceAdd] at hE
  refine Ks ?_
  refine Rs 2 fun Q' K hK => ?_
  refine M1 hE 0 fun K' J ρ q0 => ?_; go_simp
  refine Ln hE J fun _ Eb => ?_; clear J K' hE a q0
  refine M0 fun K' J ρ => ?_; go_simp;
  refine Ln Eb J fun _ Ea => ?_; clear J K' Eb
  refine Ld [2] Ea hK fun a hE => ?_; clear hK K Q' Ea
  obtain ⟨B, hBe⟩ : ∃ B, B = w.heap.size := ⟨_, rfl⟩; rw [← hBe] at hE; refine world_cut (fun wt => Below w.heap.size w wt ∧ Cells wt B (bkV A cap L lcap b)) ⟨(Below.refl _ _).alloc (Nat.le_refl _) _, by rw [hBe]; exact cells_new _ _ _⟩ (fun w1 hCut => ?_); obtain ⟨hbw1, hCB⟩ := hCut; clear hBe
  have hM1 := hM.below hbw1
  simp only [bkV] at hCB
  obtain ⟨nB, cB0, cB1, cB2, cB3, cB4, cB5, cB6⟩ := hCB.c7
  refine Ks ?_
  refine Rs 3 fun Q' K hK => ?_
  refine M1 hE 2 fun K' J ρ q2 => ?_; go_simp
  refine Ln hE J fun _ Eb => ?_; clear J K' hE a q2
  refine M1 Eb 6 fun K' J ρ q6 => ?_; go_simp; (try go_bits); (try clear q6)
  go_at_call 9; refine (C1.out _ hM1).mono ?_; rintro e w2 ⟨rfl, h2⟩
  (try clear r6)
  refine Ln Eb J fun _ Ea => ?_; clear J K' Eb
  refine M1 Ea 7 fun K' J ρ q7 => ?_; go_simp
  refine Ln Ea J fun _ Eb => ?_; clear J K' Ea q7
  refine Ld [5] Eb hK fun a hE => ?_; clear hK K Q' Eb
  refine Ks ?_
  refine Rs 2 fun Q' K hK => ?_
  refine M1 hE 5 fun K' J ρ q5 => ?_; go_simp
  refine Ln hE J fun _ Eb => ?_; clear J K' hE a q5
  refine M1 Eb 8 fun K' J ρ q8 => ?_; go_simp; (try go_bits)
  refine Ln Eb J fun _ Ea => ?_; clear J K' Eb q8
  replace Ea := Ea.turn 9 (v' := .bool true) rfl (by (first | rfl | simp))
  refine Ld [5, 9] Ea hK fun a hE => ?_; clear hK K Q' Ea
  refine Ks ?_
  refine cond_yes hE (t := 9) rfl ?_
  refine Ks ?_
  refine Rs 2 fun Q' K hK => ?_
  refine M1 hE 5 fun K' J ρ q5 => ?_; go_simp
  refine Ln hE J fun _ Eb => ?_; clear J K' hE a q5
  refine M1 Eb 10 fun K' J ρ q10 => ?_; go_simp
  refine Ln Eb J fun _ Ea => ?_; clear J K' Eb q10
  refine Ld [4] Ea hK fun a hE => ?_; clear hK K Q' Ea
  refine Ks ?_
  exact ret_one hE rfl rfl ⟨rfl, hbw1.trans (h2.mono hbw1.size)⟩
 ·have e0 : bkE b = 0 := by unfold bkE; rw [ho]; rfl
  rw [e0] at C1
  have C3 := hid (HC.out ho)
  obtain ⟨m, hm⟩ : ∃ m, b.ts.length = m := ⟨_, rfl⟩
  have HS : Hid (setE b v = if v then (if m = 0 then 22 else 0) else 21) := hid (by
   unfold setE refE
   rw [ho, hm]
   cases v <;> rfl)
  rw [hm] at C3
  clear e0 ho HC hm
  simp only [bkV] at C1 C3 ⊢
  refine enterE Tryz.func52 rfl Tryz.ntmps52 (by simp) (fun a hE => ?_); simp only [envOf, Nat.zero_add, Nat.reduceAdd] at hE
  refine Ks ?_
  refine Rs 2 fun Q' K hK => ?_
  refine M1 hE 0 fun K' J ρ q0 => ?_; go_simp
  refine Ln hE J fun _ Eb => ?_; clear J K' hE a q0
  refine M0 fun K' J ρ => ?_; go_simp;
  refine Ln Eb J fun _ Ea => ?_; clear J K' Eb
  refine Ld [1, 2] Ea hK fun a hE => ?_; clear hK K Q' Ea
  obtain ⟨B, hBe⟩ : ∃ B, B = w.heap.size := ⟨_, rfl⟩; rw [← hBe] at hE; refine world_cut (fun wt => Below w.heap.size w wt ∧ Cells wt B (bkV A cap L lcap b)) ⟨(Below.refl _ _).alloc (Nat.le_refl _) _, by rw [hBe]; exact cells_new _ _ _⟩ (fun w1 hCut => ?_); obtain ⟨hbw1, hCB⟩ := hCut; clear hBe
  have hM1 := hM.below hbw1
  simp only [bkV] at hCB
  obtain ⟨nB, cB0, cB1, cB2, cB3, cB4, cB5, cB6⟩ := hCB.c7
  refine Ks ?_
  refine Rs 3 fun Q' K hK => ?_
  refine M1 hE 2 fun K' J ρ q2 => ?_; go_simp
  refine Ln hE J fun _ Eb => ?_; clear J K' hE a q2
  refine M1 Eb 6 fun K' J ρ q6 => ?_; go_simp; (try go_bits); (try clear q6)
  go_at_call 9; refine (C1.out _ hM1).mono ?_; rintro e w2 ⟨rfl, h2⟩
  (try clear r6)
  refine Ln Eb J fun _ Ea => ?_; clear J K' Eb
  refine M1 Ea 7 fun K' J ρ q7 => ?_; go_simp
  refine Ln Ea J fun _ Eb => ?_; clear J K' Ea q7
  refine Ld [1, 2, 5] Eb hK fun a hE => ?_; clear hK K Q' Eb
  have hb2 := hbw1.trans (h2.mono hbw1.size)
  have hM2 := hM.below hb2
  replace hCB := hCB.below h2
  clear nB cB0 cB1 cB2 cB3 cB4 cB5 cB6 hM1
  obtain ⟨nB, cB0, cB1, cB2, cB3, cB4, cB5, cB6⟩ := hCB.c7
  refine Ks ?_
  refine Rs 2 fun Q' K hK => ?_
  refine M1 hE 5 fun K' J ρ q5 => ?_; go_simp
  refine Ln hE J fun _ Eb => ?_; clear J K' hE a q5
  refine M1 Eb 8 fun K' J ρ q8 => ?_; go_simp; (try go_bits)
  refine Ln Eb J fun _ Ea => ?_; clear J K' Eb q8
  replace Ea := Ea.turn 9 (v' := .bool false) rfl (by (first | rfl | simp))
  refine Ld [1, 2, 9] Ea hK fun a hE => ?_; clear hK K Q' Ea
  refine Ks ?_
  refine cond_no hE (t := 9) rfl ?_
  refine Ks ?_
  cases v
  ·skip
   refine Rs 2 fun Q' K hK => ?_
   refine M1 hE 1 fun K' J ρ q1 => ?_; go_simp
   refine Ln hE J fun _ Eb => ?_; clear J K' hE a q1
   refine M1 Eb 11 fun K' J ρ q11 => ?_; go_simp; (try go_bits); (try simp (disch := omega) only [IntWalk.i64_in])
   refine Ln Eb J fun _ Ea => ?_; clear J K' Eb q11
   replace Ea := Ea.turn 12 (v' := .bool true) rfl (by (first | rfl | simp))
   refine Ld [12] Ea hK fun a hE => ?_; clear hK K Q' Ea
   refine Ks ?_
   refine cond_yes hE (t := 12) rfl ?_
   refine Ks ?_
   refine Rs 1 fun Q' K hK => ?_
   refine M0 fun K' J ρ => ?_; go_simp;
   refine Ln hE J fun _ Eb => ?_; clear J K' hE a
   refine Ld [4] Eb hK fun a hE => ?_; clear hK K Q' Eb
   refine Ks ?_
   exact ret_one hE rfl rfl ⟨by rw [HS.out]; rfl, hb2⟩
  ·skip
   refine Rs 2 fun Q' K hK => ?_
   refine M1 hE 1 fun K' J ρ q1 => ?_; go_simp
   refine Ln hE J fun _ Eb => ?_; clear J K' hE a q1
   refine M1 Eb 11 fun K' J ρ q11 => ?_; go_simp; (try go_bits); (try simp (disch := omega) only [IntWalk.i64_in])
   refine Ln Eb J fun _ Ea => ?_; clear J K' Eb q11
   replace Ea := Ea.turn 12 (v' := .bool false) rfl (by (first | rfl | simp))
   refine Ld [2, 12] Ea hK fun a hE => ?_; clear hK K Q' Ea
   refine Ks ?_
   refine cond_no hE (t := 12) rfl ?_
   refine Ks ?_
   refine Rs 4 fun Q' K hK => ?_
   refine M1 hE 2 fun K' J ρ q2 => ?_; go_simp
   refine Ln hE J fun _ Eb => ?_; clear J K' hE a q2
   refine M1 Eb 13 fun K' J ρ q13 => ?_; go_simp; (try go_bits); (try clear q13)
   go_at_call 42; refine (C3.out _ hM2).mono ?_; rintro e w3 ⟨⟨O, oc, rfl⟩, h3⟩
   (try clear r13)
   refine Ln Eb J fun _ Ea => ?_; clear J K' Eb
   refine M1 Ea 14 fun K' J ρ q14 => ?_; go_simp; (try go_bits)
   refine Ln Ea J fun _ Eb => ?_; clear J K' Ea q14
   refine M1 Eb 15 fun K' J ρ q15 => ?_; go_simp; (try go_bits)
   refine Ln Eb J fun _ Ea => ?_; clear J K' Eb q15
   refine Ld [16] Ea hK fun a hE => ?_; clear hK K Q' Ea
   have hb3 := hb2.trans (h3.mono hb2.size)
   refine Ks ?_
   refine cond_part hE (t := 16) rfl (fun h => ?_) (fun h => ?_)
   ·have hm0 : m = 0 := by have := of_decide_eq_true h; omega
    refine Ks ?_
    refine Rs 1 fun Q' K hK => ?_
    refine M0 fun K' J ρ => ?_; go_simp;
    refine Ln hE J fun _ Eb => ?_; clear J K' hE a
    refine Ld [4] Eb hK fun a hE => ?_; clear hK K Q' Eb
    refine Ks ?_
    exact ret_one hE rfl rfl ⟨by rw [HS.out, if_pos rfl, if_pos hm0], hb3⟩
   ·have hm0 : ¬ m = 0 := by have := of_decide_eq_false h; omega
    refine Ks ?_
    refine Rs 1 fun Q' K hK => ?_
    refine M0 fun K' J ρ => ?_; go_simp;
    refine Ln hE J fun _ Eb => ?_; clear J K' hE a
    refine Ld [4] Eb hK fun a hE => ?_; clear hK K Q' Eb
    refine Ks ?_
    exact ret_one hE rfl rfl ⟨by rw [HS.out, if_pos rfl, if_neg hm0], hb3⟩
end
end Go.Proofs.YtbimkcjdodgojaaGreat
namespace Go.Proofs.YtbimkcjdodgojaaGreat
set_option linter.unusedSimpArgs false
set_option linter.unusedVariables false
open Go Go.RowKit
/-- pairs of lines from k on, below m, each allowed, no second line twice (u: those before) -/
def OkP (cs : List (List Nat)) : Nat → Nat → Prs → Prs → Prop
 | _, _, _, [] => True
 | k, m, u, p :: s => k ≤ p.1 ∧ p.1 < m ∧ p.2 ∈ cs.getD p.1 [] ∧ usedP u p.2 = false ∧ OkP cs (p.1 + 1) m (u ++ [p]) s
theorem OkP.low {cs : List (List Nat)} {k k' m : Nat} {u : Prs} : ∀ {s : Prs}, OkP cs k m u s → k' ≤ k → OkP cs k' m u s
 | [], _, _ => trivial
 | _ :: _, ⟨h1, h2⟩, hk => ⟨by omega, h2⟩
theorem OkP.high {cs : List (List Nat)} {m m' : Nat} (hm : m ≤ m') : ∀ {k : Nat} {u s : Prs}, OkP cs k m u s → OkP cs k m' u s
 | _, _, [], _ => trivial
 | _, _, _ :: _, ⟨h1, h2, h3, h4, h5⟩ => ⟨h1, by omega, h3, h4, h5.high hm⟩
theorem OkP.snoc {cs : List (List Nat)} {m i o : Nat} (hi : i < m) (ho : o ∈ cs.getD i []) : ∀ {k : Nat} {u s : Prs}, k ≤ i → OkP cs k i u s → usedP (u ++ s) o = false → OkP cs k m u (s ++ [(i, o)])
 | k, u, [], hk, _, hu => ⟨hk, hi, ho, by simpa using hu, trivial⟩
 | k, u, p :: s, hk, ⟨h1, h2, h3, h4, h5⟩, hu => ⟨h1, by omega, h3, h4, OkP.snoc hi ho (by omega) h5 (by simpa using hu)⟩
theorem mem_from (n : Nat) (lost : Int) (cs : List (List Nat)) (t : Prs) : ∀ (r k : Nat) (u : Prs), t ∈ fromP n lost cs r k u ↔ ∃ s, t = u ++ s ∧ OkP cs k (k + r) u s ∧ (lostP n t : Int) ≤ lost
 | 0, k, u => by
  unfold fromP
  constructor
  ·intro h
   split at h
   ·rename_i hl
    rw [List.mem_singleton] at h
    subst h
    exact ⟨[], by simp, trivial, hl⟩
   ·cases h
  ·rintro ⟨s, rfl, h, hl⟩
   cases s with
   | nil => rw [List.append_nil] at hl ⊢; rw [if_pos hl]; exact List.mem_singleton.2 rfl
   | cons p s => exact absurd h.1 (by have := h.2.1; omega)
 | r + 1, k, u => by
  unfold fromP
  rw [List.mem_append, List.mem_flatMap]
  constructor
  ·rintro (⟨o, ho, h⟩ | h)
   ·obtain ⟨s, rfl, hs, hl⟩ := (mem_from n lost cs t r (k + 1) _).1 h
    rw [List.mem_filter] at ho
    refine ⟨(k, o) :: s, by simp, ⟨Nat.le_refl _, by omega, ho.1, by simpa using ho.2, ?_⟩, hl⟩
    rw [show k + (r + 1) = k + 1 + r by omega]; exact hs
   ·obtain ⟨s, rfl, hs, hl⟩ := (mem_from n lost cs t r (k + 1) _).1 h
    refine ⟨s, rfl, ?_, hl⟩
    rw [show k + (r + 1) = k + 1 + r by omega]; exact hs.low (by omega)
  ·rintro ⟨s, rfl, h, hl⟩
   rw [show k + (r + 1) = k + 1 + r by omega] at h
   cases s with
   | nil => exact .inr ((mem_from n lost cs _ r (k + 1) _).2 ⟨[], rfl, trivial, hl⟩)
   | cons p s =>
    obtain ⟨h1, h2, h3, h4, h5⟩ := h
    obtain ⟨i, o⟩ := p
    simp only at h1 h2 h3 h4 h5
    by_cases e : i = k
    ·subst e
     refine .inl ⟨o, List.mem_filter.2 ⟨h3, by simp [h4]⟩, (mem_from n lost cs _ r (i + 1) _).2 ⟨s, by simp, h5, hl⟩⟩
    ·exact .inr ((mem_from n lost cs _ r (k + 1) _).2 ⟨(i, o) :: s, rfl, ⟨by simp only; omega, h2, h3, h4, h5⟩, hl⟩)
theorem countP_ne {a : Nat} {P : Nat → Bool} : ∀ {l : List Nat}, l.Nodup → a ∈ l → P a = true → (l.filter fun x => x != a && P x).length + 1 = (l.filter P).length
 | [], _, h, _ => by cases h
 | y :: l, hn, h, hP => by
  rw [List.nodup_cons] at hn
  by_cases e : y = a
  ·subst e
   have h2 : (l.filter fun x => x != y && P x) = l.filter P := by
    apply List.filter_congr
    intro x hx
    have : x ≠ y := fun e => hn.1 (e ▸ hx)
    simp [this]
   simp [hP, h2]
  ·have hm : a ∈ l := by rcases List.mem_cons.1 h with h | h; exact absurd h.symm e; exact h
   have ih := countP_ne hn.2 hm hP
   have e' : (y != a) = true := by simp [e]
   rw [List.filter_cons, List.filter_cons, e', Bool.true_and]
   split <;> (first | simp only [List.length_cons] | skip) <;> omega
/-- what the firsts and the seconds are: apart -/
theorem OkP.firsts {cs : List (List Nat)} : ∀ {k m : Nat} {u s : Prs}, OkP cs k m u s → ∀ p ∈ s, k ≤ p.1 ∧ p.1 < m ∧ p.2 ∈ cs.getD p.1 [] ∧ usedP u p.2 = false
 | _, _, _, [], _, p, hp => by cases hp
 | k, m, u, q :: s, ⟨h1, h2, h3, h4, h5⟩, p, hp => by
  rcases List.mem_cons.1 hp with rfl | hp
  ·exact ⟨h1, h2, h3, h4⟩
  ·obtain ⟨g1, g2, g3, g4⟩ := h5.firsts p hp
   refine ⟨by omega, g2, g3, ?_⟩
   unfold usedP at g4 ⊢
   rw [List.any_append, Bool.or_eq_false_iff] at g4
   exact g4.1
theorem matchP_no : ∀ {s : Prs} {l : Nat}, (∀ p ∈ s, p.1 ≠ l ∧ p.2 ≠ l) → matchP s l = -1
 | [], _, _ => rfl
 | p :: s, l, h => by
  obtain ⟨h1, h2⟩ := h p (List.mem_cons_self ..)
  unfold matchP
  rw [if_neg (fun e => h1 e.symm), if_neg (fun e => h2 e.symm)]
  exact matchP_no fun q hq => h q (List.mem_cons_of_mem _ hq)
/-- allowed pairs: of a line of the one side and one of the other -/
def Sides (n : Nat) (z : Nat → Bool) (cs : List (List Nat)) : Prop := ∀ i o, o ∈ cs.getD i [] → i < n ∧ o < n ∧ z i = true ∧ z o = false
theorem OkP.tail {cs : List (List Nat)} {n : Nat} {z : Nat → Bool} (hc : Sides n z cs) {k m : Nat} {u s : Prs} {p : Nat × Nat} (h : OkP cs k m u (p :: s)) : p.1 ≠ p.2 ∧ ∀ q ∈ s, (q.1 ≠ p.1 ∧ q.2 ≠ p.1) ∧ (q.1 ≠ p.2 ∧ q.2 ≠ p.2) := by
 obtain ⟨h1, h2, h3, h4, h5⟩ := h
 obtain ⟨c1, c2, c3, c4⟩ := hc _ _ h3
 refine ⟨fun e => ?_, fun q hq => ?_⟩
 ·rw [e, c4] at c3; cases c3
 ·obtain ⟨g1, g2, g3, g4⟩ := h5.firsts q hq
  obtain ⟨d1, d2, d3, d4⟩ := hc _ _ g3
  refine ⟨⟨by omega, fun e => ?_⟩, fun e => ?_, fun e => ?_⟩
  ·rw [e, c3] at d4; cases d4
  ·rw [e, c4] at d3; cases d3
  ·unfold usedP at g4
   rw [List.any_append, Bool.or_eq_false_iff] at g4
   simp [e] at g4
theorem lost_ok {cs : List (List Nat)} {n : Nat} {z : Nat → Bool} (hc : Sides n z cs) : ∀ {k m : Nat} {u s : Prs}, OkP cs k m u s → lostP n s + 2 * s.length = n
 | _, _, _, [], _ => by
  have : (List.range n).filter (fun l => matchP [] l == -1) = List.range n := List.filter_eq_self.2 fun x _ => rfl
  simp [lostP, this]
 | k, m, u, p :: s, h => by
  have ht := h.tail hc
  obtain ⟨h1, h2, h3, h4, h5⟩ := h
  obtain ⟨c1, c2, c3, c4⟩ := hc _ _ h3
  have ih := lost_ok hc h5
  have m1 : matchP s p.1 = -1 := matchP_no fun q hq => (ht.2 q hq).1
  have m2 : matchP s p.2 = -1 := matchP_no fun q hq => (ht.2 q hq).2
  have e1 := countP_ne (P := fun l => matchP s l == -1) (a := p.2) (List.nodup_range (n := n)) (List.mem_range.2 c2) (by simp [m2])
  have e2 := countP_ne (P := fun l => l != p.2 && (matchP s l == -1)) (a := p.1) (List.nodup_range (n := n)) (List.mem_range.2 c1) (by simp [m1, ht.1])
  have e3 : lostP n (p :: s) = ((List.range n).filter fun x => x != p.1 && (x != p.2 && (matchP s x == -1))).length := by
   unfold lostP
   congr 1
   apply List.filter_congr
   intro x _
   simp only [matchP]
   by_cases a1 : x = p.1
   ·rw [if_pos a1]; simp [a1]; try omega
   ·rw [if_neg a1]
    by_cases a2 : x = p.2
    ·rw [if_pos a2]; simp [a2]; try omega
    ·rw [if_neg a2, bne_iff_ne.2 a1, bne_iff_ne.2 a2, Bool.true_and, Bool.true_and]
  rw [e3]
  unfold lostP at ih
  rw [List.length_cons]
  omega
/-- what a line is paired with, in allowed pairs -/
theorem match_ok {cs : List (List Nat)} {n : Nat} {z : Nat → Bool} (hc : Sides n z cs) : ∀ {k m : Nat} {u s : Prs}, OkP cs k m u s → ∀ p ∈ s, matchP s p.1 = p.2 ∧ matchP s p.2 = p.1
 | _, _, _, [], _, p, hp => by cases hp
 | k, m, u, q :: s, h, p, hp => by
  have ht := h.tail hc
  rcases List.mem_cons.1 hp with rfl | hp
  ·unfold matchP
   rw [if_pos rfl, if_neg (fun e => ht.1 e.symm), if_pos rfl]
   exact ⟨rfl, rfl⟩
  ·obtain ⟨g1, g2⟩ := match_ok hc h.2.2.2.2 p hp
   obtain ⟨⟨a1, a2⟩, a3, a4⟩ := ht.2 p hp
   unfold matchP
   rw [if_neg a1, if_neg a3, if_neg a2, if_neg a4]
   exact ⟨g1, g2⟩
/-- and a line that is paired is in a pair -/
theorem match_mem : ∀ {s : Prs} {l o : Nat}, matchP s l = o → (l, o) ∈ s ∨ (o, l) ∈ s
 | [], _, _, h => by simp only [matchP] at h; omega
 | p :: s, l, o, h => by
  unfold matchP at h
  split at h
  ·rename_i e
   refine .inl (List.mem_cons.2 (.inl ?_))
   have : o = p.2 := by omega
   rw [e, this]
  ·split at h
   ·rename_i e
    refine .inr (List.mem_cons.2 (.inl ?_))
    have : o = p.1 := by omega
    rw [e, this]
   ·rcases match_mem h with h | h
    ·exact .inl (List.mem_cons_of_mem _ h)
    ·exact .inr (List.mem_cons_of_mem _ h)
theorem mem_ts {cs : List (List Nat)} {n : Nat} {z : Nat → Bool} (hc : Sides n z cs) (lost : Int) (t : Prs) : t ∈ fromP n lost cs n 0 [] ↔ OkP cs 0 n [] t ∧ (n : Int) - 2 * t.length ≤ lost := by
 rw [mem_from]
 constructor
 ·rintro ⟨s, e, h, hl⟩
  rw [List.nil_append] at e
  subst e
  rw [Nat.zero_add] at h
  have := lost_ok hc h
  exact ⟨h, by omega⟩
 ·rintro ⟨h, hl⟩
  have := lost_ok hc h
  exact ⟨t, rfl, by rw [Nat.zero_add]; exact h, by omega⟩
/-- all truths that have a match -/
theorem cnt_all {n : Nat} {ts : List Prs} {i o : Nat} (hi : i < n) : cntP n ts i o = ts.length ↔ ∀ t ∈ ts, matchP t i = o := by
 unfold cntP
 rw [if_pos ⟨by omega, by omega⟩, Int.toNat_natCast]
 constructor
 ·intro h t ht
  have := (List.length_filter_eq_length_iff (l := ts) (p := fun t => matchP t i == (o : Int))).1 (by omega) t ht
  simpa using this
 ·intro h
  rw [List.filter_eq_self.2 fun t ht => by simp [h t ht]]
theorem mem_joinK {p : Nat → Nat → Bool} {cs : List (List Nat)} {m i o : Nat} : (i, o) ∈ joinK p cs m ↔ i < m ∧ o ∈ cs.getD i [] ∧ p i o = true := by
 unfold joinK joinR
 rw [List.mem_flatMap]
 constructor
 ·rintro ⟨k, hk, h⟩
  rw [List.mem_map] at h
  obtain ⟨q, hq, e⟩ := h
  rw [List.mem_filter] at hq
  cases e
  exact ⟨List.mem_range.1 hk, hq.1, hq.2⟩
 ·rintro ⟨h1, h2, h3⟩
  exact ⟨i, List.mem_range.2 h1, List.mem_map.2 ⟨o, List.mem_filter.2 ⟨h2, h3⟩, rfl⟩⟩
theorem kind_two (x n : Int) : (kindP x n == 2) = decide (x = n) := by
 unfold kindP
 by_cases h : x = n
 ·rw [if_pos h]; simp [h]
 ·rw [if_neg h]; split <;> simp [h]
/-- what is joined -/
theorem join_law {cs : List (List Nat)} {n : Nat} {z : Nat → Bool} (hc : Sides n z cs) (ts : List Prs) (i o : Nat) : (i, o) ∈ joinK (fun i o => kindP (cntP n ts i o) ts.length == 2) cs 9 ↔ i < 9 ∧ o ∈ cs.getD i [] ∧ ∀ t ∈ ts, matchP t i = o := by
 rw [mem_joinK]
 constructor
 ·rintro ⟨h1, h2, h3⟩
  rw [kind_two, decide_eq_true_eq] at h3
  exact ⟨h1, h2, (cnt_all (hc i o h2).1).1 h3⟩
 ·rintro ⟨h1, h2, h3⟩
  refine ⟨h1, h2, ?_⟩
  rw [kind_two, decide_eq_true_eq]
  exact (cnt_all (hc i o h2).1).2 h3
theorem minL_le : ∀ (l : List Int) (x : Int), minL x l ≤ x ∧ (∀ y ∈ l, minL x l ≤ y) ∧ (minL x l = x ∨ minL x l ∈ l)
 | [], x => ⟨Int.le_refl _, (fun _ h => absurd h (List.not_mem_nil)), .inl rfl⟩
 | y :: l, x => by
  obtain ⟨h1, h2, h3⟩ := minL_le l (min x y)
  have e : minL x (y :: l) = minL (min x y) l := rfl
  rw [e]
  refine ⟨by omega, fun u hu => ?_, ?_⟩
  ·rcases List.mem_cons.1 hu with rfl | hu
   ·omega
   ·exact h2 u hu
  ·rcases h3 with h3 | h3
   ·rw [h3]
    by_cases hxy : x ≤ y
    ·exact .inl (by omega)
    ·exact .inr (List.mem_cons.2 (.inl (by omega)))
   ·exact .inr (List.mem_cons_of_mem _ h3)
theorem maxL_ge : ∀ (l : List Int) (x : Int), x ≤ maxL x l ∧ (∀ y ∈ l, y ≤ maxL x l) ∧ (maxL x l = x ∨ maxL x l ∈ l)
 | [], x => ⟨Int.le_refl _, (fun _ h => absurd h (List.not_mem_nil)), .inl rfl⟩
 | y :: l, x => by
  obtain ⟨h1, h2, h3⟩ := maxL_ge l (max x y)
  have e : maxL x (y :: l) = maxL (max x y) l := rfl
  rw [e]
  refine ⟨by omega, fun u hu => ?_, ?_⟩
  ·rcases List.mem_cons.1 hu with rfl | hu
   ·omega
   ·exact h2 u hu
  ·rcases h3 with h3 | h3
   ·rw [h3]
    by_cases hxy : y ≤ x
    ·exact .inl (by omega)
    ·exact .inr (List.mem_cons.2 (.inl (by omega)))
   ·exact .inr (List.mem_cons_of_mem _ h3)
/-- between what numbers lie -/
theorem ends_law {l : List Int} (h : l ≠ []) : (∀ y ∈ l, minL (l.headD 0) l.tail ≤ y ∧ y ≤ maxL (l.headD 0) l.tail) ∧ minL (l.headD 0) l.tail ∈ l ∧ maxL (l.headD 0) l.tail ∈ l := by
 cases l with
 | nil => exact absurd rfl h
 | cons x l =>
  obtain ⟨a1, a2, a3⟩ := minL_le l x
  obtain ⟨b1, b2, b3⟩ := maxL_ge l x
  simp only [List.headD_cons, List.tail_cons]
  refine ⟨fun y hy => ?_, ?_, ?_⟩
  ·rcases List.mem_cons.1 hy with rfl | hy
   ·exact ⟨a1, b1⟩
   ·exact ⟨a2 y hy, b2 y hy⟩
  ·rcases a3 with a3 | a3
   ·rw [a3]; exact List.mem_cons_self ..
   ·exact List.mem_cons_of_mem _ a3
  ·rcases b3 with b3 | b3
   ·rw [b3]; exact List.mem_cons_self ..
   ·exact List.mem_cons_of_mem _ b3
theorem coulds_at (b : Bk) (i : Nat) : (couldsP b).getD i [] = if i < b.lines.length then couldP b i else [] := by
 unfold couldsP
 rw [List.getD_eq_getElem?_getD, List.getElem?_map]
 by_cases h : i < b.lines.length
 ·rw [if_pos h]; simp [h]
 ·rw [if_neg h]; simp [h]
/-- is a line of the first book? -/
def zB (b : Bk) (i : Nat) : Bool := (b.lines.getD i zeroLn).book == 0
theorem mem_coulds (b : Bk) (i o : Nat) : o ∈ (couldsP b).getD i [] ↔ i < b.lines.length ∧ o < b.lines.length ∧ zB b i = true ∧ canL b (b.lines.getD i zeroLn) (b.lines.getD o zeroLn) = true := by
 rw [coulds_at]
 by_cases h : i < b.lines.length
 ·rw [if_pos h]
  unfold couldP
  rw [List.mem_filter, List.mem_range, Bool.and_eq_true]
  exact ⟨fun ⟨h1, h2, h3⟩ => ⟨h, h1, h2, h3⟩, fun ⟨_, h1, h2, h3⟩ => ⟨h1, h2, h3⟩⟩
 ·rw [if_neg h]
  exact ⟨fun h' => absurd h' List.not_mem_nil, fun h' => absurd h'.1 h⟩
theorem sides_bk (b : Bk) : Sides b.lines.length (zB b) (couldsP b) := fun i o h => by
 obtain ⟨h1, h2, h3, h4⟩ := (mem_coulds b i o).1 h
 refine ⟨h1, h2, h3, ?_⟩
 unfold canL at h4
 rw [Bool.and_eq_true] at h4
 have h5 := h4.1
 unfold zB at h3 ⊢
 rw [beq_iff_eq] at h3
 rw [h3] at h5
 rw [Bool.not_eq_true', beq_eq_false_iff_ne] at h5
 rw [beq_eq_false_iff_ne]
 exact fun e => h5 e.symm
end Go.Proofs.YtbimkcjdodgojaaGreat
