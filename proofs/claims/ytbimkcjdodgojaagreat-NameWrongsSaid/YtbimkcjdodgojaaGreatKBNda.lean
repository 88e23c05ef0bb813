/- Name: the truths as the reference lists them: the same as the program's, in another order. -/
import Derived.Test.YtbimkcjdodgojaaGreatKBNbd
import Derived.Test.YtbimkcjdodgojaaGreatKBJ
import Derived.Test.YtbimkcjdodgojaaGreatKBNcl

namespace Go.Proofs.YtbimkcjdodgojaaGreat
set_option linter.unusedSimpArgs false
set_option linter.unusedVariables false
open Go Go.RowKit
/-- pairs of lines from k on, below m, each allowed, no second line twice (u: those before) -/
def OkP (cs : List (List Nat)) : Nat → Nat → Prs → Prs → Prop
 | _, _, _, [] => True
 | k, m, u, p :: s => k ≤ p.1 ∧ p.1 < m ∧ p.2 ∈ cs.getD p.1 [] ∧ usedP u p.2 = false ∧ OkP cs (p.1 + 1) m (u ++ [p]) s
theorem OkP.low {cs : List (List Nat)} {k k' m : Nat} {u : Prs} : ∀ {s : Prs}, OkP cs k m u s → k' ≤ k → OkP cs k' m u s
 | [], _, _ => trivial
 | _ :: _, ⟨h1, h2⟩, hk => ⟨by omega, h2⟩
theorem OkP.high {cs : List (List Nat)} {m m' : Nat} (hm : m ≤ m') : ∀ {k : Nat} {u s : Prs}, OkP cs k m u s → OkP cs k m' u s
 | _, _, [], _ => trivial
 | _, _, _ :: _, ⟨h1, h2, h3, h4, h5⟩ => ⟨h1, by omega, h3, h4, h5.high hm⟩
theorem OkP.snoc {cs : List (List Nat)} {m i o : Nat} (hi : i < m) (ho : o ∈ cs.getD i []) : ∀ {k : Nat} {u s : Prs}, k ≤ i → OkP cs k i u s → usedP (u ++ s) o = false → OkP cs k m u (s ++ [(i, o)])
 | k, u, [], hk, _, hu => ⟨hk, hi, ho, by simpa using hu, trivial⟩
 | k, u, p :: s, hk, ⟨h1, h2, h3, h4, h5⟩, hu => ⟨h1, by omega, h3, h4, OkP.snoc hi ho (by omega) h5 (by simpa using hu)⟩
theorem mem_from (n : Nat) (lost : Int) (cs : List (List Nat)) (t : Prs) : ∀ (r k : Nat) (u : Prs), t ∈ fromP n lost cs r k u ↔ ∃ s, t = u ++ s ∧ OkP cs k (k + r) u s ∧ (lostP n t : Int) ≤ lost
 | 0, k, u => by
  unfold fromP
  constructor
  ·intro h
   split at h
   ·rename_i hl
    rw [List.mem_singleton] at h
    subst h
    exact ⟨[], by simp, trivial, hl⟩
   ·cases h
  ·rintro ⟨s, rfl, h, hl⟩
   cases s with
   | nil => rw [List.append_nil] at hl ⊢; rw [if_pos hl]; exact List.mem_singleton.2 rfl
   | cons p s => exact absurd h.1 (by have := h.2.1; omega)
 | r + 1, k, u => by
  unfold fromP
  rw [List.mem_append, List.mem_flatMap]
  constructor
  ·rintro (⟨o, ho, h⟩ | h)
   ·obtain ⟨s, rfl, hs, hl⟩ := (mem_from n lost cs t r (k + 1) _).1 h
    rw [List.mem_filter] at ho
    refine ⟨(k, o) :: s, by simp, ⟨Nat.le_refl _, by omega, ho.1, by simpa using ho.2, ?_⟩, hl⟩
    rw [show k + (r + 1) = k + 1 + r by omega]; exact hs
   ·obtain ⟨s, rfl, hs, hl⟩ := (mem_from n lost cs t r (k + 1) _).1 h
    refine ⟨s, rfl, ?_, hl⟩
    rw [show k + (r + 1) = k + 1 + r by omega]; exact hs.low (by omega)
  ·rintro ⟨s, rfl, h, hl⟩
   rw [show k + (r + 1) = k + 1 + r by omega] at h
   cases s with
   | nil => exact .inr ((mem_from n lost cs _ r (k + 1) _).2 ⟨[], rfl, trivial, hl⟩)
   | cons p s =>
    obtain ⟨h1, h2, h3, h4, h5⟩ := h
    obtain ⟨i, o⟩ := p
    simp only at h1 h2 h3 h4 h5
    by_cases e : i = k
    ·subst e
     refine .inl ⟨o, List.mem_filter.2 ⟨h3, by simp [h4]⟩, (mem_from n lost cs _ r (i + 1) _).2 ⟨s, by simp, h5, hl⟩⟩
    ·exact .inr ((mem_from n lost cs _ r (k + 1) _).2 ⟨(i, o) :: s, rfl, ⟨by simp only; omega, h2, h3, h4, h5⟩, hl⟩)
theorem countP_ne {a : Nat} {P : Nat → Bool} : ∀ {l : List Nat}, l.Nodup → a ∈ l → P a = true → (l.filter fun x => x != a && P x).length + 1 = (l.filter P).length
 | [], _, h, _ => by cases h
 | y :: l, hn, h, hP => by
  rw [List.nodup_cons] at hn
  by_cases e : y = a
  ·subst e
   have h2 : (l.filter fun x => x != y && P x) = l.filter P := by
    apply List.filter_congr
    intro x hx
    have : x ≠ y := fun e => hn.1 (e ▸ hx)
    simp [this]
   simp [hP, h2]
  ·have hm : a ∈ l := by rcases List.mem_cons.1 h with h | h; exact absurd h.symm e; exact h
   have ih := countP_ne hn.2 hm hP
   have e' : (y != a) = true := by simp [e]
   rw [List.filter_cons, List.filter_cons, e', Bool.true_and]
   split <;> (first | simp only [List.length_cons] | skip) <;> omega
/-- what the firsts and the seconds are: apart -/
theorem OkP.firsts {cs : List (List Nat)} : ∀ {k m : Nat} {u s : Prs}, OkP cs k m u s → ∀ p ∈ s, k ≤ p.1 ∧ p.1 < m ∧ p.2 ∈ cs.getD p.1 [] ∧ usedP u p.2 = false
 | _, _, _, [], _, p, hp => by cases hp
 | k, m, u, q :: s, ⟨h1, h2, h3, h4, h5⟩, p, hp => by
  rcases List.mem_cons.1 hp with rfl | hp
  ·exact ⟨h1, h2, h3, h4⟩
  ·obtain ⟨g1, g2, g3, g4⟩ := h5.firsts p hp
   refine ⟨by omega, g2, g3, ?_⟩
   unfold usedP at g4 ⊢
   rw [List.any_append, Bool.or_eq_false_iff] at g4
   exact g4.1
theorem matchP_no : ∀ {s : Prs} {l : Nat}, (∀ p ∈ s, p.1 ≠ l ∧ p.2 ≠ l) → matchP s l = -1
 | [], _, _ => rfl
 | p :: s, l, h => by
  obtain ⟨h1, h2⟩ := h p (List.mem_cons_self ..)
  unfold matchP
  rw [if_neg (fun e => h1 e.symm), if_neg (fun e => h2 e.symm)]
  exact matchP_no fun q hq => h q (List.mem_cons_of_mem _ hq)
/-- allowed pairs: of a line of the one side and one of the other -/
def Sides (n : Nat) (z : Nat → Bool) (cs : List (List Nat)) : Prop := ∀ i o, o ∈ cs.getD i [] → i < n ∧ o < n ∧ z i = true ∧ z o = false
theorem OkP.tail {cs : List (List Nat)} {n : Nat} {z : Nat → Bool} (hc : Sides n z cs) {k m : Nat} {u s : Prs} {p : Nat × Nat} (h : OkP cs k m u (p :: s)) : p.1 ≠ p.2 ∧ ∀ q ∈ s, (q.1 ≠ p.1 ∧ q.2 ≠ p.1) ∧ (q.1 ≠ p.2 ∧ q.2 ≠ p.2) := by
 obtain ⟨h1, h2, h3, h4, h5⟩ := h
 obtain ⟨c1, c2, c3, c4⟩ := hc _ _ h3
 refine ⟨fun e => ?_, fun q hq => ?_⟩
 ·rw [e, c4] at c3; cases c3
 ·obtain ⟨g1, g2, g3, g4⟩ := h5.firsts q hq
  obtain ⟨d1, d2, d3, d4⟩ := hc _ _ g3
  refine ⟨⟨by omega, fun e => ?_⟩, fun e => ?_, fun e => ?_⟩
  ·rw [e, c3] at d4; cases d4
  ·rw [e, c4] at d3; cases d3
  ·unfold usedP at g4
   rw [List.any_append, Bool.or_eq_false_iff] at g4
   simp [e] at g4
theorem lost_ok {cs : List (List Nat)} {n : Nat} {z : Nat → Bool} (hc : Sides n z cs) : ∀ {k m : Nat} {u s : Prs}, OkP cs k m u s → lostP n s + 2 * s.length = n
 | _, _, _, [], _ => by
  have : (List.range n).filter (fun l => matchP [] l == -1) = List.range n := List.filter_eq_self.2 fun x _ => rfl
  simp [lostP, this]
 | k, m, u, p :: s, h => by
  have ht := h.tail hc
  obtain ⟨h1, h2, h3, h4, h5⟩ := h
  obtain ⟨c1, c2, c3, c4⟩ := hc _ _ h3
  have ih := lost_ok hc h5
  have m1 : matchP s p.1 = -1 := matchP_no fun q hq => (ht.2 q hq).1
  have m2 : matchP s p.2 = -1 := matchP_no fun q hq => (ht.2 q hq).2
  have e1 := countP_ne (P := fun l => matchP s l == -1) (a := p.2) (List.nodup_range (n := n)) (List.mem_range.2 c2) (by simp [m2])
  have e2 := countP_ne (P := fun l => l != p.2 && (matchP s l == -1)) (a := p.1) (List.nodup_range (n := n)) (List.mem_range.2 c1) (by simp [m1, ht.1])
  have e3 : lostP n (p :: s) = ((List.range n).filter fun x => x != p.1 && (x != p.2 && (matchP s x == -1))).length := by
   unfold lostP
   congr 1
   apply List.filter_congr
   intro x _
   simp only [matchP]
   by_cases a1 : x = p.1
   ·rw [if_pos a1]; simp [a1]; try omega
   ·rw [if_neg a1]
    by_cases a2 : x = p.2
    ·rw [if_pos a2]; simp [a2]; try omega
    ·rw [if_neg a2, bne_iff_ne.2 a1, bne_iff_ne.2 a2, Bool.true_and, Bool.true_and]
  rw [e3]
  unfold lostP at ih
  rw [List.length_cons]
  omega
/-- what a line is paired with, in allowed pairs -/
theorem match_ok {cs : List (List Nat)} {n : Nat} {z : Nat → Bool} (hc : Sides n z cs) : ∀ {k m : Nat} {u s : Prs}, OkP cs k m u s → ∀ p ∈ s, matchP s p.1 = p.2 ∧ matchP s p.2 = p.1
 | _, _, _, [], _, p, hp => by cases hp
 | k, m, u, q :: s, h, p, hp => by
  have ht := h.tail hc
  rcases List.mem_cons.1 hp with rfl | hp
  ·unfold matchP
   rw [if_pos rfl, if_neg (fun e => ht.1 e.symm), if_pos rfl]
   exact ⟨rfl, rfl⟩
  ·obtain ⟨g1, g2⟩ := match_ok hc h.2.2.2.2 p hp
   obtain ⟨⟨a1, a2⟩, a3, a4⟩ := ht.2 p hp
   unfold matchP
   rw [if_neg a1, if_neg a3, if_neg a2, if_neg a4]
   exact ⟨g1, g2⟩
/-- and a line that is paired is in a pair -/
theorem match_mem : ∀ {s : Prs} {l o : Nat}, matchP s l = o → (l, o) ∈ s ∨ (o, l) ∈ s
 | [], _, _, h => by simp only [matchP] at h; omega
 | p :: s, l, o, h => by
  unfold matchP at h
  split at h
  ·rename_i e
   refine .inl (List.mem_cons.2 (.inl ?_))
   have : o = p.2 := by omega
   rw [e, this]
  ·split at h
   ·rename_i e
    refine .inr (List.mem_cons.2 (.inl ?_))
    have : o = p.1 := by omega
    rw [e, this]
   ·rcases match_mem h with h | h
    ·exact .inl (List.mem_cons_of_mem _ h)
    ·exact .inr (List.mem_cons_of_mem _ h)
theorem mem_ts {cs : List (List Nat)} {n : Nat} {z : Nat → Bool} (hc : Sides n z cs) (lost : Int) (t : Prs) : t ∈ fromP n lost cs n 0 [] ↔ OkP cs 0 n [] t ∧ (n : Int) - 2 * t.length ≤ lost := by
 rw [mem_from]
 constructor
 ·rintro ⟨s, e, h, hl⟩
  rw [List.nil_append] at e
  subst e
  rw [Nat.zero_add] at h
  have := lost_ok hc h
  exact ⟨h, by omega⟩
 ·rintro ⟨h, hl⟩
  have := lost_ok hc h
  exact ⟨t, rfl, by rw [Nat.zero_add]; exact h, by omega⟩
theorem coulds_at (b : Bk) (i : Nat) : (couldsP b).getD i [] = if i < b.lines.length then couldP b i else [] := by
 unfold couldsP
 rw [List.getD_eq_getElem?_getD, List.getElem?_map]
 by_cases h : i < b.lines.length
 ·rw [if_pos h]; simp [h]
 ·rw [if_neg h]; simp [h]
/-- is a line of the first book? -/
def zB (b : Bk) (i : Nat) : Bool := (b.lines.getD i zeroLn).book == 0
theorem mem_coulds (b : Bk) (i o : Nat) : o ∈ (couldsP b).getD i [] ↔ i < b.lines.length ∧ o < b.lines.length ∧ zB b i = true ∧ canL b (b.lines.getD i zeroLn) (b.lines.getD o zeroLn) = true := by
 rw [coulds_at]
 by_cases h : i < b.lines.length
 ·rw [if_pos h]
  unfold couldP
  rw [List.mem_filter, List.mem_range, Bool.and_eq_true]
  exact ⟨fun ⟨h1, h2, h3⟩ => ⟨h, h1, h2, h3⟩, fun ⟨_, h1, h2, h3⟩ => ⟨h1, h2, h3⟩⟩
 ·rw [if_neg h]
  exact ⟨fun h' => absurd h' List.not_mem_nil, fun h' => absurd h'.1 h⟩
theorem sides_bk (b : Bk) : Sides b.lines.length (zB b) (couldsP b) := fun i o h => by
 obtain ⟨h1, h2, h3, h4⟩ := (mem_coulds b i o).1 h
 refine ⟨h1, h2, h3, ?_⟩
 unfold canL at h4
 rw [Bool.and_eq_true] at h4
 have h5 := h4.1
 unfold zB at h3 ⊢
 rw [beq_iff_eq] at h3
 rw [h3] at h5
 rw [Bool.not_eq_true', beq_eq_false_iff_ne] at h5
 rw [beq_eq_false_iff_ne]
 exact fun e => h5 e.symm
end Go.Proofs.YtbimkcjdodgojaaGreat
namespace Go.Proofs.YtbimkcjdodgojaaGreat
set_option linter.unusedSimpArgs false
set_option linter.unusedVariables false
open Go Go.RowKit
theorem OkP.len {cs : List (List Nat)} : ∀ {k m : Nat} {u s : Prs}, OkP cs k m u s → k + s.length ≤ m ∨ s = []
 | _, _, _, [], _ => .inr rfl
 | k, m, u, p :: s, ⟨h1, h2, _, _, h5⟩ => .inl (by
  rcases h5.len with h | h
  ·simp only [List.length_cons]; omega
  ·subst h; simp only [List.length_singleton]; omega)
end Go.Proofs.YtbimkcjdodgojaaGreat
namespace Go.Proofs.YtbimkcjdodgojaaGreat
set_option linter.unusedSimpArgs false
set_option linter.unusedVariables false
open Go Go.RowKit
/-- strictly increasing firsts, no second twice, each pair allowed -/
def Good (cs : List (List Nat)) (k m : Nat) (t : Prs) : Prop := (t.map (·.1)).Pairwise (· < ·) ∧ (t.map (·.2)).Nodup ∧ ∀ p ∈ t, k ≤ p.1 ∧ p.1 < m ∧ p.2 ∈ cs.getD p.1 []
theorem okP_good {cs : List (List Nat)} {m : Nat} : ∀ {k : Nat} {u t : Prs}, OkP cs k m u t ↔ Good cs k m t ∧ ∀ p ∈ t, usedP u p.2 = false
 | k, u, [] => ⟨fun _ => ⟨⟨List.Pairwise.nil, List.nodup_nil, fun _ h => absurd h List.not_mem_nil⟩, fun _ h => absurd h List.not_mem_nil⟩, fun _ => trivial⟩
 | k, u, p :: s => by
  constructor
  ·rintro ⟨h1, h2, h3, h4, h5⟩
   obtain ⟨⟨g1, g2, g3⟩, g4⟩ := okP_good.1 h5
   refine ⟨⟨?_, ?_, fun q hq => ?_⟩, fun q hq => ?_⟩
   ·rw [List.map_cons, List.pairwise_cons]
    refine ⟨fun x hx => ?_, g1⟩
    obtain ⟨q, hq, rfl⟩ := List.mem_map.1 hx
    have := (g3 q hq).1
    omega
   ·rw [List.map_cons, List.nodup_cons]
    refine ⟨fun hx => ?_, g2⟩
    obtain ⟨q, hq, e⟩ := List.mem_map.1 hx
    have := g4 q hq
    unfold usedP at this
    rw [List.any_append, Bool.or_eq_false_iff] at this
    simp [e] at this
   ·rcases List.mem_cons.1 hq with rfl | hq
    ·exact ⟨h1, h2, h3⟩
    ·obtain ⟨a, b, c⟩ := g3 q hq
     exact ⟨by omega, b, c⟩
   ·rcases List.mem_cons.1 hq with rfl | hq
    ·exact h4
    ·have := g4 q hq
     unfold usedP at this ⊢
     rw [List.any_append, Bool.or_eq_false_iff] at this
     exact this.1
  ·rintro ⟨⟨g1, g2, g3⟩, g4⟩
   rw [List.map_cons, List.pairwise_cons] at g1
   rw [List.map_cons, List.nodup_cons] at g2
   obtain ⟨a, b, c⟩ := g3 p (List.mem_cons_self ..)
   refine ⟨a, b, c, g4 p (List.mem_cons_self ..), okP_good.2 ⟨⟨g1.2, g2.2, fun q hq => ?_⟩, fun q hq => ?_⟩⟩
   ·obtain ⟨_, d, e⟩ := g3 q (List.mem_cons_of_mem _ hq)
    exact ⟨g1.1 _ (List.mem_map_of_mem (f := (·.1)) hq), d, e⟩
   ·unfold usedP
    rw [List.any_append, Bool.or_eq_false_iff]
    refine ⟨g4 q (List.mem_cons_of_mem _ hq), ?_⟩
    have hne : ¬ p.2 = q.2 := fun e => g2.1 (e ▸ List.mem_map_of_mem (f := (·.2)) hq)
    simp [hne]
theorem ok_good {cs : List (List Nat)} {m : Nat} {t : Prs} : OkP cs 0 m [] t ↔ Good cs 0 m t := by
 rw [okP_good]
 exact ⟨fun h => h.1, fun h => ⟨h, fun _ _ => rfl⟩⟩
theorem mem_tsG (b : Bk) (t : Prs) : t ∈ b.ts ↔ Good (couldsP b) 0 b.lines.length t ∧ (b.lines.length : Int) - 2 * t.length ≤ b.lost := by
 unfold Bk.ts
 rw [mem_ts (sides_bk b), ok_good]
theorem good_below {b : Bk} {t : Prs} (h : Good (couldsP b) 0 b.lines.length t) : ∀ p ∈ t, p.1 < b.lines.length ∧ p.2 < b.lines.length := fun p hp => by
 obtain ⟨_, a, c⟩ := h.2.2 p hp
 exact ⟨a, ((mem_coulds _ _ _).1 c).2.1⟩
theorem cnt_eq {n : Nat} {ts : List Prs} {i : Nat} (hi : i < n) (o : Int) : cntP n ts i o = ((ts.filter fun t => matchP t i == o).length : Int) := by
 unfold cntP
 rw [if_pos ⟨by omega, by omega⟩, Int.toNat_natCast]
theorem match_below {b : Bk} {t : Prs} (ht : t ∈ b.ts) (i : Nat) : matchP t i < b.lines.length := by
 rcases matchP_nat t i with h | h
 ·omega
 ·obtain ⟨o, e⟩ : ∃ o : Nat, matchP t i = o := ⟨(matchP t i).toNat, by omega⟩
  have hb := good_below ((mem_tsG b t).1 ht).1
  rcases match_mem e with h | h
  ·have := (hb _ h).2; simp only at this; omega
  ·have := (hb _ h).1; simp only at this; omega
/-- the greatest of the first counts -/
def MaxTo (c : Int → Int) (k : Nat) (r : Int) : Prop := 0 ≤ r ∧ (r = 0 ∨ ∃ j : Nat, j < k ∧ r = c j) ∧ ∀ j : Nat, j < k → c j ≤ r
theorem MaxTo.zero (c : Int → Int) : MaxTo c 0 0 := ⟨Int.le_refl _, .inl rfl, fun j h => by omega⟩
theorem MaxTo.succ {c : Int → Int} {k : Nat} {r : Int} (h : MaxTo c k r) : MaxTo c (k + 1) (max r (c k)) := by
 obtain ⟨h1, h2, h3⟩ := h
 refine ⟨by omega, ?_, fun j hj => ?_⟩
 ·by_cases e : c k ≤ r
  ·rw [Int.max_eq_left e]
   rcases h2 with h2 | ⟨j, hj, e2⟩
   ·exact .inl h2
   ·exact .inr ⟨j, by omega, e2⟩
  ·exact .inr ⟨k, by omega, by omega⟩
 ·by_cases e : j = k
  ·subst e; omega
  ·have := h3 j (by omega); omega
theorem MaxTo.skip {c : Int → Int} {k : Nat} {r : Int} (h : MaxTo c k r) (h0 : c k = 0) : MaxTo c (k + 1) r := by
 have := h.succ
 rw [h0, Int.max_eq_left h.1] at this
 exact this
end Go.Proofs.YtbimkcjdodgojaaGreat
namespace Go.Proofs.YtbimkcjdodgojaaGreat
set_option linter.unusedSimpArgs false
set_option linter.unusedVariables false
open Go Go.RowKit
attribute [local go_sem high] cell_set_wr
attribute [local go_sem low] cell_wr frozen_wr
attribute [local go_sem] wr_set wr_drew wr_drewN wr_alloc wr_new Rho.c Rho.n Rho.g
/-- the truths that begin with the pairs t, of the lines from k on, of which there are r, as the reference lists them -/
def fromR (n : Nat) (lost : Int) (cs : List (List Nat)) : Nat → Nat → Prs → List Prs
 | 0, _, t => if (n : Int) - 2 * t.length ≤ lost then [t] else []
 | r + 1, k, t => fromR n lost cs r (k + 1) t ++ ((cs.getD k []).filter fun o => decide (matchP t o < 0)).flatMap fun o => fromR n lost cs r (k + 1) (t ++ [(k, o)])
def truthsR (b : Bk) : List Prs := fromR b.lines.length b.lost (couldsP b) b.lines.length 0 []
theorem used_match {cs : List (List Nat)} {n : Nat} {z : Nat → Bool} (hc : Sides n z cs) {k : Nat} {u : Prs} (h : OkP cs 0 k [] u) {o : Nat} (ho : o ∈ cs.getD k []) : decide (matchP u o < 0) = !usedP u o := by
 have hz := hc k o ho
 cases hu : usedP u o
 ·have h1 : matchP u o = -1 := matchP_no fun p hp => by
   have h2 := h.firsts p hp
   have h3 := hc p.1 p.2 h2.2.2.1
   refine ⟨fun e => ?_, fun e => ?_⟩
   ·rw [e] at h3
    rw [hz.2.2.2] at h3
    exact absurd h3.2.2.1 (by decide)
   ·have : usedP u o = true := by
     unfold usedP
     exact List.any_eq_true.2 ⟨p, hp, by rw [e]; simp⟩
    rw [hu] at this
    exact absurd this (by decide)
  rw [h1]
  rfl
 ·unfold usedP at hu
  obtain ⟨p, hp, he⟩ := List.any_eq_true.1 hu
  have e : p.2 = o := by simpa using he
  have h1 := (match_ok hc h p hp).2
  rw [e] at h1
  rw [h1]
  simp
theorem perm_from {cs : List (List Nat)} {n : Nat} {z : Nat → Bool} (hc : Sides n z cs) (lost : Int) : ∀ (r k : Nat) (u : Prs), OkP cs 0 k [] u → (fromR n lost cs r k u).Perm (fromP n lost cs r k u) := by
 intro r
 induction r with
 | zero =>
  intro k u h
  have h1 := lost_ok hc h
  unfold fromR fromP
  by_cases h2 : (n : Int) - 2 * u.length ≤ lost
  ·rw [if_pos h2, if_pos (by omega)]
  ·rw [if_neg h2, if_neg (by omega)]
 | succ r ih =>
  intro k u h
  unfold fromR fromP
  refine List.perm_append_comm.trans (List.Perm.append ?_ (ih _ _ (h.high (Nat.le_succ k))))
  have e : (cs.getD k []).filter (fun o => decide (matchP u o < 0)) = (cs.getD k []).filter fun o => !usedP u o := List.filter_congr fun o ho => used_match hc h ho
  rw [e]
  have key : ∀ l : List Nat, (∀ o ∈ l, o ∈ cs.getD k [] ∧ usedP u o = false) → (l.flatMap fun o => fromR n lost cs r (k + 1) (u ++ [(k, o)])).Perm (l.flatMap fun o => fromP n lost cs r (k + 1) (u ++ [(k, o)])) := by
   intro l
   induction l with
   | nil => intro _; exact List.Perm.refl _
   | cons o l ihl =>
    intro hl
    obtain ⟨h1, h2⟩ := hl o (List.mem_cons_self ..)
    rw [List.flatMap_cons, List.flatMap_cons]
    exact List.Perm.append (ih _ _ (OkP.snoc (Nat.lt_succ_self k) h1 (Nat.zero_le _) h (by simpa using h2))) (ihl fun x hx => hl x (List.mem_cons_of_mem _ hx))
  exact key _ fun o ho => by
   have := List.mem_filter.1 ho
   exact ⟨this.1, by simpa using this.2⟩
theorem perm_truths (b : Bk) : (truthsR b).Perm b.ts := perm_from (sides_bk b) b.lost b.lines.length 0 [] trivial
theorem truthsR_len (b : Bk) : (truthsR b).length = b.ts.length := (perm_truths b).length_eq
theorem mem_truthsR (b : Bk) (t : Prs) : t ∈ truthsR b ↔ t ∈ b.ts := (perm_truths b).mem_iff
theorem truthsR_cnt (b : Bk) (f : Prs → Bool) : ((truthsR b).filter f).length = (b.ts.filter f).length := ((perm_truths b).filter f).length_eq
end Go.Proofs.YtbimkcjdodgojaaGreat
