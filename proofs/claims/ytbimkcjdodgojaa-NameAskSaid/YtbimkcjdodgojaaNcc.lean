/- Name: which lists of pairs are truths; what is joined, and how many people there are. -/
import Derived.Test.YtbimkcjdodgojaaNbd
namespace Go.Proofs.Ytbimkcjdodgojaa
set_option linter.unusedSimpArgs false
set_option linter.unusedVariables false
open Go Go.RowKit

/-- pairs of lines from k on, below m, each allowed, no second line twice (u: those before) -/
def OkP (cs : List (List Nat)) : Nat → Nat → Prs → Prs → Prop
 | _, _, _, [] => True
 | k, m, u, p :: s => k ≤ p.1 ∧ p.1 < m ∧ p.2 ∈ cs.getD p.1 [] ∧ usedP u p.2 = false ∧ OkP cs (p.1 + 1) m (u ++ [p]) s
theorem OkP.low {cs : List (List Nat)} {k k' m : Nat} {u : Prs} : ∀ {s : Prs}, OkP cs k m u s → k' ≤ k → OkP cs k' m u s
 | [], _, _ => trivial
 | _ :: _, ⟨h1, h2⟩, hk => ⟨by omega, h2⟩
theorem OkP.high {cs : List (List Nat)} {m m' : Nat} (hm : m ≤ m') : ∀ {k : Nat} {u s : Prs}, OkP cs k m u s → OkP cs k m' u s
 | _, _, [], _ => trivial
 | _, _, _ :: _, ⟨h1, h2, h3, h4, h5⟩ => ⟨h1, by omega, h3, h4, h5.high hm⟩
theorem OkP.snoc {cs : List (List Nat)} {m i o : Nat} (hi : i < m) (ho : o ∈ cs.getD i []) : ∀ {k : Nat} {u s : Prs}, k ≤ i → OkP cs k i u s → usedP (u ++ s) o = false → OkP cs k m u (s ++ [(i, o)])
 | k, u, [], hk, _, hu => ⟨hk, hi, ho, by simpa using hu, trivial⟩
 | k, u, p :: s, hk, ⟨h1, h2, h3, h4, h5⟩, hu => ⟨h1, by omega, h3, h4, OkP.snoc hi ho (by omega) h5 (by simpa using hu)⟩
theorem mem_from (n : Nat) (lost : Int) (cs : List (List Nat)) (t : Prs) : ∀ (r k : Nat) (u : Prs), t ∈ fromP n lost cs r k u ↔ ∃ s, t = u ++ s ∧ OkP cs k (k + r) u s ∧ (lostP n t : Int) ≤ lost
 | 0, k, u => by
  unfold fromP
  constructor
  ·intro h
   split at h
   ·rename_i hl
    rw [List.mem_singleton] at h
    subst h
    exact ⟨[], by simp, trivial, hl⟩
   ·cases h
  ·rintro ⟨s, rfl, h, hl⟩
   cases s with
   | nil => rw [List.append_nil] at hl ⊢; rw [if_pos hl]; exact List.mem_singleton.2 rfl
   | cons p s => exact absurd h.1 (by have := h.2.1; omega)
 | r + 1, k, u => by
  unfold fromP
  rw [List.mem_append, List.mem_flatMap]
  constructor
  ·rintro (⟨o, ho, h⟩ | h)
   ·obtain ⟨s, rfl, hs, hl⟩ := (mem_from n lost cs t r (k + 1) _).1 h
    rw [List.mem_filter] at ho
    refine ⟨(k, o) :: s, by simp, ⟨Nat.le_refl _, by omega, ho.1, by simpa using ho.2, ?_⟩, hl⟩
    rw [show k + (r + 1) = k + 1 + r by omega]; exact hs
   ·obtain ⟨s, rfl, hs, hl⟩ := (mem_from n lost cs t r (k + 1) _).1 h
    refine ⟨s, rfl, ?_, hl⟩
    rw [show k + (r + 1) = k + 1 + r by omega]; exact hs.low (by omega)
  ·rintro ⟨s, rfl, h, hl⟩
   rw [show k + (r + 1) = k + 1 + r by omega] at h
   cases s with
   | nil => exact .inr ((mem_from n lost cs _ r (k + 1) _).2 ⟨[], rfl, trivial, hl⟩)
   | cons p s =>
    obtain ⟨h1, h2, h3, h4, h5⟩ := h
    obtain ⟨i, o⟩ := p
    simp only at h1 h2 h3 h4 h5
    by_cases e : i = k
    ·subst e
     refine .inl ⟨o, List.mem_filter.2 ⟨h3, by simp [h4]⟩, (mem_from n lost cs _ r (i + 1) _).2 ⟨s, by simp, h5, hl⟩⟩
    ·exact .inr ((mem_from n lost cs _ r (k + 1) _).2 ⟨(i, o) :: s, rfl, ⟨by simp only; omega, h2, h3, h4, h5⟩, hl⟩)
theorem countP_ne {a : Nat} {P : Nat → Bool} : ∀ {l : List Nat}, l.Nodup → a ∈ l → P a = true → (l.filter fun x => x != a && P x).length + 1 = (l.filter P).length
 | [], _, h, _ => by cases h
 | y :: l, hn, h, hP => by
  rw [List.nodup_cons] at hn
  by_cases e : y = a
  ·subst e
   have h2 : (l.filter fun x => x != y && P x) = l.filter P := by
    apply List.filter_congr
    intro x hx
    have : x ≠ y := fun e => hn.1 (e ▸ hx)
    simp [this]
   simp [hP, h2]
  ·have hm : a ∈ l := by rcases List.mem_cons.1 h with h | h; exact absurd h.symm e; exact h
   have ih := countP_ne hn.2 hm hP
   have e' : (y != a) = true := by simp [e]
   rw [List.filter_cons, List.filter_cons, e', Bool.true_and]
   split <;> (first | simp only [List.length_cons] | skip) <;> omega
/-- what the firsts and the seconds are: apart -/
theorem OkP.firsts {cs : List (List Nat)} : ∀ {k m : Nat} {u s : Prs}, OkP cs k m u s → ∀ p ∈ s, k ≤ p.1 ∧ p.1 < m ∧ p.2 ∈ cs.getD p.1 [] ∧ usedP u p.2 = false
 | _, _, _, [], _, p, hp => by cases hp
 | k, m, u, q :: s, ⟨h1, h2, h3, h4, h5⟩, p, hp => by
  rcases List.mem_cons.1 hp with rfl | hp
  ·exact ⟨h1, h2, h3, h4⟩
  ·obtain ⟨g1, g2, g3, g4⟩ := h5.firsts p hp
   refine ⟨by omega, g2, g3, ?_⟩
   unfold usedP at g4 ⊢
   rw [List.any_append, Bool.or_eq_false_iff] at g4
   exact g4.1
theorem matchP_no : ∀ {s : Prs} {l : Nat}, (∀ p ∈ s, p.1 ≠ l ∧ p.2 ≠ l) → matchP s l = -1
 | [], _, _ => rfl
 | p :: s, l, h => by
  obtain ⟨h1, h2⟩ := h p (List.mem_cons_self ..)
  unfold matchP
  rw [if_neg (fun e => h1 e.symm), if_neg (fun e => h2 e.symm)]
  exact matchP_no fun q hq => h q (List.mem_cons_of_mem _ hq)
/-- allowed pairs: of a line of the one side and one of the other -/
def Sides (n : Nat) (z : Nat → Bool) (cs : List (List Nat)) : Prop := ∀ i o, o ∈ cs.getD i [] → i < n ∧ o < n ∧ z i = true ∧ z o = false
theorem OkP.tail {cs : List (List Nat)} {n : Nat} {z : Nat → Bool} (hc : Sides n z cs) {k m : Nat} {u s : Prs} {p : Nat × Nat} (h : OkP cs k m u (p :: s)) : p.1 ≠ p.2 ∧ ∀ q ∈ s, (q.1 ≠ p.1 ∧ q.2 ≠ p.1) ∧ (q.1 ≠ p.2 ∧ q.2 ≠ p.2) := by
 obtain ⟨h1, h2, h3, h4, h5⟩ := h
 obtain ⟨c1, c2, c3, c4⟩ := hc _ _ h3
 refine ⟨fun e => ?_, fun q hq => ?_⟩
 ·rw [e, c4] at c3; cases c3
 ·obtain ⟨g1, g2, g3, g4⟩ := h5.firsts q hq
  obtain ⟨d1, d2, d3, d4⟩ := hc _ _ g3
  refine ⟨⟨by omega, fun e => ?_⟩, fun e => ?_, fun e => ?_⟩
  ·rw [e, c3] at d4; cases d4
  ·rw [e, c4] at d3; cases d3
  ·unfold usedP at g4
   rw [List.any_append, Bool.or_eq_false_iff] at g4
   simp [e] at g4
theorem lost_ok {cs : List (List Nat)} {n : Nat} {z : Nat → Bool} (hc : Sides n z cs) : ∀ {k m : Nat} {u s : Prs}, OkP cs k m u s → lostP n s + 2 * s.length = n
 | _, _, _, [], _ => by
  have : (List.range n).filter (fun l => matchP [] l == -1) = List.range n := List.filter_eq_self.2 fun x _ => rfl
  simp [lostP, this]
 | k, m, u, p :: s, h => by
  have ht := h.tail hc
  obtain ⟨h1, h2, h3, h4, h5⟩ := h
  obtain ⟨c1, c2, c3, c4⟩ := hc _ _ h3
  have ih := lost_ok hc h5
  have m1 : matchP s p.1 = -1 := matchP_no fun q hq => (ht.2 q hq).1
  have m2 : matchP s p.2 = -1 := matchP_no fun q hq => (ht.2 q hq).2
  have e1 := countP_ne (P := fun l => matchP s l == -1) (a := p.2) (List.nodup_range (n := n)) (List.mem_range.2 c2) (by simp [m2])
  have e2 := countP_ne (P := fun l => l != p.2 && (matchP s l == -1)) (a := p.1) (List.nodup_range (n := n)) (List.mem_range.2 c1) (by simp [m1, ht.1])
  have e3 : lostP n (p :: s) = ((List.range n).filter fun x => x != p.1 && (x != p.2 && (matchP s x == -1))).length := by
   unfold lostP
   congr 1
   apply List.filter_congr
   intro x _
   simp only [matchP]
   by_cases a1 : x = p.1
   ·rw [if_pos a1]; simp [a1]; try omega
   ·rw [if_neg a1]
    by_cases a2 : x = p.2
    ·rw [if_pos a2]; simp [a2]; try omega
    ·rw [if_neg a2, bne_iff_ne.2 a1, bne_iff_ne.2 a2, Bool.true_and, Bool.true_and]
  rw [e3]
  unfold lostP at ih
  rw [List.length_cons]
  omega
/-- what a line is paired with, in allowed pairs -/
theorem match_ok {cs : List (List Nat)} {n : Nat} {z : Nat → Bool} (hc : Sides n z cs) : ∀ {k m : Nat} {u s : Prs}, OkP cs k m u s → ∀ p ∈ s, matchP s p.1 = p.2 ∧ matchP s p.2 = p.1
 | _, _, _, [], _, p, hp => by cases hp
 | k, m, u, q :: s, h, p, hp => by
  have ht := h.tail hc
  rcases List.mem_cons.1 hp with rfl | hp
  ·unfold matchP
   rw [if_pos rfl, if_neg (fun e => ht.1 e.symm), if_pos rfl]
   exact ⟨rfl, rfl⟩
  ·obtain ⟨g1, g2⟩ := match_ok hc h.2.2.2.2 p hp
   obtain ⟨⟨a1, a2⟩, a3, a4⟩ := ht.2 p hp
   unfold matchP
   rw [if_neg a1, if_neg a3, if_neg a2, if_neg a4]
   exact ⟨g1, g2⟩
/-- and a line that is paired is in a pair -/
theorem match_mem : ∀ {s : Prs} {l o : Nat}, matchP s l = o → (l, o) ∈ s ∨ (o, l) ∈ s
 | [], _, _, h => by simp only [matchP] at h; omega
 | p :: s, l, o, h => by
  unfold matchP at h
  split at h
  ·rename_i e
   refine .inl (List.mem_cons.2 (.inl ?_))
   have : o = p.2 := by omega
   rw [e, this]
  ·split at h
   ·rename_i e
    refine .inr (List.mem_cons.2 (.inl ?_))
    have : o = p.1 := by omega
    rw [e, this]
   ·rcases match_mem h with h | h
    ·exact .inl (List.mem_cons_of_mem _ h)
    ·exact .inr (List.mem_cons_of_mem _ h)
theorem mem_ts {cs : List (List Nat)} {n : Nat} {z : Nat → Bool} (hc : Sides n z cs) (lost : Int) (t : Prs) : t ∈ fromP n lost cs n 0 [] ↔ OkP cs 0 n [] t ∧ (n : Int) - 2 * t.length ≤ lost := by
 rw [mem_from]
 constructor
 ·rintro ⟨s, e, h, hl⟩
  rw [List.nil_append] at e
  subst e
  rw [Nat.zero_add] at h
  have := lost_ok hc h
  exact ⟨h, by omega⟩
 ·rintro ⟨h, hl⟩
  have := lost_ok hc h
  exact ⟨t, rfl, by rw [Nat.zero_add]; exact h, by omega⟩
/-- all truths that have a match -/
theorem cnt_all {n : Nat} {ts : List Prs} {i o : Nat} (hi : i < n) : cntP n ts i o = ts.length ↔ ∀ t ∈ ts, matchP t i = o := by
 unfold cntP
 rw [if_pos ⟨by omega, by omega⟩, Int.toNat_natCast]
 constructor
 ·intro h t ht
  have := (List.length_filter_eq_length_iff (l := ts) (p := fun t => matchP t i == (o : Int))).1 (by omega) t ht
  simpa using this
 ·intro h
  rw [List.filter_eq_self.2 fun t ht => by simp [h t ht]]
theorem cnt_one {n : Nat} {ts : List Prs} {i o : Nat} (hi : i < n) {t : Prs} (ht : t ∈ ts) (h : matchP t i = o) : 1 ≤ cntP n ts i o ∧ cntP n ts i o ≤ ts.length := by
 unfold cntP
 rw [if_pos ⟨by omega, by omega⟩, Int.toNat_natCast]
 have h1 := List.length_filter_le (fun t => matchP t i == (o : Int)) ts
 have h2 : 0 < (ts.filter fun t => matchP t i == (o : Int)).length := List.length_pos_of_mem (List.mem_filter.2 ⟨ht, by simp [h]⟩)
 omega
theorem mem_joinK {p : Nat → Nat → Bool} {cs : List (List Nat)} {m i o : Nat} : (i, o) ∈ joinK p cs m ↔ i < m ∧ o ∈ cs.getD i [] ∧ p i o = true := by
 unfold joinK joinR
 rw [List.mem_flatMap]
 constructor
 ·rintro ⟨k, hk, h⟩
  rw [List.mem_map] at h
  obtain ⟨q, hq, e⟩ := h
  rw [List.mem_filter] at hq
  cases e
  exact ⟨List.mem_range.1 hk, hq.1, hq.2⟩
 ·rintro ⟨h1, h2, h3⟩
  exact ⟨i, List.mem_range.2 h1, List.mem_map.2 ⟨o, List.mem_filter.2 ⟨h2, h3⟩, rfl⟩⟩
theorem kind_two (x n : Int) : (kindP x n == 2) = decide (x = n) := by
 unfold kindP
 by_cases h : x = n
 ·rw [if_pos h]; simp [h]
 ·rw [if_neg h]; split <;> simp [h]
/-- what is joined -/
theorem join_law {cs : List (List Nat)} {n : Nat} {z : Nat → Bool} (hc : Sides n z cs) (ts : List Prs) (i o : Nat) : (i, o) ∈ joinK (fun i o => kindP (cntP n ts i o) ts.length == 2) cs 9 ↔ i < 9 ∧ o ∈ cs.getD i [] ∧ ∀ t ∈ ts, matchP t i = o := by
 rw [mem_joinK]
 constructor
 ·rintro ⟨h1, h2, h3⟩
  rw [kind_two, decide_eq_true_eq] at h3
  exact ⟨h1, h2, (cnt_all (hc i o h2).1).1 h3⟩
 ·rintro ⟨h1, h2, h3⟩
  refine ⟨h1, h2, ?_⟩
  rw [kind_two, decide_eq_true_eq]
  exact (cnt_all (hc i o h2).1).2 h3
theorem kind_law {cs : List (List Nat)} {n : Nat} {z : Nat → Bool} (hc : Sides n z cs) (h9 : n ≤ 9) (lost : Int) {t : Prs} (ht : t ∈ fromP n lost cs n 0 []) {p : Nat × Nat} (hp : p ∈ t) :
    (kindP (cntP n (fromP n lost cs n 0 []) p.1 p.2) (fromP n lost cs n 0 []).length = 1 ∨ kindP (cntP n (fromP n lost cs n 0 []) p.1 p.2) (fromP n lost cs n 0 []).length = 2) ∧
    decide (kindP (cntP n (fromP n lost cs n 0 []) p.1 p.2) (fromP n lost cs n 0 []).length = 2) = (decide (((fromP n lost cs n 0 []).length : Int) = 1) || (joinK (fun i o => kindP (cntP n (fromP n lost cs n 0 []) i o) (fromP n lost cs n 0 []).length == 2) cs 9).contains p) := by
 have hok := ((mem_ts hc lost t).1 ht).1
 obtain ⟨h1, h2, h3, _⟩ := hok.firsts p hp
 have hm := (match_ok hc hok p hp).1
 obtain ⟨c1, c2⟩ := cnt_one h2 ht hm
 have hj := join_law hc (fromP n lost cs n 0 []) p.1 p.2
 generalize hts : fromP n lost cs n 0 [] = ts at *
 have hall := cnt_all (ts := ts) (o := p.2) h2
 generalize hcc : cntP n ts p.1 p.2 = c at *
 generalize hJ : joinK (fun i o => kindP (cntP n ts i o) ts.length == 2) cs 9 = J at *
 have hJ2 : J.contains p = decide (c = ts.length) := by
  rw [Bool.eq_iff_iff, List.contains_iff_mem, decide_eq_true_eq, hall]
  exact ⟨fun h => (hj.1 h).2.2, fun h => hj.2 ⟨by omega, h3, h⟩⟩
 rw [hJ2]
 constructor
 ·unfold kindP
  by_cases e : c = ts.length
  ·rw [if_pos e]; exact .inr rfl
  ·rw [if_neg e, if_neg (by omega)]; exact .inl rfl
 ·have e2 : decide (kindP c ts.length = 2) = decide (c = ts.length) := (kind_two c ts.length) ▸ (by rw [Bool.eq_iff_iff, decide_eq_true_eq, beq_iff_eq])
  rw [e2, Bool.eq_iff_iff, Bool.or_eq_true, decide_eq_true_eq, decide_eq_true_eq]
  omega
theorem minL_le : ∀ (l : List Int) (x : Int), minL x l ≤ x ∧ (∀ y ∈ l, minL x l ≤ y) ∧ (minL x l = x ∨ minL x l ∈ l)
 | [], x => ⟨Int.le_refl _, (fun _ h => absurd h (List.not_mem_nil)), .inl rfl⟩
 | y :: l, x => by
  obtain ⟨h1, h2, h3⟩ := minL_le l (min x y)
  have e : minL x (y :: l) = minL (min x y) l := rfl
  rw [e]
  refine ⟨by omega, fun u hu => ?_, ?_⟩
  ·rcases List.mem_cons.1 hu with rfl | hu
   ·omega
   ·exact h2 u hu
  ·rcases h3 with h3 | h3
   ·rw [h3]
    by_cases hxy : x ≤ y
    ·exact .inl (by omega)
    ·exact .inr (List.mem_cons.2 (.inl (by omega)))
   ·exact .inr (List.mem_cons_of_mem _ h3)
theorem maxL_ge : ∀ (l : List Int) (x : Int), x ≤ maxL x l ∧ (∀ y ∈ l, y ≤ maxL x l) ∧ (maxL x l = x ∨ maxL x l ∈ l)
 | [], x => ⟨Int.le_refl _, (fun _ h => absurd h (List.not_mem_nil)), .inl rfl⟩
 | y :: l, x => by
  obtain ⟨h1, h2, h3⟩ := maxL_ge l (max x y)
  have e : maxL x (y :: l) = maxL (max x y) l := rfl
  rw [e]
  refine ⟨by omega, fun u hu => ?_, ?_⟩
  ·rcases List.mem_cons.1 hu with rfl | hu
   ·omega
   ·exact h2 u hu
  ·rcases h3 with h3 | h3
   ·rw [h3]
    by_cases hxy : y ≤ x
    ·exact .inl (by omega)
    ·exact .inr (List.mem_cons.2 (.inl (by omega)))
   ·exact .inr (List.mem_cons_of_mem _ h3)
/-- between what numbers lie -/
theorem ends_law {l : List Int} (h : l ≠ []) : (∀ y ∈ l, minL (l.headD 0) l.tail ≤ y ∧ y ≤ maxL (l.headD 0) l.tail) ∧ minL (l.headD 0) l.tail ∈ l ∧ maxL (l.headD 0) l.tail ∈ l := by
 cases l with
 | nil => exact absurd rfl h
 | cons x l =>
  obtain ⟨a1, a2, a3⟩ := minL_le l x
  obtain ⟨b1, b2, b3⟩ := maxL_ge l x
  simp only [List.headD_cons, List.tail_cons]
  refine ⟨fun y hy => ?_, ?_, ?_⟩
  ·rcases List.mem_cons.1 hy with rfl | hy
   ·exact ⟨a1, b1⟩
   ·exact ⟨a2 y hy, b2 y hy⟩
  ·rcases a3 with a3 | a3
   ·rw [a3]; exact List.mem_cons_self ..
   ·exact List.mem_cons_of_mem _ a3
  ·rcases b3 with b3 | b3
   ·rw [b3]; exact List.mem_cons_self ..
   ·exact List.mem_cons_of_mem _ b3
theorem people_in (n : Nat) {ts : List Prs} {t : Prs} (ht : t ∈ ts) : minL ((peopleP n ts).headD 0) (peopleP n ts).tail ≤ (n : Int) - t.length ∧ (n : Int) - t.length ≤ maxL ((peopleP n ts).headD 0) (peopleP n ts).tail := by
 have hm : ((n : Int) - t.length) ∈ peopleP n ts := List.mem_map.2 ⟨t, ht, rfl⟩
 exact (ends_law (List.ne_nil_of_mem hm)).1 _ hm
theorem coulds_at (b : Bk) (i : Nat) : (couldsP b).getD i [] = if i < b.lines.length then couldP b i else [] := by
 unfold couldsP
 rw [List.getD_eq_getElem?_getD, List.getElem?_map]
 by_cases h : i < b.lines.length
 ·rw [if_pos h]; simp [h]
 ·rw [if_neg h]; simp [h]
/-- is a line of the first book? -/
def zB (b : Bk) (i : Nat) : Bool := (b.lines.getD i zeroLn).book == 0
theorem mem_coulds (b : Bk) (i o : Nat) : o ∈ (couldsP b).getD i [] ↔ i < b.lines.length ∧ o < b.lines.length ∧ zB b i = true ∧ canL b (b.lines.getD i zeroLn) (b.lines.getD o zeroLn) = true := by
 rw [coulds_at]
 by_cases h : i < b.lines.length
 ·rw [if_pos h]
  unfold couldP
  rw [List.mem_filter, List.mem_range, Bool.and_eq_true]
  exact ⟨fun ⟨h1, h2, h3⟩ => ⟨h, h1, h2, h3⟩, fun ⟨_, h1, h2, h3⟩ => ⟨h1, h2, h3⟩⟩
 ·rw [if_neg h]
  exact ⟨fun h' => absurd h' List.not_mem_nil, fun h' => absurd h'.1 h⟩
theorem sides_bk (b : Bk) : Sides b.lines.length (zB b) (couldsP b) := fun i o h => by
 obtain ⟨h1, h2, h3, h4⟩ := (mem_coulds b i o).1 h
 refine ⟨h1, h2, h3, ?_⟩
 unfold canL at h4
 rw [Bool.and_eq_true] at h4
 have h5 := h4.1
 unfold zB at h3 ⊢
 rw [beq_iff_eq] at h3
 rw [h3] at h5
 rw [Bool.not_eq_true', beq_eq_false_iff_ne] at h5
 rw [beq_eq_false_iff_ne]
 exact fun e => h5 e.symm
end Go.Proofs.Ytbimkcjdodgojaa
