/- A book without one of its lines has wider courses. No Go here. -/
import Derived.Test.YtmddbnjbliponaaM
namespace Go.Proofs.Ytmddbnjbliponaa
set_option linter.unusedSimpArgs false
set_option linter.unusedVariables false

/-- one span lies in another one -/
def Sub (s m : Sp) : Prop := m.lo ≤ s.lo ∧ s.hi ≤ m.hi
theorem Sub.refl (s : Sp) : Sub s s := ⟨Int.le_refl _, Int.le_refl _⟩
def SubL : List Sp → List Sp → Prop
  | [], [] => True
  | a :: l, b :: m => Sub a b ∧ SubL l m
  | _, _ => False
/-- the first list has one span more, at a place -/
def SkipL : Nat → List Sp → List Sp → Prop
  | 0, _ :: l, m => SubL l m
  | i + 1, a :: l, b :: m => Sub a b ∧ SkipL i l m
  | _, _, _ => False
theorem subL_refl : ∀ l : List Sp, SubL l l
  | [] => trivial
  | a :: l => ⟨Sub.refl a, subL_refl l⟩
theorem subL_len : ∀ {l m : List Sp}, SubL l m → l.length = m.length
  | [], [], _ => rfl
  | [], _ :: _, h => h.elim
  | _ :: _, [], h => h.elim
  | _ :: _, _ :: _, h => by simp [subL_len h.2]
theorem subL_at : ∀ {l m : List Sp}, SubL l m → ∀ p (h1 : p < l.length) (h2 : p < m.length), Sub l[p] m[p]
  | [], [], _, p, h1, _ => absurd h1 (by simp)
  | [], _ :: _, h, _, _, _ => h.elim
  | _ :: _, [], h, _, _, _ => h.elim
  | a :: l, b :: m, h, p, h1, h2 => by
    cases p with
    | zero => exact h.1
    | succ p => exact subL_at h.2 p (by simpa using h1) (by simpa using h2)
theorem skipL_len : ∀ {i : Nat} {l m : List Sp}, SkipL i l m → l.length = m.length + 1 ∧ i < l.length
  | 0, _ :: l, m, h => by have := subL_len (l := l) (m := m) h; simp; omega
  | 0, [], _, h => h.elim
  | i + 1, a :: l, b :: m, h => by have := skipL_len h.2; simp; omega
  | _ + 1, [], _, h => h.elim
  | _ + 1, _ :: _, [], h => h.elim
theorem skipL_lt : ∀ {i : Nat} {l m : List Sp}, SkipL i l m → ∀ p (_ : p < i) (h1 : p < l.length) (h2 : p < m.length), Sub l[p] m[p]
  | 0, _, _, _, p, hp, _, _ => absurd hp (by omega)
  | i + 1, a :: l, b :: m, h, p, hp, h1, h2 => by
    cases p with
    | zero => exact h.1
    | succ p => exact skipL_lt h.2 p (by omega) (by simpa using h1) (by simpa using h2)
  | _ + 1, [], _, h, _, _, _, _ => h.elim
  | _ + 1, _ :: _, [], h, _, _, _, _ => h.elim
theorem skipL_gt : ∀ {i : Nat} {l m : List Sp}, SkipL i l m → ∀ p (_ : i ≤ p) (h1 : p + 1 < l.length) (h2 : p < m.length), Sub l[p + 1] m[p]
  | 0, _ :: l, m, h, p, _, h1, h2 => by
    simp only [List.getElem_cons_succ]
    exact subL_at h p (by simpa using h1) h2
  | 0, [], _, h, _, _, _, _ => h.elim
  | i + 1, a :: l, b :: m, h, p, hp, h1, h2 => by
    obtain ⟨q, rfl⟩ : ∃ q, p = q + 1 := ⟨p - 1, by omega⟩
    simp only [List.getElem_cons_succ]
    exact skipL_gt h.2 q (by omega) (by simpa using h1) (by simpa using h2)
  | _ + 1, [], _, h, _, _, _, _ => h.elim
  | _ + 1, _ :: _, [], h, _, _, _, _ => h.elim

/-- what the way back makes of the first span -/
theorem bwd_cons (f : Sp) (l : List Sp) : ∃ h, bwd (f :: l) = ⟨f.lo, h⟩ :: bwd l ∧ h ≤ f.hi ∧ (∀ t r, bwd l = t :: r → h ≤ t.hi) ∧ ∀ x, x ≤ f.hi → (∀ t r, bwd l = t :: r → x ≤ t.hi) → x ≤ h := by
  have e : bwd (f :: l) = match bwd l with | [] => [f] | t :: r => ⟨f.lo, min f.hi t.hi⟩ :: t :: r := rfl
  rw [e]
  clear e
  cases hb : bwd l with
  | nil => exact ⟨f.hi, rfl, Int.le_refl _, fun t r e => (by cases e), fun x hx _ => hx⟩
  | cons t r =>
    refine ⟨min f.hi t.hi, rfl, by omega, fun t' r' e => ?_, fun x hx ht => ?_⟩
    · simp only [List.cons.injEq] at e; rw [← e.1]; omega
    · have := ht t r rfl; omega
theorem bwd_sub : ∀ {l m : List Sp}, SubL l m → SubL (bwd l) (bwd m)
  | [], [], _ => trivial
  | [], _ :: _, h => h.elim
  | _ :: _, [], h => h.elim
  | a :: l, b :: m, h => by
    obtain ⟨ha, ea, a1, a2, _⟩ := bwd_cons a l
    obtain ⟨hb, eb, _, _, b3⟩ := bwd_cons b m
    have ih := bwd_sub h.2
    rw [ea, eb]
    refine ⟨⟨h.1.1, b3 ha (Int.le_trans a1 h.1.2) fun t r e => ?_⟩, ih⟩
    rw [e] at ih
    cases hl : bwd l with
    | nil => rw [hl] at ih; exact ih.elim
    | cons u q =>
      rw [hl] at ih
      exact Int.le_trans (a2 u q hl) ih.1.2
theorem bwd_skip : ∀ {i : Nat} {l m : List Sp}, SkipL i l m → SkipL i (bwd l) (bwd m)
  | 0, f :: l, m, h => by
    obtain ⟨hf, ef, _⟩ := bwd_cons f l
    rw [ef]
    exact bwd_sub (l := l) (m := m) h
  | 0, [], _, h => h.elim
  | i + 1, a :: l, b :: m, h => by
    obtain ⟨ha, ea, a1, a2, _⟩ := bwd_cons a l
    obtain ⟨hb, eb, _, _, b3⟩ := bwd_cons b m
    have ih := bwd_skip h.2
    rw [ea, eb]
    refine ⟨⟨h.1.1, b3 ha (Int.le_trans a1 h.1.2) fun t r e => ?_⟩, ih⟩
    cases i with
    | zero =>
      cases l with
      | nil => exact h.2.elim
      | cons x l' =>
        obtain ⟨hx, ex, _, x2, _⟩ := bwd_cons x l'
        have hs : SubL (bwd l') (bwd m) := bwd_sub h.2
        rw [e] at hs
        cases hl : bwd l' with
        | nil => rw [hl] at hs; exact hs.elim
        | cons u q =>
          rw [hl] at hs
          have k1 := a2 ⟨x.lo, hx⟩ (bwd l') ex
          have k2 := x2 u q hl
          simp only at k1
          exact Int.le_trans k1 (Int.le_trans k2 hs.1.2)
    | succ i =>
      rw [e] at ih
      cases hl : bwd l with
      | nil => rw [hl] at ih; exact ih.elim
      | cons u q =>
        rw [hl] at ih
        exact Int.le_trans (a2 u q hl) ih.1.2
  | _ + 1, [], _, h => h.elim
  | _ + 1, _ :: _, [], h => h.elim

/-! ### a book without a line -/
theorem fwd_cons (c : Ck) (tr : List When) (prev : Int) (l : Ln) (ls : List Ln) : fwdT c tr prev (l :: ls) =
    if ((meansT c tr l.r).common l.k).hi < max ((meansT c tr l.r).common l.k).lo prev then none
    else (fwdT c tr (max ((meansT c tr l.r).common l.k).lo prev) ls).map (⟨max ((meansT c tr l.r).common l.k).lo prev, ((meansT c tr l.r).common l.k).hi⟩ :: ·) := rfl
theorem fwd_less (c : Ck) (tr : List When) : ∀ (ls : List Ln) (a b : Int) (F : List Sp), b ≤ a → fwdT c tr a ls = some F → ∃ F', fwdT c tr b ls = some F' ∧ SubL F F'
  | [], a, b, F, _, h => by simp only [fwdT, Option.some.injEq] at h; subst h; exact ⟨[], rfl, trivial⟩
  | l :: ls, a, b, F, hab, h => by
    rw [fwd_cons] at h ⊢
    split at h
    · cases h
    · rename_i hv
      obtain ⟨F0, h0, rfl⟩ := Option.map_eq_some_iff.1 h
      obtain ⟨F1, h1, hs⟩ := fwd_less c tr ls _ (max ((meansT c tr l.r).common l.k).lo b) F0 (by omega) h0
      rw [if_neg (by omega), h1]
      refine ⟨_, rfl, ⟨?_, Int.le_refl _⟩, hs⟩
      simp only
      omega
theorem fwd_skip (c : Ck) (tr : List When) : ∀ (i : Nat) (ls : List Ln) (a : Int) (F : List Sp), i < ls.length → fwdT c tr a ls = some F → ∃ F', fwdT c tr a (ls.eraseIdx i) = some F' ∧ SkipL i F F'
  | i, [], a, F, hi, h => absurd hi (by simp)
  | 0, l :: ls, a, F, _, h => by
    rw [fwd_cons] at h
    split at h
    · cases h
    · obtain ⟨F0, h0, rfl⟩ := Option.map_eq_some_iff.1 h
      obtain ⟨F1, h1, hs⟩ := fwd_less c tr ls _ a F0 (by omega) h0
      exact ⟨F1, h1, hs⟩
  | i + 1, l :: ls, a, F, hi, h => by
    rw [fwd_cons] at h
    simp only [List.eraseIdx_cons_succ]
    rw [fwd_cons]
    split at h
    · cases h
    · rename_i hv
      obtain ⟨F0, h0, rfl⟩ := Option.map_eq_some_iff.1 h
      obtain ⟨F1, h1, hs⟩ := fwd_skip c tr i ls _ F0 (by simpa using hi) h0
      rw [if_neg hv, h1]
      exact ⟨_, rfl, Sub.refl _, hs⟩
theorem course_skip {c : Ck} {tr : List When} {ls : List Ln} {s : List Sp} {i : Nat} (hi : i < ls.length) (h : courseT c ls tr = some s) : ∃ m, courseT c (ls.eraseIdx i) tr = some m ∧ SkipL i s m := by
  unfold courseT at *
  obtain ⟨F, hF, rfl⟩ := Option.map_eq_some_iff.1 h
  obtain ⟨F', hF', hs⟩ := fwd_skip c tr i ls 0 F hi hF
  exact ⟨bwd F', by rw [hF']; rfl, bwd_skip hs⟩
theorem without_from (keep : Nat → Bool) : ∀ (ls : List Ln) (k : Nat), (∀ j, k ≤ j → keep j = true) → ((ls.zipIdx k).filter fun p => keep p.2).map (·.1) = ls
  | [], _, _ => rfl
  | l :: ls, k, h => by
    rw [List.zipIdx_cons, List.filter_cons, if_pos (by exact h k (Nat.le_refl _)), List.map_cons, without_from keep ls (k + 1) fun j hj => h j (by omega)]
theorem without_erase (keep : Nat → Bool) : ∀ (ls : List Ln) (k i : Nat), (∀ j, keep j = !decide (j = k + i)) → ((ls.zipIdx k).filter fun p => keep p.2).map (·.1) = ls.eraseIdx i
  | [], _, _, _ => rfl
  | l :: ls, k, 0, h => by
    rw [List.zipIdx_cons, List.filter_cons, if_neg (by rw [h]; simp), List.eraseIdx_cons_zero, without_from keep ls (k + 1) fun j hj => by rw [h]; simp; omega]
  | l :: ls, k, i + 1, h => by
    rw [List.zipIdx_cons, List.filter_cons, if_pos (by rw [h]; simp), List.map_cons, List.eraseIdx_cons_succ, without_erase keep ls (k + 1) i fun j => by rw [h]; congr 2; rw [eq_iff_iff]; omega]
end Go.Proofs.Ytmddbnjbliponaa
