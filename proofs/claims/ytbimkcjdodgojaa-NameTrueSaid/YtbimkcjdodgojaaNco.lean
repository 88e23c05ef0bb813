/- Name: what passed leaves: pairs of neighbours are a truth; a row with an element changed. -/
import Derived.Test.YtbimkcjdodgojaaNcc
import Derived.Test.YtbimkcjdodgojaaNcl
namespace Go.Proofs.Ytbimkcjdodgojaa
set_option linter.unusedSimpArgs false
set_option linter.unusedVariables false
open Go Go.RowKit

/-- pairs of neighbours, one behind another -/
def StepP (b : Bk) (xs : List NLn) : Nat → Prs → Prop
 | _, [] => True
 | k, p :: s => k ≤ p.1 ∧ p.2 = p.1 + 1 ∧ p.2 < xs.length ∧ (xs.getD p.1 zeroLn).book = 0 ∧ canL b (xs.getD p.1 zeroLn) (xs.getD p.2 zeroLn) = true ∧ StepP b xs (p.1 + 2) s
theorem getD_pre (xs ys : List NLn) {i : Nat} (h : i < xs.length) : (xs ++ ys).getD i zeroLn = xs.getD i zeroLn := by
 rw [List.getD_eq_getElem?_getD, List.getD_eq_getElem?_getD, List.getElem?_append_left h]
theorem StepP.more {b : Bk} {xs : List NLn} (ys : List NLn) : ∀ {k : Nat} {s : Prs}, StepP b xs k s → StepP b (xs ++ ys) k s
 | _, [], _ => trivial
 | k, p :: s, ⟨h1, h2, h3, h4, h5, h6⟩ => by
  refine ⟨h1, h2, by rw [List.length_append]; omega, ?_, ?_, h6.more ys⟩
  ·rw [getD_pre xs ys (by omega)]; exact h4
  ·rw [getD_pre xs ys (by omega), getD_pre xs ys h3]; exact h5
theorem StepP.snoc {b : Bk} {xs : List NLn} {u v : NLn} (hu : u.book = 0) (hc : canL b u v = true) : ∀ {k : Nat} {s : Prs}, k ≤ xs.length → StepP b xs k s → StepP b (xs ++ [u, v]) k (s ++ [(xs.length, xs.length + 1)])
 | k, [], hk, _ => by
  have e1 : (xs ++ [u, v]).getD xs.length zeroLn = u := by rw [List.getD_eq_getElem?_getD]; simp
  have e2 : (xs ++ [u, v]).getD (xs.length + 1) zeroLn = v := by rw [List.getD_eq_getElem?_getD]; simp
  refine ⟨hk, rfl, by simp, ?_, ?_, trivial⟩
  ·simp only; rw [e1]; exact hu
  ·simp only; rw [e1, e2]; exact hc
 | k, p :: s, hk, ⟨h1, h2, h3, h4, h5, h6⟩ => by
  refine ⟨h1, h2, by rw [List.length_append]; omega, ?_, ?_, StepP.snoc hu hc (by omega) h6⟩
  ·rw [getD_pre xs _ (by omega)]; exact h4
  ·rw [getD_pre xs _ (by omega), getD_pre xs _ h3]; exact h5
theorem StepP.ok {b : Bk} {xs : List NLn} {lost : Int} : ∀ {k : Nat} {u s : Prs}, StepP b xs k s → (∀ q ∈ u, q.2 < k) → OkP (couldsP { b with lines := xs, lost := lost }) k xs.length u s
 | _, _, [], _, _ => trivial
 | k, u, p :: s, ⟨h1, h2, h3, h4, h5, h6⟩, hu => by
  refine ⟨h1, by omega, ?_, ?_, ?_⟩
  ·refine (mem_coulds _ p.1 p.2).2 ⟨?_, h3, ?_, ?_⟩
   ·show p.1 < xs.length; omega
   ·show ((xs.getD p.1 zeroLn).book == 0) = true
    rw [h4]; rfl
   ·exact h5
  ·unfold usedP
   rw [List.any_eq_false]
   intro q hq
   have := hu q hq
   simp; omega
  ·refine OkP.low (k := p.1 + 2) (StepP.ok h6 fun q hq => ?_) (by omega)
   rcases List.mem_append.1 hq with hq | hq
   ·have := hu q hq; omega
   ·rw [List.mem_singleton.1 hq]; omega
theorem StepP.len {b : Bk} {xs : List NLn} : ∀ {k : Nat} {s : Prs}, StepP b xs k s → k + 2 * s.length ≤ xs.length ∨ s = []
 | _, [], _ => .inr rfl
 | k, p :: s, ⟨h1, h2, h3, _, _, h6⟩ => .inl (by
  rcases h6.len with h | h
  ·simp only [List.length_cons]; omega
  ·subst h; simp only [List.length_singleton]; omega)
theorem can_near {b : Bk} {m d : Int} {h o : ByteArray} (hd : b.lo ≤ d ∧ d ≤ b.hi) (h0 : 0 ≤ d) {z : Int} (hz : z = m + d ∨ z = m - d) (hh : (apR b.ear.alike b.ear.slips (keptL b.ear.mute h.data.toList) (keptL b.ear.mute o.data.toList)).2 = true) : canL b ⟨0, m, h⟩ ⟨1, z, o⟩ = true := by
 unfold canL offB heardB
 simp only [hh, Bool.and_true, Bool.not_not, Bool.and_eq_true, decide_eq_true_eq]
 refine ⟨rfl, ?_, ?_⟩ <;> (rcases hz with e | e <;> subst e <;> omega)
theorem own_set {w : World} {base : Nat} {e : TypeId} {size : Nat} {v : Value} {n : Nat} {xs : List Value} (h : w.ownsRow base e size v n xs) {g : Nat} (hg : v.ownBlock = some g) {o : Nat} (u : Value) : (w.setCell ⟨g, o, none⟩ u).ownsRow base e size v n (xs.set o u) := by
 obtain ⟨hl, h | ⟨g', cap, cur, hv, hb, hh, hn, hm, hc, ht⟩⟩ := h
 ·rw [h.1] at hg; simp [Value.ownBlock] at hg
 ·rw [hv] at hg
  simp [Value.ownBlock] at hg
  subst hg
  refine ⟨by simp [hl], .inr ⟨g', cap, cur.setIfInBounds o u, hv, hb, ?_, hn, hm, by simp [hc], ?_⟩⟩
  ·show (w.heap.modify g' _)[g']? = _
   rw [Array.getElem?_modify]
   simp [hh]
  ·rw [← ht, Array.toList_setIfInBounds, List.take_set]
theorem own_wr {w : World} {base : Nat} {e : TypeId} {size : Nat} {v : Value} {n : Nat} {xs : List Value} (h : w.ownsRow base e size v n xs) {g : Nat} (hg : v.ownBlock = some g) {o : Nat} (ho : o < n * size) : Wr w g o := by
 obtain ⟨hl, h | ⟨g', cap, cur, hv, hb, hh, hn, hm, hc, ht⟩⟩ := h
 ·rw [h.1] at hg; simp [Value.ownBlock] at hg
 ·rw [hv] at hg
  simp [Value.ownBlock] at hg
  subst hg
  have ho2 : o < cur.size := by
   rw [hc]
   exact Nat.lt_of_lt_of_le ho (Nat.mul_le_mul_right _ hn)
  exact Wr.of (v := cur[o]) (by simp [World.cell?, hh, ho2]) (by simp [World.frozen?, hh])
theorem own_other {w : World} {base : Nat} {e : TypeId} {size : Nat} {v : Value} {n : Nat} {xs : List Value} (h : w.ownsRow base e size v n xs) {g o : Nat} (u : Value) (hg : v.ownBlock ≠ some g) : (w.setCell ⟨g, o, none⟩ u).ownsRow base e size v n xs := by
 refine h.kept (row := some g) ⟨rfl, rfl, rfl, by simp, fun k hk hne => Below.heap_setCell _ _ _ _ (fun e => hne (by rw [e]))⟩ ?_
 cases hv : v.ownBlock with
 | none => exact .inl rfl
 | some k => exact .inr fun e => hg (by rw [hv, e])
theorem lines_set (xs : List NLn) (u : NLn) (k : Int) : (nlines (xs ++ [u])).set (xs.length * 3) (.int .i64 k) = nlines (xs ++ [{ u with book := k }]) := by
 have hl : (nlines xs).length = xs.length * 3 := nlines_length xs
 rw [nlines_snoc, nlines_snoc, ← hl, List.set_append_right _ _ (Nat.le_refl _), Nat.sub_self]
 rfl
end Go.Proofs.Ytbimkcjdodgojaa
