/- Name: the maths of how far apart names are, and of what is misheard. -/
import Derived.Test.YtbimkcjdodgojaaGreatKBNj
import Derived.Test.YtbimkcjdodgojaaGreatKBNp

namespace Go.Proofs.YtbimkcjdodgojaaGreat
set_option linter.unusedSimpArgs false
set_option linter.unusedVariables false
open Go Go.RowKit
/-- what is heard of two names so far -/
def HeardL (l : List ByteArray) (xs ys : List UInt8) (sl : Int) : Prop := xs.length = ys.length ∧ allB l xs ys = true ∧ (diffN xs ys xs.length : Int) ≤ sl
theorem diff_pre (xs ys : List UInt8) (a b : UInt8) : ∀ k, k ≤ xs.length → k ≤ ys.length → diffN (xs ++ [a]) (ys ++ [b]) k = diffN xs ys k
 | 0, _, _ => rfl
 | k + 1, h1, h2 => by
  unfold diffN
  rw [diff_pre xs ys a b k (by omega) (by omega)]
  have e1 : (xs ++ [a]).getD k 0 = xs.getD k 0 := by rw [List.getD_eq_getElem?_getD, List.getD_eq_getElem?_getD, List.getElem?_append_left (by omega)]
  have e2 : (ys ++ [b]).getD k 0 = ys.getD k 0 := by rw [List.getD_eq_getElem?_getD, List.getD_eq_getElem?_getD, List.getElem?_append_left (by omega)]
  rw [e1, e2]
theorem HeardL.snoc {l : List ByteArray} {xs ys : List UInt8} {sl sl' : Int} {a b : UInt8} (h : HeardL l xs ys sl) (hab : alikeB l a b = true) (hs : sl + (if a = b then 0 else 1) ≤ sl') : HeardL l (xs ++ [a]) (ys ++ [b]) sl' := by
 obtain ⟨h1, h2, h3⟩ := h
 have ea : (xs ++ [a]).getD xs.length 0 = a := by rw [List.getD_eq_getElem?_getD]; simp
 have eb : (ys ++ [b]).getD xs.length 0 = b := by rw [List.getD_eq_getElem?_getD, h1]; simp
 refine ⟨by simp [h1], ?_, ?_⟩
 ·unfold allB at h2 ⊢
  rw [List.length_append, List.length_singleton, List.range_succ, List.all_append, Bool.and_eq_true]
  refine ⟨?_, by simp only [List.all_cons, List.all_nil, Bool.and_true]; rw [ea, eb]; exact hab⟩
  rw [List.all_eq_true] at h2 ⊢
  intro i hi
  have hi' := List.mem_range.1 hi
  have e1 : (xs ++ [a]).getD i 0 = xs.getD i 0 := by rw [List.getD_eq_getElem?_getD, List.getD_eq_getElem?_getD, List.getElem?_append_left (by omega)]
  have e2 : (ys ++ [b]).getD i 0 = ys.getD i 0 := by rw [List.getD_eq_getElem?_getD, List.getD_eq_getElem?_getD, List.getElem?_append_left (by omega)]
  rw [e1, e2]
  exact h2 i hi
 ·rw [List.length_append, List.length_singleton]
  unfold diffN
  rw [diff_pre xs ys a b _ (Nat.le_refl _) (by omega), ea, eb]
  by_cases e : a = b
  ·rw [if_pos e] at hs; rw [if_pos (by simpa using e)]; omega
  ·rw [if_neg e] at hs; rw [if_neg (by simpa using e)]; omega
theorem HeardL.ap {l : List ByteArray} {xs ys : List UInt8} {sl lim : Int} (h : HeardL l xs ys sl) (hs : sl ≤ lim) : (apR l lim xs ys).2 = true := by
 obtain ⟨h1, h2, h3⟩ := h
 unfold apR
 rw [if_pos ⟨h1, h2, by omega⟩]
theorem ap_range (l : List ByteArray) {sl : Int} (hs : 0 ≤ sl) (x y : List UInt8) : 0 ≤ (apR l sl x y).1 ∧ (apR l sl x y).1 ≤ sl := by
 unfold apR
 split
 ·rename_i h; exact ⟨by simp, h.2.2⟩
 ·exact ⟨by simp, hs⟩
theorem HeardL.mono {l : List ByteArray} {xs ys : List UInt8} {sl sl' : Int} (h : HeardL l xs ys sl) (hs : sl ≤ sl') : HeardL l xs ys sl' := ⟨h.1, h.2.1, by have := h.2.2; omega⟩
end Go.Proofs.YtbimkcjdodgojaaGreat
