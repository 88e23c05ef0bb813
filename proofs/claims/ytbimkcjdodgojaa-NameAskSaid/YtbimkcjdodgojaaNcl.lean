/- Name: the maths of how far apart names are, and of what is misheard. -/
import Derived.Test.YtbimkcjdodgojaaNca
import Derived.Test.YtbimkcjdodgojaaNp
namespace Go.Proofs.Ytbimkcjdodgojaa
set_option linter.unusedSimpArgs false
set_option linter.unusedVariables false
open Go Go.RowKit

theorem alike_comm (l : List ByteArray) (a b : UInt8) : alikeB l a b = alikeB l b a := by
 unfold alikeB
 have e : (fun g => standsB g a && standsB g b) = fun g => standsB g b && standsB g a := by funext g; rw [Bool.and_comm]
 rw [e]
 congr 1
 rw [Bool.eq_iff_iff, beq_iff_eq, beq_iff_eq]
 exact ⟨Eq.symm, Eq.symm⟩
theorem diff_comm (x y : List UInt8) : ∀ k, diffN x y k = diffN y x k
 | 0 => rfl
 | k + 1 => by
  unfold diffN
  rw [diff_comm x y k]
  by_cases h : x.getD k 0 = y.getD k 0
  ·rw [h]
  ·rw [if_neg (by simpa using h), if_neg (by simpa using fun e => h (Eq.symm e))]
theorem all_comm (l : List ByteArray) (x y : List UInt8) (h : x.length = y.length) : allB l x y = allB l y x := by
 unfold allB
 rw [h]
 congr 1
 funext i
 exact alike_comm l _ _
theorem ap_comm (l : List ByteArray) (sl : Int) (x y : List UInt8) : apR l sl x y = apR l sl y x := by
 unfold apR
 by_cases h : x.length = y.length
 ·rw [all_comm l x y h, diff_comm x y, h]
 ·rw [if_neg (fun h' => h h'.1), if_neg (fun h' => h h'.1.symm)]
theorem diff_self (x : List UInt8) : ∀ k, diffN x x k = 0
 | 0 => rfl
 | k + 1 => by unfold diffN; rw [diff_self x k]; simp
theorem ap_self (l : List ByteArray) {sl : Int} (h : 0 ≤ sl) (x : List UInt8) : apR l sl x x = (0, true) := by
 unfold apR
 rw [diff_self, if_pos ⟨rfl, by unfold allB alikeB; simp, by simpa using h⟩]
 rfl
theorem ap_wider {l l' : List ByteArray} {sl sl' : Int} {x y : List UInt8} (hs : sl ≤ sl') (hl : ∀ a b, alikeB l a b = true → alikeB l' a b = true) (h : (apR l sl x y).2 = true) : apR l' sl' x y = apR l sl x y := by
 unfold apR at h ⊢
 split at h
 ·rename_i hh
  have h2 : allB l' x y = true := by
   have := hh.2.1
   unfold allB at this ⊢
   rw [List.all_eq_true] at this ⊢
   exact fun i hi => hl _ _ (this i hi)
  rw [if_pos hh, if_pos ⟨hh.1, h2, by omega⟩]
 ·cases h
theorem alike_one (g h : ByteArray) (l : List ByteArray) (a b : UInt8) (H : alikeB (g :: h :: l) a b = true) : alikeB ((g ++ h) :: l) a b = true := by
 unfold alikeB at H ⊢
 simp only [List.any_cons, standsB_eq, hasC, ByteArray.toList_data_append] at H ⊢
 simp only [Bool.or_eq_true, Bool.and_eq_true, List.contains_iff_mem, List.mem_append] at H ⊢
 rcases H with H | H | H | H
 ·exact .inl H
 ·exact .inr (.inl ⟨.inl H.1, .inl H.2⟩)
 ·exact .inr (.inl ⟨.inr H.1, .inr H.2⟩)
 ·exact .inr (.inr H)
/-- what is heard of two names so far -/
def HeardL (l : List ByteArray) (xs ys : List UInt8) (sl : Int) : Prop := xs.length = ys.length ∧ allB l xs ys = true ∧ (diffN xs ys xs.length : Int) ≤ sl
theorem diff_pre (xs ys : List UInt8) (a b : UInt8) : ∀ k, k ≤ xs.length → k ≤ ys.length → diffN (xs ++ [a]) (ys ++ [b]) k = diffN xs ys k
 | 0, _, _ => rfl
 | k + 1, h1, h2 => by
  unfold diffN
  rw [diff_pre xs ys a b k (by omega) (by omega)]
  have e1 : (xs ++ [a]).getD k 0 = xs.getD k 0 := by rw [List.getD_eq_getElem?_getD, List.getD_eq_getElem?_getD, List.getElem?_append_left (by omega)]
  have e2 : (ys ++ [b]).getD k 0 = ys.getD k 0 := by rw [List.getD_eq_getElem?_getD, List.getD_eq_getElem?_getD, List.getElem?_append_left (by omega)]
  rw [e1, e2]
theorem HeardL.snoc {l : List ByteArray} {xs ys : List UInt8} {sl sl' : Int} {a b : UInt8} (h : HeardL l xs ys sl) (hab : alikeB l a b = true) (hs : sl + (if a = b then 0 else 1) ≤ sl') : HeardL l (xs ++ [a]) (ys ++ [b]) sl' := by
 obtain ⟨h1, h2, h3⟩ := h
 have ea : (xs ++ [a]).getD xs.length 0 = a := by rw [List.getD_eq_getElem?_getD]; simp
 have eb : (ys ++ [b]).getD xs.length 0 = b := by rw [List.getD_eq_getElem?_getD, h1]; simp
 refine ⟨by simp [h1], ?_, ?_⟩
 ·unfold allB at h2 ⊢
  rw [List.length_append, List.length_singleton, List.range_succ, List.all_append, Bool.and_eq_true]
  refine ⟨?_, by simp only [List.all_cons, List.all_nil, Bool.and_true]; rw [ea, eb]; exact hab⟩
  rw [List.all_eq_true] at h2 ⊢
  intro i hi
  have hi' := List.mem_range.1 hi
  have e1 : (xs ++ [a]).getD i 0 = xs.getD i 0 := by rw [List.getD_eq_getElem?_getD, List.getD_eq_getElem?_getD, List.getElem?_append_left (by omega)]
  have e2 : (ys ++ [b]).getD i 0 = ys.getD i 0 := by rw [List.getD_eq_getElem?_getD, List.getD_eq_getElem?_getD, List.getElem?_append_left (by omega)]
  rw [e1, e2]
  exact h2 i hi
 ·rw [List.length_append, List.length_singleton]
  unfold diffN
  rw [diff_pre xs ys a b _ (Nat.le_refl _) (by omega), ea, eb]
  by_cases e : a = b
  ·rw [if_pos e] at hs; rw [if_pos (by simpa using e)]; omega
  ·rw [if_neg e] at hs; rw [if_neg (by simpa using e)]; omega
theorem HeardL.ap {l : List ByteArray} {xs ys : List UInt8} {sl lim : Int} (h : HeardL l xs ys sl) (hs : sl ≤ lim) : (apR l lim xs ys).2 = true := by
 obtain ⟨h1, h2, h3⟩ := h
 unfold apR
 rw [if_pos ⟨h1, h2, by omega⟩]
theorem ap_range (l : List ByteArray) {sl : Int} (hs : 0 ≤ sl) (x y : List UInt8) : 0 ≤ (apR l sl x y).1 ∧ (apR l sl x y).1 ≤ sl := by
 unfold apR
 split
 ·rename_i h; exact ⟨by simp, h.2.2⟩
 ·exact ⟨by simp, hs⟩
theorem HeardL.mono {l : List ByteArray} {xs ys : List UInt8} {sl sl' : Int} (h : HeardL l xs ys sl) (hs : sl ≤ sl') : HeardL l xs ys sl' := ⟨h.1, h.2.1, by have := h.2.2; omega⟩
theorem kept_yes {m : ByteArray} {x : UInt8} (f : List UInt8) (h : standsB m x = true) : keptL m (f ++ [x]) = keptL m f := by
 unfold keptL
 rw [List.filter_append]
 simp [h]
theorem kept_no {m : ByteArray} {x : UInt8} (f : List UInt8) (h : standsB m x = false) : keptL m (f ++ [x]) = keptL m f ++ [x] := by
 unfold keptL
 rw [List.filter_append]
 simp [h]
theorem ext_one (s : ByteArray) (k : Nat) (h : k < s.size) : s.extract k (k + 1) = ⟨#[s[k]]⟩ := by
 have h1 := str_snoc [] s k h
 have h2 : (ByteArray.mk ([] : List UInt8).toArray) ++ s.extract k (k + 1) = s.extract k (k + 1) := by
  apply ByteArray.ext
  apply Array.ext'
  rw [ByteArray.data_append, Array.toList_append]
  rfl
 rw [← h2, h1]
 rfl
theorem spk_false (m c : ByteArray) (n j : Nat) (h : spk m c n = true) (hj : j < n) : ¬ m.extract j (j + 1) = c := by
 induction n with
 | zero => omega
 | succ n ih =>
  unfold spk at h
  rw [Bool.and_eq_true] at h
  by_cases e : j = n
  ·subst e
   intro hc
   rw [hc] at h
   simp at h
  ·exact ih h.1 (by omega)
theorem spk_mute {m g : ByteArray} {k : Nat} (hk : k < g.size) (h : spk m (g.extract k (k + 1)) m.size = true) : standsB m g[k] = false := by
 cases hs : standsB m g[k] with
 | false => rfl
 | true =>
  rw [standsB_eq] at hs
  unfold hasC at hs
  rw [List.contains_iff_mem] at hs
  obtain ⟨j, hj, e⟩ := List.getElem_of_mem hs
  have hj' : j < m.size := by simpa using hj
  have e1 : m.data.toList[j] = m[j] := by rw [← byte_at m j hj', List.getD_eq_getElem?_getD, List.getElem?_eq_getElem hj]; rfl
  exact absurd (by rw [ext_one m j hj', ext_one g k hk, ← e1, e]) (spk_false m _ _ j h hj')
theorem alike_in {l : List ByteArray} {g : ByteArray} (hg : g ∈ l) {i j : Nat} (hi : i < g.size) (hj : j < g.size) : alikeB l g[i] g[j] = true := by
 unfold alikeB
 rw [Bool.or_eq_true, List.any_eq_true]
 refine .inr ⟨g, hg, ?_⟩
 have hm : ∀ k (hk : k < g.size), standsB g g[k] = true := fun k hk => by
  rw [standsB_eq]
  unfold hasC
  rw [List.contains_iff_mem]
  have hk' : k < g.data.toList.length := by simpa using hk
  have e1 : g.data.toList[k] = g[k] := by rw [← byte_at g k hk, List.getD_eq_getElem?_getD, List.getElem?_eq_getElem hk']; rfl
  exact e1 ▸ List.getElem_mem hk'
 rw [hm i hi, hm j hj]; rfl
/-- the letter that is said for another one, so far -/
def AltS (l : List ByteArray) (mu : ByteArray) (q : Bool) (x : UInt8) (sl lim : Int) (src : ByteArray) (p : Nat) (sl2 : Int) : Prop :=
 ∃ y : UInt8, (∃ h : p < src.size, src[p] = y) ∧ alikeB l x y = true ∧ (y = x ∨ (q = false ∧ standsB mu y = false)) ∧ sl + (if x = y then 0 else 1) ≤ sl2 ∧ sl2 ≤ lim
end Go.Proofs.Ytbimkcjdodgojaa
