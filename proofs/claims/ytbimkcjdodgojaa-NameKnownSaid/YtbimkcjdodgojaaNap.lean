/- Name: all truths counted. -/
import Derived.Test.YtbimkcjdodgojaaNao
import Derived.Test.YtbimkcjdodgojaaNaj
namespace Go.Proofs.Ytbimkcjdodgojaa
set_option linter.unusedSimpArgs false
set_option linter.unusedVariables false
open Go Go.RowKit
attribute [local go_sem high] cell_set_wr
attribute [local go_sem low] cell_wr frozen_wr
attribute [local go_sem] wr_set wr_drew wr_drewN wr_alloc wr_new

/-- in how many truths a line has a match -/
def cntP (n : Nat) (ts : List Prs) (l o : Int) : Int := if 0 ≤ l ∧ l < n then ((ts.filter fun t => matchP t l.toNat == o).length : Int) else 0
/-- the same, and of one more truth the first lines -/
def cntJ (n : Nat) (ts : List Prs) (x : Prs) (j : Nat) (l o : Int) : Int := cntP n ts l o + (if (0 ≤ l ∧ l < j) ∧ matchP x l.toNat = o then 1 else 0)
theorem cntP_nil (n : Nat) : cntP n [] = fun _ _ => 0 := by funext l o; simp [cntP]
theorem cntJ_zero (n : Nat) (ts : List Prs) (x : Prs) : cntJ n ts x 0 = cntP n ts := by
 funext l o
 unfold cntJ
 rw [if_neg (by omega)]; omega
theorem cntJ_all (n : Nat) (ts : List Prs) (x : Prs) : cntJ n ts x n = cntP n (ts ++ [x]) := by
 funext l o
 unfold cntJ cntP
 by_cases h : 0 ≤ l ∧ l < n
 ·rw [if_pos h, if_pos h, List.filter_append, List.length_append]
  by_cases e : matchP x l.toNat = o
  ·simp [e, h]
  ·have : (matchP x l.toNat == o) = false := by simpa using e
   simp [e, this]
 ·rw [if_neg h, if_neg h, if_neg (fun h' => h h'.1)]; rfl
theorem cntJ_succ (n : Nat) (ts : List Prs) (x : Prs) (j : Nat) : updc (cntJ n ts x j) j (matchP x j) (cntJ n ts x j j (matchP x j) + 1) = cntJ n ts x (j + 1) := by
 funext l o
 unfold updc
 by_cases h : l = j ∧ o = matchP x j
 ·rw [if_pos h]
  obtain ⟨rfl, rfl⟩ := h
  unfold cntJ
  rw [if_neg (by omega), if_pos ⟨by omega, by simp⟩]; omega
 ·rw [if_neg h]
  unfold cntJ
  congr 1
  by_cases h2 : (0 ≤ l ∧ l < (j : Int)) ∧ matchP x l.toNat = o
  ·rw [if_pos h2, if_pos ⟨by omega, h2.2⟩]
  ·rw [if_neg h2, if_neg]
   rintro ⟨h3, h4⟩
   by_cases e : l = j
   ·subst e
    exact h ⟨rfl, by simpa using h4.symm⟩
   ·exact h2 ⟨by omega, h4⟩
theorem cntP_le (n : Nat) (ts : List Prs) (l o : Int) : 0 ≤ cntP n ts l o ∧ cntP n ts l o ≤ ts.length := by
 unfold cntP
 split
 ·have := List.length_filter_le (fun t => matchP t l.toNat == o) ts
  omega
 ·omega
theorem cntJ_le (n : Nat) (ts : List Prs) (x : Prs) (j : Nat) (l o : Int) : 0 ≤ cntJ n ts x j l o ∧ cntJ n ts x j l o ≤ ts.length + 1 := by
 have := cntP_le n ts l o
 unfold cntJ
 split <;> omega
def peopleP (n : Nat) (ts : List Prs) : List Int := ts.map fun t => (n : Int) - t.length
theorem peopleP_snoc (n : Nat) (ts : List Prs) (x : Prs) : peopleP n (ts ++ [x]) = peopleP n ts ++ [(n : Int) - x.length] := by simp [peopleP]
/-- there are not too many truths -/
theorem fromP_len (n : Nat) (lost : Int) (cs : List (List Nat)) (hcs : ∀ k, (cs.getD k []).length ≤ 9) : ∀ (r k : Nat) (t : Prs), (fromP n lost cs r k t).length ≤ 10 ^ r
 | 0, k, t => by unfold fromP; split <;> simp
 | r + 1, k, t => by
  unfold fromP
  rw [List.length_append]
  have h1 := fromP_len n lost cs hcs r (k + 1) t
  have h2 : ∀ l : List Nat, (l.flatMap fun o => fromP n lost cs r (k + 1) (t ++ [(k, o)])).length ≤ l.length * 10 ^ r := fun l => by
   induction l with
   | nil => simp
   | cons o l ih =>
    rw [List.flatMap_cons, List.length_append, List.length_cons, Nat.add_mul, Nat.one_mul]
    have := fromP_len n lost cs hcs r (k + 1) (t ++ [(k, o)])
    omega
  have h3 := h2 ((cs.getD k []).filter fun o => !usedP t o)
  have h4 : ((cs.getD k []).filter fun o => !usedP t o).length ≤ 9 := Nat.le_trans (List.length_filter_le _ _) (hcs k)
  have h5 : ((cs.getD k []).filter fun o => !usedP t o).length * 10 ^ r ≤ 9 * 10 ^ r := Nat.mul_le_mul_right _ h4
  rw [Nat.pow_succ]
  omega
theorem fromP_tlen (n : Nat) (lost : Int) (cs : List (List Nat)) : ∀ (r k : Nat) (t : Prs), ∀ x ∈ fromP n lost cs r k t, x.length ≤ t.length + r
 | 0, k, t, x, h => by
  unfold fromP at h
  split at h
  ·simp at h; subst h; omega
  ·cases h
 | r + 1, k, t, x, h => by
  unfold fromP at h
  rcases List.mem_append.1 h with h | h
  ·rw [List.mem_flatMap] at h
   obtain ⟨o, _, ho⟩ := h
   have := fromP_tlen n lost cs r (k + 1) _ x ho
   simp at this; omega
  ·have := fromP_tlen n lost cs r (k + 1) t x h
   omega
/-- the state while truths are counted -/
structure CntS (BK : List Value) (n C Mb R : Nat) (w : World) (ts : List Prs) (M : Nat → Prop) (V : World) : Prop where
 c : ∃ A' c', M = (fun k => k = C ∨ k = Mb ∨ A'.map (·.block) = some k) ∧ Row V C (BK ++ [.slice A' ts.length c', .map (some Mb)]) ∧ V.ownsRow (C + 1) 3 1 (.slice A' ts.length c') ts.length (ints (peopleP n ts))
 m : Tal V Mb (ts.length * 9) (cntP n ts)
 lt : C < V.heap.size ∧ Mb < C ∧ R < C ∧ R < V.heap.size
 b : Below w.heap.size w V
end Go.Proofs.Ytbimkcjdodgojaa
