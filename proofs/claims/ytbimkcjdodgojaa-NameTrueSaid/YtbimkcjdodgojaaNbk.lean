/- Name: the lines that must be wrong are the fewest, the first ones of several. -/
import Derived.Test.YtbimkcjdodgojaaNax
import Derived.Test.YtbimkcjdodgojaaBn
namespace Go.Proofs.Ytbimkcjdodgojaa
set_option linter.unusedSimpArgs false
set_option linter.unusedVariables false
open Go Go.RowKit

/-- strictly increasing numbers from one on, below another one -/
def IncN : Nat → Nat → List Nat → Prop
 | _, _, [] => True
 | s, n, x :: t => s ≤ x ∧ x < n ∧ IncN (x + 1) n t
def lessN : List Nat → List Nat → Bool
 | [], [] => false
 | [], _ :: _ => true
 | _ :: _, [] => false
 | x :: a, y :: b => if x < y then true else if y < x then false else lessN a b
theorem lessN_int : ∀ (a b : List Nat), lessB (a.map fun (n : Nat) => (n : Int)) (b.map fun (n : Nat) => (n : Int)) = lessN a b
 | [], [] => rfl
 | [], _ :: _ => rfl
 | _ :: _, [] => rfl
 | x :: a, y :: b => by
  simp only [List.map_cons, lessB, lessN, lessN_int a b]
  by_cases h1 : x < y
  ·rw [if_pos h1, if_pos (by omega)]
  ·rw [if_neg h1, if_neg (by omega)]
   by_cases h2 : y < x
   ·rw [if_pos h2, if_pos (by omega)]
   ·rw [if_neg h2, if_neg (by omega)]
theorem findSome_range {α : Type} {g : Nat → Option α} {a : α} : ∀ (m n : Nat), (List.range' n m).findSome? g = some a → ∃ j, n ≤ j ∧ j < n + m ∧ g j = some a ∧ ∀ k, n ≤ k → k < j → g k = none
 | 0, n, h => by simp at h
 | m + 1, n, h => by
  rw [List.range'_succ, List.findSome?_cons] at h
  cases hg : g n with
  | some b =>
   rw [hg] at h
   obtain rfl := Option.some.inj h
   exact ⟨n, Nat.le_refl _, by omega, hg, fun k h1 h2 => by omega⟩
  | none =>
   rw [hg] at h
   obtain ⟨j, h1, h2, h3, h4⟩ := findSome_range m (n + 1) h
   refine ⟨j, by omega, by omega, h3, fun k hk1 hk2 => ?_⟩
   by_cases e : k = n
   ·subst e; exact hg
   ·exact h4 k (by omega) hk2
theorem addL_mem {size count : Nat} : ∀ (f : Nat) (li : List Nat) (n : Nat) (u : List Nat), IncN n count u → li.length + u.length = size → u.length ≤ f → li ++ u ∈ addL size count f li n
 | 0, li, n, u, _, hl, hf => by
  obtain rfl : u = [] := List.eq_nil_of_length_eq_zero (by omega)
  unfold addL
  rw [if_pos (by simpa using hl)]
  simp
 | f + 1, li, n, [], _, hl, _ => by
  unfold addL
  rw [if_pos (by simpa using hl)]
  simp
 | f + 1, li, n, x :: t, ⟨h1, h2, h3⟩, hl, hf => by
  unfold addL
  simp only [List.length_cons] at hl hf
  rw [if_neg (by omega), List.mem_flatMap]
  refine ⟨x, List.mem_range'_1.2 ⟨h1, by omega⟩, ?_⟩
  have := addL_mem (size := size) (count := count) f (li ++ [x]) (x + 1) t h3 (by simp; omega) (by omega)
  simpa using this
theorem addL_first {size count : Nat} {p : List Nat → Bool} : ∀ (f : Nat) (li : List Nat) (n : Nat) (r : List Nat), size ≤ li.length + f → (addL size count f li n).find? p = some r →
    ∃ t, r = li ++ t ∧ IncN n count t ∧ p r = true ∧ ∀ u, IncN n count u → li.length + u.length = size → lessN u t = true → p (li ++ u) = false := fun f => by
 induction f with
 | zero =>
  intro li n r hf h
  unfold addL at h
  split at h
  ·rename_i hl
   have hp := List.find?_some h
   have hm := List.mem_of_find?_eq_some h
   rw [List.mem_singleton] at hm
   subst hm
   refine ⟨[], by simp, trivial, hp, fun u _ hul hlt => ?_⟩
   obtain rfl : u = [] := List.eq_nil_of_length_eq_zero (by omega)
   cases hlt
  ·simp at h
 | succ f ih =>
  intro li n r hf h
  unfold addL at h
  split at h
  ·rename_i hl
   have hp := List.find?_some h
   have hm := List.mem_of_find?_eq_some h
   rw [List.mem_singleton] at hm
   subst hm
   refine ⟨[], by simp, trivial, hp, fun u _ hul hlt => ?_⟩
   obtain rfl : u = [] := List.eq_nil_of_length_eq_zero (by omega)
   cases hlt
  ·rename_i hl
   rw [List.find?_flatMap] at h
   obtain ⟨j, h1, h2, h3, h4⟩ := findSome_range _ _ h
   obtain ⟨t, rfl, ht, hp, hlt⟩ := ih (li ++ [j]) (j + 1) r (by simp; omega) h3
   refine ⟨j :: t, by simp, ⟨h1, by omega, ht⟩, hp, fun u hu hul hless => ?_⟩
   cases u with
   | nil => simp at hul; omega
   | cons x u' =>
    obtain ⟨k1, k2, k3⟩ := hu
    simp only [List.length_cons] at hul
    simp only [lessN] at hless
    by_cases c : x < j
    ·have hno := List.find?_eq_none.1 (h4 x k1 c) (li ++ [x] ++ u') (addL_mem f (li ++ [x]) (x + 1) u' k3 (by simp; omega) (by omega))
     simpa using hno
    ·rw [if_neg c] at hless
     by_cases d : j < x
     ·rw [if_pos d] at hless; cases hless
     ·rw [if_neg d] at hless
      obtain rfl : x = j := by omega
      have := hlt u' k3 (by simp; omega) hless
      simpa using this
theorem incN_len : ∀ {s n : Nat} {u : List Nat}, IncN s n u → u.length ≤ n - s
 | _, _, [], _ => Nat.zero_le _
 | s, n, x :: t, ⟨h1, h2, h3⟩ => by
  have := incN_len h3
  simp only [List.length_cons]; omega
theorem cands_first {n : Nat} {p : List Nat → Bool} {r : List Nat} (h : (candsP n (n + 1)).find? p = some r) :
    IncN 0 n r ∧ p r = true ∧ (∀ u, IncN 0 n u → u.length < r.length → p u = false) ∧ ∀ u, IncN 0 n u → u.length = r.length → lessN u r = true → p u = false := by
 unfold candsP at h
 rw [List.range_eq_range', List.find?_flatMap] at h
 obtain ⟨j, _, h2, h3, h4⟩ := findSome_range _ _ h
 have hl := addL_len _ _ _ _ (List.mem_of_find?_eq_some h3)
 obtain ⟨t, rt, ht, hp, hlt⟩ := addL_first n [] 0 r (by simp; omega) h3
 obtain rfl : r = t := rt
 refine ⟨ht, hp, fun u hu hul => ?_, fun u hu hul hless => ?_⟩
 ·have hno := List.find?_eq_none.1 (h4 u.length (Nat.zero_le _) (by omega)) u (addL_mem n [] 0 u hu (by simp) (by have := incN_len hu; omega))
  simpa using hno
 ·have := hlt u hu (by simp; omega) hless
  simpa using this
theorem incN_range (n : Nat) : ∀ (m s : Nat), s + m ≤ n → IncN s n (List.range' s m)
 | 0, _, _ => trivial
 | m + 1, s, h => by
  rw [List.range'_succ]
  exact ⟨Nat.le_refl _, by omega, incN_range n m (s + 1) (by omega)⟩
theorem without_nil (b : Bk) : b.without [] = b := by
 have : dropK b.lines [] b.lines.length = b.lines := by
  unfold dropK
  rw [List.filter_eq_self.2 (fun x _ => by simp)]
  apply List.ext_getElem (by simp)
  intro i h1 h2
  simp [List.getD_eq_getElem?_getD, h2]
 unfold Bk.without
 rw [this]
theorem without_all (b : Bk) : (b.without (List.range b.lines.length)).lines = [] := by
 show dropK b.lines _ b.lines.length = []
 unfold dropK
 rw [List.map_eq_nil_iff, List.filter_eq_nil_iff]
 intro x hx
 simp [List.mem_range.1 hx]
theorem right_ts (b : Bk) (out : List Nat) : rightP b out = !((b.without out).ts).isEmpty := rfl
theorem right_all {b : Bk} (h : 0 ≤ b.lost) : rightP b (List.range b.lines.length) = true := by
 rw [right_ts]
 unfold Bk.ts
 rw [without_all]
 simp only [List.length_nil]
 unfold fromP
 have : (b.without (List.range b.lines.length)).lost = b.lost := rfl
 rw [this, if_pos (by first | simpa [lostP] using h | (simp [lostP]; omega) | simp [lostP, h])]
 rfl
/-- what the law asks of Wrong -/
theorem wrong_lawN {b : Bk} (h : 0 ≤ b.lost) : IncN 0 b.lines.length (wrongP b) ∧ rightP b (wrongP b) = true ∧ (∀ u, IncN 0 b.lines.length u → u.length < (wrongP b).length → rightP b u = false) ∧
    (∀ u, IncN 0 b.lines.length u → u.length = (wrongP b).length → lessN u (wrongP b) = true → rightP b u = false) ∧ ((wrongP b).length = 0 ↔ b.ts.length ≠ 0) := by
 cases hf : (candsP b.lines.length (b.lines.length + 1)).find? (rightP b) with
 | none =>
  have hm : List.range b.lines.length ∈ candsP b.lines.length (b.lines.length + 1) := by
   unfold candsP
   rw [List.mem_flatMap]
   refine ⟨b.lines.length, List.mem_range.2 (by omega), ?_⟩
   have := addL_mem (size := b.lines.length) (count := b.lines.length) b.lines.length [] 0 (List.range b.lines.length) (by rw [List.range_eq_range']; exact incN_range _ _ _ (by omega)) (by simp) (by simp)
   simpa [listsL] using this
  have := List.find?_eq_none.1 hf _ hm
  rw [right_all h] at this
  exact absurd rfl this
 | some r =>
  have hw : wrongP b = r := by unfold wrongP; rw [hf]; rfl
  rw [hw]
  obtain ⟨h1, h2, h3, h4⟩ := cands_first hf
  refine ⟨h1, h2, h3, h4, fun e => ?_, fun e => ?_⟩
  ·rw [List.eq_nil_of_length_eq_zero e, right_ts, without_nil] at h2
   intro e0
   rw [List.eq_nil_of_length_eq_zero e0] at h2
   cases h2
  ·refine Classical.byContradiction fun hne => ?_
   have := h3 [] trivial (by simp; omega)
   rw [right_ts, without_nil] at this
   cases hts : b.ts with
   | nil => rw [hts] at e; exact e rfl
   | cons x l => rw [hts] at this; cases this
theorem incN_climbs : ∀ {s n : Nat} {l : List Nat}, IncN s n l → ∀ k (hk : k < l.length), s ≤ l[k] ∧ l[k] < n ∧ ∀ (_ : 0 < k), l[k - 1] < l[k]
 | _, _, [], _ => fun k hk => absurd hk (by simp)
 | s, n, x :: t, ⟨h1, h2, h3⟩ => fun k hk => by
  cases k with
  | zero => exact ⟨h1, h2, fun h => absurd h (by omega)⟩
  | succ k =>
   have hk' : k < t.length := by simpa using hk
   obtain ⟨a, b, c⟩ := incN_climbs h3 k hk'
   simp only [List.getElem_cons_succ]
   refine ⟨by omega, b, fun _ => ?_⟩
   cases k with
   | zero => simp; omega
   | succ k => simpa using c (by omega)
theorem incN_climbsI {n : Nat} {l : List Nat} (h : IncN 0 n l) : Climbs (l.map fun (i : Nat) => (i : Int)) n := fun k hk => by
 have hk' : k < l.length := by simpa using hk
 obtain ⟨a, b, c⟩ := incN_climbs h k hk'
 simp only [List.getElem_map]
 exact ⟨by omega, by omega, fun h0 => by have := c h0; omega⟩
/-- the numbers of a set -/
def onesN (s n : Nat) : List Nat := (List.range n).filter fun k => hasB s k
theorem ones_map (s n : Nat) : onesL s n = (onesN s n).map fun (i : Nat) => (i : Int) := rfl
theorem incN_filter (p : Nat → Bool) : ∀ {s n : Nat} {l : List Nat}, IncN s n l → IncN s n (l.filter p)
 | _, _, [], _ => trivial
 | s, n, x :: t, ⟨h1, h2, h3⟩ => by
  rw [List.filter_cons]
  split
  ·exact ⟨h1, h2, incN_filter p h3⟩
  ·have := incN_filter p h3
   revert this
   cases t.filter p with
   | nil => intro _; trivial
   | cons y u => rintro ⟨g1, g2, g3⟩; exact ⟨by omega, g2, g3⟩
theorem incN_ones (s n : Nat) : IncN 0 n (onesN s n) := by
 unfold onesN
 refine incN_filter _ ?_
 rw [List.range_eq_range']
 exact incN_range _ _ _ (by omega)
end Go.Proofs.Ytbimkcjdodgojaa
