/- Slope: the sights that must be wrong are the fewest, the first ones of several (maths). -/
import Derived.Test.YtkhmcofmjjmjhaaDoorKTSm

namespace Go.Proofs.YtkhmcofmjjmjhaaDoor
set_option linter.unusedSimpArgs false
set_option linter.unusedVariables false
open Go Go.RowKit
/-- strictly increasing numbers from one on, below another one -/
def IncN : Nat → Nat → List Nat → Prop
 | _, _, [] => True
 | s, n, x :: t => s ≤ x ∧ x < n ∧ IncN (x + 1) n t
def lessN : List Nat → List Nat → Bool
 | [], [] => false
 | [], _ :: _ => true
 | _ :: _, [] => false
 | x :: a, y :: b => if x < y then true else if y < x then false else lessN a b
theorem incN_len : ∀ {s n : Nat} {u : List Nat}, IncN s n u → u.length ≤ n - s
 | _, _, [], _ => Nat.zero_le _
 | s, n, x :: t, ⟨h1, h2, h3⟩ => by
  have := incN_len h3
  simp only [List.length_cons]; omega
theorem incN_range (n : Nat) : ∀ (m s : Nat), s + m ≤ n → IncN s n (List.range' s m)
 | 0, _, _ => trivial
 | m + 1, s, h => by
  rw [List.range'_succ]
  exact ⟨Nat.le_refl _, by omega, incN_range n m (s + 1) (by omega)⟩
theorem IncN.mono {s s' n : Nat} (h : s ≤ s') : ∀ {u : List Nat}, IncN s' n u → IncN s n u
 | [], _ => trivial
 | _ :: _, ⟨h1, h2, h3⟩ => ⟨by omega, h2, h3⟩
/-- the search for fewer: with a list so far, from a number on, and the best one so far -/
def leaP (C : List Nat → Bool) (n : Nat) : Nat → List Nat → Nat → List Nat → List Nat
 | 0, _, _, best => best
 | d + 1, out, k, best => if best.length ≤ out.length then best else if C out then out else (List.range' k (n - k)).foldl (fun best i => leaP C n d (out ++ [i]) (i + 1) best) best
def wroP (C : List Nat → Bool) (n : Nat) : List Nat := leaP C n (n + 1) [] 0 (List.range n)
/-- r is the first one of the shortest that go on from a list, if there is one shorter than the best one -/
def Fst (C : List Nat → Bool) (out best r : List Nat) (S : List Nat → Prop) : Prop :=
 (r = best ∧ ∀ u, S u → C (out ++ u) = true → best.length ≤ out.length + u.length) ∨
 (∃ t, r = out ++ t ∧ S t ∧ C r = true ∧ r.length < best.length ∧ ∀ u, S u → C (out ++ u) = true → r.length ≤ out.length + u.length ∧ (out.length + u.length = r.length → lessN u t = false))
theorem lessN_irr : ∀ (u : List Nat), lessN u u = false
 | [] => rfl
 | x :: u => by simp [lessN, lessN_irr u]
theorem leaP_fst (C : List Nat → Bool) (n : Nat) : ∀ (d : Nat) (out : List Nat) (k : Nat) (best : List Nat), n - k < d → Fst C out best (leaP C n d out k best) (IncN k n)
 | 0, _, _, _, h => absurd h (by omega)
 | d + 1, out, k, best, hd => by
  unfold leaP
  by_cases h1 : best.length ≤ out.length
  ·rw [if_pos h1]
   exact .inl ⟨rfl, fun u _ _ => by omega⟩
  ·rw [if_neg h1]
   by_cases h2 : C out = true
   ·rw [if_pos h2]
    refine .inr ⟨[], by simp, trivial, h2, by omega, fun u _ _ => ⟨by omega, fun e => ?_⟩⟩
    have : u = [] := List.eq_nil_of_length_eq_zero (by omega)
    subst this; rfl
   ·rw [if_neg h2]
    have key : ∀ (m i : Nat) (b : List Nat), k ≤ i → i + m = n → Fst C out b ((List.range' i m).foldl (fun best i => leaP C n d (out ++ [i]) (i + 1) best) b) (fun u => u ≠ [] ∧ IncN i n u) := by
     intro m
     induction m with
     | zero =>
      intro i b hi he
      refine .inl ⟨rfl, fun u hu _ => ?_⟩
      cases u with
      | nil => exact absurd rfl hu.1
      | cons x u => have := hu.2.1; have := hu.2.2.1; omega
     | succ m ih =>
      intro i b hi he
      rw [List.range'_succ, List.foldl_cons]
      have h3 := leaP_fst C n d (out ++ [i]) (i + 1) b (by omega)
      have h4 := ih (i + 1) (leaP C n d (out ++ [i]) (i + 1) b) (by omega) (by omega)
      obtain ⟨b1, hb1⟩ : ∃ b1, leaP C n d (out ++ [i]) (i + 1) b = b1 := ⟨_, rfl⟩
      rw [hb1] at h3 h4 ⊢
      obtain ⟨r, hr⟩ : ∃ r, (List.range' (i + 1) m).foldl (fun best i => leaP C n d (out ++ [i]) (i + 1) best) b1 = r := ⟨_, rfl⟩
      rw [hr] at h4 ⊢
      clear hb1 hr
      -- those that begin with i
      have hat : ∀ u, u ≠ [] → IncN i n u → (∃ v, u = i :: v ∧ IncN (i + 1) n v) ∨ IncN (i + 1) n u := fun u hu h => by
       cases u with
       | nil => exact absurd rfl hu
       | cons x u =>
        by_cases e : x = i
        ·subst e; exact .inl ⟨u, rfl, h.2.2⟩
        ·exact .inr ⟨by have := h.1; omega, h.2.1, h.2.2⟩
      have hlen : ∀ v : List Nat, (out ++ [i]).length + v.length = out.length + (i :: v).length := fun v => by simp; omega
      have happ : ∀ v : List Nat, (out ++ [i]) ++ v = out ++ i :: v := fun v => by simp
      have hgt : ∀ (v : List Nat) (u : List Nat), u ≠ [] → IncN (i + 1) n u → lessN u (i :: v) = false := fun v u hu h => by
       cases u with
       | nil => exact absurd rfl hu
       | cons x u =>
        have := h.1
        simp only [lessN]
        rw [if_neg (by omega), if_pos (by omega)]
      rcases h4 with ⟨rfl, h4⟩ | ⟨t, rfl, ⟨ht0, ht⟩, h6, h7, h8⟩
      ·rcases h3 with ⟨rfl, h3⟩ | ⟨t, rfl, ht, h6, h7, h8⟩
       ·refine .inl ⟨rfl, fun u hu hC => ?_⟩
        rcases hat u hu.1 hu.2 with ⟨v, rfl, hv⟩ | hv
        ·have := h3 v hv (by rw [happ]; exact hC)
         rw [hlen] at this; exact this
        ·exact h4 u ⟨hu.1, hv⟩ hC
       ·refine .inr ⟨i :: t, happ t, ⟨by simp, Nat.le_refl _, by omega, ht⟩, h6, h7, fun u hu hC => ?_⟩
        rcases hat u hu.1 hu.2 with ⟨v, rfl, hv⟩ | hv
        ·have h9 := h8 v hv (by rw [happ]; exact hC)
         rw [hlen] at h9
         refine ⟨h9.1, fun e => ?_⟩
         have := h9.2 e
         simp only [lessN]
         rw [if_neg (by omega), if_neg (by omega)]
         exact this
        ·exact ⟨h4 u ⟨hu.1, hv⟩ hC, fun _ => hgt _ _ hu.1 hv⟩
      ·refine .inr ⟨t, rfl, ⟨ht0, ht.mono (by omega)⟩, h6, ?_, fun u hu hC => ?_⟩
       ·rcases h3 with ⟨rfl, _⟩ | ⟨_, _, _, _, h9, _⟩
        ·exact h7
        ·omega
       ·rcases hat u hu.1 hu.2 with ⟨v, rfl, hv⟩ | hv
        ·have hb : b1.length ≤ out.length + (i :: v).length := by
          rcases h3 with ⟨rfl, h3⟩ | ⟨t', rfl, _, _, _, h8'⟩
          ·have := h3 v hv (by rw [happ]; exact hC)
           rw [hlen] at this; exact this
          ·have := (h8' v hv (by rw [happ]; exact hC)).1
           rw [hlen] at this; exact this
         exact ⟨by omega, fun e => by omega⟩
        ·exact h8 u ⟨hu.1, hv⟩ hC
    by_cases hk : k ≤ n
    ·rcases key (n - k) k best (Nat.le_refl _) (by omega) with ⟨h3, h4⟩ | ⟨t, h3, h4, h5, h6, h7⟩
     ·refine .inl ⟨h3, fun u hu hC => ?_⟩
      by_cases e : u = []
      ·subst e; rw [List.append_nil] at hC; exact absurd hC h2
      ·exact h4 u ⟨e, hu⟩ hC
     ·refine .inr ⟨t, h3, h4.2, h5, h6, fun u hu hC => ?_⟩
      by_cases e : u = []
      ·subst e; rw [List.append_nil] at hC; exact absurd hC h2
      ·exact h7 u ⟨e, hu⟩ hC
    ·rw [show n - k = 0 by omega]
     refine .inl ⟨rfl, fun u hu hC => ?_⟩
     cases u with
     | nil => rw [List.append_nil] at hC; exact absurd hC h2
     | cons x u => have := hu.1; have := hu.2.1; omega
theorem less_range : ∀ (u : List Nat) (m s : Nat), IncN s (s + m) u → u.length = m → u = List.range' s m
 | [], m, s, _, h => by simp at h; subst h; rfl
 | x :: u, m, s, ⟨h1, h2, h3⟩, h => by
  cases m with
  | zero => simp at h
  | succ m =>
   have h4 := incN_len h3
   simp only [List.length_cons] at h
   obtain rfl : x = s := by omega
   rw [List.range'_succ, less_range u m (x + 1) (by rw [show x + 1 + m = x + (m + 1) by omega]; exact h3) (by omega)]
/-- what is asked of Wrong -/
theorem wroP_law (C : List Nat → Bool) (n : Nat) (hall : C (List.range n) = true) : IncN 0 n (wroP C n) ∧ C (wroP C n) = true ∧ ∀ u, IncN 0 n u → C u = true → (wroP C n).length ≤ u.length ∧ (u.length = (wroP C n).length → lessN u (wroP C n) = false) := by
 rcases leaP_fst C n (n + 1) [] 0 (List.range n) (by omega) with ⟨h1, h2⟩ | ⟨t, h1, h2, h3, h4, h5⟩
 ·have hw : wroP C n = List.range n := h1
  rw [hw]
  refine ⟨by rw [List.range_eq_range']; exact incN_range n n 0 (by omega), hall, fun u hu hC => ?_⟩
  have h3 := h2 u hu (by simpa using hC)
  simp only [List.length_range, List.length_nil, Nat.zero_add] at h3 ⊢
  refine ⟨h3, fun e => ?_⟩
  have := less_range u n 0 (by simpa using hu) e
  rw [List.range_eq_range', ← this]
  exact lessN_irr u
 ·have hw2 : leaP C n (n + 1) [] 0 (List.range n) = t := by simpa using h1
  have hw : wroP C n = t := hw2
  rw [hw2] at h3 h5
  rw [hw]
  exact ⟨h2, h3, fun u hu hC => by simpa using h5 u hu (by simpa using hC)⟩
theorem leaP_le (C : List Nat → Bool) (n : Nat) (d : Nat) (out : List Nat) (k : Nat) (best : List Nat) (h : n - k < d) : (leaP C n d out k best).length ≤ best.length := by
 rcases leaP_fst C n d out k best h with ⟨h1, _⟩ | ⟨t, _, _, _, h4, _⟩
 ·rw [h1]; exact Nat.le_refl _
 ·omega
end Go.Proofs.YtkhmcofmjjmjhaaDoor
