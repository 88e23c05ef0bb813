/- Slope: the maths of the law SlopeWrong. -/
import Derived.Test.YtkhmcofmjjmjhaaDoorScd
namespace Go.Proofs.YtkhmcofmjjmjhaaDoor
set_option linter.unusedSimpArgs false
set_option linter.unusedVariables false
open Go Go.RowKit
attribute [local go_sem high] cell_set_wr
attribute [local go_sem low] cell_wr frozen_wr
attribute [local go_sem] wr_set wr_drew wr_drewN wr_alloc wr_new Rho.c Rho.n Rho.g

theorem tru_ex {b : Sb} (hb : OkB b) (h0 : b.sights = []) : ∀ (hs : List Hr) (i l : Nat), (∀ h ∈ hs, h ∈ b.hours) → ∃ t, Tru b i hs l t
 | [], _, _, _ => ⟨[], trivial⟩
 | h :: hs, i, l, hm => by
  have hh := hm h (by simp)
  obtain ⟨h1, h2, h3⟩ := hb.hour h hh
  have hB : Brings b.sl h (b.sl.snow * h.n1 + b.sl.wind * h.w1 + b.sl.sun * h.s1) := ⟨h.n1, h.w1, h.s1, ⟨Int.le_refl _, by omega⟩, ⟨Int.le_refl _, by omega⟩, ⟨Int.le_refl _, by omega⟩, rfl⟩
  obtain ⟨h4, _⟩ := brings_to hb hh hB
  generalize b.sl.snow * h.n1 + b.sl.wind * h.w1 + b.sl.sun * h.s1 = n at hB h4
  have h5 : ((max ((l : Int) - b.sl.settle) 0 + n).toNat : Int) = max ((l : Int) - b.sl.settle) 0 + n := by omega
  obtain ⟨t, ht⟩ := tru_ex hb h0 hs (i + 1) (max ((l : Int) - b.sl.settle) 0 + n).toNat (fun x hx => hm x (by simp [hx]))
  refine ⟨((max ((l : Int) - b.sl.settle) 0 + n).toNat, false) :: t, ⟨n, hB, h5⟩, by simp, fun s hs => ?_, ht⟩
  rw [h0] at hs
  cases hs
theorem rt_none {b : Sb} (hb : OkB b) (h0 : b.sights = []) : rtB b = true := by
 have hst := hb.start
 obtain ⟨t, ht⟩ := tru_ex hb h0 b.hours 0 b.lo.toNat (fun _ h => h)
 exact (rtB_iff hb).2 ⟨t, b.lo.toNat, by omega, ht⟩
theorem rt_all {b : Sb} (hb : OkB b) : rtB (withoutB b (List.range b.sights.length)) = true := by
 refine rt_none (ok_without hb _) ?_
 rw [withoutB_eq]
 show dropS b.sights (List.range b.sights.length) b.sights.length = []
 unfold dropS
 rw [List.map_eq_nil_iff, List.filter_eq_nil_iff]
 intro i hi
 simp at hi ⊢
 exact hi
theorem without_nil (b : Sb) : withoutB b [] = b := by
 rw [withoutB_eq]
 have : dropS b.sights [] b.sights.length = b.sights := by
  unfold dropS
  rw [List.filter_eq_self.2 (by simp)]
  apply List.ext_getElem
  ·simp
  ·intro i h1 h2
   simp [List.getD_eq_getElem?_getD, h2]
 rw [this]
theorem IncN.ge {s n : Nat} : ∀ {l : List Nat}, IncN s n l → ∀ k (h : k < l.length), s ≤ l[k] ∧ l[k] < n ∧ ∀ (h0 : 0 < k), l[k - 1] < l[k]
 | [], _, k, h => absurd h (by simp)
 | x :: t, hI, 0, h => ⟨hI.1, hI.2.1, fun h0 => absurd h0 (by simp)⟩
 | x :: t, hI, k + 1, h => by
  have ih := IncN.ge hI.2.2
  have h' : k < t.length := by simpa using h
  obtain ⟨h1, h2, h3⟩ := ih k h'
  simp only [List.getElem_cons_succ]
  refine ⟨by have := hI.1; omega, h2, fun _ => ?_⟩
  cases k with
  | zero => simp only [Nat.zero_add, Nat.sub_self, List.getElem_cons_zero]; omega
  | succ k => have := h3 (by omega); simpa using this
theorem climbs_inc {n : Nat} {l : List Nat} (h : IncN 0 n l) : Climbs (l.map fun (n : Nat) => (n : Int)) n := by
 intro k hk
 rw [List.length_map] at hk
 obtain ⟨_, h2, h3⟩ := h.ge k hk
 simp only [List.getElem_map]
 exact ⟨by omega, by omega, fun h0 => by have := h3 h0; omega⟩
theorem inc_filter (p : Nat → Bool) (n : Nat) : ∀ (m s : Nat), s + m ≤ n → IncN s n ((List.range' s m).filter p)
 | 0, _, _ => trivial
 | m + 1, s, h => by
  have ih := inc_filter p n m (s + 1) (by omega)
  rw [List.range'_succ, List.filter_cons]
  split
  ·exact ⟨Nat.le_refl _, by omega, ih⟩
  ·have up : ∀ {l : List Nat} {a c : Nat}, c ≤ a → IncN a n l → IncN c n l := by
    intro l a c hca hI
    cases l with
    | nil => trivial
    | cons x t => exact ⟨Nat.le_trans hca hI.1, hI.2⟩
   exact up (by omega) ih
theorem wro_facts {b : Sb} (hb : OkB b) : IncN 0 b.sights.length (wroB b) ∧ rtB (withoutB b (wroB b)) = true ∧ ∀ u, IncN 0 b.sights.length u → rtB (withoutB b u) = true → (wroB b).length ≤ u.length ∧ (u.length = (wroB b).length → lessN u (wroB b) = false) :=
 wroP_law (fun out => rtB (withoutB b out)) b.sights.length (rt_all hb)
theorem wro_empty {b : Sb} (hb : OkB b) : decide ((wroB b).length = 0) = rtB b := by
 obtain ⟨_, h2, h3⟩ := wro_facts hb
 rw [Bool.eq_iff_iff, decide_eq_true_eq]
 constructor
 ·intro h
  have e : wroB b = [] := List.eq_nil_of_length_eq_zero h
  rw [e, without_nil] at h2
  exact h2
 ·intro h
  have := (h3 [] trivial (by rw [without_nil]; exact h)).1
  simpa using this
theorem wro_other {b : Sb} (hb : OkB b) {u : List Nat} (hu : IncN 0 b.sights.length u) (h : u.length < (wroB b).length ∨ u.length = (wroB b).length ∧ lessN u (wroB b) = true) : rtB (withoutB b u) = false := by
 cases hr : rtB (withoutB b u) with
 | false => rfl
 | true =>
  obtain ⟨h1, h2⟩ := (wro_facts hb).2.2 u hu hr
  rcases h with h | ⟨h, h'⟩
  ·omega
  ·rw [h2 h] at h'; cases h'
end Go.Proofs.YtkhmcofmjjmjhaaDoor
