/- Slope: the maths of the laws SlopeCrossed, SlopeEnds and SlopeHolds. -/
import Derived.Test.YtkhmcofmjjmjhaaDoorKTScd

namespace Go.Proofs.YtkhmcofmjjmjhaaDoor
set_option linter.unusedSimpArgs false
set_option linter.unusedVariables false
open Go Go.RowKit
attribute [local go_sem high] cell_set_wr
attribute [local go_sem low] cell_wr frozen_wr
attribute [local go_sem] wr_set wr_drew wr_drewN wr_alloc wr_new Rho.c Rho.n Rho.g
theorem tru_ex {b : Sb} (hb : OkB b) (h0 : b.sights = []) : ∀ (hs : List Hr) (i l : Nat), (∀ h ∈ hs, h ∈ b.hours) → ∃ t, Tru b i hs l t
 | [], _, _, _ => ⟨[], trivial⟩
 | h :: hs, i, l, hm => by
  have hh := hm h (by simp)
  obtain ⟨h1, h2, h3⟩ := hb.hour h hh
  have hB : Brings b.sl h (b.sl.snow * h.n1 + b.sl.wind * h.w1 + b.sl.sun * h.s1) := ⟨h.n1, h.w1, h.s1, ⟨Int.le_refl _, by omega⟩, ⟨Int.le_refl _, by omega⟩, ⟨Int.le_refl _, by omega⟩, rfl⟩
  obtain ⟨h4, _⟩ := brings_to hb hh hB
  generalize b.sl.snow * h.n1 + b.sl.wind * h.w1 + b.sl.sun * h.s1 = n at hB h4
  have h5 : ((max ((l : Int) - b.sl.settle) 0 + n).toNat : Int) = max ((l : Int) - b.sl.settle) 0 + n := by omega
  obtain ⟨t, ht⟩ := tru_ex hb h0 hs (i + 1) (max ((l : Int) - b.sl.settle) 0 + n).toNat (fun x hx => hm x (by simp [hx]))
  refine ⟨((max ((l : Int) - b.sl.settle) 0 + n).toNat, false) :: t, ⟨n, hB, h5⟩, by simp, fun s hs => ?_, ht⟩
  rw [h0] at hs
  cases hs
theorem rt_none {b : Sb} (hb : OkB b) (h0 : b.sights = []) : rtB b = true := by
 have hst := hb.start
 obtain ⟨t, ht⟩ := tru_ex hb h0 b.hours 0 b.lo.toNat (fun _ h => h)
 exact (rtB_iff hb).2 ⟨t, b.lo.toNat, by omega, ht⟩
theorem rt_all {b : Sb} (hb : OkB b) : rtB (withoutB b (List.range b.sights.length)) = true := by
 refine rt_none (ok_without hb _) ?_
 rw [withoutB_eq]
 show dropS b.sights (List.range b.sights.length) b.sights.length = []
 unfold dropS
 rw [List.map_eq_nil_iff, List.filter_eq_nil_iff]
 intro i hi
 simp at hi ⊢
 exact hi
theorem without_nil (b : Sb) : withoutB b [] = b := by
 rw [withoutB_eq]
 have : dropS b.sights [] b.sights.length = b.sights := by
  unfold dropS
  rw [List.filter_eq_self.2 (by simp)]
  apply List.ext_getElem
  ·simp
  ·intro i h1 h2
   simp [List.getD_eq_getElem?_getD, h2]
 rw [this]
theorem IncN.ge {s n : Nat} : ∀ {l : List Nat}, IncN s n l → ∀ k (h : k < l.length), s ≤ l[k] ∧ l[k] < n ∧ ∀ (h0 : 0 < k), l[k - 1] < l[k]
 | [], _, k, h => absurd h (by simp)
 | x :: t, hI, 0, h => ⟨hI.1, hI.2.1, fun h0 => absurd h0 (by simp)⟩
 | x :: t, hI, k + 1, h => by
  have ih := IncN.ge hI.2.2
  have h' : k < t.length := by simpa using h
  obtain ⟨h1, h2, h3⟩ := ih k h'
  simp only [List.getElem_cons_succ]
  refine ⟨by have := hI.1; omega, h2, fun _ => ?_⟩
  cases k with
  | zero => simp only [Nat.zero_add, Nat.sub_self, List.getElem_cons_zero]; omega
  | succ k => have := h3 (by omega); simpa using this
theorem climbs_inc {n : Nat} {l : List Nat} (h : IncN 0 n l) : Climbs (l.map fun (n : Nat) => (n : Int)) n := by
 intro k hk
 rw [List.length_map] at hk
 obtain ⟨_, h2, h3⟩ := h.ge k hk
 simp only [List.getElem_map]
 exact ⟨by omega, by omega, fun h0 => by have := h3 h0; omega⟩
theorem inc_filter (p : Nat → Bool) (n : Nat) : ∀ (m s : Nat), s + m ≤ n → IncN s n ((List.range' s m).filter p)
 | 0, _, _ => trivial
 | m + 1, s, h => by
  have ih := inc_filter p n m (s + 1) (by omega)
  rw [List.range'_succ, List.filter_cons]
  split
  ·exact ⟨Nat.le_refl _, by omega, ih⟩
  ·have up : ∀ {l : List Nat} {a c : Nat}, c ≤ a → IncN a n l → IncN c n l := by
    intro l a c hca hI
    cases l with
    | nil => trivial
    | cons x t => exact ⟨Nat.le_trans hca hI.1, hI.2⟩
   exact up (by omega) ih
theorem wro_facts {b : Sb} (hb : OkB b) : IncN 0 b.sights.length (wroB b) ∧ rtB (withoutB b (wroB b)) = true ∧ ∀ u, IncN 0 b.sights.length u → rtB (withoutB b u) = true → (wroB b).length ≤ u.length ∧ (u.length = (wroB b).length → lessN u (wroB b) = false) :=
 wroP_law (fun out => rtB (withoutB b out)) b.sights.length (rt_all hb)
theorem wro_empty {b : Sb} (hb : OkB b) : decide ((wroB b).length = 0) = rtB b := by
 obtain ⟨_, h2, h3⟩ := wro_facts hb
 rw [Bool.eq_iff_iff, decide_eq_true_eq]
 constructor
 ·intro h
  have e : wroB b = [] := List.eq_nil_of_length_eq_zero h
  rw [e, without_nil] at h2
  exact h2
 ·intro h
  have := (h3 [] trivial (by rw [without_nil]; exact h)).1
  simpa using this
end Go.Proofs.YtkhmcofmjjmjhaaDoor
namespace Go.Proofs.YtkhmcofmjjmjhaaDoor
set_option linter.unusedSimpArgs false
set_option linter.unusedVariables false
open Go Go.RowKit
/-- whether a sight is right of an hour -/
def SatS (s : Si) (p : Nat × Bool) : Prop := s.fell = p.2 ∧ s.lo ≤ (p.1 : Int) ∧ (p.1 : Int) ≤ s.hi
def bare (b : Sb) : Sb := { b with sights := [] }
theorem tru_split (b : Sb) : ∀ (hs : List Hr) (i l : Nat) (t : List (Nat × Bool)), Tru b i hs l t ↔ Tru (bare b) i hs l t ∧ ∀ s ∈ b.sights, ∀ k p, t[k]? = some p → s.hour = ((i + k : Nat) : Int) → SatS s p
 | [], _, _, [] => by simp [Tru]
 | [], _, _, _ :: _ => by simp [Tru]
 | _ :: _, _, _, [] => by simp [Tru]
 | h :: hs, i, l, (m, f) :: t => by
  have ih := tru_split b hs (i + 1) (if f then 0 else m) t
  constructor
  ·rintro ⟨h1, h2, h3, h4⟩
   obtain ⟨h4, h5⟩ := ih.1 h4
   refine ⟨⟨h1, h2, fun s hs => absurd hs (by simp [bare]), h4⟩, fun s hs k p hk he => ?_⟩
   cases k with
   | zero =>
    obtain rfl := Option.some.inj hk
    exact h3 s hs (by simpa using he)
   | succ k => exact h5 s hs k p hk (by rw [he]; congr 1; omega)
  ·rintro ⟨⟨h1, h2, _, h4⟩, h5⟩
   exact ⟨h1, h2, fun s hs he => h5 s hs 0 (m, f) rfl (by simpa using he), ih.2 ⟨h4, fun s hs k p hk he => h5 s hs (k + 1) p hk (by rw [he]; congr 1; omega)⟩⟩
theorem tr_iff {b : Sb} {t : List (Nat × Bool)} : TrB b t ↔ TrB (bare b) t ∧ ∀ s ∈ b.sights, ∀ (k : Nat) p, t[k]? = some p → s.hour = (k : Int) → SatS s p := by
 constructor
 ·rintro ⟨l, h1, h2⟩
  obtain ⟨h3, h4⟩ := (tru_split b _ _ _ _).1 h2
  exact ⟨⟨l, h1, h3⟩, fun s hs k p hk he => h4 s hs k p hk (by simpa using he)⟩
 ·rintro ⟨⟨l, h1, h2⟩, h3⟩
  exact ⟨l, h1, (tru_split b _ _ _ _).2 ⟨h2, fun s hs k p hk he => h3 s hs k p hk (by simpa using he)⟩⟩
theorem tru_fell {b : Sb} : ∀ {hs : List Hr} {i l : Nat} {t : List (Nat × Bool)}, Tru b i hs l t → ∀ (k m : Nat), t[k]? = some (m, true) → b.sl.hold < (m : Int)
 | [], _, _, [], _, k, m, h => by simp at h
 | [], _, _, _ :: _, h, _, _, _ => absurd h (by simp [Tru])
 | _ :: _, _, _, [], h, _, _, _ => absurd h (by simp [Tru])
 | h :: hs, i, l, (m', f) :: t, ⟨_, h2, _, h4⟩, k, m, hk => by
  cases k with
  | zero =>
   have e := Option.some.inj hk
   cases e
   exact h2 rfl
  | succ k => exact tru_fell h4 k m hk
theorem tr_fell {b : Sb} {t : List (Nat × Bool)} (h : TrB b t) {k m : Nat} (hk : t[k]? = some (m, true)) : b.sl.hold < (m : Int) := by
 obtain ⟨l, _, h⟩ := h
 exact tru_fell h k m hk
section
variable {b : Sb} (hb : OkB b) (h5 : b.sights.length ≤ 5) (hr : rtB b = true) {h : Nat} (hh : h < b.hours.length)
include hb hh
end
theorem mem_freK {b : Sb} {n k : Nat} : k ∈ freK b n ↔ k < n ∧ safB b k = true := by unfold freK; simp
theorem ok_bare {b : Sb} (hb : OkB b) : OkB (bare b) :=
 ⟨hb.snow, hb.wind, hb.sun, hb.settle, hb.hold, hb.start, hb.hours, Nat.zero_le _, hb.hour, fun s hs => absurd hs (by simp [bare])⟩
end Go.Proofs.YtkhmcofmjjmjhaaDoor
