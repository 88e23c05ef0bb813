/- Slope: the maths of the law SlopeHolds. -/
import Derived.Test.YtkhmcofmjjmjhaaDoorSck
namespace Go.Proofs.YtkhmcofmjjmjhaaDoor
set_option linter.unusedSimpArgs false
set_option linter.unusedVariables false
open Go Go.RowKit

/-- a book without sights, with another slope -/
def slB (b : Sb) (x : Sl) : Sb := ⟨x, b.lo, b.hi, b.hours, []⟩
/-- and with another hour -/
def setB (b : Sb) (h : Nat) (X : Hr) : Sb := ⟨b.sl, b.lo, b.hi, b.hours.set h X, []⟩
theorem freK_sub {b c : Sb} (hb : OkB b) (hc : OkB c) (h0 : b.sights = []) (h1 : c.sights = []) (hl : c.hours.length = b.hours.length) (ht : ∀ k, k ≤ b.hours.length → topI b k ≤ b.sl.hold → topI c k ≤ c.sl.hold) : ∀ k ∈ freK b b.hours.length, k ∈ freK c c.hours.length := fun k hk => by
 obtain ⟨k1, k2⟩ := mem_freK.1 hk
 refine mem_freK.2 ⟨by omega, ?_⟩
 rw [saf_none hb h0 k1, decide_eq_true_eq] at k2
 rw [saf_none hc h1 (by omega), decide_eq_true_eq]
 exact ht _ (by omega) k2
theorem hold_ok {b : Sb} (hb : OkB b) {n : Int} (hn : 0 ≤ n) : OkB (slB b { b.sl with hold := min 300 (b.sl.hold + n) }) := by
 have := hb.hold
 exact ⟨hb.snow, hb.wind, hb.sun, hb.settle, by show 1 ≤ min 300 (b.sl.hold + n) ∧ min 300 (b.sl.hold + n) ≤ 300; omega, hb.start, hb.hours, Nat.zero_le _, hb.hour, fun s hs => absurd hs (by simp [slB])⟩
theorem settle_ok {b : Sb} (hb : OkB b) {n : Int} (hn : 0 ≤ n) : OkB (slB b { b.sl with settle := min 30 (b.sl.settle + n) }) := by
 have := hb.settle
 exact ⟨hb.snow, hb.wind, hb.sun, by show 0 ≤ min 30 (b.sl.settle + n) ∧ min 30 (b.sl.settle + n) ≤ 30; omega, hb.hold, hb.start, hb.hours, Nat.zero_le _, hb.hour, fun s hs => absurd hs (by simp [slB])⟩
theorem set_ok {b : Sb} (hb : OkB b) {h : Nat} {X : Hr} (hX : ((0 ≤ X.n1 ∧ X.n1 ≤ X.n2 ∧ X.n2 ≤ 9) ∧ X.n2 - X.n1 ≤ 3) ∧ ((0 ≤ X.w1 ∧ X.w1 ≤ X.w2 ∧ X.w2 ≤ 5) ∧ X.w2 - X.w1 ≤ 3) ∧ ((0 ≤ X.s1 ∧ X.s1 ≤ X.s2 ∧ X.s2 ≤ 5) ∧ X.s2 - X.s1 ≤ 3)) : OkB (setB b h X) :=
 ⟨hb.snow, hb.wind, hb.sun, hb.settle, hb.hold, hb.start, by simpa [setB] using hb.hours, Nat.zero_le _, fun x hx => by
  rcases List.mem_or_eq_of_mem_set (show x ∈ b.hours.set h X from hx) with hx | rfl
  ·exact hb.hour x hx
  ·exact hX, fun s hs => absurd hs (by simp [setB])⟩
theorem hold_law {b : Sb} (hb : OkB b) {n : Int} (hn : 0 ≤ n) : ∀ k ∈ freK (bare b) b.hours.length, k ∈ freK (slB b { b.sl with hold := min 300 (b.sl.hold + n) }) b.hours.length := by
 have hh := hb.hold
 refine freK_sub (ok_bare hb) (hold_ok hb hn) rfl rfl rfl fun k _ h1 => ?_
 have h1 : topI (bare b) k ≤ b.sl.hold := h1
 show topI (bare b) k ≤ min 300 (b.sl.hold + n)
 omega
theorem settle_law {b : Sb} (hb : OkB b) {n : Int} (hn : 0 ≤ n) : ∀ k ∈ freK (bare b) b.hours.length, k ∈ freK (slB b { b.sl with settle := min 30 (b.sl.settle + n) }) b.hours.length := by
 have hh := hb.settle
 refine freK_sub (ok_bare hb) (settle_ok hb hn) rfl rfl rfl fun k hk h1 => ?_
 have h2 : topI (slB b { b.sl with settle := min 30 (b.sl.settle + n) }) k ≤ topI (bare b) k := top_mono (b := bare b) (c := slB b { b.sl with settle := min 30 (b.sl.settle + n) }) rfl (Int.le_refl _) (fun j _ _ x y hxy => by
  simp only [stepT, slB, bare]
  omega) k hk
 have h1 : topI (bare b) k ≤ b.sl.hold := h1
 show _ ≤ b.sl.hold
 omega
theorem set_law {b : Sb} (hb : OkB b) {h : Nat} (hh : h < b.hours.length) {X : Hr} (hok : OkB (setB b h X)) (h1 : b.hours[h].n2 ≤ X.n2) (h2 : b.hours[h].w2 ≤ X.w2) (h3 : b.hours[h].s2 ≤ X.s2) : ∀ k ∈ freK (setB b h X) b.hours.length, k ∈ freK (bare b) b.hours.length := by
 have hl : (setB b h X).hours.length = b.hours.length := by simp [setB]
 have key := freK_sub hok (ok_bare hb) rfl rfl hl.symm (fun k hk h4 => by
  have h5 : topI (bare b) k ≤ topI (setB b h X) k := top_mono (b := setB b h X) (c := bare b) hl.symm (Int.le_refl _) (fun j j1 j2 x y hxy => by
   have e : (setB b h X).hours[j] = if h = j then X else b.hours[j]'(by simpa [bare] using j2) := List.getElem_set (show j < (b.hours.set h X).length from j1)
   rw [e]
   simp only [stepT, setB, bare]
   split
   ·rename_i e
    subst e
    have m1 := Int.mul_le_mul_of_nonneg_left h1 hb.snow.1
    have m2 := Int.mul_le_mul_of_nonneg_left h2 hb.wind.1
    have m3 := Int.mul_le_mul_of_nonneg_left h3 hb.sun.1
    omega
   ·omega) k hk
  have h4 : topI (setB b h X) k ≤ b.sl.hold := h4
  show topI (bare b) k ≤ b.sl.hold
  omega)
 rw [hl] at key
 exact key
end Go.Proofs.YtkhmcofmjjmjhaaDoor
