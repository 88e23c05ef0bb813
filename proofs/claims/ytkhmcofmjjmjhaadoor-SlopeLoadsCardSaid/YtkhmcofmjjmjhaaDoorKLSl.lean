/- Slope: what truths there are of hours (maths). -/
import Derived.Test.YtkhmcofmjjmjhaaDoorKLSk

namespace Go.Proofs.YtkhmcofmjjmjhaaDoor
set_option linter.unusedSimpArgs false
set_option linter.unusedVariables false
open Go Go.RowKit
/-- with which loads a slope stays, and with which it lets go -/
def stF (x : Hp) (f : Nat → Bool) (m : Nat) : Bool := (ldF f x 2000 m && x.fits m) && x.sights.all fun s => !s.fell
def faF (x : Hp) (f : Nat → Bool) (m : Nat) : Bool := ((ldF f x 2000 m && x.fits m) && decide (x.sl.hold < (m : Int))) && x.sights.all fun s => s.fell
def leF (st fa : Nat → Bool) (k : Nat) : Bool := if k = 0 then st 0 || anyB fa else st k
def nxF (x : Hp) (f : Nat → Bool) : Nat → Bool := leF (stF x f) (faF x f)
def canF : List Hp → (Nat → Bool) → Bool
 | [], _ => true
 | x :: xs, f => anyB (nxF x f) && canF xs (nxF x f)
def loN (x : Hp) (l : Nat) (n : Int) : Nat := (max ((l : Int) - x.sl.settle) 0 + n).toNat
def wiF (x : Hp) (f : Nat → Bool) (o : Nat → Nat) (m : Nat) : Nat := (if stF x f m then o m else 0) ||| (if faF x f m then o 0 else 0) <<< 1
def oftF : List Hp → (Nat → Bool) → Nat → Nat
 | [], _, _ => 1
 | x :: xs, f, l => x.brings.foldl (fun acc n => acc ||| wiF x f (oftF xs (nxF x f)) (loN x l n)) 0
/-- the loads of an hour, if what follows can be -/
def ouF (x : Hp) (xs : List Hp) (f : Nat → Bool) (m : Nat) : Bool := (stF x f m || faF x f m) && !(wiF x f (oftF xs (nxF x f)) m == 0)
/-- what can be left before hour i -/
def atF : List Hp → (Nat → Bool) → Nat → (Nat → Bool)
 | _, f, 0 => f
 | [], f, _ + 1 => f
 | x :: xs, f, i + 1 => atF xs (nxF x f) i
/-- a truth of hours -/
def TruH : List Hp → Nat → List (Nat × Bool) → Prop
 | [], _, [] => True
 | x :: xs, l, (m, f) :: t => (∃ n ∈ x.brings, (m : Int) = max ((l : Int) - x.sl.settle) 0 + n) ∧ (f = true → x.sl.hold < (m : Int)) ∧ (∀ s ∈ x.sights, s.fell = f ∧ s.lo ≤ (m : Int) ∧ (m : Int) ≤ s.hi) ∧ TruH xs (if f then 0 else m) t
 | [], _, _ :: _ => False
 | _ :: _, _, [] => False
def fallsN (t : List (Nat × Bool)) : Nat := t.countP fun p => p.2
/-- all brings are small -/
def Small (xs : List Hp) : Prop := ∀ x ∈ xs, (∀ n ∈ x.brings, 0 ≤ n ∧ n ≤ 95) ∧ 0 ≤ x.sl.settle
/-- nothing greater is left -/
def Fit (f : Nat → Bool) (c : Nat) : Prop := ∀ k, f k = true → k ≤ c
theorem ldF_iff {f : Nat → Bool} {x : Hp} {m : Nat} : ldF f x 2000 m = true ↔ ∃ l, l < 2000 ∧ f l = true ∧ ∃ n ∈ x.brings, (m : Int) = max ((l : Int) - x.sl.settle) 0 + n := by
 unfold ldF
 simp only [List.any_eq_true, List.mem_range, Bool.and_eq_true, decide_eq_true_eq]
 constructor
 ·rintro ⟨l, h1, h2, n, h3, h4⟩; exact ⟨l, h1, h2, n, h3, h4.symm⟩
 ·rintro ⟨l, h1, h2, n, h3, h4⟩; exact ⟨l, h1, h2, n, h3, h4.symm⟩
theorem fits_iff {x : Hp} {m : Nat} : x.fits m = true ↔ ∀ s ∈ x.sights, s.lo ≤ (m : Int) ∧ (m : Int) ≤ s.hi := by
 unfold Hp.fits wB
 simp [List.all_eq_true]
theorem stF_iff {x : Hp} {f : Nat → Bool} {m : Nat} : stF x f m = true ↔ ldF f x 2000 m = true ∧ ∀ s ∈ x.sights, s.fell = false ∧ s.lo ≤ (m : Int) ∧ (m : Int) ≤ s.hi := by
 unfold stF
 simp only [Bool.and_eq_true, fits_iff, List.all_eq_true, Bool.not_eq_true']; exact ⟨fun ⟨⟨a, b⟩, c⟩ => ⟨a, fun s hs => ⟨c s hs, b s hs⟩⟩, fun ⟨a, b⟩ => ⟨⟨a, fun s hs => (b s hs).2⟩, fun s hs => (b s hs).1⟩⟩
theorem faF_iff {x : Hp} {f : Nat → Bool} {m : Nat} : faF x f m = true ↔ ldF f x 2000 m = true ∧ x.sl.hold < (m : Int) ∧ ∀ s ∈ x.sights, s.fell = true ∧ s.lo ≤ (m : Int) ∧ (m : Int) ≤ s.hi := by
 unfold faF
 simp only [Bool.and_eq_true, fits_iff, List.all_eq_true, decide_eq_true_eq]; exact ⟨fun ⟨⟨⟨a, b⟩, d⟩, c⟩ => ⟨a, d, fun s hs => ⟨c s hs, b s hs⟩⟩, fun ⟨a, d, b⟩ => ⟨⟨⟨a, fun s hs => (b s hs).2⟩, d⟩, fun s hs => (b s hs).1⟩⟩
theorem anyB_iff {g : Nat → Bool} : anyB g = true ↔ ∃ k, k < 2000 ∧ g k = true := by simp [anyB]
theorem ldF_fit {f : Nat → Bool} {x : Hp} {xs : List Hp} {c m : Nat} (hf : Fit f c) (hs : Small (x :: xs)) (h : ldF f x 2000 m = true) : m ≤ c + 95 := by
 obtain ⟨l, _, h1, n, h2, h3⟩ := ldF_iff.1 h; have h4 := hf l h1; obtain ⟨hb, hse⟩ := hs x (by simp); have := hb n h2
 omega
theorem nxF_fit {f : Nat → Bool} {x : Hp} {xs : List Hp} {c : Nat} (hf : Fit f c) (hs : Small (x :: xs)) : Fit (nxF x f) (c + 95) := by
 intro k hk
 unfold nxF leF at hk
 by_cases e : k = 0
 ·omega
 ·rw [if_neg e] at hk; exact ldF_fit hf hs (stF_iff.1 hk).1
theorem Small.tail {x : Hp} {xs : List Hp} (h : Small (x :: xs)) : Small xs := fun y hy => h y (by simp [hy])
theorem nxF_iff {f : Nat → Bool} {x : Hp} {l : Nat} : nxF x f l = true ↔ stF x f l = true ∨ (l = 0 ∧ ∃ m, m < 2000 ∧ faF x f m = true) := by
 unfold nxF leF
 by_cases e : l = 0
 ·subst e; simp [anyB_iff]
 ·simp [e]
/-- one step of a truth -/
theorem step_iff {x : Hp} {xs : List Hp} {f : Nat → Bool} {c : Nat} (hf : Fit f c) (hc : c < 1900) (hs : Small (x :: xs)) (m : Nat) (b : Bool) :
    ((if b then faF x f m else stF x f m) = true) ↔ ∃ l, f l = true ∧ (∃ n ∈ x.brings, (m : Int) = max ((l : Int) - x.sl.settle) 0 + n) ∧ (b = true → x.sl.hold < (m : Int)) ∧ (∀ s ∈ x.sights, s.fell = b ∧ s.lo ≤ (m : Int) ∧ (m : Int) ≤ s.hi) := by
 cases b
 ·simp only [Bool.false_eq_true, if_false, false_imp_iff, true_and, stF_iff, ldF_iff]
  constructor
  ·rintro ⟨⟨l, _, h1, h2⟩, h3⟩; exact ⟨l, h1, h2, h3⟩
  ·rintro ⟨l, h1, h2, h3⟩; exact ⟨⟨l, by have := hf l h1; omega, h1, h2⟩, h3⟩
 ·simp only [if_true, true_imp_iff, faF_iff, ldF_iff]
  constructor
  ·rintro ⟨⟨l, _, h1, h2⟩, h4, h3⟩; exact ⟨l, h1, h2, h4, h3⟩
  ·rintro ⟨l, h1, h2, h4, h3⟩; exact ⟨⟨l, by have := hf l h1; omega, h1, h2⟩, h4, h3⟩
theorem step_next {x : Hp} {xs : List Hp} {f : Nat → Bool} {c : Nat} (hf : Fit f c) (hc : c < 1900) (hs : Small (x :: xs)) (m : Nat) (b : Bool) (h : (if b then faF x f m else stF x f m) = true) : nxF x f (if b then 0 else m) = true := by
 rw [nxF_iff]
 cases b
 ·exact .inl (by simpa using h)
 ·refine .inr ⟨rfl, m, ?_, by simpa using h⟩; have := ldF_fit hf hs (faF_iff.1 (by simpa using h)).1
  omega
set_option maxRecDepth 100000 in
theorem can_iff : ∀ (xs : List Hp) (f : Nat → Bool) (c : Nat), Fit f c → c + 95 * xs.length < 1900 → Small xs → anyB f = true → (canF xs f = true ↔ ∃ l t, f l = true ∧ TruH xs l t)
 | [], f, c, hf, hc, hs, ha => by
  simp only [canF, true_iff]; obtain ⟨l, _, h⟩ := anyB_iff.1 ha; exact ⟨l, [], h, trivial⟩
 | x :: xs, f, c, hf, hc, hs, ha => by
  simp only [List.length_cons] at hc; have hn := nxF_fit hf hs
  unfold canF
  constructor
  ·intro h
   simp only [Bool.and_eq_true] at h; obtain ⟨l, t, h1, h2⟩ := (can_iff xs _ (c + 95) hn (by omega) hs.tail h.1).1 h.2
   rcases nxF_iff.1 h1 with h3 | ⟨rfl, m, _, h3⟩
   ·obtain ⟨l0, q1, q2, q3, q4⟩ := (step_iff hf (by omega) hs l false).1 (by simpa using h3); exact ⟨l0, (l, false) :: t, q1, q2, q3, q4, by simpa using h2⟩
   ·obtain ⟨l0, q1, q2, q3, q4⟩ := (step_iff hf (by omega) hs m true).1 (by simpa using h3); exact ⟨l0, (m, true) :: t, q1, q2, q3, q4, by simpa using h2⟩
  ·rintro ⟨l, t, h1, h2⟩
   cases t with
   | nil => exact absurd h2 (by simp [TruH])
   | cons p t =>
    obtain ⟨m, b⟩ := p; obtain ⟨q1, q2, q3, q4⟩ := h2; have h3 := (step_iff hf (by omega) hs m b).2 ⟨l, h1, q1, q2, q3⟩; have h4 := step_next hf (by omega) hs m b h3; have h5 : anyB (nxF x f) = true := anyB_iff.2 ⟨_, by have := hn _ h4; omega, h4⟩; rw [h5, Bool.true_and]; exact (can_iff xs _ (c + 95) hn (by omega) hs.tail h5).2 ⟨_, t, h4, q4⟩
theorem or_fold (g : Int → Nat) (k : Nat) : ∀ (l : List Int) (a : Nat), (l.foldl (fun acc n => acc ||| g n) a).testBit k = (a.testBit k || l.any fun n => (g n).testBit k)
 | [], a => by simp
 | n :: l, a => by
  rw [List.foldl_cons, or_fold g k l, Nat.testBit_or, List.any_cons, Bool.or_assoc]
theorem wiF_bit {x : Hp} {f : Nat → Bool} {o : Nat → Nat} {m k : Nat} : (wiF x f o m).testBit k = true ↔ (stF x f m = true ∧ (o m).testBit k = true) ∨ (faF x f m = true ∧ 1 ≤ k ∧ (o 0).testBit (k - 1) = true) := by
 unfold wiF
 rw [Nat.testBit_or, Nat.testBit_shiftLeft]
 cases stF x f m <;> cases faF x f m <;> simp
theorem loN_eq {x : Hp} {xs : List Hp} (hs : Small (x :: xs)) {l : Nat} {n : Int} (hn : n ∈ x.brings) : (loN x l n : Int) = max ((l : Int) - x.sl.settle) 0 + n := by
 have := ((hs x (by simp)).1 n hn).1
 unfold loN
 omega
set_option maxRecDepth 100000 in
theorem oft_iff : ∀ (xs : List Hp) (f : Nat → Bool) (c : Nat), Fit f c → c + 95 * xs.length < 1900 → Small xs → ∀ l, f l = true → ∀ k, (oftF xs f l).testBit k = true ↔ ∃ t, TruH xs l t ∧ fallsN t = k
 | [], f, c, hf, hc, hs, l, hl, k => by
  unfold oftF
  constructor
  ·intro h
   have : k = 0 := by
    cases k with
    | zero => rfl
    | succ k => simp [Nat.testBit_succ] at h
   exact ⟨[], trivial, by rw [this]; rfl⟩
  ·rintro ⟨t, h1, h2⟩
   cases t with
   | nil => rw [← h2]; rfl
   | cons _ _ => exact absurd h1 (by simp [TruH])
 | x :: xs, f, c, hf, hc, hs, l, hl, k => by
  simp only [List.length_cons] at hc; have hn := nxF_fit hf hs; have ih := oft_iff xs (nxF x f) (c + 95) hn (by omega) hs.tail
  unfold oftF
  rw [or_fold (fun n => wiF x f (oftF xs (nxF x f)) (loN x l n))]; simp only [Nat.zero_testBit, Bool.false_or, List.any_eq_true, wiF_bit]
  constructor
  ·rintro ⟨n, h1, h2 | h2⟩
   ·obtain ⟨h2, h3⟩ := h2; have h4 := step_next hf (by omega) hs _ false (by simpa using h2); obtain ⟨t, h5, h6⟩ := (ih _ (by simpa using h4) k).1 h3; obtain ⟨_, _, q2, q3, q4⟩ := (step_iff hf (by omega) hs _ false).1 (by simpa using h2); exact ⟨(loN x l n, false) :: t, ⟨⟨n, h1, loN_eq hs h1⟩, q3, q4, by simpa using h5⟩, by simpa [fallsN] using h6⟩
   ·obtain ⟨h2, hk, h3⟩ := h2; have h4 := step_next hf (by omega) hs _ true (by simpa using h2); obtain ⟨t, h5, h6⟩ := (ih _ (by simpa using h4) (k - 1)).1 h3; obtain ⟨_, _, q2, q3, q4⟩ := (step_iff hf (by omega) hs _ true).1 (by simpa using h2); exact ⟨(loN x l n, true) :: t, ⟨⟨n, h1, loN_eq hs h1⟩, q3, q4, by simpa using h5⟩, by simp [fallsN] at h6 ⊢; omega⟩
  ·rintro ⟨t, h1, h2⟩
   cases t with
   | nil => exact absurd h1 (by simp [TruH])
   | cons p t =>
    obtain ⟨m, b⟩ := p; obtain ⟨⟨n, hn1, q1⟩, q2, q3, q4⟩ := h1; have hm : loN x l n = m := by have := loN_eq hs (l := l) hn1; omega
    refine ⟨n, hn1, ?_⟩; rw [hm]; have h3 := (step_iff hf (by omega) hs m b).2 ⟨l, hl, ⟨n, hn1, q1⟩, q2, q3⟩; have h4 := step_next hf (by omega) hs m b h3
    cases b
    ·exact .inl ⟨by simpa using h3, (ih _ (by simpa using h4) k).2 ⟨t, by simpa using q4, by simpa [fallsN] using h2⟩⟩
    ·refine .inr ⟨by simpa using h3, ?_, (ih _ (by simpa using h4) (k - 1)).2 ⟨t, by simpa using q4, ?_⟩⟩
     ·simp [fallsN] at h2; omega
     ·simp [fallsN] at h2 ⊢; omega
/-- from an hour on, with a load -/
theorem wi_iff {x : Hp} {xs : List Hp} {f : Nat → Bool} {c : Nat} (hf : Fit f c) (hc : c + 95 * (xs.length + 1) < 1900) (hs : Small (x :: xs)) (m k : Nat) : (wiF x f (oftF xs (nxF x f)) m).testBit k = true ↔ ∃ l b t, f l = true ∧ TruH (x :: xs) l ((m, b) :: t) ∧ fallsN ((m, b) :: t) = k := by
 have hn := nxF_fit hf hs; have ih := oft_iff xs (nxF x f) (c + 95) hn (by omega) hs.tail; rw [wiF_bit]
 constructor
 ·rintro (⟨h2, h3⟩ | ⟨h2, hk, h3⟩)
  ·have h4 := step_next hf (by omega) hs _ false (by simpa using h2); obtain ⟨t, h5, h6⟩ := (ih _ (by simpa using h4) k).1 h3; obtain ⟨l, q1, q2, q3, q4⟩ := (step_iff hf (by omega) hs _ false).1 (by simpa using h2); exact ⟨l, false, t, q1, ⟨q2, q3, q4, by simpa using h5⟩, by simpa [fallsN] using h6⟩
  ·have h4 := step_next hf (by omega) hs _ true (by simpa using h2); obtain ⟨t, h5, h6⟩ := (ih _ (by simpa using h4) (k - 1)).1 h3; obtain ⟨l, q1, q2, q3, q4⟩ := (step_iff hf (by omega) hs _ true).1 (by simpa using h2); exact ⟨l, true, t, q1, ⟨q2, q3, q4, by simpa using h5⟩, by simp [fallsN] at h6 ⊢; omega⟩
 ·rintro ⟨l, b, t, hl, ⟨q1, q2, q3, q4⟩, h2⟩; have h3 := (step_iff hf (by omega) hs m b).2 ⟨l, hl, q1, q2, q3⟩; have h4 := step_next hf (by omega) hs m b h3
  cases b
  ·exact .inl ⟨by simpa using h3, (ih _ (by simpa using h4) k).2 ⟨t, by simpa using q4, by simpa [fallsN] using h2⟩⟩
  ·refine .inr ⟨by simpa using h3, ?_, (ih _ (by simpa using h4) (k - 1)).2 ⟨t, by simpa using q4, ?_⟩⟩
   ·simp [fallsN] at h2; omega
   ·simp [fallsN] at h2 ⊢; omega
theorem ne_bit {n : Nat} : n ≠ 0 ↔ ∃ k, n.testBit k = true := by
 constructor
 ·intro h
  obtain ⟨k, hk⟩ := Nat.exists_testBit_of_ne_zero h; exact ⟨k, hk⟩
 ·rintro ⟨k, hk⟩ rfl; simp at hk
theorem ou_iff {x : Hp} {xs : List Hp} {f : Nat → Bool} {c : Nat} (hf : Fit f c) (hc : c + 95 * (xs.length + 1) < 1900) (hs : Small (x :: xs)) (m : Nat) : ouF x xs f m = true ↔ ∃ l b t, f l = true ∧ TruH (x :: xs) l ((m, b) :: t) := by
 unfold ouF
 rw [Bool.and_eq_true, Bool.not_eq_true', beq_eq_false_iff_ne, ne_bit]
 constructor
 ·rintro ⟨_, k, h⟩; obtain ⟨l, b, t, h1, h2, _⟩ := (wi_iff hf hc hs m k).1 h; exact ⟨l, b, t, h1, h2⟩
 ·rintro ⟨l, b, t, h1, h2⟩; have h3 := (step_iff hf (by omega) hs m b).2 ⟨l, h1, h2.1, h2.2.1, h2.2.2.1⟩; refine ⟨?_, _, (wi_iff hf hc hs m _).2 ⟨l, b, t, h1, h2, rfl⟩⟩
  cases b
  ·simp only [Bool.false_eq_true, if_false] at h3; rw [h3]; rfl
  ·simp only [if_true] at h3; rw [h3]; exact Bool.or_true _
theorem TruH.length : ∀ {xs : List Hp} {l : Nat} {t : List (Nat × Bool)}, TruH xs l t → t.length = xs.length
 | [], _, [], _ => rfl
 | x :: xs, l, (m, b) :: t, h => by rw [List.length_cons, List.length_cons, TruH.length h.2.2.2]
 | [], _, _ :: _, h => absurd h (by simp [TruH])
 | _ :: _, _, [], h => absurd h (by simp [TruH])
set_option maxRecDepth 100000 in
/-- the loads of hour i -/
theorem at_iff : ∀ (i : Nat) (xs : List Hp) (f : Nat → Bool) (c : Nat) (hi : i < xs.length), Fit f c → c + 95 * xs.length < 1900 → Small xs → ∀ m, ouF xs[i] (xs.drop (i + 1)) (atF xs f i) m = true ↔ ∃ l t, f l = true ∧ TruH xs l t ∧ (t[i]?).map (·.1) = some m
 | 0, x :: xs, f, c, hi, hf, hc, hs, m => by
  simp only [List.length_cons] at hc; refine (ou_iff (xs := xs) hf (by omega) hs m).trans ?_
  constructor
  ·rintro ⟨l, b, t, h1, h2⟩; exact ⟨l, _, h1, h2, rfl⟩
  ·rintro ⟨l, t, h1, h2, h3⟩
   cases t with
   | nil => simp at h3
   | cons p t =>
    obtain ⟨m', b⟩ := p; obtain rfl : m' = m := by simpa using h3
    exact ⟨l, b, t, h1, h2⟩
 | i + 1, x :: xs, f, c, hi, hf, hc, hs, m => by
  simp only [List.length_cons] at hc hi; have hn := nxF_fit hf hs; refine (at_iff i xs (nxF x f) (c + 95) (by omega) hn (by omega) hs.tail m).trans ?_
  constructor
  ·rintro ⟨l, t, h1, h2, h3⟩
   rcases nxF_iff.1 h1 with h4 | ⟨rfl, m', _, h4⟩
   ·obtain ⟨l0, q1, q2, q3, q4⟩ := (step_iff hf (by omega) hs l false).1 (by simpa using h4); exact ⟨l0, (l, false) :: t, q1, ⟨q2, q3, q4, by simpa using h2⟩, by simpa using h3⟩
   ·obtain ⟨l0, q1, q2, q3, q4⟩ := (step_iff hf (by omega) hs m' true).1 (by simpa using h4); exact ⟨l0, (m', true) :: t, q1, ⟨q2, q3, q4, by simpa using h2⟩, by simpa using h3⟩
  ·rintro ⟨l, t, h1, h2, h3⟩
   cases t with
   | nil => simp at h3
   | cons p t =>
    obtain ⟨m', b⟩ := p; obtain ⟨q1, q2, q3, q4⟩ := h2; have h4 := (step_iff hf (by omega) hs m' b).2 ⟨l, h1, q1, q2, q3⟩; exact ⟨_, t, step_next hf (by omega) hs m' b h4, q4, by simpa using h3⟩
/-- how often, in all -/
def allF (x : Hp) (xs : List Hp) (f : Nat → Bool) (k : Nat) : Nat := (List.range k).foldl (fun acc m => acc ||| (if ouF x xs f m then wiF x f (oftF xs (nxF x f)) m else 0)) 0
theorem or_foldN (g : Nat → Nat) (k : Nat) : ∀ (l : List Nat) (a : Nat), (l.foldl (fun acc n => acc ||| g n) a).testBit k = (a.testBit k || l.any fun n => (g n).testBit k)
 | [], a => by simp
 | n :: l, a => by
  rw [List.foldl_cons, or_foldN g k l, Nat.testBit_or, List.any_cons, Bool.or_assoc]
theorem all_iff {x : Hp} {xs : List Hp} {f : Nat → Bool} {c : Nat} (hf : Fit f c) (hc : c + 95 * (xs.length + 1) < 1900) (hs : Small (x :: xs)) (k : Nat) : (allF x xs f 2000).testBit k = true ↔ ∃ l t, f l = true ∧ TruH (x :: xs) l t ∧ fallsN t = k := by
 unfold allF
 rw [or_foldN (fun m => if ouF x xs f m then wiF x f (oftF xs (nxF x f)) m else 0)]; simp only [Nat.zero_testBit, Bool.false_or, List.any_eq_true, List.mem_range]
 constructor
 ·rintro ⟨m, hm, h⟩
  by_cases e : ouF x xs f m = true
  ·rw [if_pos e] at h; obtain ⟨l, b, t, h1, h2, h3⟩ := (wi_iff hf hc hs m k).1 h; exact ⟨l, _, h1, h2, h3⟩
  ·rw [if_neg e] at h; simp at h
 ·rintro ⟨l, t, h1, h2, h3⟩
  cases t with
  | nil => exact absurd h2 (by simp [TruH])
  | cons p t =>
   obtain ⟨m, b⟩ := p; have h4 := (step_iff hf (by omega) hs m b).2 ⟨l, h1, h2.1, h2.2.1, h2.2.2.1⟩
   have hm : ldF f x 2000 m = true := by
    cases b
    ·exact (stF_iff.1 (by simpa using h4)).1
    ·exact (faF_iff.1 (by simpa using h4)).1
   refine ⟨m, by have := ldF_fit hf hs hm; omega, ?_⟩; rw [if_pos ((ou_iff hf hc hs m).2 ⟨l, b, t, h1, h2⟩)]; exact (wi_iff hf hc hs m k).2 ⟨l, b, t, h1, h2, h3⟩
theorem oft_lt : ∀ (xs : List Hp) (f : Nat → Bool) (l : Nat), oftF xs f l < 2 ^ (xs.length + 1)
 | [], _, _ => by simp [oftF]
 | x :: xs, f, l => by
  have ih := oft_lt xs (nxF x f)
  have hw : ∀ m, wiF x f (oftF xs (nxF x f)) m < 2 ^ (xs.length + 2) := fun m => by
   unfold wiF
   refine Nat.or_lt_two_pow ?_ ?_
   ·split
    ·have := ih m; rw [Nat.pow_succ]; omega
    ·exact Nat.two_pow_pos _
   ·rw [Nat.shiftLeft_eq]
    split
    ·have := ih 0; rw [Nat.pow_succ] at this ⊢; rw [Nat.pow_succ] ; omega
    ·simpa using Nat.two_pow_pos _
  unfold oftF
  have hf : ∀ (br : List Int) (a : Nat), a < 2 ^ (xs.length + 2) → br.foldl (fun acc n => acc ||| wiF x f (oftF xs (nxF x f)) (loN x l n)) a < 2 ^ (xs.length + 2) := fun br => by
   induction br with
   | nil => exact fun a h => h
   | cons n br ihb => exact fun a h => ihb _ (Nat.or_lt_two_pow h (hw _))
  exact hf x.brings 0 (Nat.two_pow_pos _)
end Go.Proofs.YtkhmcofmjjmjhaaDoor
