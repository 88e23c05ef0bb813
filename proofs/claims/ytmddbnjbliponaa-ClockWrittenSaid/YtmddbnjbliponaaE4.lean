/- The courses of a book that the program finds by a dial, whose frosts are cut at a minute behind which no line lies, are those of the truth. No Go here. -/
import Derived.Test.YtmddbnjbliponaaE2
import Derived.Test.YtmddbnjbliponaaN2
import Derived.Test.YtmddbnjbliponaaQ1
namespace Go.Proofs.Ytmddbnjbliponaa
set_option linter.unusedSimpArgs false
set_option linter.unusedVariables false


theorem still_mono {tr : List When} {ov : Int} (h : Ord ov tr) {x y : Int} (hxy : x ≤ y) : x - still tr x ≤ y - still tr y := by
  obtain ⟨n, rfl⟩ : ∃ n : Nat, y = x + n := ⟨(y - x).toNat, by omega⟩
  clear hxy
  induction n with
  | zero => simp
  | succ n ih =>
    have h1 := (still_succ tr ov h (x + (n : Int))).1
    have e : x + ((n + 1 : Nat) : Int) = x + (n : Int) + 1 := by omega
    rw [e, h1]
    split <;> omega
def loF (tr : List When) (a : Int) : Int := tr.foldl (fun a t => if t.lo < a then a + (t.hi - t.lo) else a) a
def hiF (tr : List When) (a : Int) : Int := tr.foldl (fun a t => if t.lo ≤ a then a + (t.hi - t.lo) else a) a
theorem fold_parts (tr : List When) (s : Sp) : tr.foldl meanStep s = ⟨loF tr s.lo, hiF tr s.hi⟩ := by
  induction tr generalizing s with
  | nil => rfl
  | cons t ts ih => rw [List.foldl_cons, ih]; rfl
theorem loF_spec (tr : List When) (ov : Int) (h : Ord ov tr) (a : Int) : loF tr a - still tr (loF tr a) = a ∧ ∀ x, x < loF tr a → x - still tr x < a := by
  induction tr generalizing ov a with
  | nil => simp [loF, still]
  | cons t ts ih =>
    obtain ⟨o1, o2, o3⟩ := h
    by_cases c : t.lo < a
    · have e : loF (t :: ts) a = loF ts (a + (t.hi - t.lo)) := by simp [loF, c]
      rw [e]
      obtain ⟨i1, i2⟩ := ih t.hi o3 (a + (t.hi - t.lo))
      generalize loF ts (a + (t.hi - t.lo)) = y at *
      have n1 := still_nonneg ts y
      simp only [still]
      refine ⟨by omega, fun x hx => ?_⟩
      have i3 := i2 x hx
      by_cases d : x < t.hi
      · have z := still_early o3 (m := x) (by omega)
        omega
      · omega
    · have e : loF (t :: ts) a = loF ts a := by simp [loF, c]
      rw [e]
      obtain ⟨i1, i2⟩ := ih t.hi o3 a
      have z := still_early o3 (m := a) (by omega)
      generalize loF ts a = y at *
      have n1 := still_nonneg ts y
      have ha : ¬ a < y := fun hh => by have := i2 a hh; omega
      have hy : y = a := by omega
      subst hy
      simp only [still]
      refine ⟨by omega, fun x hx => ?_⟩
      have n2 := still_nonneg ts x
      omega
theorem hiF_spec (tr : List When) (ov : Int) (h : Ord ov tr) (a : Int) : hiF tr a - still tr (hiF tr a) = a ∧ ∀ x, hiF tr a < x → a < x - still tr x := by
  induction tr generalizing ov a with
  | nil => simp [hiF, still]
  | cons t ts ih =>
    obtain ⟨o1, o2, o3⟩ := h
    by_cases c : t.lo ≤ a
    · have e : hiF (t :: ts) a = hiF ts (a + (t.hi - t.lo)) := by simp [hiF, c]
      rw [e]
      obtain ⟨i1, i2⟩ := ih t.hi o3 (a + (t.hi - t.lo))
      generalize hiF ts (a + (t.hi - t.lo)) = y at *
      have n1 := still_nonneg ts y
      simp only [still]
      refine ⟨by omega, fun x hx => ?_⟩
      have i3 := i2 x hx
      omega
    · have e : hiF (t :: ts) a = hiF ts a := by simp [hiF, c]
      rw [e]
      obtain ⟨i1, i2⟩ := ih t.hi o3 a
      have z := still_early o3 (m := a) (by omega)
      generalize hiF ts a = y at *
      have n1 := still_nonneg ts y
      have ha : ¬ y < a := fun hh => by have := i2 a hh; omega
      have hy : y = a := by
        by_cases d : y ≤ t.hi
        · have z2 := still_early o3 (m := y) d
          omega
        · have l2 := still_late o3 (m := y) (by omega)
          omega
      subst hy
      simp only [still]
      refine ⟨by omega, fun x hx => ?_⟩
      by_cases d : x ≤ t.hi
      · have z3 := still_early o3 (m := x) d
        omega
      · have l3 := still_late o3 (m := x) (by omega)
        omega
variable {set : Int} {fs : List Fr}
/-- what a reading can mean in a truth, exactly -/
theorem meansT_parts {tr : List When} {r : Int} (hr : set ≤ r) : meansT ⟨set, fs⟩ tr r = ⟨max (loF tr (r - set)) 0, min (hiF tr (r - set)) 4319⟩ := by
  unfold meansT
  rw [if_neg (by simp only; omega), fold_parts]
  rfl

/-- a frost as far as it lies before a minute -/
def cutM (m : Int) (t : When) : When := ⟨min t.lo m, min t.hi m⟩
theorem cut_ord {tr : List When} {ov m : Int} (h : Ord ov tr) (hm : 0 ≤ m) (ho : ov ≤ m ∨ ov = 0) : Ord (min ov m) (tr.map (cutM m)) := by
  induction tr generalizing ov with
  | nil => trivial
  | cons t ts ih =>
    obtain ⟨h1, h2, h3⟩ := h
    refine ⟨?_, ?_, ?_⟩
    · simp only [cutM]; omega
    · simp only [cutM]; omega
    · by_cases c : t.hi ≤ m
      · exact ih h3 (.inl c)
      · have : ∀ (ts : List When) (ov : Int), m ≤ ov → Ord ov ts → Ord m (ts.map (cutM m)) := fun ts => by
          induction ts with
          | nil => intro _ _ _; trivial
          | cons u us ihu =>
            intro ov hov hu
            obtain ⟨u1, u2, u3⟩ := hu
            have e1 : min u.lo m = m := by omega
            have e2 : min u.hi m = m := by omega
            refine ⟨by simp only [cutM, e1]; omega, by simp only [cutM, e1, e2]; omega, ?_⟩
            have := ihu u.hi (by omega) u3
            simp only [cutM, e2]
            exact this
        have h4 := this ts t.hi (by omega) h3
        have e : (cutM m t).hi = m := by simp only [cutM]; omega
        rw [e]; exact h4
theorem still_cut (tr : List When) (m x : Int) : still (tr.map (cutM m)) x = still tr (min x m) := by
  induction tr with
  | nil => rfl
  | cons t ts ih =>
    simp only [List.map_cons, still, cutM]
    rw [ih]
    omega
/-- what the program's dial tells as the last minute of a reading -/
theorem last_hiF (tr : List When) (m : Int) (h : ∀ t ∈ tr, 0 ≤ t.lo ∧ t.lo ≤ t.hi) (hm : 0 ≤ m) (a : Int) : (pad (tr.map fun t => cutF t m)).foldl lastStep a = hiF (tr.map (cutM m)) a := by
  unfold pad
  rw [last_append, last_zeros]
  induction tr generalizing a with
  | nil => rfl
  | cons t ts ih =>
    have h1 := h t (List.mem_cons_self ..)
    have ih' := fun b => ih (fun u hu => h u (List.mem_cons_of_mem _ hu)) b
    have e : lastStep a (cutF t m) = if min t.lo m ≤ a then a + (min t.hi m - min t.lo m) else a := by
      unfold cutF
      by_cases c : min t.lo m = min t.hi m
      · rw [if_pos c]
        unfold lastStep
        simp only [true_or, if_true]
        split <;> omega
      · rw [if_neg c]
        unfold lastStep
        by_cases h2 : min t.lo m ≤ a
        · rw [if_neg (by rintro (h | h); (have := congrArg Sp.lo h; have := congrArg Sp.hi h; simp only at *; omega); (simp only at h; omega)), if_pos h2]
        · rw [if_pos (.inr (by simp only; omega)), if_neg h2]
    simp only [List.map_cons, List.foldl_cons]
    rw [e, ih']
    rfl
/-- a minute lies no later than the last one of a reading just if the clock shows no more then -/
theorem le_hiF {tr : List When} {ov : Int} (h : Ord ov tr) (a x : Int) : x ≤ hiF tr a ↔ x - still tr x ≤ a := by
  obtain ⟨h1, h2⟩ := hiF_spec tr ov h a
  constructor
  · intro hx
    have := still_mono h hx
    omega
  · intro hx
    refine Int.not_lt.1 fun hlt => ?_
    have := h2 x hlt
    omega
theorem loF_le {tr : List When} {ov : Int} (h : Ord ov tr) (a x : Int) : loF tr a ≤ x ↔ a ≤ x - still tr x := by
  obtain ⟨h1, h2⟩ := loF_spec tr ov h a
  constructor
  · intro hx
    have := still_mono h hx
    omega
  · intro hx
    refine Int.not_lt.1 fun hlt => ?_
    have := h2 x hlt
    omega
section
variable {set m : Int} {fs : List Fr} {tr : List When}
/-- the two ends of a line by the dial and by the truth, as far as they lie before m -/
theorem line_ends (ho : Ord 0 tr) (ht : ∀ t ∈ tr, 0 ≤ t.lo ∧ t.lo ≤ t.hi ∧ t.hi ≤ 4319) (hm : 0 ≤ m) (r : Int) :
    (∀ x, x ≤ m → (firstD set (pad (tr.map fun t => cutF t m)) r ≤ x ↔ r - set ≤ x - still tr x)) ∧ (∀ x, x ≤ m → (x ≤ lastD set (pad (tr.map fun t => cutF t m)) r ↔ x - still tr x ≤ r - set)) := by
  have hc : Ord (min 0 m) (tr.map (cutM m)) := cut_ord ho hm (.inr rfl)
  have hl := fun a => last_hiF tr m (fun t h => ⟨(ht t h).1, (ht t h).2.1⟩) hm a
  constructor
  · intro x hx
    unfold firstD lastD
    rw [hl]
    have h1 := le_hiF hc (r - 1 - set) x
    rw [still_cut, show min x m = x by omega] at h1
    omega
  · intro x hx
    unfold lastD
    rw [hl]
    have h1 := le_hiF hc (r - set) x
    rw [still_cut, show min x m = x by omega] at h1
    exact h1
/-- the minutes that one more line can have behind a minute, in a truth -/
def lineT (c : Ck) (tr : List When) (prev : Int) (l : Ln) : Sp := ⟨max ((meansT c tr l.r).common l.k).lo prev, ((meansT c tr l.r).common l.k).hi⟩
theorem fwdT_cons (c : Ck) (tr : List When) (prev : Int) (l : Ln) (ls : List Ln) : fwdT c tr prev (l :: ls) = if (lineT c tr prev l).hi < (lineT c tr prev l).lo then none else (fwdT c tr (lineT c tr prev l).lo ls).map (lineT c tr prev l :: ·) := rfl
theorem fwdD_cons (set : Int) (x : List Sp) (prev : Int) (l : Ln) (ls : List Ln) : fwdD set x prev (l :: ls) = if (lineD set x prev l).hi < (lineD set x prev l).lo then none else (fwdD set x (lineD set x prev l).lo ls).map (lineD set x prev l :: ·) := rfl
theorem line_cmp (ho : Ord 0 tr) (ht : ∀ t ∈ tr, 0 ≤ t.lo ∧ t.lo ≤ t.hi ∧ t.hi ≤ 4319) (hm : 0 ≤ m) {l : Ln} (hl : lineB l = true) {prev : Int} (hp : 0 ≤ prev) :
    ((lineD set (pad (tr.map fun t => cutF t m)) prev l).hi < (lineD set (pad (tr.map fun t => cutF t m)) prev l).lo ∧ (lineT ⟨set, fs⟩ tr prev l).hi < (lineT ⟨set, fs⟩ tr prev l).lo) ∨
    (((lineD set (pad (tr.map fun t => cutF t m)) prev l).lo = (lineT ⟨set, fs⟩ tr prev l).lo ∨ (m < (lineD set (pad (tr.map fun t => cutF t m)) prev l).lo ∧ m < (lineT ⟨set, fs⟩ tr prev l).lo)) ∧
      min (lineD set (pad (tr.map fun t => cutF t m)) prev l).hi m = min (lineT ⟨set, fs⟩ tr prev l).hi m) := by
  simp only [lineB, minutesB, Bool.and_eq_true, decide_eq_true_eq] at hl
  obtain ⟨_, k1, k2, k3⟩ := hl
  obtain ⟨e1, e2⟩ := line_ends (set := set) ho ht hm l.r
  have hD : lineD set (pad (tr.map fun t => cutF t m)) prev l = ⟨max (firstD set (pad (tr.map fun t => cutF t m)) l.r) (max l.k.lo prev), min (lastD set (pad (tr.map fun t => cutF t m)) l.r) l.k.hi⟩ := by
    simp [lineD, tellD, lowD, highD]
  rw [hD]
  generalize firstD set (pad (tr.map fun t => cutF t m)) l.r = F at *
  generalize lastD set (pad (tr.map fun t => cutF t m)) l.r = Z at *
  by_cases hr : l.r < set
  · left
    have h0 := still_late ho (m := 0) (Int.le_refl _)
    have e0 := e2 0 hm
    have hT : lineT ⟨set, fs⟩ tr prev l = ⟨max (max 1 l.k.lo) prev, min 0 l.k.hi⟩ := by
      unfold lineT meansT
      rw [if_pos hr]
      rfl
    rw [hT]
    simp only
    omega
  · right
    have hT : lineT ⟨set, fs⟩ tr prev l = ⟨max (max (max (loF tr (l.r - set)) 0) l.k.lo) prev, min (min (hiF tr (l.r - set)) 4319) l.k.hi⟩ := by
      unfold lineT
      rw [meansT_parts (by omega)]
      rfl
    rw [hT]
    have a1 := fun x => loF_le ho (l.r - set) x
    have a2 := fun x => le_hiF ho (l.r - set) x
    generalize loF tr (l.r - set) = F' at *
    generalize hiF tr (l.r - set) = Z' at *
    have b1 := e1 m (Int.le_refl _)
    have b2 := a1 m
    have b3 : F ≤ m → F = F' := fun h => by
      have c1 := (e1 F h).1 (Int.le_refl _)
      have c2 := (a1 F).2 c1
      have c3 := (e1 F' (by omega)).2 ((a1 F').1 (Int.le_refl _))
      omega
    have b4 : min Z m = min Z' m := by
      have c1 := (e2 (min Z m) (by omega)).1 (by omega)
      have c2 := (a2 (min Z m)).2 c1
      have c3 := (a2 (min Z' m)).1 (by omega)
      have c4 := (e2 (min Z' m) (by omega)).2 c3
      omega
    simp only
    refine ⟨?_, by omega⟩
    by_cases c : F ≤ m
    · have := b3 c
      exact .inl (by omega)
    · exact .inr (by omega)
theorem until_cons (l : Ln) (ls : List Ln) (h : ls ≠ []) : untilL (l :: ls) = untilL ls := by
  unfold untilL
  cases ls with
  | nil => exact absurd rfl h
  | cons a ls => rfl
theorem fwdD_beyond {x : List Sp} : ∀ (ls : List Ln) (prev : Int), ls ≠ [] → untilL ls ≤ m → m < prev → fwdD set x prev ls = none
  | [], _, h, _, _ => absurd rfl h
  | [l], prev, _, hu, hp => by
    rw [fwdD_cons, if_pos]
    have hu' : l.k.hi ≤ m := hu
    simp only [lineD, tellD]
    omega
  | l :: a :: ls, prev, _, hu, hp => by
    rw [fwdD_cons]
    split
    · rfl
    · have h1 : m < (lineD set x prev l).lo := by simp only [lineD, tellD]; omega
      rw [fwdD_beyond (a :: ls) _ (by simp) (by rw [until_cons l (a :: ls) (by simp)] at hu; exact hu) h1]
      rfl
theorem fwdT_beyond : ∀ (ls : List Ln) (prev : Int), ls ≠ [] → untilL ls ≤ m → m < prev → fwdT ⟨set, fs⟩ tr prev ls = none
  | [], _, h, _, _ => absurd rfl h
  | [l], prev, _, hu, hp => by
    rw [fwdT_cons, if_pos]
    have hu' : l.k.hi ≤ m := hu
    simp only [lineT, Sp.common]
    omega
  | l :: a :: ls, prev, _, hu, hp => by
    rw [fwdT_cons]
    split
    · rfl
    · have h1 : m < (lineT ⟨set, fs⟩ tr prev l).lo := by simp only [lineT]; omega
      rw [fwdT_beyond (a :: ls) _ (by simp) (by rw [until_cons l (a :: ls) (by simp)] at hu; exact hu) h1]
      rfl
theorem bwd_head {x : List Sp} : ∀ (ls : List Ln) (prev : Int) (r : List Sp), ls ≠ [] → fwdD set x prev ls = some r → ∃ t r', bwd r = t :: r' ∧ t.hi ≤ untilL ls
  | [], _, _, h, _ => absurd rfl h
  | [l], prev, r, _, h => by
    rw [fwdD_cons] at h
    split at h
    · cases h
    · simp only [fwdD, Option.map_some, Option.some.injEq] at h
      subst h
      refine ⟨_, [], rfl, ?_⟩
      show (lineD set x prev l).hi ≤ l.k.hi
      simp only [lineD, tellD]
      omega
  | l :: a :: ls, prev, r, _, h => by
    rw [fwdD_cons] at h
    split at h
    · cases h
    · obtain ⟨r0, h0, rfl⟩ := Option.map_eq_some_iff.1 h
      obtain ⟨t, r', hb, hh⟩ := bwd_head (a :: ls) _ r0 (by simp) h0
      refine ⟨⟨(lineD set x prev l).lo, min (lineD set x prev l).hi t.hi⟩, t :: r', ?_, ?_⟩
      · show bwd (lineD set x prev l :: r0) = _
        unfold bwd
        rw [hb]
      · rw [until_cons l (a :: ls) (by simp)]
        simp only
        omega
theorem course_fwd (ho : Ord 0 tr) (ht : ∀ t ∈ tr, 0 ≤ t.lo ∧ t.lo ≤ t.hi ∧ t.hi ≤ 4319) (hm : 0 ≤ m) : ∀ (ls : List Ln) (prev : Int), ls ≠ [] → (∀ l ∈ ls, lineB l = true) → untilL ls ≤ m → 0 ≤ prev →
    (fwdD set (pad (tr.map fun t => cutF t m)) prev ls).map bwd = (fwdT ⟨set, fs⟩ tr prev ls).map bwd
  | [], _, h, _, _, _ => absurd rfl h
  | [l], prev, _, hv, hu, hp => by
    have hc := line_cmp (set := set) (fs := fs) ho ht hm (hv l (List.mem_cons_self ..)) hp
    have hu' : l.k.hi ≤ m := hu
    have hP : (lineD set (pad (tr.map fun t => cutF t m)) prev l).hi ≤ l.k.hi := by simp only [lineD, tellD]; omega
    have hQ : (lineT ⟨set, fs⟩ tr prev l).hi ≤ l.k.hi := by simp only [lineT, Sp.common]; omega
    rw [fwdD_cons, fwdT_cons]
    generalize lineD set (pad (tr.map fun t => cutF t m)) prev l = P at *
    generalize lineT ⟨set, fs⟩ tr prev l = Q at *
    obtain ⟨pl, ph⟩ := P
    obtain ⟨ql, qh⟩ := Q
    simp only at hc hP hQ ⊢
    rcases hc with ⟨h1, h2⟩ | ⟨h1 | h1, h2⟩
    · rw [if_pos h1, if_pos h2]
    · have e : ph = qh := by omega
      subst h1 e
      simp only [fwdD, fwdT]
    · rw [if_pos (by omega), if_pos (by omega)]
  | l :: a :: ls, prev, _, hv, hu, hp => by
    have hc := line_cmp (set := set) (fs := fs) ho ht hm (hv l (List.mem_cons_self ..)) hp
    have hu2 : untilL (a :: ls) ≤ m := by rw [until_cons l (a :: ls) (by simp)] at hu; exact hu
    have hpT : prev ≤ (lineT ⟨set, fs⟩ tr prev l).lo := by simp only [lineT]; omega
    have ih := fun p hp => course_fwd ho ht hm (a :: ls) p (by simp) (fun x hx => hv x (List.mem_cons_of_mem _ hx)) hu2 hp
    have nD := fun p hp => fwdD_beyond (set := set) (m := m) (x := pad (tr.map fun t => cutF t m)) (a :: ls) p (by simp) hu2 hp
    have nT := fun p hp => fwdT_beyond (set := set) (m := m) (fs := fs) (tr := tr) (a :: ls) p (by simp) hu2 hp
    have hb := fun p r => bwd_head (set := set) (x := pad (tr.map fun t => cutF t m)) (a :: ls) p r (by simp)
    rw [fwdD_cons, fwdT_cons]
    generalize lineD set (pad (tr.map fun t => cutF t m)) prev l = P at *
    generalize lineT ⟨set, fs⟩ tr prev l = Q at *
    obtain ⟨pl, ph⟩ := P
    obtain ⟨ql, qh⟩ := Q
    simp only at hc hpT ⊢
    have far : m < pl → m < ql → Option.map bwd (if ph < pl then none else Option.map (fun x => (⟨pl, ph⟩ : Sp) :: x) (fwdD set (pad (tr.map fun t => cutF t m)) pl (a :: ls))) =
        Option.map bwd (if qh < ql then none else Option.map (fun x => (⟨ql, qh⟩ : Sp) :: x) (fwdT ⟨set, fs⟩ tr ql (a :: ls))) := fun h1 h2 => by
      rw [nD pl h1, nT ql h2]
      simp
    rcases hc with ⟨h1, h2⟩ | ⟨h1 | h1, h2⟩
    · rw [if_pos h1, if_pos h2]
    · subst h1
      by_cases c : m < pl
      · exact far c c
      · by_cases d : ph < pl
        · rw [if_pos d, if_pos (by omega)]
        · rw [if_neg d, if_neg (by omega)]
          have hi := ih pl (by omega)
          cases hD : fwdD set (pad (tr.map fun t => cutF t m)) pl (a :: ls) with
          | none =>
            rw [hD] at hi
            cases hT : fwdT ⟨set, fs⟩ tr pl (a :: ls) with
            | none => rfl
            | some r => rw [hT] at hi; simp at hi
          | some r =>
            rw [hD] at hi
            obtain ⟨t, r', e1, e2⟩ := hb pl r hD
            cases hT : fwdT ⟨set, fs⟩ tr pl (a :: ls) with
            | none => rw [hT] at hi; simp at hi
            | some s =>
              rw [hT] at hi
              simp only [Option.map_some, Option.some.injEq] at hi ⊢
              unfold bwd
              rw [← hi, e1]
              simp only
              have e : min ph t.hi = min qh t.hi := by omega
              rw [e]
    · exact far h1.1 h1.2
theorem course_eq (ho : Ord 0 tr) (ht : ∀ t ∈ tr, 0 ≤ t.lo ∧ t.lo ≤ t.hi ∧ t.hi ≤ 4319) (hm : 0 ≤ m) (ls : List Ln) (hv : ∀ l ∈ ls, lineB l = true) (hu : untilL ls ≤ m) :
    courseD set (pad (tr.map fun t => cutF t m)) ls = courseT ⟨set, fs⟩ ls tr := by
  unfold courseD courseT
  cases ls with
  | nil => rfl
  | cons l ls => exact course_fwd ho ht hm (l :: ls) 0 (by simp) hv hu (Int.le_refl _)
end
end Go.Proofs.Ytmddbnjbliponaa
