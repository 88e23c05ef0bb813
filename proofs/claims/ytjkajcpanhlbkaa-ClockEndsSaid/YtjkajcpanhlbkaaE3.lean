/- Both ends of what the clock shows, and of what a reading can mean, are so in truths. No Go here. -/
import Derived.Test.YtjkajcpanhlbkaaE2
import Derived.Test.YtjkajcpanhlbkaaEn
namespace Go.Proofs.Ytjkajcpanhlbkaa
set_option linter.unusedSimpArgs false
set_option linter.unusedVariables false

theorem still_mono {tr : List When} {ov : Int} (h : Ord ov tr) {x y : Int} (hxy : x ≤ y) : x - still tr x ≤ y - still tr y := by
  obtain ⟨n, rfl⟩ : ∃ n : Nat, y = x + n := ⟨(y - x).toNat, by omega⟩
  clear hxy
  induction n with
  | zero => simp
  | succ n ih =>
    have h1 := (still_succ tr ov h (x + (n : Int))).1
    have e : x + ((n + 1 : Nat) : Int) = x + (n : Int) + 1 := by omega
    rw [e, h1]
    split <;> omega
def loF (tr : List When) (a : Int) : Int := tr.foldl (fun a t => if t.lo < a then a + (t.hi - t.lo) else a) a
def hiF (tr : List When) (a : Int) : Int := tr.foldl (fun a t => if t.lo ≤ a then a + (t.hi - t.lo) else a) a
theorem fold_parts (tr : List When) (s : Sp) : tr.foldl meanStep s = ⟨loF tr s.lo, hiF tr s.hi⟩ := by
  induction tr generalizing s with
  | nil => rfl
  | cons t ts ih => rw [List.foldl_cons, ih]; rfl
theorem loF_spec (tr : List When) (ov : Int) (h : Ord ov tr) (a : Int) : loF tr a - still tr (loF tr a) = a ∧ ∀ x, x < loF tr a → x - still tr x < a := by
  induction tr generalizing ov a with
  | nil => simp [loF, still]
  | cons t ts ih =>
    obtain ⟨o1, o2, o3⟩ := h
    by_cases c : t.lo < a
    · have e : loF (t :: ts) a = loF ts (a + (t.hi - t.lo)) := by simp [loF, c]
      rw [e]
      obtain ⟨i1, i2⟩ := ih t.hi o3 (a + (t.hi - t.lo))
      generalize loF ts (a + (t.hi - t.lo)) = y at *
      have n1 := still_nonneg ts y
      simp only [still]
      refine ⟨by omega, fun x hx => ?_⟩
      have i3 := i2 x hx
      by_cases d : x < t.hi
      · have z := still_early o3 (m := x) (by omega)
        omega
      · omega
    · have e : loF (t :: ts) a = loF ts a := by simp [loF, c]
      rw [e]
      obtain ⟨i1, i2⟩ := ih t.hi o3 a
      have z := still_early o3 (m := a) (by omega)
      generalize loF ts a = y at *
      have n1 := still_nonneg ts y
      have ha : ¬ a < y := fun hh => by have := i2 a hh; omega
      have hy : y = a := by omega
      subst hy
      simp only [still]
      refine ⟨by omega, fun x hx => ?_⟩
      have n2 := still_nonneg ts x
      omega
theorem hiF_spec (tr : List When) (ov : Int) (h : Ord ov tr) (a : Int) : hiF tr a - still tr (hiF tr a) = a ∧ ∀ x, hiF tr a < x → a < x - still tr x := by
  induction tr generalizing ov a with
  | nil => simp [hiF, still]
  | cons t ts ih =>
    obtain ⟨o1, o2, o3⟩ := h
    by_cases c : t.lo ≤ a
    · have e : hiF (t :: ts) a = hiF ts (a + (t.hi - t.lo)) := by simp [hiF, c]
      rw [e]
      obtain ⟨i1, i2⟩ := ih t.hi o3 (a + (t.hi - t.lo))
      generalize hiF ts (a + (t.hi - t.lo)) = y at *
      have n1 := still_nonneg ts y
      simp only [still]
      refine ⟨by omega, fun x hx => ?_⟩
      have i3 := i2 x hx
      omega
    · have e : hiF (t :: ts) a = hiF ts a := by simp [hiF, c]
      rw [e]
      obtain ⟨i1, i2⟩ := ih t.hi o3 a
      have z := still_early o3 (m := a) (by omega)
      generalize hiF ts a = y at *
      have n1 := still_nonneg ts y
      have ha : ¬ y < a := fun hh => by have := i2 a hh; omega
      have hy : y = a := by
        by_cases d : y ≤ t.hi
        · have z2 := still_early o3 (m := y) d
          omega
        · have l2 := still_late o3 (m := y) (by omega)
          omega
      subst hy
      simp only [still]
      refine ⟨by omega, fun x hx => ?_⟩
      by_cases d : x ≤ t.hi
      · have z3 := still_early o3 (m := x) d
        omega
      · have l3 := still_late o3 (m := x) (by omega)
        omega
/-- the longest frosts, and the shortest -/
theorem ends_inT (fs : List Fr) (hO : OkFs fs) (long : Bool) : InT fs (endsL fs long) := by
  have go : ∀ fs : List Fr, (∀ f ∈ fs, f.b.lo ≤ f.b.hi ∧ f.e.lo ≤ f.e.hi) → InT fs (endsL fs long) := fun fs => by
    induction fs with
    | nil => intro _; exact trivial
    | cons f fs ih =>
      intro h
      have h1 := h f (List.mem_cons_self ..)
      refine ⟨?_, ih fun g hg => h g (List.mem_cons_of_mem _ hg)⟩
      cases long <;> simp only [endOf, Bool.false_eq_true, if_false, if_true] <;> omega
  exact go fs fun f hf => ⟨(hO.2 f hf).2.1, (hO.2 f hf).2.2.2.2.1⟩
theorem still_ends (fs : List Fr) (tr : List When) (h : InT fs tr) (m : Int) : still (endsL fs false) m ≤ still tr m ∧ still tr m ≤ still (endsL fs true) m := by
  induction fs generalizing tr with
  | nil => cases tr with
    | nil => exact ⟨Int.le_refl _, Int.le_refl _⟩
    | cons t ts => exact h.elim
  | cons f fs ih => cases tr with
    | nil => exact h.elim
    | cons t ts =>
      obtain ⟨⟨h1, h2, h3, h4⟩, hr⟩ := h
      obtain ⟨i1, i2⟩ := ih ts hr
      have e1 : endsL (f :: fs) false = ⟨f.b.hi, f.e.lo⟩ :: endsL fs false := rfl
      have e2 : endsL (f :: fs) true = ⟨f.b.lo, f.e.hi⟩ :: endsL fs true := rfl
      rw [e1, e2]
      simp only [still]
      omega
variable {set : Int} {fs : List Fr}
theorem ends_shows (hok : Ck.ok ⟨set, fs⟩ = true) {m : Int} (hm : 0 ≤ m ∧ m ≤ 4319) : pShowsR ⟨set, fs⟩ m = (⟨showsT ⟨set, fs⟩ (endsL fs true) m, showsT ⟨set, fs⟩ (endsL fs false) m⟩, 0) := by
  have hO := (okFs_of hok).1
  have hmB : minuteB m = true := by simp [minuteB, hm]
  rw [pShows_eq]
  unfold showsR
  rw [if_pos (askE_ok hok hmB)]
  have in1 : showS ⟨set, fs⟩ m (endsL fs true) ∈ (truths fs).map (showS ⟨set, fs⟩ m) := List.mem_map.2 ⟨_, (mem_truths fs _).2 (ends_inT fs hO true), rfl⟩
  have in2 : showS ⟨set, fs⟩ m (endsL fs false) ∈ (truths fs).map (showS ⟨set, fs⟩ m) := List.mem_map.2 ⟨_, (mem_truths fs _).2 (ends_inT fs hO false), rfl⟩
  cases hh : showsH ⟨set, fs⟩ m with
  | none =>
    have := (hull_isNone _).1 hh _ in1
    simp only [showS] at this
    omega
  | some h =>
    obtain ⟨h1, ⟨s, hs1, hs2, e1⟩, ⟨t, ht1, ht2, e2⟩⟩ := hull_some hh
    obtain ⟨tr1, htr1, rfl⟩ := List.mem_map.1 hs1
    obtain ⟨tr2, htr2, rfl⟩ := List.mem_map.1 ht1
    have k1 := h1 _ in1 (by simp only [showS]; omega)
    have k2 := h1 _ in2 (by simp only [showS]; omega)
    have b1 := still_ends fs tr1 ((mem_truths fs tr1).1 htr1) m
    have b2 := still_ends fs tr2 ((mem_truths fs tr2).1 htr2) m
    obtain ⟨hl, hh'⟩ := h
    simp only [showS, showsT] at k1 k2 e1 e2
    simp only [Option.getD_some, showsT, Prod.mk.injEq, Sp.mk.injEq, and_true]
    omega
/-- what a reading can mean in a truth, exactly -/
theorem meansT_parts {tr : List When} {r : Int} (hr : set ≤ r) : meansT ⟨set, fs⟩ tr r = ⟨max (loF tr (r - set)) 0, min (hiF tr (r - set)) 4319⟩ := by
  unfold meansT
  rw [if_neg (by simp only; omega), fold_parts]
  rfl
theorem ends_means (hok : Ck.ok ⟨set, fs⟩ = true) {m : Int} (hm : 0 ≤ m ∧ m ≤ 4319) :
    (∃ T, pMeansR ⟨set, fs⟩ (showsT ⟨set, fs⟩ (endsL fs false) m) = (T, 0) ∧ 0 ≤ T.lo ∧ T.hi ≤ 4319 ∧ T.lo ≤ m ∧ m ≤ T.hi ∧ showsT ⟨set, fs⟩ (endsL fs false) T.lo = showsT ⟨set, fs⟩ (endsL fs false) m ∧ (T.lo = 0 ∨ showsT ⟨set, fs⟩ (endsL fs false) (T.lo - 1) < showsT ⟨set, fs⟩ (endsL fs false) m)) ∧
    (∃ U, pMeansR ⟨set, fs⟩ (showsT ⟨set, fs⟩ (endsL fs true) m) = (U, 0) ∧ 0 ≤ U.lo ∧ U.hi ≤ 4319 ∧ U.lo ≤ m ∧ m ≤ U.hi ∧ showsT ⟨set, fs⟩ (endsL fs true) U.hi = showsT ⟨set, fs⟩ (endsL fs true) m ∧ (U.hi = 4319 ∨ showsT ⟨set, fs⟩ (endsL fs true) m < showsT ⟨set, fs⟩ (endsL fs true) (U.hi + 1))) := by
  have hO := (okFs_of hok).1
  have hs := ok_set hok
  have key : ∀ tr0, InT fs tr0 → ∃ h, pMeansR ⟨set, fs⟩ (showsT ⟨set, fs⟩ tr0 m) = (h, 0) ∧ 0 ≤ h.lo ∧ h.hi ≤ 4319 ∧ h.lo ≤ m ∧ m ≤ h.hi ∧ h.lo ≤ max (loF tr0 (m - still tr0 m)) 0 ∧ min (hiF tr0 (m - still tr0 m)) 4319 ≤ h.hi ∧
      (∃ tr1, InT fs tr1 ∧ h.lo - still tr1 h.lo = m - still tr0 m) ∧ (∃ tr2, InT fs tr2 ∧ h.hi - still tr2 h.hi = m - still tr0 m) := fun tr0 ht0 => by
    have o0 := ord_of fs 0 (chk_of hok) tr0 ht0
    have hbd := shown_bd (fs := fs) hs o0 hm
    have h1 := true_means hok ht0 hm
    have hmR : isReadingB (showsT ⟨set, fs⟩ tr0 m) = true := by simp [isReadingB]; omega
    have hge := still_late o0 (m := m) hm.1
    have hrs : set ≤ showsT ⟨set, fs⟩ tr0 m := by simp only [showsT]; omega
    have hg : showsT ⟨set, fs⟩ tr0 m - set = m - still tr0 m := by simp only [showsT]; omega
    rw [pMeans_eq] at h1 ⊢
    unfold meansR at h1 ⊢
    rw [if_pos (askE_ok hok hmR)] at h1 ⊢
    have hin0 : meansT ⟨set, fs⟩ tr0 (showsT ⟨set, fs⟩ tr0 m) ∈ (truths fs).map (fun tr' => meansT ⟨set, fs⟩ tr' (showsT ⟨set, fs⟩ tr0 m)) := List.mem_map.2 ⟨tr0, (mem_truths fs tr0).2 ht0, rfl⟩
    cases hh : meansH ⟨set, fs⟩ (showsT ⟨set, fs⟩ tr0 m) with
    | none => rw [hh] at h1; simp [orNone] at h1
    | some h =>
      rw [hh] at h1
      simp only [orNone] at h1 ⊢
      obtain ⟨k1, ⟨s, hs1, hs2, e1⟩, ⟨t, ht1, ht2, e2⟩⟩ := hull_some hh
      obtain ⟨tr1, htr1, rfl⟩ := List.mem_map.1 hs1
      obtain ⟨tr2, htr2, rfl⟩ := List.mem_map.1 ht1
      have i1 := (mem_truths fs tr1).1 htr1
      have i2 := (mem_truths fs tr2).1 htr2
      have o1 := ord_of fs 0 (chk_of hok) tr1 i1
      have o2 := ord_of fs 0 (chk_of hok) tr2 i2
      have hat := means_at (set := set) (fs := fs) o0 hm
      have k0 := k1 _ hin0 (by omega)
      rw [meansT_parts hrs] at hs2 e1 ht2 e2 k0
      rw [hg] at hs2 e1 ht2 e2 k0
      simp only at hs2 e1 ht2 e2 k0
      have l1 := loF_spec tr1 0 o1 (m - still tr0 m)
      have l2 := hiF_spec tr2 0 o2 (m - still tr0 m)
      have l3 := loF_spec tr2 0 o2 (m - still tr0 m)
      have n1 := still_nonneg tr1 (loF tr1 (m - still tr0 m))
      have n2 := still_nonneg tr2 (hiF tr2 (m - still tr0 m))
      have n3 := still_nonneg tr2 (loF tr2 (m - still tr0 m))
      refine ⟨h, rfl, by omega, by omega, h1.2.1, h1.2.2, k0.1, k0.2, ⟨tr1, i1, ?_⟩, ⟨tr2, i2, ?_⟩⟩
      · have e : h.lo = loF tr1 (m - still tr0 m) := by omega
        rw [e]; exact l1.1
      · by_cases c : hiF tr2 (m - still tr0 m) ≤ 4319
        · have e : h.hi = hiF tr2 (m - still tr0 m) := by omega
          rw [e]; exact l2.1
        · have e : h.hi = 4319 := by omega
          have m1 := still_mono o2 (x := loF tr2 (m - still tr0 m)) (y := 4319) (by omega)
          have m2 := still_mono o2 (x := 4319) (y := hiF tr2 (m - still tr0 m)) (by omega)
          rw [e]
          omega
  constructor
  · have hI := ends_inT fs hO false
    have oH := ord_of fs 0 (chk_of hok) _ hI
    obtain ⟨h, e0, b1, b2, b3, b4, b5, _, ⟨tr1, i1, c1⟩, _⟩ := key _ hI
    refine ⟨h, e0, b1, b2, b3, b4, ?_⟩
    have sp := loF_spec (endsL fs false) 0 oH (m - still (endsL fs false) m)
    have n0 := still_nonneg (endsL fs false) (loF (endsL fs false) (m - still (endsL fs false) m))
    have n1 := still_late oH (m := m) hm.1
    have se := still_ends fs tr1 i1 h.lo
    have hge : loF (endsL fs false) (m - still (endsL fs false) m) ≤ h.lo := by
      refine Int.not_lt.1 fun hlt => ?_
      have := sp.2 h.lo hlt
      omega
    have heq : h.lo = loF (endsL fs false) (m - still (endsL fs false) m) := by omega
    simp only [showsT]
    refine ⟨by rw [heq]; omega, ?_⟩
    by_cases c : h.lo = 0
    · exact .inl c
    · have := sp.2 (h.lo - 1) (by omega)
      exact .inr (by omega)
  · have hI := ends_inT fs hO true
    have oL := ord_of fs 0 (chk_of hok) _ hI
    obtain ⟨h, e0, b1, b2, b3, b4, _, b6, _, ⟨tr2, i2, c2⟩⟩ := key _ hI
    refine ⟨h, e0, b1, b2, b3, b4, ?_⟩
    have sp := hiF_spec (endsL fs true) 0 oL (m - still (endsL fs true) m)
    have se := still_ends fs tr2 i2 h.hi
    have hle : h.hi ≤ hiF (endsL fs true) (m - still (endsL fs true) m) := by
      refine Int.not_lt.1 fun hlt => ?_
      have := sp.2 h.hi hlt
      omega
    simp only [showsT]
    have m1 := still_mono oL (x := m) (y := h.hi) b4
    have m2 := still_mono oL (x := h.hi) (y := hiF (endsL fs true) (m - still (endsL fs true) m)) hle
    refine ⟨by omega, ?_⟩
    by_cases c : h.hi = 4319
    · exact .inl c
    · have := sp.2 (h.hi + 1) (by omega)
      exact .inr (by omega)
theorem ends_next {tr : List When} (hI : InT fs tr) (hok : Ck.ok ⟨set, fs⟩ = true) (m : Int) : showsT ⟨set, fs⟩ tr m ≤ showsT ⟨set, fs⟩ tr (m + 1) ∧ showsT ⟨set, fs⟩ tr (m + 1) ≤ showsT ⟨set, fs⟩ tr m + 1 := by
  have h1 := (still_succ tr 0 (ord_of fs 0 (chk_of hok) tr hI) m).1
  simp only [showsT]
  rw [h1]
  split <;> omega
end Go.Proofs.Ytjkajcpanhlbkaa
