/- What the clock shows in a truth lies between what is told, and what is shown can mean the minute. No Go here. -/
import Derived.Test.YtmddbnjbliponaaD3
import Derived.Test.YtmddbnjbliponaaN
namespace Go.Proofs.Ytmddbnjbliponaa
set_option linter.unusedSimpArgs false
set_option linter.unusedVariables false


theorem ok_bare {set : Int} {fs : List Fr} (h : Ck.ok ⟨set, fs⟩ = true) : Ck.ok ⟨set, []⟩ = true := by
  simp only [Ck.ok, Bool.and_eq_true, decide_eq_true_eq] at h
  simp [Ck.ok, chk, h.1, h.2.1]
theorem ok_set {set : Int} {fs : List Fr} (h : Ck.ok ⟨set, fs⟩ = true) : 0 ≤ set ∧ set ≤ 4319 := by
  simp only [Ck.ok, Bool.and_eq_true, decide_eq_true_eq] at h
  exact ⟨h.1, h.2.1⟩
theorem askE_ok {c : Ck} {q : Bool} (hc : c.ok = true) (hq : q = true) : askE c q = 0 := by simp [askE, hc, hq]

theorem plain_shows (set a : Int) (hs : 0 ≤ set ∧ set ≤ 4319) (ha : 0 ≤ a ∧ a ≤ 4319) : pShowsR ⟨set, []⟩ a = (⟨set + a, set + a⟩, 0) := by
  have hk : Ck.ok ⟨set, []⟩ = true := by simp [Ck.ok, chk, hs]
  have hm : minuteB a = true := by simp [minuteB, ha]
  rw [pShows_eq]
  unfold showsR
  rw [if_pos (askE_ok hk hm)]
  have : showsH ⟨set, []⟩ a = some ⟨set + a, set + a⟩ := by
    simp [showsH, truths, hull, showS, showsT, still, addS]
  rw [this]; rfl
theorem plain_meansT (set r : Int) (h : set ≤ r) (h' : r - set ≤ 4319) (fs : List Fr) : meansT ⟨set, fs⟩ [] r = ⟨r - set, r - set⟩ := by
  unfold meansT
  rw [if_neg (by simp only; omega)]
  simp only [List.foldl_nil, Sp.common, Sp.mk.injEq]
  omega
theorem plain_means (set z : Int) (hs : 0 ≤ set ∧ set ≤ 4319) (hz : 0 ≤ z ∧ z ≤ 4319) : pMeansR ⟨set, []⟩ (set + z) = (⟨z, z⟩, 0) := by
  have hk : Ck.ok ⟨set, []⟩ = true := by simp [Ck.ok, chk, hs]
  have hm : isReadingB (set + z) = true := by simp [isReadingB]; omega
  rw [pMeans_eq]
  unfold meansR
  rw [if_pos (askE_ok hk hm)]
  have e : set + z - set = z := by omega
  have : meansH ⟨set, []⟩ (set + z) = some ⟨z, z⟩ := by
    simp only [meansH, truths, List.map_cons, List.map_nil]
    rw [plain_meansT set (set + z) (by omega) (by omega), e, hull_cons _ _ (Int.le_refl _)]
    rfl
  rw [this]; rfl
theorem plain_passed (set a z : Int) (hs : 0 ≤ set ∧ set ≤ 4319) (ha : 0 ≤ a ∧ a ≤ z) (hz : z ≤ 4319) : pPassedR ⟨set, []⟩ (set + a) (set + z) = (⟨z - a, z - a⟩, 0) := by
  have hk : Ck.ok ⟨set, []⟩ = true := by simp [Ck.ok, chk, hs]
  have hm : (isReadingB (set + a) && isReadingB (set + z)) = true := by simp [isReadingB]; omega
  rw [pPassed_eq]
  unfold passedR
  rw [if_pos (askE_ok hk hm)]
  have : passedH ⟨set, []⟩ (set + a) (set + z) = some ⟨z - a, z - a⟩ := by
    simp only [passedH, truths, List.map_cons, List.map_nil]
    have e : passT ⟨set, []⟩ (set + a) (set + z) [] = ⟨z - a, z - a⟩ := by
      unfold passT
      rw [plain_meansT set (set + a) (by omega) (by omega), plain_meansT set (set + z) (by omega) (by omega)]
      rw [if_neg (by simp [Sp.void]; omega)]
      simp only [Sp.mk.injEq]
      omega
    rw [e, hull_cons _ _ (Int.le_refl _)]
    rfl
  rw [this]; rfl

theorem frost_shows (set a : Int) (fs : List Fr) (hok : Ck.ok ⟨set, fs⟩ = true) (ha : 0 ≤ a ∧ a ≤ 4319) : (pShowsR ⟨set, fs⟩ a).2 = 0 ∧ (pShowsR ⟨set, fs⟩ a).1.hi ≤ set + a ∧ (pShowsR ⟨set, fs⟩ a).1.lo ≤ (pShowsR ⟨set, fs⟩ a).1.hi := by
  have hm : minuteB a = true := by simp [minuteB, ha]
  rw [pShows_eq]
  unfold showsR
  rw [if_pos (askE_ok hok hm)]
  refine ⟨rfl, ?_⟩
  obtain ⟨hO, _, _⟩ := okFs_of hok
  cases hh : showsH ⟨set, fs⟩ a with
  | none =>
    have h0 := truths_ne fs hO
    have := (hull_isNone _).1 hh (showS ⟨set, fs⟩ a (truths fs)[0]) (List.mem_map.2 ⟨_, List.getElem_mem h0, rfl⟩)
    simp only [showS] at this
    omega
  | some h =>
    obtain ⟨h1, ⟨s, hs, hs', e1⟩, ⟨t, ht, ht', e2⟩⟩ := hull_some hh
    obtain ⟨tr, _, rfl⟩ := List.mem_map.1 ht
    have hn := still_nonneg tr a
    have h2 := h1 _ ht ht'
    simp only [Option.getD_some]
    simp only [showS, showsT] at e2 h2
    omega

theorem lo_fold (tr : List When) (h : ∀ t ∈ tr, 0 ≤ t.lo ∧ t.lo ≤ t.hi ∧ t.hi ≤ 4319) (s : Sp) : s.lo ≤ (tr.foldl meanStep s).lo := by
  induction tr generalizing s with
  | nil => exact Int.le_refl _
  | cons t tr ih =>
    have h0 := h t (List.mem_cons_self ..)
    have h1 := ih (fun u hu => h u (List.mem_cons_of_mem _ hu)) (meanStep s t)
    simp only [List.foldl_cons]
    have h2 : s.lo ≤ (meanStep s t).lo := by unfold meanStep; simp only; split <;> omega
    omega
/-- two readings: no less passes between the last minute of one and the first of a greater one than they differ by -/
theorem gap_fold (tr : List When) (h : ∀ t ∈ tr, 0 ≤ t.lo ∧ t.lo ≤ t.hi ∧ t.hi ≤ 4319) (s u : Sp) (d : Int) (hd : 0 < d) (hsu : d ≤ u.lo - s.hi) : d ≤ (tr.foldl meanStep u).lo - (tr.foldl meanStep s).hi := by
  induction tr generalizing s u with
  | nil => exact hsu
  | cons t tr ih =>
    have h0 := h t (List.mem_cons_self ..)
    simp only [List.foldl_cons]
    refine ih (fun v hv => h v (List.mem_cons_of_mem _ hv)) _ _ ?_
    unfold meanStep
    simp only
    split <;> split <;> omega
theorem means_lo (set z : Int) (fs : List Fr) (tr : List When) (h : ∀ t ∈ tr, 0 ≤ t.lo ∧ t.lo ≤ t.hi ∧ t.hi ≤ 4319) (hz : 0 ≤ z) : z ≤ (meansT ⟨set, fs⟩ tr (set + z)).lo := by
  unfold meansT
  rw [if_neg (by simp only; omega)]
  have := lo_fold tr h ⟨set + z - set, set + z - set⟩
  simp only [Sp.common] at this ⊢
  omega
theorem frost_means (set z : Int) (fs : List Fr) (hok : Ck.ok ⟨set, fs⟩ = true) (hz : 0 ≤ z ∧ z ≤ 4319) :
    ((pMeansR ⟨set, fs⟩ (set + z)).2 = 0 ∧ z ≤ (pMeansR ⟨set, fs⟩ (set + z)).1.lo) ∨ ((pMeansR ⟨set, fs⟩ (set + z)).2 = 4 ∧ ∀ a, 0 ≤ a → a ≤ z → (pPassedR ⟨set, fs⟩ (set + a) (set + z)).2 = 4) := by
  have hs := ok_set hok
  obtain ⟨hO, _, _⟩ := okFs_of hok
  have hk : ∀ tr, tr ∈ truths fs → ∀ t ∈ tr, 0 ≤ t.lo ∧ t.lo ≤ t.hi ∧ t.hi ≤ 4319 := fun tr ht => (okTr_mem hO ht).2
  have hm : isReadingB (set + z) = true := by simp [isReadingB]; omega
  rw [pMeans_eq]
  unfold meansR
  rw [if_pos (askE_ok hok hm)]
  cases hh : meansH ⟨set, fs⟩ (set + z) with
  | some h =>
    left
    refine ⟨rfl, ?_⟩
    obtain ⟨h1, ⟨s, hs, hs', e1⟩, _⟩ := hull_some hh
    obtain ⟨tr, ht, rfl⟩ := List.mem_map.1 hs
    have := means_lo set z fs tr (hk tr ht) hz.1
    simp only [orNone]
    omega
  | none =>
    right
    refine ⟨rfl, fun a ha haz => ?_⟩
    have hv := (hull_isNone _).1 hh
    have hma : (isReadingB (set + a) && isReadingB (set + z)) = true := by simp [isReadingB]; omega
    rw [pPassed_eq]
    unfold passedR
    rw [if_pos (askE_ok hok hma)]
    have : passedH ⟨set, fs⟩ (set + a) (set + z) = none := by
      unfold passedH
      rw [hull_isNone]
      intro s hs
      obtain ⟨tr, ht, rfl⟩ := List.mem_map.1 hs
      have hz := hv _ (List.mem_map.2 ⟨tr, ht, rfl⟩)
      unfold passT
      rw [if_pos (by simp [Sp.void, hz])]
      simp only; omega
    rw [this]; rfl
theorem frost_passed (set a z : Int) (fs : List Fr) (hok : Ck.ok ⟨set, fs⟩ = true) (ha : 0 ≤ a ∧ a ≤ z) (hz : z ≤ 4319) :
    (pPassedR ⟨set, fs⟩ (set + a) (set + z)).2 = 4 ∨ ((pPassedR ⟨set, fs⟩ (set + a) (set + z)).2 = 0 ∧ z - a ≤ (pPassedR ⟨set, fs⟩ (set + a) (set + z)).1.lo ∧ (pPassedR ⟨set, fs⟩ (set + a) (set + z)).1.lo ≤ (pPassedR ⟨set, fs⟩ (set + a) (set + z)).1.hi) := by
  have hs := ok_set hok
  obtain ⟨hO, _, _⟩ := okFs_of hok
  have hk : ∀ tr, tr ∈ truths fs → ∀ t ∈ tr, 0 ≤ t.lo ∧ t.lo ≤ t.hi ∧ t.hi ≤ 4319 := fun tr ht => (okTr_mem hO ht).2
  have hma : (isReadingB (set + a) && isReadingB (set + z)) = true := by simp [isReadingB]; omega
  rw [pPassed_eq]
  unfold passedR
  rw [if_pos (askE_ok hok hma)]
  cases hh : passedH ⟨set, fs⟩ (set + a) (set + z) with
  | none => left; rfl
  | some h =>
    right
    refine ⟨rfl, ?_⟩
    obtain ⟨h1, ⟨s, hs1, hs', e1⟩, ⟨t, ht, ht', e2⟩⟩ := hull_some hh
    have h2 := h1 _ hs1 hs'
    obtain ⟨tr, htr, rfl⟩ := List.mem_map.1 hs1
    simp only [orNone]
    refine ⟨?_, by omega⟩
    rw [e1]
    unfold passT at hs' ⊢
    split
    · rename_i hv
      rw [if_pos hv] at hs'
      simp only at hs'
      omega
    · simp only
      by_cases haz : a = z
      · omega
      · have hg : z - a ≤ (meansT ⟨set, fs⟩ tr (set + z)).lo - (meansT ⟨set, fs⟩ tr (set + a)).hi := by
          unfold meansT
          rw [if_neg (by simp only; omega), if_neg (by simp only; omega)]
          have := gap_fold tr (hk tr htr) ⟨set + a - set, set + a - set⟩ ⟨set + z - set, set + z - set⟩ (z - a) (by omega) (by simp only; omega)
          simp only [Sp.common]
          omega
        omega

theorem still_early {tr : List When} {ov : Int} (h : Ord ov tr) {m : Int} (hm : m ≤ ov) : still tr m = 0 := by
  have := (still_succ tr ov h (m - 1)).2.1 (by omega)
  simpa using this
theorem still_late {tr : List When} {ov : Int} (h : Ord ov tr) {m : Int} (hm : ov ≤ m) : ov ≤ m - still tr m := by
  induction tr generalizing ov with
  | nil => simp [still]; omega
  | cons t ts ih =>
    obtain ⟨h1, h2, h3⟩ := h
    simp only [still]
    by_cases c : t.hi ≤ m
    · have := ih h3 c
      omega
    · have := still_early h3 (m := m) (by omega)
      omega
/-- a minute in which so much has gone by on the clock lies between what the steps over the frosts reckon -/
theorem means_fold (tr : List When) (ov : Int) (h : Ord ov tr) (m : Int) (s : Sp) (h1 : s.lo ≤ m - still tr m) (h2 : m - still tr m ≤ s.hi) : (tr.foldl meanStep s).lo ≤ m ∧ m ≤ (tr.foldl meanStep s).hi := by
  induction tr generalizing ov s with
  | nil => simp only [still, List.foldl_nil] at h1 h2 ⊢; omega
  | cons t ts ih =>
    obtain ⟨o1, o2, o3⟩ := h
    simp only [List.foldl_cons]
    simp only [still] at h1 h2
    have e : t.hi ≤ m → t.hi ≤ m - still ts m := fun c => still_late o3 c
    have z : m ≤ t.hi → still ts m = 0 := fun c => still_early o3 c
    refine ih t.hi o3 (meanStep s t) ?_ ?_
    · unfold meanStep
      simp only
      by_cases c : t.hi ≤ m
      · have := e c
        split <;> omega
      · have := z (by omega)
        split <;> omega
    · unfold meanStep
      simp only
      by_cases c : t.hi ≤ m
      · have := e c
        split <;> omega
      · have := z (by omega)
        split <;> omega
theorem means_at {set : Int} {fs : List Fr} {tr : List When} (h : Ord 0 tr) {m : Int} (hm : 0 ≤ m ∧ m ≤ 4319) : (meansT ⟨set, fs⟩ tr (showsT ⟨set, fs⟩ tr m)).lo ≤ m ∧ m ≤ (meansT ⟨set, fs⟩ tr (showsT ⟨set, fs⟩ tr m)).hi := by
  have hl := still_late h (m := m) hm.1
  unfold meansT
  rw [if_neg (by simp only [showsT]; omega)]
  have := means_fold tr 0 h m ⟨showsT ⟨set, fs⟩ tr m - set, showsT ⟨set, fs⟩ tr m - set⟩ (by simp only [showsT]; omega) (by simp only [showsT]; omega)
  simp only [Sp.common] at this ⊢
  omega
theorem means_in {set : Int} {fs : List Fr} (tr : List When) (r : Int) : (meansT ⟨set, fs⟩ tr r).lo ≤ (meansT ⟨set, fs⟩ tr r).hi → 0 ≤ (meansT ⟨set, fs⟩ tr r).lo ∧ (meansT ⟨set, fs⟩ tr r).hi ≤ 4319 := by
  unfold meansT
  split
  · intro h; simp only at h; omega
  · intro _; simp only [Sp.common]; omega

/-- the reading of a minute in a truth -/
theorem shown_bd {set : Int} {fs : List Fr} {tr : List When} (hs : 0 ≤ set ∧ set ≤ 4319) (h : Ord 0 tr) {m : Int} (hm : 0 ≤ m ∧ m ≤ 4319) : 0 ≤ showsT ⟨set, fs⟩ tr m ∧ showsT ⟨set, fs⟩ tr m ≤ 8638 := by
  have hl := still_late h (m := m) hm.1
  have hn := still_nonneg tr m
  simp only [showsT]
  omega
variable {set : Int} {fs : List Fr} {tr : List When}
theorem true_shows (hok : Ck.ok ⟨set, fs⟩ = true) (ht : InT fs tr) {a : Int} (ha : 0 ≤ a ∧ a ≤ 4319) :
    (pShowsR ⟨set, fs⟩ a).2 = 0 ∧ (pShowsR ⟨set, fs⟩ a).1.lo ≤ showsT ⟨set, fs⟩ tr a ∧ showsT ⟨set, fs⟩ tr a ≤ (pShowsR ⟨set, fs⟩ a).1.hi := by
  have hm : minuteB a = true := by simp [minuteB, ha]
  rw [pShows_eq]
  unfold showsR
  rw [if_pos (askE_ok hok hm)]
  refine ⟨rfl, ?_⟩
  have hin : showS ⟨set, fs⟩ a tr ∈ (truths fs).map (showS ⟨set, fs⟩ a) := List.mem_map.2 ⟨tr, (mem_truths fs tr).2 ht, rfl⟩
  cases hh : showsH ⟨set, fs⟩ a with
  | none =>
    have := (hull_isNone _).1 hh _ hin
    simp only [showS] at this
    omega
  | some h =>
    have := (hull_some hh).1 _ hin (by simp only [showS]; omega)
    simp only [showS] at this
    exact this
theorem true_means (hok : Ck.ok ⟨set, fs⟩ = true) (ht : InT fs tr) {z : Int} (hz : 0 ≤ z ∧ z ≤ 4319) :
    (pMeansR ⟨set, fs⟩ (showsT ⟨set, fs⟩ tr z)).2 = 0 ∧ (pMeansR ⟨set, fs⟩ (showsT ⟨set, fs⟩ tr z)).1.lo ≤ z ∧ z ≤ (pMeansR ⟨set, fs⟩ (showsT ⟨set, fs⟩ tr z)).1.hi := by
  have hs := ok_set hok
  have ho := ord_of fs 0 (chk_of hok) tr ht
  have hb := shown_bd (fs := fs) hs ho hz
  have hm : isReadingB (showsT ⟨set, fs⟩ tr z) = true := by simp [isReadingB]; omega
  have hat := means_at (set := set) (fs := fs) ho hz
  rw [pMeans_eq]
  unfold meansR
  rw [if_pos (askE_ok hok hm)]
  have hin : meansT ⟨set, fs⟩ tr (showsT ⟨set, fs⟩ tr z) ∈ (truths fs).map (fun tr' => meansT ⟨set, fs⟩ tr' (showsT ⟨set, fs⟩ tr z)) := List.mem_map.2 ⟨tr, (mem_truths fs tr).2 ht, rfl⟩
  cases hh : meansH ⟨set, fs⟩ (showsT ⟨set, fs⟩ tr z) with
  | none =>
    have := (hull_isNone _).1 hh _ hin
    omega
  | some h =>
    have := (hull_some hh).1 _ hin (by omega)
    simp only [orNone]
    exact ⟨trivial, by omega, by omega⟩
theorem true_passed (hok : Ck.ok ⟨set, fs⟩ = true) (ht : InT fs tr) {a z : Int} (ha : 0 ≤ a ∧ a ≤ z) (hz : z ≤ 4319) :
    (pPassedR ⟨set, fs⟩ (showsT ⟨set, fs⟩ tr a) (showsT ⟨set, fs⟩ tr z)).2 = 0 ∧ (pPassedR ⟨set, fs⟩ (showsT ⟨set, fs⟩ tr a) (showsT ⟨set, fs⟩ tr z)).1.lo ≤ z - a ∧ z - a ≤ (pPassedR ⟨set, fs⟩ (showsT ⟨set, fs⟩ tr a) (showsT ⟨set, fs⟩ tr z)).1.hi ∧
      0 ≤ (pPassedR ⟨set, fs⟩ (showsT ⟨set, fs⟩ tr a) (showsT ⟨set, fs⟩ tr z)).1.lo ∧ (pPassedR ⟨set, fs⟩ (showsT ⟨set, fs⟩ tr a) (showsT ⟨set, fs⟩ tr z)).1.hi ≤ 4319 := by
  have hs := ok_set hok
  have ho := ord_of fs 0 (chk_of hok) tr ht
  have hb1 := shown_bd (fs := fs) hs ho (m := a) (by omega)
  have hb2 := shown_bd (fs := fs) hs ho (m := z) (by omega)
  have hm : (isReadingB (showsT ⟨set, fs⟩ tr a) && isReadingB (showsT ⟨set, fs⟩ tr z)) = true := by simp [isReadingB]; omega
  have ha' := means_at (set := set) (fs := fs) ho (m := a) (by omega)
  have hz' := means_at (set := set) (fs := fs) ho (m := z) (by omega)
  generalize showsT ⟨set, fs⟩ tr a = ra at *
  generalize showsT ⟨set, fs⟩ tr z = rz at *
  rw [pPassed_eq]
  unfold passedR
  rw [if_pos (askE_ok hok hm)]
  have hin : passT ⟨set, fs⟩ ra rz tr ∈ (truths fs).map (passT ⟨set, fs⟩ ra rz) := List.mem_map.2 ⟨tr, (mem_truths fs tr).2 ht, rfl⟩
  have hp : passT ⟨set, fs⟩ ra rz tr = ⟨max 0 ((meansT ⟨set, fs⟩ tr rz).lo - (meansT ⟨set, fs⟩ tr ra).hi), (meansT ⟨set, fs⟩ tr rz).hi - (meansT ⟨set, fs⟩ tr ra).lo⟩ := by
    unfold passT
    rw [if_neg (by simp [Sp.void]; omega)]
  have hbd : ∀ s ∈ (truths fs).map (passT ⟨set, fs⟩ ra rz), s.lo ≤ s.hi → 0 ≤ s.lo ∧ s.hi ≤ 4319 := by
    intro s hs hle
    obtain ⟨tr', _, rfl⟩ := List.mem_map.1 hs
    unfold passT at hle ⊢
    split
    · rename_i hv; rw [if_pos hv] at hle; simp only at hle; omega
    · rename_i hv
      simp only [Sp.void, Bool.or_eq_true, decide_eq_true_eq, not_or, Int.not_lt] at hv
      have i1 := means_in (set := set) (fs := fs) tr' ra hv.1.1
      have i2 := means_in (set := set) (fs := fs) tr' rz hv.1.2
      simp only
      omega
  cases hh : passedH ⟨set, fs⟩ ra rz with
  | none =>
    have := (hull_isNone _).1 hh _ hin
    rw [hp] at this
    simp only at this
    omega
  | some h =>
    obtain ⟨h1, ⟨s, hs1, hs2, e1⟩, ⟨t, ht1, ht2, e2⟩⟩ := hull_some hh
    have h2 := h1 _ hin (by rw [hp]; simp only; omega)
    rw [hp] at h2
    simp only at h2
    have h3 := hbd s hs1 hs2
    have h4 := hbd t ht1 ht2
    simp only [orNone]
    exact ⟨trivial, by omega, by omega, by omega, by omega⟩
end Go.Proofs.Ytmddbnjbliponaa
