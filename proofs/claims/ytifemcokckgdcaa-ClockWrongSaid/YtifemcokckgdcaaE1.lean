/- What a clock without frosts shows, and how one with frosts differs from it. No Go here. -/
import Derived.Test.YtifemcokckgdcaaD4
namespace Go.Proofs.Ytifemcokckgdcaa
set_option linter.unusedSimpArgs false
set_option linter.unusedVariables false

theorem ok_bare {set : Int} {fs : List Fr} (h : Ck.ok ⟨set, fs⟩ = true) : Ck.ok ⟨set, []⟩ = true := by
  simp only [Ck.ok, Bool.and_eq_true, decide_eq_true_eq] at h
  simp [Ck.ok, chk, h.1, h.2.1]
theorem ok_set {set : Int} {fs : List Fr} (h : Ck.ok ⟨set, fs⟩ = true) : 0 ≤ set ∧ set ≤ 4319 := by
  simp only [Ck.ok, Bool.and_eq_true, decide_eq_true_eq] at h
  exact ⟨h.1, h.2.1⟩
theorem askE_ok {c : Ck} {q : Bool} (hc : c.ok = true) (hq : q = true) : askE c q = 0 := by simp [askE, hc, hq]

theorem plain_shows (set a : Int) (hs : 0 ≤ set ∧ set ≤ 4319) (ha : 0 ≤ a ∧ a ≤ 4319) : pShowsR ⟨set, []⟩ a = (⟨set + a, set + a⟩, 0) := by
  have hk : Ck.ok ⟨set, []⟩ = true := by simp [Ck.ok, chk, hs]
  have hm : minuteB a = true := by simp [minuteB, ha]
  rw [pShows_eq]
  unfold showsR
  rw [if_pos (askE_ok hk hm)]
  have : showsH ⟨set, []⟩ a = some ⟨set + a, set + a⟩ := by
    simp [showsH, truths, hull, showS, showsT, still, addS]
  rw [this]; rfl
theorem plain_meansT (set r : Int) (h : set ≤ r) (h' : r - set ≤ 4319) (fs : List Fr) : meansT ⟨set, fs⟩ [] r = ⟨r - set, r - set⟩ := by
  unfold meansT
  rw [if_neg (by simp only; omega)]
  simp only [List.foldl_nil, Sp.common, Sp.mk.injEq]
  omega
theorem plain_means (set z : Int) (hs : 0 ≤ set ∧ set ≤ 4319) (hz : 0 ≤ z ∧ z ≤ 4319) : pMeansR ⟨set, []⟩ (set + z) = (⟨z, z⟩, 0) := by
  have hk : Ck.ok ⟨set, []⟩ = true := by simp [Ck.ok, chk, hs]
  have hm : isReadingB (set + z) = true := by simp [isReadingB]; omega
  rw [pMeans_eq]
  unfold meansR
  rw [if_pos (askE_ok hk hm)]
  have e : set + z - set = z := by omega
  have : meansH ⟨set, []⟩ (set + z) = some ⟨z, z⟩ := by
    simp only [meansH, truths, List.map_cons, List.map_nil]
    rw [plain_meansT set (set + z) (by omega) (by omega), e, hull_cons _ _ (Int.le_refl _)]
    rfl
  rw [this]; rfl
theorem plain_passed (set a z : Int) (hs : 0 ≤ set ∧ set ≤ 4319) (ha : 0 ≤ a ∧ a ≤ z) (hz : z ≤ 4319) : pPassedR ⟨set, []⟩ (set + a) (set + z) = (⟨z - a, z - a⟩, 0) := by
  have hk : Ck.ok ⟨set, []⟩ = true := by simp [Ck.ok, chk, hs]
  have hm : (isReadingB (set + a) && isReadingB (set + z)) = true := by simp [isReadingB]; omega
  rw [pPassed_eq]
  unfold passedR
  rw [if_pos (askE_ok hk hm)]
  have : passedH ⟨set, []⟩ (set + a) (set + z) = some ⟨z - a, z - a⟩ := by
    simp only [passedH, truths, List.map_cons, List.map_nil]
    have e : passT ⟨set, []⟩ (set + a) (set + z) [] = ⟨z - a, z - a⟩ := by
      unfold passT
      rw [plain_meansT set (set + a) (by omega) (by omega), plain_meansT set (set + z) (by omega) (by omega)]
      rw [if_neg (by simp [Sp.void]; omega)]
      simp only [Sp.mk.injEq]
      omega
    rw [e, hull_cons _ _ (Int.le_refl _)]
    rfl
  rw [this]; rfl

theorem frost_shows (set a : Int) (fs : List Fr) (hok : Ck.ok ⟨set, fs⟩ = true) (ha : 0 ≤ a ∧ a ≤ 4319) : (pShowsR ⟨set, fs⟩ a).2 = 0 ∧ (pShowsR ⟨set, fs⟩ a).1.hi ≤ set + a ∧ (pShowsR ⟨set, fs⟩ a).1.lo ≤ (pShowsR ⟨set, fs⟩ a).1.hi := by
  have hm : minuteB a = true := by simp [minuteB, ha]
  rw [pShows_eq]
  unfold showsR
  rw [if_pos (askE_ok hok hm)]
  refine ⟨rfl, ?_⟩
  obtain ⟨hO, _, _⟩ := okFs_of hok
  cases hh : showsH ⟨set, fs⟩ a with
  | none =>
    have h0 := truths_ne fs hO
    have := (hull_isNone _).1 hh (showS ⟨set, fs⟩ a (truths fs)[0]) (List.mem_map.2 ⟨_, List.getElem_mem h0, rfl⟩)
    simp only [showS] at this
    omega
  | some h =>
    obtain ⟨h1, ⟨s, hs, hs', e1⟩, ⟨t, ht, ht', e2⟩⟩ := hull_some hh
    obtain ⟨tr, _, rfl⟩ := List.mem_map.1 ht
    have hn := still_nonneg tr a
    have h2 := h1 _ ht ht'
    simp only [Option.getD_some]
    simp only [showS, showsT] at e2 h2
    omega

theorem lo_fold (tr : List When) (h : ∀ t ∈ tr, 0 ≤ t.lo ∧ t.lo ≤ t.hi ∧ t.hi ≤ 4319) (s : Sp) : s.lo ≤ (tr.foldl meanStep s).lo := by
  induction tr generalizing s with
  | nil => exact Int.le_refl _
  | cons t tr ih =>
    have h0 := h t (List.mem_cons_self ..)
    have h1 := ih (fun u hu => h u (List.mem_cons_of_mem _ hu)) (meanStep s t)
    simp only [List.foldl_cons]
    have h2 : s.lo ≤ (meanStep s t).lo := by unfold meanStep; simp only; split <;> omega
    omega
/-- two readings: no less passes between the last minute of one and the first of a greater one than they differ by -/
theorem gap_fold (tr : List When) (h : ∀ t ∈ tr, 0 ≤ t.lo ∧ t.lo ≤ t.hi ∧ t.hi ≤ 4319) (s u : Sp) (d : Int) (hd : 0 < d) (hsu : d ≤ u.lo - s.hi) : d ≤ (tr.foldl meanStep u).lo - (tr.foldl meanStep s).hi := by
  induction tr generalizing s u with
  | nil => exact hsu
  | cons t tr ih =>
    have h0 := h t (List.mem_cons_self ..)
    simp only [List.foldl_cons]
    refine ih (fun v hv => h v (List.mem_cons_of_mem _ hv)) _ _ ?_
    unfold meanStep
    simp only
    split <;> split <;> omega
theorem means_lo (set z : Int) (fs : List Fr) (tr : List When) (h : ∀ t ∈ tr, 0 ≤ t.lo ∧ t.lo ≤ t.hi ∧ t.hi ≤ 4319) (hz : 0 ≤ z) : z ≤ (meansT ⟨set, fs⟩ tr (set + z)).lo := by
  unfold meansT
  rw [if_neg (by simp only; omega)]
  have := lo_fold tr h ⟨set + z - set, set + z - set⟩
  simp only [Sp.common] at this ⊢
  omega
theorem frost_means (set z : Int) (fs : List Fr) (hok : Ck.ok ⟨set, fs⟩ = true) (hz : 0 ≤ z ∧ z ≤ 4319) :
    ((pMeansR ⟨set, fs⟩ (set + z)).2 = 0 ∧ z ≤ (pMeansR ⟨set, fs⟩ (set + z)).1.lo) ∨ ((pMeansR ⟨set, fs⟩ (set + z)).2 = 4 ∧ ∀ a, 0 ≤ a → a ≤ z → (pPassedR ⟨set, fs⟩ (set + a) (set + z)).2 = 4) := by
  have hs := ok_set hok
  obtain ⟨hO, _, _⟩ := okFs_of hok
  have hk : ∀ tr, tr ∈ truths fs → ∀ t ∈ tr, 0 ≤ t.lo ∧ t.lo ≤ t.hi ∧ t.hi ≤ 4319 := fun tr ht => (okTr_mem hO ht).2
  have hm : isReadingB (set + z) = true := by simp [isReadingB]; omega
  rw [pMeans_eq]
  unfold meansR
  rw [if_pos (askE_ok hok hm)]
  cases hh : meansH ⟨set, fs⟩ (set + z) with
  | some h =>
    left
    refine ⟨rfl, ?_⟩
    obtain ⟨h1, ⟨s, hs, hs', e1⟩, _⟩ := hull_some hh
    obtain ⟨tr, ht, rfl⟩ := List.mem_map.1 hs
    have := means_lo set z fs tr (hk tr ht) hz.1
    simp only [orNone]
    omega
  | none =>
    right
    refine ⟨rfl, fun a ha haz => ?_⟩
    have hv := (hull_isNone _).1 hh
    have hma : (isReadingB (set + a) && isReadingB (set + z)) = true := by simp [isReadingB]; omega
    rw [pPassed_eq]
    unfold passedR
    rw [if_pos (askE_ok hok hma)]
    have : passedH ⟨set, fs⟩ (set + a) (set + z) = none := by
      unfold passedH
      rw [hull_isNone]
      intro s hs
      obtain ⟨tr, ht, rfl⟩ := List.mem_map.1 hs
      have hz := hv _ (List.mem_map.2 ⟨tr, ht, rfl⟩)
      unfold passT
      rw [if_pos (by simp [Sp.void, hz])]
      simp only; omega
    rw [this]; rfl
theorem frost_passed (set a z : Int) (fs : List Fr) (hok : Ck.ok ⟨set, fs⟩ = true) (ha : 0 ≤ a ∧ a ≤ z) (hz : z ≤ 4319) :
    (pPassedR ⟨set, fs⟩ (set + a) (set + z)).2 = 4 ∨ ((pPassedR ⟨set, fs⟩ (set + a) (set + z)).2 = 0 ∧ z - a ≤ (pPassedR ⟨set, fs⟩ (set + a) (set + z)).1.lo ∧ (pPassedR ⟨set, fs⟩ (set + a) (set + z)).1.lo ≤ (pPassedR ⟨set, fs⟩ (set + a) (set + z)).1.hi) := by
  have hs := ok_set hok
  obtain ⟨hO, _, _⟩ := okFs_of hok
  have hk : ∀ tr, tr ∈ truths fs → ∀ t ∈ tr, 0 ≤ t.lo ∧ t.lo ≤ t.hi ∧ t.hi ≤ 4319 := fun tr ht => (okTr_mem hO ht).2
  have hma : (isReadingB (set + a) && isReadingB (set + z)) = true := by simp [isReadingB]; omega
  rw [pPassed_eq]
  unfold passedR
  rw [if_pos (askE_ok hok hma)]
  cases hh : passedH ⟨set, fs⟩ (set + a) (set + z) with
  | none => left; rfl
  | some h =>
    right
    refine ⟨rfl, ?_⟩
    obtain ⟨h1, ⟨s, hs1, hs', e1⟩, ⟨t, ht, ht', e2⟩⟩ := hull_some hh
    have h2 := h1 _ hs1 hs'
    obtain ⟨tr, htr, rfl⟩ := List.mem_map.1 hs1
    simp only [orNone]
    refine ⟨?_, by omega⟩
    rw [e1]
    unfold passT at hs' ⊢
    split
    · rename_i hv
      rw [if_pos hv] at hs'
      simp only at hs'
      omega
    · simp only
      by_cases haz : a = z
      · omega
      · have hg : z - a ≤ (meansT ⟨set, fs⟩ tr (set + z)).lo - (meansT ⟨set, fs⟩ tr (set + a)).hi := by
          unfold meansT
          rw [if_neg (by simp only; omega), if_neg (by simp only; omega)]
          have := gap_fold tr (hk tr htr) ⟨set + a - set, set + a - set⟩ ⟨set + z - set, set + z - set⟩ (z - a) (by omega) (by simp only; omega)
          simp only [Sp.common]
          omega
        omega
end Go.Proofs.Ytifemcokckgdcaa
