/- The program's Means, Passed and Before return what the specification's do. No Go here. -/
import Derived.Test.YtmddbnjbliponaaD2
import Derived.Test.YtmddbnjbliponaaP12
import Derived.Test.YtmddbnjbliponaaP11
namespace Go.Proofs.Ytmddbnjbliponaa
set_option linter.unusedSimpArgs false
set_option linter.unusedVariables false


/-- frosts one after another: a clock stood still for no longer than it went -/
theorem still_most (fs : List Fr) (ov : Int) (hc : chk ov fs = true) (tr : List When) (ht : InT fs tr) (m : Int) : still tr m ≤ max 0 (m - ov) := by
  induction fs generalizing ov tr with
  | nil =>
    cases tr with
    | nil => simp [still]; omega
    | cons t ts => exact ht.elim
  | cons f fs ih =>
    cases tr with
    | nil => exact ht.elim
    | cons t ts =>
      obtain ⟨⟨h1, h2, h3, h4⟩, hts⟩ := ht
      simp only [chk, okFr, Bool.and_eq_true, decide_eq_true_eq] at hc
      obtain ⟨⟨hb, he, h5, h6⟩, hr⟩ := hc
      have hi := ih f.e.hi hr ts hts
      simp only [still]
      omega
theorem chk_of {set : Int} {fs : List Fr} (h : Ck.ok ⟨set, fs⟩ = true) : chk 0 fs = true := by
  simp only [Ck.ok, Bool.and_eq_true, decide_eq_true_eq] at h
  exact h.2.2.2
theorem tell_shows (set : Int) (fs : List Fr) (tr : List When) (m : Int) (hok : Ck.ok ⟨set, fs⟩ = true) (ht : InT fs tr) (hm : 0 ≤ m ∧ m ≤ 4319) :
    tellD set (pad (tr.map fun t => cutF t m)) 0 m ⟨0, 8638⟩ = showS ⟨set, fs⟩ m tr := by
  obtain ⟨hO, hs1, hs2⟩ := okFs_of hok
  have hk := (okTr_mem hO ((mem_truths fs tr).2 ht)).2
  have h1 := stop_still tr m (fun t h => ⟨(hk t h).1, (hk t h).2.1⟩) hm.1
  have h2 := still_most fs 0 (chk_of hok) tr ht m
  have h3 := still_nonneg tr m
  unfold tellD lowD highD shownD showS showsT
  simp only [if_true]
  rw [h1]
  simp only [Sp.mk.injEq]
  omega
theorem told_shows (set : Int) (fs : List Fr) (m : Int) (hok : Ck.ok ⟨set, fs⟩ = true) (hm : 0 ≤ m ∧ m ≤ 4319) : (toldR set (dialsOf fs m) 0 m ⟨0, 8638⟩).opt = showsH ⟨set, fs⟩ m := by
  unfold toldR
  rw [toldR_hull]
  unfold showsH
  refine hull_congr fun s _ => ?_
  constructor
  · intro h
    obtain ⟨x, hx, rfl⟩ := List.mem_map.1 h
    obtain ⟨tr, ht, rfl⟩ := (mem_dials fs m x).1 hx
    exact List.mem_map.2 ⟨tr, (mem_truths fs tr).2 ht, (tell_shows set fs tr m hok ht hm).symm⟩
  · intro h
    obtain ⟨tr, ht, rfl⟩ := List.mem_map.1 h
    have ht' := (mem_truths fs tr).1 ht
    exact List.mem_map.2 ⟨_, (mem_dials fs m _).2 ⟨tr, ht', rfl⟩, tell_shows set fs tr m hok ht' hm⟩
theorem pShows_eq (c : Ck) (m : Int) : pShowsR c m = showsR c m := by
  unfold pShowsR showsR
  by_cases h : askE c (minuteB m) = 0
  · rw [if_pos h, if_pos h]
    obtain ⟨hok, hmm⟩ := askE_zero h
    simp only [minuteB, Bool.and_eq_true, decide_eq_true_eq] at hmm
    have ht := told_shows c.set c.frs m hok hmm
    have hne : showsH c m ≠ none := by
      intro e
      obtain ⟨hO, _, _⟩ := okFs_of (set := c.set) (fs := c.frs) hok
      have h0 := truths_ne c.frs hO
      have := (hull_isNone _).1 e (showS c m (truths c.frs)[0]) (List.mem_map.2 ⟨_, List.getElem_mem h0, rfl⟩)
      simp only [showS] at this
      omega
    rw [← ht] at hne ⊢
    unfold Rc.opt at hne ⊢
    cases ha : (toldR c.set (dialsOf c.frs m) 0 m ⟨0, 8638⟩).any
    · rw [ha] at hne; exact absurd rfl hne
    · rfl
  · rw [if_neg h, if_neg h]

theorem rcOut_opt (r : Rc) : rcOut r = orNone r.opt := by
  unfold rcOut Rc.opt orNone
  cases r.any <;> rfl
theorem pMeans_eq (c : Ck) (r : Int) : pMeansR c r = meansR c r := by
  unfold pMeansR meansR
  by_cases h : askE c (isReadingB r) = 0
  · rw [if_pos h, if_pos h, rcOut_opt]
    obtain ⟨hO, _, _⟩ := okFs_of (set := c.set) (fs := c.frs) (askE_zero h).1
    have := told_means c.set c.frs r hO
    unfold toldR
    rw [this]
  · rw [if_neg h, if_neg h]

theorem pass_eq (set : Int) (fs : List Fr) (tr : List When) (a z : Int) (h : ∀ t ∈ tr, 0 ≤ t.lo ∧ t.lo ≤ t.hi ∧ t.hi ≤ 4319) :
    passD set (pad (tr.map fun t => cutF t 4320)) a z = passT ⟨set, fs⟩ a z tr ∨
      ((passD set (pad (tr.map fun t => cutF t 4320)) a z).hi < (passD set (pad (tr.map fun t => cutF t 4320)) a z).lo ∧ (passT ⟨set, fs⟩ a z tr).hi < (passT ⟨set, fs⟩ a z tr).lo) := by
  have ha := tell_means set fs tr a h
  have hz := tell_means set fs tr z h
  unfold passD passT Sp.void
  generalize tellD set (pad (tr.map fun t => cutF t 4320)) 1 a ⟨0, 4319⟩ = ta at *
  generalize tellD set (pad (tr.map fun t => cutF t 4320)) 1 z ⟨0, 4319⟩ = tz at *
  generalize meansT ⟨set, fs⟩ tr a = ma at *
  generalize meansT ⟨set, fs⟩ tr z = mz at *
  by_cases va : ta.hi < ta.lo
  · have va' : ma.hi < ma.lo := ha.elim (fun e => by rw [← e]; exact va) (fun e => e.2)
    right
    rw [if_pos (.inl va), if_pos (by simp [va'])]
    simp only; omega
  · have ea : ta = ma := ha.elim id (fun e => absurd e.1 va)
    subst ea
    by_cases vz : tz.hi < tz.lo
    · have vz' : mz.hi < mz.lo := hz.elim (fun e => by rw [← e]; exact vz) (fun e => e.2)
      right
      rw [if_pos (.inr vz), if_pos (by simp [vz'])]
      simp only; omega
    · have ez : tz = mz := hz.elim id (fun e => absurd e.1 vz)
      subst ez
      rw [if_neg (by rintro (e | e) <;> contradiction)]
      by_cases v : tz.hi < ta.lo
      · right
        rw [if_pos (by simp [v])]
        simp only; omega
      · left
        rw [if_neg (by simp [va, vz, v])]
theorem told_passed (set : Int) (fs : List Fr) (a z : Int) (hO : OkFs fs) : (passR set (dialsOf fs 4320) a z).opt = passedH ⟨set, fs⟩ a z := by
  unfold passR
  rw [opt_fold]
  unfold passedH
  refine hull_congr fun s hs => ?_
  have hk : ∀ tr, InT fs tr → ∀ t ∈ tr, 0 ≤ t.lo ∧ t.lo ≤ t.hi ∧ t.hi ≤ 4319 := fun tr ht => (okTr_mem hO ((mem_truths fs tr).2 ht)).2
  constructor
  · intro h
    obtain ⟨x, hx, rfl⟩ := List.mem_map.1 h
    obtain ⟨tr, ht, rfl⟩ := (mem_dials fs 4320 x).1 hx
    rcases pass_eq set fs tr a z (hk tr ht) with e | ⟨e, _⟩
    · exact List.mem_map.2 ⟨tr, (mem_truths fs tr).2 ht, e.symm⟩
    · omega
  · intro h
    obtain ⟨tr, ht, rfl⟩ := List.mem_map.1 h
    have ht' := (mem_truths fs tr).1 ht
    rcases pass_eq set fs tr a z (hk tr ht') with e | ⟨_, e⟩
    · exact List.mem_map.2 ⟨_, (mem_dials fs 4320 _).2 ⟨tr, ht', rfl⟩, e⟩
    · omega
theorem pPassed_eq (c : Ck) (a z : Int) : pPassedR c a z = passedR c a z := by
  unfold pPassedR passedR
  by_cases h : askE c (isReadingB a && isReadingB z) = 0
  · rw [if_pos h, if_pos h, rcOut_opt]
    obtain ⟨hO, _, _⟩ := okFs_of (set := c.set) (fs := c.frs) (askE_zero h).1
    rw [told_passed c.set c.frs a z hO]
  · rw [if_neg h, if_neg h]

theorem ok_of_check {c : Ck} (h : checkE c = 0) : c.ok = true := by
  unfold checkE at h
  cases ho : c.ok
  · rw [ho] at h; simp at h
  · rfl
theorem askE_check {c : Ck} {q : Bool} (h : askE c q = 0) : checkE c = 0 := by
  unfold checkE
  rw [(askE_zero h).1]; rfl
theorem meansR_of {c : Ck} {r : Int} (hc : checkE c = 0) (hr : isReadingB r = true) : meansR c r = orNone (meansH c r) := by
  unfold meansR
  rw [if_pos (by unfold askE; rw [ok_of_check hc, hr]; rfl)]
theorem pBefore_eq (c : Ck) (r : Int) (d : Ck) (o : Int) : pBeforeR c r d o = beforeR c r d o := by
  unfold pBeforeR beforeR
  rw [pMeans_eq, pMeans_eq]
  by_cases h1 : checkE c = 0
  · rw [if_neg (fun h => h h1), ok_of_check h1, if_pos rfl]
    by_cases h2 : askE d (isReadingB r && isReadingB o) = 0
    · have hq := (askE_zero h2).2
      simp only [Bool.and_eq_true] at hq
      rw [if_neg (fun h => h h2), if_pos h2, meansR_of h1 hq.1, meansR_of (askE_check h2) hq.2]
      cases meansH c r with
      | none => simp [orNone]
      | some a =>
        cases meansH d o with
        | none => simp [orNone]
        | some z =>
          simp only [orNone]
          by_cases g1 : a.hi < z.lo
          · simp [g1]
          · by_cases g2 : a.lo < z.hi
            · have g3 : ¬ z.hi ≤ a.lo := by omega
              simp [g1, g2, g3]
            · have g3 : z.hi ≤ a.lo := by omega
              simp [g1, g2, g3]
    · rw [if_pos h2, if_neg h2]
  · rw [if_pos h1]
    have ho : c.ok = false := by
      cases ho : c.ok
      · rfl
      · exact absurd (by unfold checkE; rw [ho]; rfl) h1
    have hc : checkE c = 10 := by unfold checkE; rw [ho]; rfl
    rw [ho, hc]
    rfl
end Go.Proofs.Ytmddbnjbliponaa
