/- The program's Shows returns what the specification's does. No Go here. -/
import Derived.Test.YtifemcokckgdcaaD3
namespace Go.Proofs.Ytifemcokckgdcaa
set_option linter.unusedSimpArgs false
set_option linter.unusedVariables false

/-- frosts one after another: a clock stood still for no longer than it went -/
theorem still_most (fs : List Fr) (ov : Int) (hc : chk ov fs = true) (tr : List When) (ht : InT fs tr) (m : Int) : still tr m ≤ max 0 (m - ov) := by
  induction fs generalizing ov tr with
  | nil =>
    cases tr with
    | nil => simp [still]; omega
    | cons t ts => exact ht.elim
  | cons f fs ih =>
    cases tr with
    | nil => exact ht.elim
    | cons t ts =>
      obtain ⟨⟨h1, h2, h3, h4⟩, hts⟩ := ht
      simp only [chk, okFr, Bool.and_eq_true, decide_eq_true_eq] at hc
      obtain ⟨⟨hb, he, h5, h6⟩, hr⟩ := hc
      have hi := ih f.e.hi hr ts hts
      simp only [still]
      omega
theorem chk_of {set : Int} {fs : List Fr} (h : Ck.ok ⟨set, fs⟩ = true) : chk 0 fs = true := by
  simp only [Ck.ok, Bool.and_eq_true, decide_eq_true_eq] at h
  exact h.2.2.2
theorem tell_shows (set : Int) (fs : List Fr) (tr : List When) (m : Int) (hok : Ck.ok ⟨set, fs⟩ = true) (ht : InT fs tr) (hm : 0 ≤ m ∧ m ≤ 4319) :
    tellD set (pad (tr.map fun t => cutF t m)) 0 m ⟨0, 8638⟩ = showS ⟨set, fs⟩ m tr := by
  obtain ⟨hO, hs1, hs2⟩ := okFs_of hok
  have hk := (okTr_mem hO ((mem_truths fs tr).2 ht)).2
  have h1 := stop_still tr m (fun t h => ⟨(hk t h).1, (hk t h).2.1⟩) hm.1
  have h2 := still_most fs 0 (chk_of hok) tr ht m
  have h3 := still_nonneg tr m
  unfold tellD lowD highD shownD showS showsT
  simp only [if_true]
  rw [h1]
  simp only [Sp.mk.injEq]
  omega
theorem told_shows (set : Int) (fs : List Fr) (m : Int) (hok : Ck.ok ⟨set, fs⟩ = true) (hm : 0 ≤ m ∧ m ≤ 4319) : (toldR set (dialsOf fs m) 0 m ⟨0, 8638⟩).opt = showsH ⟨set, fs⟩ m := by
  unfold toldR
  rw [toldR_hull]
  unfold showsH
  refine hull_congr fun s _ => ?_
  constructor
  · intro h
    obtain ⟨x, hx, rfl⟩ := List.mem_map.1 h
    obtain ⟨tr, ht, rfl⟩ := (mem_dials fs m x).1 hx
    exact List.mem_map.2 ⟨tr, (mem_truths fs tr).2 ht, (tell_shows set fs tr m hok ht hm).symm⟩
  · intro h
    obtain ⟨tr, ht, rfl⟩ := List.mem_map.1 h
    have ht' := (mem_truths fs tr).1 ht
    exact List.mem_map.2 ⟨_, (mem_dials fs m _).2 ⟨tr, ht', rfl⟩, tell_shows set fs tr m hok ht' hm⟩
theorem pShows_eq (c : Ck) (m : Int) : pShowsR c m = showsR c m := by
  unfold pShowsR showsR
  by_cases h : askE c (minuteB m) = 0
  · rw [if_pos h, if_pos h]
    obtain ⟨hok, hmm⟩ := askE_zero h
    simp only [minuteB, Bool.and_eq_true, decide_eq_true_eq] at hmm
    have ht := told_shows c.set c.frs m hok hmm
    have hne : showsH c m ≠ none := by
      intro e
      obtain ⟨hO, _, _⟩ := okFs_of (set := c.set) (fs := c.frs) hok
      have h0 := truths_ne c.frs hO
      have := (hull_isNone _).1 e (showS c m (truths c.frs)[0]) (List.mem_map.2 ⟨_, List.getElem_mem h0, rfl⟩)
      simp only [showS] at this
      omega
    rw [← ht] at hne ⊢
    unfold Rc.opt at hne ⊢
    cases ha : (toldR c.set (dialsOf c.frs m) 0 m ⟨0, 8638⟩).any
    · rw [ha] at hne; exact absurd rfl hne
    · rfl
  · rw [if_neg h, if_neg h]
end Go.Proofs.Ytifemcokckgdcaa
