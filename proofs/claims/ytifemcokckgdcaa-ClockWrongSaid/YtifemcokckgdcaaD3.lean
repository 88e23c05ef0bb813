/- The program's Means, Passed and Before return what the specification's do. No Go here. -/
import Derived.Test.YtifemcokckgdcaaD2
import Derived.Test.YtifemcokckgdcaaP12
import Derived.Test.YtifemcokckgdcaaP11
namespace Go.Proofs.Ytifemcokckgdcaa
set_option linter.unusedSimpArgs false
set_option linter.unusedVariables false

theorem rcOut_opt (r : Rc) : rcOut r = orNone r.opt := by
  unfold rcOut Rc.opt orNone
  cases r.any <;> rfl
theorem pMeans_eq (c : Ck) (r : Int) : pMeansR c r = meansR c r := by
  unfold pMeansR meansR
  by_cases h : askE c (isReadingB r) = 0
  · rw [if_pos h, if_pos h, rcOut_opt]
    obtain ⟨hO, _, _⟩ := okFs_of (set := c.set) (fs := c.frs) (askE_zero h).1
    have := told_means c.set c.frs r hO
    unfold toldR
    rw [this]
  · rw [if_neg h, if_neg h]

theorem pass_eq (set : Int) (fs : List Fr) (tr : List When) (a z : Int) (h : ∀ t ∈ tr, 0 ≤ t.lo ∧ t.lo ≤ t.hi ∧ t.hi ≤ 4319) :
    passD set (pad (tr.map fun t => cutF t 4320)) a z = passT ⟨set, fs⟩ a z tr ∨
      ((passD set (pad (tr.map fun t => cutF t 4320)) a z).hi < (passD set (pad (tr.map fun t => cutF t 4320)) a z).lo ∧ (passT ⟨set, fs⟩ a z tr).hi < (passT ⟨set, fs⟩ a z tr).lo) := by
  have ha := tell_means set fs tr a h
  have hz := tell_means set fs tr z h
  unfold passD passT Sp.void
  generalize tellD set (pad (tr.map fun t => cutF t 4320)) 1 a ⟨0, 4319⟩ = ta at *
  generalize tellD set (pad (tr.map fun t => cutF t 4320)) 1 z ⟨0, 4319⟩ = tz at *
  generalize meansT ⟨set, fs⟩ tr a = ma at *
  generalize meansT ⟨set, fs⟩ tr z = mz at *
  by_cases va : ta.hi < ta.lo
  · have va' : ma.hi < ma.lo := ha.elim (fun e => by rw [← e]; exact va) (fun e => e.2)
    right
    rw [if_pos (.inl va), if_pos (by simp [va'])]
    simp only; omega
  · have ea : ta = ma := ha.elim id (fun e => absurd e.1 va)
    subst ea
    by_cases vz : tz.hi < tz.lo
    · have vz' : mz.hi < mz.lo := hz.elim (fun e => by rw [← e]; exact vz) (fun e => e.2)
      right
      rw [if_pos (.inr vz), if_pos (by simp [vz'])]
      simp only; omega
    · have ez : tz = mz := hz.elim id (fun e => absurd e.1 vz)
      subst ez
      rw [if_neg (by rintro (e | e) <;> contradiction)]
      by_cases v : tz.hi < ta.lo
      · right
        rw [if_pos (by simp [v])]
        simp only; omega
      · left
        rw [if_neg (by simp [va, vz, v])]
theorem told_passed (set : Int) (fs : List Fr) (a z : Int) (hO : OkFs fs) : (passR set (dialsOf fs 4320) a z).opt = passedH ⟨set, fs⟩ a z := by
  unfold passR
  rw [opt_fold]
  unfold passedH
  refine hull_congr fun s hs => ?_
  have hk : ∀ tr, InT fs tr → ∀ t ∈ tr, 0 ≤ t.lo ∧ t.lo ≤ t.hi ∧ t.hi ≤ 4319 := fun tr ht => (okTr_mem hO ((mem_truths fs tr).2 ht)).2
  constructor
  · intro h
    obtain ⟨x, hx, rfl⟩ := List.mem_map.1 h
    obtain ⟨tr, ht, rfl⟩ := (mem_dials fs 4320 x).1 hx
    rcases pass_eq set fs tr a z (hk tr ht) with e | ⟨e, _⟩
    · exact List.mem_map.2 ⟨tr, (mem_truths fs tr).2 ht, e.symm⟩
    · omega
  · intro h
    obtain ⟨tr, ht, rfl⟩ := List.mem_map.1 h
    have ht' := (mem_truths fs tr).1 ht
    rcases pass_eq set fs tr a z (hk tr ht') with e | ⟨_, e⟩
    · exact List.mem_map.2 ⟨_, (mem_dials fs 4320 _).2 ⟨tr, ht', rfl⟩, e⟩
    · omega
theorem pPassed_eq (c : Ck) (a z : Int) : pPassedR c a z = passedR c a z := by
  unfold pPassedR passedR
  by_cases h : askE c (isReadingB a && isReadingB z) = 0
  · rw [if_pos h, if_pos h, rcOut_opt]
    obtain ⟨hO, _, _⟩ := okFs_of (set := c.set) (fs := c.frs) (askE_zero h).1
    rw [told_passed c.set c.frs a z hO]
  · rw [if_neg h, if_neg h]

theorem ok_of_check {c : Ck} (h : checkE c = 0) : c.ok = true := by
  unfold checkE at h
  cases ho : c.ok
  · rw [ho] at h; simp at h
  · rfl
theorem askE_check {c : Ck} {q : Bool} (h : askE c q = 0) : checkE c = 0 := by
  unfold checkE
  rw [(askE_zero h).1]; rfl
theorem meansR_of {c : Ck} {r : Int} (hc : checkE c = 0) (hr : isReadingB r = true) : meansR c r = orNone (meansH c r) := by
  unfold meansR
  rw [if_pos (by unfold askE; rw [ok_of_check hc, hr]; rfl)]
theorem pBefore_eq (c : Ck) (r : Int) (d : Ck) (o : Int) : pBeforeR c r d o = beforeR c r d o := by
  unfold pBeforeR beforeR
  rw [pMeans_eq, pMeans_eq]
  by_cases h1 : checkE c = 0
  · rw [if_neg (fun h => h h1), ok_of_check h1, if_pos rfl]
    by_cases h2 : askE d (isReadingB r && isReadingB o) = 0
    · have hq := (askE_zero h2).2
      simp only [Bool.and_eq_true] at hq
      rw [if_neg (fun h => h h2), if_pos h2, meansR_of h1 hq.1, meansR_of (askE_check h2) hq.2]
      cases meansH c r with
      | none => simp [orNone]
      | some a =>
        cases meansH d o with
        | none => simp [orNone]
        | some z =>
          simp only [orNone]
          by_cases g1 : a.hi < z.lo
          · simp [g1]
          · by_cases g2 : a.lo < z.hi
            · have g3 : ¬ z.hi ≤ a.lo := by omega
              simp [g1, g2, g3]
            · have g3 : z.hi ≤ a.lo := by omega
              simp [g1, g2, g3]
    · rw [if_pos h2, if_neg h2]
  · rw [if_pos h1]
    have ho : c.ok = false := by
      cases ho : c.ok
      · rfl
      · exact absurd (by unfold checkE; rw [ho]; rfl) h1
    have hc : checkE c = 10 := by unfold checkE; rw [ho]; rfl
    rw [ho, hc]
    rfl
end Go.Proofs.Ytifemcokckgdcaa
