/- The program's Wrong returns what the specification's does. No Go here. -/
import Derived.Test.YtmddbnjbliponaaE4
import Derived.Test.YtmddbnjbliponaaW9
import Derived.Test.YtmddbnjbliponaaP19
namespace Go.Proofs.Ytmddbnjbliponaa
set_option linter.unusedSimpArgs false
set_option linter.unusedVariables false


variable {set : Int} {fs : List Fr}
theorem ok_truth (hok : Ck.ok ⟨set, fs⟩ = true) {tr : List When} (ht : InT fs tr) : Ord 0 tr ∧ ∀ t ∈ tr, 0 ≤ t.lo ∧ t.lo ≤ t.hi ∧ t.hi ≤ 4319 :=
  ⟨ord_of fs 0 (chk_of hok) tr ht, (okTr_mem (okFs_of hok).1 ((mem_truths fs tr).2 ht)).2⟩
/-- the program's courses are those of the truths -/
theorem mem_courses (hok : Ck.ok ⟨set, fs⟩ = true) {ls : List Ln} (hv : ∀ l ∈ ls, lineB l = true) {m : Int} (hm : 0 ≤ m) (hu : untilL ls ≤ m) (x s : List Sp) :
    (x, s) ∈ coursesL set fs m ls ↔ ∃ tr, InT fs tr ∧ x = pad (tr.map fun t => cutF t m) ∧ courseT ⟨set, fs⟩ ls tr = some s := by
  unfold coursesL
  rw [List.mem_filterMap]
  constructor
  · rintro ⟨y, hy, h⟩
    obtain ⟨s', hs, h'⟩ := Option.map_eq_some_iff.1 h
    simp only [Prod.mk.injEq] at h'
    obtain ⟨rfl, rfl⟩ := h'
    obtain ⟨tr, ht, rfl⟩ := (mem_dials fs m y).1 hy
    obtain ⟨ho, hb⟩ := ok_truth hok ht
    exact ⟨tr, ht, rfl, by rw [← course_eq ho hb hm ls hv hu]; exact hs⟩
  · rintro ⟨tr, ht, rfl, hs⟩
    obtain ⟨ho, hb⟩ := ok_truth hok ht
    exact ⟨_, (mem_dials fs m _).2 ⟨tr, ht, rfl⟩, by rw [course_eq ho hb hm ls hv hu, hs]; rfl⟩
theorem right_spec (hok : Ck.ok ⟨set, fs⟩ = true) {ls : List Ln} (hv : ∀ l ∈ ls, lineB l = true) : (!(coursesL set fs (untilL ls) ls).isEmpty) = rightB ⟨set, fs⟩ ls := by
  have hu0 := (untilL_bd ls hv).1
  rw [Bool.eq_iff_iff]
  simp only [rightB, Bool.not_eq_true', List.isEmpty_eq_false_iff, List.any_eq_true, Option.isSome_iff_exists]
  constructor
  · intro h
    obtain ⟨⟨x, s⟩, hx⟩ := List.exists_mem_of_ne_nil _ h
    obtain ⟨tr, ht, _, hs⟩ := (mem_courses hok hv hu0 (Int.le_refl _) x s).1 hx
    exact ⟨tr, (mem_truths fs tr).2 ht, s, hs⟩
  · rintro ⟨tr, ht, s, hs⟩
    have := (mem_courses hok hv hu0 (Int.le_refl _) _ s).2 ⟨tr, (mem_truths fs tr).1 ht, rfl, hs⟩
    exact List.ne_nil_of_mem this
theorem without_line {ls : List Ln} (keep : Nat → Bool) (hv : ∀ l ∈ ls, lineB l = true) : ∀ l ∈ without ls keep, lineB l = true := by
  intro l hl
  unfold without at hl
  obtain ⟨p, hp, rfl⟩ := List.mem_map.1 hl
  have h1 := (List.mem_filter.1 hp).1
  obtain ⟨a, i⟩ := p
  obtain ⟨_, _, e⟩ := List.mem_zipIdx h1
  simp only at e ⊢
  rw [e]
  exact hv _ (List.getElem_mem _)
theorem rightD_spec (hok : Ck.ok ⟨set, fs⟩ = true) {ls : List Ln} (hv : ∀ l ∈ ls, lineB l = true) (out : List Int) : rightD set fs ls out = rightB ⟨set, fs⟩ (without ls (keepOf out)) :=
  right_spec hok (without_line _ hv)
theorem pRight_eq (c : Ck) (ls : List Ln) : pRightR c ls = rightR c ls := by
  unfold pRightR rightR
  by_cases h : askE c (bookB ls) = 0
  · rw [if_pos h, if_pos h]
    have h1 : c.ok = true ∧ bookB ls = true := by
      unfold askE at h
      revert h
      cases c.ok <;> cases bookB ls <;> simp
    rw [rightD_spec (set := c.set) (fs := c.frs) h1.1 (book_of h1.2).2, without_keepAll]
  · rw [if_neg h, if_neg h]
theorem falseE_eq (c : Ck) (ls : List Ln) : falseE c ls = if askE c (bookB ls) = 0 then (if rightB c ls then 0 else 12) else askE c (bookB ls) := by
  unfold falseE
  rw [pRight_eq]
  unfold rightR
  by_cases h : askE c (bookB ls) = 0
  · rw [if_pos h, if_pos h, if_pos rfl]
  · rw [if_neg h, if_neg h, if_neg h]
theorem ask_zero {c : Ck} {q : Bool} (h : askE c q = 0) : c.ok = true ∧ q = true := by
  unfold askE at h
  revert h
  cases c.ok <;> cases q <;> simp
theorem opt_sp {r : Rc} {h : Sp} (e : r.opt = some h) : (⟨r.lo, r.hi⟩ : Sp) = h := by
  unfold Rc.opt at e
  split at e
  · simpa using e
  · cases e
theorem right_iff {c : Ck} {ls : List Ln} : rightB c ls = true ↔ ∃ tr, tr ∈ truths c.frs ∧ ∃ s, courseT c ls tr = some s := by
  simp only [rightB, List.any_eq_true, Option.isSome_iff_exists]
theorem pStopped_eq (c : Ck) (ls : List Ln) : pStoppedR c ls = stoppedR c ls := by
  unfold pStoppedR stoppedR
  rw [falseE_eq]
  by_cases h : askE c (bookB ls) = 0
  · rw [if_pos h, if_pos h]
    obtain ⟨h1, h2⟩ := ask_zero h
    have hv := (book_of h2).2
    have hu := untilL_bd ls hv
    obtain ⟨set, fs⟩ := c
    have hH : (stopR set (coursesL set fs 4320 ls)).opt = stoppedH ⟨set, fs⟩ ls := by
      unfold stopR stoppedH
      rw [opt_fold (fun x : List Sp × List Sp => tellD set x.1 2 4320 ⟨0, 4320⟩)]
      show hull _ = _
      refine hull_congr fun s hs => ?_
      simp only [List.mem_map, List.mem_filter, Option.isSome_iff_exists]
      have key : ∀ tr, InT fs tr → tellD set (pad (tr.map fun t => cutF t 4320)) 2 4320 ⟨0, 4320⟩ = stillS tr 4320 := fun tr ht => by
        have hb := (ok_truth h1 ht).2
        have e1 := stop_still tr 4320 (fun t h => ⟨(hb t h).1, (hb t h).2.1⟩) (by omega)
        have e2 := still_most fs 0 (chk_of h1) tr ht 4320
        have e3 := still_nonneg tr 4320
        simp only [tellD, lowD, highD, stillS, e1]
        simp
        omega
      constructor
      · rintro ⟨⟨x, s'⟩, hx, rfl⟩
        obtain ⟨tr, ht, rfl, hs'⟩ := (mem_courses h1 hv (by omega) hu.2 x s').1 hx
        exact ⟨tr, ⟨(mem_truths fs tr).2 ht, s', hs'⟩, (key tr ht).symm⟩
      · rintro ⟨tr, ⟨ht, s', hs'⟩, rfl⟩
        have ht' := (mem_truths fs tr).1 ht
        exact ⟨(_, s'), (mem_courses h1 hv (by omega) hu.2 _ s').2 ⟨tr, ht', rfl, hs'⟩, key tr ht'⟩
    cases hr : rightB ⟨set, fs⟩ ls
    · have hn : stoppedH ⟨set, fs⟩ ls = none := by
        unfold stoppedH
        rw [List.filter_eq_nil_iff.2]
        · rfl
        · intro tr ht hs
          have : rightB ⟨set, fs⟩ ls = true := right_iff.2 ⟨tr, ht, Option.isSome_iff_exists.1 hs⟩
          rw [hr] at this
          cases this
      rw [hn]
      rfl
    · obtain ⟨tr, ht, s, hs⟩ := right_iff.1 hr
      cases hh : stoppedH ⟨set, fs⟩ ls with
      | none =>
        have := (hull_isNone _).1 hh (stillS tr 4320) (List.mem_map.2 ⟨tr, List.mem_filter.2 ⟨ht, by rw [hs]; rfl⟩, rfl⟩)
        simp only [stillS] at this
        omega
      | some h =>
        rw [hh] at hH
        simp only [if_true]
        rw [opt_sp hH]
  · rw [if_neg h, if_neg h, if_neg h]
/-! ### the minutes of the lines -/
theorem fwdT_length (c : Ck) (tr : List When) : ∀ (ls : List Ln) (prev : Int) (r : List Sp), fwdT c tr prev ls = some r → r.length = ls.length
  | [], _, r, h => by simp only [fwdT, Option.some.injEq] at h; subst h; rfl
  | l :: ls, prev, r, h => by
    rw [fwdT_cons] at h
    split at h
    · cases h
    · obtain ⟨r0, h0, rfl⟩ := Option.map_eq_some_iff.1 h
      simp [fwdT_length c tr ls _ r0 h0]
theorem bwd_some (c : Ck) (tr : List When) : ∀ (ls : List Ln) (prev : Int) (r : List Sp), fwdT c tr prev ls = some r → (∀ s ∈ bwd r, s.lo ≤ s.hi) ∧ ∀ t r', bwd r = t :: r' → prev ≤ t.lo
  | [], _, r, h => by simp only [fwdT, Option.some.injEq] at h; subst h; exact ⟨fun s hs => (by cases hs), fun t r' e => (by cases e)⟩
  | l :: ls, prev, r, h => by
    rw [fwdT_cons] at h
    split at h
    · cases h
    · rename_i hv
      obtain ⟨r0, h0, rfl⟩ := Option.map_eq_some_iff.1 h
      obtain ⟨i1, i2⟩ := bwd_some c tr ls _ r0 h0
      have hp : prev ≤ (lineT c tr prev l).lo := by simp only [lineT]; omega
      unfold bwd
      cases hb : bwd r0 with
      | nil =>
        simp only
        refine ⟨fun s hs => ?_, fun t r' e => ?_⟩
        · rw [List.mem_singleton] at hs; subst hs; omega
        · simp only [List.cons.injEq] at e; rw [← e.1]; exact hp
      | cons t r' =>
        rw [hb] at i1 i2
        have j1 := i1 t (List.mem_cons_self ..)
        have j2 := i2 t r' rfl
        simp only
        refine ⟨fun s hs => ?_, fun t' r'' e => ?_⟩
        · rcases List.mem_cons.1 hs with rfl | hs
          · simp only; omega
          · exact i1 s hs
        · simp only [List.cons.injEq] at e; rw [← e.1]; exact hp
theorem course_some {c : Ck} {ls : List Ln} {tr : List When} {s : List Sp} (h : courseT c ls tr = some s) : s.length = ls.length ∧ ∀ x ∈ s, x.lo ≤ x.hi := by
  unfold courseT at h
  obtain ⟨r, hr, rfl⟩ := Option.map_eq_some_iff.1 h
  exact ⟨by rw [bwd_length, fwdT_length c tr ls 0 r hr], (bwd_some c tr ls 0 r hr).1⟩
theorem nth_some {s : List Sp} (h : ∀ x ∈ s, x.lo ≤ x.hi) (i : Nat) : (nth6 s i).lo ≤ (nth6 s i).hi := by
  unfold nth6
  rw [List.getD_eq_getElem?_getD]
  cases e : s[i]? with
  | none => exact Int.le_refl _
  | some x => exact h x (List.mem_of_getElem? e)
/-- lists of spans, put together place by place -/
theorem times_fold (n : Nat) (CS : List (Option (List Sp))) (hC : ∀ s, some s ∈ CS → s.length = n ∧ ∀ x ∈ s, x.lo ≤ x.hi) (acc : Option (List Sp)) (hA : ∀ a, acc = some a → a.length = n) :
    (∀ l, CS.foldl addL acc = some l → l.length = n ∧ ∀ i, i < n → (CS.filterMap fun o => o.map fun s => nth6 s i).foldl addS (acc.map fun a => nth6 a i) = some (nth6 l i)) ∧ (CS.foldl addL acc = none → acc = none ∧ ∀ s, some s ∉ CS) := by
  induction CS generalizing acc with
  | nil =>
    refine ⟨fun l hl => ?_, fun h => ⟨h, fun s hs => by cases hs⟩⟩
    simp only [List.foldl_nil] at hl
    subst hl
    exact ⟨hA l rfl, fun i _ => rfl⟩
  | cons o CS ih =>
    have hC' := fun s hs => hC s (List.mem_cons_of_mem _ hs)
    cases o with
    | none =>
      have h := ih hC' acc hA
      refine ⟨fun l hl => ?_, fun hn => ?_⟩
      · exact h.1 l hl
      · have := h.2 hn
        exact ⟨this.1, fun s hs => by
          rcases List.mem_cons.1 hs with e | e
          · cases e
          · exact this.2 s e⟩
    | some s =>
      obtain ⟨s1, s2⟩ := hC s (List.mem_cons_self ..)
      cases acc with
      | none =>
        have h := ih hC' (some s) (fun a ha => by simp only [Option.some.injEq] at ha; subst ha; exact s1)
        refine ⟨fun l hl => ?_, fun hn => ?_⟩
        · obtain ⟨k1, k2⟩ := h.1 l hl
          refine ⟨k1, fun i hi => ?_⟩
          have e : addS none (nth6 s i) = some (nth6 s i) := by
            have := nth_some s2 i
            unfold addS
            rw [if_neg (by omega)]
          rw [← k2 i hi]
          simp only [List.filterMap_cons, Option.map_some, Option.map_none, List.foldl_cons, e]
        · have := (h.2 hn).1
          cases this
      | some a =>
        have ha := hA a rfl
        have hz : (List.zipWith (fun x s : Sp => (⟨min x.lo s.lo, max x.hi s.hi⟩ : Sp)) a s).length = n := by rw [List.length_zipWith, ha, s1, Nat.min_self]
        have h := ih hC' (some (List.zipWith (fun x s : Sp => (⟨min x.lo s.lo, max x.hi s.hi⟩ : Sp)) a s)) (fun b hb => by simp only [Option.some.injEq] at hb; subst hb; exact hz)
        refine ⟨fun l hl => ?_, fun hn => ?_⟩
        · obtain ⟨k1, k2⟩ := h.1 l hl
          refine ⟨k1, fun i hi => ?_⟩
          have e : nth6 (List.zipWith (fun x s : Sp => (⟨min x.lo s.lo, max x.hi s.hi⟩ : Sp)) a s) i = ⟨min (nth6 a i).lo (nth6 s i).lo, max (nth6 a i).hi (nth6 s i).hi⟩ := by
            have hia : i < a.length := by omega
            have his : i < s.length := by omega
            simp [nth6, List.getD_eq_getElem?_getD, List.getElem?_zipWith, hia, his]
          rw [← k2 i hi]
          simp only [List.filterMap_cons, Option.map_some, List.foldl_cons]
          rw [addS_some _ _ (nth_some s2 i), e]
        · have := (h.2 hn).1
          cases this
theorem pTimes_eq (c : Ck) (ls : List Ln) : pTimesR c ls = timesR c ls := by
  unfold pTimesR timesR
  rw [falseE_eq]
  by_cases h : askE c (bookB ls) = 0
  · rw [if_pos h, if_pos h]
    obtain ⟨h1, h2⟩ := ask_zero h
    have hv := (book_of h2).2
    have hu := untilL_bd ls hv
    obtain ⟨set, fs⟩ := c
    have hC : ∀ s, some s ∈ (truths fs).map (courseT ⟨set, fs⟩ ls) → s.length = ls.length ∧ ∀ x ∈ s, x.lo ≤ x.hi := fun s hs => by
      obtain ⟨tr, _, e⟩ := List.mem_map.1 hs
      exact course_some e
    have hF := times_fold ls.length _ hC none (fun a ha => by cases ha)
    have hE : (((truths fs).map (courseT ⟨set, fs⟩ ls)).foldl addL none) = timesH ⟨set, fs⟩ ls := rfl
    rw [hE] at hF
    cases hr : rightB ⟨set, fs⟩ ls
    · have hn : timesH ⟨set, fs⟩ ls = none := by
        cases e : timesH ⟨set, fs⟩ ls with
        | none => rfl
        | some l =>
          exfalso
          have hne : ∀ CS : List (Option (List Sp)), (∀ s, some s ∉ CS) → CS.foldl addL none = none := fun CS => by
            induction CS with
            | nil => intro _; rfl
            | cons o CS ih =>
              intro hs
              cases o with
              | none => exact ih fun s h => hs s (List.mem_cons_of_mem _ h)
              | some s => exact absurd (List.mem_cons_self ..) (hs s)
          have := hne ((truths fs).map (courseT ⟨set, fs⟩ ls)) (fun s hs => by
            obtain ⟨tr, ht, es⟩ := List.mem_map.1 hs
            have : rightB ⟨set, fs⟩ ls = true := right_iff.2 ⟨tr, ht, s, es⟩
            rw [hr] at this
            cases this)
          rw [hE, e] at this
          cases this
      rw [hn]
      rfl
    · obtain ⟨tr, ht, s, hs⟩ := right_iff.1 hr
      cases e : timesH ⟨set, fs⟩ ls with
      | none => exact absurd (List.mem_map.2 ⟨tr, ht, hs⟩) ((hF.2 e).2 s)
      | some l =>
        obtain ⟨k1, k2⟩ := hF.1 l e
        simp only [if_true]
        have hl : timesL (coursesL set fs (untilL ls) ls) ls.length = l := by
          refine List.ext_getElem (by rw [timesL_length, k1]) fun i h3 h4 => ?_
          have hi : i < ls.length := by omega
          have k3 := k2 i hi
          have hA : (accR (coursesL set fs (untilL ls) ls) i).opt = some (nth6 l i) := by
            unfold accR
            rw [opt_fold (fun x : List Sp × List Sp => nth6 x.2 i), ← k3]
            show hull _ = hull _
            refine hull_congr fun q _ => ?_
            simp only [List.mem_map, List.mem_filterMap, Option.map_eq_some_iff]
            constructor
            · rintro ⟨⟨x, s'⟩, hx, rfl⟩
              obtain ⟨tr, ht, _, hs'⟩ := (mem_courses h1 hv hu.1 (Int.le_refl _) x s').1 hx
              exact ⟨some s', ⟨tr, (mem_truths fs tr).2 ht, hs'⟩, s', rfl, rfl⟩
            · rintro ⟨o, ⟨tr, ht, ho⟩, s', rfl, rfl⟩
              exact ⟨(_, s'), (mem_courses h1 hv hu.1 (Int.le_refl _) _ s').2 ⟨tr, (mem_truths fs tr).1 ht, rfl, ho⟩, rfl⟩
          have e1 : (timesL (coursesL set fs (untilL ls) ls) ls.length)[i] = (accR (coursesL set fs (untilL ls) ls) i).sp := by simp [timesL]
          have e2 : nth6 l i = l[i] := by simp [nth6, List.getD_eq_getElem?_getD, h4]
          rw [e1, ← e2]
          exact opt_sp hA
        rw [hl]
  · rw [if_neg h, if_neg h, if_neg h]

/-- a list before another one: shorter, or as long and before -/
def betterB (a b : List Int) : Bool := decide (a.length < b.length) || ((a.length == b.length) && lessB a b)
theorem lessB_tri : ∀ (a b : List Int), lessB a b = true ∨ lessB b a = true ∨ a = b
  | [], [] => .inr (.inr rfl)
  | [], _ :: _ => .inl rfl
  | _ :: _, [] => .inr (.inl rfl)
  | x :: a, y :: b => by
    unfold lessB
    by_cases h1 : x < y
    · exact .inl (by rw [if_pos h1])
    · by_cases h2 : y < x
      · exact .inr (.inl (by rw [if_pos h2]))
      · have e : x = y := by omega
        subst e
        simp only [Int.lt_irrefl, if_false]
        rcases lessB_tri a b with h | h | h
        · exact .inl h
        · exact .inr (.inl h)
        · exact .inr (.inr (by rw [h]))
theorem lessB_trans : ∀ (a b c : List Int), lessB a b = true → lessB b c = true → lessB a c = true
  | [], [], _, h, _ => by cases h
  | [], _ :: _, [], _, h => by cases h
  | [], _ :: _, _ :: _, _, _ => rfl
  | _ :: _, [], _, h, _ => by cases h
  | _ :: _, _ :: _, [], _, h => by cases h
  | x :: a, y :: b, z :: c, h, k => by
    unfold lessB at h k ⊢
    by_cases h1 : x < y
    · by_cases k1 : y < z
      · rw [if_pos (by omega)]
      · by_cases k2 : z < y
        · rw [if_neg k1, if_pos k2] at k; cases k
        · rw [if_pos (by omega)]
    · by_cases h2 : y < x
      · rw [if_neg h1, if_pos h2] at h; cases h
      · rw [if_neg h1, if_neg h2] at h
        by_cases k1 : y < z
        · rw [if_pos (by omega)]
        · by_cases k2 : z < y
          · rw [if_neg k1, if_pos k2] at k; cases k
          · rw [if_neg k1, if_neg k2] at k
            rw [if_neg (by omega), if_neg (by omega)]
            exact lessB_trans a b c h k
theorem better_iff (a b : List Int) : betterB a b = true ↔ a.length < b.length ∨ (a.length = b.length ∧ lessB a b = true) := by
  simp [betterB]
theorem better_trans {a b c : List Int} (h : betterB a b = true) (k : betterB b c = true) : betterB a c = true := by
  rw [better_iff] at *
  rcases h with h | ⟨h, h'⟩ <;> rcases k with k | ⟨k, k'⟩
  · exact .inl (by omega)
  · exact .inl (by omega)
  · exact .inl (by omega)
  · exact .inr ⟨by omega, lessB_trans _ _ _ h' k'⟩
theorem better_tri (a b : List Int) (h : betterB a b = false) (k : betterB b a = false) : a = b := by
  have h' : ¬ betterB a b = true := by rw [h]; simp
  have k' : ¬ betterB b a = true := by rw [k]; simp
  rw [better_iff] at h' k'
  have e : a.length = b.length := by omega
  rcases lessB_tri a b with t | t | t
  · exact absurd (.inr ⟨e, t⟩) h'
  · exact absurd (.inr ⟨e.symm, t⟩) k'
  · exact t
/-- a set with just those numbers -/
theorem set_of (n : Nat) (keep : Nat → Bool) : ∃ s, s < 2 ^ n ∧ ∀ i, i < n → hasB s i = keep i := by
  induction n with
  | zero => exact ⟨0, by simp, fun i hi => by omega⟩
  | succ n ih =>
    obtain ⟨s, h1, h2⟩ := ih
    have hp : 0 < 2 ^ n := Nat.two_pow_pos n
    cases hk : keep n
    · refine ⟨s, by rw [Nat.pow_succ]; omega, fun i hi => ?_⟩
      rcases Nat.lt_or_ge i n with h | h
      · exact h2 i h
      · obtain rfl : i = n := by omega
        unfold hasB
        rw [Nat.div_eq_of_lt h1, hk]
        rfl
    · refine ⟨s + 2 ^ n, by rw [Nat.pow_succ]; omega, fun i hi => ?_⟩
      rcases Nat.lt_or_ge i n with h | h
      · rw [← h2 i h]
        unfold hasB
        obtain ⟨d, rfl⟩ : ∃ d, n = i + (d + 1) := ⟨n - i - 1, by omega⟩
        have e : (s + 2 ^ (i + (d + 1))) / 2 ^ i = s / 2 ^ i + 2 * 2 ^ d := by
          rw [Nat.pow_add, Nat.add_mul_div_left _ _ (Nat.two_pow_pos i), Nat.pow_succ]
          omega
        rw [e, Nat.add_mul_mod_self_left]
      · obtain rfl : i = n := by omega
        unfold hasB
        have e : (s + 2 ^ i) / 2 ^ i = 1 := by
          rw [Nat.add_div_right _ hp, Nat.div_eq_of_lt h1]
        rw [e, hk]
        rfl
theorem mem_ones (s n : Nat) (x : Int) : x ∈ onesL s n ↔ ∃ i : Nat, i < n ∧ hasB s i = true ∧ x = (i : Int) := by
  unfold onesL
  simp only [List.mem_map, List.mem_filter, List.mem_range]
  constructor
  · rintro ⟨i, ⟨h1, h2⟩, rfl⟩; exact ⟨i, h1, h2, rfl⟩
  · rintro ⟨i, h1, h2, rfl⟩; exact ⟨i, ⟨h1, h2⟩, rfl⟩
theorem inc_lo {s n : Nat} {l : List Int} (h : Inc s n l) : ∀ x ∈ l, (s : Int) ≤ x ∧ x < n := by
  intro x hx
  obtain ⟨k, hk, rfl⟩ := List.getElem_of_mem hx
  have := inc_get h k hk
  exact ⟨this.1, this.2.1⟩
theorem inc_ext {n : Nat} : ∀ {a b : List Int} {s : Nat}, Inc s n a → Inc s n b → (∀ x, x ∈ a ↔ x ∈ b) → a = b
  | [], [], _, _, _, _ => rfl
  | [], y :: b, _, _, _, h => by have := (h y).2 (List.mem_cons_self ..); cases this
  | x :: a, [], _, _, _, h => by have := (h x).1 (List.mem_cons_self ..); cases this
  | x :: a, y :: b, s, ha, hb, h => by
    obtain ⟨i, rfl, i1, i2, i3⟩ := ha
    obtain ⟨j, rfl, j1, j2, j3⟩ := hb
    have e : i = j := by
      have h1 := (h (i : Int)).1 (List.mem_cons_self ..)
      have h2 := (h (j : Int)).2 (List.mem_cons_self ..)
      rcases List.mem_cons.1 h1 with h1 | h1
      · omega
      · rcases List.mem_cons.1 h2 with h2 | h2
        · omega
        · have k1 := (inc_lo j3 _ h1).1
          have k2 := (inc_lo i3 _ h2).1
          omega
    subst e
    congr 1
    refine inc_ext i3 j3 fun x => ?_
    constructor
    · intro hx
      have k := (inc_lo i3 _ hx).1
      rcases List.mem_cons.1 ((h x).1 (List.mem_cons_of_mem _ hx)) with e | e
      · omega
      · exact e
    · intro hx
      have k := (inc_lo j3 _ hx).1
      rcases List.mem_cons.1 ((h x).2 (List.mem_cons_of_mem _ hx)) with e | e
      · omega
      · exact e
/-- a strictly increasing list is that of a set -/
theorem ones_of {n : Nat} {w : List Int} (h : Inc 0 n w) : ∃ s, s < 2 ^ n ∧ onesL s n = w := by
  obtain ⟨s, h1, h2⟩ := set_of n fun i => decide ((i : Int) ∈ w)
  refine ⟨s, h1, inc_ext (inc_ones s n) h fun x => ?_⟩
  rw [mem_ones]
  constructor
  · rintro ⟨i, hi, hb, rfl⟩
    rw [h2 i hi] at hb
    simpa using hb
  · intro hx
    obtain ⟨k1, k2⟩ := inc_lo h x hx
    have e : x = ((x.toNat : Nat) : Int) := by omega
    refine ⟨x.toNat, by omega, ?_, e⟩
    rw [h2 _ (by omega), ← e]
    simpa using hx
theorem climbs_inc {n : Nat} : ∀ {w : List Int} {s : Nat}, (∀ k (hk : k < w.length), (s : Int) ≤ w[k] ∧ w[k] < n ∧ ∀ (_ : 0 < k), w[k - 1] < w[k]) → Inc s n w
  | [], _, _ => trivial
  | x :: w, s, h => by
    have h0 := h 0 (by simp)
    simp only [List.getElem_cons_zero] at h0
    refine ⟨x.toNat, by omega, by omega, by omega, climbs_inc (s := x.toNat + 1) fun k hk => ?_⟩
    have hk1 := h (k + 1) (by simpa using hk)
    simp only [List.getElem_cons_succ] at hk1
    have up : ∀ j (hj : j < w.length), x < w[j] := fun j => by
      induction j with
      | zero =>
        intro hj
        have := (h 1 (by simpa using hj)).2.2 (by omega)
        simpa using this
      | succ j ih =>
        intro hj
        have h1 := ih (by omega)
        have h2 := (h (j + 2) (by simp only [List.length_cons]; omega)).2.2 (by omega)
        simp only [List.getElem_cons_succ, Nat.add_one_sub_one] at h2
        omega
    refine ⟨?_, hk1.2.1, fun hk0 => ?_⟩
    · have := up k hk; omega
    · have h2 := hk1.2.2 (by omega)
      have e2 : (x :: w)[k + 1 - 1]'(by simp; omega) = w[k - 1]'(by omega) := by
        obtain ⟨j, rfl⟩ : ∃ j, k = j + 1 := ⟨k - 1, by omega⟩
        rfl
      rw [e2] at h2
      exact h2
theorem without_congr (ls : List Ln) (f g : Nat → Bool) (h : ∀ i, i < ls.length → f i = g i) : without ls f = without ls g := by
  unfold without
  congr 1
  refine List.filter_congr fun p hp => ?_
  obtain ⟨a, i⟩ := p
  obtain ⟨_, h2, _⟩ := List.mem_zipIdx hp
  exact h i (by omega)
section
variable {set : Int} {fs : List Fr}
theorem rightB_ones (hok : Ck.ok ⟨set, fs⟩ = true) {ls : List Ln} (hv : ∀ l ∈ ls, lineB l = true) (s : Nat) : rightB ⟨set, fs⟩ (without ls fun i => !hasB s i) = rightD set fs ls (onesL s ls.length) := by
  rw [rightD_spec hok hv]
  congr 1
  refine without_congr _ _ _ fun i hi => ?_
  unfold keepOf
  have : decide ((i : Int) ∈ onesL s ls.length) = hasB s i := by
    cases hb : hasB s i
    · refine decide_eq_false fun h => ?_
      obtain ⟨j, _, h2, h3⟩ := (mem_ones s ls.length _).1 h
      have : i = j := by omega
      subst this
      rw [hb] at h2
      cases h2
    · exact decide_eq_true ((mem_ones s ls.length _).2 ⟨i, hi, hb, rfl⟩)
  rw [this]
theorem wrong_fold (hok : Ck.ok ⟨set, fs⟩ = true) {ls : List Ln} (hv : ∀ l ∈ ls, lineB l = true) (k : Nat) :
    ∃ best, (List.range k).foldl (wrongStep ⟨set, fs⟩ ls) (onesL (2 ^ ls.length - 1) ls.length) = best ∧ rightD set fs ls best = true ∧ (∃ s, best = onesL s ls.length) ∧ ∀ s, s < k → betterB (onesL s ls.length) best = true → rightD set fs ls (onesL s ls.length) = false := by
  induction k with
  | zero =>
    refine ⟨_, rfl, ?_, ⟨_, rfl⟩, fun s hs => by omega⟩
    have hall : onesL (2 ^ ls.length - 1) ls.length = (List.range ls.length).map fun (i : Nat) => (i : Int) := by
      unfold onesL
      rw [List.filter_eq_self.2]
      intro i hi
      have hi' := List.mem_range.1 hi
      unfold hasB
      have : (2 ^ ls.length - 1).testBit i = true := by
        rw [Nat.testBit_two_pow_sub_one]; exact decide_eq_true hi'
      rw [Nat.testBit_eq_decide_div_mod_eq] at this
      simpa using this
    rw [hall]
    exact right_none set fs ls (okFs_of hok).1
  | succ k ih =>
    obtain ⟨best, h1, h2, h3, h4⟩ := ih
    rw [List.range_succ, List.foldl_append, h1]
    simp only [List.foldl_cons, List.foldl_nil]
    have hs : wrongStep ⟨set, fs⟩ ls best k = if betterB (onesL k ls.length) best && rightD set fs ls (onesL k ls.length) then onesL k ls.length else best := by
      unfold wrongStep
      rw [rightB_ones hok hv]
      rfl
    rw [hs]
    cases hc : betterB (onesL k ls.length) best && rightD set fs ls (onesL k ls.length)
    · refine ⟨best, by simp, h2, h3, fun s hsk hb => ?_⟩
      rcases Nat.lt_or_ge s k with h | h
      · exact h4 s h hb
      · obtain rfl : s = k := by omega
        rw [hb, Bool.true_and] at hc
        exact hc
    · rw [Bool.and_eq_true] at hc
      refine ⟨onesL k ls.length, by simp, hc.2, ⟨k, rfl⟩, fun s hsk hb => ?_⟩
      rcases Nat.lt_or_ge s k with h | h
      · exact h4 s h (better_trans hb hc.1)
      · obtain rfl : s = k := by omega
        rw [better_iff] at hb
        rcases hb with hb | ⟨_, hb⟩
        · omega
        · have irr : ∀ l : List Int, lessB l l = false := fun l => by
            induction l with
            | nil => rfl
            | cons x l ih => unfold lessB; simp [ih]
          rw [irr] at hb
          cases hb
end
theorem pWrong_eq (c : Ck) (ls : List Ln) : pWrongR c ls = wrongR c ls := by
  unfold pWrongR wrongR
  by_cases h : askE c (bookB ls) = 0
  · rw [if_pos h, if_pos h]
    obtain ⟨h1, h2⟩ := ask_zero h
    have hv := (book_of h2).2
    obtain ⟨set, fs⟩ := c
    obtain ⟨w, hw, hC, _, hr, _, hx⟩ := wrong_law set fs ls (okFs_of h1).1
    obtain ⟨best, b1, b2, ⟨s0, rfl⟩, b4⟩ := wrong_fold h1 hv (2 ^ ls.length)
    have hI : Inc 0 ls.length w := climbs_inc fun k hk => by simpa using hC k hk
    obtain ⟨s1, hs1, rfl⟩ := ones_of hI
    have e1 : betterB (onesL s1 ls.length) (onesL s0 ls.length) = false := by
      cases e : betterB (onesL s1 ls.length) (onesL s0 ls.length) with
      | false => rfl
      | true =>
        have := b4 s1 hs1 e
        rw [hr] at this
        cases this
    have e2 : betterB (onesL s0 ls.length) (onesL s1 ls.length) = false := by
      cases e : betterB (onesL s0 ls.length) (onesL s1 ls.length) with
      | false => rfl
      | true =>
        have := hx s0 ((better_iff _ _).1 e)
        rw [b2] at this
        cases this
    have e := better_tri _ _ e1 e2
    show ((fewestL ls.length (rightD set fs ls)).getD [], 0) = (wrongL ⟨set, fs⟩ ls, 0)
    rw [hw]
    unfold wrongL
    rw [b1, ← e]
    rfl
  · rw [if_neg h, if_neg h]
end Go.Proofs.Ytmddbnjbliponaa
