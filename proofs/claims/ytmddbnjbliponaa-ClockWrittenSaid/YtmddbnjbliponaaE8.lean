/- Without a line a book can be right if it could be, in no fewer minutes; with more known of a frost in no more. No Go here. -/
import Derived.Test.YtmddbnjbliponaaE6
import Derived.Test.YtmddbnjbliponaaE7
namespace Go.Proofs.Ytmddbnjbliponaa
set_option linter.unusedSimpArgs false
set_option linter.unusedVariables false

theorem hull_sub {X Y : List Sp} {a b : Sp} (hX : hull X = some a) (hY : hull Y = some b) (h : ∀ s ∈ X, s.lo ≤ s.hi → ∃ t ∈ Y, t.lo ≤ t.hi ∧ Sub s t) : Sub a b := by
  obtain ⟨_, ⟨s, hs, hsv, e1⟩, ⟨t, ht, htv, e2⟩⟩ := hull_some hX
  obtain ⟨k, _, _⟩ := hull_some hY
  obtain ⟨s', hs', hsv', hss⟩ := h s hs hsv
  obtain ⟨t', ht', htv', htt⟩ := h t ht htv
  have k1 := k s' hs' hsv'
  have k2 := k t' ht' htv'
  unfold Sub at *
  omega
theorem addL_none : ∀ CS : List (Option (List Sp)), (∀ s, some s ∉ CS) → CS.foldl addL none = none := fun CS => by
  induction CS with
  | nil => intro _; rfl
  | cons o CS ih =>
    intro hs
    cases o with
    | none => exact ih fun s h => hs s (List.mem_cons_of_mem _ h)
    | some s => exact absurd (List.mem_cons_self ..) (hs s)
theorem times_parts (c : Ck) (ls : List Ln) : (timesH c ls = none ∧ ∀ tr ∈ truths c.frs, courseT c ls tr = none) ∨
    ∃ l, timesH c ls = some l ∧ l.length = ls.length ∧ (∃ tr ∈ truths c.frs, ∃ s, courseT c ls tr = some s) ∧ ∀ p (hp : p < l.length), hull ((truths c.frs).filterMap fun tr => (courseT c ls tr).map fun s => nth6 s p) = some l[p] := by
  have hC : ∀ s, some s ∈ (truths c.frs).map (courseT c ls) → s.length = ls.length ∧ ∀ x ∈ s, x.lo ≤ x.hi := fun s hs => by
    obtain ⟨tr, _, e⟩ := List.mem_map.1 hs
    exact course_some e
  have hF := times_fold ls.length _ hC none (fun a ha => by cases ha)
  have hE : (((truths c.frs).map (courseT c ls)).foldl addL none) = timesH c ls := rfl
  rw [hE] at hF
  cases e : timesH c ls with
  | none =>
    refine .inl ⟨rfl, fun tr ht => ?_⟩
    cases h : courseT c ls tr with
    | none => rfl
    | some s => exact absurd (List.mem_map.2 ⟨tr, ht, h⟩) ((hF.2 e).2 s)
  | some l =>
    obtain ⟨k1, k2⟩ := hF.1 l e
    refine .inr ⟨l, rfl, k1, ?_, fun p hp => ?_⟩
    · apply Classical.byContradiction
      intro hn
      have := addL_none ((truths c.frs).map (courseT c ls)) fun s hs => by
        obtain ⟨tr, ht, es⟩ := List.mem_map.1 hs
        exact hn ⟨tr, ht, s, es⟩
      rw [hE, e] at this
      cases this
    · have k3 := k2 p (by omega)
      have e2 : nth6 l p = l[p] := by simp [nth6, List.getD_eq_getElem?_getD, hp]
      rw [← e2, ← k3, List.filterMap_map]
      rfl
theorem nth_at {s : List Sp} {p : Nat} (hp : p < s.length) : nth6 s p = s[p] := by simp [nth6, List.getD_eq_getElem?_getD, hp]
variable {set : Int} {fs : List Fr}
theorem course_set (fs' : List Fr) (ls : List Ln) (tr : List When) : courseT ⟨set, fs'⟩ ls tr = courseT ⟨set, fs⟩ ls tr := by
  have h : ∀ (ls : List Ln) (a : Int), fwdT ⟨set, fs'⟩ tr a ls = fwdT ⟨set, fs⟩ tr a ls := fun ls => by
    induction ls with
    | nil => intro a; rfl
    | cons l ls ih =>
      intro a
      have e : meansT ⟨set, fs'⟩ tr l.r = meansT ⟨set, fs⟩ tr l.r := rfl
      rw [fwd_cons, fwd_cons, e, ih]
  unfold courseT
  rw [h]
theorem stopped_parts (c : Ck) (ls : List Ln) (hr : ∃ tr ∈ truths c.frs, ∃ s, courseT c ls tr = some s) : ∃ s, stoppedH c ls = some s := by
  obtain ⟨tr, ht, s, hs⟩ := hr
  cases hh : stoppedH c ls with
  | some s => exact ⟨s, rfl⟩
  | none =>
    have := (hull_isNone _).1 hh (stillS tr 4320) (List.mem_map.2 ⟨tr, List.mem_filter.2 ⟨ht, by rw [hs]; rfl⟩, rfl⟩)
    simp only [stillS] at this
    omega
/-- which lines are left by the law's list of one number -/
theorem less_one (ls : List Ln) (i : Nat) : without ls (keepOf [(i : Int)]) = ls.eraseIdx i := by
  unfold without
  exact without_erase _ ls 0 i fun j => by
    unfold keepOf
    congr 2
    rw [List.mem_singleton, eq_iff_iff]
    omega
/-- a frost of which more is known -/
def Narrow (g f : Fr) : Prop := f.b.lo ≤ g.b.lo ∧ g.b.lo ≤ g.b.hi ∧ g.b.hi ≤ f.b.hi ∧ f.e.lo ≤ g.e.lo ∧ g.e.lo ≤ g.e.hi ∧ g.e.hi ≤ f.e.hi
theorem chk_less : ∀ (fs : List Fr) (a b : Int), b ≤ a → chk a fs = true → chk b fs = true
  | [], _, _, _, _ => rfl
  | f :: fs, a, b, h, hc => by
    simp only [chk, okFr, Bool.and_eq_true, decide_eq_true_eq] at hc ⊢
    exact ⟨⟨hc.1.1, hc.1.2.1, by omega, hc.1.2.2.2⟩, hc.2⟩
theorem chk_narrow : ∀ (fs : List Fr) (ov : Int) (k : Nat) (g : Fr) (hk : k < fs.length), Narrow g fs[k] → chk ov fs = true → chk ov (fs.set k g) = true
  | [], _, k, _, hk, _, _ => absurd hk (by simp)
  | f :: fs, ov, 0, g, _, hn, hc => by
    simp only [List.getElem_cons_zero] at hn
    obtain ⟨n1, n2, n3, n4, n5, n6⟩ := hn
    simp only [chk, okFr, nearB, minutesB, List.set_cons_zero, Bool.and_eq_true, decide_eq_true_eq] at hc ⊢
    refine ⟨⟨⟨⟨by omega, by omega, by omega⟩, by omega⟩, ⟨⟨by omega, by omega, by omega⟩, by omega⟩, by omega, by omega⟩, chk_less fs _ _ n6 hc.2⟩
  | f :: fs, ov, k + 1, g, hk, hn, hc => by
    simp only [chk, List.set_cons_succ, Bool.and_eq_true] at hc ⊢
    exact ⟨hc.1, chk_narrow fs _ k g (by simpa using hk) (by simpa using hn) hc.2⟩
theorem ok_narrow {set : Int} {fs : List Fr} (hok : Ck.ok ⟨set, fs⟩ = true) {k : Nat} {g : Fr} (hk : k < fs.length) (hn : Narrow g fs[k]) : Ck.ok ⟨set, fs.set k g⟩ = true := by
  simp only [Ck.ok, Bool.and_eq_true, decide_eq_true_eq, List.length_set] at hok ⊢
  exact ⟨hok.1, hok.2.1, hok.2.2.1, chk_narrow fs 0 k g hk hn hok.2.2.2⟩
theorem inT_narrow : ∀ (fs : List Fr) (k : Nat) (g : Fr) (hk : k < fs.length), Narrow g fs[k] → ∀ tr, InT (fs.set k g) tr → InT fs tr
  | [], k, _, hk, _, _, _ => absurd hk (by simp)
  | _ :: _, 0, _, _, _, [], h => h.elim
  | _ :: _, k + 1, _, _, _, [], h => h.elim
  | f :: fs, 0, g, _, hn, t :: ts, h => by
    obtain ⟨⟨h1, h2, h3, h4⟩, hr⟩ := h
    simp only [List.getElem_cons_zero] at hn
    obtain ⟨n1, n2, n3, n4, n5, n6⟩ := hn
    exact ⟨⟨by omega, by omega, by omega, by omega⟩, hr⟩
  | f :: fs, k + 1, g, hk, hn, t :: ts, h => ⟨h.1, inT_narrow fs k g (by simpa using hk) (by simpa using hn) ts h.2⟩
theorem frosts_setB (X : List Fr) (j : Nat) (a b : Int) (hj : j < X.length) : ((frosts X).set (j * 4) (.int .i64 a)).set (j * 4 + 1) (.int .i64 b) = frosts (X.set j ⟨⟨a, b⟩, X[j].e⟩) := by
  induction X generalizing j with
  | nil => simp at hj
  | cons f X ih =>
    cases j with
    | zero => simp [frosts, Fr.cells]
    | succ j =>
      have e := ih j (by simpa using hj)
      simp only [frosts, List.flatMap_cons, Fr.cells] at e ⊢
      simp only [List.set_cons_succ, List.flatMap_cons, List.getElem_cons_succ, Fr.cells]
      rw [← e, show (j + 1) * 4 + 1 = j * 4 + 1 + 1 + 1 + 1 + 1 by omega, show (j + 1) * 4 = j * 4 + 1 + 1 + 1 + 1 by omega]
      rfl
theorem frosts_setE (X : List Fr) (j : Nat) (a b : Int) (hj : j < X.length) : ((frosts X).set (j * 4 + 2) (.int .i64 a)).set (j * 4 + 3) (.int .i64 b) = frosts (X.set j ⟨X[j].b, ⟨a, b⟩⟩) := by
  induction X generalizing j with
  | nil => simp at hj
  | cons f X ih =>
    cases j with
    | zero => simp [frosts, Fr.cells]
    | succ j =>
      have e := ih j (by simpa using hj)
      simp only [frosts, List.flatMap_cons, Fr.cells] at e ⊢
      simp only [List.set_cons_succ, List.flatMap_cons, List.getElem_cons_succ, Fr.cells]
      rw [← e, show (j + 1) * 4 + 3 = j * 4 + 3 + 1 + 1 + 1 + 1 by omega, show (j + 1) * 4 + 2 = j * 4 + 2 + 1 + 1 + 1 + 1 by omega]
      rfl
theorem more_law (hok : Ck.ok ⟨set, fs⟩ = true) {fs' : List Fr} (hok' : Ck.ok ⟨set, fs'⟩ = true) (hin : ∀ tr, InT fs' tr → InT fs tr) {ls : List Ln} (hb : bookB ls = true) (i : Nat) (hi : i < ls.length ∨ ls = []) :
    (timesR ⟨set, fs⟩ ls = ([], 12) ∧ timesR ⟨set, fs'⟩ ls = ([], 12) ∧ ((∃ m, timesR ⟨set, fs⟩ (without ls (keepOf [(i : Int)])) = (m, 0)) ∨ timesR ⟨set, fs⟩ (without ls (keepOf [(i : Int)])) = ([], 12))) ∨
    (∃ l m s t, timesR ⟨set, fs⟩ ls = (l, 0) ∧ timesR ⟨set, fs⟩ (without ls (keepOf [(i : Int)])) = (m, 0) ∧ l.length = ls.length ∧ m.length = (without ls (keepOf [(i : Int)])).length ∧ (ls ≠ [] → l.length = m.length + 1) ∧
      stoppedR ⟨set, fs⟩ ls = (s, 0) ∧ stoppedR ⟨set, fs⟩ (without ls (keepOf [(i : Int)])) = (t, 0) ∧ Sub s t ∧
      (∀ p (h1 : p < l.length) (h2 : p < m.length), p < i → Sub l[p] m[p]) ∧ (∀ p (h1 : p + 1 < l.length) (h2 : p < m.length), i ≤ p → Sub l[p + 1] m[p]) ∧
      (timesR ⟨set, fs'⟩ ls = ([], 12) ∨ ∃ k, timesR ⟨set, fs'⟩ ls = (k, 0) ∧ k.length = l.length ∧ ∀ p (h1 : p < k.length) (h2 : p < l.length), Sub k[p] l[p])) := by
  rw [less_one]
  obtain ⟨h6, hv⟩ := book_of hb
  have hb2 : bookB (ls.eraseIdx i) = true := by
    rw [← less_one]
    simp only [bookB, Bool.and_eq_true, decide_eq_true_eq, List.all_eq_true]
    exact ⟨Nat.le_trans (without_le _ _) h6, without_line _ hv⟩
  have a1 : askE ⟨set, fs⟩ (bookB ls) = 0 := by rw [hb]; exact askE_ok hok rfl
  have a2 : askE ⟨set, fs⟩ (bookB (ls.eraseIdx i)) = 0 := by rw [hb2]; exact askE_ok hok rfl
  have a3 : askE ⟨set, fs'⟩ (bookB ls) = 0 := by rw [hb]; exact askE_ok hok' rfl
  unfold timesR stoppedR
  rw [if_pos a1, if_pos a2, if_pos a3, if_pos a1, if_pos a2]
  have hnil : ls = [] → ls.eraseIdx i = ls := fun e => by rw [e]; rfl
  have hskip : ∀ tr s, courseT ⟨set, fs⟩ ls tr = some s → ∃ m, courseT ⟨set, fs⟩ (ls.eraseIdx i) tr = some m ∧ (SkipL i s m ∨ (ls = [] ∧ m = s)) := fun tr s h => by
    rcases hi with hi | hi
    · obtain ⟨m, h1, h2⟩ := course_skip hi h
      exact ⟨m, h1, .inl h2⟩
    · exact ⟨s, by rw [hnil hi]; exact h, .inr ⟨hi, rfl⟩⟩
  rcases times_parts ⟨set, fs⟩ ls with ⟨e1, n1⟩ | ⟨l, e1, l1, ⟨tr0, ht0, s0, hs0⟩, H1⟩
  · left
    refine ⟨by rw [e1], ?_, ?_⟩
    · rcases times_parts ⟨set, fs'⟩ ls with ⟨e3, _⟩ | ⟨k, _, _, ⟨tr, ht, s, hs⟩, _⟩
      · rw [e3]
      · have := n1 tr ((mem_truths fs tr).2 (hin tr ((mem_truths fs' tr).1 ht)))
        rw [course_set (fs := fs) fs' ls tr, this] at hs
        cases hs
    · rcases times_parts ⟨set, fs⟩ (ls.eraseIdx i) with ⟨e2, _⟩ | ⟨m, e2, _⟩
      · exact .inr (by rw [e2])
      · exact .inl ⟨m, by rw [e2]⟩
  · right
    obtain ⟨m0, hm0, _⟩ := hskip tr0 s0 hs0
    rcases times_parts ⟨set, fs⟩ (ls.eraseIdx i) with ⟨_, n2⟩ | ⟨m, e2, l2, _, H2⟩
    · have := n2 tr0 ht0
      rw [hm0] at this
      cases this
    obtain ⟨s, es⟩ := stopped_parts ⟨set, fs⟩ ls ⟨tr0, ht0, s0, hs0⟩
    obtain ⟨t, et⟩ := stopped_parts ⟨set, fs⟩ (ls.eraseIdx i) ⟨tr0, ht0, m0, hm0⟩
    refine ⟨l, m, s, t, by rw [e1], by rw [e2], l1, l2, ?_, by rw [es], by rw [et], ?_, ?_, ?_, ?_⟩
    · intro hne
      rcases hi with hi | hi
      · rw [l1, l2, List.length_eraseIdx, if_pos hi]; omega
      · exact absurd hi hne
    · refine hull_sub es et fun x hx hxv => ?_
      obtain ⟨tr, ht, rfl⟩ := List.mem_map.1 hx
      obtain ⟨ht1, ht2⟩ := List.mem_filter.1 ht
      obtain ⟨s', hs'⟩ := Option.isSome_iff_exists.1 ht2
      obtain ⟨m', hm', _⟩ := hskip tr s' hs'
      exact ⟨_, List.mem_map.2 ⟨tr, List.mem_filter.2 ⟨ht1, by rw [hm']; rfl⟩, rfl⟩, hxv, Sub.refl _⟩
    · intro p h1 h2 hpi
      refine hull_sub (H1 p h1) (H2 p h2) fun x hx hxv => ?_
      obtain ⟨tr, ht, hx⟩ := List.mem_filterMap.1 hx
      obtain ⟨s', hs', rfl⟩ := Option.map_eq_some_iff.1 hx
      obtain ⟨m', hm', hk⟩ := hskip tr s' hs'
      have q1 := (course_some hs').1
      have q2 := course_some hm'
      have p1 : p < s'.length := by omega
      have p2 : p < m'.length := by omega
      refine ⟨nth6 m' p, List.mem_filterMap.2 ⟨tr, ht, by rw [hm']; rfl⟩, nth_some q2.2 p, ?_⟩
      rw [nth_at p1, nth_at p2]
      rcases hk with hk | ⟨_, rfl⟩
      · exact skipL_lt hk p hpi p1 p2
      · exact Sub.refl _
    · intro p h1 h2 hpi
      refine hull_sub (H1 (p + 1) h1) (H2 p h2) fun x hx hxv => ?_
      obtain ⟨tr, ht, hx⟩ := List.mem_filterMap.1 hx
      obtain ⟨s', hs', rfl⟩ := Option.map_eq_some_iff.1 hx
      obtain ⟨m', hm', hk⟩ := hskip tr s' hs'
      have q1 := (course_some hs').1
      have q2 := course_some hm'
      have p1 : p + 1 < s'.length := by omega
      have p2 : p < m'.length := by omega
      refine ⟨nth6 m' p, List.mem_filterMap.2 ⟨tr, ht, by rw [hm']; rfl⟩, nth_some q2.2 p, ?_⟩
      rw [nth_at p1, nth_at p2]
      rcases hk with hk | ⟨e, _⟩
      · exact skipL_gt hk p hpi p1 p2
      · rw [e] at q1
        simp at q1
        rw [q1] at p1
        simp at p1
    · rcases times_parts ⟨set, fs'⟩ ls with ⟨e3, _⟩ | ⟨k, e3, l3, _, H3⟩
      · exact .inl (by rw [e3])
      · refine .inr ⟨k, by rw [e3], by omega, fun p h1 h2 => ?_⟩
        refine hull_sub (H3 p h1) (H1 p h2) fun x hx hxv => ?_
        obtain ⟨tr, ht, hx⟩ := List.mem_filterMap.1 hx
        rw [course_set (fs := fs) fs' ls tr] at hx
        exact ⟨x, List.mem_filterMap.2 ⟨tr, (mem_truths fs tr).2 (hin tr ((mem_truths fs' tr).1 ht)), hx⟩, hxv, Sub.refl _⟩
end Go.Proofs.Ytmddbnjbliponaa
