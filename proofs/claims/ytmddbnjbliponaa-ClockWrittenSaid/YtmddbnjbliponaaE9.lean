/- Lines that were written in their order can be right, in the minutes that they had. No Go here. -/
import Derived.Test.YtmddbnjbliponaaE8
namespace Go.Proofs.Ytmddbnjbliponaa
set_option linter.unusedSimpArgs false
set_option linter.unusedVariables false

/-- lines that were written in some minutes, one after the other, from one on -/
def Writ (c : Ck) (tr : List When) : Int → List Ln → List Int → Prop
  | _, [], [] => True
  | prev, l :: ls, m :: ms => (prev ≤ m ∧ 0 ≤ m ∧ m ≤ 4319 ∧ l.r = showsT c tr m ∧ 0 ≤ l.k.lo ∧ l.k.lo ≤ m ∧ m ≤ l.k.hi ∧ l.k.hi ≤ 4319) ∧ Writ c tr m ls ms
  | _, _, _ => False
/-- each minute lies in a span -/
def InL : List Sp → List Int → Prop
  | [], [] => True
  | s :: l, m :: ms => (s.lo ≤ m ∧ m ≤ s.hi) ∧ InL l ms
  | _, _ => False
theorem inL_len : ∀ {l : List Sp} {ms : List Int}, InL l ms → l.length = ms.length
  | [], [], _ => rfl
  | [], _ :: _, h => h.elim
  | _ :: _, [], h => h.elim
  | _ :: _, _ :: _, h => by simp [inL_len h.2]
theorem inL_at : ∀ {l : List Sp} {ms : List Int}, InL l ms → ∀ p (h1 : p < l.length) (h2 : p < ms.length), l[p].lo ≤ ms[p] ∧ ms[p] ≤ l[p].hi
  | [], [], _, p, h1, _ => absurd h1 (by simp)
  | [], _ :: _, h, _, _, _ => h.elim
  | _ :: _, [], h, _, _, _ => h.elim
  | s :: l, m :: ms, h, p, h1, h2 => by
    cases p with
    | zero => exact h.1
    | succ p => exact inL_at h.2 p (by simpa using h1) (by simpa using h2)
variable {set : Int} {fs : List Fr}
theorem writ_fwd {tr : List When} (ho : Ord 0 tr) : ∀ (ls : List Ln) (ms : List Int) (prev a : Int), a ≤ prev → Writ ⟨set, fs⟩ tr prev ls ms → ∃ F, fwdT ⟨set, fs⟩ tr a ls = some F ∧ InL F ms
  | [], [], _, _, _, _ => ⟨[], rfl, trivial⟩
  | [], _ :: _, _, _, _, h => h.elim
  | _ :: _, [], _, _, _, h => h.elim
  | l :: ls, m :: ms, prev, a, ha, h => by
    obtain ⟨⟨h1, h2, h3, h4, h5, h6, h7, h8⟩, hw⟩ := h
    have hm := means_at (set := set) (fs := fs) ho (m := m) ⟨h2, h3⟩
    rw [← h4] at hm
    have e1 : ((meansT ⟨set, fs⟩ tr l.r).common l.k).lo ≤ m := by simp only [Sp.common]; omega
    have e2 : m ≤ ((meansT ⟨set, fs⟩ tr l.r).common l.k).hi := by simp only [Sp.common]; omega
    obtain ⟨F, hF, hi⟩ := writ_fwd ho ls ms m (max ((meansT ⟨set, fs⟩ tr l.r).common l.k).lo a) (by omega) hw
    rw [fwd_cons, if_neg (by omega), hF]
    refine ⟨_, rfl, ⟨?_, ?_⟩, hi⟩
    · simp only; omega
    · exact e2
theorem writ_head {c : Ck} {tr : List When} {prev : Int} {ls : List Ln} {m : Int} {ms : List Int} (h : Writ c tr prev ls (m :: ms)) : prev ≤ m := by
  cases ls with
  | nil => exact h.elim
  | cons l ls => exact h.1.1
theorem writ_bwd {c : Ck} {tr : List When} : ∀ (ls : List Ln) (ms : List Int) (prev : Int) (F : List Sp), Writ c tr prev ls ms → InL F ms → InL (bwd F) ms
  | _, [], _, [], _, _ => trivial
  | _, [], _, _ :: _, _, h => h.elim
  | _, _ :: _, _, [], _, h => h.elim
  | [], _ :: _, _, _ :: _, h, _ => h.elim
  | l :: ls, m :: ms, prev, f :: F, hw, hi => by
    obtain ⟨hd, e, _, _, e3⟩ := bwd_cons f F
    have ih := writ_bwd ls ms m F hw.2 hi.2
    rw [e]
    refine ⟨⟨hi.1.1, e3 m hi.1.2 fun t r et => ?_⟩, ih⟩
    rw [et] at ih
    cases ms with
    | nil => exact ih.elim
    | cons m' ms =>
      have := writ_head hw.2
      have := ih.1.2
      omega
theorem writ_course {tr : List When} (ho : Ord 0 tr) {ls : List Ln} {ms : List Int} {prev : Int} (hp : 0 ≤ prev) (h : Writ ⟨set, fs⟩ tr prev ls ms) : ∃ s, courseT ⟨set, fs⟩ ls tr = some s ∧ InL s ms := by
  obtain ⟨F, hF, hi⟩ := writ_fwd ho ls ms prev 0 hp h
  exact ⟨bwd F, by unfold courseT; rw [hF]; rfl, writ_bwd ls ms prev F h hi⟩
/-- spans that never get less, each in what is known of its line -/
def UpL : Int → List Ln → List Sp → Prop
  | _, [], [] => True
  | a, l :: ls, s :: r => (a ≤ s.lo ∧ l.k.lo ≤ s.lo ∧ s.hi ≤ l.k.hi ∧ ∀ t r', r = t :: r' → s.hi ≤ t.hi) ∧ UpL s.lo ls r
  | _, _, _ => False
theorem fwd_up (c : Ck) (tr : List When) : ∀ (ls : List Ln) (a : Int) (F : List Sp), fwdT c tr a ls = some F → UpL a ls (bwd F)
  | [], a, F, h => by simp only [fwdT, Option.some.injEq] at h; subst h; trivial
  | l :: ls, a, F, h => by
    rw [fwd_cons] at h
    split at h
    · cases h
    · obtain ⟨F0, h0, rfl⟩ := Option.map_eq_some_iff.1 h
      have ih := fwd_up c tr ls _ F0 h0
      obtain ⟨hd, e, e1, e2, _⟩ := bwd_cons ⟨max ((meansT c tr l.r).common l.k).lo a, ((meansT c tr l.r).common l.k).hi⟩ F0
      simp only at e1
      rw [e]
      refine ⟨⟨?_, ?_, ?_, e2⟩, ih⟩
      · simp only; omega
      · simp only [Sp.common]; omega
      · simp only [Sp.common] at e1 ⊢; omega
theorem up_at : ∀ {ls : List Ln} {s : List Sp} {a : Int}, UpL a ls s → s.length = ls.length ∧ ∀ p (h1 : p < s.length) (h2 : p < ls.length), ls[p].k.lo ≤ s[p].lo ∧ s[p].hi ≤ ls[p].k.hi
  | [], [], _, _ => ⟨rfl, fun p h1 _ => absurd h1 (by simp)⟩
  | [], _ :: _, _, h => h.elim
  | _ :: _, [], _, h => h.elim
  | l :: ls, s :: r, a, h => by
    obtain ⟨k1, k2⟩ := up_at h.2
    refine ⟨by simp [k1], fun p h1 h2 => ?_⟩
    cases p with
    | zero => exact ⟨h.1.2.1, h.1.2.2.1⟩
    | succ p => exact k2 p (by simpa using h1) (by simpa using h2)
theorem up_step : ∀ {ls : List Ln} {s : List Sp} {a : Int}, UpL a ls s → ∀ p (h1 : p + 1 < s.length), s[p].lo ≤ s[p + 1].lo ∧ s[p].hi ≤ s[p + 1].hi
  | [], [], _, _, p, h1 => absurd h1 (by simp)
  | [], _ :: _, _, h, _, _ => h.elim
  | _ :: _, [], _, h, _, _ => h.elim
  | l :: ls, s :: r, a, h, p, h1 => by
    cases p with
    | zero =>
      cases r with
      | nil => simp at h1
      | cons t r' =>
        cases ls with
        | nil => exact h.2.elim
        | cons l' ls' => exact ⟨h.2.1.1, h.1.2.2.2 t r' rfl⟩
    | succ p => exact up_step h.2 p (by simpa using h1)
theorem course_up {c : Ck} {tr : List When} {ls : List Ln} {s : List Sp} (h : courseT c ls tr = some s) : UpL 0 ls s := by
  unfold courseT at h
  obtain ⟨F, hF, rfl⟩ := Option.map_eq_some_iff.1 h
  exact fwd_up c tr ls 0 F hF
theorem written_law (hok : Ck.ok ⟨set, fs⟩ = true) {tr : List When} (ht : InT fs tr) {ls : List Ln} {ms : List Int} (hb : bookB ls = true) (hw : Writ ⟨set, fs⟩ tr 0 ls ms) :
    rightR ⟨set, fs⟩ ls = (true, 0) ∧ wrongR ⟨set, fs⟩ ls = ([], 0) ∧ ∃ l s, timesR ⟨set, fs⟩ ls = (l, 0) ∧ stoppedR ⟨set, fs⟩ ls = (s, 0) ∧ l.length = ls.length ∧ ms.length = ls.length ∧
      (∀ p (h1 : p < l.length) (h2 : p < ms.length), l[p].lo ≤ ms[p] ∧ ms[p] ≤ l[p].hi) ∧ (∀ p (h1 : p < l.length) (h2 : p < ls.length), ls[p].k.lo ≤ l[p].lo ∧ l[p].hi ≤ ls[p].k.hi) ∧
      (∀ p (h1 : p + 1 < l.length), l[p].lo ≤ l[p + 1].lo ∧ l[p].hi ≤ l[p + 1].hi) ∧ s.lo ≤ still tr 4320 ∧ still tr 4320 ≤ s.hi := by
  have ho := ord_of fs 0 (chk_of hok) tr ht
  have htr := (mem_truths fs tr).2 ht
  obtain ⟨s0, hs0, hi0⟩ := writ_course ho (Int.le_refl 0) hw
  have a1 : askE ⟨set, fs⟩ (bookB ls) = 0 := by rw [hb]; exact askE_ok hok rfl
  have hr : rightB ⟨set, fs⟩ ls = true := right_iff.2 ⟨tr, htr, s0, hs0⟩
  have hv := (book_of hb).2
  have hwr : wrongR ⟨set, fs⟩ ls = ([], 0) := by
    rw [← pWrong_eq]
    obtain ⟨wl, h1, _, _, _, h5, _⟩ := wrong_law set fs ls (okFs_of hok).1
    have h6 : rightD set fs ls [] = true := by rw [rightD_spec hok hv, without_keepAll]; exact hr
    have h7 := List.length_eq_zero_iff.1 (h5.2 h6)
    rw [wrong_yes hok hb h1, h7]
  have hrr : rightR ⟨set, fs⟩ ls = (true, 0) := by unfold rightR; rw [if_pos a1, hr]
  refine ⟨hrr, hwr, ?_⟩
  unfold timesR stoppedR
  rw [if_pos a1, if_pos a1]
  rcases times_parts ⟨set, fs⟩ ls with ⟨_, n1⟩ | ⟨l, e1, l1, _, H1⟩
  · have := n1 tr htr
    rw [hs0] at this
    cases this
  obtain ⟨s, es⟩ := stopped_parts ⟨set, fs⟩ ls ⟨tr, htr, s0, hs0⟩
  have hls0 := (course_some hs0).1
  have hms : ms.length = ls.length := by rw [← inL_len hi0, hls0]
  have pick : ∀ p (h1 : p < l.length) (s' : Sp), s' ∈ ((truths fs).filterMap fun tr => (courseT ⟨set, fs⟩ ls tr).map fun s => nth6 s p) → ∃ tr q, tr ∈ truths fs ∧ courseT ⟨set, fs⟩ ls tr = some q ∧ ∃ h : p < q.length, s' = q[p] := fun p h1 s' h => by
    obtain ⟨tr, ht, hx⟩ := List.mem_filterMap.1 h
    obtain ⟨q, hq, rfl⟩ := Option.map_eq_some_iff.1 hx
    have hql := (course_some hq).1
    exact ⟨tr, q, ht, hq, by omega, nth_at (by omega)⟩
  have bring : ∀ p (h1 : p < l.length) {tr : List When} {q : List Sp}, tr ∈ truths fs → courseT ⟨set, fs⟩ ls tr = some q → ∀ h : p < q.length, l[p].lo ≤ q[p].lo ∧ q[p].hi ≤ l[p].hi := fun p h1 {tr q} ht hq h => by
    have hm : q[p] ∈ ((truths fs).filterMap fun tr => (courseT ⟨set, fs⟩ ls tr).map fun s => nth6 s p) := List.mem_filterMap.2 ⟨tr, ht, by rw [hq, Option.map_some, nth_at h]⟩
    exact (hull_some (H1 p h1)).1 _ hm ((course_some hq).2 _ (List.getElem_mem h))
  refine ⟨l, s, by rw [e1], by rw [es], l1, hms, fun p h1 h2 => ?_, fun p h1 h2 => ?_, fun p h1 => ?_, ?_⟩
  · have h3 : p < s0.length := by omega
    have k1 := bring p h1 htr hs0 h3
    have k2 := inL_at hi0 p h3 h2
    omega
  · obtain ⟨_, ⟨x, hx, _, e2⟩, ⟨y, hy, _, e3⟩⟩ := hull_some (H1 p h1)
    obtain ⟨tr1, q1, _, c1, g1, rfl⟩ := pick p h1 x hx
    obtain ⟨tr2, q2, _, c2, g2, rfl⟩ := pick p h1 y hy
    have k1 := (up_at (course_up c1)).2 p g1 h2
    have k2 := (up_at (course_up c2)).2 p g2 h2
    omega
  · obtain ⟨_, ⟨x, hx, _, e2⟩, _⟩ := hull_some (H1 (p + 1) h1)
    obtain ⟨_, _, ⟨y, hy, _, e3⟩⟩ := hull_some (H1 p (by omega))
    obtain ⟨tr1, q1, t1, c1, g1, rfl⟩ := pick (p + 1) h1 x hx
    obtain ⟨tr2, q2, t2, c2, g2, rfl⟩ := pick p (by omega) y hy
    have b1 := bring p (by omega) t1 c1 (by omega)
    have g3 : p + 1 < q2.length := by have := (course_some c2).1; omega
    have b2 := bring (p + 1) h1 t2 c2 g3
    have k1 := up_step (course_up c1) p g1
    have k2 := up_step (course_up c2) p g3
    omega
  · have := (hull_some es).1 (stillS tr 4320) (List.mem_map.2 ⟨tr, List.mem_filter.2 ⟨htr, by rw [hs0]; rfl⟩, rfl⟩) (Int.le_refl _)
    exact this
/-- how long all frosts were -/
theorem still_all {tr : List When} (h : ∀ t ∈ tr, 0 ≤ t.lo ∧ t.lo ≤ t.hi ∧ t.hi ≤ 4319) : still tr 4320 = (tr.map fun t => t.hi - t.lo).foldl (· + ·) 0 := by
  have go : ∀ (tr : List When) (a : Int), (∀ t ∈ tr, 0 ≤ t.lo ∧ t.lo ≤ t.hi ∧ t.hi ≤ 4319) → a + still tr 4320 = (tr.map fun t => t.hi - t.lo).foldl (· + ·) a := fun tr => by
    induction tr with
    | nil => intro a _; simp [still]
    | cons t ts ih =>
      intro a h
      have h1 := h t (List.mem_cons_self ..)
      rw [List.map_cons, List.foldl_cons, ← ih _ fun u hu => h u (List.mem_cons_of_mem _ hu)]
      simp only [still]
      omega
  have := go tr 0 h
  omega
end Go.Proofs.Ytmddbnjbliponaa
