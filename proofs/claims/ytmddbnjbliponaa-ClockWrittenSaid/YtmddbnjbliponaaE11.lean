/- The book that numbers choose was written. No Go here. -/
import Derived.Test.YtmddbnjbliponaaE9
import Derived.Test.YtmddbnjbliponaaW15
namespace Go.Proofs.Ytmddbnjbliponaa
set_option linter.unusedSimpArgs false
set_option linter.unusedVariables false

theorem minsL_length : ∀ (st : List Int) (m : Int), (minsL m st).length = st.length
  | [], _ => rfl
  | s :: r, m => by simp [minsL, minsL_length r]
theorem linesL_length (face : Int → Int) : ∀ (st : List Int) (m : Int), (linesL face m st).length = st.length
  | [], _ => rfl
  | s :: r, m => by simp [linesL, linesL_length face r]
theorem chosen_writ {set : Int} {fs : List Fr} {tr : List When} {face : Int → Int} (hf : ∀ m, 0 ≤ m → m ≤ 4319 → face m = showsT ⟨set, fs⟩ tr m) : ∀ (st : List Int) (m : Int), 0 ≤ m → m ≤ 4319 → Writ ⟨set, fs⟩ tr m (linesL face m st) (minsL m st)
  | [], _, _, _ => trivial
  | s :: r, m, h0, h1 => by
    obtain ⟨k1, k2, k3⟩ := step_bd (m := m) (s := s) ⟨h0, h1⟩
    obtain ⟨b1, b2⟩ := by_bd s
    refine ⟨⟨k1, k2, k3, hf _ k2 k3, ?_, ?_, ?_, ?_⟩, chosen_writ hf r _ k2 k3⟩ <;> simp only [lineOf] <;> omega
theorem writ_lines {set : Int} {fs : List Fr} {tr : List When} (ho : Ord 0 tr) (hs : 0 ≤ set ∧ set ≤ 4319) : ∀ (ls : List Ln) (ms : List Int) (prev : Int), Writ ⟨set, fs⟩ tr prev ls ms → ∀ l ∈ ls, lineB l = true
  | [], _, _, _ => fun l hl => by cases hl
  | _ :: _, [], _, h => h.elim
  | l :: ls, m :: ms, prev, h => fun l' hl => by
    obtain ⟨⟨h1, h2, h3, h4, h5, h6, h7, h8⟩, hw⟩ := h
    rcases List.mem_cons.1 hl with rfl | hl
    · have hb := shown_bd (fs := fs) hs ho (m := m) ⟨h2, h3⟩
      simp only [lineB, isReadingB, minutesB, Bool.and_eq_true, decide_eq_true_eq]
      rw [h4]
      exact ⟨⟨by omega, by omega⟩, by omega, by omega, by omega⟩
    · exact writ_lines ho hs ls ms m hw l' hl
theorem trueF_shows {set : Int} {fs : List Fr} {bits : List Int} (ho : Ord 0 (trulyL fs bits)) (m : Int) (h0 : 0 ≤ m) (h1 : m ≤ 4319) : (trueF set fs bits).getD m.toNat 0 = showsT ⟨set, fs⟩ (trulyL fs bits) m := by
  obtain ⟨k, rfl⟩ : ∃ k : Nat, m = k := ⟨m.toNat, by omega⟩
  have hk : k < (trueF set fs bits).length := by rw [trueF_length]; omega
  rw [Int.toNat_natCast, List.getD_eq_getElem?_getD, List.getElem?_eq_getElem hk, Option.getD_some]
  unfold trueF at hk ⊢
  rw [facesL_get, face_shows set fs _ ho]
/-- what ClockWritten asks holds -/
theorem chosen_law {set : Int} {fs : List Fr} (hok : Ck.ok ⟨set, fs⟩ = true) (bits steps : List Int) {face : Int → Int} (hf : ∀ m, face m = (trueF set fs bits).getD m.toNat 0) :
    (linesL face 0 (steps.take 6)).length ≤ 6 ∧ rightR ⟨set, fs⟩ (linesL face 0 (steps.take 6)) = (true, 0) ∧ wrongR ⟨set, fs⟩ (linesL face 0 (steps.take 6)) = ([], 0) ∧ (minsL 0 (steps.take 6)).length = (linesL face 0 (steps.take 6)).length ∧
    ∃ l s, timesR ⟨set, fs⟩ (linesL face 0 (steps.take 6)) = (l, 0) ∧ stoppedR ⟨set, fs⟩ (linesL face 0 (steps.take 6)) = (s, 0) ∧ l.length = (linesL face 0 (steps.take 6)).length ∧
      (∀ p (h1 : p < l.length) (h2 : p < (minsL 0 (steps.take 6)).length), l[p].lo ≤ (minsL 0 (steps.take 6))[p] ∧ (minsL 0 (steps.take 6))[p] ≤ l[p].hi) ∧
      (∀ p (h1 : p < l.length) (h2 : p < (linesL face 0 (steps.take 6)).length), (linesL face 0 (steps.take 6))[p].k.lo ≤ l[p].lo ∧ l[p].hi ≤ (linesL face 0 (steps.take 6))[p].k.hi) ∧
      (∀ p (h1 : p + 1 < l.length), l[p].lo ≤ l[p + 1].lo ∧ l[p].hi ≤ l[p + 1].hi) ∧ s.lo ≤ still (trulyL fs bits) 4320 ∧ still (trulyL fs bits) 4320 ≤ s.hi := by
  obtain ⟨hO, hs1, hs2⟩ := okFs_of hok
  have hin := truly_inT fs bits hO
  have ho := ord_of fs 0 (chk_of hok) _ hin
  have hw : Writ ⟨set, fs⟩ (trulyL fs bits) 0 (linesL face 0 (steps.take 6)) (minsL 0 (steps.take 6)) := chosen_writ (fun m h0 h1 => by rw [hf]; exact trueF_shows ho m h0 h1) _ 0 (Int.le_refl _) (by omega)
  have h6 : (linesL face 0 (steps.take 6)).length ≤ 6 := by rw [linesL_length, List.length_take]; omega
  have hb : bookB (linesL face 0 (steps.take 6)) = true := by
    simp only [bookB, Bool.and_eq_true, decide_eq_true_eq, List.all_eq_true]
    exact ⟨h6, writ_lines ho ⟨hs1, hs2⟩ _ _ _ hw⟩
  obtain ⟨r1, r2, l, s, r3, r4, r5, r6, r7, r8, r9, r10⟩ := written_law hok hin hb hw
  exact ⟨h6, r1, r2, r6, l, s, r3, r4, r5, r7, r8, r9, r10⟩
end Go.Proofs.Ytmddbnjbliponaa
