/- ClockWrong: the math of fewest and Wrong; valid and less of the laws; the walk where nothing is asked. -/
import Derived.Test.YtmddbnjbliponaaP18
import Derived.Test.YtmddbnjbliponaaB2
import Derived.Test.YtmddbnjbliponaaD2
import Derived.Test.YtmddbnjbliponaaW5
import Derived.Test.YtmddbnjbliponaaP14
import Derived.Test.YtmddbnjbliponaaP8
import Derived.Test.YtmddbnjbliponaaW4
import Derived.Test.YtmddbnjbliponaaE2
namespace Go.Proofs.Ytmddbnjbliponaa
set_option linter.unusedSimpArgs false
set_option linter.unusedVariables false

theorem firstOf_at {α : Type} {g : Nat → Option α} {i m : Nat} {a : α} (h : firstOf g i m = some a) : ∃ j, i ≤ j ∧ j < i + m ∧ g j = some a ∧ ∀ k, i ≤ k → k < j → g k = none := by
  induction m generalizing i with
  | zero => simp [firstOf] at h
  | succ m ih =>
    rw [firstOf] at h
    cases hg : g i with
    | some b =>
      rw [hg] at h
      simp only [Option.some.injEq] at h
      subst h
      exact ⟨i, Nat.le_refl _, by omega, hg, fun k h1 h2 => by omega⟩
    | none =>
      rw [hg] at h
      obtain ⟨j, h1, h2, h3, h4⟩ := ih h
      refine ⟨j, by omega, by omega, h3, fun k hk1 hk2 => ?_⟩
      by_cases e : k = i
      · subst e; exact hg
      · exact h4 k (by omega) hk2
theorem firstOf_no {α : Type} {g : Nat → Option α} {i m : Nat} (h : firstOf g i m = none) : ∀ k, i ≤ k → k < i + m → g k = none := by
  induction m generalizing i with
  | zero => intro k h1 h2; omega
  | succ m ih =>
    rw [firstOf] at h
    intro k h1 h2
    cases hg : g i with
    | some b => rw [hg] at h; cases h
    | none =>
      rw [hg] at h
      by_cases e : k = i
      · subst e; exact hg
      · exact ih h k (by omega) (by omega)
/-- strictly increasing numbers from one on, below another one -/
def Inc : Nat → Nat → List Int → Prop
  | _, _, [] => True
  | s, n, x :: t => ∃ i : Nat, x = i ∧ s ≤ i ∧ i < n ∧ Inc (i + 1) n t
theorem pick_none {n : Nat} {p : List Int → Bool} {more : Nat} {l : List Int} {s : Nat} (h : pickL n p more l s = none) : ∀ u, Inc s n u → u.length = more → p (l ++ u) = false := by
  induction more generalizing l s with
  | zero =>
    intro u _ hl
    rw [List.length_eq_zero_iff.1 hl, List.append_nil]
    simp only [pickL] at h
    cases hp : p l
    · rfl
    · rw [hp] at h; simp at h
  | succ more ih =>
    intro u hu hl
    cases u with
    | nil => simp at hl
    | cons x t =>
      obtain ⟨i, rfl, h1, h2, h3⟩ := hu
      simp only [pickL] at h
      have := ih (firstOf_no h i h1 (by omega)) t h3 (by simpa using hl)
      simpa using this
theorem pick_some {n : Nat} {p : List Int → Bool} {more : Nat} {l : List Int} {s : Nat} {r : List Int} (h : pickL n p more l s = some r) :
    ∃ t, r = l ++ t ∧ Inc s n t ∧ t.length = more ∧ p r = true ∧ ∀ u, Inc s n u → u.length = more → lessB u t = true → p (l ++ u) = false := by
  induction more generalizing l s r with
  | zero =>
    simp only [pickL] at h
    cases hp : p l
    · rw [hp] at h; simp at h
    · rw [hp] at h
      simp only [if_true, Option.some.injEq] at h
      subst h
      exact ⟨[], by simp, trivial, rfl, hp, fun u _ hl hlt => by rw [List.length_eq_zero_iff.1 hl] at hlt; cases hlt⟩
  | succ more ih =>
    simp only [pickL] at h
    obtain ⟨j, h1, h2, h3, h4⟩ := firstOf_at h
    obtain ⟨t, rfl, ht, hl, hp, hlt⟩ := ih h3
    refine ⟨(j : Int) :: t, by simp, ⟨j, rfl, h1, by omega, ht⟩, by simp [hl], hp, fun u hu hul hless => ?_⟩
    cases u with
    | nil => simp at hul
    | cons x u' =>
      obtain ⟨k, rfl, k1, k2, k3⟩ := hu
      simp only [lessB] at hless
      by_cases c : (k : Int) < j
      · have := pick_none (h4 k k1 (by omega)) u' k3 (by simpa using hul)
        simpa using this
      · rw [if_neg c] at hless
        by_cases d : (j : Int) < k
        · rw [if_pos d] at hless; cases hless
        · rw [if_neg d] at hless
          have e : k = j := by omega
          subst e
          have := hlt u' k3 (by simpa using hul) hless
          simpa using this
theorem fewest_some {n : Nat} {p : List Int → Bool} {r : List Int} (h : fewestL n p = some r) :
    Inc 0 n r ∧ r.length ≤ n ∧ p r = true ∧ (∀ u, Inc 0 n u → u.length < r.length → p u = false) ∧ ∀ u, Inc 0 n u → u.length = r.length → lessB u r = true → p u = false := by
  unfold fewestL at h
  obtain ⟨j, _, h2, h3, h4⟩ := firstOf_at h
  obtain ⟨t, rt, ht, hl, hp, hlt⟩ := pick_some h3
  obtain rfl : r = t := rt
  refine ⟨ht, by omega, hp, fun u hu hul => ?_, fun u hu hul hless => ?_⟩
  · have := pick_none (h4 u.length (Nat.zero_le _) (by omega)) u hu rfl
    simpa using this
  · have := hlt u hu (by omega) hless
    simpa using this
theorem fewest_none {n : Nat} {p : List Int → Bool} (h : fewestL n p = none) : ∀ u, Inc 0 n u → u.length ≤ n → p u = false := by
  intro u hu hul
  have := pick_none (firstOf_no h u.length (Nat.zero_le _) (by omega)) u hu rfl
  simpa using this

/-! ### lists of a set's numbers -/
theorem inc_snoc {s n : Nat} {l : List Int} (h : Inc s n l) (k : Nat) (hs : s ≤ k) (hk : n ≤ k) : Inc s (k + 1) (l ++ [(k : Int)]) := by
  induction l generalizing s with
  | nil => exact ⟨k, rfl, hs, by omega, trivial⟩
  | cons x l ih =>
    obtain ⟨i, rfl, h1, h2, h3⟩ := h
    exact ⟨i, rfl, h1, by omega, ih h3 (by omega)⟩
theorem inc_more {s n m : Nat} {l : List Int} (h : Inc s n l) (hm : n ≤ m) : Inc s m l := by
  induction l generalizing s with
  | nil => trivial
  | cons x l ih =>
    obtain ⟨i, rfl, h1, h2, h3⟩ := h
    exact ⟨i, rfl, h1, by omega, ih h3⟩
theorem inc_ones (set n : Nat) : Inc 0 n (onesL set n) := by
  induction n with
  | zero => simp [onesL, Inc]
  | succ n ih =>
    rw [onesL_succ]
    split
    · exact inc_snoc ih n (Nat.zero_le _) (Nat.le_refl _)
    · rw [List.append_nil]; exact inc_more ih (by omega)
theorem inc_all (n : Nat) : Inc 0 n ((List.range n).map fun (i : Nat) => (i : Int)) := by
  induction n with
  | zero => trivial
  | succ n ih =>
    rw [List.range_succ, List.map_append]
    exact inc_snoc ih n (Nat.zero_le _) (Nat.le_refl _)
theorem inc_get {s n : Nat} {l : List Int} (h : Inc s n l) : ∀ k (hk : k < l.length), (s : Int) ≤ l[k] ∧ l[k] < n ∧ ∀ (_ : 0 < k), l[k - 1] < l[k] := by
  induction l generalizing s with
  | nil => intro k hk; simp at hk
  | cons x l ih =>
    obtain ⟨i, rfl, h1, h2, h3⟩ := h
    intro k hk
    cases k with
    | zero => simp; omega
    | succ k =>
      have hk' : k < l.length := by simpa using hk
      obtain ⟨a, b, c⟩ := ih h3 k hk'
      simp only [List.getElem_cons_succ]
      refine ⟨by omega, b, fun _ => ?_⟩
      cases k with
      | zero => simp; omega
      | succ k => simpa using c (by omega)
theorem inc_climbs {n : Nat} {l : List Int} (h : Inc 0 n l) : Climbs l n := fun k hk => by
  obtain ⟨a, b, c⟩ := inc_get h k hk
  exact ⟨by simpa using a, b, c⟩

/-! ### books without lines -/
theorem without_keepAll (ls : List Ln) : without ls (keepOf []) = ls := by
  unfold without
  rw [List.filter_eq_self.2 (fun p _ => by simp [keepOf])]
  simp
theorem right_less (set : Int) (fs : List Fr) (ls : List Ln) (out : List Int) : rightD set fs (without ls (keepOf out)) [] = rightD set fs ls out := by
  unfold rightD
  rw [without_keepAll]
theorem right_none (set : Int) (fs : List Fr) (ls : List Ln) (hO : OkFs fs) : rightD set fs ls ((List.range ls.length).map fun (i : Nat) => (i : Int)) = true := by
  have hw : without ls (keepOf ((List.range ls.length).map fun (i : Nat) => (i : Int))) = [] := by
    unfold without
    rw [List.map_eq_nil_iff, List.filter_eq_nil_iff]
    intro p hp
    have h := List.mem_zipIdx hp
    simp only [keepOf, Bool.not_eq_true', Bool.not_eq_false', decide_eq_true_eq, Bool.not_eq_true, Bool.not_eq_false]
    exact List.mem_map.2 ⟨p.2, List.mem_range.2 (by omega), rfl⟩
  unfold rightD
  rw [hw]
  obtain ⟨tr, ht⟩ : ∃ tr, tr ∈ truths fs := ⟨_, List.getElem_mem (truths_ne fs hO)⟩
  have hx := (mem_dials fs (untilL []) _).2 ⟨tr, (mem_truths fs tr).1 ht, rfl⟩
  have hc : (pad (tr.map fun t => cutF t (untilL [])), ([] : List Sp)) ∈ coursesL set fs (untilL []) [] := List.mem_filterMap.2 ⟨_, hx, rfl⟩
  cases hh : coursesL set fs (untilL []) [] with
  | nil => rw [hh] at hc; simp at hc
  | cons a b => rfl
/-- what the law asks of Wrong -/
theorem wrong_law (set : Int) (fs : List Fr) (ls : List Ln) (hO : OkFs fs) : ∃ w, fewestL ls.length (rightD set fs ls) = some w ∧ Climbs w ls.length ∧ w.length ≤ ls.length ∧ rightD set fs ls w = true ∧ ((w.length = 0) ↔ rightD set fs ls [] = true) ∧
    ∀ s, ((onesL s ls.length).length < w.length ∨ ((onesL s ls.length).length = w.length ∧ lessB (onesL s ls.length) w = true)) → rightD set fs ls (onesL s ls.length) = false := by
  cases h : fewestL ls.length (rightD set fs ls) with
  | none =>
    have := fewest_none h _ (inc_all ls.length) (by simp)
    rw [right_none set fs ls hO] at this
    cases this
  | some w =>
    obtain ⟨h1, h2, h3, h4, h5⟩ := fewest_some h
    refine ⟨w, rfl, inc_climbs h1, h2, h3, ⟨fun e => ?_, fun e => ?_⟩, fun s hs => ?_⟩
    · rw [List.length_eq_zero_iff.1 e] at h3; exact h3
    · refine Classical.byContradiction fun hne => ?_
      have := h4 [] trivial (by simp; omega)
      rw [e] at this; cases this
    · rcases hs with hs | ⟨hs, hl⟩
      · exact h4 _ (inc_ones s _) hs
      · exact h5 _ (inc_ones s _) hs hl
open Go.RowKit Go.Shelf
attribute [local go_sem high] cell_set_wr
attribute [local go_sem low] cell_wr frozen_wr
attribute [local go_sem] wr_set wr_drew wr_drewN wr_alloc wr_new

set_option maxRecDepth 100000 in
set_option maxHeartbeats 4000000 in
theorem valid_any (A : Option Addr) (cap : Nat) (l : List Ln) (w : World) (hA : Arr w w.heap.size A (lines l)) (hl : l.length ≤ 9223372036854775807) :
    Calls Try.prog 46 #[.slice A l.length cap] w fun e w' => e = .returned (.bool (bookB l)) ∧ Below w.heap.size w w' := by
  have HE : Hid (bookB l = (decide (l.length ≤ 6) && l.all lineB)) := hid rfl
  go_enter Try.func46, Try.ntmps46
  go_wp2
  go_loopw [3, 4] (fun ok i wr => ∃ (k : Nat) (b : Bool), k ≤ l.length ∧ i = .int .i64 k ∧ ok = .bool b ∧ Hid (bookB l = (b && (l.drop k).all lineB)) ∧ Below w.heap.size w wr) (fun _ i _ => l.length - (intOf i).toNat)
  case atStart =>
    have e : decide ((l.length : Int) ≤ 6) = decide (l.length ≤ 6) := decide_eq_decide.2 (by omega)
    exact ⟨0, decide (l.length ≤ 6), Nat.zero_le _, rfl, by simp [e], hid (by rw [HE.out]; simp), Below.refl _ _⟩
  case round =>
    obtain ⟨k, b, hk, rfl, rfl, HB, hB⟩ := hrel
    have hzr := hB.size
    cases b
    · go_wp2
      go_ret
      exact ⟨ret_bool (by rw [HB.out]; simp), by (repeat' (first | (with_reducible exact Below.refl _ _) | (with_reducible assumption) | (with_reducible refine Below.drew ?_) | (with_reducible refine below_drewN ?_ _) | (with_reducible refine Below.setCell ?_ ?_ _) | (with_reducible refine Below.alloc ?_ ?_ _) | go_size | (exact Below.size (by assumption)) | (refine Below.trans ?_ (Below.mono (by assumption) ?_))))⟩
    by_cases hlt : k < l.length
    · obtain ⟨lb, lo, rfl, hb, c0, c1, c2⟩ := (hA.below hB).ln hlt
      have HT := hid (all_take lineB l k hlt)
      have HL : Hid (lineB l[k] = (isReadingB l[k].r && minutesB l[k].k)) := hid rfl
      have HR : Hid (isReadingB l[k].r = (decide (0 ≤ l[k].r) && decide (l[k].r ≤ 8638))) := hid rfl
      have HM : Hid (minutesB l[k].k = (decide (0 ≤ l[k].k.lo) && (decide (l[k].k.lo ≤ l[k].k.hi) && decide (l[k].k.hi ≤ 4319)))) := hid rfl
      have hi1 : k + 1 ≤ l.length := hlt
      clear hA
      generalize l[k] = x at *
      cases hr : isReadingB x.r
      · have hr' : (decide (0 ≤ x.r) && decide (x.r ≤ 8638)) = false := by rw [← HR.out]; exact hr
        have HR2 := hid hr
        go_wp2_with (first
          | (go_at_call 44; refine (between_any _ _ _ _).mono ?_; rw [hr']; rintro e w2 ⟨rfl, hw⟩; subst hw))
        refine ⟨⟨k + 1, false, hi1, by go_num, rfl, hid (by rw [HB.out, HT.out, HL.out, HR2.out]; simp), ?_⟩, by simp [intOf]; omega⟩
        (repeat' (first | (with_reducible exact Below.refl _ _) | (with_reducible assumption) | (with_reducible refine Below.drew ?_) | (with_reducible refine below_drewN ?_ _) | (with_reducible refine Below.setCell ?_ ?_ _) | (with_reducible refine Below.alloc ?_ ?_ _) | go_size | (exact Below.size (by assumption)) | (refine Below.trans ?_ (Below.mono (by assumption) ?_))))
      · have hr' : (decide (0 ≤ x.r) && decide (x.r ≤ 8638)) = true := by rw [← HR.out]; exact hr
        have HR2 := hid hr
        cases hm : minutesB x.k
        all_goals
          have hm' := HM.out.symm.trans hm
          have HM2 := hid hm
          go_wp2_with (first
            | (go_at_call 44; refine (between_any _ _ _ _).mono ?_; rw [hr']; rintro e w2 ⟨rfl, hw⟩; subst hw)
            | (go_at_call 81; refine (spans_any _ _ _ _ _).mono ?_; rw [hm']; rintro e w2 ⟨rfl, hb2⟩; (first | replace hb2 := Below.un1 hb2 | replace hb2 := Below.un2 hb2 | skip); obtain ⟨hc2, hf2, hl2, hm2, hw2⟩ := bcell hb2; have hz2 := hb2.size; (try simp only [World.size_alloc, World.size_setCell] at hz2)))
          refine ⟨⟨k + 1, _, hi1, by go_num, rfl, hid (by rw [HB.out, HT.out, HL.out, HR2.out, HM2.out]; simp), ?_⟩, by simp [intOf]; omega⟩
          (repeat' (first | (with_reducible exact Below.refl _ _) | (with_reducible assumption) | (with_reducible refine Below.drew ?_) | (with_reducible refine below_drewN ?_ _) | (with_reducible refine Below.setCell ?_ ?_ _) | (with_reducible refine Below.alloc ?_ ?_ _) | go_size | (exact Below.size (by assumption)) | (refine Below.trans ?_ (Below.mono (by assumption) ?_))))
    · obtain rfl : k = l.length := by omega
      go_wp2
      go_ret
      exact ⟨ret_bool (by rw [HB.out, List.drop_length]; simp), by (repeat' (first | (with_reducible exact Below.refl _ _) | (with_reducible assumption) | (with_reducible refine Below.drew ?_) | (with_reducible refine below_drewN ?_ _) | (with_reducible refine Below.setCell ?_ ?_ _) | (with_reducible refine Below.alloc ?_ ?_ _) | go_size | (exact Below.size (by assumption)) | (refine Below.trans ?_ (Below.mono (by assumption) ?_))))⟩

theorem atI_neg (l : List Int) (n : Int) : atI l n < 0 ↔ n ∉ l := by
  induction l with
  | nil => simp [atI]
  | cons x l ih =>
    unfold atI
    by_cases h : x = n
    · simp [h]
    · rw [if_neg h]
      have := atI_lt l n
      split
      · simp only [List.mem_cons, not_or]
        exact ⟨fun _ => ⟨fun e => h e.symm, ih.1 (by omega)⟩, fun _ => by omega⟩
      · simp only [List.mem_cons, not_or]
        exact ⟨fun h => by omega, fun ⟨_, h2⟩ => by have := ih.2 h2; omega⟩
theorem without_lines_snoc (L : List Ln) (x : Ln) : lines (L ++ [x]) = lines L ++ [.int .i64 x.r, .int .i64 x.k.lo, .int .i64 x.k.hi] := by simp [lines, Ln.cells]

set_option maxRecDepth 100000 in
set_option maxHeartbeats 4000000 in
theorem lawless_any (A O : Option Addr) (cap ocap : Nat) (ls : List Ln) (out : List Int) (w : World) (hA : Arr w w.heap.size A (lines ls)) (hO : Arr w w.heap.size O (ints out)) (hl : ls.length ≤ 1000) (hout : out.length ≤ 281474976710656) :
    Calls Try.prog 49 #[.slice A ls.length cap, .slice O out.length ocap] w (Ret w (without ls (keepOf out)).length (lines (without ls (keepOf out)))) := by
  go_enter Try.func49, Try.ntmps49
  go_wp2
  go_loopw [5, 6] (fun ov i wr => ∃ k : Nat, k ≤ ls.length ∧ i = .int .i64 k ∧ wr.ownsRow w.heap.size 67 3 ov (without (ls.take k) (keepOf out)).length (lines (without (ls.take k) (keepOf out))) ∧ Below w.heap.size w wr) (fun _ i _ => ls.length - (intOf i).toNat)
  case atStart => exact ⟨0, Nat.zero_le _, rfl, own_nil _ _ _ _, Below.refl _ _⟩
  case round =>
    obtain ⟨k, hk, rfl, hown, hB⟩ := hrel
    have hzr := hB.size
    by_cases hlt : k < ls.length
    · have hi1 : k + 1 ≤ ls.length := hlt
      obtain ⟨lb, lo, rfl, hlb, l0, l1, l2⟩ := (hA.below hB).ln hlt
      have HW := hid (without_snoc ls (keepOf out) k hlt)
      have hwl : (without (ls.take k) (keepOf out)).length ≤ k := Nat.le_trans (without_le _ _) (by rw [List.length_take]; omega)
      generalize without (ls.take k) (keepOf out) = L0 at *
      generalize ls[k] = x at *
      by_cases hm : (k : Int) ∈ out
      · have HM : Hid (without (ls.take (k + 1)) (keepOf out) = L0) := hid (by rw [HW.out]; simp [keepOf, hm])
        have hd : decide (atI out (k : Int) < 0) = false := decide_eq_false (fun h => (atI_neg _ _).1 h hm)
        clear HW
        go_wp2_with (go_at_call 83; refine (at_any O ocap out k _ ?_ (by omega)).mono ?_; (focus (refine (hO.below ?_).more ?_; (repeat' (first | (with_reducible exact Below.refl _ _) | (with_reducible assumption) | (with_reducible refine Below.drew ?_) | (with_reducible refine below_drewN ?_ _) | (with_reducible refine Below.setCell ?_ ?_ _) | (with_reducible refine Below.alloc ?_ ?_ _) | go_size | (exact Below.size (by assumption)) | (refine Below.trans ?_ (Below.mono (by assumption) ?_)))))); rintro e w2 ⟨rfl, hb2⟩; (first | replace hb2 := Below.un1 hb2 | replace hb2 := Below.un2 hb2 | skip); obtain ⟨hc2, hf2, hl2, hm2, hw2⟩ := bcell hb2; have hz2 := hb2.size; (try simp only [World.size_alloc, World.size_setCell] at hz2); have hown2 := own_below hown hb2)
        refine ⟨⟨k + 1, hi1, by go_num, ?_, ?_⟩, by simp [intOf]; omega⟩
        · rw [HM.out]; exact hown2
        · (repeat' (first | (with_reducible exact Below.refl _ _) | (with_reducible assumption) | (with_reducible refine Below.drew ?_) | (with_reducible refine below_drewN ?_ _) | (with_reducible refine Below.setCell ?_ ?_ _) | (with_reducible refine Below.alloc ?_ ?_ _) | go_size | (exact Below.size (by assumption)) | (refine Below.trans ?_ (Below.mono (by assumption) ?_))))
      · have HM : Hid (without (ls.take (k + 1)) (keepOf out) = L0 ++ [x]) := hid (by rw [HW.out]; simp [keepOf, hm])
        have hlr : lb < wr.heap.size := by omega
        have hd : decide (atI out (k : Int) < 0) = true := decide_eq_true ((atI_neg _ _).2 hm)
        clear HW
        go_wp2_with (first
          | (go_at_call 83; go_loud (refine (at_any O ocap out k _ ?_ (by omega)).mono ?_; (focus (refine (hO.below ?_).more ?_; (repeat' (first | (with_reducible exact Below.refl _ _) | (with_reducible assumption) | (with_reducible refine Below.drew ?_) | (with_reducible refine below_drewN ?_ _) | (with_reducible refine Below.setCell ?_ ?_ _) | (with_reducible refine Below.alloc ?_ ?_ _) | go_size | (exact Below.size (by assumption)) | (refine Below.trans ?_ (Below.mono (by assumption) ?_)))))); rintro e w2 ⟨rfl, hb2⟩; (first | replace hb2 := Below.un1 hb2 | replace hb2 := Below.un2 hb2 | skip); obtain ⟨hc2, hf2, hl2, hm2, hw2⟩ := bcell hb2; have hz2 := hb2.size; (try simp only [World.size_alloc, World.size_setCell] at hz2); have hown2 := own_below hown hb2; have hz2 := hb2.size; have p0 : w2.cell? ⟨lb, lo + k * 3, none⟩ = some (.int .i64 x.r) := (hb2.cell hlr).trans l0; have p1 : w2.cell? ⟨lb, lo + k * 3 + 1, none⟩ = some (.int .i64 x.k.lo) := (hb2.cell hlr).trans l1; have p2 : w2.cell? ⟨lb, lo + k * 3 + 2, none⟩ = some (.int .i64 x.k.hi) := (hb2.cell hlr).trans l2))
          | (at_builtin; go_loud (refine wpList_app1 rfl _ _ 39 rfl w.heap.size 67 _ 3 24 Try.underlying39 info_line rfl (by omega) _ _ _ rfl hown2 _ rfl rfl (by simp [Value.oneCell']) (by unfold maxLen; omega) (by omega) (by omega) ?_; intro A1 cap1 w3 hcap1 hcap1' hown3 hb3' hg3)))
        have e : (L0 ++ [x]).length = L0.length + 1 := by simp
        refine ⟨⟨k + 1, hi1, by go_num, ?_, ?_⟩, by simp [intOf]; omega⟩
        · rw [HM.out, e, without_lines_snoc]; exact hown3
        · exact (hB.trans (hb2.mono (by omega))).trans hb3'
    · obtain rfl : k = ls.length := by omega
      rw [List.take_length] at hown
      go_wp2
      go_ret
      obtain ⟨R, rcap, rfl, _, hcm, ha⟩ := own_form hown
      exact ⟨R, rcap, rfl, hcm, ha, hB⟩

set_option maxRecDepth 100000 in
set_option maxHeartbeats 4000000 in
theorem wrong_false (set n : Int) (A L : Option Addr) (cap lcap : Nat) (fs : List Fr) (ls : List Ln) (w : World) (hA : Arr w w.heap.size A (frosts fs)) (hL : Arr w w.heap.size L (lines ls)) (hl : ls.length ≤ 9223372036854775807)
    (ho : Ck.ok ⟨set, fs⟩ = false ∨ bookB ls = false) :
    Calls Try.prog 10 #[.agg #[.int .i64 set, .slice A fs.length cap], .slice L ls.length lcap, .int .i64 n] w fun e w' => e = .returned (.bool true) ∧ Below w.heap.size w w' := by
  cases h1 : Ck.ok ⟨set, fs⟩
  · clear ho
    have HO := hid h1
    go_enter Try.func10, Try.ntmps10
    go_wp2_with (first
      | (go_at_call 35; refine (sound_any set A cap fs _ ?_).mono ?_; (focus (refine (hA.below ?_).more ?_; (repeat' (first | (with_reducible exact Below.refl _ _) | (with_reducible assumption) | (with_reducible refine Below.drew ?_) | (with_reducible refine below_drewN ?_ _) | (with_reducible refine Below.setCell ?_ ?_ _) | (with_reducible refine Below.alloc ?_ ?_ _) | go_size | (exact Below.size (by assumption)) | (refine Below.trans ?_ (Below.mono (by assumption) ?_)))))); rw [HO.out]; rintro e w1 ⟨rfl, hb1⟩; (first | replace hb1 := Below.un1 hb1 | replace hb1 := Below.un2 hb1 | skip); obtain ⟨hc1, hf1, hl1, hm1, hw1⟩ := bcell hb1; have hz1 := hb1.size; (try simp only [World.size_alloc, World.size_setCell] at hz1))
      | (go_at_call 22; refine (ticks_any _).mono ?_; rintro e w2 ⟨rfl, hb2⟩; (first | replace hb2 := Below.un1 hb2 | replace hb2 := Below.un2 hb2 | skip); obtain ⟨hc2, hf2, hl2, hm2, hw2⟩ := bcell hb2; have hz2 := hb2.size; (try simp only [World.size_alloc, World.size_setCell] at hz2)))
    go_ret
    exact ⟨rfl, by (repeat' (first | (with_reducible exact Below.refl _ _) | (with_reducible assumption) | (with_reducible refine Below.drew ?_) | (with_reducible refine below_drewN ?_ _) | (with_reducible refine Below.setCell ?_ ?_ _) | (with_reducible refine Below.alloc ?_ ?_ _) | go_size | (exact Below.size (by assumption)) | (refine Below.trans ?_ (Below.mono (by assumption) ?_))))⟩
  · rw [h1] at ho
    have h2 : bookB ls = false := by rcases ho with h | h; cases h; exact h
    clear ho
    have HO := hid h1
    have HV := hid h2
    go_enter Try.func10, Try.ntmps10
    go_wp2_with (first
      | (go_at_call 35; refine (sound_any set A cap fs _ ?_).mono ?_; (focus (refine (hA.below ?_).more ?_; (repeat' (first | (with_reducible exact Below.refl _ _) | (with_reducible assumption) | (with_reducible refine Below.drew ?_) | (with_reducible refine below_drewN ?_ _) | (with_reducible refine Below.setCell ?_ ?_ _) | (with_reducible refine Below.alloc ?_ ?_ _) | go_size | (exact Below.size (by assumption)) | (refine Below.trans ?_ (Below.mono (by assumption) ?_)))))); rw [HO.out]; rintro e w1 ⟨rfl, hb1⟩; (first | replace hb1 := Below.un1 hb1 | replace hb1 := Below.un2 hb1 | skip); obtain ⟨hc1, hf1, hl1, hm1, hw1⟩ := bcell hb1; have hz1 := hb1.size; (try simp only [World.size_alloc, World.size_setCell] at hz1))
      | (go_at_call 46; refine (valid_any L lcap ls _ ?_ hl).mono ?_; (focus (refine (hL.below ?_).more ?_; (repeat' (first | (with_reducible exact Below.refl _ _) | (with_reducible assumption) | (with_reducible refine Below.drew ?_) | (with_reducible refine below_drewN ?_ _) | (with_reducible refine Below.setCell ?_ ?_ _) | (with_reducible refine Below.alloc ?_ ?_ _) | go_size | (exact Below.size (by assumption)) | (refine Below.trans ?_ (Below.mono (by assumption) ?_)))))); rw [HV.out]; rintro e w3 ⟨rfl, hb3⟩; (first | replace hb3 := Below.un1 hb3 | replace hb3 := Below.un2 hb3 | skip); obtain ⟨hc3, hf3, hl3, hm3, hw3⟩ := bcell hb3; have hz3 := hb3.size; (try simp only [World.size_alloc, World.size_setCell] at hz3))
      | (go_at_call 22; refine (ticks_any _).mono ?_; rintro e w2 ⟨rfl, hb2⟩; (first | replace hb2 := Below.un1 hb2 | replace hb2 := Below.un2 hb2 | skip); obtain ⟨hc2, hf2, hl2, hm2, hw2⟩ := bcell hb2; have hz2 := hb2.size; (try simp only [World.size_alloc, World.size_setCell] at hz2)))
    go_ret
    exact ⟨rfl, by (repeat' (first | (with_reducible exact Below.refl _ _) | (with_reducible assumption) | (with_reducible refine Below.drew ?_) | (with_reducible refine below_drewN ?_ _) | (with_reducible refine Below.setCell ?_ ?_ _) | (with_reducible refine Below.alloc ?_ ?_ _) | go_size | (exact Below.size (by assumption)) | (refine Below.trans ?_ (Below.mono (by assumption) ?_))))⟩

theorem book_without {ls : List Ln} (o : List Int) (h : bookB ls = true) : bookB (without ls (keepOf o)) = true := by
  obtain ⟨h6, hl⟩ := book_of h
  have := without_le ls (keepOf o)
  simp only [bookB, Bool.and_eq_true, decide_eq_true_eq, List.all_eq_true]
  exact ⟨by omega, fun l hm => hl l (without_mem _ _ _ hm)⟩
theorem right_yes {set : Int} {fs : List Fr} {ls : List Ln} (ho : Ck.ok ⟨set, fs⟩ = true) (hb : bookB ls = true) : pRightR ⟨set, fs⟩ ls = (rightD set fs ls [], 0) := by
  unfold pRightR; rw [if_pos (askE_ok ho hb)]
theorem right_but {set : Int} {fs : List Fr} {ls : List Ln} (o : List Int) (ho : Ck.ok ⟨set, fs⟩ = true) (hb : bookB ls = true) : pRightR ⟨set, fs⟩ (without ls (keepOf o)) = (rightD set fs ls o, 0) := by
  rw [right_yes ho (book_without o hb), right_less]
theorem wrong_yes {set : Int} {fs : List Fr} {ls : List Ln} {wl : List Int} (ho : Ck.ok ⟨set, fs⟩ = true) (hb : bookB ls = true) (h : fewestL ls.length (rightD set fs ls) = some wl) : pWrongR ⟨set, fs⟩ ls = (wl, 0) := by
  unfold pWrongR; rw [if_pos (askE_ok ho hb), h]; rfl

theorem pow_wrap (k : Nat) (hk : k ≤ 6) : wrap64 ((2 : Int) ^ k) ≤ 9223372036854775807 ∧ 0 < wrap64 ((2 : Int) ^ k) ∧ wrap64 ((2 : Int) ^ k) ≤ 64 := by
  have : k = 0 ∨ k = 1 ∨ k = 2 ∨ k = 3 ∨ k = 4 ∨ k = 5 ∨ k = 6 := by omega
  rcases this with e | e | e | e | e | e | e <;> subst e <;> simp [wrap64]
end Go.Proofs.Ytmddbnjbliponaa
