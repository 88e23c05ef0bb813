/- What clavendierref01's Times returns, for any clock and book. -/
import Derived.Test.YtmddbnjbliponaaR9
import Derived.Test.YtmddbnjbliponaaE6
import Derived.Test.YtmddbnjbliponaaZ
namespace Go.Proofs.Ytmddbnjbliponaa
set_option linter.unusedSimpArgs false
set_option linter.unusedVariables false
open Go.RowKit
attribute [local go_sem high] cell_set_wr
attribute [local go_sem low] cell_wr frozen_wr
attribute [local go_sem] wr_set wr_drew wr_drewN wr_alloc wr_new

/-- the least span that holds two -/
def comb (x t : Sp) : Sp := ⟨min x.lo t.lo, max x.hi t.hi⟩
theorem zip_self (s : List Sp) : List.zipWith comb s s = s := by
  induction s with
  | nil => rfl
  | cons t s ih => simp [comb, ih]
theorem zip_step (a s : List Sp) (k : Nat) (ha : k < a.length) (hs : k < s.length) :
    (List.zipWith comb (a.take k) (s.take k) ++ a.drop k).set k (comb a[k] s[k]) = List.zipWith comb (a.take (k + 1)) (s.take (k + 1)) ++ a.drop (k + 1) := by
  have e1 : (List.zipWith comb (a.take k) (s.take k)).length = k := by simp; omega
  rw [List.set_append_right _ _ (by omega), e1, Nat.sub_self, List.drop_eq_getElem_cons ha, List.set_cons_zero, List.take_succ_eq_append_getElem ha, List.take_succ_eq_append_getElem hs, List.zipWith_append (by simp; omega)]
  simp
theorem zip_at (a s : List Sp) (k : Nat) (ha : k < a.length) (hs : k < s.length) (h : k < (List.zipWith comb (a.take k) (s.take k) ++ a.drop k).length) : (List.zipWith comb (a.take k) (s.take k) ++ a.drop k)[k] = a[k] := by
  have e1 : (List.zipWith comb (a.take k) (s.take k)).length = k := by simp; omega
  rw [List.getElem_append_right (by omega)]
  simp only [e1, Nat.sub_self, List.getElem_drop, Nat.add_zero]
theorem spans_set2 (X : List Sp) (j : Nat) (l h : Int) (hj : j < X.length) : ((spans X).set (j * 2) (.int .i64 l)).set (j * 2 + 1) (.int .i64 h) = spans (X.set j ⟨l, h⟩) := by
  induction X generalizing j with
  | nil => simp at hj
  | cons a X ih =>
    cases j with
    | zero => simp [spans, Sp.cells]
    | succ j =>
      have e := ih j (by simpa using hj)
      simp only [spans, List.flatMap_cons, Sp.cells] at e ⊢
      simp only [List.set_cons_succ, List.flatMap_cons, Sp.cells]
      rw [← e, show (j + 1) * 2 + 1 = j * 2 + 1 + 1 + 1 by omega, show (j + 1) * 2 = j * 2 + 1 + 1 by omega]
      rfl
theorem arr_set {w : World} {B : Nat} {A : Option Addr} {xs : List Value} (h : Arr w B A xs) (g o : Nat) (u : Value) (hne : ∀ b' o', A = some ⟨b', o', none⟩ → g ≠ b') : Arr (w.setCell ⟨g, o, none⟩ u) B A xs := fun hx => by
  obtain ⟨b, o', rfl, hlt, hc⟩ := h hx
  exact ⟨b, o', rfl, hlt, fun j v hv => (World.cell?_setCell_other _ _ _ _ (by intro e; injection e with e; exact hne b o' rfl e)).trans (hc j v hv)⟩
/-- the row that Times has so far -/
def TOwn (w : World) (base n : Nat) (acc : Option (List Sp)) (v : Value) : Prop := match acc with
  | none => v = .slice none 0 0
  | some a => a.length = n ∧ ∃ O oc, v = .slice O n oc ∧ w.ownsRow base 27 2 v n (spans a)
theorem TOwn.below {w w' : World} {base n : Nat} {acc : Option (List Sp)} {v : Value} (h : TOwn w base n acc v) (hb : Below w.heap.size w w') : TOwn w' base n acc v := by
  cases acc with
  | none => exact h
  | some a =>
    obtain ⟨h1, O, oc, h2, h3⟩ := h
    exact ⟨h1, O, oc, h2, own_below h3 hb⟩
/-- what the steps of `out[k] = B.To(..)` leave -/
def tmF (b oc b2 o2 e2 oc2 n k : Nat) (x t m : Sp) : Nat → Value → World → Prop
  | 0, v, _ => v = .slice (some ⟨b, 0, none⟩) n oc
  | 1, v, _ => v = .int .i64 k
  | 2, v, _ => v = .slice (some ⟨b, 0, none⟩) n oc
  | 3, v, _ => v = .int .i64 k
  | 4, v, _ => v = .pointer (some ⟨b, k * 2, none⟩)
  | 5, v, _ => v = .pointer (some ⟨b, k * 2, none⟩)
  | 6, v, _ => v = .int .i64 x.lo
  | 7, v, _ => v = .slice (some ⟨b2, o2, none⟩) n oc2
  | 8, v, _ => v = .int .i64 k
  | 9, v, _ => v = .pointer (some ⟨b2, e2, none⟩)
  | 10, v, _ => v = .pointer (some ⟨b2, e2, none⟩)
  | 11, v, _ => v = .int .i64 t.lo
  | 12, v, _ => v = .int .i64 m.lo
  | 13, v, _ => v = .slice (some ⟨b, 0, none⟩) n oc
  | 14, v, _ => v = .int .i64 k
  | 15, v, _ => v = .pointer (some ⟨b, k * 2, none⟩)
  | 16, v, _ => v = .pointer (some ⟨b, k * 2 + 1, none⟩)
  | 17, v, _ => v = .int .i64 x.hi
  | 18, v, _ => v = .slice (some ⟨b2, o2, none⟩) n oc2
  | 19, v, _ => v = .int .i64 k
  | 20, v, _ => v = .pointer (some ⟨b2, e2, none⟩)
  | 21, v, _ => v = .pointer (some ⟨b2, e2 + 1, none⟩)
  | 22, v, _ => v = .int .i64 t.hi
  | 23, v, _ => v = .int .i64 m.hi
  | 24, v, _ => v = .agg #[.int .i64 m.lo, .int .i64 m.hi]
  | 25, v, _ => v = .pointer (some ⟨b, k * 2, none⟩)
  | _, _, _ => True
theorem tmF_stable (b oc b2 o2 e2 oc2 n k : Nat) (x t m : Sp) : ∀ i v w w', Below w.heap.size w w' → tmF b oc b2 o2 e2 oc2 n k x t m i v w → tmF b oc b2 o2 e2 oc2 n k x t m i v w' := by
  intro i v w w' _ h
  unfold tmF at *
  split at h
  all_goals exact h

set_option maxRecDepth 100000 in
set_option maxHeartbeats 4000000 in
theorem rTimes_any (set : Int) (A L : Option Addr) (cap lcap : Nat) (fs : List Fr) (ls : List Ln) (w : World) (hA : Arr w w.heap.size A (frosts fs)) (hL : Arr w w.heap.size L (lines ls)) :
    Calls Try.prog 28 #[.agg #[.int .i64 set, .slice A fs.length cap], .slice L ls.length lcap] w fun e w' =>
      ∃ O oc, e = .returned (.tuple #[.slice O (timesR ⟨set, fs⟩ ls).1.length oc, .int .i64 (timesR ⟨set, fs⟩ ls).2]) ∧ Arr w' w'.heap.size O (spans (timesR ⟨set, fs⟩ ls).1) ∧ Below w.heap.size w w' := by
  have HR : Hid (timesR ⟨set, fs⟩ ls = if askE ⟨set, fs⟩ (bookB ls) = 0 then (match timesH ⟨set, fs⟩ ls with | none => ([], 12) | some l => (l, 0)) else ([], askE ⟨set, fs⟩ (bookB ls))) := hid rfl
  go_enter Try.func28, Try.ntmps28
  go_wp2
  go_region_held3 (fun w' => (w'.cell? ⟨w.heap.size, 0, none⟩ = some (.int .i64 set) ∧ w'.cell? ⟨w.heap.size, 1, none⟩ = some (.slice A fs.length cap)) ∧ Below w.heap.size w w') (((refine ⟨?_, ?_⟩; (focus (first | (simp [go_sem, wr_set, wr_drew, wr_drewN, wr_alloc, wr_new]; done) | (simp [go_sem, wr_set, wr_drew, wr_drewN, wr_alloc, wr_new, *]; done) | (simp (disch := go_size) [go_sem, wr_set, wr_drew, wr_drewN, wr_alloc, wr_new, *]; done))); (repeat' (first | (with_reducible exact Below.refl _ _) | (with_reducible assumption) | (with_reducible refine Below.drew ?_) | (with_reducible refine below_drewN ?_ _) | (with_reducible refine Below.setCell ?_ ?_ _) | (with_reducible refine Below.alloc ?_ ?_ _) | go_size | (exact Below.size (by assumption)) | (refine Below.trans ?_ (Below.mono (by assumption) ?_)))))))
    (first
      | (go_at_call 72; refine (isBook_any L lcap ls _ ?_).mono ?_; (focus (refine (hL.below ?_).more ?_; (repeat' (first | (with_reducible exact Below.refl _ _) | (with_reducible assumption) | (with_reducible refine Below.drew ?_) | (with_reducible refine below_drewN ?_ _) | (with_reducible refine Below.setCell ?_ ?_ _) | (with_reducible refine Below.alloc ?_ ?_ _) | go_size | (exact Below.size (by assumption)) | (refine Below.trans ?_ (Below.mono (by assumption) ?_)))))); rintro e w1 ⟨rfl, hb1⟩; (first | replace hb1 := Below.un1 hb1 | replace hb1 := Below.un2 hb1 | skip); obtain ⟨hc1, hf1, hl1, hm1, hw1⟩ := bcell hb1; have hz1 := hb1.size; (try simp only [World.size_alloc, World.size_setCell] at hz1); have n1 : w.heap.size < w1.heap.size := (by omega))
      | (go_at_call 58; refine (asked_any set A cap fs _ _ ?_).mono ?_; (focus (refine (hA.below ?_).more ?_; (repeat' (first | (with_reducible exact Below.refl _ _) | (with_reducible assumption) | (with_reducible refine Below.drew ?_) | (with_reducible refine below_drewN ?_ _) | (with_reducible refine Below.setCell ?_ ?_ _) | (with_reducible refine Below.alloc ?_ ?_ _) | go_size | (exact Below.size (by assumption)) | (refine Below.trans ?_ (Below.mono (by assumption) ?_)))))); rintro e w2 ⟨rfl, hb2⟩; (first | replace hb2 := Below.un1 hb2 | replace hb2 := Below.un2 hb2 | skip); obtain ⟨hc2, hf2, hl2, hm2, hw2⟩ := bcell hb2; have hz2 := hb2.size; (try simp only [World.size_alloc, World.size_setCell] at hz2)))
  rename_i hHeld
  obtain ⟨⟨s0, s1⟩, hB⟩ := hHeld
  clear hc2 hf2 hl2 hm2 hw2
  by_cases he : askE ⟨set, fs⟩ (bookB ls) = 0
  · obtain ⟨h1, h2⟩ := ask_two he
    obtain ⟨hO, hs1, hs2⟩ := okFs_of h1
    obtain ⟨h6, hv⟩ := book_two h2
    have H1 : Hid (timesR ⟨set, fs⟩ ls = match timesH ⟨set, fs⟩ ls with | none => ([], 12) | some l => (l, 0)) := hid (by rw [HR.out, if_pos he])
    have HH : Hid (timesH ⟨set, fs⟩ ls = ((truths fs).map (courseT ⟨set, fs⟩ ls)).foldl addL none) := hid rfl
    have hTr : Hid (∀ tr ∈ truths fs, OkTr tr) := hid fun tr h => okTr_mem hO h
    have hRL := truths_small fs hO 0
    rw [List.drop_zero] at hRL
    clear HR h1 h2
    go_wp2_with (go_at_call 59; refine (truths_any fs.length 0 0 set A cap fs _ (by omega) (by omega) (by rfl) ?_ hO).mono ?_; (focus (refine (hA.below ?_).more ?_; (repeat' (first | (with_reducible exact Below.refl _ _) | (with_reducible assumption) | (with_reducible refine Below.drew ?_) | (with_reducible refine below_drewN ?_ _) | (with_reducible refine Below.setCell ?_ ?_ _) | (with_reducible refine Below.alloc ?_ ?_ _) | go_size | (exact Below.size (by assumption)) | (refine Below.trans ?_ (Below.mono (by assumption) ?_)))))); rintro e w4 ⟨A4, cap4, rfl, hcap4, hA4, hb4⟩; obtain ⟨hc4, hf4, hl4, hm4, hw4⟩ := bcell hb4)
    rw [List.drop_zero] at hA4
    have n2 : w.heap.size < w2.heap.size := by omega
    have q0 : w4.cell? ⟨w.heap.size, 0, none⟩ = some (.int .i64 set) := (hc4 _ _ n2).trans s0
    have q1 : w4.cell? ⟨w.heap.size, 1, none⟩ = some (.slice A fs.length cap) := (hc4 _ _ n2).trans s1
    have hz4 := hb4.size
    have hB4 : Below w.heap.size w w4 := hB.trans (hb4.mono hB.size)
    have n4 : w.heap.size < w4.heap.size := by omega
    have hL4 := (hL.below hB4).more (show w.heap.size ≤ w4.heap.size by omega)
    clear hc4 hf4 hl4 hm4 hw4 hb4 s0 s1 hB hb2 hz2 n2
    generalize truths fs = R at *
    have hl6 : (ls.length : Int) ≤ 6 := by omega
    go_loopw [7, 8, 10] (fun ov fv iv wr => ∃ (k : Nat) (acc : Option (List Sp)), k ≤ R.length ∧ iv = .int .i64 k ∧ fv = .bool acc.isSome ∧ TOwn wr w4.heap.size ls.length acc ov ∧
        Hid ((R.map (courseT ⟨set, fs⟩ ls)).foldl addL none = ((R.drop k).map (courseT ⟨set, fs⟩ ls)).foldl addL acc) ∧ Below w4.heap.size w4 wr) (fun _ _ iv _ => R.length - (intOf iv).toNat)
    case atStart => exact ⟨0, none, Nat.zero_le _, rfl, rfl, rfl, hid (by rw [List.drop_zero]), Below.refl _ _⟩
    case round =>
      obtain ⟨k, acc, hk, rfl, rfl, hT, HK, hBr⟩ := hrel
      obtain ⟨wo, rfl⟩ : ∃ wo : World, wo = wr := ⟨_, rfl⟩
      have hzr := hBr.size
      by_cases hlt : k < R.length
      · obtain ⟨b', o', A'', c'', rfl, hb', hck, hAk⟩ := (hA4.below hBr).at_ hlt
        have hTk := hTr.out _ (List.getElem_mem hlt)
        have hk1 : k + 1 ≤ R.length := hlt
        have HM := hid (map_drop R (courseT ⟨set, fs⟩ ls) k hlt)
        have e0 := (hBr.cell (p := ⟨w.heap.size, 0, none⟩) n4).trans q0
        have e1 := (hBr.cell (p := ⟨w.heap.size, 1, none⟩) n4).trans q1
        have hLr := (hL4.below hBr).more hzr
        have hAr := hAk.more hzr
        have hbr : b' < wo.heap.size := by omega
        have hwr : w.heap.size < wo.heap.size := by omega
        generalize R[k] = tr at *
        obtain ⟨r, hr⟩ : ∃ r, courseT ⟨set, fs⟩ ls tr = r := ⟨_, rfl⟩
        have HRr := hid hr
        cases r with
        | none =>
          clear hr q0 q1 hAk
          go_wp2_with fail
          go_cut [11, 12] (fun p q wx => p = .slice none 0 0 ∧ q = .bool false ∧ Below wo.heap.size wo wx)
          case first =>
            go_region_held3 (fun w' => (w'.cell? ⟨w.heap.size, 0, none⟩ = some (.int .i64 set) ∧ w'.cell? ⟨w.heap.size, 1, none⟩ = some (.slice A fs.length cap) ∧ w'.cell? ⟨b', o' + k, none⟩ = some (.slice A'' tr.length c'')) ∧ Below wo.heap.size wo w') (((refine ⟨?_, ?_⟩; (focus (first | (simp [go_sem, wr_set, wr_drew, wr_drewN, wr_alloc, wr_new]; done) | (simp [go_sem, wr_set, wr_drew, wr_drewN, wr_alloc, wr_new, *]; done) | (simp (disch := go_size) [go_sem, wr_set, wr_drew, wr_drewN, wr_alloc, wr_new, *]; done))); (repeat' (first | (with_reducible exact Below.refl _ _) | (with_reducible assumption) | (with_reducible refine Below.drew ?_) | (with_reducible refine below_drewN ?_ _) | (with_reducible refine Below.setCell ?_ ?_ _) | (with_reducible refine Below.alloc ?_ ?_ _) | go_size | (exact Below.size (by assumption)) | (refine Below.trans ?_ (Below.mono (by assumption) ?_)))))))
              (first
                | (go_at_call 76; refine (course_no HRr.out ?_ ?_ hTk hv h6 ⟨hs1, hs2⟩).mono ?_; (focus (refine (hAr.below ?_).more ?_; (repeat' (first | (with_reducible exact Below.refl _ _) | (with_reducible assumption) | (with_reducible refine Below.drew ?_) | (with_reducible refine below_drewN ?_ _) | (with_reducible refine Below.setCell ?_ ?_ _) | (with_reducible refine Below.alloc ?_ ?_ _) | go_size | (exact Below.size (by assumption)) | (refine Below.trans ?_ (Below.mono (by assumption) ?_)))))); (focus (refine (hLr.below ?_).more ?_; (repeat' (first | (with_reducible exact Below.refl _ _) | (with_reducible assumption) | (with_reducible refine Below.drew ?_) | (with_reducible refine below_drewN ?_ _) | (with_reducible refine Below.setCell ?_ ?_ _) | (with_reducible refine Below.alloc ?_ ?_ _) | go_size | (exact Below.size (by assumption)) | (refine Below.trans ?_ (Below.mono (by assumption) ?_)))))); rintro e w5 ⟨rfl, hb5⟩; (first | replace hb5 := Below.un1 hb5 | replace hb5 := Below.un2 hb5 | skip); obtain ⟨hc5, hf5, hl5, hm5, hw5⟩ := bcell hb5; have hz5 := hb5.size; (try simp only [World.size_alloc, World.size_setCell] at hz5)))
            all_goals
              rename_i hHeld
              go_wp2_with fail
              go_meet
              exact ⟨rfl, rfl, hHeld.2⟩
          case rest =>
            obtain ⟨rfl, rfl, hbP⟩ := hcut
            have hT' := hT.below hbP
            have hB' := hBr.trans (hbP.mono hzr)
            clear hT hBr e0 e1 hck
            go_wp2_with fail
            go_loopw [13] (fun kv wx => kv = .int .i64 0 ∧ wx = wc) (fun _ _ => 0)
            case atStart => exact ⟨rfl, rfl⟩
            case round =>
              obtain ⟨rfl, rfl⟩ := hrel
              go_wp2
              refine ⟨⟨k + 1, acc, hk1, by go_num, rfl, hT', hid (by rw [HK.out, HM.out, HRr.out]; rfl), hB'⟩, by simp [intOf]; omega⟩
        | some s =>
          obtain ⟨hsl, _⟩ := course_some hr
          have HSL := hid hsl
          clear hr q0 q1 hAk hsl
          cases acc
          case none =>
            have hT0 : _ = Value.slice none 0 0 := hT
            subst hT0
            go_wp2_with fail
            go_cut [11, 12] (fun p q wx => ∃ OA oc, p = .slice OA ls.length oc ∧ q = .bool true ∧ wx.ownsRow w4.heap.size 27 2 (.slice OA ls.length oc) ls.length (spans s) ∧ Below wo.heap.size wo wx)
            case first =>
              go_region_held3 (fun w' => (w'.cell? ⟨w.heap.size, 0, none⟩ = some (.int .i64 set) ∧ w'.cell? ⟨w.heap.size, 1, none⟩ = some (.slice A fs.length cap) ∧ w'.cell? ⟨b', o' + k, none⟩ = some (.slice A'' tr.length c'')) ∧ Below wo.heap.size wo w') (((refine ⟨?_, ?_⟩; (focus (first | (simp [go_sem, wr_set, wr_drew, wr_drewN, wr_alloc, wr_new]; done) | (simp [go_sem, wr_set, wr_drew, wr_drewN, wr_alloc, wr_new, *]; done) | (simp (disch := go_size) [go_sem, wr_set, wr_drew, wr_drewN, wr_alloc, wr_new, *]; done))); (repeat' (first | (with_reducible exact Below.refl _ _) | (with_reducible assumption) | (with_reducible refine Below.drew ?_) | (with_reducible refine below_drewN ?_ _) | (with_reducible refine Below.setCell ?_ ?_ _) | (with_reducible refine Below.alloc ?_ ?_ _) | go_size | (exact Below.size (by assumption)) | (refine Below.trans ?_ (Below.mono (by assumption) ?_)))))))
                (first
                  | (go_at_call 76; refine (course_yes HRr.out ?_ ?_ hTk hv h6 ⟨hs1, hs2⟩).mono ?_; (focus (refine (hAr.below ?_).more ?_; (repeat' (first | (with_reducible exact Below.refl _ _) | (with_reducible assumption) | (with_reducible refine Below.drew ?_) | (with_reducible refine below_drewN ?_ _) | (with_reducible refine Below.setCell ?_ ?_ _) | (with_reducible refine Below.alloc ?_ ?_ _) | go_size | (exact Below.size (by assumption)) | (refine Below.trans ?_ (Below.mono (by assumption) ?_)))))); (focus (refine (hLr.below ?_).more ?_; (repeat' (first | (with_reducible exact Below.refl _ _) | (with_reducible assumption) | (with_reducible refine Below.drew ?_) | (with_reducible refine below_drewN ?_ _) | (with_reducible refine Below.setCell ?_ ?_ _) | (with_reducible refine Below.alloc ?_ ?_ _) | go_size | (exact Below.size (by assumption)) | (refine Below.trans ?_ (Below.mono (by assumption) ?_)))))); rw [HSL.out]; rintro e w5 ⟨O5, oc5, rfl, hoc5, hown5, hb5⟩; (first | replace hb5 := Below.un1 hb5 | replace hb5 := Below.un2 hb5 | skip); obtain ⟨hc5, hf5, hl5, hm5, hw5⟩ := bcell hb5))
              all_goals
                rename_i hHeld
                go_wp2_with fail
                go_meet
                exact ⟨O5, oc5, rfl, rfl, own_mono hown5 hzr, hHeld.2⟩
            case rest =>
              obtain ⟨OA, oc, rfl, rfl, hown, hbP⟩ := hcut
              have hl5 : Arr wc wc.heap.size OA (spans s) := by
                obtain ⟨O', oc', e', _, _, h⟩ := own_form hown
                simp only [Value.slice.injEq] at e'
                obtain ⟨rfl, _, rfl⟩ := e'
                exact h
              obtain ⟨a, ha⟩ : ∃ a, a = s := ⟨_, rfl⟩
              have HAcc : Hid (addL none (some s) = some (List.zipWith comb a s)) := hid (by rw [ha, zip_self]; rfl)
              have HAl : Hid ((OA = OA ∧ a = s) ∨ ∀ g g' o', OA = some ⟨g, 0, none⟩ → OA = some ⟨g', o', none⟩ → g ≠ g') := hid (.inl ⟨rfl, ha⟩)
              have hal : a.length = ls.length := by rw [ha]; exact HSL.out
              rw [← ha] at hown
              have hB' := hBr.trans (hbP.mono hzr)
              have Hlen : Hid (a.length = ls.length ∧ a = s) := hid ⟨hal, ha⟩
              clear hBr e0 e1 hck hbP hT hal ha
              go_wp2_with fail
              have hal := Hlen.out.1
              have HOW0 := hid hown
              clear hown
              go_loopw [13] (fun kv wx => ∃ (j : Nat) (X : List Sp), j ≤ ls.length ∧ kv = .int .i64 j ∧ X.length = ls.length ∧
                  wx.ownsRow w4.heap.size 27 2 (.slice OA ls.length oc) ls.length (spans X) ∧ Arr wx wx.heap.size OA (spans s) ∧ Hid (X = List.zipWith comb (a.take j) (s.take j) ++ a.drop j) ∧
                  Below w4.heap.size w4 wx) (fun kv _ => ls.length - (intOf kv).toNat)
              case atStart => exact ⟨0, a, Nat.zero_le _, rfl, hal, HOW0.out, hl5, hid (by simp), hB'⟩
              case round =>
                clear hl5 hB' HOW0
                obtain ⟨j, X, hj, rfl, hX, hownX, hlX, HXj, hBX⟩ := hrel
                by_cases hjt : j < ls.length
                · have hjI : (j : Int) < ls.length := by omega
                  have hjX : j < X.length := by omega
                  have hjs : j < s.length := by have := HSL.out; omega
                  have hja : j < a.length := by omega
                  obtain ⟨O', oc', e', _, hocm, hOA⟩ := own_form hownX
                  simp only [Value.slice.injEq] at e'
                  obtain ⟨rfl, _, rfl⟩ := e'
                  obtain ⟨b, o, rfl, hbz, v0, v1⟩ := hOA.sp hjX
                  have ho0 : o = 0 := by
                    rcases hownX.2 with ⟨h, _⟩ | ⟨g, cap, cur, h, _⟩
                    · simp at h
                    · simp only [Value.slice.injEq, Option.some.injEq, Addr.mk.injEq] at h
                      exact h.1.2.1
                  subst ho0
                  obtain ⟨b2, o2, e2, hb2z, u0, u1⟩ := hlX.sp hjs
                  simp only [Option.some.injEq, Addr.mk.injEq, and_true] at e2
                  obtain ⟨rfl, rfl⟩ := e2
                  rw [Nat.zero_add] at u0 u1
                  rw [Nat.zero_add] at v0 v1
                  have HZ := hid (zip_step a s j hja hjs)
                  have HXx : Hid (X[j] = a[j]) := hid (by
                    have h := HXj.out
                    subst h
                    exact zip_at a s j hja hjs hjX)
                  obtain ⟨x, hx⟩ : ∃ x, X[j] = x := ⟨_, rfl⟩
                  obtain ⟨t, ht⟩ : ∃ t, s[j] = t := ⟨_, rfl⟩
                  rw [hx] at v0 v1
                  rw [ht] at u0 u1
                  have Hx := hid hx
                  have Ht := hid ht
                  have hxt : x = t := by
                    have e1 : X = s := by rw [HXj.out, Hlen.out.2, zip_self, List.take_append_drop]
                    rw [← Hx.out, ← Ht.out]; simp only [e1]
                  subst hxt
                  have hbw : w4.heap.size ≤ b := by
                    rcases hownX.2 with ⟨h, _⟩ | ⟨g, cap, cur, h, hb, _⟩
                    · simp at h
                    · simp only [Value.slice.injEq, Option.some.injEq, Addr.mk.injEq] at h
                      rw [h.1.1]; exact hb
                  have HO := hid hownX
                  have HLX := hid hlX
                  clear hownX hlX hx ht hOA
                  go_wp2_with fail
                  refine wp_region_any (by kernel_rfl) ?_
                  have T0 : Below wr.heap.size wr wr.drew := (Below.refl _ _).drew
                  refine lin_any [26] 83 (tmF b oc b 0 (j * 2) oc ls.length j x x ⟨x.lo, x.hi⟩) (fun w' => Below wr.heap.size wr w') (fun w1 w2 => Below w1.heap.size w1 w2)
                    [0, 1, 2, 3, 4, 5, 6, 7, 8, 9, 10, 11, 12, 13, 14, 15, 16, 17, 18, 19, 20, 21, 22, 23, 24, 25, 26, 27, 28, 29, 30, 31, 32, 33, 34, 35, 36, 37, 38, 39, 40, 41, 42, 43, 44, 45, 46, 47, 48, 49, 50, 51, 52, 53, 80, 81, 82] #[true, true, true, true, true, true, true, true, true, true, true, true, true, true, true, true, true, true, true, true, true, true, true, true, true, true, false] [0, 1, 2, 3, 4, 5, 6, 7, 8, 9, 10, 11, 12, 13, 14, 15, 16, 17, 18, 19, 20, 21, 22, 23, 24, 25] (by kernel_rfl) (by kernel_rfl) (by kernel_rfl) (by kernel_rfl) (by kernel_rfl) (by kernel_rfl) (by kernel_rfl) (by kernel_rfl) (by kernel_rfl) (by kernel_rfl)
                    (tmF_stable _ _ _ _ _ _ _ _ _ _ _) (by rfl) T0 ?_ ?_
                  · intro a' w' hd hsz hkn hT
                    obtain ⟨xs, D⟩ := a'; obtain ⟨l0⟩ := xs; dsimp only at hd hsz hkn; subst hd; have hs0 := hsz; clear hsz; simp only [List.size_toArray] at hs0; obtain ⟨x0, x1, x2, x3, x4, x5, x6, x7, x8, x9, l1, rfl, hs1⟩ := len_ten hs0; clear hs0; obtain ⟨x10, x11, x12, x13, x14, x15, x16, x17, x18, x19, l2, rfl, hs2⟩ := len_ten hs1; clear hs1; obtain ⟨x20, x21, x22, x23, x24, x25, x26, x27, x28, x29, l3, rfl, hs3⟩ := len_ten hs2; clear hs2; obtain ⟨x30, x31, x32, x33, x34, x35, x36, x37, x38, x39, l4, rfl, hs4⟩ := len_ten hs3; clear hs3; obtain ⟨x40, x41, x42, x43, x44, x45, x46, x47, x48, x49, l5, rfl, hs5⟩ := len_ten hs4; clear hs4; obtain ⟨x50, x51, x52, x53, x54, x55, x56, x57, x58, x59, l6, rfl, hs6⟩ := len_ten hs5; clear hs5; obtain ⟨x60, x61, x62, x63, x64, x65, x66, x67, x68, x69, l7, rfl, hs7⟩ := len_ten hs6; clear hs6; obtain ⟨x70, x71, x72, x73, x74, x75, x76, x77, x78, x79, l8, rfl, hs8⟩ := len_ten hs7; clear hs7; obtain ⟨x80, l9, rfl, hs9⟩ := len_succ hs8; clear hs8; obtain ⟨x81, l10, rfl, hs10⟩ := len_succ hs9; clear hs9; obtain ⟨x82, l11, rfl, hs11⟩ := len_succ hs10; clear hs10; obtain rfl := List.length_eq_zero_iff.1 hs11; clear hs11; have kn := known_list hkn; clear hkn; simp only [List.map_cons, List.map_nil, List.getElem?_toArray, List.getElem?_cons_succ, List.getElem?_cons_zero, Array.getD_eq_getD_getElem?, Option.getD_some, List.cons.injEq, Option.some.injEq, and_true] at kn; obtain ⟨rfl, rfl, rfl, rfl, rfl, rfl, rfl, rfl, rfl, rfl, rfl, rfl, rfl, rfl, rfl, rfl, rfl, rfl, rfl, rfl, rfl, rfl, rfl, rfl, rfl, rfl, rfl, rfl, rfl, rfl, rfl, rfl, rfl, rfl, rfl, rfl, rfl, rfl, rfl, rfl, rfl, rfl, rfl, rfl, rfl, rfl, rfl, rfl, rfl, rfl, rfl, rfl, rfl, rfl, rfl, rfl, rfl⟩ := kn
                    have f0 : w'.cell? ⟨b, j * 2, none⟩ = some (.int .i64 x.lo) := (hT.cell (by simp only; omega)).trans v0
                    have f1 : w'.cell? ⟨b, j * 2 + 1, none⟩ = some (.int .i64 x.hi) := (hT.cell (by simp only; omega)).trans v1
                    have f2 : w'.cell? ⟨b, j * 2, none⟩ = some (.int .i64 x.lo) := (hT.cell (by simp only; omega)).trans u0
                    have f3 : w'.cell? ⟨b, j * 2 + 1, none⟩ = some (.int .i64 x.hi) := (hT.cell (by simp only; omega)).trans u1
                    refine LinOps.cons (by simp only [List.getElem?_toArray, List.getElem?_cons_succ, List.getElem?_cons_zero]; rfl) (fun hk K hK => ?_) ?_
                    · go_simp
                      exact hK.out _ _ _ rfl rfl hT (Below.refl _ _)
                    refine LinOps.cons (by simp only [List.getElem?_toArray, List.getElem?_cons_succ, List.getElem?_cons_zero]; rfl) (fun hk K hK => ?_) ?_
                    · go_simp
                      exact hK.out _ _ _ rfl rfl hT (Below.refl _ _)
                    refine LinOps.cons (by simp only [List.getElem?_toArray, List.getElem?_cons_succ, List.getElem?_cons_zero]; rfl) (fun hk K hK => ?_) ?_
                    · go_simp
                      exact hK.out _ _ _ rfl rfl hT (Below.refl _ _)
                    refine LinOps.cons (by simp only [List.getElem?_toArray, List.getElem?_cons_succ, List.getElem?_cons_zero]; rfl) (fun hk K hK => ?_) ?_
                    · go_simp
                      exact hK.out _ _ _ rfl rfl hT (Below.refl _ _)
                    refine LinOps.cons (by simp only [List.getElem?_toArray, List.getElem?_cons_succ, List.getElem?_cons_zero]; rfl) (fun hk K hK => ?_) ?_
                    · (obtain ⟨v, hv, hf⟩ := Known.get (hk 2 (by kernel_rfl) (by simp)) (d := 56) (by kernel_rfl); simp only [List.getElem?_toArray, List.getElem?_cons_succ, List.getElem?_cons_zero, Option.some.injEq] at hv; subst hv; simp only [tmF] at hf; (try subst hf)); (obtain ⟨v, hv, hf⟩ := Known.get (hk 3 (by kernel_rfl) (by simp)) (d := 57) (by kernel_rfl); simp only [List.getElem?_toArray, List.getElem?_cons_succ, List.getElem?_cons_zero, Option.some.injEq] at hv; subst hv; simp only [tmF] at hf; (try subst hf))
                      go_simp
                      exact hK.out _ _ _ rfl rfl hT (Below.refl _ _)
                    refine LinOps.cons (by simp only [List.getElem?_toArray, List.getElem?_cons_succ, List.getElem?_cons_zero]; rfl) (fun hk K hK => ?_) ?_
                    · (obtain ⟨v, hv, hf⟩ := Known.get (hk 4 (by kernel_rfl) (by simp)) (d := 58) (by kernel_rfl); simp only [List.getElem?_toArray, List.getElem?_cons_succ, List.getElem?_cons_zero, Option.some.injEq] at hv; subst hv; simp only [tmF] at hf; (try subst hf))
                      go_simp
                      exact hK.out _ _ _ rfl rfl hT (Below.refl _ _)
                    refine LinOps.cons (by simp only [List.getElem?_toArray, List.getElem?_cons_succ, List.getElem?_cons_zero]; rfl) (fun hk K hK => ?_) ?_
                    · (obtain ⟨v, hv, hf⟩ := Known.get (hk 5 (by kernel_rfl) (by simp)) (d := 59) (by kernel_rfl); simp only [List.getElem?_toArray, List.getElem?_cons_succ, List.getElem?_cons_zero, Option.some.injEq] at hv; subst hv; simp only [tmF] at hf; (try subst hf))
                      go_simp
                      exact hK.out _ _ _ rfl rfl hT (Below.refl _ _)
                    refine LinOps.cons (by simp only [List.getElem?_toArray, List.getElem?_cons_succ, List.getElem?_cons_zero]; rfl) (fun hk K hK => ?_) ?_
                    · go_simp
                      exact hK.out _ _ _ rfl rfl hT (Below.refl _ _)
                    refine LinOps.cons (by simp only [List.getElem?_toArray, List.getElem?_cons_succ, List.getElem?_cons_zero]; rfl) (fun hk K hK => ?_) ?_
                    · go_simp
                      exact hK.out _ _ _ rfl rfl hT (Below.refl _ _)
                    refine LinOps.cons (by simp only [List.getElem?_toArray, List.getElem?_cons_succ, List.getElem?_cons_zero]; rfl) (fun hk K hK => ?_) ?_
                    · (obtain ⟨v, hv, hf⟩ := Known.get (hk 7 (by kernel_rfl) (by simp)) (d := 61) (by kernel_rfl); simp only [List.getElem?_toArray, List.getElem?_cons_succ, List.getElem?_cons_zero, Option.some.injEq] at hv; subst hv; simp only [tmF] at hf; (try subst hf)); (obtain ⟨v, hv, hf⟩ := Known.get (hk 8 (by kernel_rfl) (by simp)) (d := 62) (by kernel_rfl); simp only [List.getElem?_toArray, List.getElem?_cons_succ, List.getElem?_cons_zero, Option.some.injEq] at hv; subst hv; simp only [tmF] at hf; (try subst hf))
                      go_simp
                      exact hK.out _ _ _ rfl rfl hT (Below.refl _ _)
                    refine LinOps.cons (by simp only [List.getElem?_toArray, List.getElem?_cons_succ, List.getElem?_cons_zero]; rfl) (fun hk K hK => ?_) ?_
                    · (obtain ⟨v, hv, hf⟩ := Known.get (hk 9 (by kernel_rfl) (by simp)) (d := 63) (by kernel_rfl); simp only [List.getElem?_toArray, List.getElem?_cons_succ, List.getElem?_cons_zero, Option.some.injEq] at hv; subst hv; simp only [tmF] at hf; (try subst hf))
                      go_simp
                      exact hK.out _ _ _ rfl rfl hT (Below.refl _ _)
                    refine LinOps.cons (by simp only [List.getElem?_toArray, List.getElem?_cons_succ, List.getElem?_cons_zero]; rfl) (fun hk K hK => ?_) ?_
                    · (obtain ⟨v, hv, hf⟩ := Known.get (hk 10 (by kernel_rfl) (by simp)) (d := 64) (by kernel_rfl); simp only [List.getElem?_toArray, List.getElem?_cons_succ, List.getElem?_cons_zero, Option.some.injEq] at hv; subst hv; simp only [tmF] at hf; (try subst hf))
                      go_simp
                      exact hK.out _ _ _ rfl rfl hT (Below.refl _ _)
                    refine LinOps.cons (by simp only [List.getElem?_toArray, List.getElem?_cons_succ, List.getElem?_cons_zero]; rfl) (fun hk K hK => ?_) ?_
                    · (obtain ⟨v, hv, hf⟩ := Known.get (hk 6 (by kernel_rfl) (by simp)) (d := 60) (by kernel_rfl); simp only [List.getElem?_toArray, List.getElem?_cons_succ, List.getElem?_cons_zero, Option.some.injEq] at hv; subst hv; simp only [tmF] at hf; (try subst hf)); (obtain ⟨v, hv, hf⟩ := Known.get (hk 11 (by kernel_rfl) (by simp)) (d := 65) (by kernel_rfl); simp only [List.getElem?_toArray, List.getElem?_cons_succ, List.getElem?_cons_zero, Option.some.injEq] at hv; subst hv; simp only [tmF] at hf; (try subst hf))
                      go_simp
                      exact hK.out _ _ _ rfl (by simp only [tmF]) hT (Below.refl _ _)
                    refine LinOps.cons (by simp only [List.getElem?_toArray, List.getElem?_cons_succ, List.getElem?_cons_zero]; rfl) (fun hk K hK => ?_) ?_
                    · go_simp
                      exact hK.out _ _ _ rfl rfl hT (Below.refl _ _)
                    refine LinOps.cons (by simp only [List.getElem?_toArray, List.getElem?_cons_succ, List.getElem?_cons_zero]; rfl) (fun hk K hK => ?_) ?_
                    · go_simp
                      exact hK.out _ _ _ rfl rfl hT (Below.refl _ _)
                    refine LinOps.cons (by simp only [List.getElem?_toArray, List.getElem?_cons_succ, List.getElem?_cons_zero]; rfl) (fun hk K hK => ?_) ?_
                    · (obtain ⟨v, hv, hf⟩ := Known.get (hk 13 (by kernel_rfl) (by simp)) (d := 67) (by kernel_rfl); simp only [List.getElem?_toArray, List.getElem?_cons_succ, List.getElem?_cons_zero, Option.some.injEq] at hv; subst hv; simp only [tmF] at hf; (try subst hf)); (obtain ⟨v, hv, hf⟩ := Known.get (hk 14 (by kernel_rfl) (by simp)) (d := 68) (by kernel_rfl); simp only [List.getElem?_toArray, List.getElem?_cons_succ, List.getElem?_cons_zero, Option.some.injEq] at hv; subst hv; simp only [tmF] at hf; (try subst hf))
                      go_simp
                      exact hK.out _ _ _ rfl rfl hT (Below.refl _ _)
                    refine LinOps.cons (by simp only [List.getElem?_toArray, List.getElem?_cons_succ, List.getElem?_cons_zero]; rfl) (fun hk K hK => ?_) ?_
                    · (obtain ⟨v, hv, hf⟩ := Known.get (hk 15 (by kernel_rfl) (by simp)) (d := 69) (by kernel_rfl); simp only [List.getElem?_toArray, List.getElem?_cons_succ, List.getElem?_cons_zero, Option.some.injEq] at hv; subst hv; simp only [tmF] at hf; (try subst hf))
                      go_simp
                      exact hK.out _ _ _ rfl rfl hT (Below.refl _ _)
                    refine LinOps.cons (by simp only [List.getElem?_toArray, List.getElem?_cons_succ, List.getElem?_cons_zero]; rfl) (fun hk K hK => ?_) ?_
                    · (obtain ⟨v, hv, hf⟩ := Known.get (hk 16 (by kernel_rfl) (by simp)) (d := 70) (by kernel_rfl); simp only [List.getElem?_toArray, List.getElem?_cons_succ, List.getElem?_cons_zero, Option.some.injEq] at hv; subst hv; simp only [tmF] at hf; (try subst hf))
                      go_simp
                      exact hK.out _ _ _ rfl rfl hT (Below.refl _ _)
                    refine LinOps.cons (by simp only [List.getElem?_toArray, List.getElem?_cons_succ, List.getElem?_cons_zero]; rfl) (fun hk K hK => ?_) ?_
                    · go_simp
                      exact hK.out _ _ _ rfl rfl hT (Below.refl _ _)
                    refine LinOps.cons (by simp only [List.getElem?_toArray, List.getElem?_cons_succ, List.getElem?_cons_zero]; rfl) (fun hk K hK => ?_) ?_
                    · go_simp
                      exact hK.out _ _ _ rfl rfl hT (Below.refl _ _)
                    refine LinOps.cons (by simp only [List.getElem?_toArray, List.getElem?_cons_succ, List.getElem?_cons_zero]; rfl) (fun hk K hK => ?_) ?_
                    · (obtain ⟨v, hv, hf⟩ := Known.get (hk 18 (by kernel_rfl) (by simp)) (d := 72) (by kernel_rfl); simp only [List.getElem?_toArray, List.getElem?_cons_succ, List.getElem?_cons_zero, Option.some.injEq] at hv; subst hv; simp only [tmF] at hf; (try subst hf)); (obtain ⟨v, hv, hf⟩ := Known.get (hk 19 (by kernel_rfl) (by simp)) (d := 73) (by kernel_rfl); simp only [List.getElem?_toArray, List.getElem?_cons_succ, List.getElem?_cons_zero, Option.some.injEq] at hv; subst hv; simp only [tmF] at hf; (try subst hf))
                      go_simp
                      exact hK.out _ _ _ rfl rfl hT (Below.refl _ _)
                    refine LinOps.cons (by simp only [List.getElem?_toArray, List.getElem?_cons_succ, List.getElem?_cons_zero]; rfl) (fun hk K hK => ?_) ?_
                    · (obtain ⟨v, hv, hf⟩ := Known.get (hk 20 (by kernel_rfl) (by simp)) (d := 74) (by kernel_rfl); simp only [List.getElem?_toArray, List.getElem?_cons_succ, List.getElem?_cons_zero, Option.some.injEq] at hv; subst hv; simp only [tmF] at hf; (try subst hf))
                      go_simp
                      exact hK.out _ _ _ rfl rfl hT (Below.refl _ _)
                    refine LinOps.cons (by simp only [List.getElem?_toArray, List.getElem?_cons_succ, List.getElem?_cons_zero]; rfl) (fun hk K hK => ?_) ?_
                    · (obtain ⟨v, hv, hf⟩ := Known.get (hk 21 (by kernel_rfl) (by simp)) (d := 75) (by kernel_rfl); simp only [List.getElem?_toArray, List.getElem?_cons_succ, List.getElem?_cons_zero, Option.some.injEq] at hv; subst hv; simp only [tmF] at hf; (try subst hf))
                      go_simp
                      exact hK.out _ _ _ rfl rfl hT (Below.refl _ _)
                    refine LinOps.cons (by simp only [List.getElem?_toArray, List.getElem?_cons_succ, List.getElem?_cons_zero]; rfl) (fun hk K hK => ?_) ?_
                    · (obtain ⟨v, hv, hf⟩ := Known.get (hk 17 (by kernel_rfl) (by simp)) (d := 71) (by kernel_rfl); simp only [List.getElem?_toArray, List.getElem?_cons_succ, List.getElem?_cons_zero, Option.some.injEq] at hv; subst hv; simp only [tmF] at hf; (try subst hf)); (obtain ⟨v, hv, hf⟩ := Known.get (hk 22 (by kernel_rfl) (by simp)) (d := 76) (by kernel_rfl); simp only [List.getElem?_toArray, List.getElem?_cons_succ, List.getElem?_cons_zero, Option.some.injEq] at hv; subst hv; simp only [tmF] at hf; (try subst hf))
                      go_simp
                      exact hK.out _ _ _ rfl (by simp only [tmF]) hT (Below.refl _ _)
                    refine LinOps.cons (by simp only [List.getElem?_toArray, List.getElem?_cons_succ, List.getElem?_cons_zero]; rfl) (fun hk K hK => ?_) ?_
                    · (obtain ⟨v, hv, hf⟩ := Known.get (hk 12 (by kernel_rfl) (by simp)) (d := 66) (by kernel_rfl); simp only [List.getElem?_toArray, List.getElem?_cons_succ, List.getElem?_cons_zero, Option.some.injEq] at hv; subst hv; simp only [tmF] at hf; (try subst hf)); (obtain ⟨v, hv, hf⟩ := Known.get (hk 23 (by kernel_rfl) (by simp)) (d := 77) (by kernel_rfl); simp only [List.getElem?_toArray, List.getElem?_cons_succ, List.getElem?_cons_zero, Option.some.injEq] at hv; subst hv; simp only [tmF] at hf; (try subst hf))
                      go_simp
                      go_at_call 41; refine (to_any _ _ _).mono ?_
                      rintro e w1 ⟨rfl, h1⟩
                      exact hK.out _ _ _ rfl rfl (hT.trans (h1.mono hT.size)) h1
                    refine LinOps.cons (by simp only [List.getElem?_toArray, List.getElem?_cons_succ, List.getElem?_cons_zero]; rfl) (fun hk K hK => ?_) ?_
                    · (obtain ⟨v, hv, hf⟩ := Known.get (hk 0 (by kernel_rfl) (by simp)) (d := 54) (by kernel_rfl); simp only [List.getElem?_toArray, List.getElem?_cons_succ, List.getElem?_cons_zero, Option.some.injEq] at hv; subst hv; simp only [tmF] at hf; (try subst hf)); (obtain ⟨v, hv, hf⟩ := Known.get (hk 1 (by kernel_rfl) (by simp)) (d := 55) (by kernel_rfl); simp only [List.getElem?_toArray, List.getElem?_cons_succ, List.getElem?_cons_zero, Option.some.injEq] at hv; subst hv; simp only [tmF] at hf; (try subst hf))
                      go_simp
                      exact hK.out _ _ _ rfl rfl hT (Below.refl _ _)
                    exact LinOps.nil
                  · intro a' w' hd hsz hkn hT hall
                    obtain ⟨xs, D⟩ := a'; obtain ⟨l0⟩ := xs; dsimp only at hd hsz hkn; subst hd; have hs0 := hsz; clear hsz; simp only [List.size_toArray] at hs0; obtain ⟨x0, x1, x2, x3, x4, x5, x6, x7, x8, x9, l1, rfl, hs1⟩ := len_ten hs0; clear hs0; obtain ⟨x10, x11, x12, x13, x14, x15, x16, x17, x18, x19, l2, rfl, hs2⟩ := len_ten hs1; clear hs1; obtain ⟨x20, x21, x22, x23, x24, x25, x26, x27, x28, x29, l3, rfl, hs3⟩ := len_ten hs2; clear hs2; obtain ⟨x30, x31, x32, x33, x34, x35, x36, x37, x38, x39, l4, rfl, hs4⟩ := len_ten hs3; clear hs3; obtain ⟨x40, x41, x42, x43, x44, x45, x46, x47, x48, x49, l5, rfl, hs5⟩ := len_ten hs4; clear hs4; obtain ⟨x50, x51, x52, x53, x54, x55, x56, x57, x58, x59, l6, rfl, hs6⟩ := len_ten hs5; clear hs5; obtain ⟨x60, x61, x62, x63, x64, x65, x66, x67, x68, x69, l7, rfl, hs7⟩ := len_ten hs6; clear hs6; obtain ⟨x70, x71, x72, x73, x74, x75, x76, x77, x78, x79, l8, rfl, hs8⟩ := len_ten hs7; clear hs7; obtain ⟨x80, l9, rfl, hs9⟩ := len_succ hs8; clear hs8; obtain ⟨x81, l10, rfl, hs10⟩ := len_succ hs9; clear hs9; obtain ⟨x82, l11, rfl, hs11⟩ := len_succ hs10; clear hs10; obtain rfl := List.length_eq_zero_iff.1 hs11; clear hs11; have kn := known_list hkn; clear hkn; simp only [List.map_cons, List.map_nil, List.getElem?_toArray, List.getElem?_cons_succ, List.getElem?_cons_zero, Array.getD_eq_getD_getElem?, Option.getD_some, List.cons.injEq, Option.some.injEq, and_true] at kn; obtain ⟨rfl, rfl, rfl, rfl, rfl, rfl, rfl, rfl, rfl, rfl, rfl, rfl, rfl, rfl, rfl, rfl, rfl, rfl, rfl, rfl, rfl, rfl, rfl, rfl, rfl, rfl, rfl, rfl, rfl, rfl, rfl, rfl, rfl, rfl, rfl, rfl, rfl, rfl, rfl, rfl, rfl, rfl, rfl, rfl, rfl, rfl, rfl, rfl, rfl, rfl, rfl, rfl, rfl, rfl, rfl, rfl, rfl⟩ := kn
                    (obtain ⟨v, hv, hf⟩ := Known.get (hall 24 (by kernel_rfl) ) (d := 78) (by kernel_rfl); simp only [List.getElem?_toArray, List.getElem?_cons_succ, List.getElem?_cons_zero, Option.some.injEq] at hv; subst hv; simp only [tmF] at hf; (try subst hf))
                    (obtain ⟨v, hv, hf⟩ := Known.get (hall 25 (by kernel_rfl) ) (d := 79) (by kernel_rfl); simp only [List.getElem?_toArray, List.getElem?_cons_succ, List.getElem?_cons_zero, Option.some.injEq] at hv; subst hv; simp only [tmF] at hf; (try subst hf))
                    clear hall
                    have hown' := own_below HO.out hT
                    have hlX' := HLX.out.below hT
                    have wj0 : Wr w' b (j * 2) := Wr.of ((hT.cell (by simp only; omega)).trans v0) (hown'.frozenAt _)
                    have wj1 : Wr w' b (j * 2 + 1) := Wr.of ((hT.cell (by simp only; omega)).trans v1) (hown'.frozenAt _)
                    have h1 := (hown'.stored (j * 2) (.int .i64 (x.lo))).1
                    have h2 := (h1.stored (j * 2 + 1) (.int .i64 (x.hi))).1
                    rw [spans_set2 X j _ _ hjX] at h2
                    have HO2 := hid h2
                    have HLX' := hid hlX'
                    have hzT := hT.size
                    clear hown' h1 h2 hlX'
                    refine wpAny_ready (rs := [26]) (by kernel_rfl) (by simp) ?_; refine AllReady.cons (by simp only [List.getElem?_toArray, List.getElem?_cons_succ, List.getElem?_cons_zero]; rfl) (fun K hK => ?_) AllReady.nil
                    go_simp
                    refine hK _ _ ?_
                    (try simp only [Act.put, List.setIfInBounds_toArray, List.set_cons_zero, List.set_cons_succ])
                    clear hK K
                    refine wpAny_done (by kernel_rfl) ?_ _
                    go_wp2_with fail
                    refine ⟨⟨j + 1, X.set j ⟨x.lo, x.hi⟩, hjt, by go_num, by simp [hX], HO2.out, ?_, hid ?_, ((hBX.trans (hT.mono hBX.size)).setCell (by simp only; omega) _).setCell (by simp only; omega) _⟩, by simp [intOf]; omega⟩
                    · have ha := Hlen.out.2
                      have hs2 : X.set j ⟨x.lo, x.hi⟩ = s := by
                        have e1 : X = s := by rw [HXj.out, ha, zip_self, List.take_append_drop]
                        have e3 : (⟨x.lo, x.hi⟩ : Sp) = X[j] := by rw [Hx.out]
                        rw [e3, List.set_getElem_self, e1]
                      obtain ⟨O', oc', e', _, _, h⟩ := own_form HO2.out
                      simp only [Value.slice.injEq] at e'
                      obtain ⟨rfl, _, rfl⟩ := e'
                      rw [hs2] at h
                      exact h
                    · rw [← HZ.out, ← HXj.out]
                      congr 1
                      rw [← HXx.out, Hx.out, Ht.out]; simp [comb]
                · obtain rfl : j = ls.length := by omega
                  have HXe : Hid (X = List.zipWith comb a s) := hid (by rw [HXj.out, List.take_of_length_le (by omega), List.take_of_length_le (by have := HSL.out; omega), List.drop_of_length_le (by omega), List.append_nil])
                  go_wp2
                  refine ⟨⟨k + 1, some (List.zipWith comb a s), hk1, by go_num, rfl, ⟨by rw [List.length_zipWith, hal, HSL.out]; omega, OA, oc, rfl, ?_⟩, hid (by rw [HK.out, HM.out, HRr.out, List.foldl_cons, HAcc.out]), hBX⟩, by simp [intOf]; omega⟩
                  rw [← HXe.out]
                  exact hownX
          case some a =>
            obtain ⟨hal, OA, oc, rfl, hownA⟩ := hT
            go_wp2_with fail
            go_cut [11, 12] (fun p q wx => ∃ O5 oc5, p = .slice O5 ls.length oc5 ∧ q = .bool true ∧ wx.ownsRow wo.heap.size 27 2 (.slice O5 ls.length oc5) ls.length (spans s) ∧ Below wo.heap.size wo wx)
            case first =>
              have HOW := hid hownA
              clear hownA
              go_region_held3 (fun w' => (w'.cell? ⟨w.heap.size, 0, none⟩ = some (.int .i64 set) ∧ w'.cell? ⟨w.heap.size, 1, none⟩ = some (.slice A fs.length cap) ∧ w'.cell? ⟨b', o' + k, none⟩ = some (.slice A'' tr.length c'')) ∧ Below wo.heap.size wo w') (((refine ⟨?_, ?_⟩; (focus (first | (simp [go_sem, wr_set, wr_drew, wr_drewN, wr_alloc, wr_new]; done) | (simp [go_sem, wr_set, wr_drew, wr_drewN, wr_alloc, wr_new, *]; done) | (simp (disch := go_size) [go_sem, wr_set, wr_drew, wr_drewN, wr_alloc, wr_new, *]; done))); (repeat' (first | (with_reducible exact Below.refl _ _) | (with_reducible assumption) | (with_reducible refine Below.drew ?_) | (with_reducible refine below_drewN ?_ _) | (with_reducible refine Below.setCell ?_ ?_ _) | (with_reducible refine Below.alloc ?_ ?_ _) | go_size | (exact Below.size (by assumption)) | (refine Below.trans ?_ (Below.mono (by assumption) ?_)))))))
                (first
                  | (go_at_call 76; refine (course_yes HRr.out ?_ ?_ hTk hv h6 ⟨hs1, hs2⟩).mono ?_; (focus (refine (hAr.below ?_).more ?_; (repeat' (first | (with_reducible exact Below.refl _ _) | (with_reducible assumption) | (with_reducible refine Below.drew ?_) | (with_reducible refine below_drewN ?_ _) | (with_reducible refine Below.setCell ?_ ?_ _) | (with_reducible refine Below.alloc ?_ ?_ _) | go_size | (exact Below.size (by assumption)) | (refine Below.trans ?_ (Below.mono (by assumption) ?_)))))); (focus (refine (hLr.below ?_).more ?_; (repeat' (first | (with_reducible exact Below.refl _ _) | (with_reducible assumption) | (with_reducible refine Below.drew ?_) | (with_reducible refine below_drewN ?_ _) | (with_reducible refine Below.setCell ?_ ?_ _) | (with_reducible refine Below.alloc ?_ ?_ _) | go_size | (exact Below.size (by assumption)) | (refine Below.trans ?_ (Below.mono (by assumption) ?_)))))); rw [HSL.out]; rintro e w5 ⟨O5, oc5, rfl, hoc5, hown5, hb5⟩; (first | replace hb5 := Below.un1 hb5 | replace hb5 := Below.un2 hb5 | skip); obtain ⟨hc5, hf5, hl5, hm5, hw5⟩ := bcell hb5))
              all_goals
                rename_i hHeld
                go_wp2_with fail
                go_meet
                exact ⟨O5, oc5, rfl, rfl, hown5, hHeld.2⟩
            case rest =>
              obtain ⟨O5, oc5, rfl, rfl, hown5, hbP⟩ := hcut
              have hl5 : Arr wc wc.heap.size O5 (spans s) := by
                obtain ⟨O', oc', e', _, _, h⟩ := own_form hown5
                simp only [Value.slice.injEq] at e'
                obtain ⟨rfl, _, rfl⟩ := e'
                exact h
              have hown := own_below hownA hbP
              have HAcc : Hid (addL (some a) (some s) = some (List.zipWith comb a s)) := hid rfl
              have HAl : Hid ((OA = O5 ∧ a = s) ∨ ∀ g g' o', OA = some ⟨g, 0, none⟩ → O5 = some ⟨g', o', none⟩ → g ≠ g') := hid (.inr fun g g' o' h1 h2 => by
                have k1 := own_lt hownA g (by rw [h1]; rfl)
                have k2 := ownBlock_le hown5 g' (by rw [h2]; rfl)
                omega)
              have hB' := hBr.trans (hbP.mono hzr)
              have Hlen : Hid (a.length = ls.length) := hid hal
              clear hBr e0 e1 hck hbP hownA hown5 hal
              go_wp2_with fail
              have hal := Hlen.out
              have HOW0 := hid hown
              clear hown
              go_loopw [13] (fun kv wx => ∃ (j : Nat) (X : List Sp), j ≤ ls.length ∧ kv = .int .i64 j ∧ X.length = ls.length ∧
                  wx.ownsRow w4.heap.size 27 2 (.slice OA ls.length oc) ls.length (spans X) ∧ Arr wx wx.heap.size O5 (spans s) ∧ Hid (X = List.zipWith comb (a.take j) (s.take j) ++ a.drop j) ∧
                  Below w4.heap.size w4 wx) (fun kv _ => ls.length - (intOf kv).toNat)
              case atStart => exact ⟨0, a, Nat.zero_le _, rfl, hal, HOW0.out, hl5, hid (by simp), hB'⟩
              case round =>
                clear hl5 hB' HOW0
                obtain ⟨j, X, hj, rfl, hX, hownX, hlX, HXj, hBX⟩ := hrel
                by_cases hjt : j < ls.length
                · have hjI : (j : Int) < ls.length := by omega
                  have hjX : j < X.length := by omega
                  have hjs : j < s.length := by have := HSL.out; omega
                  have hja : j < a.length := by omega
                  obtain ⟨O', oc', e', _, hocm, hOA⟩ := own_form hownX
                  simp only [Value.slice.injEq] at e'
                  obtain ⟨rfl, _, rfl⟩ := e'
                  obtain ⟨b, o, rfl, hbz, v0, v1⟩ := hOA.sp hjX
                  have ho0 : o = 0 := by
                    rcases hownX.2 with ⟨h, _⟩ | ⟨g, cap, cur, h, _⟩
                    · simp at h
                    · simp only [Value.slice.injEq, Option.some.injEq, Addr.mk.injEq] at h
                      exact h.1.2.1
                  subst ho0
                  obtain ⟨b2, o2, rfl, hb2z, u0, u1⟩ := hlX.sp hjs
                  rw [Nat.zero_add] at v0 v1
                  have HZ := hid (zip_step a s j hja hjs)
                  have HXx : Hid (X[j] = a[j]) := hid (by
                    have h := HXj.out
                    subst h
                    exact zip_at a s j hja hjs hjX)
                  obtain ⟨x, hx⟩ : ∃ x, X[j] = x := ⟨_, rfl⟩
                  obtain ⟨t, ht⟩ : ∃ t, s[j] = t := ⟨_, rfl⟩
                  rw [hx] at v0 v1
                  rw [ht] at u0 u1
                  have Hx := hid hx
                  have Ht := hid ht
                  have hbw : w4.heap.size ≤ b := by
                    rcases hownX.2 with ⟨h, _⟩ | ⟨g, cap, cur, h, hb, _⟩
                    · simp at h
                    · simp only [Value.slice.injEq, Option.some.injEq, Addr.mk.injEq] at h
                      rw [h.1.1]; exact hb
                  have HO := hid hownX
                  have HLX := hid hlX
                  clear hownX hlX hx ht hOA
                  go_wp2_with fail
                  refine wp_region_any (by kernel_rfl) ?_
                  have T0 : Below wr.heap.size wr wr.drew := (Below.refl _ _).drew
                  refine lin_any [26] 83 (tmF b oc b2 o2 (o2 + j * 2) oc5 ls.length j x t ⟨min x.lo t.lo, max x.hi t.hi⟩) (fun w' => Below wr.heap.size wr w') (fun w1 w2 => Below w1.heap.size w1 w2)
                    [0, 1, 2, 3, 4, 5, 6, 7, 8, 9, 10, 11, 12, 13, 14, 15, 16, 17, 18, 19, 20, 21, 22, 23, 24, 25, 26, 27, 28, 29, 30, 31, 32, 33, 34, 35, 36, 37, 38, 39, 40, 41, 42, 43, 44, 45, 46, 47, 48, 49, 50, 51, 52, 53, 80, 81, 82] #[true, true, true, true, true, true, true, true, true, true, true, true, true, true, true, true, true, true, true, true, true, true, true, true, true, true, false] [0, 1, 2, 3, 4, 5, 6, 7, 8, 9, 10, 11, 12, 13, 14, 15, 16, 17, 18, 19, 20, 21, 22, 23, 24, 25] (by kernel_rfl) (by kernel_rfl) (by kernel_rfl) (by kernel_rfl) (by kernel_rfl) (by kernel_rfl) (by kernel_rfl) (by kernel_rfl) (by kernel_rfl) (by kernel_rfl)
                    (tmF_stable _ _ _ _ _ _ _ _ _ _ _) (by rfl) T0 ?_ ?_
                  · intro a' w' hd hsz hkn hT
                    obtain ⟨xs, D⟩ := a'; obtain ⟨l0⟩ := xs; dsimp only at hd hsz hkn; subst hd; have hs0 := hsz; clear hsz; simp only [List.size_toArray] at hs0; obtain ⟨x0, x1, x2, x3, x4, x5, x6, x7, x8, x9, l1, rfl, hs1⟩ := len_ten hs0; clear hs0; obtain ⟨x10, x11, x12, x13, x14, x15, x16, x17, x18, x19, l2, rfl, hs2⟩ := len_ten hs1; clear hs1; obtain ⟨x20, x21, x22, x23, x24, x25, x26, x27, x28, x29, l3, rfl, hs3⟩ := len_ten hs2; clear hs2; obtain ⟨x30, x31, x32, x33, x34, x35, x36, x37, x38, x39, l4, rfl, hs4⟩ := len_ten hs3; clear hs3; obtain ⟨x40, x41, x42, x43, x44, x45, x46, x47, x48, x49, l5, rfl, hs5⟩ := len_ten hs4; clear hs4; obtain ⟨x50, x51, x52, x53, x54, x55, x56, x57, x58, x59, l6, rfl, hs6⟩ := len_ten hs5; clear hs5; obtain ⟨x60, x61, x62, x63, x64, x65, x66, x67, x68, x69, l7, rfl, hs7⟩ := len_ten hs6; clear hs6; obtain ⟨x70, x71, x72, x73, x74, x75, x76, x77, x78, x79, l8, rfl, hs8⟩ := len_ten hs7; clear hs7; obtain ⟨x80, l9, rfl, hs9⟩ := len_succ hs8; clear hs8; obtain ⟨x81, l10, rfl, hs10⟩ := len_succ hs9; clear hs9; obtain ⟨x82, l11, rfl, hs11⟩ := len_succ hs10; clear hs10; obtain rfl := List.length_eq_zero_iff.1 hs11; clear hs11; have kn := known_list hkn; clear hkn; simp only [List.map_cons, List.map_nil, List.getElem?_toArray, List.getElem?_cons_succ, List.getElem?_cons_zero, Array.getD_eq_getD_getElem?, Option.getD_some, List.cons.injEq, Option.some.injEq, and_true] at kn; obtain ⟨rfl, rfl, rfl, rfl, rfl, rfl, rfl, rfl, rfl, rfl, rfl, rfl, rfl, rfl, rfl, rfl, rfl, rfl, rfl, rfl, rfl, rfl, rfl, rfl, rfl, rfl, rfl, rfl, rfl, rfl, rfl, rfl, rfl, rfl, rfl, rfl, rfl, rfl, rfl, rfl, rfl, rfl, rfl, rfl, rfl, rfl, rfl, rfl, rfl, rfl, rfl, rfl, rfl, rfl, rfl, rfl, rfl⟩ := kn
                    have f0 : w'.cell? ⟨b, j * 2, none⟩ = some (.int .i64 x.lo) := (hT.cell (by simp only; omega)).trans v0
                    have f1 : w'.cell? ⟨b, j * 2 + 1, none⟩ = some (.int .i64 x.hi) := (hT.cell (by simp only; omega)).trans v1
                    have f2 : w'.cell? ⟨b2, o2 + j * 2, none⟩ = some (.int .i64 t.lo) := (hT.cell (by simp only; omega)).trans u0
                    have f3 : w'.cell? ⟨b2, o2 + j * 2 + 1, none⟩ = some (.int .i64 t.hi) := (hT.cell (by simp only; omega)).trans u1
                    refine LinOps.cons (by simp only [List.getElem?_toArray, List.getElem?_cons_succ, List.getElem?_cons_zero]; rfl) (fun hk K hK => ?_) ?_
                    · go_simp
                      exact hK.out _ _ _ rfl rfl hT (Below.refl _ _)
                    refine LinOps.cons (by simp only [List.getElem?_toArray, List.getElem?_cons_succ, List.getElem?_cons_zero]; rfl) (fun hk K hK => ?_) ?_
                    · go_simp
                      exact hK.out _ _ _ rfl rfl hT (Below.refl _ _)
                    refine LinOps.cons (by simp only [List.getElem?_toArray, List.getElem?_cons_succ, List.getElem?_cons_zero]; rfl) (fun hk K hK => ?_) ?_
                    · go_simp
                      exact hK.out _ _ _ rfl rfl hT (Below.refl _ _)
                    refine LinOps.cons (by simp only [List.getElem?_toArray, List.getElem?_cons_succ, List.getElem?_cons_zero]; rfl) (fun hk K hK => ?_) ?_
                    · go_simp
                      exact hK.out _ _ _ rfl rfl hT (Below.refl _ _)
                    refine LinOps.cons (by simp only [List.getElem?_toArray, List.getElem?_cons_succ, List.getElem?_cons_zero]; rfl) (fun hk K hK => ?_) ?_
                    · (obtain ⟨v, hv, hf⟩ := Known.get (hk 2 (by kernel_rfl) (by simp)) (d := 56) (by kernel_rfl); simp only [List.getElem?_toArray, List.getElem?_cons_succ, List.getElem?_cons_zero, Option.some.injEq] at hv; subst hv; simp only [tmF] at hf; (try subst hf)); (obtain ⟨v, hv, hf⟩ := Known.get (hk 3 (by kernel_rfl) (by simp)) (d := 57) (by kernel_rfl); simp only [List.getElem?_toArray, List.getElem?_cons_succ, List.getElem?_cons_zero, Option.some.injEq] at hv; subst hv; simp only [tmF] at hf; (try subst hf))
                      go_simp
                      exact hK.out _ _ _ rfl rfl hT (Below.refl _ _)
                    refine LinOps.cons (by simp only [List.getElem?_toArray, List.getElem?_cons_succ, List.getElem?_cons_zero]; rfl) (fun hk K hK => ?_) ?_
                    · (obtain ⟨v, hv, hf⟩ := Known.get (hk 4 (by kernel_rfl) (by simp)) (d := 58) (by kernel_rfl); simp only [List.getElem?_toArray, List.getElem?_cons_succ, List.getElem?_cons_zero, Option.some.injEq] at hv; subst hv; simp only [tmF] at hf; (try subst hf))
                      go_simp
                      exact hK.out _ _ _ rfl rfl hT (Below.refl _ _)
                    refine LinOps.cons (by simp only [List.getElem?_toArray, List.getElem?_cons_succ, List.getElem?_cons_zero]; rfl) (fun hk K hK => ?_) ?_
                    · (obtain ⟨v, hv, hf⟩ := Known.get (hk 5 (by kernel_rfl) (by simp)) (d := 59) (by kernel_rfl); simp only [List.getElem?_toArray, List.getElem?_cons_succ, List.getElem?_cons_zero, Option.some.injEq] at hv; subst hv; simp only [tmF] at hf; (try subst hf))
                      go_simp
                      exact hK.out _ _ _ rfl rfl hT (Below.refl _ _)
                    refine LinOps.cons (by simp only [List.getElem?_toArray, List.getElem?_cons_succ, List.getElem?_cons_zero]; rfl) (fun hk K hK => ?_) ?_
                    · go_simp
                      exact hK.out _ _ _ rfl rfl hT (Below.refl _ _)
                    refine LinOps.cons (by simp only [List.getElem?_toArray, List.getElem?_cons_succ, List.getElem?_cons_zero]; rfl) (fun hk K hK => ?_) ?_
                    · go_simp
                      exact hK.out _ _ _ rfl rfl hT (Below.refl _ _)
                    refine LinOps.cons (by simp only [List.getElem?_toArray, List.getElem?_cons_succ, List.getElem?_cons_zero]; rfl) (fun hk K hK => ?_) ?_
                    · (obtain ⟨v, hv, hf⟩ := Known.get (hk 7 (by kernel_rfl) (by simp)) (d := 61) (by kernel_rfl); simp only [List.getElem?_toArray, List.getElem?_cons_succ, List.getElem?_cons_zero, Option.some.injEq] at hv; subst hv; simp only [tmF] at hf; (try subst hf)); (obtain ⟨v, hv, hf⟩ := Known.get (hk 8 (by kernel_rfl) (by simp)) (d := 62) (by kernel_rfl); simp only [List.getElem?_toArray, List.getElem?_cons_succ, List.getElem?_cons_zero, Option.some.injEq] at hv; subst hv; simp only [tmF] at hf; (try subst hf))
                      go_simp
                      exact hK.out _ _ _ rfl rfl hT (Below.refl _ _)
                    refine LinOps.cons (by simp only [List.getElem?_toArray, List.getElem?_cons_succ, List.getElem?_cons_zero]; rfl) (fun hk K hK => ?_) ?_
                    · (obtain ⟨v, hv, hf⟩ := Known.get (hk 9 (by kernel_rfl) (by simp)) (d := 63) (by kernel_rfl); simp only [List.getElem?_toArray, List.getElem?_cons_succ, List.getElem?_cons_zero, Option.some.injEq] at hv; subst hv; simp only [tmF] at hf; (try subst hf))
                      go_simp
                      exact hK.out _ _ _ rfl rfl hT (Below.refl _ _)
                    refine LinOps.cons (by simp only [List.getElem?_toArray, List.getElem?_cons_succ, List.getElem?_cons_zero]; rfl) (fun hk K hK => ?_) ?_
                    · (obtain ⟨v, hv, hf⟩ := Known.get (hk 10 (by kernel_rfl) (by simp)) (d := 64) (by kernel_rfl); simp only [List.getElem?_toArray, List.getElem?_cons_succ, List.getElem?_cons_zero, Option.some.injEq] at hv; subst hv; simp only [tmF] at hf; (try subst hf))
                      go_simp
                      exact hK.out _ _ _ rfl rfl hT (Below.refl _ _)
                    refine LinOps.cons (by simp only [List.getElem?_toArray, List.getElem?_cons_succ, List.getElem?_cons_zero]; rfl) (fun hk K hK => ?_) ?_
                    · (obtain ⟨v, hv, hf⟩ := Known.get (hk 6 (by kernel_rfl) (by simp)) (d := 60) (by kernel_rfl); simp only [List.getElem?_toArray, List.getElem?_cons_succ, List.getElem?_cons_zero, Option.some.injEq] at hv; subst hv; simp only [tmF] at hf; (try subst hf)); (obtain ⟨v, hv, hf⟩ := Known.get (hk 11 (by kernel_rfl) (by simp)) (d := 65) (by kernel_rfl); simp only [List.getElem?_toArray, List.getElem?_cons_succ, List.getElem?_cons_zero, Option.some.injEq] at hv; subst hv; simp only [tmF] at hf; (try subst hf))
                      go_simp
                      exact hK.out _ _ _ rfl (by simp only [tmF]; congr 1; first | (split <;> omega) | omega) hT (Below.refl _ _)
                    refine LinOps.cons (by simp only [List.getElem?_toArray, List.getElem?_cons_succ, List.getElem?_cons_zero]; rfl) (fun hk K hK => ?_) ?_
                    · go_simp
                      exact hK.out _ _ _ rfl rfl hT (Below.refl _ _)
                    refine LinOps.cons (by simp only [List.getElem?_toArray, List.getElem?_cons_succ, List.getElem?_cons_zero]; rfl) (fun hk K hK => ?_) ?_
                    · go_simp
                      exact hK.out _ _ _ rfl rfl hT (Below.refl _ _)
                    refine LinOps.cons (by simp only [List.getElem?_toArray, List.getElem?_cons_succ, List.getElem?_cons_zero]; rfl) (fun hk K hK => ?_) ?_
                    · (obtain ⟨v, hv, hf⟩ := Known.get (hk 13 (by kernel_rfl) (by simp)) (d := 67) (by kernel_rfl); simp only [List.getElem?_toArray, List.getElem?_cons_succ, List.getElem?_cons_zero, Option.some.injEq] at hv; subst hv; simp only [tmF] at hf; (try subst hf)); (obtain ⟨v, hv, hf⟩ := Known.get (hk 14 (by kernel_rfl) (by simp)) (d := 68) (by kernel_rfl); simp only [List.getElem?_toArray, List.getElem?_cons_succ, List.getElem?_cons_zero, Option.some.injEq] at hv; subst hv; simp only [tmF] at hf; (try subst hf))
                      go_simp
                      exact hK.out _ _ _ rfl rfl hT (Below.refl _ _)
                    refine LinOps.cons (by simp only [List.getElem?_toArray, List.getElem?_cons_succ, List.getElem?_cons_zero]; rfl) (fun hk K hK => ?_) ?_
                    · (obtain ⟨v, hv, hf⟩ := Known.get (hk 15 (by kernel_rfl) (by simp)) (d := 69) (by kernel_rfl); simp only [List.getElem?_toArray, List.getElem?_cons_succ, List.getElem?_cons_zero, Option.some.injEq] at hv; subst hv; simp only [tmF] at hf; (try subst hf))
                      go_simp
                      exact hK.out _ _ _ rfl rfl hT (Below.refl _ _)
                    refine LinOps.cons (by simp only [List.getElem?_toArray, List.getElem?_cons_succ, List.getElem?_cons_zero]; rfl) (fun hk K hK => ?_) ?_
                    · (obtain ⟨v, hv, hf⟩ := Known.get (hk 16 (by kernel_rfl) (by simp)) (d := 70) (by kernel_rfl); simp only [List.getElem?_toArray, List.getElem?_cons_succ, List.getElem?_cons_zero, Option.some.injEq] at hv; subst hv; simp only [tmF] at hf; (try subst hf))
                      go_simp
                      exact hK.out _ _ _ rfl rfl hT (Below.refl _ _)
                    refine LinOps.cons (by simp only [List.getElem?_toArray, List.getElem?_cons_succ, List.getElem?_cons_zero]; rfl) (fun hk K hK => ?_) ?_
                    · go_simp
                      exact hK.out _ _ _ rfl rfl hT (Below.refl _ _)
                    refine LinOps.cons (by simp only [List.getElem?_toArray, List.getElem?_cons_succ, List.getElem?_cons_zero]; rfl) (fun hk K hK => ?_) ?_
                    · go_simp
                      exact hK.out _ _ _ rfl rfl hT (Below.refl _ _)
                    refine LinOps.cons (by simp only [List.getElem?_toArray, List.getElem?_cons_succ, List.getElem?_cons_zero]; rfl) (fun hk K hK => ?_) ?_
                    · (obtain ⟨v, hv, hf⟩ := Known.get (hk 18 (by kernel_rfl) (by simp)) (d := 72) (by kernel_rfl); simp only [List.getElem?_toArray, List.getElem?_cons_succ, List.getElem?_cons_zero, Option.some.injEq] at hv; subst hv; simp only [tmF] at hf; (try subst hf)); (obtain ⟨v, hv, hf⟩ := Known.get (hk 19 (by kernel_rfl) (by simp)) (d := 73) (by kernel_rfl); simp only [List.getElem?_toArray, List.getElem?_cons_succ, List.getElem?_cons_zero, Option.some.injEq] at hv; subst hv; simp only [tmF] at hf; (try subst hf))
                      go_simp
                      exact hK.out _ _ _ rfl rfl hT (Below.refl _ _)
                    refine LinOps.cons (by simp only [List.getElem?_toArray, List.getElem?_cons_succ, List.getElem?_cons_zero]; rfl) (fun hk K hK => ?_) ?_
                    · (obtain ⟨v, hv, hf⟩ := Known.get (hk 20 (by kernel_rfl) (by simp)) (d := 74) (by kernel_rfl); simp only [List.getElem?_toArray, List.getElem?_cons_succ, List.getElem?_cons_zero, Option.some.injEq] at hv; subst hv; simp only [tmF] at hf; (try subst hf))
                      go_simp
                      exact hK.out _ _ _ rfl rfl hT (Below.refl _ _)
                    refine LinOps.cons (by simp only [List.getElem?_toArray, List.getElem?_cons_succ, List.getElem?_cons_zero]; rfl) (fun hk K hK => ?_) ?_
                    · (obtain ⟨v, hv, hf⟩ := Known.get (hk 21 (by kernel_rfl) (by simp)) (d := 75) (by kernel_rfl); simp only [List.getElem?_toArray, List.getElem?_cons_succ, List.getElem?_cons_zero, Option.some.injEq] at hv; subst hv; simp only [tmF] at hf; (try subst hf))
                      go_simp
                      exact hK.out _ _ _ rfl rfl hT (Below.refl _ _)
                    refine LinOps.cons (by simp only [List.getElem?_toArray, List.getElem?_cons_succ, List.getElem?_cons_zero]; rfl) (fun hk K hK => ?_) ?_
                    · (obtain ⟨v, hv, hf⟩ := Known.get (hk 17 (by kernel_rfl) (by simp)) (d := 71) (by kernel_rfl); simp only [List.getElem?_toArray, List.getElem?_cons_succ, List.getElem?_cons_zero, Option.some.injEq] at hv; subst hv; simp only [tmF] at hf; (try subst hf)); (obtain ⟨v, hv, hf⟩ := Known.get (hk 22 (by kernel_rfl) (by simp)) (d := 76) (by kernel_rfl); simp only [List.getElem?_toArray, List.getElem?_cons_succ, List.getElem?_cons_zero, Option.some.injEq] at hv; subst hv; simp only [tmF] at hf; (try subst hf))
                      go_simp
                      exact hK.out _ _ _ rfl (by simp only [tmF]; congr 1; first | (split <;> omega) | omega) hT (Below.refl _ _)
                    refine LinOps.cons (by simp only [List.getElem?_toArray, List.getElem?_cons_succ, List.getElem?_cons_zero]; rfl) (fun hk K hK => ?_) ?_
                    · (obtain ⟨v, hv, hf⟩ := Known.get (hk 12 (by kernel_rfl) (by simp)) (d := 66) (by kernel_rfl); simp only [List.getElem?_toArray, List.getElem?_cons_succ, List.getElem?_cons_zero, Option.some.injEq] at hv; subst hv; simp only [tmF] at hf; (try subst hf)); (obtain ⟨v, hv, hf⟩ := Known.get (hk 23 (by kernel_rfl) (by simp)) (d := 77) (by kernel_rfl); simp only [List.getElem?_toArray, List.getElem?_cons_succ, List.getElem?_cons_zero, Option.some.injEq] at hv; subst hv; simp only [tmF] at hf; (try subst hf))
                      go_simp
                      go_at_call 41; refine (to_any _ _ _).mono ?_
                      rintro e w1 ⟨rfl, h1⟩
                      exact hK.out _ _ _ rfl rfl (hT.trans (h1.mono hT.size)) h1
                    refine LinOps.cons (by simp only [List.getElem?_toArray, List.getElem?_cons_succ, List.getElem?_cons_zero]; rfl) (fun hk K hK => ?_) ?_
                    · (obtain ⟨v, hv, hf⟩ := Known.get (hk 0 (by kernel_rfl) (by simp)) (d := 54) (by kernel_rfl); simp only [List.getElem?_toArray, List.getElem?_cons_succ, List.getElem?_cons_zero, Option.some.injEq] at hv; subst hv; simp only [tmF] at hf; (try subst hf)); (obtain ⟨v, hv, hf⟩ := Known.get (hk 1 (by kernel_rfl) (by simp)) (d := 55) (by kernel_rfl); simp only [List.getElem?_toArray, List.getElem?_cons_succ, List.getElem?_cons_zero, Option.some.injEq] at hv; subst hv; simp only [tmF] at hf; (try subst hf))
                      go_simp
                      exact hK.out _ _ _ rfl rfl hT (Below.refl _ _)
                    exact LinOps.nil
                  · intro a' w' hd hsz hkn hT hall
                    obtain ⟨xs, D⟩ := a'; obtain ⟨l0⟩ := xs; dsimp only at hd hsz hkn; subst hd; have hs0 := hsz; clear hsz; simp only [List.size_toArray] at hs0; obtain ⟨x0, x1, x2, x3, x4, x5, x6, x7, x8, x9, l1, rfl, hs1⟩ := len_ten hs0; clear hs0; obtain ⟨x10, x11, x12, x13, x14, x15, x16, x17, x18, x19, l2, rfl, hs2⟩ := len_ten hs1; clear hs1; obtain ⟨x20, x21, x22, x23, x24, x25, x26, x27, x28, x29, l3, rfl, hs3⟩ := len_ten hs2; clear hs2; obtain ⟨x30, x31, x32, x33, x34, x35, x36, x37, x38, x39, l4, rfl, hs4⟩ := len_ten hs3; clear hs3; obtain ⟨x40, x41, x42, x43, x44, x45, x46, x47, x48, x49, l5, rfl, hs5⟩ := len_ten hs4; clear hs4; obtain ⟨x50, x51, x52, x53, x54, x55, x56, x57, x58, x59, l6, rfl, hs6⟩ := len_ten hs5; clear hs5; obtain ⟨x60, x61, x62, x63, x64, x65, x66, x67, x68, x69, l7, rfl, hs7⟩ := len_ten hs6; clear hs6; obtain ⟨x70, x71, x72, x73, x74, x75, x76, x77, x78, x79, l8, rfl, hs8⟩ := len_ten hs7; clear hs7; obtain ⟨x80, l9, rfl, hs9⟩ := len_succ hs8; clear hs8; obtain ⟨x81, l10, rfl, hs10⟩ := len_succ hs9; clear hs9; obtain ⟨x82, l11, rfl, hs11⟩ := len_succ hs10; clear hs10; obtain rfl := List.length_eq_zero_iff.1 hs11; clear hs11; have kn := known_list hkn; clear hkn; simp only [List.map_cons, List.map_nil, List.getElem?_toArray, List.getElem?_cons_succ, List.getElem?_cons_zero, Array.getD_eq_getD_getElem?, Option.getD_some, List.cons.injEq, Option.some.injEq, and_true] at kn; obtain ⟨rfl, rfl, rfl, rfl, rfl, rfl, rfl, rfl, rfl, rfl, rfl, rfl, rfl, rfl, rfl, rfl, rfl, rfl, rfl, rfl, rfl, rfl, rfl, rfl, rfl, rfl, rfl, rfl, rfl, rfl, rfl, rfl, rfl, rfl, rfl, rfl, rfl, rfl, rfl, rfl, rfl, rfl, rfl, rfl, rfl, rfl, rfl, rfl, rfl, rfl, rfl, rfl, rfl, rfl, rfl, rfl, rfl⟩ := kn
                    (obtain ⟨v, hv, hf⟩ := Known.get (hall 24 (by kernel_rfl) ) (d := 78) (by kernel_rfl); simp only [List.getElem?_toArray, List.getElem?_cons_succ, List.getElem?_cons_zero, Option.some.injEq] at hv; subst hv; simp only [tmF] at hf; (try subst hf))
                    (obtain ⟨v, hv, hf⟩ := Known.get (hall 25 (by kernel_rfl) ) (d := 79) (by kernel_rfl); simp only [List.getElem?_toArray, List.getElem?_cons_succ, List.getElem?_cons_zero, Option.some.injEq] at hv; subst hv; simp only [tmF] at hf; (try subst hf))
                    clear hall
                    have hown' := own_below HO.out hT
                    have hlX' := HLX.out.below hT
                    have wj0 : Wr w' b (j * 2) := Wr.of ((hT.cell (by simp only; omega)).trans v0) (hown'.frozenAt _)
                    have wj1 : Wr w' b (j * 2 + 1) := Wr.of ((hT.cell (by simp only; omega)).trans v1) (hown'.frozenAt _)
                    have h1 := (hown'.stored (j * 2) (.int .i64 (min x.lo t.lo))).1
                    have h2 := (h1.stored (j * 2 + 1) (.int .i64 (max x.hi t.hi))).1
                    rw [spans_set2 X j _ _ hjX] at h2
                    have HO2 := hid h2
                    have HLX' := hid hlX'
                    have hzT := hT.size
                    clear hown' h1 h2 hlX'
                    refine wpAny_ready (rs := [26]) (by kernel_rfl) (by simp) ?_; refine AllReady.cons (by simp only [List.getElem?_toArray, List.getElem?_cons_succ, List.getElem?_cons_zero]; rfl) (fun K hK => ?_) AllReady.nil
                    go_simp
                    refine hK _ _ ?_
                    (try simp only [Act.put, List.setIfInBounds_toArray, List.set_cons_zero, List.set_cons_succ])
                    clear hK K
                    refine wpAny_done (by kernel_rfl) ?_ _
                    go_wp2_with fail
                    refine ⟨?_, by simp [intOf]; omega⟩
                    (repeat (apply Exists.intro))
                    refine ⟨⟨j + 1, X.set j ⟨min x.lo t.lo, max x.hi t.hi⟩, hjt, by go_num, by simp [hX], HO2.out, ?_, hid ?_, ((hBX.trans (hT.mono hBX.size)).setCell (by simp only; omega) _).setCell (by simp only; omega) _⟩, rfl⟩
                    · rcases HAl.out with ⟨e, ha⟩ | hne
                      · have hs2 : X.set j ⟨min x.lo t.lo, max x.hi t.hi⟩ = s := by
                          have e1 : X = s := by rw [HXj.out, ha, zip_self, List.take_append_drop]
                          have e2 : x = t := by rw [← Hx.out, ← Ht.out]; simp only [e1]
                          have e3 : (⟨min x.lo t.lo, max x.hi t.hi⟩ : Sp) = X[j] := by rw [Hx.out, e2]; simp
                          rw [e3, List.set_getElem_self, e1]
                        rw [← e]
                        obtain ⟨O', oc', e', _, _, h⟩ := own_form HO2.out
                        simp only [Value.slice.injEq] at e'
                        obtain ⟨rfl, _, rfl⟩ := e'
                        rw [hs2] at h
                        exact h
                      · have hne' := hne b b2 o2 rfl rfl
                        simp only [World.size_setCell]
                        refine arr_set (arr_set (HLX'.out.more hzT) _ _ _ ?_) _ _ _ ?_
                        all_goals (rintro b' o' e; simp only [Option.some.injEq, Addr.mk.injEq] at e; rw [← e.1]; exact hne')
                    · rw [← HZ.out, ← HXj.out]
                      congr 1
                      rw [← HXx.out, Hx.out, Ht.out]; rfl
                · obtain rfl : j = ls.length := by omega
                  have HXe : Hid (X = List.zipWith comb a s) := hid (by rw [HXj.out, List.take_of_length_le (by omega), List.take_of_length_le (by have := HSL.out; omega), List.drop_of_length_le (by omega), List.append_nil])
                  go_wp2
                  refine ⟨⟨k + 1, some (List.zipWith comb a s), hk1, by go_num, rfl, ⟨by rw [List.length_zipWith, hal, HSL.out]; omega, OA, oc, rfl, ?_⟩, hid (by rw [HK.out, HM.out, HRr.out, List.foldl_cons, HAcc.out]), hBX⟩, by simp [intOf]; omega⟩
                  rw [← HXe.out]
                  exact hownX

      · obtain rfl : k = R.length := by omega
        have HF : Hid (timesH ⟨set, fs⟩ ls = acc) := hid (by rw [HH.out, HK.out, List.drop_length]; rfl)
        cases acc with
        | none =>
          have H2 : Hid (timesR ⟨set, fs⟩ ls = ([], 12)) := hid (by rw [H1.out, HF.out])
          go_wp2
          refine bodyPost_ret (v := .tuple #[.slice none 0 0, .int .i64 12]) (by simp [results, Try.results28, go_sem]) rfl ?_
          rw [H2.out]
          exact ⟨none, 0, rfl, Arr.nil _ _ _, hB4.trans (hBr.mono (by omega))⟩
        | some a =>
          have H2 : Hid (timesR ⟨set, fs⟩ ls = (a, 0)) := hid (by rw [H1.out, HF.out])
          obtain ⟨hal, OA, oc, rfl, hownA⟩ := hT
          have HAL := hid hal
          clear hal
          obtain ⟨O', oc', e', _, _, hOA⟩ := own_form hownA
          simp only [Value.slice.injEq] at e'
          obtain ⟨rfl, _, rfl⟩ := e'
          go_wp2
          refine bodyPost_ret (v := .tuple #[.slice OA ls.length oc, .int .i64 0]) (by simp [results, Try.results28, go_sem]) rfl ?_
          rw [H2.out]
          exact ⟨OA, oc, by rw [HAL.out], hOA, hB4.trans (hBr.mono (by omega))⟩
  · have H1 : Hid (timesR ⟨set, fs⟩ ls = ([], askE ⟨set, fs⟩ (bookB ls))) := hid (by rw [HR.out, if_neg he])
    have ht : (askE ⟨set, fs⟩ (bookB ls) != 0) = true := by rw [bne_iff_ne]; exact he
    clear HR he
    go_wp2
    refine bodyPost_ret (v := .tuple #[.slice none 0 0, .int .i64 (askE ⟨set, fs⟩ (bookB ls))]) (by simp [results, Try.results28, go_sem]) rfl ?_
    rw [H1.out]
    exact ⟨none, 0, rfl, Arr.nil _ _ _, by (repeat' (first | (with_reducible exact Below.refl _ _) | (with_reducible assumption) | (with_reducible refine Below.drew ?_) | (with_reducible refine below_drewN ?_ _) | (with_reducible refine Below.setCell ?_ ?_ _) | (with_reducible refine Below.alloc ?_ ?_ _) | go_size | (exact Below.size (by assumption)) | (refine Below.trans ?_ (Below.mono (by assumption) ?_))))⟩
end Go.Proofs.Ytmddbnjbliponaa
