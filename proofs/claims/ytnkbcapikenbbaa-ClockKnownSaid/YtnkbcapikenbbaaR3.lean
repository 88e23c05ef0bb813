/- All truths of a clock, as clavendierref01 lists them. -/
import Derived.Test.YtnkbcapikenbbaaR2
namespace Go.Proofs.Ytnkbcapikenbbaa
set_option linter.unusedSimpArgs false
set_option linter.unusedVariables false
open Go.RowKit
attribute [local go_sem high] cell_set_wr
attribute [local go_sem low] cell_wr frozen_wr
attribute [local go_sem] wr_set wr_drew wr_drewN wr_alloc wr_new

theorem info_span : (Try.prog.info? 27).map (fun i => (i.zero, i.size, i.bytes)) = some (some (.agg #[.int .i64 0, .int .i64 0]), 2, 16) := by kernel_rfl
theorem info_spans : (Try.prog.info? 42).map (fun i => (i.zero, i.size, i.bytes)) = some (some (.slice none 0 0), 1, 24) := by kernel_rfl

theorem truths_drop (fs : List Fr) (k : Nat) (hk : k < fs.length) : truths (fs.drop k) = (fs[k].b.list.drop 0).flatMap fun b => (fs[k].e.list.drop 0).flatMap fun e => ((truths (fs.drop (k + 1))).drop 0).map fun r => ⟨b, e⟩ :: r := by
  rw [List.drop_eq_getElem_cons hk]; rfl
theorem flatMap_drop {α β : Type} (l : List α) (g : α → List β) (k : Nat) (hk : k < l.length) : (l.drop k).flatMap g = g l[k] ++ (l.drop (k + 1)).flatMap g := by
  rw [List.drop_eq_getElem_cons hk]; rfl
theorem map_drop {α β : Type} (l : List α) (g : α → β) (k : Nat) (hk : k < l.length) : (l.drop k).map g = g l[k] :: (l.drop (k + 1)).map g := by
  rw [List.drop_eq_getElem_cons hk]; rfl

theorem truths_end (x : Int) (set : Int) (A : Option Addr) (cap : Nat) (fs : List Fr) (w : World) (hx : x = fs.length) :
    Calls Try.prog 59 #[.agg #[.int .i64 set, .slice A fs.length cap], .int .i64 x] w (Ret2 Sp.cells w (truths (fs.drop fs.length))) := by
  subst hx
  have HT : Hid (truths (fs.drop fs.length) = [[]]) := hid (by rw [List.drop_length]; rfl)
  have ht : ((fs.length : Int) == (fs.length : Int)) = true := by simp
  go_enter Try.func59, Try.ntmps59
  go_wp2
  go_ret
  rw [HT.out]
  have ho := World.ownsRow_lit (base := 0) (e := 42) (size := 1) (w.alloc (.cells #[.int .i64 set, .slice A fs.length cap] 24)) #[.slice none 0 0] 1 (Nat.zero_le _) (by simp [maxLen]) rfl
  have hr : Rows2 Sp.cells ((w.alloc (.cells #[.int .i64 set, .slice A fs.length cap] 24)).alloc (.cells #[.slice none 0 0] 42)) 0 27 2 [.slice none 0 0] ([[]] : List (List Sp)) :=
    (Rows2.nil Sp.cells _ 0 27 2).snoc (own_nil _ _ _ _)
  obtain ⟨A', cap', hv, hcm, ha⟩ := hr.arr2 ho
  refine ⟨A', cap', ?_, hcm, ha, by (repeat' (first | (with_reducible exact Below.refl _ _) | (with_reducible assumption) | (with_reducible refine Below.drew ?_) | (with_reducible refine below_drewN ?_ _) | (with_reducible refine Below.setCell ?_ ?_ _) | (with_reducible refine Below.alloc ?_ ?_ _) | go_size | (exact Below.size (by assumption)) | (refine Below.trans ?_ (Below.mono (by assumption) ?_))))⟩
  rw [← show (1 : Nat) = ([[]] : List (List Sp)).length from rfl, ← hv]
  simp

set_option maxRecDepth 100000 in
set_option maxHeartbeats 4000000 in
theorem truths_any (n : Nat) : ∀ (k : Nat) (x : Int) (set : Int) (A : Option Addr) (cap : Nat) (fs : List Fr) (w : World), fs.length - k ≤ n → k ≤ fs.length → x = k → Arr w w.heap.size A (frosts fs) → OkFs fs →
    Calls Try.prog 59 #[.agg #[.int .i64 set, .slice A fs.length cap], .int .i64 x] w (Ret2 Sp.cells w (truths (fs.drop k))) := by
  induction n with
  | zero =>
    intro k x set A cap fs w hn hk hx hA hO
    obtain rfl : k = fs.length := by omega
    exact truths_end x set A cap fs w hx
  | succ n ih =>
    intro k x set A cap fs w hn hk hx hA hO
    by_cases hlt : k < fs.length
    · have IH := hid ih
      subst hx
      have ht : ((k : Int) == (fs.length : Int)) = false := by rw [beq_eq_false_iff_ne]; omega
      clear ih
      have hl3 := hO.1
      have hTL := truths_small fs hO k
      have hRL := truths_small fs hO (k + 1)
      have HTD := hid (truths_drop fs k hlt)
      have HRl : Hid (∀ r ∈ truths (fs.drop (k + 1)), r.length ≤ 3) := hid fun r hr => by rw [inT_length _ _ ((mem_truths _ _).1 hr), List.length_drop]; omega
      obtain ⟨g1, g2, g3, g4, g5, g6, g7⟩ := hO.2 _ (List.getElem_mem hlt)
      have hA' := hA
      obtain ⟨b, o, rfl, hb, c0, c1, c2, c3⟩ := hA.fr hlt
      have HA := hid hA'
      clear hA hA'
      generalize fs[k] = g at *
      go_enter Try.func59, Try.ntmps59
      go_wp2_with fail
      refine (IH.out (k + 1) ((k : Int) + 1) set _ cap fs _ (by omega) (by omega) (by omega) ?_ hO).mono ?_
      · refine (HA.out.below (w' := _) ?_).more ?_
        · (repeat' (first | (with_reducible exact Below.refl _ _) | (with_reducible assumption) | (with_reducible refine Below.drew ?_) | (with_reducible refine below_drewN ?_ _) | (with_reducible refine Below.setCell ?_ ?_ _) | (with_reducible refine Below.alloc ?_ ?_ _) | go_size | (exact Below.size (by assumption)) | (refine Below.trans ?_ (Below.mono (by assumption) ?_))))
        · simp; omega
      rintro e w1 ⟨A1, cap1, rfl, hcap1, hA1, hb1⟩
      clear c0 c1 c2 c3
      obtain ⟨hc1, hf1, hl1, hm1, hw1⟩ := bcell hb1
      generalize truths (fs.drop k) = T at *
      generalize truths (fs.drop (k + 1)) = R at *
      have hx0 : w1.cell? ⟨w.heap.size + 1, 0, none⟩ = some (.int .i64 g.b.lo) := by simp [hc1, go_sem]
      have hx1 : w1.cell? ⟨w.heap.size + 1, 1, none⟩ = some (.int .i64 g.b.hi) := by simp [hc1, go_sem]
      have hx2 : w1.cell? ⟨w.heap.size + 1, 2, none⟩ = some (.int .i64 g.e.lo) := by simp [hc1, go_sem]
      have hx3 : w1.cell? ⟨w.heap.size + 1, 3, none⟩ = some (.int .i64 g.e.hi) := by simp [hc1, go_sem]
      have hz1 := hb1.size
      simp only [World.size_alloc] at hz1
      go_wp2_with fail
      clear hc1 hf1 hl1 hm1 hw1
      go_loopw [7, 8] (fun out bv wr => ∃ (j : Nat) (D : List (List When)) (vs : List Value), j ≤ g.b.list.length ∧ bv = .int .i64 (g.b.lo + j) ∧ wr.ownsRow w1.heap.size 42 1 out D.length vs ∧ Rows2 Sp.cells wr w1.heap.size 27 2 vs D ∧
          Hid (D ++ (g.b.list.drop j).flatMap (fun b => (g.e.list.drop 0).flatMap fun e => (R.drop 0).map fun r => ⟨b, e⟩ :: r) = T) ∧ Below w1.heap.size w1 wr) (fun _ bv _ => (g.b.hi + 1 - intOf bv).toNat)
      case atStart => exact ⟨0, [], [], Nat.zero_le _, by simp, own_nil _ _ _ _, Rows2.nil _ _ _ _ _, hid (by rw [HTD.out]; rfl), Below.refl _ _⟩
      case round =>
        obtain ⟨j, D, vs, hj, rfl, hown, hrows, HD, hB⟩ := hrel
        obtain ⟨wo, rfl⟩ : ∃ wo : World, wo = wr := ⟨_, rfl⟩
        have y1 : wo.cell? ⟨w.heap.size + 1, 1, none⟩ = some (.int .i64 g.b.hi) := (hB.cell (by simp; omega)).trans hx1
        have y2 : wo.cell? ⟨w.heap.size + 1, 2, none⟩ = some (.int .i64 g.e.lo) := (hB.cell (by simp; omega)).trans hx2
        have hjl := list_length g.b
        by_cases hjt : j < g.b.list.length
        · have hjj : g.b.lo + j ≤ g.b.hi := by omega
          have HD2 : Hid (D ++ ((g.e.list.drop 0).flatMap (fun e => (R.drop 0).map fun r => ⟨g.b.lo + j, e⟩ :: r) ++ (g.b.list.drop (j + 1)).flatMap (fun b => (g.e.list.drop 0).flatMap fun e => (R.drop 0).map fun r => ⟨b, e⟩ :: r)) = T) := hid (by
            rw [← HD.out, flatMap_drop _ _ j hjt, list_at])
          clear HD
          generalize hY : (g.b.list.drop (j + 1)).flatMap (fun b => (g.e.list.drop 0).flatMap fun e => (R.drop 0).map fun r => (⟨b, e⟩ :: r : List When)) = Y at *
          have HY := hid hY
          clear hY
          have HJ : Hid (g.b.lo + ((j + 1 : Nat) : Int) = g.b.lo + j + 1) := hid (by omega)
          have hbv : 0 ≤ g.b.lo + j ∧ g.b.lo + j ≤ 4319 := by omega
          generalize g.b.lo + (j : Int) = bv at *
          obtain ⟨hbv1, hbv2⟩ := hbv
          go_wp2
          go_loopw [7, 9] (fun out ev wr => ∃ (m : Nat) (D : List (List When)) (vs : List Value), m ≤ g.e.list.length ∧ ev = .int .i64 (g.e.lo + m) ∧ wr.ownsRow w1.heap.size 42 1 out D.length vs ∧ Rows2 Sp.cells wr w1.heap.size 27 2 vs D ∧
              Hid (D ++ ((g.e.list.drop m).flatMap (fun e => (R.drop 0).map fun r => ⟨bv, e⟩ :: r) ++ Y) = T) ∧ Below w1.heap.size w1 wr) (fun _ ev _ => (g.e.hi + 1 - intOf ev).toNat)
          case atStart => exact ⟨0, D, vs, Nat.zero_le _, by simp, hown, hrows, HD2, hB⟩
          case round =>
            clear hown hrows hB HD2 y1 y2
            obtain ⟨m, D, vs, hm, rfl, hown, hrows, HD, hB⟩ := hrel
            obtain ⟨wp, rfl⟩ : ∃ wp : World, wp = wr := ⟨_, rfl⟩
            have y3 : wp.cell? ⟨w.heap.size + 1, 3, none⟩ = some (.int .i64 g.e.hi) := (hB.cell (by simp; omega)).trans hx3
            have hml := list_length g.e
            by_cases hmt : m < g.e.list.length
            · have hmm : g.e.lo + m ≤ g.e.hi := by omega
              have HD2 : Hid (D ++ ((R.drop 0).map (fun r => ⟨bv, g.e.lo + m⟩ :: r) ++ ((g.e.list.drop (m + 1)).flatMap (fun e => (R.drop 0).map fun r => ⟨bv, e⟩ :: r) ++ Y)) = T) := hid (by
                rw [← HD.out, flatMap_drop _ _ m hmt, list_at, List.append_assoc])
              clear HD
              generalize hZ : (g.e.list.drop (m + 1)).flatMap (fun e => (R.drop 0).map fun r => (⟨bv, e⟩ :: r : List When)) ++ Y = Z at *
              have HZ := hid hZ
              clear hZ
              have hev : 0 ≤ g.e.lo + m ∧ g.e.lo + m ≤ 4319 := by omega
              have HE : Hid (g.e.lo + ((m + 1 : Nat) : Int) = g.e.lo + m + 1) := hid (by omega)
              generalize g.e.lo + (m : Int) = ev at *
              obtain ⟨hev1, hev2⟩ := hev
              go_wp2
              go_loopw [7, 10] (fun out iv wr => ∃ (i : Nat) (D : List (List When)) (vs : List Value), i ≤ R.length ∧ iv = .int .i64 i ∧ wr.ownsRow w1.heap.size 42 1 out D.length vs ∧ Rows2 Sp.cells wr w1.heap.size 27 2 vs D ∧
                  Hid (D ++ ((R.drop i).map (fun r => ⟨bv, ev⟩ :: r) ++ Z) = T) ∧ Below w1.heap.size w1 wr) (fun _ iv _ => R.length - (intOf iv).toNat)
              case atStart => exact ⟨0, D, vs, Nat.zero_le _, by simp, hown, hrows, HD2, hB⟩
              case round =>
                clear hown hrows hB HD2 y3
                obtain ⟨i, D, vs, hi, rfl, hown, hrows, HD, hB⟩ := hrel
                by_cases hit : i < R.length
                · obtain ⟨b', o', A', c', rfl, hb', hcr, hAr⟩ := (hA1.below hB).at_ hit
                  have HD2 : Hid (D ++ [⟨bv, ev⟩ :: R[i]] ++ ((R.drop (i + 1)).map (fun r => ⟨bv, ev⟩ :: r) ++ Z) = T) := hid (by
                    rw [← HD.out, map_drop _ _ i hit, List.append_assoc]; rfl)
                  have hDl : D.length + 1 ≤ 4096 := by
                    have := congrArg List.length HD2.out
                    simp only [List.length_append, List.length_cons, List.length_nil] at this
                    omega
                  clear HD hA1
                  have hRi := HRl.out _ (List.getElem_mem hit)
                  have hlr := hB.size
                  have hbr : b' < wr.heap.size := by omega
                  have hi1 : i + 1 ≤ R.length := hit
                  generalize R[i] = r at *
                  go_wp2
                  go_region_held3 (fun w' => w'.cell? ⟨b', o' + i, none⟩ = some (.slice A' r.length c') ∧ Below w1.heap.size w1 w') (((refine ⟨?_, ?_⟩; (focus (first | (simp [go_sem, wr_set, wr_drew, wr_drewN, wr_alloc, wr_new]; done) | (simp [go_sem, wr_set, wr_drew, wr_drewN, wr_alloc, wr_new, *]; done) | (simp (disch := go_size) [go_sem, wr_set, wr_drew, wr_drewN, wr_alloc, wr_new, *]; done))); (repeat' (first | (with_reducible exact Below.refl _ _) | (with_reducible assumption) | (with_reducible refine Below.drew ?_) | (with_reducible refine below_drewN ?_ _) | (with_reducible refine Below.setCell ?_ ?_ _) | (with_reducible refine Below.alloc ?_ ?_ _) | go_size | (exact Below.size (by assumption)) | (refine Below.trans ?_ (Below.mono (by assumption) ?_)))))))
                    (first
                      | (go_at_call 41; refine (to_any _ _ _).mono ?_; rintro e w2 ⟨rfl, hb2⟩; (first | replace hb2 := Below.un1 hb2 | replace hb2 := Below.un2 hb2 | skip); obtain ⟨hc2, hf2, hl2, hm2, hw2⟩ := bcell hb2; have hz2 := hb2.size; (try simp only [World.size_alloc, World.size_setCell] at hz2); have ho2 := own_below hown hb2; have hr2 := hrows.map (fun v n xs h => own_below h hb2))
                      | (refine step_appN (by rfl) _ _ _ (by rfl) w2.heap.size 27 _ 2 16 Try.underlying42 info_span rfl (by omega) (.slice (some ⟨w2.heap.size, 0, none⟩) 1 1) 1 [.int .i64 bv, .int .i64 ev] (by rfl) (World.ownsRow_lit w2 #[.int .i64 bv, .int .i64 ev] 1 (Nat.le_refl _) (by simp [maxLen]) rfl) w1.heap.size A' r.length c' (spans r) (by rfl) ?_ (spans_length r) (spans_one r) (by unfold maxLen; omega) (by omega) (by simp) ?_
                         · refine hAr.below ?_
                           (repeat' (first | (with_reducible exact Below.refl _ _) | (with_reducible assumption) | (with_reducible refine Below.drew ?_) | (with_reducible refine below_drewN ?_ _) | (with_reducible refine Below.setCell ?_ ?_ _) | (with_reducible refine Below.alloc ?_ ?_ _) | go_size | (exact Below.size (by assumption)) | (refine Below.trans ?_ (Below.mono (by assumption) ?_))))
                         intro A3 cap3 w3 hcap3 hcap3' hown3 hg3 hk3
                         have hb3 : Below w2.heap.size w2 w3 := ((Below.refl _ _).alloc (Nat.le_refl _) _).grown hg3 (by simp) (by simp [Value.ownBlock])
                         have ho3 := (ho2.alloc (.cells #[.int .i64 bv, .int .i64 ev] 27)).kept hg3 (by rcases hq : u7.ownBlock with _ | q; exact .inl rfl; exact .inr (by have := own_lt ho2 q hq; simp [Value.ownBlock]; omega))
                         have hr3 := hr2.map (fun v n xs h => own_below h hb3)
                         have hb3' := Below.chain hb2 hb3
                         have hz3 := hb3'.size
                         obtain ⟨hc3, hf3, hl3, hm3, hw3⟩ := bcell hb3')
                      | (refine step_appN (by rfl) _ _ _ (by rfl) w1.heap.size 42 _ 1 24 Try.underlying88 info_spans rfl (by omega) _ D.length vs (by rfl) (ho3.alloc _) (w3.heap.size + 1) _ 1 1 [.slice A3 (1 + r.length) cap3] (by rfl) (arr_new w3 #[.slice A3 (1 + r.length) cap3] _) (by rfl) (by simp [Value.oneCell']) (by unfold maxLen; omega) (by omega) (by simp; omega) ?_
                         intro A4 cap4 w4 hcap4 hcap4' hown4 hg4 hk4
                         have hb4 := app_below ho3 (by omega) hg4
                         obtain ⟨hc4, hf4, hl4, hm4, hw4⟩ := bcell hb4))
                  have hr4 := (hr3.map (w' := w4) (fun v n xs h => (h.alloc _).kept hg4 (own_ne h ho3 (by decide)))).snoc (l := ⟨bv, ev⟩ :: r) (v := .slice A3 (1 + r.length) cap3) (by
                    have h := (hown3.alloc (.cells #[.slice A3 (1 + r.length) cap3] 42)).kept hg4 (own_ne hown3 ho3 (by decide))
                    have e1 : (⟨bv, ev⟩ :: r : List When).length = 1 + r.length := by simp; omega
                    rw [e1]
                    exact own_mono h (Nat.le_trans hB.size hb2.size))
                  clear hc2 hf2 hl2 hm2 hw2 hc3 hf3 hl3 hm3 hw3 hc4 hf4 hl4 hm4 hw4
                  go_wp2
                  refine ⟨⟨i + 1, D ++ [⟨bv, ev⟩ :: r], vs ++ [.slice A3 (1 + r.length) cap3], hi1, ?_, ?_, hr4, HD2, ?_⟩, ?_⟩
                  · go_num
                  · rw [List.length_append]; exact hown4
                  · (repeat' (first | (with_reducible exact Below.refl _ _) | (with_reducible assumption) | (with_reducible refine Below.drew ?_) | (with_reducible refine below_drewN ?_ _) | (with_reducible refine Below.setCell ?_ ?_ _) | (with_reducible refine Below.alloc ?_ ?_ _) | go_size | (exact Below.size (by assumption)) | (refine Below.trans ?_ (Below.mono (by assumption) ?_))))
                  · simp [intOf]; omega
                · obtain rfl : i = R.length := by omega
                  go_wp2
                  refine ⟨⟨m + 1, D, vs, by omega, by rw [HE.out], hown, hrows, hid (by
                    have h := HD.out
                    rw [List.drop_length, ← HZ.out] at h
                    simpa using h), hB⟩, by simp [intOf]; omega⟩
            · have hm' : m = g.e.list.length := by omega
              have HM := hid hm'
              have hmm : g.e.hi < g.e.lo + m := by omega
              clear hm'
              go_wp2
              refine ⟨⟨j + 1, D, vs, by omega, by rw [HJ.out], hown, hrows, hid (by
                have h := HD.out
                rw [HM.out, List.drop_length] at h
                rw [HY.out]
                simpa using h), hB⟩, by simp [intOf]; omega⟩
        · have hj' : j = g.b.list.length := by omega
          have HJ := hid hj'
          have hjj : g.b.hi < g.b.lo + j := by omega
          clear hj'
          go_wp2
          go_ret
          obtain ⟨A, cap, rfl, hcm, ha⟩ := hrows.arr2 hown
          have hDT : D = T := by
            have h := HD.out
            rw [HJ.out, List.drop_length] at h
            simpa using h
          subst hDT
          refine ⟨A, cap, rfl, hcm, ha, ?_⟩
          (repeat' (first | (with_reducible exact Below.refl _ _) | (with_reducible assumption) | (with_reducible refine Below.drew ?_) | (with_reducible refine below_drewN ?_ _) | (with_reducible refine Below.setCell ?_ ?_ _) | (with_reducible refine Below.alloc ?_ ?_ _) | go_size | (exact Below.size (by assumption)) | (refine Below.trans ?_ (Below.mono (by assumption) ?_))))
    · obtain rfl : k = fs.length := by omega
      exact truths_end x set A cap fs w hx
end Go.Proofs.Ytnkbcapikenbbaa
