/- What Passed returns. -/
import Derived.Test.YtnkbcapikenbbaaP10
import Derived.Test.YtnkbcapikenbbaaP9
namespace Go.Proofs.Ytnkbcapikenbbaa
set_option linter.unusedSimpArgs false
set_option linter.unusedVariables false
open Go.RowKit Go.Shelf
attribute [local go_sem] Oper.semAt_some
attribute [local go_sem high] cell_set_wr
attribute [local go_sem low] cell_wr frozen_wr
attribute [local go_sem] wr_set wr_drew wr_drewN wr_alloc wr_new

/-- how many minutes lie between two readings, in all dials -/
def passR (set : Int) (XS : List (List Sp)) (a z : Int) : Rc := XS.foldl (fun r x => r.add (passD set x a z)) Rc.zero
theorem passR_snoc (set : Int) (XS : List (List Sp)) (x : List Sp) (a z : Int) : passR set (XS ++ [x]) a z = (passR set XS a z).add (passD set x a z) := by simp [passR]
def pPassedR (c : Ck) (a z : Int) : Sp × Int := if askE c (isReadingB a && isReadingB z) = 0 then rcOut (passR c.set (dialsOf c.frs 4320) a z) else (zeroSp, askE c (isReadingB a && isReadingB z))

set_option maxRecDepth 100000 in
set_option maxHeartbeats 4000000 in
theorem pPassed_any (set : Int) (A : Option Addr) (cap : Nat) (fs : List Fr) (r z : Int) (w : World) (hA : Arr w w.heap.size A (frosts fs)) :
    Calls Try.prog 20 #[.agg #[.int .i64 set, .slice A fs.length cap], .int .i64 r, .int .i64 z] w fun e w' =>
      e = .returned (.tuple #[.agg #[.int .i64 (pPassedR ⟨set, fs⟩ r z).1.lo, .int .i64 (pPassedR ⟨set, fs⟩ r z).1.hi], .int .i64 (pPassedR ⟨set, fs⟩ r z).2]) ∧ Below w.heap.size w w' := by
  have HB : Hid (isReadingB r = (decide (0 ≤ r) && decide (r ≤ 8638))) := hid rfl
  have HZ : Hid (isReadingB z = (decide (0 ≤ z) && decide (z ≤ 8638))) := hid rfl
  have HR : Hid (pPassedR ⟨set, fs⟩ r z = if askE ⟨set, fs⟩ (isReadingB r && isReadingB z) = 0 then rcOut (passR set (dialsOf fs 4320) r z) else (zeroSp, askE ⟨set, fs⟩ (isReadingB r && isReadingB z))) := hid rfl
  refine (callsIn_wide (n := 5)).1 ?_
  refine callsIn_of_wp_marks Try.func20 rfl trivial ?_ rfl
  simp only [Try.ntmps20, List.size_toArray, List.length_cons, List.length_nil, Nat.reduceAdd, Nat.reduceSub, Array.replicate_succ, Array.replicate_zero, List.push_toArray, List.append_toArray, List.nil_append, List.cons_append]
  gi_wp2_with fail
  refine wpIn_wide.2 ?_
  cases hr : isReadingB r
  · have hr' : (decide (0 ≤ r) && decide (r ≤ 8638)) = false := by rw [← HB.out]; exact hr
    have he : askE ⟨set, fs⟩ false ≠ 0 := fun h => by have := (askE_zero h).2; cases this
    have H1 : Hid (pPassedR ⟨set, fs⟩ r z = (zeroSp, askE ⟨set, fs⟩ false)) := hid (by rw [HR.out, hr, Bool.false_and, if_neg he])
    have ht : (askE ⟨set, fs⟩ false != 0) = true := by rw [bne_iff_ne]; exact he
    clear HR he
    refine wp_region_noPanic ?_
    go_region_with (first
        | (go_at_call 56; refine (within_any _ _ _ _).mono ?_; (first | rw [hr'] | rw [← HZ.out]); rintro e w1 ⟨rfl, rfl⟩)
        | (go_at_call 55; refine (refuse_any set A cap fs _ _ ?_).mono ?_; (focus (refine (hA.below ?_).more ?_; (repeat' (first | (with_reducible exact Below.refl _ _) | (with_reducible assumption) | (with_reducible refine Below.drew ?_) | (with_reducible refine below_drewN ?_ _) | (with_reducible refine Below.setCell ?_ ?_ _) | (with_reducible refine Below.alloc ?_ ?_ _) | go_size | (exact Below.size (by assumption)) | (refine Below.trans ?_ (Below.mono (by assumption) ?_)))))); rintro e w2 ⟨rfl, hb2⟩; (first | replace hb2 := Below.un1 hb2 | replace hb2 := Below.un2 hb2 | skip); obtain ⟨hc2, hf2, hl2, hm2, hw2⟩ := bcell hb2; have hz2 := hb2.size; (try simp only [World.size_alloc, World.size_setCell] at hz2)))
    all_goals
      refine NoPanic.normal ?_
      have s2 : Wr w2 (w.heap.size + 1 + 1 + 1) 0 := wr_below (wr_new (by simp) (by simp)) hb2 (by simp)
      have s3 : Wr w2 (w.heap.size + 1 + 1 + 1) 1 := wr_below (wr_new (by simp) (by simp)) hb2 (by simp)
      have hB : Below w.heap.size w w2 := by (repeat' (first | (with_reducible exact Below.refl _ _) | (with_reducible assumption) | (with_reducible refine Below.drew ?_) | (with_reducible refine below_drewN ?_ _) | (with_reducible refine Below.setCell ?_ ?_ _) | (with_reducible refine Below.alloc ?_ ?_ _) | go_size | (exact Below.size (by assumption)) | (refine Below.trans ?_ (Below.mono (by assumption) ?_))))
      clear hc2 hf2 hl2 hm2 hw2 hb2
      gi_wp2
      have n1 := s2.1
      have s0' : ((w2.setCell ⟨w.heap.size + 1 + 1 + 1, 0, none⟩ (.int .i64 0)).setCell ⟨w.heap.size + 1 + 1 + 1, 1, none⟩ (.int .i64 0)).cell? ⟨w.heap.size + 1 + 1 + 1, 0, none⟩ = some (.int .i64 0) :=
        (World.cell?_setCell_other _ _ _ _ (fun e => by cases e)).trans (World.cell?_setCell_same' _ _ _ s2.1)
      have s1' : ((w2.setCell ⟨w.heap.size + 1 + 1 + 1, 0, none⟩ (.int .i64 0)).setCell ⟨w.heap.size + 1 + 1 + 1, 1, none⟩ (.int .i64 0)).cell? ⟨w.heap.size + 1 + 1 + 1, 1, none⟩ = some (.int .i64 0) :=
        World.cell?_setCell_same' _ _ _ (by rw [World.cell?_setCell_other _ _ _ _ (fun e => by cases e)]; exact s3.1)
      have sB' : Below w.heap.size w ((w2.setCell ⟨w.heap.size + 1 + 1 + 1, 0, none⟩ (.int .i64 0)).setCell ⟨w.heap.size + 1 + 1 + 1, 1, none⟩ (.int .i64 0)) := by (repeat' (first | (with_reducible exact Below.refl _ _) | (with_reducible assumption) | (with_reducible refine Below.drew ?_) | (with_reducible refine below_drewN ?_ _) | (with_reducible refine Below.setCell ?_ ?_ _) | (with_reducible refine Below.alloc ?_ ?_ _) | go_size | (exact Below.size (by assumption)) | (refine Below.trans ?_ (Below.mono (by assumption) ?_))))
      generalize (w2.setCell ⟨w.heap.size + 1 + 1 + 1, 0, none⟩ (.int .i64 0)).setCell ⟨w.heap.size + 1 + 1 + 1, 1, none⟩ (.int .i64 0) = V3 at *
      refine ⟨.tuple #[.agg #[.int .i64 0, .int .i64 0], .int .i64 (askE ⟨set, fs⟩ false)], ?_, by rw [H1.out]; rfl, sB'⟩
      simp [results, Try.results20, go_sem, s0', s1']
  · have hr' : (decide (0 ≤ r) && decide (r ≤ 8638)) = true := by rw [← HB.out]; exact hr
    go_region_held3 (fun w' => (w'.cell? ⟨w.heap.size, 0, none⟩ = some (.int .i64 set) ∧ w'.cell? ⟨w.heap.size, 1, none⟩ = some (.slice A fs.length cap) ∧ w'.cell? ⟨w.heap.size + 1, 0, none⟩ = some (.int .i64 r) ∧ w'.cell? ⟨w.heap.size + 1 + 1, 0, none⟩ = some (.int .i64 z) ∧ Wr w' (w.heap.size + 1 + 1 + 1) 0 ∧ Wr w' (w.heap.size + 1 + 1 + 1) 1) ∧ Below w.heap.size w w') (((refine ⟨?_, ?_⟩; (focus (first | (simp [go_sem, wr_set, wr_drew, wr_drewN, wr_alloc, wr_new]; done) | (simp [go_sem, wr_set, wr_drew, wr_drewN, wr_alloc, wr_new, *]; done) | (simp (disch := go_size) [go_sem, wr_set, wr_drew, wr_drewN, wr_alloc, wr_new, *]; done))); (repeat' (first | (with_reducible exact Below.refl _ _) | (with_reducible assumption) | (with_reducible refine Below.drew ?_) | (with_reducible refine below_drewN ?_ _) | (with_reducible refine Below.setCell ?_ ?_ _) | (with_reducible refine Below.alloc ?_ ?_ _) | go_size | (exact Below.size (by assumption)) | (refine Below.trans ?_ (Below.mono (by assumption) ?_)))))))
      (first
        | (go_at_call 56; refine (within_any _ _ _ _).mono ?_; (first | rw [hr'] | rw [← HZ.out]); rintro e w1 ⟨rfl, rfl⟩)
        | (go_at_call 55; refine (refuse_any set A cap fs _ _ ?_).mono ?_; (focus (refine (hA.below ?_).more ?_; (repeat' (first | (with_reducible exact Below.refl _ _) | (with_reducible assumption) | (with_reducible refine Below.drew ?_) | (with_reducible refine below_drewN ?_ _) | (with_reducible refine Below.setCell ?_ ?_ _) | (with_reducible refine Below.alloc ?_ ?_ _) | go_size | (exact Below.size (by assumption)) | (refine Below.trans ?_ (Below.mono (by assumption) ?_)))))); rintro e w2 ⟨rfl, hb2⟩; (first | replace hb2 := Below.un1 hb2 | replace hb2 := Below.un2 hb2 | skip); obtain ⟨hc2, hf2, hl2, hm2, hw2⟩ := bcell hb2; have hz2 := hb2.size; (try simp only [World.size_alloc, World.size_setCell] at hz2)))
    obtain ⟨⟨s0, s1, sr, sz, s2, s3⟩, hB⟩ := ‹(_ ∧ _) ∧ Below w.heap.size w w2›
    clear hc2 hf2 hl2 hm2 hw2 hb2
    have hlw : w.heap.size + 1 + 1 + 1 < w2.heap.size := s2.lt
    have HR2 : Hid (pPassedR ⟨set, fs⟩ r z = if askE ⟨set, fs⟩ (isReadingB z) = 0 then rcOut (passR set (dialsOf fs 4320) r z) else (zeroSp, askE ⟨set, fs⟩ (isReadingB z))) := hid (by rw [HR.out, hr]; rfl)
    by_cases he : askE ⟨set, fs⟩ (isReadingB z) = 0
    · have H1 : Hid (pPassedR ⟨set, fs⟩ r z = rcOut (passR set (dialsOf fs 4320) r z)) := hid (by rw [HR2.out, if_pos he])
      obtain ⟨hok, hzz⟩ := askE_zero he
      obtain ⟨hO, hs1, hs2⟩ := okFs_of hok
      simp only [isReadingB, Bool.and_eq_true, decide_eq_true_eq] at hzz
      have hrr := hr
      simp only [isReadingB, Bool.and_eq_true, decide_eq_true_eq] at hrr
      obtain ⟨z1, z2⟩ := hzz
      obtain ⟨r1, r2⟩ := hrr
      have hl0 : w.heap.size < w2.heap.size := by omega
      have hl1 : w.heap.size + 1 < w2.heap.size := by omega
      have hl2 : w.heap.size + 1 + 1 < w2.heap.size := by omega
      have hok2 := hid (dialsOf_ok fs 4320 hO ⟨by omega, by omega⟩)
      rw [he]
      gi_wp2_with fail
      obtain ⟨W, hW⟩ : ∃ W, W = w2.alloc (.cells #[.int .i64 0, .int .i64 0, .bool false] 96) := ⟨_, rfl⟩
      have hWz : W.heap.size = w2.heap.size + 1 := by rw [hW]; simp
      have hba := (Below.refl w2.heap.size w2).alloc (Nat.le_refl _) (.cells #[.int .i64 0, .int .i64 0, .bool false] 96)
      rw [← hW] at hba
      have hWB : Below w.heap.size w W := hB.trans (hba.mono hB.size)
      have x0 : W.cell? ⟨w.heap.size + 1, 0, none⟩ = some (.int .i64 r) := (hba.cell hl1).trans sr
      have x1 : W.cell? ⟨w.heap.size + 1 + 1, 0, none⟩ = some (.int .i64 z) := (hba.cell hl2).trans sz
      have x2 : Wr W (w.heap.size + 1 + 1 + 1) 0 := wr_below s2 hba hlw
      have x3 : Wr W (w.heap.size + 1 + 1 + 1) 1 := wr_below s3 hba hlw
      have x5 : RBox W w2.heap.size Rc.zero := by rw [hW]; exact ⟨by simp [go_sem, Rc.zero], by simp [go_sem, Rc.zero], by simp [go_sem, Rc.zero], fun o => by simp [go_sem]⟩
      rw [← hW]
      clear hW
      refine ⟨trivial, ?_⟩
      refine (callsIn_wide.2 (dials_any set A cap fs 4320 W ((hA.below hWB).more (by have := hB.size; omega)) hO ⟨by omega, by omega⟩)).mono ?_
      rintro e w1 ⟨cb, S, rfl, hcb1, hcb2, e0, e1, e2, eS, hb1⟩
      gi_wp2_with fail
      have hz1 := hb1.size
      have hzw := hB.size
      have hlls : (fs.map fun f => frostsL f 4320).length = fs.length := by simp
      refine wpIn_rangeM (gf := 90) (lb := #[.pointer (some ⟨W.heap.size, 0, none⟩), .pointer (some ⟨cb, 0, none⟩)]) (by rw [hWz]; rfl) (enters_of Try.func90 (by kernel_rfl) rfl)
        (dials_seq W.heap.size cb w1.heap.size set A S fs.length cap (fs.map fun f => frostsL f 4320) w1 hlls hO.1 (frostsL_small fs 4320 hO) rfl ⟨hcb1, hcb2⟩ e0 e1 e2 eS) (Below.refl _ _) hz1 (fun _ => rfl)
        (fun pre V => RBox V w2.heap.size (passR set pre r z) ∧ (V.cell? ⟨w.heap.size + 1, 0, none⟩ = some (.int .i64 r) ∧ V.cell? ⟨w.heap.size + 1 + 1, 0, none⟩ = some (.int .i64 z) ∧ Wr V (w.heap.size + 1 + 1 + 1) 0 ∧ Wr V (w.heap.size + 1 + 1 + 1) 1) ∧ Below w.heap.size w V)
        (fun _ _ _ => False) ?hI (fun _ _ _ _ h _ => h) ?h0
        (fun x a' V => ∃ b, DBox V b set A fs.length cap x ∧ w1.heap.size ≤ b ∧ a' = { tmps := #[.agg #[.int .i64 set, .slice A fs.length cap], .int .i64 r, .int .i64 z, .pointer (some ⟨w.heap.size, 0, none⟩), .pointer (some ⟨w.heap.size + 1, 0, none⟩), .pointer (some ⟨w.heap.size + 1 + 1, 0, none⟩), .pointer (some ⟨w.heap.size + 1 + 1 + 1, 0, none⟩),
          .int .i64 0, .int .i64 0, .pointer (some ⟨w2.heap.size, 0, none⟩), .pointer (some ⟨b, 0, none⟩), .agg #[.int .i64 set, .slice A fs.length cap], .int .i64 r, .bool true, .bool true, .int .i64 z, .bool (isReadingB z), .bool (isReadingB z), .int .i64 0, .int .i64 0, .bool false, undef, undef,
          .agg #[.int .i64 set, .slice A fs.length cap], .func (.func 90) #[] #[.pointer (some ⟨w2.heap.size + 1, 0, none⟩), .pointer (some ⟨cb, 0, none⟩)], dialV set A fs.length cap x, undef, undef, undef, undef, undef, undef, undef, undef, undef, undef, undef], defers := [] })
        ?hAx ?assign ?body ?done (fun _ _ _ _ _ _ _ h _ => h.elim)
      case hI =>
        rintro s X Y ⟨hr, ⟨a0, a1, a2, a3⟩, hb⟩ hxy
        exact ⟨hr.below hxy (by omega), ⟨(hxy.cell (by simp only; omega)).trans a0, (hxy.cell (by simp only; omega)).trans a1, wr_below a2 hxy (by omega), wr_below a3 hxy (by omega)⟩, hb.trans (hxy.mono (by omega))⟩
      case h0 => exact ⟨x5.below hb1 (by omega), ⟨(hb1.cell (by simp only; omega)).trans x0, (hb1.cell (by simp only; omega)).trans x1, wr_below x2 hb1 (by omega), wr_below x3 hb1 (by omega)⟩, hWB.trans (hb1.mono (by omega))⟩
      case hAx =>
        rintro x a' V l o o' hl ho ⟨b, hD, hb, rfl⟩
        exact ⟨b, hD.put_loop ho, hb, rfl⟩
      case assign =>
        rintro l pre x V K ⟨hr, ⟨a0, a1, a2, a3⟩, hb⟩ hzV hK
        unfold dialV
        gi_wp2
        have hba := (Below.refl V.heap.size V).alloc (Nat.le_refl _) (.cells #[.int .i64 set, .slice A fs.length cap, .int .i64 (nth3 x 0).lo, .int .i64 (nth3 x 0).hi, .int .i64 (nth3 x 1).lo, .int .i64 (nth3 x 1).hi, .int .i64 (nth3 x 2).lo, .int .i64 (nth3 x 2).hi] 105)
        refine hK _ _ ((Mid.refl _ _).alloc _) ⟨hr.below hba (by omega), ⟨(hba.cell (by simp only; omega)).trans a0, (hba.cell (by simp only; omega)).trans a1, wr_below a2 hba (by omega), wr_below a3 hba (by omega)⟩, hb.trans (hba.mono (by omega))⟩
          ⟨V.heap.size, ⟨by simp [go_sem], by simp [go_sem], by simp [go_sem], by simp [go_sem], by simp [go_sem], by simp [go_sem], by simp [go_sem], by simp [go_sem], fun k => by simp [go_sem]⟩, hzV, rfl⟩
      case body =>
        rintro l pre x a' V hzV ⟨hr, ⟨a0, a1, a2, a3⟩, hb⟩ ⟨b, hD, hbb, rfl⟩ hpre
        obtain ⟨f0, f1, f2, rfl, hOD⟩ := hok2.out x (hpre.subset (by simp))
        have hDb := hD.lt
        obtain ⟨d0, d1, d2, d3, d4, d5, d6, d7, _⟩ := hD
        simp only [show nth3 [f0, f1, f2] 0 = f0 from rfl, show nth3 [f0, f1, f2] 1 = f1 from rfl, show nth3 [f0, f1, f2] 2 = f2 from rfl] at d2 d3 d4 d5 d6 d7
        gi_wp2_with (first
          | (refine ⟨trivial, ?_⟩; gi_at_call 69; refine (callsIn_wide.2 (passed_any set A fs.length cap f0 f1 f2 r z _ ⟨hs1, hs2⟩ hOD ⟨r1, r2⟩ ⟨z1, z2⟩)).mono ?_; rintro e w3 ⟨rfl, hb3⟩; (first | replace hb3 := Below.un1 hb3 | replace hb3 := Below.un2 hb3 | skip); obtain ⟨hc3, hf3, hl3, hm3, hw3⟩ := bcell hb3; have hz3 := hb3.size; (try simp only [World.size_alloc, World.size_setCell] at hz3); have hr2 := hr.below hb3 (by omega))
          | (refine ⟨trivial, ?_⟩; gi_at_call 68; refine (callsIn_wide.2 (add_any _ _ _ _ _ hr2)).mono ?_; rintro e w4 ⟨⟨v3, rfl⟩, hr3, hbt⟩))
        have hz3 := hb3.size
        have hBt := hbt.below (B := w.heap.size) (by omega) (by omega)
        have hk : ∀ b o, b < w.heap.size + 4 → w4.cell? ⟨b, o, none⟩ = V.cell? ⟨b, o, none⟩ := fun b o h => (hbt.cell (by omega) (by omega) o).trans (hb3.cell (p := ⟨b, o, none⟩) (by simp only; omega))
        refine ⟨(Mid.of_below hb3).trans (hbt.mid (by omega)), ?_, ⟨(hk _ _ (by omega)).trans a0, (hk _ _ (by omega)).trans a1, ?_, ?_⟩, (hb.trans (hb3.mono (by omega))).trans hBt⟩
        · rw [passR_snoc]; exact hr3
        · exact (wr_below a2 hb3 (by omega)).but hbt (by omega)
        · exact (wr_below a3 hb3 (by omega)).but hbt (by omega)
      case done =>
        rintro D V hD ⟨hr, ⟨a0, a1, a2, a3⟩, hb⟩ hK
        obtain ⟨q0, q1, q2, _⟩ := hr
        have hDD : dialsL (fs.map fun f => frostsL f 4320) = dialsOf fs 4320 := rfl
        rw [hDD] at q0 q1 q2
        generalize passR set (dialsOf fs 4320) r z = T at *
        have hDn : w.heap.size + 1 + 1 + 1 ≠ D := by omega
        cases hT : T.any
        · have H2 : Hid (pPassedR ⟨set, fs⟩ r z = (zeroSp, 4)) := hid (by rw [H1.out]; unfold rcOut; rw [hT]; rfl)
          rw [hT] at q2
          gi_wp2
          have s0 : ((V.setCell ⟨w.heap.size + 1 + 1 + 1, 0, none⟩ (.int .i64 0)).setCell ⟨w.heap.size + 1 + 1 + 1, 1, none⟩ (.int .i64 0)).cell? ⟨w.heap.size + 1 + 1 + 1, 0, none⟩ = some (.int .i64 0) :=
            (World.cell?_setCell_other _ _ _ _ (fun e => by cases e)).trans (World.cell?_setCell_same' _ _ _ a2.1)
          have s1 : ((V.setCell ⟨w.heap.size + 1 + 1 + 1, 0, none⟩ (.int .i64 0)).setCell ⟨w.heap.size + 1 + 1 + 1, 1, none⟩ (.int .i64 0)).cell? ⟨w.heap.size + 1 + 1 + 1, 1, none⟩ = some (.int .i64 0) :=
            World.cell?_setCell_same' _ _ _ (by rw [World.cell?_setCell_other _ _ _ _ (fun e => by cases e)]; exact a3.1)
          have sB : Below w.heap.size w ((V.setCell ⟨w.heap.size + 1 + 1 + 1, 0, none⟩ (.int .i64 0)).setCell ⟨w.heap.size + 1 + 1 + 1, 1, none⟩ (.int .i64 0)) := by (repeat' (first | (with_reducible exact Below.refl _ _) | (with_reducible assumption) | (with_reducible refine Below.drew ?_) | (with_reducible refine below_drewN ?_ _) | (with_reducible refine Below.setCell ?_ ?_ _) | (with_reducible refine Below.alloc ?_ ?_ _) | go_size | (exact Below.size (by assumption)) | (refine Below.trans ?_ (Below.mono (by assumption) ?_))))
          have sD : ((V.setCell ⟨w.heap.size + 1 + 1 + 1, 0, none⟩ (.int .i64 0)).setCell ⟨w.heap.size + 1 + 1 + 1, 1, none⟩ (.int .i64 0)).heap[D]? = some (.deferred (some [])) := by
            rw [Below.heap_setCell _ _ _ _ (fun e => hDn e.symm), Below.heap_setCell _ _ _ _ (fun e => hDn e.symm)]; exact hK
          generalize ((V.setCell ⟨w.heap.size + 1 + 1 + 1, 0, none⟩ (.int .i64 0)).setCell ⟨w.heap.size + 1 + 1 + 1, 1, none⟩ (.int .i64 0)) = V2 at *
          refine ⟨by simp, .inl ⟨_, _, rfl, run_takeDeferred (ds := []) sD, ?_⟩⟩
          have u0 : (V2.putObj D (.deferred none)).cell? ⟨w.heap.size + 1 + 1 + 1, 0, none⟩ = some (.int .i64 0) := (World.cell?_of_block (w := V2) (World.putObj_heap_other hDn)).trans s0
          have u1 : (V2.putObj D (.deferred none)).cell? ⟨w.heap.size + 1 + 1 + 1, 1, none⟩ = some (.int .i64 0) := (World.cell?_of_block (w := V2) (World.putObj_heap_other hDn)).trans s1
          have uB : Below w.heap.size w (V2.putObj D (.deferred none)) := sB.trans ((Below.refl w.heap.size V2).grown (grownBy_putObj' V2 D (.deferred none)) sB.size (fun k e => by cases e; omega))
          generalize V2.putObj D (.deferred none) = V3 at *
          refine ⟨.tuple #[.agg #[.int .i64 0, .int .i64 0], .int .i64 4], ?_, by rw [H2.out]; rfl, uB⟩
          simp [results, Try.results20, go_sem, u0, u1]
        · have H2 : Hid (pPassedR ⟨set, fs⟩ r z = (⟨T.lo, T.hi⟩, 0)) := hid (by rw [H1.out]; unfold rcOut; rw [hT]; rfl)
          rw [hT] at q2
          gi_wp2
          have s0 : ((V.setCell ⟨w.heap.size + 1 + 1 + 1, 0, none⟩ (.int .i64 T.lo)).setCell ⟨w.heap.size + 1 + 1 + 1, 1, none⟩ (.int .i64 T.hi)).cell? ⟨w.heap.size + 1 + 1 + 1, 0, none⟩ = some (.int .i64 T.lo) :=
            (World.cell?_setCell_other _ _ _ _ (fun e => by cases e)).trans (World.cell?_setCell_same' _ _ _ a2.1)
          have s1 : ((V.setCell ⟨w.heap.size + 1 + 1 + 1, 0, none⟩ (.int .i64 T.lo)).setCell ⟨w.heap.size + 1 + 1 + 1, 1, none⟩ (.int .i64 T.hi)).cell? ⟨w.heap.size + 1 + 1 + 1, 1, none⟩ = some (.int .i64 T.hi) :=
            World.cell?_setCell_same' _ _ _ (by rw [World.cell?_setCell_other _ _ _ _ (fun e => by cases e)]; exact a3.1)
          have sB : Below w.heap.size w ((V.setCell ⟨w.heap.size + 1 + 1 + 1, 0, none⟩ (.int .i64 T.lo)).setCell ⟨w.heap.size + 1 + 1 + 1, 1, none⟩ (.int .i64 T.hi)) := by (repeat' (first | (with_reducible exact Below.refl _ _) | (with_reducible assumption) | (with_reducible refine Below.drew ?_) | (with_reducible refine below_drewN ?_ _) | (with_reducible refine Below.setCell ?_ ?_ _) | (with_reducible refine Below.alloc ?_ ?_ _) | go_size | (exact Below.size (by assumption)) | (refine Below.trans ?_ (Below.mono (by assumption) ?_))))
          have sD : ((V.setCell ⟨w.heap.size + 1 + 1 + 1, 0, none⟩ (.int .i64 T.lo)).setCell ⟨w.heap.size + 1 + 1 + 1, 1, none⟩ (.int .i64 T.hi)).heap[D]? = some (.deferred (some [])) := by
            rw [Below.heap_setCell _ _ _ _ (fun e => hDn e.symm), Below.heap_setCell _ _ _ _ (fun e => hDn e.symm)]; exact hK
          generalize ((V.setCell ⟨w.heap.size + 1 + 1 + 1, 0, none⟩ (.int .i64 T.lo)).setCell ⟨w.heap.size + 1 + 1 + 1, 1, none⟩ (.int .i64 T.hi)) = V2 at *
          refine ⟨by simp, .inl ⟨_, _, rfl, run_takeDeferred (ds := []) sD, ?_⟩⟩
          have u0 : (V2.putObj D (.deferred none)).cell? ⟨w.heap.size + 1 + 1 + 1, 0, none⟩ = some (.int .i64 T.lo) := (World.cell?_of_block (w := V2) (World.putObj_heap_other hDn)).trans s0
          have u1 : (V2.putObj D (.deferred none)).cell? ⟨w.heap.size + 1 + 1 + 1, 1, none⟩ = some (.int .i64 T.hi) := (World.cell?_of_block (w := V2) (World.putObj_heap_other hDn)).trans s1
          have uB : Below w.heap.size w (V2.putObj D (.deferred none)) := sB.trans ((Below.refl w.heap.size V2).grown (grownBy_putObj' V2 D (.deferred none)) sB.size (fun k e => by cases e; omega))
          generalize V2.putObj D (.deferred none) = V3 at *
          refine ⟨.tuple #[.agg #[.int .i64 T.lo, .int .i64 T.hi], .int .i64 0], ?_, by rw [H2.out], uB⟩
          simp [results, Try.results20, go_sem, u0, u1]
    · have H1 : Hid (pPassedR ⟨set, fs⟩ r z = (zeroSp, askE ⟨set, fs⟩ (isReadingB z))) := hid (by rw [HR2.out, if_neg he])
      have ht : (askE ⟨set, fs⟩ (isReadingB z) != 0) = true := by rw [bne_iff_ne]; exact he
      clear HR HR2 he
      gi_wp2
      have n1 := s2.1
      have s0' : ((w2.setCell ⟨w.heap.size + 1 + 1 + 1, 0, none⟩ (.int .i64 0)).setCell ⟨w.heap.size + 1 + 1 + 1, 1, none⟩ (.int .i64 0)).cell? ⟨w.heap.size + 1 + 1 + 1, 0, none⟩ = some (.int .i64 0) :=
        (World.cell?_setCell_other _ _ _ _ (fun e => by cases e)).trans (World.cell?_setCell_same' _ _ _ s2.1)
      have s1' : ((w2.setCell ⟨w.heap.size + 1 + 1 + 1, 0, none⟩ (.int .i64 0)).setCell ⟨w.heap.size + 1 + 1 + 1, 1, none⟩ (.int .i64 0)).cell? ⟨w.heap.size + 1 + 1 + 1, 1, none⟩ = some (.int .i64 0) :=
        World.cell?_setCell_same' _ _ _ (by rw [World.cell?_setCell_other _ _ _ _ (fun e => by cases e)]; exact s3.1)
      have sB' : Below w.heap.size w ((w2.setCell ⟨w.heap.size + 1 + 1 + 1, 0, none⟩ (.int .i64 0)).setCell ⟨w.heap.size + 1 + 1 + 1, 1, none⟩ (.int .i64 0)) := by (repeat' (first | (with_reducible exact Below.refl _ _) | (with_reducible assumption) | (with_reducible refine Below.drew ?_) | (with_reducible refine below_drewN ?_ _) | (with_reducible refine Below.setCell ?_ ?_ _) | (with_reducible refine Below.alloc ?_ ?_ _) | go_size | (exact Below.size (by assumption)) | (refine Below.trans ?_ (Below.mono (by assumption) ?_))))
      generalize (w2.setCell ⟨w.heap.size + 1 + 1 + 1, 0, none⟩ (.int .i64 0)).setCell ⟨w.heap.size + 1 + 1 + 1, 1, none⟩ (.int .i64 0) = V3 at *
      refine ⟨.tuple #[.agg #[.int .i64 0, .int .i64 0], .int .i64 (askE ⟨set, fs⟩ (isReadingB z))], ?_, by rw [H1.out]; rfl, sB'⟩
      simp [results, Try.results20, go_sem, s0', s1']
end Go.Proofs.Ytnkbcapikenbbaa
