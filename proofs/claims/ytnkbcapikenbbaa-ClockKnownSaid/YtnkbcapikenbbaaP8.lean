/- The checks of package clock. -/
import Derived.Test.YtnkbcapikenbbaaP1
import Derived.Test.YtnkbcapikenbbaaR4
namespace Go.Proofs.Ytnkbcapikenbbaa
set_option linter.unusedSimpArgs false
set_option linter.unusedVariables false
open Go.RowKit
attribute [local go_sem high] cell_set_wr
attribute [local go_sem low] cell_wr frozen_wr
attribute [local go_sem] wr_set wr_drew wr_drewN wr_alloc wr_new

theorem pCheck_any (set : Int) (A : Option Addr) (cap : Nat) (fs : List Fr) (w : World) (hA : Arr w w.heap.size A (frosts fs)) :
    Calls Try.prog 16 #[.agg #[.int .i64 set, .slice A fs.length cap]] w fun e w' => e = .returned (.int .i64 (checkE ⟨set, fs⟩)) ∧ Below w.heap.size w w' := by
  have HE : Hid (checkE ⟨set, fs⟩ = if decide (0 ≤ set) && (decide (set ≤ 4319) && (decide (fs.length ≤ 3) && chk 0 fs)) then 0 else 10) := hid rfl
  by_cases h1 : 0 ≤ set ∧ set ≤ 4319
  · obtain ⟨h1, h2⟩ := h1
    by_cases h3 : fs.length ≤ 3
    · have HE2 : Hid (checkE ⟨set, fs⟩ = if chk 0 fs then 0 else 10) := hid (by rw [HE.out]; simp [h1, h2, h3])
      clear HE
      go_enter Try.func16, Try.ntmps16
      go_wp2_with (go_at_call 56; refine (within_any _ _ _ _).mono ?_; rintro e w1 ⟨rfl, rfl⟩)
      go_loopw [3, 19] (fun ov i wr => ∃ (k : Nat) (o : Int), k ≤ fs.length ∧ i = .int .i64 k ∧ ov = .int .i64 o ∧ Hid (chk 0 fs = chk o (fs.drop k)) ∧ Below (w.heap.size + 1) (w.alloc (.cells #[.int .i64 set, .slice A fs.length cap] 24)) wr) (fun _ i _ => fs.length - (intOf i).toNat)
      case atStart => exact ⟨0, 0, Nat.zero_le _, rfl, rfl, hid rfl, Below.refl _ _⟩
      case round =>
        obtain ⟨k, o, hk, rfl, rfl, HK, hB⟩ := hrel
        have hb0 : wr.cell? ⟨w.heap.size, 0, none⟩ = some (.int .i64 set) := (hB.cell (by simp)).trans (by simp [go_sem])
        have hb1 : wr.cell? ⟨w.heap.size, 1, none⟩ = some (.slice A fs.length cap) := (hB.cell (by simp)).trans (by simp [go_sem])
        obtain ⟨-, -, hlr, hmr, -⟩ := bcell hB
        have hzr := hB.size
        simp only [World.size_alloc] at hzr
        by_cases hlt : k < fs.length
        · obtain ⟨b, o', rfl, hb, c0, c1, c2, c3⟩ := (hA.below (Below.of_alloc hB)).fr hlt
          have HD := hid (chk_drop o fs k hlt)
          have HO : Hid (okFr o fs[k] = (nearB fs[k].b && (nearB fs[k].e && (decide (o ≤ fs[k].b.lo) && decide (fs[k].b.hi ≤ fs[k].e.lo))))) := hid rfl
          clear hA
          generalize hg : fs[k] = g at *
          have HG := hid hg
          clear hg
          by_cases n1 : nearB g.b = true ∧ nearB g.e = true ∧ o ≤ g.b.lo ∧ g.b.hi ≤ g.e.lo
          · obtain ⟨n1, n2, n3, n4⟩ := n1
            have HN : Hid (okFr o g = true) := hid (by rw [HO.out, n1, n2]; simp [n3, n4])
            go_wp2_with (go_at_call 61; refine (isNarrow_any _ _ _).mono ?_; rintro e w1 ⟨rfl, hb1⟩; (first | replace hb1 := Below.un1 hb1 | replace hb1 := Below.un2 hb1 | skip); obtain ⟨hc1, hf1, hl1, hm1, hw1⟩ := bcell hb1; have hz1 := hb1.size; (try simp only [World.size_alloc, World.size_setCell] at hz1))
            refine ⟨⟨k + 1, g.e.hi, by omega, by go_num, rfl, hid (by rw [HK.out, HD.out, HN.out]; rfl), ?_⟩, by simp [intOf]; omega⟩
            (repeat' (first | (with_reducible exact Below.refl _ _) | (with_reducible assumption) | (with_reducible refine Below.drew ?_) | (with_reducible refine below_drewN ?_ _) | (with_reducible refine Below.setCell ?_ ?_ _) | (with_reducible refine Below.alloc ?_ ?_ _) | go_size | (exact Below.size (by assumption)) | (refine Below.trans ?_ (Below.mono (by assumption) ?_))))
          · have HN : Hid (okFr o g = false) := hid (by
              rw [HO.out]; revert n1; cases nearB g.b <;> cases nearB g.e <;> simp <;> omega)
            cases n1 : nearB g.b
            all_goals (try cases n2 : nearB g.e)
            all_goals
              go_wp2_with (go_at_call 61; refine (isNarrow_any _ _ _).mono ?_; rintro e w1 ⟨rfl, hb1⟩; (first | replace hb1 := Below.un1 hb1 | replace hb1 := Below.un2 hb1 | skip); obtain ⟨hc1, hf1, hl1, hm1, hw1⟩ := bcell hb1; have hz1 := hb1.size; (try simp only [World.size_alloc, World.size_setCell] at hz1))
              all_goals first
                | (go_ret; exact ⟨ret_int (by rw [HE2.out, HK.out, HD.out, HN.out]; rfl), by (repeat' (first | (with_reducible exact Below.refl _ _) | (with_reducible assumption) | (with_reducible refine Below.drew ?_) | (with_reducible refine below_drewN ?_ _) | (with_reducible refine Below.setCell ?_ ?_ _) | (with_reducible refine Below.alloc ?_ ?_ _) | go_size | (exact Below.size (by assumption)) | (refine Below.trans ?_ (Below.mono (by assumption) ?_))))⟩)
                | (exfalso; simp_all)
        · obtain rfl : k = fs.length := by omega
          go_wp2
          go_ret
          exact ⟨ret_int (by rw [HE2.out, HK.out, List.drop_length]; rfl), by (repeat' (first | (with_reducible exact Below.refl _ _) | (with_reducible assumption) | (with_reducible refine Below.drew ?_) | (with_reducible refine below_drewN ?_ _) | (with_reducible refine Below.setCell ?_ ?_ _) | (with_reducible refine Below.alloc ?_ ?_ _) | go_size | (exact Below.size (by assumption)) | (refine Below.trans ?_ (Below.mono (by assumption) ?_))))⟩
    · have HE2 : Hid (checkE ⟨set, fs⟩ = 10) := hid (by rw [HE.out]; simp [h3])
      go_enter Try.func16, Try.ntmps16
      go_wp2_with (go_at_call 56; refine (within_any _ _ _ _).mono ?_; rintro e w1 ⟨rfl, rfl⟩)
      go_ret
      exact ⟨ret_int (by rw [HE2.out]), by (repeat' (first | (with_reducible exact Below.refl _ _) | (with_reducible assumption) | (with_reducible refine Below.drew ?_) | (with_reducible refine below_drewN ?_ _) | (with_reducible refine Below.setCell ?_ ?_ _) | (with_reducible refine Below.alloc ?_ ?_ _) | go_size | (exact Below.size (by assumption)) | (refine Below.trans ?_ (Below.mono (by assumption) ?_))))⟩
  · have HE2 : Hid (checkE ⟨set, fs⟩ = 10) := hid (by rw [HE.out]; simp; omega)
    have hb : (decide (0 ≤ set) && decide (set ≤ 4319)) = false := by simp; omega
    go_enter Try.func16, Try.ntmps16
    go_wp2_with (go_at_call 56; refine (within_any _ _ _ _).mono ?_; rintro e w1 ⟨rfl, rfl⟩)
    all_goals
      go_ret
      exact ⟨ret_int (by rw [HE2.out]), by (repeat' (first | (with_reducible exact Below.refl _ _) | (with_reducible assumption) | (with_reducible refine Below.drew ?_) | (with_reducible refine below_drewN ?_ _) | (with_reducible refine Below.setCell ?_ ?_ _) | (with_reducible refine Below.alloc ?_ ?_ _) | go_size | (exact Below.size (by assumption)) | (refine Below.trans ?_ (Below.mono (by assumption) ?_))))⟩
theorem refuse_any (set : Int) (A : Option Addr) (cap : Nat) (fs : List Fr) (q : Bool) (w : World) (hA : Arr w w.heap.size A (frosts fs)) :
    Calls Try.prog 55 #[.agg #[.int .i64 set, .slice A fs.length cap], .bool q] w fun e w' => e = .returned (.int .i64 (askE ⟨set, fs⟩ q)) ∧ Below w.heap.size w w' := by
  have HE : Hid (askE ⟨set, fs⟩ q = if (Ck.ok ⟨set, fs⟩) then (if q then 0 else 11) else 10) := hid rfl
  have HC : Hid (checkE ⟨set, fs⟩ = if (Ck.ok ⟨set, fs⟩) then 0 else 10) := hid rfl
  have hba := (Below.refl w.heap.size w).alloc (Nat.le_refl _) (.cells #[.int .i64 set, .slice A fs.length cap] 24)
  have hA' := (hA.below hba).more (by simp : w.heap.size ≤ (w.alloc (.cells #[.int .i64 set, .slice A fs.length cap] 24)).heap.size)
  cases ho : (Ck.ok ⟨set, fs⟩)
  · have HO := hid ho
    have HC2 : Hid (checkE ⟨set, fs⟩ = 10) := hid (by rw [HC.out, HO.out]; rfl)
    go_enter Try.func55, Try.ntmps55
    go_wp2_with (go_at_call 16; refine (pCheck_any _ _ _ _ _ hA').mono ?_; rw [HC2.out]; rintro e w1 ⟨rfl, hb1⟩; (first | replace hb1 := Below.un1 hb1 | replace hb1 := Below.un2 hb1 | skip); obtain ⟨hc1, hf1, hl1, hm1, hw1⟩ := bcell hb1; have hz1 := hb1.size; (try simp only [World.size_alloc, World.size_setCell] at hz1))
    go_ret
    exact ⟨ret_int (by rw [HE.out, HO.out]; rfl), by (repeat' (first | (with_reducible exact Below.refl _ _) | (with_reducible assumption) | (with_reducible refine Below.drew ?_) | (with_reducible refine below_drewN ?_ _) | (with_reducible refine Below.setCell ?_ ?_ _) | (with_reducible refine Below.alloc ?_ ?_ _) | go_size | (exact Below.size (by assumption)) | (refine Below.trans ?_ (Below.mono (by assumption) ?_))))⟩
  · have HO := hid ho
    have HC2 : Hid (checkE ⟨set, fs⟩ = 0) := hid (by rw [HC.out, HO.out]; rfl)
    cases q
    all_goals
      go_enter Try.func55, Try.ntmps55
      go_wp2_with (go_at_call 16; refine (pCheck_any _ _ _ _ _ hA').mono ?_; rw [HC2.out]; rintro e w1 ⟨rfl, hb1⟩; (first | replace hb1 := Below.un1 hb1 | replace hb1 := Below.un2 hb1 | skip); obtain ⟨hc1, hf1, hl1, hm1, hw1⟩ := bcell hb1; have hz1 := hb1.size; (try simp only [World.size_alloc, World.size_setCell] at hz1))
      go_ret
      exact ⟨ret_int (by rw [HE.out, HO.out]; rfl), by (repeat' (first | (with_reducible exact Below.refl _ _) | (with_reducible assumption) | (with_reducible refine Below.drew ?_) | (with_reducible refine below_drewN ?_ _) | (with_reducible refine Below.setCell ?_ ?_ _) | (with_reducible refine Below.alloc ?_ ?_ _) | go_size | (exact Below.size (by assumption)) | (refine Below.trans ?_ (Below.mono (by assumption) ?_))))⟩

set_option maxRecDepth 100000 in
set_option maxHeartbeats 4000000 in
theorem pIsBook_any (A : Option Addr) (cap : Nat) (l : List Ln) (w : World) (hA : Arr w w.heap.size A (lines l)) (hl : l.length ≤ 281474976710656) :
    Calls Try.prog 70 #[.slice A l.length cap] w fun e w' => e = .returned (.bool (bookB l)) ∧ Below w.heap.size w w' := by
  have HE : Hid (bookB l = (decide (l.length ≤ 6) && l.all lineB)) := hid rfl
  go_enter Try.func70, Try.ntmps70
  go_wp2
  go_loopw [7] (fun i wr => ∃ (k : Nat), k ≤ l.length ∧ i = .int .i64 k ∧ Hid (l.all lineB = (l.drop k).all lineB) ∧ Below w.heap.size w wr) (fun i _ => l.length - (intOf i).toNat)
  case atStart => exact ⟨0, Nat.zero_le _, rfl, hid (by simp), Below.refl _ _⟩
  case round =>
    obtain ⟨k, hk, rfl, HB, hB⟩ := hrel
    have hzr := hB.size
    by_cases hlt : k < l.length
    · obtain ⟨b, o, rfl, hb, c0, c1, c2⟩ := (hA.below hB).ln hlt
      have HT := hid (all_take lineB l k hlt)
      have HL : Hid (lineB l[k] = (isReadingB l[k].r && minutesB l[k].k)) := hid rfl
      have HR : Hid (isReadingB l[k].r = (decide (0 ≤ l[k].r) && decide (l[k].r ≤ 8638))) := hid rfl
      have hi1 : k + 1 ≤ l.length := hlt
      clear hA
      generalize l[k] = x at *
      cases hr : isReadingB x.r
      · have hr' : (decide (0 ≤ x.r) && decide (x.r ≤ 8638)) = false := by rw [← HR.out]; exact hr
        have HR2 := hid hr
        go_wp2_with (first
          | (go_at_call 56; refine (within_any _ _ _ _).mono ?_; rw [hr']; rintro e w1 ⟨rfl, rfl⟩))
        go_ret
        exact ⟨ret_bool (by rw [HE.out, HB.out, HT.out, HL.out, HR2.out]; simp), by (repeat' (first | (with_reducible exact Below.refl _ _) | (with_reducible assumption) | (with_reducible refine Below.drew ?_) | (with_reducible refine below_drewN ?_ _) | (with_reducible refine Below.setCell ?_ ?_ _) | (with_reducible refine Below.alloc ?_ ?_ _) | go_size | (exact Below.size (by assumption)) | (refine Below.trans ?_ (Below.mono (by assumption) ?_))))⟩
      · have hr' : (decide (0 ≤ x.r) && decide (x.r ≤ 8638)) = true := by rw [← HR.out]; exact hr
        have HR2 := hid hr
        cases hm : minutesB x.k
        · have HM := hid hm
          go_wp2_with (first
            | (go_at_call 56; refine (within_any _ _ _ _).mono ?_; rw [hr']; rintro e w1 ⟨rfl, rfl⟩)
            | (go_at_call 86; refine (isSpan_any _ _ _).mono ?_; rw [HM.out]; rintro e w2 ⟨rfl, hb2⟩; (first | replace hb2 := Below.un1 hb2 | replace hb2 := Below.un2 hb2 | skip); obtain ⟨hc2, hf2, hl2, hm2, hw2⟩ := bcell hb2; have hz2 := hb2.size; (try simp only [World.size_alloc, World.size_setCell] at hz2)))
          go_ret
          exact ⟨ret_bool (by rw [HE.out, HB.out, HT.out, HL.out, HM.out]; simp), by (repeat' (first | (with_reducible exact Below.refl _ _) | (with_reducible assumption) | (with_reducible refine Below.drew ?_) | (with_reducible refine below_drewN ?_ _) | (with_reducible refine Below.setCell ?_ ?_ _) | (with_reducible refine Below.alloc ?_ ?_ _) | go_size | (exact Below.size (by assumption)) | (refine Below.trans ?_ (Below.mono (by assumption) ?_))))⟩
        · have HM := hid hm
          go_wp2_with (first
            | (go_at_call 56; refine (within_any _ _ _ _).mono ?_; rw [hr']; rintro e w1 ⟨rfl, rfl⟩)
            | (go_at_call 86; refine (isSpan_any _ _ _).mono ?_; rw [HM.out]; rintro e w2 ⟨rfl, hb2⟩; (first | replace hb2 := Below.un1 hb2 | replace hb2 := Below.un2 hb2 | skip); obtain ⟨hc2, hf2, hl2, hm2, hw2⟩ := bcell hb2; have hz2 := hb2.size; (try simp only [World.size_alloc, World.size_setCell] at hz2)))
          refine ⟨⟨k + 1, hi1, by go_num, hid (by rw [HB.out, HT.out, HL.out, HR2.out, HM.out]; simp), ?_⟩, by simp [intOf]; omega⟩
          (repeat' (first | (with_reducible exact Below.refl _ _) | (with_reducible assumption) | (with_reducible refine Below.drew ?_) | (with_reducible refine below_drewN ?_ _) | (with_reducible refine Below.setCell ?_ ?_ _) | (with_reducible refine Below.alloc ?_ ?_ _) | go_size | (exact Below.size (by assumption)) | (refine Below.trans ?_ (Below.mono (by assumption) ?_))))
    · obtain rfl : k = l.length := by omega
      go_wp2
      go_ret
      exact ⟨ret_bool (by rw [HE.out, HB.out, List.drop_length]; simp; omega), by (repeat' (first | (with_reducible exact Below.refl _ _) | (with_reducible assumption) | (with_reducible refine Below.drew ?_) | (with_reducible refine below_drewN ?_ _) | (with_reducible refine Below.setCell ?_ ?_ _) | (with_reducible refine Below.alloc ?_ ?_ _) | go_size | (exact Below.size (by assumption)) | (refine Below.trans ?_ (Below.mono (by assumption) ?_))))⟩
end Go.Proofs.Ytnkbcapikenbbaa
