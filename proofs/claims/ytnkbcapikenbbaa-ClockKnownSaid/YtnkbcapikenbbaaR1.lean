/- What the small functions of clavendierref01 return, for any clock, line and book. -/
import Derived.Test.YtnkbcapikenbbaaB2
namespace Go.Proofs.Ytnkbcapikenbbaa
set_option linter.unusedSimpArgs false
set_option linter.unusedVariables false
open Go.RowKit

theorem rMinutes_any (lo hi : Int) (w : World) :
    Calls Try.prog 87 #[.agg #[.int .i64 lo, .int .i64 hi]] w fun e w' => e = .returned (.bool (minutesB ⟨lo, hi⟩)) ∧ Below w.heap.size w w' := by
  go_enter Try.func87, Try.ntmps87
  go_wp2_with (go_at_call 81; refine (spans_any _ _ _ _ _).mono ?_; rintro e w1 ⟨rfl, hb1⟩; (first | replace hb1 := Below.un1 hb1 | replace hb1 := Below.un2 hb1 | skip); obtain ⟨hc1, hf1, hl1, hm1, hw1⟩ := bcell hb1; have hz1 := hb1.size; (try simp only [World.size_alloc, World.size_setCell] at hz1))
  go_ret
  exact ⟨rfl, by (repeat' (first | (with_reducible exact Below.refl _ _) | (with_reducible assumption) | (with_reducible refine Below.drew ?_) | (with_reducible refine below_drewN ?_ _) | (with_reducible refine Below.setCell ?_ ?_ _) | (with_reducible refine Below.alloc ?_ ?_ _) | go_size | (exact Below.size (by assumption)) | (refine Below.trans ?_ (Below.mono (by assumption) ?_))))⟩

theorem rNear_any (lo hi : Int) (w : World) :
    Calls Try.prog 62 #[.agg #[.int .i64 lo, .int .i64 hi]] w fun e w' => e = .returned (.bool (nearB ⟨lo, hi⟩)) ∧ Below w.heap.size w w' := by
  have HN : Hid (nearB ⟨lo, hi⟩ = (minutesB ⟨lo, hi⟩ && decide (hi - lo ≤ 3))) := hid rfl
  cases hm : minutesB ⟨lo, hi⟩
  · have HM := hid hm
    go_enter Try.func62, Try.ntmps62
    go_wp2_with (go_at_call 87; refine (rMinutes_any _ _ _).mono ?_; rintro e w1 ⟨rfl, hb1⟩; (first | replace hb1 := Below.un1 hb1 | replace hb1 := Below.un2 hb1 | skip); obtain ⟨hc1, hf1, hl1, hm1, hw1⟩ := bcell hb1; have hz1 := hb1.size; (try simp only [World.size_alloc, World.size_setCell] at hz1))
    go_ret
    exact ⟨ret_bool (by rw [HN.out, HM.out]; rfl), by (repeat' (first | (with_reducible exact Below.refl _ _) | (with_reducible assumption) | (with_reducible refine Below.drew ?_) | (with_reducible refine below_drewN ?_ _) | (with_reducible refine Below.setCell ?_ ?_ _) | (with_reducible refine Below.alloc ?_ ?_ _) | go_size | (exact Below.size (by assumption)) | (refine Below.trans ?_ (Below.mono (by assumption) ?_))))⟩
  · have HM := hid hm
    have h0 : 0 ≤ lo ∧ lo ≤ hi ∧ hi ≤ 4319 := by simpa [minutesB] using hm
    obtain ⟨h1, h2, h3⟩ := h0
    go_enter Try.func62, Try.ntmps62
    go_wp2_with (go_at_call 87; refine (rMinutes_any _ _ _).mono ?_; rintro e w1 ⟨rfl, hb1⟩; (first | replace hb1 := Below.un1 hb1 | replace hb1 := Below.un2 hb1 | skip); obtain ⟨hc1, hf1, hl1, hm1, hw1⟩ := bcell hb1; have hz1 := hb1.size; (try simp only [World.size_alloc, World.size_setCell] at hz1))
    go_ret
    exact ⟨ret_bool (by rw [HN.out, HM.out]; rfl), by (repeat' (first | (with_reducible exact Below.refl _ _) | (with_reducible assumption) | (with_reducible refine Below.drew ?_) | (with_reducible refine below_drewN ?_ _) | (with_reducible refine Below.setCell ?_ ?_ _) | (with_reducible refine Below.alloc ?_ ?_ _) | go_size | (exact Below.size (by assumption)) | (refine Below.trans ?_ (Below.mono (by assumption) ?_))))⟩

theorem chk_drop (ov : Int) (fs : List Fr) (k : Nat) (hk : k < fs.length) : chk ov (fs.drop k) = (okFr ov fs[k] && chk fs[k].e.hi (fs.drop (k + 1))) := by
  rw [List.drop_eq_getElem_cons hk]; rfl

theorem rCheck_any (set : Int) (A : Option Addr) (cap : Nat) (fs : List Fr) (w : World) (hA : Arr w w.heap.size A (frosts fs)) :
    Calls Try.prog 17 #[.agg #[.int .i64 set, .slice A fs.length cap]] w fun e w' => e = .returned (.int .i64 (checkE ⟨set, fs⟩)) ∧ Below w.heap.size w w' := by
  have HE : Hid (checkE ⟨set, fs⟩ = if decide (0 ≤ set) && (decide (set ≤ 4319) && (decide (fs.length ≤ 3) && chk 0 fs)) then 0 else 10) := hid rfl
  by_cases h1 : 0 ≤ set ∧ set ≤ 4319
  · obtain ⟨h1, h2⟩ := h1
    by_cases h3 : fs.length ≤ 3
    · have HE2 : Hid (checkE ⟨set, fs⟩ = if chk 0 fs then 0 else 10) := hid (by rw [HE.out]; simp [h1, h2, h3])
      clear HE
      go_enter Try.func17, Try.ntmps17
      go_wp2_with (go_at_call 44; refine (between_any _ _ _ _).mono ?_; rintro e w1 ⟨rfl, rfl⟩)
      go_loopw [3, 4] (fun ov i wr => ∃ (k : Nat) (o : Int), k ≤ fs.length ∧ i = .int .i64 k ∧ ov = .int .i64 o ∧ Hid (chk 0 fs = chk o (fs.drop k)) ∧ Below (w.heap.size + 1) (w.alloc (.cells #[.int .i64 set, .slice A fs.length cap] 24)) wr) (fun _ i _ => fs.length - (intOf i).toNat)
      case atStart => exact ⟨0, 0, Nat.zero_le _, rfl, rfl, hid rfl, Below.refl _ _⟩
      case round =>
        obtain ⟨k, o, hk, rfl, rfl, HK, hB⟩ := hrel
        have hb0 : wr.cell? ⟨w.heap.size, 0, none⟩ = some (.int .i64 set) := (hB.cell (by simp)).trans (by simp [go_sem])
        have hb1 : wr.cell? ⟨w.heap.size, 1, none⟩ = some (.slice A fs.length cap) := (hB.cell (by simp)).trans (by simp [go_sem])
        obtain ⟨-, -, hlr, hmr, -⟩ := bcell hB
        have hzr := hB.size
        simp only [World.size_alloc] at hzr
        by_cases hlt : k < fs.length
        · obtain ⟨b, o', rfl, hb, c0, c1, c2, c3⟩ := (hA.below (Below.of_alloc hB)).fr hlt
          have HD := hid (chk_drop o fs k hlt)
          have HO : Hid (okFr o fs[k] = (nearB fs[k].b && (nearB fs[k].e && (decide (o ≤ fs[k].b.lo) && decide (fs[k].b.hi ≤ fs[k].e.lo))))) := hid rfl
          clear hA
          generalize hg : fs[k] = g at *
          have HG := hid hg
          clear hg
          by_cases n1 : nearB g.b = true ∧ nearB g.e = true ∧ o ≤ g.b.lo ∧ g.b.hi ≤ g.e.lo
          · obtain ⟨n1, n2, n3, n4⟩ := n1
            have HN : Hid (okFr o g = true) := hid (by rw [HO.out, n1, n2]; simp [n3, n4])
            go_wp2_with (go_at_call 62; refine (rNear_any _ _ _).mono ?_; rintro e w1 ⟨rfl, hb1⟩; (first | replace hb1 := Below.un1 hb1 | replace hb1 := Below.un2 hb1 | skip); obtain ⟨hc1, hf1, hl1, hm1, hw1⟩ := bcell hb1; have hz1 := hb1.size; (try simp only [World.size_alloc, World.size_setCell] at hz1))
            refine ⟨⟨k + 1, g.e.hi, by omega, by go_num, rfl, hid (by rw [HK.out, HD.out, HN.out]; rfl), ?_⟩, by simp [intOf]; omega⟩
            (repeat' (first | (with_reducible exact Below.refl _ _) | (with_reducible assumption) | (with_reducible refine Below.drew ?_) | (with_reducible refine below_drewN ?_ _) | (with_reducible refine Below.setCell ?_ ?_ _) | (with_reducible refine Below.alloc ?_ ?_ _) | go_size | (exact Below.size (by assumption)) | (refine Below.trans ?_ (Below.mono (by assumption) ?_))))
          · have HN : Hid (okFr o g = false) := hid (by
              rw [HO.out]; revert n1; cases nearB g.b <;> cases nearB g.e <;> simp <;> omega)
            cases n1 : nearB g.b
            all_goals (try cases n2 : nearB g.e)
            all_goals
              go_wp2_with (go_at_call 62; refine (rNear_any _ _ _).mono ?_; rintro e w1 ⟨rfl, hb1⟩; (first | replace hb1 := Below.un1 hb1 | replace hb1 := Below.un2 hb1 | skip); obtain ⟨hc1, hf1, hl1, hm1, hw1⟩ := bcell hb1; have hz1 := hb1.size; (try simp only [World.size_alloc, World.size_setCell] at hz1))
              all_goals first
                | (go_ret; exact ⟨ret_int (by rw [HE2.out, HK.out, HD.out, HN.out]; rfl), by (repeat' (first | (with_reducible exact Below.refl _ _) | (with_reducible assumption) | (with_reducible refine Below.drew ?_) | (with_reducible refine below_drewN ?_ _) | (with_reducible refine Below.setCell ?_ ?_ _) | (with_reducible refine Below.alloc ?_ ?_ _) | go_size | (exact Below.size (by assumption)) | (refine Below.trans ?_ (Below.mono (by assumption) ?_))))⟩)
                | (exfalso; simp_all)
        · obtain rfl : k = fs.length := by omega
          go_wp2
          go_ret
          exact ⟨ret_int (by rw [HE2.out, HK.out, List.drop_length]; rfl), by (repeat' (first | (with_reducible exact Below.refl _ _) | (with_reducible assumption) | (with_reducible refine Below.drew ?_) | (with_reducible refine below_drewN ?_ _) | (with_reducible refine Below.setCell ?_ ?_ _) | (with_reducible refine Below.alloc ?_ ?_ _) | go_size | (exact Below.size (by assumption)) | (refine Below.trans ?_ (Below.mono (by assumption) ?_))))⟩
    · have HE2 : Hid (checkE ⟨set, fs⟩ = 10) := hid (by rw [HE.out]; simp [h3])
      go_enter Try.func17, Try.ntmps17
      go_wp2_with (go_at_call 44; refine (between_any _ _ _ _).mono ?_; rintro e w1 ⟨rfl, rfl⟩)
      go_ret
      exact ⟨ret_int (by rw [HE2.out]), by (repeat' (first | (with_reducible exact Below.refl _ _) | (with_reducible assumption) | (with_reducible refine Below.drew ?_) | (with_reducible refine below_drewN ?_ _) | (with_reducible refine Below.setCell ?_ ?_ _) | (with_reducible refine Below.alloc ?_ ?_ _) | go_size | (exact Below.size (by assumption)) | (refine Below.trans ?_ (Below.mono (by assumption) ?_))))⟩
  · have HE2 : Hid (checkE ⟨set, fs⟩ = 10) := hid (by rw [HE.out]; simp; omega)
    have hb : (decide (0 ≤ set) && decide (set ≤ 4319)) = false := by simp; omega
    go_enter Try.func17, Try.ntmps17
    go_wp2_with (go_at_call 44; refine (between_any _ _ _ _).mono ?_; rintro e w1 ⟨rfl, rfl⟩)
    all_goals
      go_ret
      exact ⟨ret_int (by rw [HE2.out]), by (repeat' (first | (with_reducible exact Below.refl _ _) | (with_reducible assumption) | (with_reducible refine Below.drew ?_) | (with_reducible refine below_drewN ?_ _) | (with_reducible refine Below.setCell ?_ ?_ _) | (with_reducible refine Below.alloc ?_ ?_ _) | go_size | (exact Below.size (by assumption)) | (refine Below.trans ?_ (Below.mono (by assumption) ?_))))⟩
end Go.Proofs.Ytnkbcapikenbbaa
