/- The clock in all its truths: what dials makes before it yields. -/
import Derived.Test.YtnkbcapikenbbaaP3
import Derived.Laws.OwnMore
namespace Go.Proofs.Ytnkbcapikenbbaa
set_option linter.unusedSimpArgs false
set_option linter.unusedVariables false
open Go.RowKit
attribute [local go_sem high] cell_set_wr
attribute [local go_sem low] cell_wr frozen_wr
attribute [local go_sem] wr_set wr_drew wr_drewN wr_alloc wr_new

/-- a list of lists of frosts in memory, in blocks from c on, before B -/
def Could (w : World) (c B : Nat) (S : Option Addr) (lls : List (List Sp)) : Prop :=
  ∃ vs : List Value, vs.length = lls.length ∧ ArrB w c B S vs ∧ ∀ (i : Nat) (v : Value) (l : List Sp), vs[i]? = some v → lls[i]? = some l → ∃ A' c', v = .slice A' l.length c' ∧ ArrB w c B A' (spans l)
theorem Could.of_cells {w w' : World} {c B : Nat} {S : Option Addr} {lls : List (List Sp)} (h : Could w c B S lls) (hk : ∀ b o, c ≤ b → b < B → w'.cell? ⟨b, o, none⟩ = w.cell? ⟨b, o, none⟩) : Could w' c B S lls := by
  obtain ⟨vs, h1, h2, h3⟩ := h
  exact ⟨vs, h1, h2.of_cells hk, fun i v l hv hl => let ⟨A', c', e, k⟩ := h3 i v l hv hl; ⟨A', c', e, k.of_cells hk⟩⟩
theorem Could.at_ {w : World} {c B : Nat} {S : Option Addr} {lls : List (List Sp)} (h : Could w c B S lls) {k : Nat} (hk : k < lls.length) :
    ∃ b o A' c', S = some ⟨b, o, none⟩ ∧ c ≤ b ∧ b < B ∧ w.cell? ⟨b, o + k, none⟩ = some (.slice A' (lls[k]).length c') ∧ ArrB w c B A' (spans lls[k]) := by
  obtain ⟨vs, h1, h2, h3⟩ := h
  have hkv : k < vs.length := by omega
  obtain ⟨b, o, rfl, hb, hb', hc⟩ := h2 (fun e => by rw [e] at hkv; simp at hkv)
  obtain ⟨A', c', hv, ha⟩ := h3 k vs[k] lls[k] (List.getElem?_eq_getElem hkv) (List.getElem?_eq_getElem hk)
  exact ⟨b, o, A', c', rfl, hb, hb', by rw [hc k vs[k] (List.getElem?_eq_getElem hkv), hv], ha⟩

/-- the iterator over a clock's dials, and what it has captured -/
def DialsRet (w : World) (set : Int) (A : Option Addr) (n cap : Nat) (lls : List (List Sp)) (e : Ending) (w' : World) : Prop :=
  ∃ cb S, e = .returned (.func (.func 90) #[] #[.pointer (some ⟨w.heap.size, 0, none⟩), .pointer (some ⟨cb, 0, none⟩)]) ∧ w.heap.size < cb ∧ cb < w'.heap.size ∧
    w'.cell? ⟨w.heap.size, 0, none⟩ = some (.int .i64 set) ∧ w'.cell? ⟨w.heap.size, 1, none⟩ = some (.slice A n cap) ∧ w'.cell? ⟨cb, 0, none⟩ = some (.slice S n n) ∧
    Could w' w.heap.size w'.heap.size S lls ∧ Below w.heap.size w w'

theorem info_frosts : (Try.prog.info? 124).map (fun i => (i.zero, i.size, i.bytes)) = some (some (.slice none 0 0), 1, 24) := by kernel_rfl

set_option maxRecDepth 100000 in
set_option maxHeartbeats 4000000 in
theorem dials_any (set : Int) (A : Option Addr) (cap : Nat) (fs : List Fr) (m : Int) (w : World) (hA : Arr w w.heap.size A (frosts fs)) (hO : OkFs fs) (hm : 0 ≤ m ∧ m ≤ 4320) :
    Calls Try.prog 67 #[.agg #[.int .i64 set, .slice A fs.length cap], .int .i64 m] w (DialsRet w set A fs.length cap (fs.map fun f => frostsL f m)) := by
  have hl3 := hO.1
  obtain ⟨i0, hi0, hz0, hz1, hz2⟩ := info_parts info_frosts
  obtain ⟨w1, hrun, hown1, hg1⟩ := run_makeSlice_full (P := Try.prog) (w := w.alloc (.cells #[.int .i64 set, .slice A fs.length cap] 24)) (w.heap.size + 1) 123 124 i0 _ 1 Try.underlying123 hi0 hz0 hz1 .i64 .i64 fs.length (by omega) (by rw [hz2]; omega) (by unfold maxLen; omega) (by simp)
  have hb1 : Below (w.alloc (.cells #[.int .i64 set, .slice A fs.length cap] 24)).heap.size (w.alloc (.cells #[.int .i64 set, .slice A fs.length cap] 24)) w1 := (Below.refl _ _).grown hg1 (Nat.le_refl _) (fun k e => by cases e)
  simp only [World.size_alloc] at hrun hown1 hb1
  obtain ⟨hc1, hf1, hl1, hm1, hw1⟩ := bcell hb1
  have hz1' := hb1.size
  simp only [World.size_alloc] at hz1'
  have hgz : w.heap.size + 1 < w1.heap.size := (hown1.lt _ rfl).2
  go_enter Try.func67, Try.ntmps67
  go_wp2_with fail
  have hx0 : w1.cell? ⟨w.heap.size, 0, none⟩ = some (.int .i64 set) := by rw [hc1 _ _ (by omega)]; simp [go_sem]
  have hx1 : w1.cell? ⟨w.heap.size, 1, none⟩ = some (.slice A fs.length cap) := by rw [hc1 _ _ (by omega)]; simp [go_sem]
  have hbw : Below w.heap.size w w1 := ((Below.refl _ w).alloc (Nat.le_refl _) _).trans (hb1.mono (by omega))
  have ho0 := hown1.alloc (.cells #[.slice (some ⟨w.heap.size + 1, 0, none⟩) fs.length fs.length] 123)
  have hsz1 : ∀ {w' : World} (xs : List Value), w'.ownsRow (w.heap.size + 1) 124 1 (.slice (some ⟨w.heap.size + 1, 0, none⟩) fs.length fs.length) fs.length xs → xs.length = fs.length := fun xs h => by simpa using h.1
  generalize (madeCells (Value.slice none 0 0).cells (fs.length * 1)).toList = zs at *
  clear hc1 hf1 hl1 hm1 hw1 hg1 hb1
  go_loopw [6, 15] (fun _ iv wr => ∃ (j : Nat) (vs : List Value), j ≤ fs.length ∧ iv = .int .i64 j ∧ wr.ownsRow (w.heap.size + 1) 124 1 (.slice (some ⟨w.heap.size + 1, 0, none⟩) fs.length fs.length) fs.length vs ∧
      Hid (∀ (i : Nat) (h : i < fs.length), i < j → ∃ A' c', vs[i]? = some (.slice A' (frostsL fs[i] m).length c') ∧ ArrB wr (w.heap.size + 1 + 1) wr.heap.size A' (spans (frostsL fs[i] m))) ∧
      (wr.cell? ⟨w.heap.size, 0, none⟩ = some (.int .i64 set) ∧ wr.cell? ⟨w.heap.size, 1, none⟩ = some (.slice A fs.length cap) ∧ wr.cell? ⟨w1.heap.size, 0, none⟩ = some (.slice (some ⟨w.heap.size + 1, 0, none⟩) fs.length fs.length)) ∧
      w1.heap.size < wr.heap.size ∧ Below w.heap.size w wr) (fun _ iv _ => fs.length - (intOf iv).toNat)
  case atStart =>
    have hba := (Below.refl w1.heap.size w1).alloc (Nat.le_refl _) (.cells #[.slice (some ⟨w.heap.size + 1, 0, none⟩) fs.length fs.length] 123)
    refine ⟨0, zs, Nat.zero_le _, by simp, ho0, hid (fun i h h' => absurd h' (by omega)), ⟨?_, ?_, ?_⟩, by simp, by (repeat' (first | (with_reducible exact Below.refl _ _) | (with_reducible assumption) | (with_reducible refine Below.drew ?_) | (with_reducible refine below_drewN ?_ _) | (with_reducible refine Below.setCell ?_ ?_ _) | (with_reducible refine Below.alloc ?_ ?_ _) | go_size | (exact Below.size (by assumption)) | (refine Below.trans ?_ (Below.mono (by assumption) ?_))))⟩
    · exact (hba.cell (by simp; omega)).trans hx0
    · exact (hba.cell (by simp; omega)).trans hx1
    · simp [go_sem]
  case round =>
    clear ho0 hown1 hx0 hx1 hbw hrun
    obtain ⟨j, vs, hj, rfl, hown, HD, ⟨x0, x1, x2⟩, hlt, hB⟩ := hrel
    by_cases hjt : j < fs.length
    · have hj1 : j + 1 ≤ fs.length := hjt
      have hg := hO.2 _ (List.getElem_mem hjt)
      obtain ⟨b, o, rfl, hb, c0, c1, c2, c3⟩ := (hA.below hB).fr hjt
      generalize hq : fs[j] = g at *
      go_wp2_with fail
      have hz := hB.size
      have hrow : Wr wr (w.heap.size + 1) j := ⟨by rw [hown.cellAt j (by omega), List.getElem?_eq_getElem (by rw [hsz1 _ hown]; omega)]; rfl, hown.frozenAt j⟩
      refine wp_name ?_
      intro W hW
      have hWz : W.heap.size = wr.heap.size + 1 := by rw [hW]; simp
      have y0 : W.cell? ⟨w1.heap.size, 0, none⟩ = some (.slice (some ⟨w.heap.size + 1, 0, none⟩) fs.length fs.length) := by rw [hW]; simp [go_sem, *]
      have y1 : W.cell? ⟨wr.heap.size, 0, none⟩ = some (.int .i64 g.b.lo) := by rw [hW]; simp [go_sem]
      have y2 : W.cell? ⟨wr.heap.size, 1, none⟩ = some (.int .i64 g.b.hi) := by rw [hW]; simp [go_sem]
      have y3 : W.cell? ⟨wr.heap.size, 2, none⟩ = some (.int .i64 g.e.lo) := by rw [hW]; simp [go_sem]
      have y4 : W.cell? ⟨wr.heap.size, 3, none⟩ = some (.int .i64 g.e.hi) := by rw [hW]; simp [go_sem]
      have hWr : Wr W (w.heap.size + 1) j := by rw [hW]; exact wr_alloc _ hrow
      have hWB : Below w.heap.size w W := by rw [hW]; exact hB.alloc hz _
      have hWr1 : w.heap.size + 1 < W.heap.size := by omega
      have hWr2 : w1.heap.size < W.heap.size := by omega
      have hWr3 : wr.heap.size < W.heap.size := by omega
      have hne1 : w1.heap.size ≠ w.heap.size + 1 := by omega
      have hne2 : wr.heap.size ≠ w.heap.size + 1 := by omega
      have X0 := hid x0
      have X1 := hid x1
      have X2 := hid x2
      clear c0 c1 c2 c3 x0 x1 x2
      have HW := hid hW
      clear hW
      go_region_held3 (fun w' => (∀ b o, b < W.heap.size → b ≠ w.heap.size + 1 → w'.cell? ⟨b, o, none⟩ = W.cell? ⟨b, o, none⟩) ∧ (Wr w' (w.heap.size + 1) j) ∧ Below w.heap.size w w') (((refine ⟨?_, ?_, ?_⟩; (focus (repeat' (first | (with_reducible assumption) | (with_reducible exact same_refl) | (with_reducible refine same_drew ?_) | (with_reducible refine same_drewN ?_) | (with_reducible refine same_alloc ?_ ?_) | (with_reducible refine same_set ?_ (.inl ?_)) | (with_reducible refine same_set ?_ (.inr ?_)) | (refine same_below ?_ (by assumption) ?_) | rfl | go_size))); (focus (repeat' (first | (with_reducible assumption) | trivial | (with_reducible refine And.intro ?_ ?_) | (with_reducible refine wr_drew' ?_) | (with_reducible refine wr_drewN' ?_) | (with_reducible refine wr_alloc _ ?_) | (with_reducible refine wr_set' ?_) | (refine wr_below ?_ (by assumption) ?_) | go_size))); (repeat' (first | (with_reducible exact Below.refl _ _) | (with_reducible assumption) | (with_reducible refine Below.drew ?_) | (with_reducible refine below_drewN ?_ _) | (with_reducible refine Below.setCell ?_ ?_ _) | (with_reducible refine Below.alloc ?_ ?_ _) | go_size | (exact Below.size (by assumption)) | (refine Below.trans ?_ (Below.mono (by assumption) ?_)))))))
        (first
          | (go_at_call 89; refine (frosts_any g m _ hg hm).mono ?_; rintro e w2 ⟨A2, cap2, rfl, hcap2, hA2, hb2⟩; (first | replace hb2 := Below.un1 hb2 | replace hb2 := Below.un2 hb2 | skip); obtain ⟨hc2, hf2, hl2, hm2, hw2⟩ := bcell hb2))
      rename_i hHeld
      obtain ⟨hs1, _, hs3⟩ := hHeld
      have hwz2 := hb2.size
      have how : w2.ownsRow (w.heap.size + 1) 124 1 (.slice (some ⟨w.heap.size + 1, 0, none⟩) fs.length fs.length) fs.length vs := own_below (by rw [HW.out]; exact hown.alloc _) hb2
      have hst := (how.stored j (.slice A2 (frostsL g m).length cap2)).1
      have hWc : ∀ b o, b < wr.heap.size → W.cell? ⟨b, o, none⟩ = wr.cell? ⟨b, o, none⟩ := fun b o h => by rw [HW.out]; exact ((Below.refl wr.heap.size wr).alloc (Nat.le_refl _) _).cell (p := ⟨b, o, none⟩) h
      have hAn : ∀ {c B : Nat} {A' : Option Addr} {xs : List Value}, w.heap.size + 1 + 1 ≤ c → ArrB w2 c B A' xs → ArrB (w2.setCell ⟨w.heap.size + 1, j, none⟩ (.slice A2 (frostsL g m).length cap2)) c B A' xs := fun hc h =>
        h.of_cells fun b o h1 h2 => World.cell?_setCell_other _ _ _ _ (fun e => by cases e; omega)
      have hAo : ∀ {A' : Option Addr} {xs : List Value}, ArrB wr (w.heap.size + 1 + 1) wr.heap.size A' xs → ArrB w2 (w.heap.size + 1 + 1) w2.heap.size A' xs := fun h =>
        (h.of_cells (w' := w2) fun b o h1 h2 => (hb2.cell (p := ⟨b, o, none⟩) (by simp; omega)).trans (hWc b o h2)).more (Nat.le_refl _) (by omega)
      have hA3 := hAn (by simp; omega) hA2
      clear hc2 hf2 hl2 hm2 hw2
      go_wp2_with fail
      refine ⟨⟨j + 1, vs.set j (.slice A2 (frostsL g m).length cap2), hj1, by go_num, hst, hid ?_, ⟨?_, ?_, ?_⟩, ?_, hs3⟩, ?_⟩
      · intro i hi hij
        by_cases hc : i = j
        · subst hc
          refine ⟨A2, cap2, ?_, ?_⟩
          · rw [List.getElem?_set_self (by rw [hsz1 _ hown]; omega), hq]
          · rw [hq]
            exact hA3.more (by simp; omega) (by simp)
        · obtain ⟨A', c', h1, h2⟩ := HD.out i hi (by omega)
          refine ⟨A', c', ?_, (hAn (Nat.le_refl _) (hAo h2)).more (Nat.le_refl _) (by simp)⟩
          rw [List.getElem?_set_ne (by omega)]
          exact h1
      · exact (hs1 _ _ (by omega) (by omega)).trans ((hWc _ _ (by omega)).trans X0.out)
      · exact (hs1 _ _ (by omega) (by omega)).trans ((hWc _ _ (by omega)).trans X1.out)
      · exact (hs1 _ _ (by omega) (by omega)).trans ((hWc _ _ (by omega)).trans X2.out)
      · simp; omega
      · simp [intOf]; omega
    · obtain rfl : j = fs.length := by omega
      have HX := hid (And.intro x0 (And.intro x1 x2))
      go_wp2_with fail
      go_ret
      obtain ⟨x0, x1, x2⟩ := HX.out
      refine ⟨w1.heap.size, some ⟨w.heap.size + 1, 0, none⟩, rfl, by omega, hlt, x0, x1, x2, ⟨vs, by simpa using hsz1 _ hown, fun _ => ⟨w.heap.size + 1, 0, rfl, by omega, by omega, fun i u hu => ?_⟩, fun i v l hv hl => ?_⟩, hB⟩
      · have hi : i < vs.length := by have := List.getElem?_eq_some_iff.1 hu; exact this.1
        rw [Nat.zero_add, hown.cellAt i (by rw [hsz1 _ hown] at hi; omega), hu]
      · have hi : i < fs.length := by have := (List.getElem?_eq_some_iff.1 hl).1; simpa using this
        obtain ⟨A', c', h1, h2⟩ := HD.out i hi hi
        rw [hv] at h1
        simp only [List.getElem?_map, List.getElem?_eq_getElem hi, Option.map_some, Option.some.injEq] at hl h1
        subst hl
        exact ⟨A', c', h1, h2.more (by omega) (Nat.le_refl _)⟩
end Go.Proofs.Ytnkbcapikenbbaa
