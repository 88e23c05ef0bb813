/- A book without some lines: has it a course? -/
import Derived.Test.YtnkbcapikenbbaaP13
import Derived.Test.YtnkbcapikenbbaaQ1
import Derived.Deep.RegionHeld3
namespace Go.Proofs.Ytnkbcapikenbbaa
set_option linter.unusedSimpArgs false
set_option linter.unusedVariables false
open Go.RowKit Go.Shelf
attribute [local go_sem] Oper.semAt_some
attribute [local go_sem high] cell_set_wr
attribute [local go_sem low] cell_wr frozen_wr
attribute [local go_sem] wr_set wr_drew wr_drewN wr_alloc wr_new

def noteV (set : Int) (A : Option Addr) (n cap : Nat) (L : Option Addr) (ln lcap : Nat) : Value := .agg #[.int .i64 set, .slice A n cap, .slice L ln lcap]

theorem courses_any (set : Int) (A L : Option Addr) (n cap ln lcap : Nat) (m : Int) (w : World) :
    Calls Try.prog 95 #[.agg #[.int .i64 set, .slice A n cap, .slice L ln lcap], .int .i64 m] w fun e w' =>
      e = .returned (.func (.func 101) #[] #[.pointer (some ⟨w.heap.size, 0, none⟩), .pointer (some ⟨w.heap.size + 1, 0, none⟩)]) ∧
        NBox w' w.heap.size set A n cap L ln lcap m ∧ w.heap.size + 1 < w'.heap.size ∧ Below w.heap.size w w' := by
  go_enter Try.func95, Try.ntmps95
  go_wp2
  go_ret
  exact ⟨rfl, ⟨by simp [go_sem], by simp [go_sem], by simp [go_sem], by simp [go_sem]⟩, by simp, by (repeat' (first | (with_reducible exact Below.refl _ _) | (with_reducible assumption) | (with_reducible refine Below.drew ?_) | (with_reducible refine below_drewN ?_ _) | (with_reducible refine Below.setCell ?_ ?_ _) | (with_reducible refine Below.alloc ?_ ?_ _) | go_size | (exact Below.size (by assumption)) | (refine Below.trans ?_ (Below.mono (by assumption) ?_))))⟩

theorem without_snoc (ls : List Ln) (keep : Nat → Bool) (k : Nat) (hk : k < ls.length) : without (ls.take (k + 1)) keep = without (ls.take k) keep ++ if keep k then [ls[k]] else [] := by
  unfold without
  rw [List.take_succ_eq_append_getElem hk, List.zipIdx_append, List.filter_append, List.map_append]
  congr 1
  simp only [List.zipIdx_cons, List.zipIdx_nil, List.length_take, Nat.zero_add, Nat.min_eq_left (Nat.le_of_lt hk)]
  cases h : keep k <;> simp [h]
theorem without_le (ls : List Ln) (keep : Nat → Bool) : (without ls keep).length ≤ ls.length := by
  unfold without
  rw [List.length_map]
  exact Nat.le_trans (List.length_filter_le _ _) (by simp)
theorem without_mem (ls : List Ln) (keep : Nat → Bool) (l : Ln) (h : l ∈ without ls keep) : l ∈ ls := by
  unfold without at h
  obtain ⟨p, hp, rfl⟩ := List.mem_map.1 h
  exact (List.mem_zipIdx (List.mem_filter.1 hp).1).2.2 ▸ List.getElem_mem _
/-- which lines are not left out -/
def keepOf (out : List Int) (i : Nat) : Bool := !decide ((i : Int) ∈ out)
/-- has the book without some lines a course, by the program's dials? -/
def rightD (set : Int) (fs : List Fr) (ls : List Ln) (out : List Int) : Bool := !(coursesL set fs (untilL (without ls (keepOf out))) (without ls (keepOf out))).isEmpty

theorem info_line : (Try.prog.info? 67).map (fun i => (i.zero, i.size, i.bytes)) = some (some (.agg #[.int .i64 0, .int .i64 0, .int .i64 0]), 3, 24) := by kernel_rfl

theorem untilL_bd (ls : List Ln) (h : ∀ l ∈ ls, lineB l = true) : 0 ≤ untilL ls ∧ untilL ls ≤ 4320 := by
  unfold untilL
  split
  · omega
  · rename_i l hl
    have := h l (List.mem_of_getLast? hl)
    simp only [lineB, minutesB, Bool.and_eq_true, decide_eq_true_eq] at this
    omega
/-- the book that is left, in block rb, and the answer in block ab -/
structure RFix (V : World) (rb ab : Nat) (set : Int) (A : Option Addr) (n cap : Nat) (v : Value) : Prop where
  c0 : V.cell? ⟨rb, 0, none⟩ = some (.int .i64 set)
  c1 : V.cell? ⟨rb, 1, none⟩ = some (.slice A n cap)
  c2 : V.cell? ⟨rb, 2, none⟩ = some v
  fz : V.frozen? ⟨rb, 2, none⟩ = false
  aw : Wr V ab 0
theorem own_set {w : World} {base : Nat} {e : TypeId} {size : Nat} {v : Value} {n : Nat} {xs : List Value} (h : w.ownsRow base e size v n xs) (rb o : Nat) (hr : rb < base) (u : Value) : (w.setCell ⟨rb, o, none⟩ u).ownsRow base e size v n xs := by
  refine h.kept (row := some rb) ⟨rfl, rfl, rfl, by simp [World.setCell], fun k _ hne => Below.heap_setCell _ _ _ _ (fun e => hne (by simp [e]))⟩ ?_
  cases hv : v.ownBlock with
  | none => exact .inl rfl
  | some g => exact .inr (fun e => by injection e with e; have := h.lt g hv; omega)

set_option maxRecDepth 100000 in
set_option maxHeartbeats 4000000 in
theorem rightWithout_any (set : Int) (A L O : Option Addr) (cap lcap ocap : Nat) (fs : List Fr) (ls : List Ln) (out : List Int) (w : World) (hO : OkFs fs) (hs : 0 ≤ set ∧ set ≤ 4319) (hl6 : ls.length ≤ 6) (hb : ∀ l ∈ ls, lineB l = true)
    (hA : Arr w w.heap.size A (frosts fs)) (hL : Arr w w.heap.size L (lines ls)) (hOut : Arr w w.heap.size O (ints out)) (hol : out.length ≤ 1000) :
    Calls Try.prog 71 #[.agg #[.int .i64 set, .slice A fs.length cap, .slice L ls.length lcap], .slice O out.length ocap] w fun e w' =>
      e = .returned (.bool (rightD set fs ls out)) ∧ Below w.heap.size w w' := by
  refine (callsIn_wide (n := 5)).1 ?_
  refine callsIn_of_wp_marks Try.func71 rfl trivial ?_ rfl
  simp only [Try.ntmps71, List.size_toArray, List.length_cons, List.length_nil, Nat.reduceAdd, Nat.reduceSub, Array.replicate_succ, Array.replicate_zero, List.push_toArray, List.append_toArray, List.nil_append, List.cons_append]
  gi_wp2_with fail
  obtain ⟨W3, hW3⟩ : ∃ W3, W3 = (((w.alloc (.cells #[.int .i64 set, .slice A fs.length cap, .slice L ls.length lcap] 109)).alloc (.cells #[.bool false] 4)).alloc (.cells #[.int .i64 set, .slice A fs.length cap, .slice none 0 0] 109)) := ⟨_, rfl⟩
  have hz3 : W3.heap.size = w.heap.size + 3 := by rw [hW3]; simp
  have hb3 : Below w.heap.size w W3 := by rw [hW3]; (repeat' (first | (with_reducible exact Below.refl _ _) | (with_reducible assumption) | (with_reducible refine Below.drew ?_) | (with_reducible refine below_drewN ?_ _) | (with_reducible refine Below.setCell ?_ ?_ _) | (with_reducible refine Below.alloc ?_ ?_ _) | go_size | (exact Below.size (by assumption)) | (refine Below.trans ?_ (Below.mono (by assumption) ?_))))
  have hR3 : RFix W3 (w.heap.size + 1 + 1) (w.heap.size + 1) set A fs.length cap (.slice none 0 0) := by rw [hW3]; exact ⟨by simp [go_sem], by simp [go_sem], by simp [go_sem], by simp [go_sem], ⟨by simp [go_sem], by simp [go_sem]⟩⟩
  rw [← hW3]
  clear hW3
  refine wpIn_wide.2 ?_
  go_loopw [14] (fun iv wr => ∃ (i : Nat) (v : Value), i ≤ ls.length ∧ iv = .int .i64 i ∧ wr.ownsRow (w.heap.size + 3) 67 3 v (without (ls.take i) (keepOf out)).length (lines (without (ls.take i) (keepOf out))) ∧
      RFix wr (w.heap.size + 1 + 1) (w.heap.size + 1) set A fs.length cap v ∧ w.heap.size + 3 ≤ wr.heap.size ∧ Below w.heap.size w wr) (fun iv _ => ls.length - (intOf iv).toNat)
  case atStart => exact ⟨0, _, Nat.zero_le _, by simp, own_nil _ _ _ _, hR3, by omega, hb3⟩
  case round =>
    obtain ⟨i, v, hi, rfl, hown, hR, hzr, hB⟩ := hrel
    by_cases hlt : i < ls.length
    · have hi1 : i + 1 ≤ ls.length := hlt
      obtain ⟨lb, lo, rfl, hlb, l0, l1, l2⟩ := (hL.below hB).ln hlt
      have HW := hid (without_snoc ls (keepOf out) i hlt)
      have hwl : (without (ls.take i) (keepOf out)).length ≤ i := Nat.le_trans (without_le _ _) (by rw [List.length_take]; omega)
      have hlr : w.heap.size + 1 + 1 < wr.heap.size := by omega
      have hlr1 : w.heap.size + 1 < wr.heap.size := by omega
      generalize without (ls.take i) (keepOf out) = L0 at *
      generalize ls[i] = x at *
      obtain ⟨r0, r1, r2, rf, rw_⟩ := hR
      by_cases hm : (i : Int) ∈ out
      · have HM : Hid (without (ls.take (i + 1)) (keepOf out) = L0) := hid (by rw [HW.out]; simp [keepOf, hm])
        have hd : decide ((i : Int) ∈ out) = true := decide_eq_true hm
        clear HW
        go_wp2_with (go_at_call 94; refine (contains_any O ocap out i _ ?_ (by omega)).mono ?_; (focus (refine (hOut.below ?_).more ?_; (repeat' (first | (with_reducible exact Below.refl _ _) | (with_reducible assumption) | (with_reducible refine Below.drew ?_) | (with_reducible refine below_drewN ?_ _) | (with_reducible refine Below.setCell ?_ ?_ _) | (with_reducible refine Below.alloc ?_ ?_ _) | go_size | (exact Below.size (by assumption)) | (refine Below.trans ?_ (Below.mono (by assumption) ?_)))))); rw [hd]; rintro e w2 ⟨rfl, hb2⟩; (first | replace hb2 := Below.un1 hb2 | replace hb2 := Below.un2 hb2 | skip); obtain ⟨hc2, hf2, hl2, hm2, hw2⟩ := bcell hb2; have hz2 := hb2.size; (try simp only [World.size_alloc, World.size_setCell] at hz2); have hown2 := own_below (hown.alloc _) hb2; have hz2 := hb2.size; simp only [World.size_alloc] at hz2)
        have hbw : Below w.heap.size w w2 := ((hB.trans ((Below.refl wr.heap.size wr).alloc (Nat.le_refl _) _ |>.mono (by omega))).trans (hb2.mono (by simp; omega)))
        refine ⟨⟨i + 1, v, hi1, by go_num, ?_, ⟨?_, ?_, ?_, ?_, ?_⟩, by omega, hbw⟩, by simp [intOf]; omega⟩
        · rw [HM.out]; exact hown2
        all_goals (first | (simp [go_sem, wr_set, wr_drew, wr_drewN, wr_alloc, wr_new]; done) | (simp [go_sem, wr_set, wr_drew, wr_drewN, wr_alloc, wr_new, *]; done) | (simp (disch := go_size) [go_sem, wr_set, wr_drew, wr_drewN, wr_alloc, wr_new, *]; done))
      · have HM : Hid (without (ls.take (i + 1)) (keepOf out) = L0 ++ [x]) := hid (by rw [HW.out]; simp [keepOf, hm])
        have hd : decide ((i : Int) ∈ out) = false := decide_eq_false hm
        clear HW
        go_wp2_with (first
          | (go_at_call 94; refine (contains_any O ocap out i _ ?_ (by omega)).mono ?_; (focus (refine (hOut.below ?_).more ?_; (repeat' (first | (with_reducible exact Below.refl _ _) | (with_reducible assumption) | (with_reducible refine Below.drew ?_) | (with_reducible refine below_drewN ?_ _) | (with_reducible refine Below.setCell ?_ ?_ _) | (with_reducible refine Below.alloc ?_ ?_ _) | go_size | (exact Below.size (by assumption)) | (refine Below.trans ?_ (Below.mono (by assumption) ?_)))))); rw [hd]; rintro e w2 ⟨rfl, hb2⟩; (first | replace hb2 := Below.un1 hb2 | replace hb2 := Below.un2 hb2 | skip); obtain ⟨hc2, hf2, hl2, hm2, hw2⟩ := bcell hb2; have hz2 := hb2.size; (try simp only [World.size_alloc, World.size_setCell] at hz2); have hown2 := own_below (hown.alloc _) hb2; have hz2 := hb2.size; simp only [World.size_alloc] at hz2)
          | (at_builtin; refine wpList_app1 rfl _ _ 39 rfl (w.heap.size + 3) 67 _ 3 24 Try.underlying39 info_line rfl (by omega) _ _ _ rfl hown2 _ rfl rfl (by simp [Value.oneCell']) (by unfold maxLen; omega) (by omega) (by omega) ?_; intro A1 cap1 w3 hcap1 hcap1' hown3 hb3' hg3; obtain ⟨hc3, hf3, hl3, hm3, hw3⟩ := bcell hb3'; have hz3' := hb3'.size))
        have hbw : Below w.heap.size w w3 := ((hB.trans ((Below.refl wr.heap.size wr).alloc (Nat.le_refl _) _ |>.mono (by omega))).trans (hb2.mono (by simp; omega))).trans (hb3'.mono (by omega))
        refine ⟨⟨i + 1, .slice A1 (L0.length + 1) cap1, hi1, by go_num, ?_, ⟨?_, ?_, ?_, ?_, ?_⟩, by simp; omega, hbw.setCell (by simp; omega) _⟩, by simp [intOf]; omega⟩
        · have e : (L0 ++ [x]).length = L0.length + 1 := by simp
          have e2 : lines (L0 ++ [x]) = lines L0 ++ [.int .i64 x.r, .int .i64 x.k.lo, .int .i64 x.k.hi] := by simp [lines, Ln.cells]
          rw [HM.out, e, e2]
          exact own_set hown3 _ _ (by omega) _
        all_goals (first | (simp [go_sem, wr_set, wr_drew, wr_drewN, wr_alloc, wr_new]; done) | (simp [go_sem, wr_set, wr_drew, wr_drewN, wr_alloc, wr_new, *]; done) | (simp (disch := go_size) [go_sem, wr_set, wr_drew, wr_drewN, wr_alloc, wr_new, *]; done))
    · obtain rfl : i = ls.length := by omega
      rw [List.take_length] at hown
      obtain ⟨VA, vcap, rfl, hvc, hvm, hVA⟩ := own_form hown
      have HRD : Hid (rightD set fs ls out = !(coursesL set fs (untilL (without ls (keepOf out))) (without ls (keepOf out))).isEmpty) := hid rfl
      have hwl := without_le ls (keepOf out)
      have hwm : ∀ l ∈ without ls (keepOf out), lineB l = true := fun l hl => hb l (without_mem _ _ _ hl)
      clear hown hb
      generalize without ls (keepOf out) = R at *
      obtain ⟨r0, r1, r2, rf, ra⟩ := hR
      have hlr : w.heap.size + 1 + 1 < wr.heap.size := by omega
      have hlr1 : w.heap.size + 1 < wr.heap.size := by omega
      go_wp2
      gi_wp2_with fail
      refine wpIn_wide.2 ?_
      go_region_held3 (fun w' => (w'.cell? ⟨w.heap.size + 1 + 1, 0, none⟩ = some (.int .i64 set) ∧ w'.cell? ⟨w.heap.size + 1 + 1, 1, none⟩ = some (.slice A fs.length cap) ∧ w'.cell? ⟨w.heap.size + 1 + 1, 2, none⟩ = some (.slice VA R.length vcap) ∧ Wr w' (w.heap.size + 1) 0) ∧ Below wr.heap.size wr w') (((refine ⟨?_, ?_⟩; (focus (first | (simp [go_sem, wr_set, wr_drew, wr_drewN, wr_alloc, wr_new]; done) | (simp [go_sem, wr_set, wr_drew, wr_drewN, wr_alloc, wr_new, *]; done) | (simp (disch := go_size) [go_sem, wr_set, wr_drew, wr_drewN, wr_alloc, wr_new, *]; done))); (repeat' (first | (with_reducible exact Below.refl _ _) | (with_reducible assumption) | (with_reducible refine Below.drew ?_) | (with_reducible refine below_drewN ?_ _) | (with_reducible refine Below.setCell ?_ ?_ _) | (with_reducible refine Below.alloc ?_ ?_ _) | go_size | (exact Below.size (by assumption)) | (refine Below.trans ?_ (Below.mono (by assumption) ?_)))))))
        (first
          | (go_at_call 96; refine (until_any set A fs.length cap VA vcap R _ ?_ (by omega)).mono ?_; (focus (refine (hVA.below ?_).more ?_; (repeat' (first | (with_reducible exact Below.refl _ _) | (with_reducible assumption) | (with_reducible refine Below.drew ?_) | (with_reducible refine below_drewN ?_ _) | (with_reducible refine Below.setCell ?_ ?_ _) | (with_reducible refine Below.alloc ?_ ?_ _) | go_size | (exact Below.size (by assumption)) | (refine Below.trans ?_ (Below.mono (by assumption) ?_)))))); rintro e w2 ⟨rfl, hb2⟩; (first | replace hb2 := Below.un1 hb2 | replace hb2 := Below.un2 hb2 | skip); obtain ⟨hc2, hf2, hl2, hm2, hw2⟩ := bcell hb2; have hz2 := hb2.size; (try simp only [World.size_alloc, World.size_setCell] at hz2))
          | (go_at_call 95; refine (courses_any set A VA fs.length cap R.length vcap (untilL R) _).mono ?_; rintro e w3 ⟨rfl, hN3, hn3, hb3⟩; (first | replace hb3 := Below.un1 hb3 | replace hb3 := Below.un2 hb3 | skip); obtain ⟨hc3, hf3, hl3, hm3, hw3⟩ := bcell hb3; have hz3 := hb3.size))
      gi_wp2_with fail
      have hH := ‹(_ ∧ _) ∧ Below wr.heap.size wr w3›
      obtain ⟨⟨-, -, -, ha3⟩, hBr⟩ := hH
      have hu := untilL_bd R hwm
      have hz23 := hb3.size
      have hA2 : Arr w2 w2.heap.size A (frosts fs) := (hA.below (hB.trans (hb2.mono hB.size))).more (by have := hB.size; omega)
      refine wpIn_rangeI (gf := 101) (lb := #[.pointer (some ⟨w2.heap.size, 0, none⟩), .pointer (some ⟨w2.heap.size + 1, 0, none⟩)]) rfl (enters_of Try.func101 (by kernel_rfl) rfl)
        (courses_seq w2.heap.size set A VA cap vcap w2.heap.size fs R (untilL R) w3 hz23 hO hu hs (by omega) hwm hn3 hN3) (Below.refl _ _) hz23 (fun _ => rfl)
        (fun pre V => pre = [] ∧ Wr V (w.heap.size + 1) 0 ∧ Below w2.heap.size w2 V)
        (fun j _ V => j = .ret ∧ V.cell? ⟨w.heap.size + 1, 0, none⟩ = some (.bool true) ∧ Below w.heap.size w V) ?hI ?hIx ?h0 ?hInv
        (fun x a' V => a' = { tmps := #[.agg #[.int .i64 set, .slice A fs.length cap, .slice L ls.length lcap], .slice O out.length ocap, .pointer (some ⟨w.heap.size, 0, none⟩), undef, .pointer (some ⟨w.heap.size + 1, 0, none⟩), .pointer (some ⟨w.heap.size + 1 + 1, 0, none⟩), u6, u7, .pointer (some ⟨w.heap.size, 0, none⟩), .agg #[.int .i64 set, .slice A fs.length cap], .agg #[.int .i64 set, .slice A fs.length cap, .slice none 0 0], .pointer (some ⟨w.heap.size, 2, none⟩), .slice L ls.length lcap, .int .i64 ls.length, .int .i64 ls.length, .bool false, u16, u17, u18, u19, u20, u21, u22, u23, u24, u25, u26, u27, u28, u29, .agg #[.int .i64 set, .slice A fs.length cap, .slice VA R.length vcap], .agg #[.int .i64 set, .slice A fs.length cap, .slice VA R.length vcap], .int .i64 (untilL R), .func (.func 101) #[] #[.pointer (some ⟨w2.heap.size, 0, none⟩), .pointer (some ⟨w2.heap.size + 1, 0, none⟩)], dialV set A fs.length cap x.1, spansV x.2], defers := [] }) ?hAx ?assign ?body ?done ?stop
      case hI =>
        rintro s X Y ⟨rfl, ha, hb⟩ hxy
        exact ⟨rfl, wr_below ha hxy (by omega), hb.trans (hxy.mono (by omega))⟩
      case hIx =>
        rintro j s X Y ⟨rfl, ha, hb⟩ hxy
        exact ⟨rfl, (hxy.cell (by simp only; omega)).trans ha, hb.trans (hxy.mono (by omega))⟩
      case h0 => exact ⟨rfl, ha3, hb3⟩
      case hInv =>
        rintro pre V ⟨rfl, ha, hb⟩
        exact ⟨hA2.below hb, (hVA.below (hb2)).more (by omega) |>.below hb⟩
      case hAx =>
        rintro x a' V l o o' hl ho rfl
        rfl
      case assign =>
        rintro l pre x V K hi hzV hK
        gi_wp2
        exact hK _ _ (Mid.refl _ _) hi rfl
      case body =>
        rintro l pre x a' V hzV ⟨rfl, ha, hb⟩ rfl hpre
        gi_wp2
        have hBV : Below w.heap.size w V := (hB.trans (hb2.mono hB.size)).trans (hb.mono (by have := hB.size; omega))
        exact ⟨(Mid.refl _ _).set _ _ _ (.inl (by omega)), rfl, World.cell?_setCell_same' _ _ _ ha.1, hBV.setCell (by simp) _⟩
      case done =>
        rintro D V hD ⟨he, ha, hb⟩ hK
        gi_wp2
        have hBV : Below w.heap.size w V := (hB.trans (hb2.mono hB.size)).trans (hb.mono (by have := hB.size; omega))
        have hDn : w.heap.size + 1 ≠ D := by omega
        have hDV : D < V.heap.size := (Array.getElem?_eq_some_iff.1 hK).1
        have s0 : (V.setCell ⟨w.heap.size + 1, 0, none⟩ (.bool false)).cell? ⟨w.heap.size + 1, 0, none⟩ = some (.bool false) := World.cell?_setCell_same' _ _ _ ha.1
        have sB : Below w.heap.size w (V.setCell ⟨w.heap.size + 1, 0, none⟩ (.bool false)) := hBV.setCell (by simp) _
        have sD : (V.setCell ⟨w.heap.size + 1, 0, none⟩ (.bool false)).heap[D]? = some (.deferred (some [])) := by rw [Below.heap_setCell _ _ _ _ (fun e => hDn e.symm)]; exact hK
        generalize V.setCell ⟨w.heap.size + 1, 0, none⟩ (.bool false) = V2 at *
        refine ⟨by simp, .inl ⟨_, _, rfl, run_takeDeferred (ds := []) sD, ?_⟩⟩
        have u0 : (V2.putObj D (.deferred none)).cell? ⟨w.heap.size + 1, 0, none⟩ = some (.bool false) := (World.cell?_of_block (w := V2) (World.putObj_heap_other hDn)).trans s0
        have uB : Below w.heap.size w (V2.putObj D (.deferred none)) := sB.trans ((Below.refl w.heap.size V2).grown (grownBy_putObj' V2 D (.deferred none)) sB.size (fun k e => by cases e; omega))
        generalize V2.putObj D (.deferred none) = V3 at *
        refine ⟨.bool false, ?_, by rw [HRD.out, he]; rfl, uB⟩
        simp [results, Try.results71, go_sem, u0]
      case stop =>
        rintro D j pre x V hD hp ⟨rfl, ha, hb⟩ hK
        gi_wp2
        have hDn : w.heap.size + 1 ≠ D := by omega
        have hne : (coursesL set fs (untilL R) R).isEmpty = false := by
          cases hc : coursesL set fs (untilL R) R with
          | nil => rw [hc] at hp; have := hp.length_le; simp at this
          | cons a b => rfl
        refine ⟨by simp, .inl ⟨_, _, rfl, run_takeDeferred (ds := []) hK, ?_⟩⟩
        have u0 : (V.putObj D (.deferred none)).cell? ⟨w.heap.size + 1, 0, none⟩ = some (.bool true) := (World.cell?_of_block (w := V) (World.putObj_heap_other hDn)).trans ha
        have uB : Below w.heap.size w (V.putObj D (.deferred none)) := hb.trans ((Below.refl w.heap.size V).grown (grownBy_putObj' V D (.deferred none)) hb.size (fun k e => by cases e; omega))
        generalize V.putObj D (.deferred none) = V3 at *
        refine ⟨.bool true, ?_, by rw [HRD.out, hne]; rfl, uB⟩
        simp [results, Try.results71, go_sem, u0]
end Go.Proofs.Ytnkbcapikenbbaa
