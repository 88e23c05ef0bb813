/- All that a frost can truly have been before a minute, each once: the program's list. -/
import Derived.Test.YtnkbcapikenbbaaP1
import Derived.Test.YtnkbcapikenbbaaK
import Derived.Maps.OwnOps
namespace Go.Proofs.Ytnkbcapikenbbaa
set_option linter.unusedSimpArgs false
set_option linter.unusedVariables false
open Go.RowKit
attribute [local go_sem high] cell_set_wr
attribute [local go_sem low] cell_wr frozen_wr
attribute [local go_sem] wr_set wr_drew wr_drewN wr_alloc wr_new

def addNew (l : List Sp) (f : Sp) : List Sp := if f ∈ l then l else l ++ [f]
def colF (m b : Int) (es : List Int) (l : List Sp) : List Sp := es.foldl (fun l e => addNew l (cutF ⟨b, e⟩ m)) l
def rowF (m : Int) (bs es : List Int) (l : List Sp) : List Sp := bs.foldl (fun l b => colF m b es l) l
/-- all that a frost can have been before a minute -/
def frostsL (k : Fr) (m : Int) : List Sp := rowF m k.b.list k.e.list []

theorem colF_drop (m b : Int) (es : List Int) (l : List Sp) (i : Nat) (hi : i < es.length) : colF m b (es.drop i) l = colF m b (es.drop (i + 1)) (addNew l (cutF ⟨b, es[i]⟩ m)) := by
  rw [List.drop_eq_getElem_cons hi]; rfl
theorem rowF_drop (m : Int) (bs es : List Int) (l : List Sp) (i : Nat) (hi : i < bs.length) : rowF m (bs.drop i) es l = rowF m (bs.drop (i + 1)) es (colF m bs[i] (es.drop 0) l) := by
  rw [List.drop_eq_getElem_cons hi]; rfl

theorem info_frost3 : (Try.prog.info? 101).map (fun i => (i.zero, i.size, i.bytes)) = some (some (.agg #[.int .i64 0, .int .i64 0]), 2, 16) := by kernel_rfl

/-- the slice address A holds the cells xs, in a block from c on, before B -/
def ArrB (w : World) (c B : Nat) (A : Option Addr) (xs : List Value) : Prop :=
  xs ≠ [] → ∃ b o, A = some ⟨b, o, none⟩ ∧ c ≤ b ∧ b < B ∧ ∀ j u, xs[j]? = some u → w.cell? ⟨b, o + j, none⟩ = some u
theorem ArrB.arr {w : World} {c B : Nat} {A : Option Addr} {xs : List Value} (h : ArrB w c B A xs) : Arr w B A xs := fun hx => by
  obtain ⟨b, o, hA, _, hb, hc⟩ := h hx
  exact ⟨b, o, hA, hb, hc⟩
theorem ArrB.of_cells {w w' : World} {c B : Nat} {A : Option Addr} {xs : List Value} (h : ArrB w c B A xs) (hk : ∀ b o, c ≤ b → b < B → w'.cell? ⟨b, o, none⟩ = w.cell? ⟨b, o, none⟩) : ArrB w' c B A xs := fun hx => by
  obtain ⟨b, o, hA, h1, h2, hc⟩ := h hx
  exact ⟨b, o, hA, h1, h2, fun j u hu => (hk b _ h1 h2).trans (hc j u hu)⟩
theorem ArrB.more {w : World} {c c' B B' : Nat} {A : Option Addr} {xs : List Value} (h : ArrB w c B A xs) (hc : c' ≤ c) (hB : B ≤ B') : ArrB w c' B' A xs := fun hx => by
  obtain ⟨b, o, hA, h1, h2, hc⟩ := h hx
  exact ⟨b, o, hA, by omega, by omega, hc⟩
theorem own_formB {w : World} {base : Nat} {e : TypeId} {size : Nat} {v : Value} {n : Nat} {xs : List Value} (h : w.ownsRow base e size v n xs) :
    ∃ A cap, v = .slice A n cap ∧ cap ≤ maxLen ∧ ArrB w base w.heap.size A xs := by
  obtain ⟨A, cap, rfl, _, hm, ha⟩ := own_form h
  refine ⟨A, cap, rfl, hm, fun hx => ?_⟩
  obtain ⟨b, o, rfl, hb, hc⟩ := ha hx
  exact ⟨b, o, rfl, ownBlock_le h b (by rcases h.2 with ⟨h1, h2⟩ | ⟨g, cap', cur, hv, _⟩; cases h1; cases hv; rfl), hb, hc⟩
/-- a call that returns a new list, in a block of its own -/
def RetB (w : World) (n : Nat) (xs : List Value) (e : Ending) (w' : World) : Prop :=
  ∃ A cap, e = .returned (.slice A n cap) ∧ cap ≤ maxLen ∧ ArrB w' w.heap.size w'.heap.size A xs ∧ Below w.heap.size w w'

set_option maxRecDepth 100000 in
set_option maxHeartbeats 4000000 in
theorem frosts_any (k : Fr) (m : Int) (w : World) (hk : 0 ≤ k.b.lo ∧ k.b.lo ≤ k.b.hi ∧ k.b.hi - k.b.lo ≤ 3 ∧ k.b.hi ≤ k.e.lo ∧ k.e.lo ≤ k.e.hi ∧ k.e.hi - k.e.lo ≤ 3 ∧ k.e.hi ≤ 4319) (hm : 0 ≤ m ∧ m ≤ 4320) :
    Calls Try.prog 89 #[.agg #[.int .i64 k.b.lo, .int .i64 k.b.hi, .int .i64 k.e.lo, .int .i64 k.e.hi], .int .i64 m] w (RetB w (frostsL k m).length (spans (frostsL k m))) := by
  obtain ⟨g1, g2, g3, g4, g5, g6, g7⟩ := hk
  obtain ⟨m1, m2⟩ := hm
  have hmm := @run_makeMap Try.prog
  have hLB := list_length k.b
  have hLE := list_length k.e
  have HLB := hid (list_at k.b)
  have HLE := hid (list_at k.e)
  generalize hT : frostsL k m = T
  have HT : Hid (rowF m (k.b.list.drop 0) k.e.list [] = T) := hid hT
  clear hT
  go_enter Try.func89, Try.ntmps89
  go_wp2_with fail
  have hL0 := Listed.made (w.alloc (.cells #[.int .i64 k.b.lo, .int .i64 k.b.hi, .int .i64 k.e.lo, .int .i64 k.e.hi] 69))
  have hz0 : (w.alloc (.cells #[.int .i64 k.b.lo, .int .i64 k.b.hi, .int .i64 k.e.lo, .int .i64 k.e.hi] 69)).heap.size = w.heap.size + 1 := by simp
  rw [hz0] at hL0
  have hq0 : ∀ wr : World, Below (w.heap.size + 1) (w.alloc (.cells #[.int .i64 k.b.lo, .int .i64 k.b.hi, .int .i64 k.e.lo, .int .i64 k.e.hi] 69)) wr →
      wr.cell? ⟨w.heap.size, 0, none⟩ = some (.int .i64 k.b.lo) ∧ wr.cell? ⟨w.heap.size, 2, none⟩ = some (.int .i64 k.e.lo) ∧ wr.cell? ⟨w.heap.size, 3, none⟩ = some (.int .i64 k.e.hi) := by
    intro wr hb
    refine ⟨(hb.cell (by simp)).trans ?_, (hb.cell (by simp)).trans ?_, (hb.cell (by simp)).trans ?_⟩ <;> simp [go_sem]
  go_loopw [5, 19] (fun out iv wr => ∃ (j : Nat) (D : List Sp), j ≤ k.b.list.length ∧ iv = .int .i64 j ∧ D.length ≤ 4 * j ∧ wr.ownsRow (w.heap.size + 1 + 1) 101 2 out D.length (spans D) ∧ Listed wr (w.heap.size + 1) D.length D ∧
      Hid (rowF m (k.b.list.drop j) k.e.list D = T) ∧ Below (w.heap.size + 1) (w.alloc (.cells #[.int .i64 k.b.lo, .int .i64 k.b.hi, .int .i64 k.e.lo, .int .i64 k.e.hi] 69)) wr)
      (fun _ iv _ => k.b.list.length - (intOf iv).toNat)
  case atStart => exact ⟨0, [], Nat.zero_le _, by simp, by simp, own_nil _ _ _ _, hL0, HT, (Below.refl _ _).alloc (by simp) _⟩
  case round =>
    obtain ⟨j, D, hj, rfl, hD, hown, hL, HD, hB⟩ := hrel
    obtain ⟨x0, x1, x2⟩ := hq0 _ hB
    by_cases hjt : j < k.b.list.length
    · have hj1 : j + 1 ≤ k.b.list.length := hjt
      have HD2 : Hid (rowF m (k.b.list.drop (j + 1)) k.e.list (colF m (k.b.lo + j) (k.e.list.drop 0) D) = T) := hid (by rw [← HD.out, rowF_drop _ _ _ _ j hjt, HLB.out])
      clear HD
      have hjj : (j : Int) < k.b.hi - k.b.lo + 1 := by omega
      go_wp2_with fail
      have hLD : D.length ≤ 4 * j + 0 := hD
      have hjb : j + 1 ≤ 4 := by omega
      clear hD x0 x1 x2
      go_loopw [5, 30] (fun out iv wr => ∃ (i : Nat) (D : List Sp), i ≤ k.e.list.length ∧ iv = .int .i64 i ∧ D.length ≤ 4 * j + i ∧ wr.ownsRow (w.heap.size + 1 + 1) 101 2 out D.length (spans D) ∧ Listed wr (w.heap.size + 1) D.length D ∧
          Hid (rowF m (k.b.list.drop (j + 1)) k.e.list (colF m (k.b.lo + j) (k.e.list.drop i) D) = T) ∧ Below (w.heap.size + 1) (w.alloc (.cells #[.int .i64 k.b.lo, .int .i64 k.b.hi, .int .i64 k.e.lo, .int .i64 k.e.hi] 69)) wr)
          (fun _ iv _ => k.e.list.length - (intOf iv).toNat)
      case atStart => exact ⟨0, D, Nat.zero_le _, by simp, hLD, hown, hL, HD2, hB⟩
      case round =>
        clear hown hL HD2 hB hLD
        obtain ⟨i, D, hi, rfl, hD, hown, hL, HD, hB⟩ := hrel
        obtain ⟨x0, x1, x2⟩ := hq0 _ hB
        by_cases hit : i < k.e.list.length
        · have hi1 : i + 1 ≤ k.e.list.length := hit
          have HD2 : Hid (rowF m (k.b.list.drop (j + 1)) k.e.list (colF m (k.b.lo + j) (k.e.list.drop (i + 1)) (addNew D (cutF ⟨k.b.lo + j, k.e.lo + i⟩ m))) = T) := hid (by rw [← HD.out, colF_drop _ _ _ _ i hit, HLE.out])
          clear HD
          have hii : (i : Int) < k.e.hi - k.e.lo + 1 := by omega
          have hwf : WfS (cutF ⟨k.b.lo + j, k.e.lo + i⟩ m) := by
            have := cutF_bd ⟨k.b.lo + j, k.e.lo + i⟩ m (by simp only; omega) m1
            exact wf_small _ (by omega)
          by_cases hc : cutF ⟨k.b.lo + j, k.e.lo + i⟩ m ∈ D
          · have hmem : decide (cutF ⟨k.b.lo + j, k.e.lo + i⟩ m ∈ D) = true := decide_eq_true hc
            have hnew : Hid (addNew D (cutF ⟨k.b.lo + j, k.e.lo + i⟩ m) = D) := hid (if_pos hc)
            have hlr := hB.size
            simp only [World.size_alloc] at hlr
            go_wp2_with (first
              | (go_at_call 99; refine (before_any _ _ _ _).mono ?_; rintro e w1 ⟨rfl, hb1⟩; (first | replace hb1 := Below.un1 hb1 | replace hb1 := Below.un2 hb1 | skip); obtain ⟨hc1, hf1, hl1, hm1, hw1⟩ := bcell hb1; have hz1 := hb1.size; (try simp only [World.size_alloc, World.size_setCell] at hz1))
              | (at_lookup; refine wpList_look _ rfl _ _ rfl (w.heap.size + 1) D.length D (hL.of_block (Below.block (B := wr.heap.size) (w := wr) (by (repeat' (first | (with_reducible exact Below.refl _ _) | (with_reducible assumption) | (with_reducible refine Below.drew ?_) | (with_reducible refine below_drewN ?_ _) | (with_reducible refine Below.setCell ?_ ?_ _) | (with_reducible refine Below.alloc ?_ ?_ _) | go_size | (exact Below.size (by assumption)) | (refine Below.trans ?_ (Below.mono (by assumption) ?_))))) _ hL.lt)) rfl _ _ rfl hwf ?_; rw [show (decide ((⟨(cutF ⟨k.b.lo + j, k.e.lo + i⟩ m).lo, (cutF ⟨k.b.lo + j, k.e.lo + i⟩ m).hi⟩ : Sp) ∈ D)) = true from hmem]))
            have ho1 := own_below hown hb1
            refine ⟨⟨i + 1, D, hi1, by go_num, by omega, ho1.alloc _, hL.of_block (Below.block (B := wr.heap.size) (w := wr) (by (repeat' (first | (with_reducible exact Below.refl _ _) | (with_reducible assumption) | (with_reducible refine Below.drew ?_) | (with_reducible refine below_drewN ?_ _) | (with_reducible refine Below.setCell ?_ ?_ _) | (with_reducible refine Below.alloc ?_ ?_ _) | go_size | (exact Below.size (by assumption)) | (refine Below.trans ?_ (Below.mono (by assumption) ?_))))) _ hL.lt), hid (by rw [hnew.out] at HD2; exact HD2.out), (hB.trans (hb1.mono (by omega))).alloc (by omega) _⟩, ?_⟩
            simp [intOf]; omega
          · have hmem : decide (cutF ⟨k.b.lo + j, k.e.lo + i⟩ m ∈ D) = false := decide_eq_false hc
            have hnew : Hid (addNew D (cutF ⟨k.b.lo + j, k.e.lo + i⟩ m) = D ++ [cutF ⟨k.b.lo + j, k.e.lo + i⟩ m]) := hid (if_neg hc)
            have hlr := hB.size
            simp only [World.size_alloc] at hlr
            go_wp2_with (first
              | (go_at_call 99; refine (before_any _ _ _ _).mono ?_; rintro e w1 ⟨rfl, hb1⟩; (first | replace hb1 := Below.un1 hb1 | replace hb1 := Below.un2 hb1 | skip); obtain ⟨hc1, hf1, hl1, hm1, hw1⟩ := bcell hb1; have hz1 := hb1.size; (try simp only [World.size_alloc, World.size_setCell] at hz1))
              | (at_lookup; refine wpList_look _ rfl _ _ rfl (w.heap.size + 1) D.length D (hL.of_block (Below.block (B := wr.heap.size) (w := wr) (by (repeat' (first | (with_reducible exact Below.refl _ _) | (with_reducible assumption) | (with_reducible refine Below.drew ?_) | (with_reducible refine below_drewN ?_ _) | (with_reducible refine Below.setCell ?_ ?_ _) | (with_reducible refine Below.alloc ?_ ?_ _) | go_size | (exact Below.size (by assumption)) | (refine Below.trans ?_ (Below.mono (by assumption) ?_))))) _ hL.lt)) rfl _ _ rfl hwf ?_; rw [show (decide ((⟨(cutF ⟨k.b.lo + j, k.e.lo + i⟩ m).lo, (cutF ⟨k.b.lo + j, k.e.lo + i⟩ m).hi⟩ : Sp) ∈ D)) = false from hmem])
              | (at_mapUpdate; refine wpList_store _ rfl _ _ _ rfl (w.heap.size + 1) D.length D (hL.of_block (Below.block (B := wr.heap.size) (w := wr) (by (repeat' (first | (with_reducible exact Below.refl _ _) | (with_reducible assumption) | (with_reducible refine Below.drew ?_) | (with_reducible refine below_drewN ?_ _) | (with_reducible refine Below.setCell ?_ ?_ _) | (with_reducible refine Below.alloc ?_ ?_ _) | go_size | (exact Below.size (by assumption)) | (refine Below.trans ?_ (Below.mono (by assumption) ?_))))) _ hL.lt)) (by unfold maxLen; omega) rfl _ _ rfl rfl hwf ?_; intro w3 hL3 hg3
                 have hz3 := hg3.size
                 simp only [World.size_alloc] at hz3
                 have hlt := hL.lt
                 have y0 : w3.cell? ⟨w1.heap.size, 0, none⟩ = some (.int .i64 (cutF ⟨k.b.lo + j, k.e.lo + i⟩ m).lo) := (World.cell?_of_block (hg3.block w1.heap.size (by simp) (fun e => by have := Option.some.inj e; omega))).trans (by simp [go_sem])
                 have y1 : w3.cell? ⟨w1.heap.size, 1, none⟩ = some (.int .i64 (cutF ⟨k.b.lo + j, k.e.lo + i⟩ m).hi) := (World.cell?_of_block (hg3.block w1.heap.size (by simp) (fun e => by have := Option.some.inj e; omega))).trans (by simp [go_sem])
                 have ho1 := own_below hown hb1
                 have ho3 := (ho1.alloc (.cells #[.int .i64 (cutF ⟨k.b.lo + j, k.e.lo + i⟩ m).lo, .int .i64 (cutF ⟨k.b.lo + j, k.e.lo + i⟩ m).hi] 101)).kept hg3 (by rcases hq : u5.ownBlock with _ | q; exact .inl rfl; exact .inr (by have := ownBlock_le ho1 q hq; simp; omega))
                 have hB3 : Below (w.heap.size + 1) w1 w3 := ((Below.refl _ _).alloc (by omega) _).grown hg3 (by simp; omega) (fun k e => by cases e; exact Nat.le_refl _))
              | (at_builtin; refine wpList_app1 rfl _ _ 124 rfl (w.heap.size + 1 + 1) 101 _ 2 16 Try.underlying124 info_frost3 rfl (by omega) _ D.length _ rfl ho3 _ rfl rfl (by simp [Value.oneCell']) (by unfold maxLen; omega) (by omega) (by omega) ?_; intro A4 cap4 w4 hcap4 hcap4' hown4 hb4 hg4))
            refine ⟨⟨i + 1, D ++ [cutF ⟨k.b.lo + j, k.e.lo + i⟩ m], hi1, by go_num, by simp; omega, ?_, ?_, hid (by rw [hnew.out] at HD2; exact HD2.out), ?_⟩, ?_⟩
            · rw [show spans (D ++ [cutF ⟨k.b.lo + j, k.e.lo + i⟩ m]) = spans D ++ [.int .i64 (cutF ⟨k.b.lo + j, k.e.lo + i⟩ m).lo, .int .i64 (cutF ⟨k.b.lo + j, k.e.lo + i⟩ m).hi] by simp [spans, Sp.cells]]
              simpa using hown4
            · rw [List.length_append]
              exact hL3.of_block (hb4.block _ (by omega))
            · exact (hB.trans ((hb1.mono (by omega)).trans hB3)).trans (hb4.mono (by omega))
            · simp [intOf]; omega
        · obtain rfl : i = k.e.list.length := by omega
          have HD2 : Hid (rowF m (k.b.list.drop (j + 1)) k.e.list D = T) := hid (by have h := HD.out; rw [List.drop_length] at h; exact h)
          have hii : k.e.hi - k.e.lo + 1 ≤ (k.e.list.length : Int) := by omega
          go_wp2_with fail
          refine ⟨⟨j + 1, D, hj1, by go_num, by omega, hown, hL, HD2, hB⟩, ?_⟩
          simp [intOf]; omega
    · obtain rfl : j = k.b.list.length := by omega
      have HD2 : Hid (D = T) := hid (by have h := HD.out; rw [List.drop_length] at h; exact h)
      have hjj : k.b.hi - k.b.lo + 1 ≤ (k.b.list.length : Int) := by omega
      go_wp2_with fail
      go_ret
      obtain ⟨A, cap, rfl, hcm', ha⟩ := own_formB hown
      rw [← HD2.out]
      exact ⟨A, cap, by simp, hcm', ha.more (by omega) (Nat.le_refl _), by (repeat' (first | (with_reducible exact Below.refl _ _) | (with_reducible assumption) | (with_reducible refine Below.drew ?_) | (with_reducible refine below_drewN ?_ _) | (with_reducible refine Below.setCell ?_ ?_ _) | (with_reducible refine Below.alloc ?_ ?_ _) | go_size | (exact Below.size (by assumption)) | (refine Below.trans ?_ (Below.mono (by assumption) ?_))))⟩
end Go.Proofs.Ytnkbcapikenbbaa
