/- ends: a clock whose frosts all were as long as they can be, or as short. -/
import Derived.Test.YtjkajcpanhlbkaaTs
import Derived.Test.YtjkajcpanhlbkaaN3
import Derived.Deep.DeepCutAuto
import Derived.Deep.RegionHeld3
namespace Go.Proofs.Ytjkajcpanhlbkaa
set_option linter.unusedSimpArgs false
set_option linter.unusedVariables false
open Go.RowKit
attribute [local go_sem high] cell_set_wr
attribute [local go_sem low] cell_wr frozen_wr
attribute [local go_sem] wr_set wr_drew wr_drewN wr_alloc wr_new

def endOf (long : Bool) (f : Fr) : When := if long then ⟨f.b.lo, f.e.hi⟩ else ⟨f.b.hi, f.e.lo⟩
def endsL (fs : List Fr) (long : Bool) : List When := fs.map (endOf long)
theorem endsL_snoc (fs : List Fr) (long : Bool) (k : Nat) (hk : k < fs.length) : endsL (fs.take (k + 1)) long = endsL (fs.take k) long ++ [endOf long fs[k]] := by
  unfold endsL
  rw [List.take_succ_eq_append_getElem hk, List.map_append]
  rfl

/-- what each step of the statement 'y := ..' leaves -/
def endF (C b o k n cap : Nat) (g : Fr) (N : Nat) : Nat → Value → World → Prop
  | 0, v, _ => v = .pointer (some ⟨C, 1, none⟩)
  | 1, v, _ => v = .slice (some ⟨b, o, none⟩) n cap
  | 2, v, _ => v = .int .i64 k
  | 3, v, _ => v = .pointer (some ⟨b, o + k * 4, none⟩)
  | 4, v, _ => v = .pointer (some ⟨b, o + k * 4, none⟩)
  | 5, v, _ => v = .pointer (some ⟨b, o + k * 4 + 1, none⟩)
  | 6, v, _ => v = .int .i64 g.b.hi
  | 7, v, _ => v = .agg #[.int .i64 g.b.hi, .int .i64 g.b.hi]
  | 8, v, _ => v = .pointer (some ⟨C, 1, none⟩)
  | 9, v, _ => v = .slice (some ⟨b, o, none⟩) n cap
  | 10, v, _ => v = .int .i64 k
  | 11, v, _ => v = .pointer (some ⟨b, o + k * 4, none⟩)
  | 12, v, _ => v = .pointer (some ⟨b, o + k * 4 + 2, none⟩)
  | 13, v, _ => v = .pointer (some ⟨b, o + k * 4 + 2, none⟩)
  | 14, v, _ => v = .int .i64 g.e.lo
  | 15, v, _ => v = .agg #[.int .i64 g.e.lo, .int .i64 g.e.lo]
  | 16, v, _ => v = .agg #[.int .i64 g.b.hi, .int .i64 g.b.hi, .int .i64 g.e.lo, .int .i64 g.e.lo]
  | 17, v, w => ∃ P : Nat, v = .pointer (some ⟨P, 0, none⟩) ∧ N ≤ P ∧ P < w.heap.size ∧ Wr w P 0 ∧ Wr w P 1 ∧ Wr w P 2 ∧ Wr w P 3
  | _, _, _ => True
theorem endF_stable (C b o k n cap : Nat) (g : Fr) (N : Nat) : ∀ j v w w', Below w.heap.size w w' → endF C b o k n cap g N j v w → endF C b o k n cap g N j v w' := by
  intro j v w w' hR h
  unfold endF at *
  split at h
  all_goals (try exact h)
  obtain ⟨P, h1, h2, h3, h4, h5, h6, h7⟩ := h
  exact ⟨P, h1, h2, Nat.lt_of_lt_of_le h3 hR.size, wr_below h4 hR h3, wr_below h5 hR h3, wr_below h6 hR h3, wr_below h7 hR h3⟩

set_option maxRecDepth 100000 in
set_option maxHeartbeats 4000000 in
theorem ends_any (set : Int) (A : Option Addr) (cap : Nat) (fs : List Fr) (long : Bool) (w : World) (hA : Arr w w.heap.size A (frosts fs)) (hl3 : fs.length ≤ 3) :
    Calls Try.prog 43 #[.agg #[.int .i64 set, .slice A fs.length cap], .bool long] w fun e w' =>
      (∃ O oc, e = .returned (.agg #[.int .i64 set, .slice O fs.length oc]) ∧ oc ≤ maxLen ∧ Arr w' w'.heap.size O (frosts (exactF (endsL fs long)))) ∧ Below w.heap.size w w' := by
  have hl3' : (fs.length : Int) ≤ 3 := by omega
  go_enter Try.func43, Try.ntmps43
  go_wp2_with fail
  go_loopw [6] (fun iv wr => ∃ (k : Nat) (O : Option Addr) (oc : Nat), k ≤ fs.length ∧ iv = .int .i64 k ∧ wr.ownsRow (w.heap.size + 3) 69 4 (.slice O k oc) k (frosts (exactF (endsL (fs.take k) long))) ∧
      wr.cell? ⟨w.heap.size, 0, none⟩ = some (.int .i64 set) ∧ wr.cell? ⟨w.heap.size, 1, none⟩ = some (.slice A fs.length cap) ∧ wr.cell? ⟨w.heap.size + 1 + 1, 0, none⟩ = some (.int .i64 set) ∧ wr.cell? ⟨w.heap.size + 1 + 1, 1, none⟩ = some (.slice O k oc) ∧
      Wr wr (w.heap.size + 1 + 1) 1 ∧ Wr wr (w.heap.size + 1) 0 ∧ Wr wr (w.heap.size + 1) 1 ∧ w.heap.size + 3 ≤ wr.heap.size ∧ Below w.heap.size w wr) (fun iv _ => fs.length - (intOf iv).toNat)
  case atStart => 
    refine ⟨0, none, 0, Nat.zero_le _, rfl, own_nil _ _ _ _, ?_, ?_, ?_, ?_, ?_, ?_, ?_, ?_, ?_⟩
    · (first | (simp [go_sem, wr_set, wr_drew, wr_drewN, wr_alloc, wr_new]; done) | (simp [go_sem, wr_set, wr_drew, wr_drewN, wr_alloc, wr_new, *]; done) | (simp (disch := go_size) [go_sem, wr_set, wr_drew, wr_drewN, wr_alloc, wr_new, *]; done))
    · (first | (simp [go_sem, wr_set, wr_drew, wr_drewN, wr_alloc, wr_new]; done) | (simp [go_sem, wr_set, wr_drew, wr_drewN, wr_alloc, wr_new, *]; done) | (simp (disch := go_size) [go_sem, wr_set, wr_drew, wr_drewN, wr_alloc, wr_new, *]; done))
    · (first | (simp [go_sem, wr_set, wr_drew, wr_drewN, wr_alloc, wr_new]; done) | (simp [go_sem, wr_set, wr_drew, wr_drewN, wr_alloc, wr_new, *]; done) | (simp (disch := go_size) [go_sem, wr_set, wr_drew, wr_drewN, wr_alloc, wr_new, *]; done))
    · (first | (simp [go_sem, wr_set, wr_drew, wr_drewN, wr_alloc, wr_new]; done) | (simp [go_sem, wr_set, wr_drew, wr_drewN, wr_alloc, wr_new, *]; done) | (simp (disch := go_size) [go_sem, wr_set, wr_drew, wr_drewN, wr_alloc, wr_new, *]; done))
    · (repeat' (first | (with_reducible assumption) | (with_reducible refine wr_set' ?_) | (with_reducible refine wr_drew' ?_) | (refine wr_new ?_ ?_; (focus (simp; done)); (focus (simp; done))) | (with_reducible refine wr_alloc _ ?_)))
    · (repeat' (first | (with_reducible assumption) | (with_reducible refine wr_set' ?_) | (with_reducible refine wr_drew' ?_) | (refine wr_new ?_ ?_; (focus (simp; done)); (focus (simp; done))) | (with_reducible refine wr_alloc _ ?_)))
    · (repeat' (first | (with_reducible assumption) | (with_reducible refine wr_set' ?_) | (with_reducible refine wr_drew' ?_) | (refine wr_new ?_ ?_; (focus (simp; done)); (focus (simp; done))) | (with_reducible refine wr_alloc _ ?_)))
    · simp
    · (repeat' (first | (with_reducible exact Below.refl _ _) | (with_reducible assumption) | (with_reducible refine Below.drew ?_) | (with_reducible refine below_drewN ?_ _) | (with_reducible refine Below.setCell ?_ ?_ _) | (with_reducible refine Below.alloc ?_ ?_ _) | go_size | (exact Below.size (by assumption)) | (refine Below.trans ?_ (Below.mono (by assumption) ?_))))
  case round =>
    obtain ⟨k, O, oc, hk, rfl, hown, c0, c1, x0, x1, xw, r0, r1', hz, hB⟩ := hrel
    by_cases hlt : k < fs.length
    · have hkI : (k : Int) < fs.length := by omega
      obtain ⟨b, o, rfl, hb, f0, f1, f2, f3⟩ := (hA.below hB).fr hlt
      have HT := hid (endsL_snoc fs long k hlt)
      have hk1 : k + 1 ≤ fs.length := hlt
      have hkr : b < wr.heap.size := by omega
      have hkw : w.heap.size < wr.heap.size := by omega
      generalize endsL (fs.take k) long = tr at *
      generalize fs[k] = g at *
      go_wp2_with fail
      go_cut [7] (fun p wx => ∃ P : Nat, p = .pointer (some ⟨P, 0, none⟩) ∧ wr.heap.size ≤ P ∧ P < wx.heap.size ∧ wx.cell? ⟨P, 0, none⟩ = some (.int .i64 g.b.hi) ∧ wx.cell? ⟨P, 1, none⟩ = some (.int .i64 g.b.hi) ∧ wx.cell? ⟨P, 2, none⟩ = some (.int .i64 g.e.lo) ∧ wx.cell? ⟨P, 3, none⟩ = some (.int .i64 g.e.lo) ∧
          Wr wx P 0 ∧ Wr wx P 1 ∧ Wr wx P 2 ∧ Wr wx P 3 ∧ Below wr.heap.size wr wx)
      case first =>
        clear x0 x1 xw r0 r1' hown
        refine wp_region_any (by kernel_rfl) ?_
        have T0 : Below wr.heap.size wr wr.drew := (Below.refl _ _).drew
        refine lin_any [18] 60 (endF w.heap.size b o k fs.length cap g wr.heap.size) (fun w' => Below wr.heap.size wr w') (fun w1 w2 => Below w1.heap.size w1 w2)
          [0, 1, 2, 3, 4, 5, 6, 8, 9, 10, 11, 12, 13, 14, 15, 16, 17, 35, 36, 37, 38, 39, 40, 41, 42, 43, 44, 45, 46, 47, 48, 49, 50, 51, 52, 53, 54, 55, 56, 57, 58, 59] #[true, true, true, true, true, true, true, true, true, true, true, true, true, true, true, true, true, true, false] [0, 1, 2, 3, 4, 5, 6, 7, 8, 9, 10, 11, 12, 13, 14, 15, 16, 17] (by kernel_rfl) (by kernel_rfl) (by kernel_rfl) (by kernel_rfl) (by kernel_rfl) (by kernel_rfl) (by kernel_rfl) (by kernel_rfl) (by kernel_rfl) (by kernel_rfl)
          (endF_stable _ _ _ _ _ _ _ _) (by rfl) T0 ?_ ?_
        · intro a' w' hd hsz hkn hT
          obtain ⟨xs, D⟩ := a'; obtain ⟨l0⟩ := xs; dsimp only at hd hsz hkn; subst hd; have hs0 := hsz; clear hsz; simp only [List.size_toArray] at hs0; obtain ⟨x0, x1, x2, x3, x4, x5, x6, x7, x8, x9, l1, rfl, hs1⟩ := len_ten hs0; clear hs0; obtain ⟨x10, x11, x12, x13, x14, x15, x16, x17, x18, x19, l2, rfl, hs2⟩ := len_ten hs1; clear hs1; obtain ⟨x20, x21, x22, x23, x24, x25, x26, x27, x28, x29, l3, rfl, hs3⟩ := len_ten hs2; clear hs2; obtain ⟨x30, x31, x32, x33, x34, x35, x36, x37, x38, x39, l4, rfl, hs4⟩ := len_ten hs3; clear hs3; obtain ⟨x40, x41, x42, x43, x44, x45, x46, x47, x48, x49, l5, rfl, hs5⟩ := len_ten hs4; clear hs4; obtain ⟨x50, x51, x52, x53, x54, x55, x56, x57, x58, x59, l6, rfl, hs6⟩ := len_ten hs5; clear hs5; obtain rfl := List.length_eq_zero_iff.1 hs6; clear hs6; have kn := known_list hkn; clear hkn; simp only [List.map_cons, List.map_nil, List.getElem?_toArray, List.getElem?_cons_succ, List.getElem?_cons_zero, Array.getD_eq_getD_getElem?, Option.getD_some, List.cons.injEq, Option.some.injEq, and_true] at kn; obtain ⟨rfl, rfl, rfl, rfl, rfl, rfl, rfl, rfl, rfl, rfl, rfl, rfl, rfl, rfl, rfl, rfl, rfl, rfl, rfl, rfl, rfl, rfl, rfl, rfl, rfl, rfl, rfl, rfl, rfl, rfl, rfl, rfl, rfl, rfl, rfl, rfl, rfl, rfl, rfl, rfl, rfl, rfl⟩ := kn
          have hc1 : w'.cell? ⟨w.heap.size, 1, none⟩ = some (.slice (some ⟨b, o, none⟩) fs.length cap) := (hT.cell (by simp only; omega)).trans c1
          have hf1 : w'.cell? ⟨b, o + k * 4 + 1, none⟩ = some (.int .i64 g.b.hi) := (hT.cell (by simp only; omega)).trans f1
          have hf2 : w'.cell? ⟨b, o + k * 4 + 2, none⟩ = some (.int .i64 g.e.lo) := (hT.cell (by simp only; omega)).trans f2
          refine LinOps.cons (by simp only [List.getElem?_toArray, List.getElem?_cons_succ, List.getElem?_cons_zero]; rfl) (fun hk K hK => ?_) ?_
          · go_simp
            exact hK.out _ _ _ rfl rfl hT (Below.refl _ _)
          refine LinOps.cons (by simp only [List.getElem?_toArray, List.getElem?_cons_succ, List.getElem?_cons_zero]; rfl) (fun hk K hK => ?_) ?_
          · (obtain ⟨v, hv, hf⟩ := Known.get (hk 0 (by kernel_rfl) (by simp)) (d := 18) (by kernel_rfl); simp only [List.getElem?_toArray, List.getElem?_cons_succ, List.getElem?_cons_zero, Option.some.injEq] at hv; subst hv; simp only [endF] at hf; (try subst hf))
            go_simp
            exact hK.out _ _ _ rfl rfl hT (Below.refl _ _)
          refine LinOps.cons (by simp only [List.getElem?_toArray, List.getElem?_cons_succ, List.getElem?_cons_zero]; rfl) (fun hk K hK => ?_) ?_
          · go_simp
            exact hK.out _ _ _ rfl rfl hT (Below.refl _ _)
          refine LinOps.cons (by simp only [List.getElem?_toArray, List.getElem?_cons_succ, List.getElem?_cons_zero]; rfl) (fun hk K hK => ?_) ?_
          · (obtain ⟨v, hv, hf⟩ := Known.get (hk 1 (by kernel_rfl) (by simp)) (d := 19) (by kernel_rfl); simp only [List.getElem?_toArray, List.getElem?_cons_succ, List.getElem?_cons_zero, Option.some.injEq] at hv; subst hv; simp only [endF] at hf; (try subst hf)); (obtain ⟨v, hv, hf⟩ := Known.get (hk 2 (by kernel_rfl) (by simp)) (d := 20) (by kernel_rfl); simp only [List.getElem?_toArray, List.getElem?_cons_succ, List.getElem?_cons_zero, Option.some.injEq] at hv; subst hv; simp only [endF] at hf; (try subst hf))
            go_simp
            exact hK.out _ _ _ rfl rfl hT (Below.refl _ _)
          refine LinOps.cons (by simp only [List.getElem?_toArray, List.getElem?_cons_succ, List.getElem?_cons_zero]; rfl) (fun hk K hK => ?_) ?_
          · (obtain ⟨v, hv, hf⟩ := Known.get (hk 3 (by kernel_rfl) (by simp)) (d := 21) (by kernel_rfl); simp only [List.getElem?_toArray, List.getElem?_cons_succ, List.getElem?_cons_zero, Option.some.injEq] at hv; subst hv; simp only [endF] at hf; (try subst hf))
            go_simp
            exact hK.out _ _ _ rfl rfl hT (Below.refl _ _)
          refine LinOps.cons (by simp only [List.getElem?_toArray, List.getElem?_cons_succ, List.getElem?_cons_zero]; rfl) (fun hk K hK => ?_) ?_
          · (obtain ⟨v, hv, hf⟩ := Known.get (hk 4 (by kernel_rfl) (by simp)) (d := 22) (by kernel_rfl); simp only [List.getElem?_toArray, List.getElem?_cons_succ, List.getElem?_cons_zero, Option.some.injEq] at hv; subst hv; simp only [endF] at hf; (try subst hf))
            go_simp
            exact hK.out _ _ _ rfl rfl hT (Below.refl _ _)
          refine LinOps.cons (by simp only [List.getElem?_toArray, List.getElem?_cons_succ, List.getElem?_cons_zero]; rfl) (fun hk K hK => ?_) ?_
          · (obtain ⟨v, hv, hf⟩ := Known.get (hk 5 (by kernel_rfl) (by simp)) (d := 23) (by kernel_rfl); simp only [List.getElem?_toArray, List.getElem?_cons_succ, List.getElem?_cons_zero, Option.some.injEq] at hv; subst hv; simp only [endF] at hf; (try subst hf))
            go_simp
            exact hK.out _ _ _ rfl rfl hT (Below.refl _ _)
          refine LinOps.cons (by simp only [List.getElem?_toArray, List.getElem?_cons_succ, List.getElem?_cons_zero]; rfl) (fun hk K hK => ?_) ?_
          · (obtain ⟨v, hv, hf⟩ := Known.get (hk 6 (by kernel_rfl) (by simp)) (d := 24) (by kernel_rfl); simp only [List.getElem?_toArray, List.getElem?_cons_succ, List.getElem?_cons_zero, Option.some.injEq] at hv; subst hv; simp only [endF] at hf; (try subst hf))
            go_simp
            go_at_call 47; refine (one_any _ _).mono ?_
            rintro e w2 ⟨rfl, h2⟩
            exact hK.out _ _ _ rfl rfl (hT.trans (h2.mono hT.size)) h2
          refine LinOps.cons (by simp only [List.getElem?_toArray, List.getElem?_cons_succ, List.getElem?_cons_zero]; rfl) (fun hk K hK => ?_) ?_
          · go_simp
            exact hK.out _ _ _ rfl rfl hT (Below.refl _ _)
          refine LinOps.cons (by simp only [List.getElem?_toArray, List.getElem?_cons_succ, List.getElem?_cons_zero]; rfl) (fun hk K hK => ?_) ?_
          · (obtain ⟨v, hv, hf⟩ := Known.get (hk 8 (by kernel_rfl) (by simp)) (d := 26) (by kernel_rfl); simp only [List.getElem?_toArray, List.getElem?_cons_succ, List.getElem?_cons_zero, Option.some.injEq] at hv; subst hv; simp only [endF] at hf; (try subst hf))
            go_simp
            exact hK.out _ _ _ rfl rfl hT (Below.refl _ _)
          refine LinOps.cons (by simp only [List.getElem?_toArray, List.getElem?_cons_succ, List.getElem?_cons_zero]; rfl) (fun hk K hK => ?_) ?_
          · go_simp
            exact hK.out _ _ _ rfl rfl hT (Below.refl _ _)
          refine LinOps.cons (by simp only [List.getElem?_toArray, List.getElem?_cons_succ, List.getElem?_cons_zero]; rfl) (fun hk K hK => ?_) ?_
          · (obtain ⟨v, hv, hf⟩ := Known.get (hk 9 (by kernel_rfl) (by simp)) (d := 27) (by kernel_rfl); simp only [List.getElem?_toArray, List.getElem?_cons_succ, List.getElem?_cons_zero, Option.some.injEq] at hv; subst hv; simp only [endF] at hf; (try subst hf)); (obtain ⟨v, hv, hf⟩ := Known.get (hk 10 (by kernel_rfl) (by simp)) (d := 28) (by kernel_rfl); simp only [List.getElem?_toArray, List.getElem?_cons_succ, List.getElem?_cons_zero, Option.some.injEq] at hv; subst hv; simp only [endF] at hf; (try subst hf))
            go_simp
            exact hK.out _ _ _ rfl rfl hT (Below.refl _ _)
          refine LinOps.cons (by simp only [List.getElem?_toArray, List.getElem?_cons_succ, List.getElem?_cons_zero]; rfl) (fun hk K hK => ?_) ?_
          · (obtain ⟨v, hv, hf⟩ := Known.get (hk 11 (by kernel_rfl) (by simp)) (d := 29) (by kernel_rfl); simp only [List.getElem?_toArray, List.getElem?_cons_succ, List.getElem?_cons_zero, Option.some.injEq] at hv; subst hv; simp only [endF] at hf; (try subst hf))
            go_simp
            exact hK.out _ _ _ rfl rfl hT (Below.refl _ _)
          refine LinOps.cons (by simp only [List.getElem?_toArray, List.getElem?_cons_succ, List.getElem?_cons_zero]; rfl) (fun hk K hK => ?_) ?_
          · (obtain ⟨v, hv, hf⟩ := Known.get (hk 12 (by kernel_rfl) (by simp)) (d := 30) (by kernel_rfl); simp only [List.getElem?_toArray, List.getElem?_cons_succ, List.getElem?_cons_zero, Option.some.injEq] at hv; subst hv; simp only [endF] at hf; (try subst hf))
            go_simp
            exact hK.out _ _ _ rfl rfl hT (Below.refl _ _)
          refine LinOps.cons (by simp only [List.getElem?_toArray, List.getElem?_cons_succ, List.getElem?_cons_zero]; rfl) (fun hk K hK => ?_) ?_
          · (obtain ⟨v, hv, hf⟩ := Known.get (hk 13 (by kernel_rfl) (by simp)) (d := 31) (by kernel_rfl); simp only [List.getElem?_toArray, List.getElem?_cons_succ, List.getElem?_cons_zero, Option.some.injEq] at hv; subst hv; simp only [endF] at hf; (try subst hf))
            go_simp
            exact hK.out _ _ _ rfl rfl hT (Below.refl _ _)
          refine LinOps.cons (by simp only [List.getElem?_toArray, List.getElem?_cons_succ, List.getElem?_cons_zero]; rfl) (fun hk K hK => ?_) ?_
          · (obtain ⟨v, hv, hf⟩ := Known.get (hk 14 (by kernel_rfl) (by simp)) (d := 32) (by kernel_rfl); simp only [List.getElem?_toArray, List.getElem?_cons_succ, List.getElem?_cons_zero, Option.some.injEq] at hv; subst hv; simp only [endF] at hf; (try subst hf))
            go_simp
            go_at_call 47; refine (one_any _ _).mono ?_
            rintro e w2 ⟨rfl, h2⟩
            exact hK.out _ _ _ rfl rfl (hT.trans (h2.mono hT.size)) h2
          refine LinOps.cons (by simp only [List.getElem?_toArray, List.getElem?_cons_succ, List.getElem?_cons_zero]; rfl) (fun hk K hK => ?_) ?_
          · (obtain ⟨v, hv, hf⟩ := Known.get (hk 7 (by kernel_rfl) (by simp)) (d := 25) (by kernel_rfl); simp only [List.getElem?_toArray, List.getElem?_cons_succ, List.getElem?_cons_zero, Option.some.injEq] at hv; subst hv; simp only [endF] at hf; (try subst hf)); (obtain ⟨v, hv, hf⟩ := Known.get (hk 15 (by kernel_rfl) (by simp)) (d := 33) (by kernel_rfl); simp only [List.getElem?_toArray, List.getElem?_cons_succ, List.getElem?_cons_zero, Option.some.injEq] at hv; subst hv; simp only [endF] at hf; (try subst hf))
            go_simp
            exact hK.out _ _ _ rfl rfl hT (Below.refl _ _)
          refine LinOps.cons (by simp only [List.getElem?_toArray, List.getElem?_cons_succ, List.getElem?_cons_zero]; rfl) (fun hk K hK => ?_) ?_
          · go_simp
            exact hK.out _ _ _ rfl ⟨w'.heap.size, rfl, hT.size, by simp, wr_new rfl (by simp), wr_new rfl (by simp), wr_new rfl (by simp), wr_new rfl (by simp)⟩ (hT.alloc hT.size _) ((Below.refl _ _).alloc (Nat.le_refl _) _)
          exact LinOps.nil
        · intro a' w' hd hsz hkn hT hall
          obtain ⟨xs, D⟩ := a'; obtain ⟨l0⟩ := xs; dsimp only at hd hsz hkn; subst hd; have hs0 := hsz; clear hsz; simp only [List.size_toArray] at hs0; obtain ⟨x0, x1, x2, x3, x4, x5, x6, x7, x8, x9, l1, rfl, hs1⟩ := len_ten hs0; clear hs0; obtain ⟨x10, x11, x12, x13, x14, x15, x16, x17, x18, x19, l2, rfl, hs2⟩ := len_ten hs1; clear hs1; obtain ⟨x20, x21, x22, x23, x24, x25, x26, x27, x28, x29, l3, rfl, hs3⟩ := len_ten hs2; clear hs2; obtain ⟨x30, x31, x32, x33, x34, x35, x36, x37, x38, x39, l4, rfl, hs4⟩ := len_ten hs3; clear hs3; obtain ⟨x40, x41, x42, x43, x44, x45, x46, x47, x48, x49, l5, rfl, hs5⟩ := len_ten hs4; clear hs4; obtain ⟨x50, x51, x52, x53, x54, x55, x56, x57, x58, x59, l6, rfl, hs6⟩ := len_ten hs5; clear hs5; obtain rfl := List.length_eq_zero_iff.1 hs6; clear hs6; have kn := known_list hkn; clear hkn; simp only [List.map_cons, List.map_nil, List.getElem?_toArray, List.getElem?_cons_succ, List.getElem?_cons_zero, Array.getD_eq_getD_getElem?, Option.getD_some, List.cons.injEq, Option.some.injEq, and_true] at kn; obtain ⟨rfl, rfl, rfl, rfl, rfl, rfl, rfl, rfl, rfl, rfl, rfl, rfl, rfl, rfl, rfl, rfl, rfl, rfl, rfl, rfl, rfl, rfl, rfl, rfl, rfl, rfl, rfl, rfl, rfl, rfl, rfl, rfl, rfl, rfl, rfl, rfl, rfl, rfl, rfl, rfl, rfl, rfl⟩ := kn
          (obtain ⟨v, hv, hf⟩ := Known.get (hall 16 (by kernel_rfl) ) (d := 34) (by kernel_rfl); simp only [List.getElem?_toArray, List.getElem?_cons_succ, List.getElem?_cons_zero, Option.some.injEq] at hv; subst hv; simp only [endF] at hf; (try subst hf))
          (obtain ⟨v, hv, hf⟩ := Known.get (hall 17 (by kernel_rfl) ) (d := 7) (by kernel_rfl); simp only [List.getElem?_toArray, List.getElem?_cons_succ, List.getElem?_cons_zero, Option.some.injEq] at hv; subst hv; simp only [endF] at hf; (try subst hf))
          obtain ⟨P, rfl, hP1, hP2, hw0, hw1, hw2, hw3⟩ := hf
          clear hall
          refine wpAny_ready (rs := [18]) (by kernel_rfl) (by simp) ?_; refine AllReady.cons (by simp only [List.getElem?_toArray, List.getElem?_cons_succ, List.getElem?_cons_zero]; rfl) (fun K hK => ?_) AllReady.nil
          go_simp
          refine hK _ _ ?_
          (try simp only [Act.put, List.setIfInBounds_toArray, List.set_cons_zero, List.set_cons_succ])
          clear hK K
          refine wpAny_done (by kernel_rfl) ?_ _
          go_wp2_with fail
          go_meet
          refine ⟨P, rfl, hP1, by simp; omega, ?_, ?_, ?_, ?_, ?_, ?_, ?_, ?_, ?_⟩
          · (first | (simp [go_sem, wr_set, wr_drew, wr_drewN, wr_alloc, wr_new]; done) | (simp [go_sem, wr_set, wr_drew, wr_drewN, wr_alloc, wr_new, *]; done) | (simp (disch := go_size) [go_sem, wr_set, wr_drew, wr_drewN, wr_alloc, wr_new, *]; done))
          · (first | (simp [go_sem, wr_set, wr_drew, wr_drewN, wr_alloc, wr_new]; done) | (simp [go_sem, wr_set, wr_drew, wr_drewN, wr_alloc, wr_new, *]; done) | (simp (disch := go_size) [go_sem, wr_set, wr_drew, wr_drewN, wr_alloc, wr_new, *]; done))
          · (first | (simp [go_sem, wr_set, wr_drew, wr_drewN, wr_alloc, wr_new]; done) | (simp [go_sem, wr_set, wr_drew, wr_drewN, wr_alloc, wr_new, *]; done) | (simp (disch := go_size) [go_sem, wr_set, wr_drew, wr_drewN, wr_alloc, wr_new, *]; done))
          · (first | (simp [go_sem, wr_set, wr_drew, wr_drewN, wr_alloc, wr_new]; done) | (simp [go_sem, wr_set, wr_drew, wr_drewN, wr_alloc, wr_new, *]; done) | (simp (disch := go_size) [go_sem, wr_set, wr_drew, wr_drewN, wr_alloc, wr_new, *]; done))
          · (first | (simp [go_sem, wr_set, wr_drew, wr_drewN, wr_alloc, wr_new]; done) | (simp [go_sem, wr_set, wr_drew, wr_drewN, wr_alloc, wr_new, *]; done) | (simp (disch := go_size) [go_sem, wr_set, wr_drew, wr_drewN, wr_alloc, wr_new, *]; done))
          · (first | (simp [go_sem, wr_set, wr_drew, wr_drewN, wr_alloc, wr_new]; done) | (simp [go_sem, wr_set, wr_drew, wr_drewN, wr_alloc, wr_new, *]; done) | (simp (disch := go_size) [go_sem, wr_set, wr_drew, wr_drewN, wr_alloc, wr_new, *]; done))
          · (first | (simp [go_sem, wr_set, wr_drew, wr_drewN, wr_alloc, wr_new]; done) | (simp [go_sem, wr_set, wr_drew, wr_drewN, wr_alloc, wr_new, *]; done) | (simp (disch := go_size) [go_sem, wr_set, wr_drew, wr_drewN, wr_alloc, wr_new, *]; done))
          · (first | (simp [go_sem, wr_set, wr_drew, wr_drewN, wr_alloc, wr_new]; done) | (simp [go_sem, wr_set, wr_drew, wr_drewN, wr_alloc, wr_new, *]; done) | (simp (disch := go_size) [go_sem, wr_set, wr_drew, wr_drewN, wr_alloc, wr_new, *]; done))
          · (repeat' (first | (with_reducible exact Below.refl _ _) | (with_reducible assumption) | (with_reducible refine Below.drew ?_) | (with_reducible refine below_drewN ?_ _) | (with_reducible refine Below.setCell ?_ ?_ _) | (with_reducible refine Below.alloc ?_ ?_ _) | go_size | (exact Below.size (by assumption)) | (refine Below.trans ?_ (Below.mono (by assumption) ?_))))
      case rest =>
        obtain ⟨P, rfl, hP1, hP2, p0, p1, p2, p3, q0, q1, q2, q3, hbP⟩ := hcut
        have hown' := own_below hown hbP
        have d0 : wc.cell? ⟨w.heap.size, 0, none⟩ = some (.int .i64 set) := (hbP.cell (by simp only; omega)).trans c0
        have d1 : wc.cell? ⟨w.heap.size, 1, none⟩ = some (.slice (some ⟨b, o, none⟩) fs.length cap) := (hbP.cell (by simp only; omega)).trans c1
        have y0 : wc.cell? ⟨w.heap.size + 1 + 1, 0, none⟩ = some (.int .i64 set) := (hbP.cell (by simp only; omega)).trans x0
        have y1 : wc.cell? ⟨w.heap.size + 1 + 1, 1, none⟩ = some (.slice O k oc) := (hbP.cell (by simp only; omega)).trans x1
        have yw : Wr wc (w.heap.size + 1 + 1) 1 := wr_below xw hbP (by omega)
        have s0 : Wr wc (w.heap.size + 1) 0 := wr_below r0 hbP (by omega)
        have s1 : Wr wc (w.heap.size + 1) 1 := wr_below r1' hbP (by omega)
        have g0 : wc.cell? ⟨b, o + k * 4, none⟩ = some (.int .i64 g.b.lo) := (hbP.cell (by simp only; omega)).trans f0
        have g3 : wc.cell? ⟨b, o + k * 4 + 3, none⟩ = some (.int .i64 g.e.hi) := (hbP.cell (by simp only; omega)).trans f3
        have hBc : Below w.heap.size w wc := hB.trans (hbP.mono (by omega))
        have hzc := hbP.size
        have hbc : b < wc.heap.size := by omega
        have hPb : P ≠ b := by omega
        cases long
        · clear c0 c1 x0 x1 xw r0 r1' f0 f1 f2 f3 hB hbP hown
          go_wp2_with (at_builtin; go_loud (refine wpList_app1 rfl _ _ 22 rfl (w.heap.size + 3) 69 _ 4 32 Try.underlying22 info_frostA rfl (by omega) _ _ _ rfl hown' _ rfl rfl (by simp [Value.oneCell']) (by unfold maxLen; omega) (by omega) (by first | omega | (simp; omega)) ?_; intro A1 cap1 w5 hcap1 hcap1' hown5 hb5' hg5; have v0 : w5.cell? ⟨w.heap.size, 0, none⟩ = some (.int .i64 set) := ((hb5'.cell (by simp only; omega)).trans d0); have v1 : w5.cell? ⟨w.heap.size, 1, none⟩ = some (.slice (some ⟨b, o, none⟩) fs.length cap) := ((hb5'.cell (by simp only; omega)).trans d1); have v2 : w5.cell? ⟨w.heap.size + 1 + 1, 0, none⟩ = some (.int .i64 set) := ((hb5'.cell (by simp only; omega)).trans y0); have v3 : Wr w5 (w.heap.size + 1 + 1) 1 := (wr_below yw hb5' (by omega)); have v4 : Wr w5 (w.heap.size + 1) 0 := (wr_below s0 hb5' (by omega)); have v5 : Wr w5 (w.heap.size + 1) 1 := (wr_below s1 hb5' (by omega)); have vB : Below w.heap.size w w5 := hBc.trans (hb5'.mono (by omega)); have vz := hb5'.size))
          refine ⟨⟨k + 1, A1, cap1, hk1, by go_num, ?_, ?_, ?_, ?_, ?_, ?_, ?_, ?_, ?_, ?_⟩, by simp [intOf]; omega⟩
          · rw [HT.out]
            unfold exactF
            rw [List.map_append, frosts_append]
            exact ownsRow_setCell_below hown5 (by simp only; omega) _
          · (first | (simp [go_sem, wr_set, wr_drew, wr_drewN, wr_alloc, wr_new]; done) | (simp [go_sem, wr_set, wr_drew, wr_drewN, wr_alloc, wr_new, *]; done) | (simp (disch := go_size) [go_sem, wr_set, wr_drew, wr_drewN, wr_alloc, wr_new, *]; done))
          · (first | (simp [go_sem, wr_set, wr_drew, wr_drewN, wr_alloc, wr_new]; done) | (simp [go_sem, wr_set, wr_drew, wr_drewN, wr_alloc, wr_new, *]; done) | (simp (disch := go_size) [go_sem, wr_set, wr_drew, wr_drewN, wr_alloc, wr_new, *]; done))
          · (first | (simp [go_sem, wr_set, wr_drew, wr_drewN, wr_alloc, wr_new]; done) | (simp [go_sem, wr_set, wr_drew, wr_drewN, wr_alloc, wr_new, *]; done) | (simp (disch := go_size) [go_sem, wr_set, wr_drew, wr_drewN, wr_alloc, wr_new, *]; done))
          · (first | (simp [go_sem, wr_set, wr_drew, wr_drewN, wr_alloc, wr_new]; done) | (simp [go_sem, wr_set, wr_drew, wr_drewN, wr_alloc, wr_new, *]; done) | (simp (disch := go_size) [go_sem, wr_set, wr_drew, wr_drewN, wr_alloc, wr_new, *]; done))
          · (repeat' (first | (with_reducible assumption) | trivial | (with_reducible refine And.intro ?_ ?_) | (with_reducible refine wr_drew' ?_) | (with_reducible refine wr_drewN' ?_) | (with_reducible refine wr_alloc _ ?_) | (with_reducible refine wr_set' ?_) | (refine wr_below ?_ (by assumption) ?_) | go_size))
          · (repeat' (first | (with_reducible assumption) | trivial | (with_reducible refine And.intro ?_ ?_) | (with_reducible refine wr_drew' ?_) | (with_reducible refine wr_drewN' ?_) | (with_reducible refine wr_alloc _ ?_) | (with_reducible refine wr_set' ?_) | (refine wr_below ?_ (by assumption) ?_) | go_size))
          · (repeat' (first | (with_reducible assumption) | trivial | (with_reducible refine And.intro ?_ ?_) | (with_reducible refine wr_drew' ?_) | (with_reducible refine wr_drewN' ?_) | (with_reducible refine wr_alloc _ ?_) | (with_reducible refine wr_set' ?_) | (refine wr_below ?_ (by assumption) ?_) | go_size))
          · simp; omega
          · (repeat' (first | (with_reducible exact Below.refl _ _) | (with_reducible assumption) | (with_reducible refine Below.drew ?_) | (with_reducible refine below_drewN ?_ _) | (with_reducible refine Below.setCell ?_ ?_ _) | (with_reducible refine Below.alloc ?_ ?_ _) | go_size | (exact Below.size (by assumption)) | (refine Below.trans ?_ (Below.mono (by assumption) ?_))))
        · go_wp2_with fail
          clear hown' d0 y0 y1 yw s0 s1
          go_cut [] (fun wx => wx.cell? ⟨P, 0, none⟩ = some (.int .i64 g.b.lo) ∧ wx.cell? ⟨P, 1, none⟩ = some (.int .i64 g.b.lo) ∧ wx.cell? ⟨P, 2, none⟩ = some (.int .i64 g.e.hi) ∧ wx.cell? ⟨P, 3, none⟩ = some (.int .i64 g.e.hi) ∧ P < wx.heap.size ∧ Below wr.heap.size wr wx)
          case first =>
            clear c0 c1 x0 x1 xw r0 r1' f0 f1 f2 f3 hown
            go_region_held3 (fun w' => (w'.cell? ⟨w.heap.size, 1, none⟩ = some (.slice (some ⟨b, o, none⟩) fs.length cap) ∧ w'.cell? ⟨b, o + k * 4, none⟩ = some (.int .i64 g.b.lo) ∧ w'.cell? ⟨b, o + k * 4 + 3, none⟩ = some (.int .i64 g.e.hi) ∧ Wr w' P 0 ∧ Wr w' P 1 ∧ Wr w' P 2 ∧ Wr w' P 3) ∧ Below wr.heap.size wr w') (((refine ⟨?_, ?_⟩; (focus (first | (simp [go_sem, wr_set, wr_drew, wr_drewN, wr_alloc, wr_new]; done) | (simp [go_sem, wr_set, wr_drew, wr_drewN, wr_alloc, wr_new, *]; done) | (simp (disch := go_size) [go_sem, wr_set, wr_drew, wr_drewN, wr_alloc, wr_new, *]; done))); (repeat' (first | (with_reducible exact Below.refl _ _) | (with_reducible assumption) | (with_reducible refine Below.drew ?_) | (with_reducible refine below_drewN ?_ _) | (with_reducible refine Below.setCell ?_ ?_ _) | (with_reducible refine Below.alloc ?_ ?_ _) | go_size | (exact Below.size (by assumption)) | (refine Below.trans ?_ (Below.mono (by assumption) ?_)))))))
              (first
                | (go_at_call 47; refine (one_any _ _).mono ?_; rintro e w1 ⟨rfl, hb1⟩; (first | replace hb1 := Below.un1 hb1 | replace hb1 := Below.un2 hb1 | skip); obtain ⟨hc1, hf1, hl1, hm1, hw1⟩ := bcell hb1; have hz1 := hb1.size; (try simp only [World.size_alloc, World.size_setCell] at hz1); have n1 : w.heap.size < w1.heap.size := (by omega); have n2 : b < w1.heap.size := (by omega); have n3 : P < w1.heap.size := (by omega)))
            rename_i hHeld
            go_wp2_with fail
            go_meet
            refine ⟨?_, ?_, ?_, ?_, ?_, hHeld.2⟩
            · (first | (simp [go_sem, wr_set, wr_drew, wr_drewN, wr_alloc, wr_new]; done) | (simp [go_sem, wr_set, wr_drew, wr_drewN, wr_alloc, wr_new, *]; done) | (simp (disch := go_size) [go_sem, wr_set, wr_drew, wr_drewN, wr_alloc, wr_new, *]; done))
            · (first | (simp [go_sem, wr_set, wr_drew, wr_drewN, wr_alloc, wr_new]; done) | (simp [go_sem, wr_set, wr_drew, wr_drewN, wr_alloc, wr_new, *]; done) | (simp (disch := go_size) [go_sem, wr_set, wr_drew, wr_drewN, wr_alloc, wr_new, *]; done))
            · (first | (simp [go_sem, wr_set, wr_drew, wr_drewN, wr_alloc, wr_new]; done) | (simp [go_sem, wr_set, wr_drew, wr_drewN, wr_alloc, wr_new, *]; done) | (simp (disch := go_size) [go_sem, wr_set, wr_drew, wr_drewN, wr_alloc, wr_new, *]; done))
            · (first | (simp [go_sem, wr_set, wr_drew, wr_drewN, wr_alloc, wr_new]; done) | (simp [go_sem, wr_set, wr_drew, wr_drewN, wr_alloc, wr_new, *]; done) | (simp (disch := go_size) [go_sem, wr_set, wr_drew, wr_drewN, wr_alloc, wr_new, *]; done))
            · simp; omega
          case rest =>
            obtain ⟨p0, p1, p2, p3, hP2, hbP2⟩ := hcut
            have hown2 := own_below hown hbP2
            have z0 : wc.cell? ⟨w.heap.size, 0, none⟩ = some (.int .i64 set) := (hbP2.cell (by simp only; omega)).trans c0
            have z1 : wc.cell? ⟨w.heap.size, 1, none⟩ = some (.slice (some ⟨b, o, none⟩) fs.length cap) := (hbP2.cell (by simp only; omega)).trans c1
            have z2 : wc.cell? ⟨w.heap.size + 1 + 1, 0, none⟩ = some (.int .i64 set) := (hbP2.cell (by simp only; omega)).trans x0
            have z6 : wc.cell? ⟨w.heap.size + 1 + 1, 1, none⟩ = some (.slice O k oc) := (hbP2.cell (by simp only; omega)).trans x1
            have z3 : Wr wc (w.heap.size + 1 + 1) 1 := wr_below xw hbP2 (by omega)
            have z4 : Wr wc (w.heap.size + 1) 0 := wr_below r0 hbP2 (by omega)
            have z5 : Wr wc (w.heap.size + 1) 1 := wr_below r1' hbP2 (by omega)
            have zB : Below w.heap.size w wc := hB.trans (hbP2.mono (by omega))
            have zz := hbP2.size
            clear c0 c1 x0 x1 xw r0 r1' f0 f1 f2 f3 hB hbP hbP2 hown d1 g0 g3 hBc hzc hbc
            go_wp2_with (at_builtin; go_loud (refine wpList_app1 rfl _ _ 22 rfl (w.heap.size + 3) 69 _ 4 32 Try.underlying22 info_frostA rfl (by omega) _ _ _ rfl hown2 _ rfl rfl (by simp [Value.oneCell']) (by unfold maxLen; omega) (by omega) (by first | omega | (simp; omega)) ?_; intro A1 cap1 w5 hcap1 hcap1' hown5 hb5' hg5; have v0 : w5.cell? ⟨w.heap.size, 0, none⟩ = some (.int .i64 set) := ((hb5'.cell (by simp only; omega)).trans z0); have v1 : w5.cell? ⟨w.heap.size, 1, none⟩ = some (.slice (some ⟨b, o, none⟩) fs.length cap) := ((hb5'.cell (by simp only; omega)).trans z1); have v2 : w5.cell? ⟨w.heap.size + 1 + 1, 0, none⟩ = some (.int .i64 set) := ((hb5'.cell (by simp only; omega)).trans z2); have v3 : Wr w5 (w.heap.size + 1 + 1) 1 := (wr_below z3 hb5' (by omega)); have v4 : Wr w5 (w.heap.size + 1) 0 := (wr_below z4 hb5' (by omega)); have v5 : Wr w5 (w.heap.size + 1) 1 := (wr_below z5 hb5' (by omega)); have vB : Below w.heap.size w w5 := zB.trans (hb5'.mono (by omega)); have vz := hb5'.size))
            refine ⟨⟨k + 1, A1, cap1, hk1, by go_num, ?_, ?_, ?_, ?_, ?_, ?_, ?_, ?_, ?_, ?_⟩, by simp [intOf]; omega⟩
            · rw [HT.out]
              unfold exactF
              rw [List.map_append, frosts_append]
              exact ownsRow_setCell_below hown5 (by simp only; omega) _
            · (first | (simp [go_sem, wr_set, wr_drew, wr_drewN, wr_alloc, wr_new]; done) | (simp [go_sem, wr_set, wr_drew, wr_drewN, wr_alloc, wr_new, *]; done) | (simp (disch := go_size) [go_sem, wr_set, wr_drew, wr_drewN, wr_alloc, wr_new, *]; done))
            · (first | (simp [go_sem, wr_set, wr_drew, wr_drewN, wr_alloc, wr_new]; done) | (simp [go_sem, wr_set, wr_drew, wr_drewN, wr_alloc, wr_new, *]; done) | (simp (disch := go_size) [go_sem, wr_set, wr_drew, wr_drewN, wr_alloc, wr_new, *]; done))
            · (first | (simp [go_sem, wr_set, wr_drew, wr_drewN, wr_alloc, wr_new]; done) | (simp [go_sem, wr_set, wr_drew, wr_drewN, wr_alloc, wr_new, *]; done) | (simp (disch := go_size) [go_sem, wr_set, wr_drew, wr_drewN, wr_alloc, wr_new, *]; done))
            · (first | (simp [go_sem, wr_set, wr_drew, wr_drewN, wr_alloc, wr_new]; done) | (simp [go_sem, wr_set, wr_drew, wr_drewN, wr_alloc, wr_new, *]; done) | (simp (disch := go_size) [go_sem, wr_set, wr_drew, wr_drewN, wr_alloc, wr_new, *]; done))
            · (repeat' (first | (with_reducible assumption) | trivial | (with_reducible refine And.intro ?_ ?_) | (with_reducible refine wr_drew' ?_) | (with_reducible refine wr_drewN' ?_) | (with_reducible refine wr_alloc _ ?_) | (with_reducible refine wr_set' ?_) | (refine wr_below ?_ (by assumption) ?_) | go_size))
            · (repeat' (first | (with_reducible assumption) | trivial | (with_reducible refine And.intro ?_ ?_) | (with_reducible refine wr_drew' ?_) | (with_reducible refine wr_drewN' ?_) | (with_reducible refine wr_alloc _ ?_) | (with_reducible refine wr_set' ?_) | (refine wr_below ?_ (by assumption) ?_) | go_size))
            · (repeat' (first | (with_reducible assumption) | trivial | (with_reducible refine And.intro ?_ ?_) | (with_reducible refine wr_drew' ?_) | (with_reducible refine wr_drewN' ?_) | (with_reducible refine wr_alloc _ ?_) | (with_reducible refine wr_set' ?_) | (refine wr_below ?_ (by assumption) ?_) | go_size))
            · simp; omega
            · (repeat' (first | (with_reducible exact Below.refl _ _) | (with_reducible assumption) | (with_reducible refine Below.drew ?_) | (with_reducible refine below_drewN ?_ _) | (with_reducible refine Below.setCell ?_ ?_ _) | (with_reducible refine Below.alloc ?_ ?_ _) | go_size | (exact Below.size (by assumption)) | (refine Below.trans ?_ (Below.mono (by assumption) ?_))))
    · obtain rfl : k = fs.length := by omega
      rw [List.take_length] at hown
      obtain ⟨O', oc', e', _, hocm, hOA⟩ := own_form hown
      simp only [Value.slice.injEq] at e'
      obtain ⟨rfl, _, rfl⟩ := e'
      go_wp2_with fail
      simp [bodyPost, results, Try.results43, go_sem, *]
      refine ⟨⟨O, oc, ⟨rfl, rfl⟩, hocm, ?_⟩, by (repeat' (first | (with_reducible exact Below.refl _ _) | (with_reducible assumption) | (with_reducible refine Below.drew ?_) | (with_reducible refine below_drewN ?_ _) | (with_reducible refine Below.setCell ?_ ?_ _) | (with_reducible refine Below.alloc ?_ ?_ _) | go_size | (exact Below.size (by assumption)) | (refine Below.trans ?_ (Below.mono (by assumption) ?_))))⟩
      intro hx
      obtain ⟨b, o, hO1, hO2, hO3⟩ := hOA hx
      refine ⟨b, o, hO1, hO2, fun j u hu => ?_⟩
      have hbe : w.heap.size + 1 ≠ b := by
        have h := ownBlock_le hown b (by rw [hO1]; rfl)
        omega
      rw [World.cell?_setCell_far _ _ _ _ hbe, World.cell?_setCell_far _ _ _ _ hbe]
      exact hO3 j u hu
end Go.Proofs.Ytjkajcpanhlbkaa
