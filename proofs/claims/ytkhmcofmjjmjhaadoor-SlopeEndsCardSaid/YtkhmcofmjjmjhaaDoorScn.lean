/- Slope: what the exported functions return of a valid book. -/
import Derived.Test.YtkhmcofmjjmjhaaDoorSck
namespace Go.Proofs.YtkhmcofmjjmjhaaDoor
set_option linter.unusedSimpArgs false
set_option linter.unusedVariables false
open Go Go.RowKit
attribute [local go_sem high] cell_set_wr
attribute [local go_sem low] cell_wr frozen_wr
attribute [local go_sem] wr_set wr_drew wr_drewN wr_alloc wr_new Rho.c Rho.n Rho.g

theorem okE {b : Sb} (hb : OkB b) : sbE b = 0 := by unfold sbE; rw [ok_iff.2 hb]; rfl
theorem frE_yes {b : Sb} (hb : OkB b) (hr : rtB b = true) {v : Bool} (hv : v = true) : frE b v = 0 := frE_zero.2 ⟨ok_iff.2 hb, hv, hr⟩
theorem frE_no {b : Sb} (hb : OkB b) (hr : rtB b = false) {v : Bool} (hv : v = true) : frE b v = 32 := by
 unfold frE
 rw [if_pos (ok_iff.2 hb), if_pos hv, hr]
 rfl
theorem hour_is {b : Sb} {h : Nat} (hh : h < b.hours.length) : b.isHour h = true := by
 unfold Sb.isHour
 exact wB_iff.2 ⟨by omega, by omega⟩
theorem ins_yes {a z lo hi : Int} (h : lo ≤ a ∧ z ≤ hi) (w : World) : Calls Tryd.prog 42 #[.agg #[.int .i64 a, .int .i64 z], .agg #[.int .i64 lo, .int .i64 hi]] w fun e w' => e = .returned (.bool true) ∧ Below w.heap.size w w' := by
 have h2 := inside_any a z lo hi w
 have e : (decide (lo ≤ a) && decide (z ≤ hi)) = true := by simp [h.1, h.2]
 rw [e] at h2
 exact h2
theorem atC (T : Option Addr) (c : Nat) (l : List Nat) (hl : l.length ≤ 9223372036854775807) (i : Nat) (W : World) (hW : ArrD W T (nats l)) : Calls Tryd.prog 39 #[.slice T l.length c, .int .i64 i] W fun e w' => e = .returned (.int .i64 (atI (l.map fun (n : Nat) => (n : Int)) i)) ∧ Below W.heap.size W w' := by
 have h := at_any T c (l.map fun (n : Nat) => (n : Int)) i W (by rw [← nats_ints]; exact hW) (by rw [List.length_map]; exact hl)
 rw [List.length_map] at h
 exact h
theorem atN_mem {l : List Nat} {k : Nat} (h : k ∈ l) : ¬ atI (l.map fun (n : Nat) => (n : Int)) (k : Int) < 0 := by
 rw [atI_neg]
 exact fun hn => hn (List.mem_map.2 ⟨k, h, rfl⟩)
section
variable (H : Option Addr) (hcap : Nat) (S : Option Addr) (scap : Nat) (b : Sb)
theorem rightC (hb : OkB b) {q : Bool} (hq : rtB b = q) (W : World) (hW : SbAt W H S b) : Calls Tryd.prog 14 #[.agg (sbV H hcap S scap b).toArray] W fun e w' => e = .returned (.tuple #[.bool q, .int .i64 0]) ∧ Below W.heap.size W w' := by
 have h := pRight_any H hcap S scap b W hW (by have := hb.hours; omega) (by have := hb.sights; omega)
 rw [okE hb, ok_iff.2 hb, hq, Bool.true_and] at h
 exact h
theorem loadC (hb : OkB b) (hr : rtB b = true) {h : Nat} (hh : h < b.hours.length) (W : World) (hW : SbAt W H S b) : Calls Tryd.prog 18 #[.agg (sbV H hcap S scap b).toArray, .int .i64 h] W fun e w' => e = .returned (.tuple #[.agg #[.int .i64 (loH b h), .int .i64 (hiH b h)], .int .i64 0]) ∧ Below W.heap.size W w' := by
 have h1 := pLoad_any H hcap S scap b h W hW (by have := hb.hours; omega) (by have := hb.sights; omega)
 have h2 := frE_yes hb hr (hour_is hh)
 have e : loadR b h = (loH b h, hiH b h) := by unfold loadR; rw [if_pos h2, Int.toNat_natCast]
 rw [h2, e] at h1
 dsimp only at h1
 exact h1
theorem loadN (hb : OkB b) (hr : rtB b = false) {h : Nat} (hh : h < b.hours.length) (W : World) (hW : SbAt W H S b) : Calls Tryd.prog 18 #[.agg (sbV H hcap S scap b).toArray, .int .i64 h] W fun e w' => e = .returned (.tuple #[.agg #[.int .i64 0, .int .i64 0], .int .i64 32]) ∧ Below W.heap.size W w' := by
 have h1 := pLoad_any H hcap S scap b h W hW (by have := hb.hours; omega) (by have := hb.sights; omega)
 have h2 := frE_no hb hr (hour_is hh)
 have e : loadR b h = (0, 0) := by unfold loadR; rw [if_neg (by rw [h2]; decide)]
 rw [h2, e] at h1
 dsimp only at h1
 exact h1
theorem safeC (hb : OkB b) (hr : rtB b = true) {h : Nat} (hh : h < b.hours.length) (W : World) (hW : SbAt W H S b) : Calls Tryd.prog 20 #[.agg (sbV H hcap S scap b).toArray, .int .i64 h] W fun e w' => e = .returned (.tuple #[.bool (safB b h), .int .i64 0]) ∧ Below W.heap.size W w' := by
 have h1 := pSafe_any H hcap S scap b h W hW (by have := hb.hours; omega) (by have := hb.sights; omega)
 have h2 := frE_yes hb hr (hour_is hh)
 have e : safeR b h = safB b h := by unfold safeR; rw [if_pos h2, Int.toNat_natCast]
 rw [h2, e] at h1
 exact h1
theorem freeC (hb : OkB b) (hr : rtB b = true) (W : World) (hW : SbAt W H S b) : Calls Tryd.prog 23 #[.agg (sbV H hcap S scap b).toArray] W fun e w' => (∃ T c, e = .returned (.tuple #[.slice T (freK b b.hours.length).length c, .int .i64 0]) ∧ ArrD w' T (nats (freK b b.hours.length))) ∧ Below W.heap.size W w' := by
 have h1 := pFree_any H hcap S scap b W hW (by have := hb.hours; omega) (by have := hb.sights; omega)
 have h2 := frE_yes hb hr (v := true) rfl
 have e : freL b = freK b b.hours.length := by unfold freL; rw [if_pos h2]
 rw [h2, e] at h1
 exact h1
theorem freeN (hb : OkB b) (hr : rtB b = false) (W : World) (hW : SbAt W H S b) : Calls Tryd.prog 23 #[.agg (sbV H hcap S scap b).toArray] W fun e w' => (∃ T c, e = .returned (.tuple #[.slice T 0 c, .int .i64 32])) ∧ Below W.heap.size W w' := by
 have h1 := pFree_any H hcap S scap b W hW (by have := hb.hours; omega) (by have := hb.sights; omega)
 have h2 := frE_no hb hr (v := true) rfl
 have e : freL b = [] := by unfold freL; rw [if_neg (by rw [h2]; decide)]
 rw [h2, e] at h1
 exact h1.mono (by
  rintro _ _ ⟨⟨T, c, rfl, _⟩, h3⟩
  exact ⟨⟨T, c, rfl⟩, h3⟩)
theorem fallsC (hb : OkB b) (hr : rtB b = true) (W : World) (hW : SbAt W H S b) (hT : TabW W) : Calls Tryd.prog 30 #[.agg (sbV H hcap S scap b).toArray] W fun e w' => e = .returned (.tuple #[.agg #[.int .i64 (loO b), .int .i64 (hiO b)], .int .i64 0]) ∧ Below W.heap.size W w' := by
 have h1 := pFalls_any H hcap S scap b W hW hT (by have := hb.hours; omega) (by have := hb.sights; omega)
 have h2 := frE_yes hb hr (v := true) rfl
 have e : falR b = (loO b, hiO b) := by unfold falR; rw [if_pos h2]
 rw [h2, e] at h1
 dsimp only at h1
 exact h1
theorem wrongC (hb : OkB b) (W : World) (hW : SbAt W H S b) : Calls Tryd.prog 32 #[.agg (sbV H hcap S scap b).toArray] W fun e w' => (∃ T c, e = .returned (.tuple #[.slice T (wroB b).length c, .int .i64 0]) ∧ ArrD w' T (nats (wroB b))) ∧ Below W.heap.size W w' := by
 have h := pWrong_any H hcap S scap b W hW (by have := hb.hours; omega) (by have := hb.sights; omega)
 rw [okE hb, if_pos (ok_iff.2 hb)] at h
 exact h
theorem untilC (hb : OkB b) (hr : rtB b = true) {h : Nat} (hh : h < b.hours.length) (W : World) (hW : SbAt W H S b) : Calls Tryd.prog 26 #[.agg (sbV H hcap S scap b).toArray, .int .i64 h] W fun e w' => e = .returned (.tuple #[.int .i64 (if runB b h = 0 then (0, 4) else ((h : Int) + runB b h - 1, 0) : Int × Int).1, .int .i64 (if runB b h = 0 then (0, 4) else ((h : Int) + runB b h - 1, 0) : Int × Int).2]) ∧ Below W.heap.size W w' := by
 have h1 := pUntil_any H hcap S scap b h W hW (by have := hb.hours; omega) (by have := hb.sights; omega)
 have h2 := frE_yes hb hr (hour_is hh)
 have e : untR b h = (if runB b h = 0 then (0, 4) else ((h : Int) + runB b h - 1, 0)) := by unfold untR; rw [if_pos h2, Int.toNat_natCast]
 rw [e] at h1
 exact h1
theorem untilN (hb : OkB b) (hr : rtB b = false) {h : Nat} (hh : h < b.hours.length) (W : World) (hW : SbAt W H S b) : Calls Tryd.prog 26 #[.agg (sbV H hcap S scap b).toArray, .int .i64 h] W fun e w' => e = .returned (.tuple #[.int .i64 0, .int .i64 32]) ∧ Below W.heap.size W w' := by
 have h1 := pUntil_any H hcap S scap b h W hW (by have := hb.hours; omega) (by have := hb.sights; omega)
 have h2 := frE_no hb hr (hour_is hh)
 have e : untR b h = (0, 32) := by unfold untR; rw [if_neg (by rw [h2]; decide), h2]
 rw [e] at h1
 dsimp only at h1
 exact h1
theorem crossC (hb : OkB b) (hr : rtB b = true) {h k : Nat} (hh : h < b.hours.length) (hk : 1 ≤ k ∧ k ≤ 12) (W : World) (hW : SbAt W H S b) : Calls Tryd.prog 28 #[.agg (sbV H hcap S scap b).toArray, .int .i64 h, .int .i64 k] W fun e w' => e = .returned (.tuple #[.int .i64 (croV (croB b h k)).1, .int .i64 (croV (croB b h k)).2]) ∧ Below W.heap.size W w' := by
 have h1 := pCross_any H hcap S scap b h k W hW (by have := hb.hours; omega) (by have := hb.sights; omega)
 have h2 : frE b (b.isHour h && wB k 1 12) = 0 := frE_yes hb hr (by rw [hour_is hh, wB_iff.2 ⟨by omega, by omega⟩]; rfl)
 have e : croR b h k = croV (croB b h k) := by unfold croR; rw [if_pos h2, Int.toNat_natCast]
 rw [e] at h1
 exact h1
theorem crossN (hb : OkB b) (hr : rtB b = false) {h k : Nat} (hh : h < b.hours.length) (hk : 1 ≤ k ∧ k ≤ 12) (W : World) (hW : SbAt W H S b) : Calls Tryd.prog 28 #[.agg (sbV H hcap S scap b).toArray, .int .i64 h, .int .i64 k] W fun e w' => e = .returned (.tuple #[.int .i64 0, .int .i64 32]) ∧ Below W.heap.size W w' := by
 have h1 := pCross_any H hcap S scap b h k W hW (by have := hb.hours; omega) (by have := hb.sights; omega)
 have h2 : frE b (b.isHour h && wB k 1 12) = 32 := frE_no hb hr (by rw [hour_is hh, wB_iff.2 ⟨by omega, by omega⟩]; rfl)
 have e : croR b h k = (0, 32) := by unfold croR; rw [if_neg (by rw [h2]; decide), h2]
 rw [e] at h1
 dsimp only at h1
 exact h1
theorem soundC (hb : OkB b) (W : World) (hW : SbAt W H S b) : Calls Tryd.prog 34 #[.agg (sbV H hcap S scap b).toArray] W fun e w' => e = .returned (.bool true) ∧ Below W.heap.size W w' := sound_yes H hcap S scap b hb W hW
end
end Go.Proofs.YtkhmcofmjjmjhaaDoor
