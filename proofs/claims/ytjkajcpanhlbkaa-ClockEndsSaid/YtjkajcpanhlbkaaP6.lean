/- A reach: the least span in which all spans lie that were added. -/
import Derived.Test.YtjkajcpanhlbkaaP2
import Derived.Test.YtjkajcpanhlbkaaI
import Derived.Deep.RegionHeld3
namespace Go.Proofs.Ytjkajcpanhlbkaa
set_option linter.unusedSimpArgs false
set_option linter.unusedVariables false
open Go.RowKit
attribute [local go_sem high] cell_set_wr
attribute [local go_sem low] cell_wr frozen_wr
attribute [local go_sem] wr_set wr_drew wr_drewN wr_alloc wr_new

structure Rc where
  lo : Int
  hi : Int
  any : Bool
def Rc.zero : Rc := ⟨0, 0, false⟩
def Rc.add (r : Rc) (s : Sp) : Rc := if s.hi < s.lo then r else if r.any = true then ⟨min r.lo s.lo, max r.hi s.hi, true⟩ else ⟨s.lo, s.hi, true⟩

/-- all but block rb is as it was -/
structure But (rb : Nat) (w w' : World) : Prop where
  os : w'.os = w.os
  tape : w'.tape = w.tape
  output : w'.output = w.output
  size : w.heap.size ≤ w'.heap.size
  block : ∀ k, k < w.heap.size → k ≠ rb → w'.heap[k]? = w.heap[k]?
theorem But.below {rb : Nat} {w w' : World} (h : But rb w w') {B : Nat} (hB : B ≤ rb) (hz : B ≤ w.heap.size) : Below B w w' := ⟨h.os, h.tape, h.output, h.size, fun k hk => h.block k (by omega) (by omega)⟩
theorem But.cell {rb : Nat} {w w' : World} (h : But rb w w') {b : Nat} (hb : b < w.heap.size) (hr : b ≠ rb) (o : Nat) : w'.cell? ⟨b, o, none⟩ = w.cell? ⟨b, o, none⟩ := World.cell?_of_block (w := w) (h.block b hb hr)
theorem But.mid {rb c : Nat} {w w' : World} (h : But rb w w') (hc : rb < c) : Mid c w w' := ⟨h.size, fun k hk hz => h.block k hz (by omega)⟩

structure RBox (w : World) (rb : Nat) (r : Rc) : Prop where
  c0 : w.cell? ⟨rb, 0, none⟩ = some (.int .i64 r.lo)
  c1 : w.cell? ⟨rb, 1, none⟩ = some (.int .i64 r.hi)
  c2 : w.cell? ⟨rb, 2, none⟩ = some (.bool r.any)
  fz : ∀ o, w.frozen? ⟨rb, o, none⟩ = false
theorem RBox.lt {w : World} {rb : Nat} {r : Rc} (h : RBox w rb r) : rb < w.heap.size := by
  refine Nat.lt_of_not_le fun hge => ?_
  have h1 := h.c0
  simp [World.cell?, Array.getElem?_eq_none hge] at h1
theorem RBox.below {w w' : World} {rb B : Nat} {r : Rc} (h : RBox w rb r) (hb : Below B w w') (hr : rb < B) : RBox w' rb r :=
  ⟨(hb.cell (p := ⟨rb, 0, none⟩) hr).trans h.c0, (hb.cell (p := ⟨rb, 1, none⟩) hr).trans h.c1, (hb.cell (p := ⟨rb, 2, none⟩) hr).trans h.c2, fun o => (hb.frozen (p := ⟨rb, o, none⟩) hr).trans (h.fz o)⟩

theorem But.refl (rb : Nat) (w : World) : But rb w w := ⟨rfl, rfl, rfl, Nat.le_refl _, fun _ _ _ => rfl⟩
theorem But.trans {rb : Nat} {a b c : World} (h : But rb a b) (k : But rb b c) : But rb a c := ⟨k.os.trans h.os, k.tape.trans h.tape, k.output.trans h.output, Nat.le_trans h.size k.size, fun i hi hr => (k.block i (Nat.lt_of_lt_of_le hi h.size) hr).trans (h.block i hi hr)⟩
theorem But.alloc {rb : Nat} {a b : World} (h : But rb a b) (o : Obj) : But rb a (b.alloc o) :=
  h.trans ⟨rfl, rfl, rfl, by simp, fun k hk _ => Below.heap_alloc _ _ _ hk⟩
theorem But.set {rb : Nat} {a b : World} (h : But rb a b) (o : Nat) (u : Value) : But rb a (b.setCell ⟨rb, o, none⟩ u) :=
  h.trans ⟨rfl, rfl, rfl, by simp [World.setCell], fun k _ hr => Below.heap_setCell _ _ _ _ hr⟩
theorem But.and {rb : Nat} {a b c : World} (h : But rb a b) (k : Below b.heap.size b c) : But rb a c := h.trans ⟨k.os, k.tape, k.output, k.size, fun i hi _ => k.block i hi⟩

theorem RBox.put01 {w : World} {rb : Nat} {r : Rc} (h : RBox w rb r) (a b : Int) : RBox ((w.setCell ⟨rb, 0, none⟩ (.int .i64 a)).setCell ⟨rb, 1, none⟩ (.int .i64 b)) rb ⟨a, b, r.any⟩ := by
  have n : ∀ {o o' : Nat} {v : Value} {W : World}, o' ≠ o → (W.setCell ⟨rb, o, none⟩ v).cell? ⟨rb, o', none⟩ = W.cell? ⟨rb, o', none⟩ := fun hne => World.cell?_setCell_other _ _ _ _ (fun e => hne (congrArg Addr.off e).symm)
  refine ⟨(n (by omega)).trans (World.cell?_setCell_same' _ _ _ (by rw [h.c0]; rfl)), World.cell?_setCell_same' _ _ _ (by rw [n (by omega), h.c1]; rfl), (n (by omega)).trans ((n (by omega)).trans h.c2), fun o => ?_⟩
  rw [World.frozen?_setCell, World.frozen?_setCell]; exact h.fz o
theorem RBox.put {w : World} {rb : Nat} {r : Rc} (h : RBox w rb r) (a b : Int) (x : Bool) : RBox (((w.setCell ⟨rb, 0, none⟩ (.int .i64 a)).setCell ⟨rb, 1, none⟩ (.int .i64 b)).setCell ⟨rb, 2, none⟩ (.bool x)) rb ⟨a, b, x⟩ := by
  have h' := h.put01 a b
  generalize (w.setCell ⟨rb, 0, none⟩ (.int .i64 a)).setCell ⟨rb, 1, none⟩ (.int .i64 b) = V at *
  have n : ∀ {o o' : Nat} {v : Value} {W : World}, o' ≠ o → (W.setCell ⟨rb, o, none⟩ v).cell? ⟨rb, o', none⟩ = W.cell? ⟨rb, o', none⟩ := fun hne => World.cell?_setCell_other _ _ _ _ (fun e => hne (congrArg Addr.off e).symm)
  refine ⟨(n (by omega)).trans h'.c0, (n (by omega)).trans h'.c1, World.cell?_setCell_same' _ _ _ (by rw [h'.c2]; rfl), fun o => ?_⟩
  rw [World.frozen?_setCell]; exact h'.fz o

end Go.Proofs.Ytjkajcpanhlbkaa
