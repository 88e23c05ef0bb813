/- A reach among others in an array: the least span in which all spans lie that were added. -/
import Derived.Test.YtjkajcpanhlbkaaP6
namespace Go.Proofs.Ytjkajcpanhlbkaa
set_option linter.unusedSimpArgs false
set_option linter.unusedVariables false
open Go.RowKit
attribute [local go_sem high] cell_set_wr
attribute [local go_sem low] cell_wr frozen_wr
attribute [local go_sem] wr_set wr_drew wr_drewN wr_alloc wr_new

/-- all but block rb is as it was, and in that block all but three cells from ro on -/
structure ButO (rb ro : Nat) (w w' : World) : Prop where
  but : But rb w w'
  lt : rb < w.heap.size
  cell : ∀ o, (o < ro ∨ ro + 3 ≤ o) → w'.cell? ⟨rb, o, none⟩ = w.cell? ⟨rb, o, none⟩
  fz : ∀ o, w'.frozen? ⟨rb, o, none⟩ = w.frozen? ⟨rb, o, none⟩
theorem ButO.refl {rb ro : Nat} {w : World} (h : rb < w.heap.size) : ButO rb ro w w := ⟨But.refl _ _, h, fun _ _ => rfl, fun _ => rfl⟩
theorem ButO.and {rb ro : Nat} {a b c : World} (h : ButO rb ro a b) (k : Below b.heap.size b c) : ButO rb ro a c := by
  have hlt : rb < b.heap.size := Nat.lt_of_lt_of_le h.lt h.but.size
  exact ⟨h.but.and k, h.lt, fun o ho => (k.cell (p := ⟨rb, o, none⟩) hlt).trans (h.cell o ho), fun o => (k.frozen (p := ⟨rb, o, none⟩) hlt).trans (h.fz o)⟩
theorem ButO.alloc {rb ro : Nat} {a b : World} (h : ButO rb ro a b) (o : Obj) : ButO rb ro a (b.alloc o) := h.and ((Below.refl _ _).alloc (Nat.le_refl _) o)
theorem ButO.set {rb ro : Nat} {a b : World} (h : ButO rb ro a b) (o : Nat) (u : Value) (ho : ro ≤ o ∧ o < ro + 3 := by omega) : ButO rb ro a (b.setCell ⟨rb, o, none⟩ u) :=
  ⟨h.but.set o u, h.lt, fun k hk => (World.cell?_setCell_other _ _ _ _ (fun e => by have := congrArg Addr.off e; simp only at this; omega)).trans (h.cell k hk), fun k => by rw [World.frozen?_setCell]; exact h.fz k⟩

/-- a reach in the cells of block rb from ro on -/
structure RBoxO (w : World) (rb ro : Nat) (r : Rc) : Prop where
  c0 : w.cell? ⟨rb, ro, none⟩ = some (.int .i64 r.lo)
  c1 : w.cell? ⟨rb, ro + 1, none⟩ = some (.int .i64 r.hi)
  c2 : w.cell? ⟨rb, ro + 2, none⟩ = some (.bool r.any)
  fz : ∀ o, w.frozen? ⟨rb, o, none⟩ = false
theorem RBoxO.lt {w : World} {rb ro : Nat} {r : Rc} (h : RBoxO w rb ro r) : rb < w.heap.size := by
  refine Nat.lt_of_not_le fun hge => ?_
  have h1 := h.c0
  simp [World.cell?, Array.getElem?_eq_none hge] at h1
theorem RBoxO.below {w w' : World} {rb ro B : Nat} {r : Rc} (h : RBoxO w rb ro r) (hb : Below B w w') (hr : rb < B) : RBoxO w' rb ro r :=
  ⟨(hb.cell (p := ⟨rb, ro, none⟩) hr).trans h.c0, (hb.cell (p := ⟨rb, ro + 1, none⟩) hr).trans h.c1, (hb.cell (p := ⟨rb, ro + 2, none⟩) hr).trans h.c2, fun o => (hb.frozen (p := ⟨rb, o, none⟩) hr).trans (h.fz o)⟩
theorem RBoxO.put01 {w : World} {rb ro : Nat} {r : Rc} (h : RBoxO w rb ro r) (a b : Int) : RBoxO ((w.setCell ⟨rb, ro, none⟩ (.int .i64 a)).setCell ⟨rb, ro + 1, none⟩ (.int .i64 b)) rb ro ⟨a, b, r.any⟩ := by
  have n : ∀ {o o' : Nat} {v : Value} {W : World}, o' ≠ o → (W.setCell ⟨rb, o, none⟩ v).cell? ⟨rb, o', none⟩ = W.cell? ⟨rb, o', none⟩ := fun hne => World.cell?_setCell_other _ _ _ _ (fun e => hne (congrArg Addr.off e).symm)
  refine ⟨(n (by omega)).trans (World.cell?_setCell_same' _ _ _ (by rw [h.c0]; rfl)), World.cell?_setCell_same' _ _ _ (by rw [n (by omega), h.c1]; rfl), (n (by omega)).trans ((n (by omega)).trans h.c2), fun o => ?_⟩
  rw [World.frozen?_setCell, World.frozen?_setCell]; exact h.fz o
theorem RBoxO.put {w : World} {rb ro : Nat} {r : Rc} (h : RBoxO w rb ro r) (a b : Int) (x : Bool) : RBoxO (((w.setCell ⟨rb, ro, none⟩ (.int .i64 a)).setCell ⟨rb, ro + 1, none⟩ (.int .i64 b)).setCell ⟨rb, ro + 2, none⟩ (.bool x)) rb ro ⟨a, b, x⟩ := by
  have h' := h.put01 a b
  generalize (w.setCell ⟨rb, ro, none⟩ (.int .i64 a)).setCell ⟨rb, ro + 1, none⟩ (.int .i64 b) = V at *
  have n : ∀ {o o' : Nat} {v : Value} {W : World}, o' ≠ o → (W.setCell ⟨rb, o, none⟩ v).cell? ⟨rb, o', none⟩ = W.cell? ⟨rb, o', none⟩ := fun hne => World.cell?_setCell_other _ _ _ _ (fun e => hne (congrArg Addr.off e).symm)
  refine ⟨(n (by omega)).trans h'.c0, (n (by omega)).trans h'.c1, World.cell?_setCell_same' _ _ _ (by rw [h'.c2]; rfl), fun o => ?_⟩
  rw [World.frozen?_setCell]; exact h'.fz o

end Go.Proofs.Ytjkajcpanhlbkaa
