/- Slope: books in which all is known. -/
import Derived.Test.YtkhmcofmjjmjhaaDoorKTScq
import Derived.Test.YtkhmcofmjjmjhaaDoorKTSck

namespace Go.Proofs.YtkhmcofmjjmjhaaDoor
set_option linter.unusedSimpArgs false
set_option linter.unusedVariables false
open Go Go.RowKit
attribute [local go_sem high] cell_set_wr
attribute [local go_sem low] cell_wr frozen_wr
attribute [local go_sem] wr_set wr_drew wr_drewN wr_alloc wr_new Rho.c Rho.n Rho.g
theorem hrs_snoc (l : List Hr) (s : Hr) : hrs (l ++ [s]) = hrs l ++ s.cells := by simp [hrs]
/-- a book with other hours, and no sights, in memory -/
def hoB (sl : Sl) (s0 : Int) (ds : List Hr) : Sb := ⟨sl, s0, s0, ds, []⟩
structure YoH (sl : Sl) (s0 : Int) (Q : Nat) (w w0 : World) (ds : List Hr) (A : Option Addr) (c : Nat) (V : World) : Prop where
 below : Below w.heap.size w V
 size : w0.heap.size ≤ V.heap.size
 row : Row V Q (sbV A c none 0 (hoB sl s0 ds))
 own : V.ownsRow w0.heap.size 62 6 (.slice A ds.length c) ds.length (hrs ds)
theorem YoH.on {sl : Sl} {s0 : Int} {Q : Nat} {w w0 : World} {ds : List Hr} {A : Option Addr} {c : Nat} {V V' : World} (h : YoH sl s0 Q w w0 ds A c V) (hQ0 : Q < w0.heap.size) (hb : Below V.heap.size V V') : YoH sl s0 Q w w0 ds A c V' := ⟨h.below.trans (hb.mono h.below.size), Nat.le_trans h.size hb.size, h.row.below hb (Nat.lt_of_lt_of_le hQ0 h.size), own_below h.own hb⟩
theorem YoH.snoc {sl : Sl} {s0 : Int} {Q : Nat} {w w0 : World} {ds : List Hr} {A : Option Addr} {c : Nat} {V V' : World} (h : YoH sl s0 Q w w0 ds A c V) (hQ : w.heap.size ≤ Q) (hQ0 : Q < w0.heap.size) (s : Hr) {A2 : Option Addr} {c2 : Nat}
    (q3 : V'.ownsRow w0.heap.size 62 6 (.slice A2 (ds.length + 1) c2) (ds.length + 1) (hrs ds ++ s.cells)) (q4 : V.grownBy V' (Value.slice A ds.length c).ownBlock) :
    YoH sl s0 Q w w0 (ds ++ [s]) A2 c2 (V'.setCell ⟨Q, 7, none⟩ (.slice A2 (ds.length + 1) c2)) ∧ Wr V' Q 7 := by
 have hsz := h.size
 have ho := h.own
 have hlow : Below w0.heap.size V V' := (Below.refl w0.heap.size V).grown q4 hsz (fun k e => ownBlock_le ho k e)
 have hrow := row_of_block h.row (hlow.block Q hQ0)
 have hl1 : (ds ++ [s]).length = ds.length + 1 := by simp
 refine ⟨⟨(h.below.trans (hlow.mono (by omega))).setCell hQ _, by simpa using Nat.le_trans hsz hlow.size, ?_, ?_⟩, (hrow 7 _ rfl).2⟩
 ·have := hrow.set (o := 7) (v := .slice A2 (ds.length + 1) c2) (by simp [sbV])
  rw [← hl1] at this ⊢
  exact this
 ·rw [hl1, hrs_snoc]
  refine own_of_block q3 (by simp) fun g hg => ?_
  have hg2 := ownBlock_le q3 g hg
  exact Below.heap_setCell _ _ _ _ (by simp only; omega)
section
variable (H : Option Addr) (hcap : Nat) (S : Option Addr) (scap : Nat) (b : Sb)
end
end Go.Proofs.YtkhmcofmjjmjhaaDoor
