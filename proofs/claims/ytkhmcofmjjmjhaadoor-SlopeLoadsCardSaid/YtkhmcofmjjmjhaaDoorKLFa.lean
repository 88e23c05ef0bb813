/- Memory told by a function: arrays that make laid down, of which each cell can be written (for any seat). -/
import Derived.Test.YtkhmcofmjjmjhaaDoorKLBg
import Derived.Laws.MakeOwn
namespace Go.Proofs.YtkhmcofmjjmjhaaDoor
set_option linter.unusedSimpArgs false
set_option linter.unusedVariables false
open Go Go.RowKit
/-- make: a new row of n elements, each of them zero -/
theorem wp_make {P : Program} {w : World} {o : Oper} {a : Act} {K : Act → World → Prop} {Q : Exit → Act → World → Prop} (t : TypeId) (l c : Operand) (ho : o.op = Op.makeSlice t l c)
    (e : TypeId) (z : Value) (size bytes : Nat) (ht : P.underlying t = some (.slice e)) (hi : (P.info? e).map (fun i => (i.zero, i.size, i.bytes)) = some (some z, size, bytes))
    (n : Nat) {L C : Int} (hl : a.eval l = .int .i64 L) (hc : a.eval c = .int .i64 C) (hL : L = n) (hC : C = n) (hb : bytes * n ≤ 281474976710656) (h63 : n ≤ 9223372036854775807)
    (h : K (a.put o.dst (.slice (some ⟨w.heap.size, 0, none⟩) n n)) (w.alloc (.cells (madeCells z.cells (n * size)) e))) : o.wp P a w K Q := by
 obtain ⟨i, hi0, hz0, hz1, hz2⟩ := info_parts hi; subst hL; subst hC
 have hbI : (bytes : Int) * (n : Int) ≤ 281474976710656 := by
  have h : ((bytes * n : Nat) : Int) ≤ 281474976710656 := by omega
  rwa [Int.natCast_mul] at h
 have hr := run_make (P := P) w t e i z ht hi0 hz0 .i64 .i64 n n (by omega) (Int.le_refl _) (by rw [hz2]; exact hbI) (by omega); simp only [Int.toNat_natCast, hz1] at hr
 unfold Oper.wp
 simp [execOp, ho, hl, hc, hr, Result.andThen]; exact h
/-- an array in memory, told by a function -/
structure FArr (w : World) (M n : Nat) (g : Nat → Value) : Prop where
 lt : M < w.heap.size
 cell : ∀ x, x < n → w.cell? ⟨M, x, none⟩ = some (g x)
 wr : ∀ x, x < n → Wr w M x
section
variable {w w' : World} {M n : Nat} {g g' : Nat → Value}
theorem FArr.below (h : FArr w M n g) (hb : Below w.heap.size w w') : FArr w' M n g :=
 ⟨Nat.lt_of_lt_of_le h.lt hb.size, fun x hx => (hb.cell (p := ⟨M, x, none⟩) h.lt).trans (h.cell x hx), fun x hx => wr_below (h.wr x hx) hb h.lt⟩
theorem FArr.low (h : FArr w M n g) {B : Nat} (hb : Below B w w') (hM : M < B) : FArr w' M n g :=
 ⟨Nat.lt_of_lt_of_le h.lt hb.size, fun x hx => (hb.cell (p := ⟨M, x, none⟩) hM).trans (h.cell x hx), fun x hx => wr_below (h.wr x hx) hb hM⟩
theorem FArr.block (h : FArr w M n g) (e : w'.heap[M]? = w.heap[M]?) (hs : w.heap.size ≤ w'.heap.size) : FArr w' M n g :=
 ⟨Nat.lt_of_lt_of_le h.lt hs, fun x hx => (World.cell?_of_block (a := ⟨M, x, none⟩) e).trans (h.cell x hx), fun x hx => by
  obtain ⟨h1, h2⟩ := h.wr x hx; exact ⟨by rw [World.cell?_of_block (a := ⟨M, x, none⟩) e]; exact h1, by rw [World.frozen?_of_block (a := ⟨M, x, none⟩) e]; exact h2⟩⟩
theorem FArr.other (h : FArr w M n g) {b o : Nat} (v : Value) (hb : b ≠ M) : FArr (w.setCell ⟨b, o, none⟩ v) M n g :=
 ⟨by simpa using h.lt, fun x hx => by rw [World.cell?_setCell_other _ _ _ _ (fun e' => hb (congrArg Addr.block e'))]; exact h.cell x hx, fun x hx => by rw [wr_set]; exact h.wr x hx⟩
theorem FArr.put (h : FArr w M n g) {o : Nat} (v : Value) (ho : o < n) : FArr (w.setCell ⟨M, o, none⟩ v) M n (fun x => if x = o then v else g x) :=
 ⟨by simpa using h.lt, fun x hx => by
  by_cases e : x = o
  ·subst e; rw [if_pos rfl]; exact cell_set_wr (h.wr x hx)
  ·rw [if_neg e, World.cell?_setCell_other _ _ _ _ (fun e' => e (congrArg Addr.off e').symm)]; exact h.cell x hx, fun x hx => by rw [wr_set]; exact h.wr x hx⟩
theorem FArr.congr (h : FArr w M n g) (e : ∀ x, x < n → g x = g' x) : FArr w M n g' := ⟨h.lt, fun x hx => e x hx ▸ h.cell x hx, h.wr⟩
theorem farr_new (w : World) (z : Array Value) (n : Nat) (e : TypeId) : FArr (w.alloc (.cells (madeCells z n) e)) w.heap.size n (fun x => z[x % z.size]!) := by
 have hn : (w.alloc (.cells (madeCells z n) e)).heap[w.heap.size]? = some (.cells (madeCells z n) e) := by show (w.heap.push _)[w.heap.size]? = _; simp
 refine ⟨by simp, fun x hx => ?_, fun x hx => wr_new rfl (by rw [size_madeCells]; exact hx)⟩; simp only [World.cell?, hn]; simp [madeCells, hx]
/-- a struct of two numbers stored in the middle -/
theorem FArr.two (h : FArr w M n g) {o : Nat} (u v : Value) (ho : o + 1 < n) : FArr (w.setCells M o [u, v]) M n (fun x => if x = o + 1 then v else if x = o then u else g x) := by
 have := (h.put u (o := o) (by omega)).put v ho; exact this
theorem FArr.there (h : FArr w M n g) {o m : Nat} (ho : o + m ≤ n) : w.there M o m := fun j hj => h.wr (o + j) (by omega)
theorem FArr.arr (h : FArr w M n g) {xs : List Value} (hl : xs.length = n) (e : ∀ j (hj : j < xs.length), g j = xs[j]) : ArrD w (some ⟨M, 0, none⟩) xs := fun _ => ⟨M, 0, rfl, h.lt, fun j u hu => by
 obtain ⟨hj, rfl⟩ := List.getElem?_eq_some_iff.1 hu; rw [Nat.zero_add, h.cell j (by omega), e j hj]⟩
theorem own_farr {base : Nat} {e : TypeId} {A : Option Addr} {c : Nat} {xs : List Value} (h : w.ownsRow base e 1 (.slice A n c) n xs) (hn : 0 < n) : ∃ G, A = some ⟨G, 0, none⟩ ∧ base ≤ G ∧ FArr w G n (fun x => xs.getD x undef) := by
 obtain ⟨hl, h | ⟨G, cap, cur, hv, hb, hh, hn', hm, hc, ht⟩⟩ := h
 ·exact absurd h.2 (by omega)
 ·rw [Value.slice.injEq] at hv; obtain ⟨rfl, _, _⟩ := hv
  have hcell : ∀ x, x < n → w.cell? ⟨G, x, none⟩ = some (xs.getD x undef) := fun x hx => by
   have hx2 : x < xs.length := by omega
   have hu : xs[x]? = some (xs.getD x undef) := by rw [List.getD_eq_getElem?_getD, List.getElem?_eq_getElem hx2]; rfl
   generalize xs.getD x undef = u at hu
   simp only [World.cell?, hh]; rw [← ht] at hu; rw [List.getElem?_take_of_lt (by omega)] at hu
   simpa using hu
  exact ⟨G, rfl, hb, (Array.getElem?_eq_some_iff.1 hh).1, hcell, fun x hx => Wr.of (hcell x hx) (by simp [World.frozen?, hh])⟩
end
end Go.Proofs.YtkhmcofmjjmjhaaDoor
