/- Opening an ear and texts out of drawn arguments. -/
import Derived.Test.YtbimkcjdodgojaaRows
import Derived.Test.YtbimkcjdodgojaaNd
import Derived.ProofKit
import Derived.Lib.SmallJoins
namespace Go.Proofs.Ytbimkcjdodgojaa
set_option linter.unusedSimpArgs false
set_option linter.unusedVariables false
open Go.ChangeShapes Go.WideShapes Go.ChangeAt Go.RowKit Go.Deep

theorem exists_list {α : Type} (P : Nat → α → Prop) (n : Nat) (h : ∀ i, i < n → ∃ x, P i x) : ∃ l : List α, l.length = n ∧ ∀ i (hi : i < l.length), P i l[i] := by
 induction n with
 | zero => exact ⟨[], rfl, fun i hi => absurd hi (by simp)⟩
 | succ n ih =>
  obtain ⟨l, hl, hp⟩ := ih fun i hi => h i (by omega)
  obtain ⟨x, hx⟩ := h n (by omega)
  refine ⟨l ++ [x], by simp [hl], fun i hi => ?_⟩
  by_cases hin : i < l.length
  ·rw [List.getElem_append_left hin]; exact hp i hin
  ·have : i = l.length := by simp at hi; omega
   subst this
   rw [List.getElem_append_right (Nat.le_refl _)]
   simp only [Nat.sub_self, List.getElem_cons_zero]
   rw [hl]; exact hx
section
variable {H : Type} {enc : TypeId × Value → H} {w : World} {base : Nat} {spare : Nat → Bool} {held : Bool} {fuel : Nat}
theorem cell_lt {w : World} {a : Addr} {v : Value} (h : w.cell? a = some v) : a.block < w.heap.size ∧ a.spot = none := by
 unfold World.cell? at h
 split at h
 ·rename_i hb
  refine ⟨(Array.getElem?_eq_some_iff.1 hb).1, ?_⟩
  split at h
  ·cases h
  ·rename_i hs
   simpa using hs
 ·cases h
set_option maxRecDepth 100000 in
/-- a text -/
theorem open_text {r : Reach} {b0 : Nat} {v : Value} {d : DataW H} {p : List MemPlace} (hv : Value.okWide Try.prog w r b0 9 v) (h : DataW.Trod enc Try.prog w base spare held 9 v d p) : ∃ s : ByteArray, v = .string s ∧ s.size ≤ 9223372036854775807 := by
 obtain ⟨s, rfl⟩ := okWide_string Try.underlying9 hv
 obtain ⟨fuel, hf⟩ := h
 obtain ⟨s', hs, _, hl⟩ := DataW.trod_string Try.underlying9 hf
 have e : s = s' := by simpa [Value.cells] using hs
 exact ⟨s, rfl, by rw [e]; simpa [maxLen] using hl⟩
set_option maxRecDepth 100000 in
/-- a slice of texts -/
theorem open_texts {cs : List Value} {x : DataW H × List MemPlace} (h : DataW.trod enc Try.prog w base spare held fuel 22 cs = some x) :
    ∃ (A : Option Addr) (cap : Nat) (l : List ByteArray), cs = [.slice A l.length cap] ∧ l.length ≤ cap ∧ l.length ≤ 9223372036854775807 ∧ (∀ i (h : i < l.length), l[i].size ≤ 9223372036854775807) ∧ Arr w w.heap.size A (txts l) := by
 rcases open_slice Try.underlying22 h with ⟨h0, _⟩ | ⟨a, len, cap, m, n, D, Pl, hcs, hb, hl, hm, hmm, hx, hi⟩
 ·exact ⟨none, 0, [], h0, Nat.le_refl _, by simp, fun i h => absurd h (by simp), Arr.nil _ _ _⟩
 ·have k : Try.prog.cellsOf 9 = 1 := by kernel_rfl
  rw [k] at hi
  have hlm : len ≤ m := by rw [hmm]; split <;> omega
  obtain ⟨l, hfl, hfs⟩ := exists_list (fun i (s : ByteArray) => w.cell? (a.add (i * 1)) = some (.string s) ∧ s.size ≤ maxLen) len fun i hil => by
   obtain ⟨cs', hc, ht⟩ := hi i (by omega)
   obtain ⟨s, rfl, _, hs⟩ := DataW.trod_string Try.underlying9 ht
   obtain ⟨_, _, hat⟩ := World.cells?_some hc
   refine ⟨s, ?_, hs⟩
   have := hat 0 (by omega)
   simpa [Addr.add] using this
  refine ⟨some a, cap, l, by rw [hcs, hfl], by omega, by simp only [maxLen] at hm; omega, fun i h => by have := (hfs i h).2; simpa [maxLen] using this, ?_⟩
  intro hne
  have hpos : 0 < l.length := by
   cases l with
   | nil => exact absurd rfl hne
   | cons _ _ => simp
  have h00 := (hfs 0 hpos).1
  have e0 : a.add (0 * 1) = a := by simp [Addr.add]
  rw [e0] at h00
  obtain ⟨hlt, hsp⟩ := cell_lt h00
  obtain ⟨b, o, sp⟩ := a
  simp only at hsp hlt
  subst hsp
  refine ⟨b, o, rfl, hlt, fun j u hu => ?_⟩
  unfold txts at hu
  rw [List.getElem?_map] at hu
  cases hj : l[j]? with
  | none => rw [hj] at hu; simp at hu
  | some s =>
   rw [hj] at hu
   obtain ⟨hjl, rfl⟩ := List.getElem?_eq_some_iff.1 hj
   obtain rfl := Option.some.inj hu
   have := (hfs j hjl).1
   rw [Addr.add] at this
   split at this
   ·rename_i e
    rw [show o + j = o from by omega]; exact this
   ·rw [Nat.mul_one] at this; exact this
set_option maxRecDepth 100000 in
/-- an ear -/
theorem open_ear {r : Reach} {b0 : Nat} {v : Value} {d : DataW H} {p : List MemPlace} (hv : Value.okWide Try.prog w r b0 24 v) (h : DataW.Trod enc Try.prog w base spare held 24 v d p) :
    ∃ (A : Option Addr) (cap : Nat) (l : List ByteArray) (m : ByteArray) (sl : Int), v = .agg #[.slice A l.length cap, .string m, .int .i64 sl] ∧ l.length ≤ cap ∧ l.length ≤ 9223372036854775807 ∧ (∀ i (h : i < l.length), l[i].size ≤ 9223372036854775807) ∧ m.size ≤ 9223372036854775807 ∧ Arr w w.heap.size A (txts l) := by
 obtain ⟨v0, v1, v2, y0, y1, y2, n, rfl, _, _, t0, t1, t2⟩ := Go.Joins.open_agg3 Try.underlying24 (by kernel_rfl) (by kernel_rfl) hv h
 obtain ⟨A, cap, l, h0, hc, hl, hz, hA⟩ := open_texts t0
 obtain ⟨m, h1, _, hm⟩ := DataW.trod_string Try.underlying9 t1
 obtain ⟨sl, h2, _⟩ := DataW.trod_int Try.underlying3 t2
 simp at h0 h1 h2
 exact ⟨A, cap, l, m, sl, by rw [h0, h1, h2], hc, hl, hz, by simpa [maxLen] using hm, hA⟩
end
end Go.Proofs.Ytbimkcjdodgojaa
