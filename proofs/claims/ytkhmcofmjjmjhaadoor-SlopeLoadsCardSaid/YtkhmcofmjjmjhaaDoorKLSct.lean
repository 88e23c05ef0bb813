/- Slope: more openers of drawn arguments. -/
import Derived.Test.YtkhmcofmjjmjhaaDoorKLSbe
import Derived.Test.YtkhmcofmjjmjhaaDoorKLSa
import Derived.Test.YtkhmcofmjjmjhaaDoorCards
import Derived.Test.YtkhmcofmjjmjhaaDoorTie
import Derived.WalkKit
import Derived.ProofKit
import Derived.OpenShut
import Derived.Deep.DeepHandedRow
import Derived.Lib.LaidTab
import Derived.LaidSub
import Derived.Deep.Slices
import Derived.Lib.SmallJoins
namespace Go.Proofs.YtkhmcofmjjmjhaaDoor
set_option linter.unusedSimpArgs false
set_option linter.unusedVariables false
open Go.ChangeShapes Go.WideShapes Go.ChangeAt Go.RowKit Go.Deep
open Go Go.RowKit
def z64 : List Int := [0, 1, 56, 2, 57, 49, 28, 3, 61, 58, 42, 50, 38, 29, 17, 4, 62, 47, 59, 36, 45, 43, 51, 22, 53, 39, 33, 30, 24, 18, 12, 5, 63, 55, 48, 27, 60, 41, 37, 16, 46, 35, 44, 21, 52, 32, 23, 11, 54, 26, 40, 15, 34, 20, 31, 10, 25, 14, 19, 9, 13, 8, 7, 6]
theorem g64 : Tryd.prog.globalNamed "math/bits.deBruijn64tab" = some 1 := by kernel_rfl
theorem g64t : (Tryd.prog.globals[1]?).map (·.type) = some 165 := by kernel_rfl
theorem c64 : Tryd.prog.cellsOf 165 = 64 := by kernel_rfl
theorem c8u : Tryd.prog.cellsOf 5 = 1 := by kernel_rfl
set_option maxRecDepth 100000 in
theorem tab64 {W : World} (h : laidMetH Tryd.prog Rows.slopeWrongRow.laid W) : Lib.TabIs Tryd.prog W "math/bits.deBruijn64tab" .u8 z64 := by
 have h2 := laidMetH.filter (fun x => x.1 == "math/bits.deBruijn64tab") h; exact Lib.tabIs_of_head (rest := []) g64 g64t Tryd.underlying165 Tryd.underlying5 c8u c64 h2
set_option maxRecDepth 100000 in
theorem z64_at : ∀ k, k < 14 → idxK k < z64.length ∧ z64.getD (idxK k) 0 = (k : Int) := by decide +kernel
theorem tabW_of {W : World} (h : laidMetH Tryd.prog Rows.slopeWrongRow.laid W) : TabW W := fun k hk => by
 have h2 := (tab64 h).cell g64 (idxK k) (z64_at k hk).1; rw [(z64_at k hk).2] at h2; exact h2
theorem exists_list {α : Type} (P : Nat → α → Prop) (n : Nat) (h : ∀ i, i < n → ∃ x, P i x) : ∃ l : List α, l.length = n ∧ ∀ i (hi : i < l.length), P i l[i] := by
 induction n with
 | zero => exact ⟨[], rfl, fun i hi => absurd hi (by simp)⟩
 | succ n ih =>
  obtain ⟨l, hl, hp⟩ := ih fun i hi => h i (by omega); obtain ⟨x, hx⟩ := h n (by omega); refine ⟨l ++ [x], by simp [hl], fun i hi => ?_⟩
  by_cases hin : i < l.length
  ·rw [List.getElem_append_left hin]; exact hp i hin
  ·have : i = l.length := by simp at hi; omega
   subst this; rw [List.getElem_append_right (Nat.le_refl _)]; simp only [Nat.sub_self, List.getElem_cons_zero]; rw [hl]; exact hx
theorem cell_lt {w : World} {a : Addr} {v : Value} (h : w.cell? a = some v) : a.block < w.heap.size ∧ a.spot = none := by
 unfold World.cell? at h
 split at h
 ·rename_i hb
  refine ⟨(Array.getElem?_eq_some_iff.1 hb).1, ?_⟩
  split at h
  ·cases h
  ·rename_i hs
   simpa using hs
 ·cases h
theorem arr_of_elems {α : Type} {f : α → List Value} {m : Nat} (hf : ∀ x, (f x).length = m) (hm : 0 < m) {w : World} {B : Nat} (l : List α) (b o : Nat) (hb : l ≠ [] → b < B)
    (h : ∀ k (hk : k < l.length) i u, i < m → (f l[k])[i]? = some u → w.cell? ⟨b, o + k * m + i, none⟩ = some u) : Arr w B (some ⟨b, o, none⟩) (l.flatMap f) := by
 intro hne
 refine ⟨b, o, rfl, hb (fun e => hne (by rw [e]; rfl)), fun j u hu => ?_⟩
 have hj : j < l.length * m := by
  have := (List.getElem?_eq_some_iff.1 hu).1
  rwa [flat_length f m hf l] at this
 have hdm : j / m * m + j % m = j := by rw [Nat.mul_comm]; exact Nat.div_add_mod j m
 have hk : j / m < l.length := (Nat.div_lt_iff_lt_mul hm).2 hj; have ha := flat_at f m hf l (j / m) (j % m) hk (Nat.mod_lt _ hm); rw [hdm, hu] at ha; have := h (j / m) hk (j % m) u (Nat.mod_lt _ hm) ha.symm
 rwa [Nat.add_assoc, hdm] at this
section
variable {H : Type} {enc : TypeId × Value → H} {w : World} {base : Nat} {spare : Nat → Bool} {held : Bool} {fuel : Nat}
set_option maxRecDepth 100000 in
theorem open_span {cs : List Value} {x : DataW H × List MemPlace} (h : DataW.trod enc Tryd.prog w base spare held fuel 25 cs = some x) : ∃ a b : Int, cs = [.int .i64 a, .int .i64 b] := by
 obtain ⟨xs, n, _, _, hl, hxs, hf⟩ := DataW.trod_struct Tryd.underlying25 h; have hl2 : cs.length = 2 := hl.trans (by kernel_rfl)
 match cs, hl2 with
 | [c0, c1], _ =>
  have h0 := hf 0 _ rfl; have h1 := hf 1 _ rfl; have l2 : xs.length = 2 := hxs
  match xs, l2 with
  | [x0, x1], _ =>
   have k : Tryd.prog.cellsOf 3 = 1 := by kernel_rfl
   replace h0 : DataW.trod enc Tryd.prog w base spare held n 3 [c0] = some x0 := by simpa [k] using h0
   replace h1 : DataW.trod enc Tryd.prog w base spare held n 3 [c1] = some x1 := by simpa [k] using h1
   obtain ⟨a, ha, _⟩ := DataW.trod_int Tryd.underlying3 h0; obtain ⟨b, hb, _⟩ := DataW.trod_int Tryd.underlying3 h1; simp at ha hb; exact ⟨a, b, by rw [ha, hb]⟩
/-- a slice, whatever its elements are -/
theorem open_sliceOf {α : Type} (f : α → List Value) (m : Nat) (hm : 0 < m) (hf : ∀ x, (f x).length = m) {ts te : TypeId} (hu : Tryd.prog.underlying ts = some (.slice te)) (hk : Tryd.prog.cellsOf te = m) (Ok : α → Prop)
    (hel : ∀ (fuel : Nat) (cs : List Value) (x : DataW H × List MemPlace), DataW.trod enc Tryd.prog w base spare held fuel te cs = some x → ∃ a, cs = f a ∧ Ok a) {cs : List Value} {x : DataW H × List MemPlace} (h : DataW.trod enc Tryd.prog w base spare held fuel ts cs = some x) :
    ∃ (A : Option Addr) (cap : Nat) (l : List α), cs = [.slice A l.length cap] ∧ l.length ≤ cap ∧ l.length ≤ 9223372036854775807 ∧ (∀ i (h : i < l.length), Ok l[i]) ∧ Arr w w.heap.size A (l.flatMap f) := by
 rcases open_slice hu h with ⟨h0, _⟩ | ⟨a, len, cap, m', n, D, Pl, hcs, hb, hl, hm', hmm, hx, hi⟩
 ·exact ⟨none, 0, [], h0, Nat.le_refl _, by simp, fun i h => absurd h (by simp), Arr.nil _ _ _⟩
 ·rw [hk] at hi; have hlm : len ≤ m' := by rw [hmm]; split <;> omega
  obtain ⟨l, hfl, hfs⟩ := exists_list (fun i (z : α) => (∀ k u, k < m → (f z)[k]? = some u → w.cell? ((a.add (i * m)).add k) = some u) ∧ Ok z) len fun i hil => by
   obtain ⟨cs', hc, ht⟩ := hi i (by omega); obtain ⟨z, rfl, hs⟩ := hel _ _ _ ht; obtain ⟨_, _, hat⟩ := World.cells?_some hc; exact ⟨z, fun k u hk hu => by rw [hat k hk]; exact hu, hs⟩
  refine ⟨some a, cap, l, by rw [hcs, hfl], by omega, by simp only [maxLen] at hm'; omega, fun i h => (hfs i h).2, ?_⟩
  by_cases h0 : l = []
  ·rw [h0]; exact Arr.nil _ _ _
  ·have hpos : 0 < l.length := List.length_pos_iff.2 h0; have h00 := (hfs 0 hpos).1 0 ((f l[0])[0]'(by rw [hf]; exact hm)) hm (List.getElem?_eq_getElem (by rw [hf]; exact hm)); have e0 : (a.add (0 * m)).add 0 = a := by simp [Addr.add]
   rw [e0] at h00; obtain ⟨hlt, hsp⟩ := cell_lt h00; obtain ⟨b, o, sp⟩ := a; simp only at hsp hlt; subst hsp; refine arr_of_elems (f := f) (m := m) hf hm l b o (fun _ => hlt) fun k hk i u hi hu => ?_; have := (hfs k hk).1 i u hi hu; rw [Go.Deep.add_add, Addr.add] at this
   split at this
   ·rename_i e
    rw [show o + k * m + i = o from by omega]; exact this
   ·rw [show o + k * m + i = o + (k * m + i) from by omega]; exact this
set_option maxRecDepth 100000 in
theorem open_sslope {cs : List Value} {x : DataW H × List MemPlace} (h : DataW.trod enc Tryd.prog w base spare held fuel 23 cs = some x) : ∃ s : Sl, cs = s.cells := by
 obtain ⟨xs, n, _, _, hl, hxs, hf⟩ := DataW.trod_struct Tryd.underlying23 h; have hl2 : cs.length = 5 := hl.trans (by kernel_rfl)
 match cs, hl2 with
 | [c0, c1, c2, c3, c4], _ =>
  have h0 := hf 0 _ rfl; have h1 := hf 1 _ rfl; have h2 := hf 2 _ rfl; have h3 := hf 3 _ rfl; have h4 := hf 4 _ rfl; have l2 : xs.length = 5 := hxs
  match xs, l2 with
  | [x0, x1, x2, x3, x4], _ =>
   have k1 : Tryd.prog.cellsOf 3 = 1 := by kernel_rfl
   replace h0 : DataW.trod enc Tryd.prog w base spare held n 3 [c0] = some x0 := by simpa [k1] using h0
   replace h1 : DataW.trod enc Tryd.prog w base spare held n 3 [c1] = some x1 := by simpa [k1] using h1
   replace h2 : DataW.trod enc Tryd.prog w base spare held n 3 [c2] = some x2 := by simpa [k1] using h2
   replace h3 : DataW.trod enc Tryd.prog w base spare held n 3 [c3] = some x3 := by simpa [k1] using h3
   replace h4 : DataW.trod enc Tryd.prog w base spare held n 3 [c4] = some x4 := by simpa [k1] using h4
   obtain ⟨a, ha, _⟩ := DataW.trod_int Tryd.underlying3 h0; obtain ⟨b, hb, _⟩ := DataW.trod_int Tryd.underlying3 h1; obtain ⟨c, hc, _⟩ := DataW.trod_int Tryd.underlying3 h2; obtain ⟨d, hd, _⟩ := DataW.trod_int Tryd.underlying3 h3; obtain ⟨e, he, _⟩ := DataW.trod_int Tryd.underlying3 h4; simp at ha hb hc hd he; exact ⟨⟨a, b, c, d, e⟩, by simp [Sl.cells, ha, hb, hc, hd, he]⟩
set_option maxRecDepth 100000 in
theorem open_shour {cs : List Value} {x : DataW H × List MemPlace} (h : DataW.trod enc Tryd.prog w base spare held fuel 62 cs = some x) : ∃ s : Hr, cs = s.cells ∧ True := by
 obtain ⟨xs, n, _, _, hl, hxs, hf⟩ := DataW.trod_struct Tryd.underlying62 h; have hl2 : cs.length = 6 := hl.trans (by kernel_rfl)
 match cs, hl2 with
 | [c0, c1, c2, c3, c4, c5], _ =>
  have h0 := hf 0 _ rfl; have h1 := hf 1 _ rfl; have h2 := hf 2 _ rfl; have l2 : xs.length = 3 := hxs
  match xs, l2 with
  | [x0, x1, x2], _ =>
   have k1 : Tryd.prog.cellsOf 25 = 2 := by kernel_rfl
   replace h0 : DataW.trod enc Tryd.prog w base spare held n 25 [c0, c1] = some x0 := by simpa [k1] using h0
   replace h1 : DataW.trod enc Tryd.prog w base spare held n 25 [c2, c3] = some x1 := by simpa [k1] using h1
   replace h2 : DataW.trod enc Tryd.prog w base spare held n 25 [c4, c5] = some x2 := by simpa [k1] using h2
   obtain ⟨a, a2, ha⟩ := open_span h0; obtain ⟨b, b2, hb⟩ := open_span h1; obtain ⟨c, c2, hc⟩ := open_span h2; simp at ha hb hc; exact ⟨⟨a, a2, b, b2, c, c2⟩, by simp [Hr.cells, ha, hb, hc], trivial⟩
set_option maxRecDepth 100000 in
theorem open_ssight {cs : List Value} {x : DataW H × List MemPlace} (h : DataW.trod enc Tryd.prog w base spare held fuel 68 cs = some x) : ∃ s : Si, cs = s.cells ∧ True := by
 obtain ⟨xs, n, _, _, hl, hxs, hf⟩ := DataW.trod_struct Tryd.underlying68 h; have hl2 : cs.length = 4 := hl.trans (by kernel_rfl)
 match cs, hl2 with
 | [c0, c1, c2, c3], _ =>
  have h0 := hf 0 _ rfl; have h1 := hf 1 _ rfl; have h2 := hf 2 _ rfl; have l2 : xs.length = 3 := hxs
  match xs, l2 with
  | [x0, x1, x2], _ =>
   have k1 : Tryd.prog.cellsOf 3 = 1 := by kernel_rfl
   have k2 : Tryd.prog.cellsOf 4 = 1 := by kernel_rfl
   have k3 : Tryd.prog.cellsOf 25 = 2 := by kernel_rfl
   replace h0 : DataW.trod enc Tryd.prog w base spare held n 3 [c0] = some x0 := by simpa [k1, k2, k3] using h0
   replace h1 : DataW.trod enc Tryd.prog w base spare held n 4 [c1] = some x1 := by simpa [k1, k2, k3] using h1
   replace h2 : DataW.trod enc Tryd.prog w base spare held n 25 [c2, c3] = some x2 := by simpa [k1, k2, k3] using h2
   obtain ⟨a, ha, _⟩ := DataW.trod_int Tryd.underlying3 h0; obtain ⟨f, hb, _⟩ := DataW.trod_bool Tryd.underlying4 h1; obtain ⟨c, c2, hc⟩ := open_span h2; simp at ha hb hc; exact ⟨⟨a, f, c, c2⟩, by simp [Si.cells, ha, hb, hc], trivial⟩
set_option maxRecDepth 100000 in
theorem open_sbook {r : Reach} {b0 : Nat} {v : Value} {d : DataW H} {p : List MemPlace} (hv : Value.okWide Tryd.prog w r b0 29 v) (h : DataW.Trod enc Tryd.prog w base spare held 29 v d p) :
    ∃ (G : Option Addr) (gc : Nat) (S : Option Addr) (sc : Nat) (b : Sb), v = .agg (sbV G gc S sc b).toArray ∧ b.hours.length ≤ 9223372036854775807 ∧ b.sights.length ≤ 9223372036854775807 ∧ SbAt w G S b := by
 simp only [Value.okWide, Tryd.underlying29] at hv; obtain ⟨cs, rfl, hsz, _⟩ := hv; obtain ⟨fuel, hf⟩ := h; obtain ⟨xs, n, _, _, hl, hxs, hx⟩ := DataW.trod_struct Tryd.underlying29 hf; obtain ⟨cs⟩ := cs; have hl2 : cs.length = 9 := by have := hl.trans (by kernel_rfl : _ = 9); simpa [Value.cells] using this
 match cs, hl2 with
 | [c0, c1, c2, c3, c4, c5, c6, c7, c8], _ =>
  have h0 := hx 0 _ rfl; have h1 := hx 1 _ rfl; have h2 := hx 2 _ rfl; have h3 := hx 3 _ rfl; have l4 : xs.length = 4 := hxs
  match xs, l4 with
  | [x0, x1, x2, x3], _ =>
   have k0 : Tryd.prog.cellsOf 23 = 5 := by kernel_rfl
   have k1 : Tryd.prog.cellsOf 25 = 2 := by kernel_rfl
   have k2 : Tryd.prog.cellsOf 26 = 1 := by kernel_rfl
   have k3 : Tryd.prog.cellsOf 27 = 1 := by kernel_rfl
   replace h0 : DataW.trod enc Tryd.prog w base spare held n 23 [c0, c1, c2, c3, c4] = some x0 := by simpa [k0, Value.cells] using h0
   replace h1 : DataW.trod enc Tryd.prog w base spare held n 25 [c5, c6] = some x1 := by simpa [k0, k1, Value.cells] using h1
   replace h2 : DataW.trod enc Tryd.prog w base spare held n 26 [c7] = some x2 := by simpa [k0, k1, k2, Value.cells] using h2
   replace h3 : DataW.trod enc Tryd.prog w base spare held n 27 [c8] = some x3 := by simpa [k0, k1, k2, k3, Value.cells] using h3
   obtain ⟨s, e0⟩ := open_sslope h0; obtain ⟨lo, hi, e1⟩ := open_span h1; obtain ⟨G, gc, hs, e2, _, hl1, _, hG⟩ := open_sliceOf Hr.cells 6 (by decide) (fun _ => rfl) Tryd.underlying26 (by kernel_rfl) (fun _ => True) (fun _ _ _ h => open_shour h) h2; obtain ⟨S, sc, ss, e3, _, hl2, _, hS⟩ := open_sliceOf Si.cells 4 (by decide) (fun _ => rfl) Tryd.underlying27 (by kernel_rfl) (fun _ => True) (fun _ _ _ h => open_ssight h) h3; simp [Sl.cells] at e0 e1 e2 e3; obtain ⟨rfl, rfl, rfl, rfl, rfl⟩ := e0; obtain ⟨rfl, rfl⟩ := e1; subst e2 e3; exact ⟨G, gc, S, sc, ⟨s, lo, hi, hs, ss⟩, rfl, hl1, hl2, hG, hS⟩
end
section
variable {H : Type} {enc : TypeId × Value → H} {w : World} {base : Nat} {spare : Nat → Bool} {held : Bool} {fuel : Nat}
end
end Go.Proofs.YtkhmcofmjjmjhaaDoor
