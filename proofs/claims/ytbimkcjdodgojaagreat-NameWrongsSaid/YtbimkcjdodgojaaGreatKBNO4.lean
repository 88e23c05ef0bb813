/- Opening books with the sizes of their ears' groups, two numbers, and pairs out of drawn arguments. -/
import Derived.Test.YtbimkcjdodgojaaGreatKBNd
import Derived.Test.YtbimkcjdodgojaaGreatKBNj
import Derived.Test.YtbimkcjdodgojaaGreatKBNaj
import Derived.Test.YtbimkcjdodgojaaGreatRows
import Derived.ProofKit
import Derived.Lib.SmallJoins
namespace Go.Proofs.YtbimkcjdodgojaaGreat
set_option linter.unusedSimpArgs false
set_option linter.unusedVariables false
open Go.ChangeShapes Go.WideShapes Go.ChangeAt Go.RowKit Go.Deep
theorem exists_list {α : Type} (P : Nat → α → Prop) (n : Nat) (h : ∀ i, i < n → ∃ x, P i x) : ∃ l : List α, l.length = n ∧ ∀ i (hi : i < l.length), P i l[i] := by
 induction n with
 | zero => exact ⟨[], rfl, fun i hi => absurd hi (by simp)⟩
 | succ n ih =>
  obtain ⟨l, hl, hp⟩ := ih fun i hi => h i (by omega)
  obtain ⟨x, hx⟩ := h n (by omega)
  refine ⟨l ++ [x], by simp [hl], fun i hi => ?_⟩
  by_cases hin : i < l.length
  ·rw [List.getElem_append_left hin]; exact hp i hin
  ·have : i = l.length := by simp at hi; omega
   subst this
   rw [List.getElem_append_right (Nat.le_refl _)]
   simp only [Nat.sub_self, List.getElem_cons_zero]
   rw [hl]; exact hx
section
variable {H : Type} {enc : TypeId × Value → H} {w : World} {base : Nat} {spare : Nat → Bool} {held : Bool} {fuel : Nat}
theorem cell_lt {w : World} {a : Addr} {v : Value} (h : w.cell? a = some v) : a.block < w.heap.size ∧ a.spot = none := by
 unfold World.cell? at h
 split at h
 ·rename_i hb
  refine ⟨(Array.getElem?_eq_some_iff.1 hb).1, ?_⟩
  split at h
  ·cases h
  ·rename_i hs
   simpa using hs
 ·cases h
set_option maxRecDepth 100000 in
/-- a slice of texts -/
theorem open_texts {cs : List Value} {x : DataW H × List MemPlace} (h : DataW.trod enc Tryz.prog w base spare held fuel 22 cs = some x) :
    ∃ (A : Option Addr) (cap : Nat) (l : List ByteArray), cs = [.slice A l.length cap] ∧ l.length ≤ cap ∧ l.length ≤ 9223372036854775807 ∧ (∀ i (h : i < l.length), l[i].size ≤ 9223372036854775807) ∧ Arr w w.heap.size A (txts l) := by
 rcases open_slice Tryz.underlying22 h with ⟨h0, _⟩ | ⟨a, len, cap, m, n, D, Pl, hcs, hb, hl, hm, hmm, hx, hi⟩
 ·exact ⟨none, 0, [], h0, Nat.le_refl _, by simp, fun i h => absurd h (by simp), Arr.nil _ _ _⟩
 ·have k : Tryz.prog.cellsOf 9 = 1 := by kernel_rfl
  rw [k] at hi
  have hlm : len ≤ m := by rw [hmm]; split <;> omega
  obtain ⟨l, hfl, hfs⟩ := exists_list (fun i (s : ByteArray) => w.cell? (a.add (i * 1)) = some (.string s) ∧ s.size ≤ maxLen) len fun i hil => by
   obtain ⟨cs', hc, ht⟩ := hi i (by omega)
   obtain ⟨s, rfl, _, hs⟩ := DataW.trod_string Tryz.underlying9 ht
   obtain ⟨_, _, hat⟩ := World.cells?_some hc
   refine ⟨s, ?_, hs⟩
   have := hat 0 (by omega)
   simpa [Addr.add] using this
  refine ⟨some a, cap, l, by rw [hcs, hfl], by omega, by simp only [maxLen] at hm; omega, fun i h => by have := (hfs i h).2; simpa [maxLen] using this, ?_⟩
  intro hne
  have hpos : 0 < l.length := by
   cases l with
   | nil => exact absurd rfl hne
   | cons _ _ => simp
  have h00 := (hfs 0 hpos).1
  have e0 : a.add (0 * 1) = a := by simp [Addr.add]
  rw [e0] at h00
  obtain ⟨hlt, hsp⟩ := cell_lt h00
  obtain ⟨b, o, sp⟩ := a
  simp only at hsp hlt
  subst hsp
  refine ⟨b, o, rfl, hlt, fun j u hu => ?_⟩
  unfold txts at hu
  rw [List.getElem?_map] at hu
  cases hj : l[j]? with
  | none => rw [hj] at hu; simp at hu
  | some s =>
   rw [hj] at hu
   obtain ⟨hjl, rfl⟩ := List.getElem?_eq_some_iff.1 hj
   obtain rfl := Option.some.inj hu
   have := (hfs j hjl).1
   rw [Addr.add] at this
   split at this
   ·rename_i e
    rw [show o + j = o from by omega]; exact this
   ·rw [Nat.mul_one] at this; exact this
end
end Go.Proofs.YtbimkcjdodgojaaGreat
namespace Go.Proofs.YtbimkcjdodgojaaGreat
set_option linter.unusedSimpArgs false
set_option linter.unusedVariables false
open Go.ChangeShapes Go.WideShapes Go.ChangeAt Go.RowKit Go.Deep
section
variable {H : Type} {enc : TypeId × Value → H} {w : World} {base : Nat} {spare : Nat → Bool} {held : Bool} {fuel : Nat}
end
theorem arr_of_elems {α : Type} {f : α → List Value} {m : Nat} (hf : ∀ x, (f x).length = m) (hm : 0 < m) {w : World} {B : Nat} (l : List α) (b o : Nat) (hb : l ≠ [] → b < B)
    (h : ∀ k (hk : k < l.length) i u, i < m → (f l[k])[i]? = some u → w.cell? ⟨b, o + k * m + i, none⟩ = some u) : Arr w B (some ⟨b, o, none⟩) (l.flatMap f) := by
 intro hne
 refine ⟨b, o, rfl, hb (fun e => hne (by rw [e]; rfl)), fun j u hu => ?_⟩
 have hj : j < l.length * m := by
  have := (List.getElem?_eq_some_iff.1 hu).1
  rwa [flat_length f m hf l] at this
 have hdm : j / m * m + j % m = j := by rw [Nat.mul_comm]; exact Nat.div_add_mod j m
 have hk : j / m < l.length := (Nat.div_lt_iff_lt_mul hm).2 hj
 have ha := flat_at f m hf l (j / m) (j % m) hk (Nat.mod_lt _ hm)
 rw [hdm, hu] at ha
 have := h (j / m) hk (j % m) u (Nat.mod_lt _ hm) ha.symm
 rwa [Nat.add_assoc, hdm] at this
section
variable {H : Type} {enc : TypeId × Value → H} {w : World} {base : Nat} {spare : Nat → Bool} {held : Bool} {fuel : Nat}
set_option maxRecDepth 100000 in
/-- a span of two numbers -/
theorem open_span {cs : List Value} {x : DataW H × List MemPlace} (h : DataW.trod enc Tryz.prog w base spare held fuel 27 cs = some x) : ∃ a b : Int, cs = [.int .i64 a, .int .i64 b] := by
 obtain ⟨xs, n, _, _, hl, hxs, hf⟩ := DataW.trod_struct Tryz.underlying27 h
 have hl2 : cs.length = 2 := hl.trans (by kernel_rfl)
 match cs, hl2 with
 | [c0, c1], _ =>
  have h0 := hf 0 _ rfl
  have h1 := hf 1 _ rfl
  have l2 : xs.length = 2 := hxs
  match xs, l2 with
  | [x0, x1], _ =>
   have k : Tryz.prog.cellsOf 3 = 1 := by kernel_rfl
   replace h0 : DataW.trod enc Tryz.prog w base spare held n 3 [c0] = some x0 := by simpa [k] using h0
   replace h1 : DataW.trod enc Tryz.prog w base spare held n 3 [c1] = some x1 := by simpa [k] using h1
   obtain ⟨a, ha, _⟩ := DataW.trod_int Tryz.underlying3 h0
   obtain ⟨b, hb, _⟩ := DataW.trod_int Tryz.underlying3 h1
   simp at ha hb
   exact ⟨a, b, by rw [ha, hb]⟩
set_option maxRecDepth 100000 in
/-- a line of a book -/
theorem open_nline {cs : List Value} {x : DataW H × List MemPlace} (h : DataW.trod enc Tryz.prog w base spare held fuel 65 cs = some x) : ∃ l : NLn, cs = l.cells ∧ l.heard.size ≤ maxLen := by
 obtain ⟨xs, n, _, _, hl, hxs, hf⟩ := DataW.trod_struct Tryz.underlying65 h
 have hl2 : cs.length = 3 := hl.trans (by kernel_rfl)
 match cs, hl2 with
 | [c0, c1, c2], _ =>
  have h0 := hf 0 _ rfl
  have h1 := hf 1 _ rfl
  have h2 := hf 2 _ rfl
  have l2 : xs.length = 3 := hxs
  match xs, l2 with
  | [x0, x1, x2], _ =>
   have k1 : Tryz.prog.cellsOf 3 = 1 := by kernel_rfl
   have k2 : Tryz.prog.cellsOf 9 = 1 := by kernel_rfl
   replace h0 : DataW.trod enc Tryz.prog w base spare held n 3 [c0] = some x0 := by simpa [k1] using h0
   replace h1 : DataW.trod enc Tryz.prog w base spare held n 3 [c1] = some x1 := by simpa [k1] using h1
   replace h2 : DataW.trod enc Tryz.prog w base spare held n 9 [c2] = some x2 := by simpa [k2] using h2
   obtain ⟨a, ha, _⟩ := DataW.trod_int Tryz.underlying3 h0
   obtain ⟨b, hb, _⟩ := DataW.trod_int Tryz.underlying3 h1
   obtain ⟨s, hs, _, hsl⟩ := DataW.trod_string Tryz.underlying9 h2
   simp at ha hb hs
   exact ⟨⟨a, b, s⟩, by simp [NLn.cells, ha, hb, hs], hsl⟩
set_option maxRecDepth 100000 in
/-- a slice of lines -/
theorem open_nlines {cs : List Value} {x : DataW H × List MemPlace} (h : DataW.trod enc Tryz.prog w base spare held fuel 25 cs = some x) :
    ∃ (A : Option Addr) (cap : Nat) (l : List NLn), cs = [.slice A l.length cap] ∧ l.length ≤ cap ∧ l.length ≤ 9223372036854775807 ∧ (∀ i (h : i < l.length), l[i].heard.size ≤ 9223372036854775807) ∧ Arr w w.heap.size A (nlines l) := by
 rcases open_slice Tryz.underlying25 h with ⟨h0, _⟩ | ⟨a, len, cap, m, n, D, Pl, hcs, hb, hl, hm, hmm, hx, hi⟩
 ·exact ⟨none, 0, [], h0, Nat.le_refl _, by simp, fun i h => absurd h (by simp), Arr.nil _ _ _⟩
 ·have k : Tryz.prog.cellsOf 65 = 3 := by kernel_rfl
  rw [k] at hi
  have hlm : len ≤ m := by rw [hmm]; split <;> omega
  obtain ⟨l, hfl, hfs⟩ := exists_list (fun i (f : NLn) => (∀ k u, k < 3 → (f.cells)[k]? = some u → w.cell? ((a.add (i * 3)).add k) = some u) ∧ f.heard.size ≤ maxLen) len fun i hil => by
   obtain ⟨cs', hc, ht⟩ := hi i (by omega)
   obtain ⟨f, rfl, hs⟩ := open_nline ht
   obtain ⟨_, _, hat⟩ := World.cells?_some hc
   exact ⟨f, fun k u hk hu => by rw [hat k hk]; exact hu, hs⟩
  refine ⟨some a, cap, l, by rw [hcs, hfl], by omega, by simp only [maxLen] at hm; omega, fun i h => by have := (hfs i h).2; simpa [maxLen] using this, ?_⟩
  by_cases h0 : l = []
  ·rw [h0]; exact Arr.nil _ _ _
  ·have hpos : 0 < l.length := List.length_pos_iff.2 h0
   have h00 := (hfs 0 hpos).1 0 _ (by omega) rfl
   have e0 : (a.add (0 * 3)).add 0 = a := by simp [Addr.add]
   rw [e0] at h00
   obtain ⟨hlt, hsp⟩ := cell_lt h00
   obtain ⟨b, o, sp⟩ := a
   simp only at hsp hlt
   subst hsp
   refine arr_of_elems (f := NLn.cells) (m := 3) (fun _ => rfl) (by omega) l b o (fun _ => hlt) fun k hk i u hi hu => ?_
   have := (hfs k hk).1 i u hi hu
   rw [Go.Deep.add_add, Addr.add] at this
   split at this
   ·rename_i e
    rw [show o + k * 3 + i = o from by omega]; exact this
   ·rw [show o + k * 3 + i = o + (k * 3 + i) from by omega]; exact this
end
end Go.Proofs.YtbimkcjdodgojaaGreat
namespace Go.Proofs.YtbimkcjdodgojaaGreat
set_option linter.unusedSimpArgs false
set_option linter.unusedVariables false
open Go.ChangeShapes Go.WideShapes Go.ChangeAt Go.RowKit Go.Deep
section
variable {H : Type} {enc : TypeId × Value → H} {w : World} {base : Nat} {spare : Nat → Bool} {held : Bool} {fuel : Nat}
set_option maxRecDepth 100000 in
/-- an ear's cells, with the sizes of its groups -/
theorem open_earZ {cs : List Value} {x : DataW H × List MemPlace} (h : DataW.trod enc Tryz.prog w base spare held fuel 24 cs = some x) :
    ∃ (A : Option Addr) (cap : Nat) (l : List ByteArray) (m : ByteArray) (sl : Int), cs = [.slice A l.length cap, .string m, .int .i64 sl] ∧ l.length ≤ cap ∧ l.length ≤ 9223372036854775807 ∧ m.size ≤ 9223372036854775807 ∧ Arr w w.heap.size A (txts l) ∧ ∀ i (h : i < l.length), l[i].size ≤ 9223372036854775807 := by
 obtain ⟨xs, n, _, _, hl, hxs, hf⟩ := DataW.trod_struct Tryz.underlying24 h
 have hl2 : cs.length = 3 := hl.trans (by kernel_rfl)
 match cs, hl2 with
 | [c0, c1, c2], _ =>
  have h0 := hf 0 _ rfl
  have h1 := hf 1 _ rfl
  have h2 := hf 2 _ rfl
  have l2 : xs.length = 3 := hxs
  match xs, l2 with
  | [x0, x1, x2], _ =>
   have k0 : Tryz.prog.cellsOf 22 = 1 := by kernel_rfl
   have k1 : Tryz.prog.cellsOf 3 = 1 := by kernel_rfl
   have k2 : Tryz.prog.cellsOf 9 = 1 := by kernel_rfl
   replace h0 : DataW.trod enc Tryz.prog w base spare held n 22 [c0] = some x0 := by simpa [k0] using h0
   replace h1 : DataW.trod enc Tryz.prog w base spare held n 9 [c1] = some x1 := by simpa [k2] using h1
   replace h2 : DataW.trod enc Tryz.prog w base spare held n 3 [c2] = some x2 := by simpa [k1] using h2
   obtain ⟨A, cap, l, ha, hc, hl', hz, hA⟩ := open_texts h0
   obtain ⟨s, hs, _, hsl⟩ := DataW.trod_string Tryz.underlying9 h1
   obtain ⟨b, hb, _⟩ := DataW.trod_int Tryz.underlying3 h2
   simp at ha hb hs
   exact ⟨A, cap, l, s, b, by rw [ha, hb, hs], hc, hl', by simpa [maxLen] using hsl, hA, hz⟩
set_option maxRecDepth 100000 in
/-- books, with the sizes of their ears' groups -/
theorem open_nbookZ {r : Reach} {b0 : Nat} {v : Value} {d : DataW H} {p : List MemPlace} (hv : Value.okWide Tryz.prog w r b0 29 v) (h : DataW.Trod enc Tryz.prog w base spare held 29 v d p) :
    ∃ (A : Option Addr) (cap : Nat) (L : Option Addr) (lcap : Nat) (b : Bk), v = .agg (bkV A cap L lcap b).toArray ∧ b.small cap lcap ∧ BkAt w A L b ∧ ∀ i (h : i < b.ear.alike.length), b.ear.alike[i].size ≤ 9223372036854775807 := by
 simp only [Value.okWide, Tryz.underlying29] at hv
 obtain ⟨cs, rfl, hsz, _⟩ := hv
 obtain ⟨fuel, hf⟩ := h
 obtain ⟨xs, n, _, _, hl, hxs, hx⟩ := DataW.trod_struct Tryz.underlying29 hf
 obtain ⟨cs⟩ := cs
 have hl2 : cs.length = 7 := by have := hl.trans (by kernel_rfl : _ = 7); simpa [Value.cells] using this
 match cs, hl2 with
 | [c0, c1, c2, c3, c4, c5, c6], _ =>
  have h0 := hx 0 _ rfl
  have h1 := hx 1 _ rfl
  have h2 := hx 2 _ rfl
  have h3 := hx 3 _ rfl
  have l4 : xs.length = 4 := hxs
  match xs, l4 with
  | [x0, x1, x2, x3], _ =>
   have k0 : Tryz.prog.cellsOf 24 = 3 := by kernel_rfl
   have k1 : Tryz.prog.cellsOf 25 = 1 := by kernel_rfl
   have k2 : Tryz.prog.cellsOf 27 = 2 := by kernel_rfl
   have k3 : Tryz.prog.cellsOf 3 = 1 := by kernel_rfl
   replace h0 : DataW.trod enc Tryz.prog w base spare held n 24 [c0, c1, c2] = some x0 := by simpa [k0, Value.cells] using h0
   replace h1 : DataW.trod enc Tryz.prog w base spare held n 25 [c3] = some x1 := by simpa [k1, Value.cells] using h1
   replace h2 : DataW.trod enc Tryz.prog w base spare held n 27 [c4, c5] = some x2 := by simpa [k2, Value.cells] using h2
   replace h3 : DataW.trod enc Tryz.prog w base spare held n 3 [c6] = some x3 := by simpa [k3, Value.cells] using h3
   obtain ⟨A, cap, l, m, sl, ha, hc, hl', hm, hA, hZ⟩ := open_earZ h0
   obtain ⟨L, lcap, ls, hb, hlc, hls, hz, hLn⟩ := open_nlines h1
   obtain ⟨lo, hi, hlh⟩ := open_span h2
   obtain ⟨lost, hd, _⟩ := DataW.trod_int Tryz.underlying3 h3
   simp at ha hb hlh hd
   obtain ⟨rfl, rfl, rfl⟩ := ha
   obtain ⟨rfl, rfl⟩ := hlh
   subst hb hd
   exact ⟨A, cap, L, lcap, ⟨⟨l, m, sl⟩, ls, lo, hi, lost⟩, rfl, ⟨hc, hl', hlc, hls, hm, hz⟩, ⟨hA, hLn⟩, hZ⟩
end
end Go.Proofs.YtbimkcjdodgojaaGreat
