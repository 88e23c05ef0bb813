/- Opening books out of drawn arguments. -/
import Derived.Test.YtbimkcjdodgojaaNO
import Derived.Test.YtbimkcjdodgojaaNj
namespace Go.Proofs.Ytbimkcjdodgojaa
set_option linter.unusedSimpArgs false
set_option linter.unusedVariables false
open Go.ChangeShapes Go.WideShapes Go.ChangeAt Go.RowKit Go.Deep

section
variable {H : Type} {enc : TypeId × Value → H} {w : World} {base : Nat} {spare : Nat → Bool} {held : Bool} {fuel : Nat}
set_option maxRecDepth 100000 in
/-- a list of numbers -/
theorem open_bits {r : Reach} {b0 : Nat} {v : Value} {d : DataW H} {p : List MemPlace} (hv : Value.okWide Try.prog w r b0 36 v) (h : DataW.Trod enc Try.prog w base spare held 36 v d p) :
    ∃ (A : Option Addr) (cap : Nat) (l : List Int), v = .slice A l.length cap ∧ l.length ≤ maxLen ∧ Arr w w.heap.size A (ints l) := by
 obtain ⟨a, len, cap0, rfl⟩ := okWide_slice Try.underlying36 hv
 obtain ⟨fuel, hf⟩ := h
 simp only [Value.cells] at hf
 rcases open_ints Try.underlying36 Try.underlying3 (by kernel_rfl) hf with ⟨h0, _⟩ | ⟨a', len', cap', zs, hcs, _, hlc, hcm, hzl, _, hz, _⟩
 ·simp only [List.cons.injEq, and_true] at h0
  exact ⟨none, 0, [], h0, by simp, Arr.nil _ _ _⟩
 ·simp only [List.cons.injEq, and_true] at hcs
  have hll : len' ≤ zs.length := by rw [hzl]; split <;> omega
  refine ⟨some a', cap', zs.take len', by rw [hcs, List.length_take, Nat.min_eq_left hll], by rw [List.length_take]; omega, fun hne => ?_⟩
  have hpos : 0 < zs.length := by
   rcases Nat.eq_zero_or_pos zs.length with h0 | h0
   ·rw [List.length_eq_zero_iff.1 h0] at hne; simp [ints] at hne
   ·exact h0
  have h00 := hz 0 hpos
  have e0 : a'.add 0 = a' := by simp [Addr.add]
  rw [e0] at h00
  obtain ⟨hlt, hsp⟩ := cell_lt h00
  obtain ⟨b, o, sp⟩ := a'
  simp only at hsp hlt
  subst hsp
  refine ⟨b, o, rfl, hlt, fun j u hu => ?_⟩
  have hj : j < (zs.take len').length := by
   have h1 := (List.getElem?_eq_some_iff.1 hu).1
   rwa [ints_length] at h1
  have hj2 : j < zs.length := by rw [List.length_take] at hj; omega
  have h1 := hz j hj2
  have h2 : Addr.add ⟨b, o, none⟩ j = ⟨b, o + j, none⟩ := by unfold Addr.add; split <;> simp_all
  rw [h2] at h1
  rw [h1, ← hu]
  simp only [ints, List.getElem?_map, List.getElem?_take]
  rw [if_pos (by rw [List.length_take] at hj; omega), List.getElem?_eq_getElem hj2, List.getD_eq_getElem?_getD, List.getElem?_eq_getElem hj2]
  rfl
end

theorem arr_of_elems {α : Type} {f : α → List Value} {m : Nat} (hf : ∀ x, (f x).length = m) (hm : 0 < m) {w : World} {B : Nat} (l : List α) (b o : Nat) (hb : l ≠ [] → b < B)
    (h : ∀ k (hk : k < l.length) i u, i < m → (f l[k])[i]? = some u → w.cell? ⟨b, o + k * m + i, none⟩ = some u) : Arr w B (some ⟨b, o, none⟩) (l.flatMap f) := by
 intro hne
 refine ⟨b, o, rfl, hb (fun e => hne (by rw [e]; rfl)), fun j u hu => ?_⟩
 have hj : j < l.length * m := by
  have := (List.getElem?_eq_some_iff.1 hu).1
  rwa [flat_length f m hf l] at this
 have hdm : j / m * m + j % m = j := by rw [Nat.mul_comm]; exact Nat.div_add_mod j m
 have hk : j / m < l.length := (Nat.div_lt_iff_lt_mul hm).2 hj
 have ha := flat_at f m hf l (j / m) (j % m) hk (Nat.mod_lt _ hm)
 rw [hdm, hu] at ha
 have := h (j / m) hk (j % m) u (Nat.mod_lt _ hm) ha.symm
 rwa [Nat.add_assoc, hdm] at this
section
variable {H : Type} {enc : TypeId × Value → H} {w : World} {base : Nat} {spare : Nat → Bool} {held : Bool} {fuel : Nat}
set_option maxRecDepth 100000 in
/-- a span of two numbers -/
theorem open_span {cs : List Value} {x : DataW H × List MemPlace} (h : DataW.trod enc Try.prog w base spare held fuel 33 cs = some x) : ∃ a b : Int, cs = [.int .i64 a, .int .i64 b] := by
 obtain ⟨xs, n, _, _, hl, hxs, hf⟩ := DataW.trod_struct Try.underlying33 h
 have hl2 : cs.length = 2 := hl.trans (by kernel_rfl)
 match cs, hl2 with
 | [c0, c1], _ =>
  have h0 := hf 0 _ rfl
  have h1 := hf 1 _ rfl
  have l2 : xs.length = 2 := hxs
  match xs, l2 with
  | [x0, x1], _ =>
   have k : Try.prog.cellsOf 3 = 1 := by kernel_rfl
   replace h0 : DataW.trod enc Try.prog w base spare held n 3 [c0] = some x0 := by simpa [k] using h0
   replace h1 : DataW.trod enc Try.prog w base spare held n 3 [c1] = some x1 := by simpa [k] using h1
   obtain ⟨a, ha, _⟩ := DataW.trod_int Try.underlying3 h0
   obtain ⟨b, hb, _⟩ := DataW.trod_int Try.underlying3 h1
   simp at ha hb
   exact ⟨a, b, by rw [ha, hb]⟩
set_option maxRecDepth 100000 in
/-- a line of a book -/
theorem open_nline {cs : List Value} {x : DataW H × List MemPlace} (h : DataW.trod enc Try.prog w base spare held fuel 81 cs = some x) : ∃ l : NLn, cs = l.cells ∧ l.heard.size ≤ maxLen := by
 obtain ⟨xs, n, _, _, hl, hxs, hf⟩ := DataW.trod_struct Try.underlying81 h
 have hl2 : cs.length = 3 := hl.trans (by kernel_rfl)
 match cs, hl2 with
 | [c0, c1, c2], _ =>
  have h0 := hf 0 _ rfl
  have h1 := hf 1 _ rfl
  have h2 := hf 2 _ rfl
  have l2 : xs.length = 3 := hxs
  match xs, l2 with
  | [x0, x1, x2], _ =>
   have k1 : Try.prog.cellsOf 3 = 1 := by kernel_rfl
   have k2 : Try.prog.cellsOf 9 = 1 := by kernel_rfl
   replace h0 : DataW.trod enc Try.prog w base spare held n 3 [c0] = some x0 := by simpa [k1] using h0
   replace h1 : DataW.trod enc Try.prog w base spare held n 3 [c1] = some x1 := by simpa [k1] using h1
   replace h2 : DataW.trod enc Try.prog w base spare held n 9 [c2] = some x2 := by simpa [k2] using h2
   obtain ⟨a, ha, _⟩ := DataW.trod_int Try.underlying3 h0
   obtain ⟨b, hb, _⟩ := DataW.trod_int Try.underlying3 h1
   obtain ⟨s, hs, _, hsl⟩ := DataW.trod_string Try.underlying9 h2
   simp at ha hb hs
   exact ⟨⟨a, b, s⟩, by simp [NLn.cells, ha, hb, hs], hsl⟩
set_option maxRecDepth 100000 in
/-- a slice of lines -/
theorem open_nlines {cs : List Value} {x : DataW H × List MemPlace} (h : DataW.trod enc Try.prog w base spare held fuel 31 cs = some x) :
    ∃ (A : Option Addr) (cap : Nat) (l : List NLn), cs = [.slice A l.length cap] ∧ l.length ≤ cap ∧ l.length ≤ 9223372036854775807 ∧ (∀ i (h : i < l.length), l[i].heard.size ≤ 9223372036854775807) ∧ Arr w w.heap.size A (nlines l) := by
 rcases open_slice Try.underlying31 h with ⟨h0, _⟩ | ⟨a, len, cap, m, n, D, Pl, hcs, hb, hl, hm, hmm, hx, hi⟩
 ·exact ⟨none, 0, [], h0, Nat.le_refl _, by simp, fun i h => absurd h (by simp), Arr.nil _ _ _⟩
 ·have k : Try.prog.cellsOf 81 = 3 := by kernel_rfl
  rw [k] at hi
  have hlm : len ≤ m := by rw [hmm]; split <;> omega
  obtain ⟨l, hfl, hfs⟩ := exists_list (fun i (f : NLn) => (∀ k u, k < 3 → (f.cells)[k]? = some u → w.cell? ((a.add (i * 3)).add k) = some u) ∧ f.heard.size ≤ maxLen) len fun i hil => by
   obtain ⟨cs', hc, ht⟩ := hi i (by omega)
   obtain ⟨f, rfl, hs⟩ := open_nline ht
   obtain ⟨_, _, hat⟩ := World.cells?_some hc
   exact ⟨f, fun k u hk hu => by rw [hat k hk]; exact hu, hs⟩
  refine ⟨some a, cap, l, by rw [hcs, hfl], by omega, by simp only [maxLen] at hm; omega, fun i h => by have := (hfs i h).2; simpa [maxLen] using this, ?_⟩
  by_cases h0 : l = []
  ·rw [h0]; exact Arr.nil _ _ _
  ·have hpos : 0 < l.length := List.length_pos_iff.2 h0
   have h00 := (hfs 0 hpos).1 0 _ (by omega) rfl
   have e0 : (a.add (0 * 3)).add 0 = a := by simp [Addr.add]
   rw [e0] at h00
   obtain ⟨hlt, hsp⟩ := cell_lt h00
   obtain ⟨b, o, sp⟩ := a
   simp only at hsp hlt
   subst hsp
   refine arr_of_elems (f := NLn.cells) (m := 3) (fun _ => rfl) (by omega) l b o (fun _ => hlt) fun k hk i u hi hu => ?_
   have := (hfs k hk).1 i u hi hu
   rw [Go.Deep.add_add, Addr.add] at this
   split at this
   ·rename_i e
    rw [show o + k * 3 + i = o from by omega]; exact this
   ·rw [show o + k * 3 + i = o + (k * 3 + i) from by omega]; exact this
set_option maxRecDepth 100000 in
/-- an ear's cells -/
theorem open_earC {cs : List Value} {x : DataW H × List MemPlace} (h : DataW.trod enc Try.prog w base spare held fuel 24 cs = some x) :
    ∃ (A : Option Addr) (cap : Nat) (l : List ByteArray) (m : ByteArray) (sl : Int), cs = [.slice A l.length cap, .string m, .int .i64 sl] ∧ l.length ≤ cap ∧ l.length ≤ 9223372036854775807 ∧ m.size ≤ 9223372036854775807 ∧ Arr w w.heap.size A (txts l) := by
 obtain ⟨xs, n, _, _, hl, hxs, hf⟩ := DataW.trod_struct Try.underlying24 h
 have hl2 : cs.length = 3 := hl.trans (by kernel_rfl)
 match cs, hl2 with
 | [c0, c1, c2], _ =>
  have h0 := hf 0 _ rfl
  have h1 := hf 1 _ rfl
  have h2 := hf 2 _ rfl
  have l2 : xs.length = 3 := hxs
  match xs, l2 with
  | [x0, x1, x2], _ =>
   have k0 : Try.prog.cellsOf 22 = 1 := by kernel_rfl
   have k1 : Try.prog.cellsOf 3 = 1 := by kernel_rfl
   have k2 : Try.prog.cellsOf 9 = 1 := by kernel_rfl
   replace h0 : DataW.trod enc Try.prog w base spare held n 22 [c0] = some x0 := by simpa [k0] using h0
   replace h1 : DataW.trod enc Try.prog w base spare held n 9 [c1] = some x1 := by simpa [k2] using h1
   replace h2 : DataW.trod enc Try.prog w base spare held n 3 [c2] = some x2 := by simpa [k1] using h2
   obtain ⟨A, cap, l, ha, hc, hl', _, hA⟩ := open_texts h0
   obtain ⟨s, hs, _, hsl⟩ := DataW.trod_string Try.underlying9 h1
   obtain ⟨b, hb, _⟩ := DataW.trod_int Try.underlying3 h2
   simp at ha hb hs
   exact ⟨A, cap, l, s, b, by rw [ha, hb, hs], hc, hl', by simpa [maxLen] using hsl, hA⟩
set_option maxRecDepth 100000 in
/-- books -/
theorem open_nbook {r : Reach} {b0 : Nat} {v : Value} {d : DataW H} {p : List MemPlace} (hv : Value.okWide Try.prog w r b0 35 v) (h : DataW.Trod enc Try.prog w base spare held 35 v d p) :
    ∃ (A : Option Addr) (cap : Nat) (L : Option Addr) (lcap : Nat) (b : Bk), v = .agg (bkV A cap L lcap b).toArray ∧ b.small cap lcap ∧ BkAt w A L b := by
 simp only [Value.okWide, Try.underlying35] at hv
 obtain ⟨cs, rfl, hsz, _⟩ := hv
 obtain ⟨fuel, hf⟩ := h
 obtain ⟨xs, n, _, _, hl, hxs, hx⟩ := DataW.trod_struct Try.underlying35 hf
 obtain ⟨cs⟩ := cs
 have hl2 : cs.length = 7 := by have := hl.trans (by kernel_rfl : _ = 7); simpa [Value.cells] using this
 match cs, hl2 with
 | [c0, c1, c2, c3, c4, c5, c6], _ =>
  have h0 := hx 0 _ rfl
  have h1 := hx 1 _ rfl
  have h2 := hx 2 _ rfl
  have h3 := hx 3 _ rfl
  have l4 : xs.length = 4 := hxs
  match xs, l4 with
  | [x0, x1, x2, x3], _ =>
   have k0 : Try.prog.cellsOf 24 = 3 := by kernel_rfl
   have k1 : Try.prog.cellsOf 31 = 1 := by kernel_rfl
   have k2 : Try.prog.cellsOf 33 = 2 := by kernel_rfl
   have k3 : Try.prog.cellsOf 3 = 1 := by kernel_rfl
   replace h0 : DataW.trod enc Try.prog w base spare held n 24 [c0, c1, c2] = some x0 := by simpa [k0, Value.cells] using h0
   replace h1 : DataW.trod enc Try.prog w base spare held n 31 [c3] = some x1 := by simpa [k1, Value.cells] using h1
   replace h2 : DataW.trod enc Try.prog w base spare held n 33 [c4, c5] = some x2 := by simpa [k2, Value.cells] using h2
   replace h3 : DataW.trod enc Try.prog w base spare held n 3 [c6] = some x3 := by simpa [k3, Value.cells] using h3
   obtain ⟨A, cap, l, m, sl, ha, hc, hl', hm, hA⟩ := open_earC h0
   obtain ⟨L, lcap, ls, hb, hlc, hls, hz, hLn⟩ := open_nlines h1
   obtain ⟨lo, hi, hlh⟩ := open_span h2
   obtain ⟨lost, hd, _⟩ := DataW.trod_int Try.underlying3 h3
   simp at ha hb hlh hd
   obtain ⟨rfl, rfl, rfl⟩ := ha
   obtain ⟨rfl, rfl⟩ := hlh
   subst hb hd
   exact ⟨A, cap, L, lcap, ⟨⟨l, m, sl⟩, ls, lo, hi, lost⟩, rfl, ⟨hc, hl', hlc, hls, hm, hz⟩, hA, hLn⟩
end
end Go.Proofs.Ytbimkcjdodgojaa
