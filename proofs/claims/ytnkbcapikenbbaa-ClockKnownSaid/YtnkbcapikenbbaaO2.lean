/- Opening a book out of drawn arguments. -/
import Derived.Test.YtnkbcapikenbbaaRows
import Derived.Test.YtnkbcapikenbbaaL
import Derived.ProofKit
import Derived.Lib.SmallJoins
namespace Go.Proofs.Ytnkbcapikenbbaa
set_option linter.unusedSimpArgs false
set_option linter.unusedVariables false
open Go.ChangeShapes Go.WideShapes Go.ChangeAt Go.RowKit
open Go.ChangeShapes Go.WideShapes Go.ChangeAt Go.RowKit Go.Deep

theorem exists_list {α : Type} (P : Nat → α → Prop) (n : Nat) (h : ∀ i, i < n → ∃ x, P i x) : ∃ l : List α, l.length = n ∧ ∀ i (hi : i < l.length), P i l[i] := by
  induction n with
  | zero => exact ⟨[], rfl, fun i hi => absurd hi (by simp)⟩
  | succ n ih =>
    obtain ⟨l, hl, hp⟩ := ih fun i hi => h i (by omega)
    obtain ⟨x, hx⟩ := h n (by omega)
    refine ⟨l ++ [x], by simp [hl], fun i hi => ?_⟩
    by_cases hin : i < l.length
    · rw [List.getElem_append_left hin]; exact hp i hin
    · have : i = l.length := by simp at hi; omega
      subst this
      rw [List.getElem_append_right (Nat.le_refl _)]
      simp only [Nat.sub_self, List.getElem_cons_zero]
      rw [hl]; exact hx
theorem arr_of_elems {α : Type} {f : α → List Value} {m : Nat} (hf : ∀ x, (f x).length = m) (hm : 0 < m) {w : World} {B : Nat} (l : List α) (b o : Nat) (hb : l ≠ [] → b < B)
    (h : ∀ k (hk : k < l.length) i u, i < m → (f l[k])[i]? = some u → w.cell? ⟨b, o + k * m + i, none⟩ = some u) : Arr w B (some ⟨b, o, none⟩) (l.flatMap f) := by
  intro hne
  refine ⟨b, o, rfl, hb (fun e => hne (by rw [e]; rfl)), fun j u hu => ?_⟩
  have hj : j < l.length * m := by
    have := (List.getElem?_eq_some_iff.1 hu).1
    rwa [flat_length f m hf l] at this
  have hdm : j / m * m + j % m = j := by rw [Nat.mul_comm]; exact Nat.div_add_mod j m
  have hk : j / m < l.length := (Nat.div_lt_iff_lt_mul hm).2 hj
  have ha := flat_at f m hf l (j / m) (j % m) hk (Nat.mod_lt _ hm)
  rw [hdm, hu] at ha
  have := h (j / m) hk (j % m) u (Nat.mod_lt _ hm) ha.symm
  rwa [Nat.add_assoc, hdm] at this

section
variable {H : Type} {enc : TypeId × Value → H} {w : World} {base : Nat} {spare : Nat → Bool} {held : Bool} {fuel : Nat}

theorem cell_lt {w : World} {a : Addr} {v : Value} (h : w.cell? a = some v) : a.block < w.heap.size ∧ a.spot = none := by
  unfold World.cell? at h
  split at h
  · rename_i hb
    refine ⟨(Array.getElem?_eq_some_iff.1 hb).1, ?_⟩
    split at h
    · cases h
    · rename_i hs
      simpa using hs
  · cases h

set_option maxRecDepth 100000 in
/-- a span of two numbers -/
theorem open_span {cs : List Value} {x : DataW H × List MemPlace} (h : DataW.trod enc Try.prog w base spare held fuel 27 cs = some x) : ∃ a b : Int, cs = [.int .i64 a, .int .i64 b] := by
  obtain ⟨xs, n, _, _, hl, hxs, hf⟩ := DataW.trod_struct Try.underlying27 h
  have hl2 : cs.length = 2 := hl.trans (by kernel_rfl)
  match cs, hl2 with
  | [c0, c1], _ =>
    have h0 := hf 0 _ rfl
    have h1 := hf 1 _ rfl
    have l2 : xs.length = 2 := hxs
    match xs, l2 with
    | [x0, x1], _ =>
      have k : Try.prog.cellsOf 3 = 1 := by kernel_rfl
      replace h0 : DataW.trod enc Try.prog w base spare held n 3 [c0] = some x0 := by simpa [k] using h0
      replace h1 : DataW.trod enc Try.prog w base spare held n 3 [c1] = some x1 := by simpa [k] using h1
      obtain ⟨a, ha, _⟩ := DataW.trod_int Try.underlying3 h0
      obtain ⟨b, hb, _⟩ := DataW.trod_int Try.underlying3 h1
      simp at ha hb
      exact ⟨a, b, by rw [ha, hb]⟩
set_option maxRecDepth 100000 in
/-- a frost -/
theorem open_frost {cs : List Value} {x : DataW H × List MemPlace} (h : DataW.trod enc Try.prog w base spare held fuel 69 cs = some x) : ∃ f : Fr, cs = f.cells := by
  obtain ⟨xs, n, _, _, hl, hxs, hf⟩ := DataW.trod_struct Try.underlying69 h
  have hl2 : cs.length = 4 := hl.trans (by kernel_rfl)
  match cs, hl2 with
  | [c0, c1, c2, c3], _ =>
    have h0 := hf 0 _ rfl
    have h1 := hf 1 _ rfl
    have l2 : xs.length = 2 := hxs
    match xs, l2 with
    | [x0, x1], _ =>
      have k : Try.prog.cellsOf 27 = 2 := by kernel_rfl
      replace h0 : DataW.trod enc Try.prog w base spare held n 27 [c0, c1] = some x0 := by simpa [k] using h0
      replace h1 : DataW.trod enc Try.prog w base spare held n 27 [c2, c3] = some x1 := by simpa [k] using h1
      obtain ⟨a, b, ha⟩ := open_span h0
      obtain ⟨c, d, hb⟩ := open_span h1
      simp at ha hb
      exact ⟨⟨⟨a, b⟩, ⟨c, d⟩⟩, by simp [Fr.cells, ha, hb]⟩
set_option maxRecDepth 100000 in
/-- a slice of frosts -/
theorem open_frosts {cs : List Value} {x : DataW H × List MemPlace} (h : DataW.trod enc Try.prog w base spare held fuel 22 cs = some x) :
    ∃ (A : Option Addr) (cap : Nat) (fs : List Fr), cs = [.slice A fs.length cap] ∧ Arr w w.heap.size A (frosts fs) := by
  rcases open_slice Try.underlying22 h with ⟨h0, _⟩ | ⟨a, len, cap, m, n, D, Pl, hcs, hb, hl, hm, hmm, hx, hi⟩
  · exact ⟨none, 0, [], h0, Arr.nil _ _ _⟩
  · have k : Try.prog.cellsOf 69 = 4 := by kernel_rfl
    rw [k] at hi
    have hlm : len ≤ m := by rw [hmm]; split <;> omega
    obtain ⟨fs, hfl, hfs⟩ := exists_list (fun i (f : Fr) => ∀ k u, k < 4 → (f.cells)[k]? = some u → w.cell? ((a.add (i * 4)).add k) = some u) len fun i hil => by
      obtain ⟨cs', hc, ht⟩ := hi i (by omega)
      obtain ⟨f, rfl⟩ := open_frost ht
      obtain ⟨_, _, hat⟩ := World.cells?_some hc
      exact ⟨f, fun k u hk hu => by rw [hat k hk]; exact hu⟩
    refine ⟨some a, cap, fs, by rw [hcs, hfl], ?_⟩
    by_cases h0 : fs = []
    · rw [h0]; exact Arr.nil _ _ _
    · have hpos : 0 < fs.length := List.length_pos_iff.2 h0
      have h00 := hfs 0 hpos 0 _ (by omega) rfl
      have e0 : (a.add (0 * 4)).add 0 = a := by simp [Addr.add]
      rw [e0] at h00
      obtain ⟨hlt, hsp⟩ := cell_lt h00
      obtain ⟨b, o, sp⟩ := a
      simp only at hsp hlt
      subst hsp
      refine arr_of_elems (f := Fr.cells) (m := 4) (fun _ => rfl) (by omega) fs b o (fun _ => hlt) fun k hk i u hi hu => ?_
      have := hfs k hk i u hi hu
      rw [Go.Deep.add_add, Addr.add] at this
      split at this
      · rename_i e
        rw [show o + k * 4 + i = o from by omega]; exact this
      · rw [show o + k * 4 + i = o + (k * 4 + i) from by omega]; exact this
set_option maxRecDepth 100000 in
/-- a clock -/
theorem open_clock {r : Reach} {b0 : Nat} {v : Value} {d : DataW H} {p : List MemPlace} (hv : Value.okWide Try.prog w r b0 24 v) (h : DataW.Trod enc Try.prog w base spare held 24 v d p) :
    ∃ (set : Int) (A : Option Addr) (cap : Nat) (fs : List Fr), v = .agg #[.int .i64 set, .slice A fs.length cap] ∧ Arr w w.heap.size A (frosts fs) := by
  obtain ⟨v0, v1, y0, y1, n, rfl, _, _, t0, t1⟩ := Go.Joins.open_agg2 Try.underlying24 (by kernel_rfl) (by kernel_rfl) hv h
  obtain ⟨set, h0, _⟩ := DataW.trod_int Try.underlying3 t0
  obtain ⟨A, cap, fs, h1, hA⟩ := open_frosts t1
  simp at h0 h1
  exact ⟨set, A, cap, fs, by rw [h0, h1], hA⟩
set_option maxRecDepth 100000 in
/-- an array of two numbers -/
theorem open_two {r : Reach} {b0 : Nat} {v : Value} {d : DataW H} {p : List MemPlace} (hv : Value.okWide Try.prog w r b0 35 v) (h : DataW.Trod enc Try.prog w base spare held 35 v d p) :
    ∃ a b : Int, v = .agg #[.int .i64 a, .int .i64 b] := by
  simp only [Value.okWide, Try.underlying35] at hv
  obtain ⟨cs, rfl, hsz, _⟩ := hv
  obtain ⟨fuel, hf⟩ := h
  obtain ⟨xs, m, _, _, hl, hxl, hx⟩ := DataW.trod_array Try.underlying35 hf
  have k2 : Try.prog.cellsOf 35 = 2 := by kernel_rfl
  have k1 : Try.prog.cellsOf 3 = 1 := by kernel_rfl
  rw [k2] at hsz
  obtain ⟨c0, c1, rfl⟩ := Go.Joins.array2 hsz
  have h0 := hx 0 (by omega)
  have h1 := hx 1 (by omega)
  match xs, hxl with
  | [x0, x1], _ =>
    simp only [k1, Value.cells] at h0 h1
    obtain ⟨a, ha, _⟩ := DataW.trod_int Try.underlying3 h0
    obtain ⟨b, hb, _⟩ := DataW.trod_int Try.underlying3 h1
    simp at ha hb
    exact ⟨a, b, by rw [ha, hb]⟩
end

section
variable {H : Type} {enc : TypeId × Value → H} {P : Program}
theorem post_of_below {f : Func} {s : ChangeSpec} {apart fresh handsOn again : Bool} {W W' : World} {args : Array Value} {v : Value} {ds gs : List (DataW H)} {before pa pv : List MemPlace}
    (hW : DataW.Whole enc P f.params.toList s.vars apart W args.toList ds gs before)
    (hres : ∀ (b : Nat) (sp : Nat → Bool) (hd : Bool), DataW.TrodAll enc P W' b sp hd f.resultTypes.toList (v.resultList f.resultTypes.size) (s.fn H (ds ++ gs)).results [])
    (hargs : ∀ sp : Nat → Bool, (∀ p ∈ before, sp p.block = true) → DataW.TrodAll enc P W' 0 sp true f.params.toList args.toList (s.fn H (ds ++ gs)).args pa)
    (hvars : ∀ sp : Nat → Bool, (∀ p ∈ before, sp p.block = true) → DataW.TrodVars enc P W' sp s.vars (s.fn H (ds ++ gs)).vars pv)
    (hps : before = pa ++ pv) (hb : Below W.heap.size W W')
    (hok : ∀ (j : Nat) (t : TypeId) (r : Value), f.resultTypes[j]? = some t → (v.resultList f.resultTypes.size)[j]? = some r → Value.okWide P W' .any 0 t r) :
    s.post enc P f apart fresh handsOn again W args v W' := by
  have hlt : ∀ p ∈ before, p.block < W.heap.size := fun p hp => hW.lt p hp
  have hold : ∀ p ∈ before, (fun b => decide (b < W.heap.size)) p.block = true := fun p hp => by simpa using hlt p hp
  refine ⟨ds, gs, before, [], pa, pv, hW, hres _ _ _, hargs _ hold, hvars _ hold, World.keptBut_mono (fun p hp => ⟨hp, ?_⟩) (hb.frame (· ∈ before)), fun _ => ?_⟩
  · rw [hps, List.mem_append] at hp
    exact Or.inr hp
  · obtain ⟨_, _, _, _, _, hz, hn⟩ := hW
    refine ⟨hok, _, _, ([] ++ pa) ++ pv, ⟨[] ++ pa, pv, trodAll_append (hargs _ (fun _ _ => rfl)) (hres _ _ _), hvars _ (fun _ _ => rfl), rfl, ?_, ?_⟩, ?_⟩
    · intro b off hp
      have hin : MemPlace.cell b off ∈ before := by rw [hps]; simpa using hp
      rw [hb.frozen (hlt _ hin)]
      exact hz b off hin
    · intro ha
      have := hn ha
      rw [hps] at this
      simpa using this
    · intro p hp _
      rw [hps]
      simpa using hp
end

section
open Go.Deep
variable {H : Type} {enc : TypeId × Value → H} {w : World} {base : Nat} {spare : Nat → Bool} {held : Bool} {fuel : Nat}
set_option maxRecDepth 100000 in
/-- a list of numbers -/
theorem open_bits {r : Reach} {b0 : Nat} {v : Value} {d : DataW H} {p : List MemPlace} (hv : Value.okWide Try.prog w r b0 47 v) (h : DataW.Trod enc Try.prog w base spare held 47 v d p) :
    ∃ (A : Option Addr) (cap : Nat) (l : List Int), v = .slice A l.length cap ∧ l.length ≤ maxLen ∧ Arr w w.heap.size A (ints l) := by
  obtain ⟨a, len, cap0, rfl⟩ := okWide_slice Try.underlying47 hv
  obtain ⟨fuel, hf⟩ := h
  simp only [Value.cells] at hf
  rcases open_ints Try.underlying47 Try.underlying3 (by kernel_rfl) hf with ⟨h0, _⟩ | ⟨a', len', cap', zs, hcs, _, hlc, hcm, hzl, _, hz, _⟩
  · simp only [List.cons.injEq, and_true] at h0
    exact ⟨none, 0, [], h0, by simp, Arr.nil _ _ _⟩
  · simp only [List.cons.injEq, and_true] at hcs
    have hll : len' ≤ zs.length := by rw [hzl]; split <;> omega
    refine ⟨some a', cap', zs.take len', by rw [hcs, List.length_take, Nat.min_eq_left hll], by rw [List.length_take]; omega, fun hne => ?_⟩
    have hpos : 0 < zs.length := by
      rcases Nat.eq_zero_or_pos zs.length with h0 | h0
      · rw [List.length_eq_zero_iff.1 h0] at hne; simp [ints] at hne
      · exact h0
    have h00 := hz 0 hpos
    have e0 : a'.add 0 = a' := by simp [Addr.add]
    rw [e0] at h00
    obtain ⟨hlt, hsp⟩ := cell_lt h00
    obtain ⟨b, o, sp⟩ := a'
    simp only at hsp hlt
    subst hsp
    refine ⟨b, o, rfl, hlt, fun j u hu => ?_⟩
    have hj : j < (zs.take len').length := by
      have h1 := (List.getElem?_eq_some_iff.1 hu).1
      rwa [ints_length] at h1
    have hj2 : j < zs.length := by rw [List.length_take] at hj; omega
    have h1 := hz j hj2
    have h2 : Addr.add ⟨b, o, none⟩ j = ⟨b, o + j, none⟩ := by unfold Addr.add; split <;> simp_all
    rw [h2] at h1
    rw [h1, ← hu]
    simp only [ints, List.getElem?_map, List.getElem?_take]
    rw [if_pos (by rw [List.length_take] at hj; omega), List.getElem?_eq_getElem hj2, List.getD_eq_getElem?_getD, List.getElem?_eq_getElem hj2]
    rfl
end

section
open Go.Deep
variable {H : Type} {enc : TypeId × Value → H} {w : World} {base : Nat} {spare : Nat → Bool} {held : Bool} {fuel : Nat}
set_option maxRecDepth 100000 in
/-- a line of a book -/
theorem open_line {cs : List Value} {x : DataW H × List MemPlace} (h : DataW.trod enc Try.prog w base spare held fuel 67 cs = some x) : ∃ l : Ln, cs = l.cells := by
  obtain ⟨xs, n, _, _, hl, hxs, hf⟩ := DataW.trod_struct Try.underlying67 h
  have hl2 : cs.length = 3 := hl.trans (by kernel_rfl)
  match cs, hl2 with
  | [c0, c1, c2], _ =>
    have h0 := hf 0 _ rfl
    have h1 := hf 1 _ rfl
    have l2 : xs.length = 2 := hxs
    match xs, l2 with
    | [x0, x1], _ =>
      have k : Try.prog.cellsOf 27 = 2 := by kernel_rfl
      have k1 : Try.prog.cellsOf 3 = 1 := by kernel_rfl
      replace h0 : DataW.trod enc Try.prog w base spare held n 3 [c0] = some x0 := by simpa [k1] using h0
      replace h1 : DataW.trod enc Try.prog w base spare held n 27 [c1, c2] = some x1 := by simpa [k] using h1
      obtain ⟨a, ha, _⟩ := DataW.trod_int Try.underlying3 h0
      obtain ⟨c, d, hb⟩ := open_span h1
      simp at ha hb
      exact ⟨⟨a, ⟨c, d⟩⟩, by simp [Ln.cells, ha, hb]⟩
set_option maxRecDepth 100000 in
/-- a slice of lines -/
theorem open_lines {cs : List Value} {x : DataW H × List MemPlace} (h : DataW.trod enc Try.prog w base spare held fuel 39 cs = some x) :
    ∃ (A : Option Addr) (cap : Nat) (fs : List Ln), cs = [.slice A fs.length cap] ∧ fs.length ≤ maxLen ∧ Arr w w.heap.size A (lines fs) := by
  rcases open_slice Try.underlying39 h with ⟨h0, _⟩ | ⟨a, len, cap, m, n, D, Pl, hcs, hb, hl, hm, hmm, hx, hi⟩
  · exact ⟨none, 0, [], h0, by simp, Arr.nil _ _ _⟩
  · have k : Try.prog.cellsOf 67 = 3 := by kernel_rfl
    rw [k] at hi
    have hlm : len ≤ m := by rw [hmm]; split <;> omega
    obtain ⟨fs, hfl, hfs⟩ := exists_list (fun i (f : Ln) => ∀ k u, k < 3 → (f.cells)[k]? = some u → w.cell? ((a.add (i * 3)).add k) = some u) len fun i hil => by
      obtain ⟨cs', hc, ht⟩ := hi i (by omega)
      obtain ⟨f, rfl⟩ := open_line ht
      obtain ⟨_, _, hat⟩ := World.cells?_some hc
      exact ⟨f, fun k u hk hu => by rw [hat k hk]; exact hu⟩
    refine ⟨some a, cap, fs, by rw [hcs, hfl], by omega, ?_⟩
    by_cases h0 : fs = []
    · rw [h0]; exact Arr.nil _ _ _
    · have hpos : 0 < fs.length := List.length_pos_iff.2 h0
      have h00 := hfs 0 hpos 0 _ (by omega) rfl
      have e0 : (a.add (0 * 3)).add 0 = a := by simp [Addr.add]
      rw [e0] at h00
      obtain ⟨hlt, hsp⟩ := cell_lt h00
      obtain ⟨b, o, sp⟩ := a
      simp only at hsp hlt
      subst hsp
      refine arr_of_elems (f := Ln.cells) (m := 3) (fun _ => rfl) (by omega) fs b o (fun _ => hlt) fun k hk i u hi hu => ?_
      have := hfs k hk i u hi hu
      rw [Go.Deep.add_add, Addr.add] at this
      split at this
      · rename_i e
        rw [show o + k * 3 + i = o from by omega]; exact this
      · rw [show o + k * 3 + i = o + (k * 3 + i) from by omega]; exact this
set_option maxRecDepth 100000 in
/-- a book -/
theorem open_book {r : Reach} {b0 : Nat} {v : Value} {d : DataW H} {p : List MemPlace} (hv : Value.okWide Try.prog w r b0 39 v) (h : DataW.Trod enc Try.prog w base spare held 39 v d p) :
    ∃ (A : Option Addr) (cap : Nat) (ls : List Ln), v = .slice A ls.length cap ∧ ls.length ≤ maxLen ∧ Arr w w.heap.size A (lines ls) := by
  obtain ⟨a, len, cap0, rfl⟩ := okWide_slice Try.underlying39 hv
  obtain ⟨fuel, hf⟩ := h
  obtain ⟨A, cap, ls, hcs, hl, hA⟩ := open_lines hf
  simp only [Value.cells, List.cons.injEq, and_true] at hcs
  exact ⟨A, cap, ls, hcs, hl, hA⟩
end
section
open Go.Deep
variable {H : Type} {enc : TypeId × Value → H} {w : World} {base : Nat} {spare : Nat → Bool} {held : Bool} {fuel : Nat}
set_option maxRecDepth 100000 in
/-- an array of three numbers -/
theorem open_three {r : Reach} {b0 : Nat} {v : Value} {d : DataW H} {p : List MemPlace} (hv : Value.okWide Try.prog w r b0 25 v) (h : DataW.Trod enc Try.prog w base spare held 25 v d p) :
    ∃ a b c : Int, v = .agg #[.int .i64 a, .int .i64 b, .int .i64 c] := by
  simp only [Value.okWide, Try.underlying25] at hv
  obtain ⟨cs, rfl, hsz, _⟩ := hv
  obtain ⟨fuel, hf⟩ := h
  obtain ⟨xs, m, _, _, hl, hxl, hx⟩ := DataW.trod_array Try.underlying25 hf
  have k2 : Try.prog.cellsOf 25 = 3 := by kernel_rfl
  have k1 : Try.prog.cellsOf 3 = 1 := by kernel_rfl
  rw [k2] at hsz
  obtain ⟨c0, c1, c2, rfl⟩ := Go.Joins.array3 hsz
  have h0 := hx 0 (by omega)
  have h1 := hx 1 (by omega)
  have h2 := hx 2 (by omega)
  match xs, hxl with
  | [x0, x1, x2], _ =>
    simp only [k1, Value.cells] at h0 h1 h2
    obtain ⟨a, ha, _⟩ := DataW.trod_int Try.underlying3 h0
    obtain ⟨b, hb, _⟩ := DataW.trod_int Try.underlying3 h1
    obtain ⟨c, hc, _⟩ := DataW.trod_int Try.underlying3 h2
    simp at ha hb hc
    exact ⟨a, b, c, by rw [ha, hb, hc]⟩
end
end Go.Proofs.Ytnkbcapikenbbaa
