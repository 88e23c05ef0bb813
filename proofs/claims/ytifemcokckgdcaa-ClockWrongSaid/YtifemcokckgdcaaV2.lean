/-
  What Wrong returns, taken out of a book, leaves a book that is right; it is empty just if the book was right, and no fewer lines, nor as many that come before, do as well: for every clock, book and number the law returns true and leaves its arguments as they were.
  Conditions: none of its own.
-/
import Derived.Test.YtifemcokckgdcaaW9b
import Derived.Test.YtifemcokckgdcaaW9c
import Derived.Test.YtifemcokckgdcaaO
namespace Go.Proofs.Ytifemcokckgdcaa
set_option linter.unusedSimpArgs false
set_option linter.unusedVariables false
open Go.ChangeShapes Go.WideShapes Go.ChangeAt Go.RowKit

section
open Go.Deep
variable {H : Type} {enc : TypeId × Value → H} {w : World} {base : Nat} {spare : Nat → Bool} {held : Bool} {fuel : Nat}
set_option maxRecDepth 100000 in
/-- a line of a book -/
theorem open_line {cs : List Value} {x : DataW H × List MemPlace} (h : DataW.trod enc Try.prog w base spare held fuel 67 cs = some x) : ∃ l : Ln, cs = l.cells := by
  obtain ⟨xs, n, _, _, hl, hxs, hf⟩ := DataW.trod_struct Try.underlying67 h
  have hl2 : cs.length = 3 := hl.trans (by kernel_rfl)
  match cs, hl2 with
  | [c0, c1, c2], _ =>
    have h0 := hf 0 _ rfl
    have h1 := hf 1 _ rfl
    have l2 : xs.length = 2 := hxs
    match xs, l2 with
    | [x0, x1], _ =>
      have k : Try.prog.cellsOf 27 = 2 := by kernel_rfl
      have k1 : Try.prog.cellsOf 3 = 1 := by kernel_rfl
      replace h0 : DataW.trod enc Try.prog w base spare held n 3 [c0] = some x0 := by simpa [k1] using h0
      replace h1 : DataW.trod enc Try.prog w base spare held n 27 [c1, c2] = some x1 := by simpa [k] using h1
      obtain ⟨a, ha, _⟩ := DataW.trod_int Try.underlying3 h0
      obtain ⟨c, d, hb⟩ := open_span h1
      simp at ha hb
      exact ⟨⟨a, ⟨c, d⟩⟩, by simp [Ln.cells, ha, hb]⟩
set_option maxRecDepth 100000 in
/-- a slice of lines -/
theorem open_lines {cs : List Value} {x : DataW H × List MemPlace} (h : DataW.trod enc Try.prog w base spare held fuel 39 cs = some x) :
    ∃ (A : Option Addr) (cap : Nat) (fs : List Ln), cs = [.slice A fs.length cap] ∧ fs.length ≤ maxLen ∧ Arr w w.heap.size A (lines fs) := by
  rcases open_slice Try.underlying39 h with ⟨h0, _⟩ | ⟨a, len, cap, m, n, D, Pl, hcs, hb, hl, hm, hmm, hx, hi⟩
  · exact ⟨none, 0, [], h0, by simp, Arr.nil _ _ _⟩
  · have k : Try.prog.cellsOf 67 = 3 := by kernel_rfl
    rw [k] at hi
    have hlm : len ≤ m := by rw [hmm]; split <;> omega
    obtain ⟨fs, hfl, hfs⟩ := exists_list (fun i (f : Ln) => ∀ k u, k < 3 → (f.cells)[k]? = some u → w.cell? ((a.add (i * 3)).add k) = some u) len fun i hil => by
      obtain ⟨cs', hc, ht⟩ := hi i (by omega)
      obtain ⟨f, rfl⟩ := open_line ht
      obtain ⟨_, _, hat⟩ := World.cells?_some hc
      exact ⟨f, fun k u hk hu => by rw [hat k hk]; exact hu⟩
    refine ⟨some a, cap, fs, by rw [hcs, hfl], by omega, ?_⟩
    by_cases h0 : fs = []
    · rw [h0]; exact Arr.nil _ _ _
    · have hpos : 0 < fs.length := List.length_pos_iff.2 h0
      have h00 := hfs 0 hpos 0 _ (by omega) rfl
      have e0 : (a.add (0 * 3)).add 0 = a := by simp [Addr.add]
      rw [e0] at h00
      obtain ⟨hlt, hsp⟩ := cell_lt h00
      obtain ⟨b, o, sp⟩ := a
      simp only at hsp hlt
      subst hsp
      refine arr_of_elems (f := Ln.cells) (m := 3) (fun _ => rfl) (by omega) fs b o (fun _ => hlt) fun k hk i u hi hu => ?_
      have := hfs k hk i u hi hu
      rw [Go.Deep.add_add, Addr.add] at this
      split at this
      · rename_i e
        rw [show o + k * 3 + i = o from by omega]; exact this
      · rw [show o + k * 3 + i = o + (k * 3 + i) from by omega]; exact this
set_option maxRecDepth 100000 in
/-- a book -/
theorem open_book {r : Reach} {b0 : Nat} {v : Value} {d : DataW H} {p : List MemPlace} (hv : Value.okWide Try.prog w r b0 39 v) (h : DataW.Trod enc Try.prog w base spare held 39 v d p) :
    ∃ (A : Option Addr) (cap : Nat) (ls : List Ln), v = .slice A ls.length cap ∧ ls.length ≤ maxLen ∧ Arr w w.heap.size A (lines ls) := by
  obtain ⟨a, len, cap0, rfl⟩ := okWide_slice Try.underlying39 hv
  obtain ⟨fuel, hf⟩ := h
  obtain ⟨A, cap, ls, hcs, hl, hA⟩ := open_lines hf
  simp only [Value.cells, List.cons.injEq, and_true] at hcs
  exact ⟨A, cap, ls, hcs, hl, hA⟩
end

theorem clockWrong_any (set : Int) (A L : Option Addr) (cap lcap : Nat) (fs : List Fr) (ls : List Ln) (n : Int) (w : World) (hA : Arr w w.heap.size A (frosts fs)) (hL : Arr w w.heap.size L (lines ls)) (hl : ls.length ≤ 9223372036854775807) :
    Calls Try.prog 10 #[.agg #[.int .i64 set, .slice A fs.length cap], .slice L ls.length lcap, .int .i64 n] w fun e w' => e = .returned (.bool true) ∧ Below w.heap.size w w' := by
  cases ho : Ck.ok ⟨set, fs⟩
  · exact wrong_false set n A L cap lcap fs ls w hA hL hl (.inl ho)
  cases hb : bookB ls
  · exact wrong_false set n A L cap lcap fs ls w hA hL hl (.inr hb)
  obtain ⟨hO, _, _⟩ := okFs_of ho
  obtain ⟨h6, _⟩ := book_of hb
  obtain ⟨wl, hw, hC, hwl, hr, hz, hx⟩ := wrong_law set fs ls hO
  obtain ⟨_, p1, p2⟩ := pow_wrap ls.length h6
  obtain ⟨q1, q2⟩ := windI_range n _ p1
  obtain ⟨s, hs⟩ : ∃ s : Nat, windI n (wrap64 ((2 : Int) ^ ls.length)) = (s : Int) := ⟨(windI n (wrap64 ((2 : Int) ^ ls.length))).toNat, by omega⟩
  have hs100 : s < 100 := by omega
  have HQ := hid (right_yes ho hb)
  have HW := hid (wrong_yes ho hb hw)
  have HR := hid (fun o => right_but o ho hb)
  by_cases c1 : wl.length < (onesL s ls.length).length
  · exact wrong_more set n A L cap lcap fs ls w hA hL h6 ho hb wl _ HQ HW hC (by omega) hz HR (hid hr) s hs100 (hid hs) c1
  by_cases c2 : (onesL s ls.length).length = wl.length
  · cases c3 : lessB (onesL s ls.length) wl
    · exact wrong_last set n A L cap lcap fs ls w hA hL h6 ho hb wl _ HQ HW hC (by omega) hz HR (hid hr) s hs100 (hid hs) (hid c2) c3
    · exact wrong_same set n A L cap lcap fs ls w hA hL h6 ho hb wl _ HQ HW hC (by omega) hz HR (hid hr) s hs100 (hid hs) (hid c2) c3 (hid (hx s (.inr ⟨c2, c3⟩)))
  · exact wrong_less set n A L cap lcap fs ls w hA hL h6 ho hb wl _ HQ HW hC (by omega) hz HR (hid hr) s hs100 (hid hs) (by omega) (hid (hx s (.inl (by omega))))

theorem Try.own : ownKnob Try.prog.godebug = none := by kernel_rfl
theorem Try.laidOut : laidOutB Try.prog = true := by kernel_rfl

set_option maxRecDepth 100000 in
theorem clockWrong_lifted (os : Os) (started : os.Started) (H : Type) (enc : TypeId × Value → H) :
    ReturnsInHanded {} Try.checked os 10 .any (Rows.clockWrongSpec.pre6 enc Try.prog Try.f10 Rows.clockWrongRow.domain false) (Rows.clockWrongSpec.post enc Try.prog Try.f10 false true false false) := by
  refine returnsInHanded_of_change (C := Try.checked) Try.own started (by kernel_rfl) Try.func10
    (ChangeSpec.witness6 (enc := enc) (C := Try.checked) false ⟨#[], #[.agg #[.int .i64 0, .slice none 0 0], .slice none 0 0, .int .i64 0], []⟩ 8 (by kernel_rfl) (by kernel_rfl) (by kernel_rfl) (by kernel_rfl)) ?_
  intro W base args ds gs before hval0 hW hcnd _
  have hval : ∀ (j : Nat) t v, Try.f10.params[j]? = some t → args[j]? = some v → Value.okWide Try.prog W .any base t v := hval0
  have hW' := hW
  obtain ⟨p, q, hA0, hV, rfl, hfz, hnd⟩ := hW
  have hA : DataW.TrodAll enc Try.prog W 0 (fun _ => true) true Try.f10.params.toList args.toList ds p := hA0
  rw [Try.params10] at hA hval
  obtain ⟨v0, v1, v2, d0, d1, d2, p0, p1, p2, rfl, rfl, rfl, h0, h1, h2⟩ := trodAll_three hA
  obtain ⟨rfl, rfl⟩ := trodVars_none hV
  obtain ⟨set, A, cap, fs, rfl, hfs⟩ := open_clock (hval 0 24 v0 rfl rfl) h0
  obtain ⟨L, lcap, ls, rfl, hlen, hls⟩ := open_book (hval 1 39 v1 rfl rfl) h1
  obtain ⟨n, rfl, rfl, rfl, hwf⟩ := open_int Try.underlying3 (hval 2 3 v2 rfl rfl) h2
  clear hA0 hval0
  simp only [List.append_nil] at hW'
  have hlt : ∀ x ∈ p0 ++ p1, x.block < W.heap.size := fun x hx => by simpa using hW'.lt x hx
  refine (clockWrong_any set A L cap lcap fs ls n W hfs hls (by unfold maxLen at hlen; omega)).mono fun e W' ⟨he, hw⟩ => ?_
  subst he
  have k0 := Below.trod Try.laidOut (by kernel_rfl) (of_decide_eq_true (by kernel_rfl)) h0 hw (fun x hx => hlt x (List.mem_append_left _ hx))
  have k1 := Below.trod Try.laidOut (by kernel_rfl) (of_decide_eq_true (by kernel_rfl)) h1 hw (fun x hx => hlt x (List.mem_append_right _ hx))
  have k2 := Below.trod Try.laidOut (by kernel_rfl) (of_decide_eq_true (by kernel_rfl)) h2 hw (fun x hx => by cases hx)
  have k012 := trodAll_mk3 k0 k1 k2
  simp only [List.append_nil] at k012
  exact ⟨_, rfl, _, _, _, [], p0 ++ p1, [], hW', trodAll_mk1 (shut_bool Try.underlying4 _), k012, rfl, hw.frame _, fun h => by cases h⟩

theorem clockWrong_holds : Rows.ClockWrongSaid :=
  OpenClaim.holds_of_wide 10 Try.f10 rfl rfl rfl rfl rfl rfl rfl ⟨rfl, rfl, rfl, rfl, rfl⟩ rfl rfl rfl rfl rfl (by kernel_rfl) Try.func10 (by kernel_rfl)
    (of_decide_eq_true (by kernel_rfl)) (by unfold Func.isWrapper; first | (rw [if_pos (by decide +kernel)]; kernel_rfl) | (rw [if_neg (by decide +kernel)]; exact ⟨rfl, rfl⟩))
    (fun os started H enc _ => clockWrong_lifted os started H enc)
end Go.Proofs.Ytifemcokckgdcaa
