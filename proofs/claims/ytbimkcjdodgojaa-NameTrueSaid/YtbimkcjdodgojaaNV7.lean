/-
 Whoever truly came by, and however names were heard within what an ear can mishear, the true pairs are a truth; two lines that are joined truly are of one person, two that cannot be of one person truly are not; the number of people lies within what is returned; no line must be wrong: for every books and every numbers that choose what was true the law returns true and leaves its arguments as they were.
 Conditions: none of its own.
-/
import Derived.Test.YtbimkcjdodgojaaNcq
import Derived.Test.YtbimkcjdodgojaaNO2
namespace Go.Proofs.Ytbimkcjdodgojaa
set_option linter.unusedSimpArgs false
set_option linter.unusedVariables false
open Go.ChangeShapes Go.WideShapes Go.ChangeAt Go.RowKit

section
open Go.Deep
variable {H : Type} {enc : TypeId × Value → H} {w : World} {base : Nat} {spare : Nat → Bool} {held : Bool} {fuel : Nat}
set_option maxRecDepth 100000 in
/-- a list of numbers -/
theorem open_bits2 {r : Reach} {b0 : Nat} {v : Value} {d : DataW H} {p : List MemPlace} (hv : Value.okWide Try.prog w r b0 36 v) (h : DataW.Trod enc Try.prog w base spare held 36 v d p) :
    ∃ (A : Option Addr) (cap : Nat) (l : List Int), v = .slice A l.length cap ∧ l.length ≤ maxLen ∧ l.length ≤ cap ∧ Arr w w.heap.size A (ints l) := by
 obtain ⟨a, len, cap0, rfl⟩ := okWide_slice Try.underlying36 hv
 obtain ⟨fuel, hf⟩ := h
 simp only [Value.cells] at hf
 rcases open_ints Try.underlying36 Try.underlying3 (by kernel_rfl) hf with ⟨h0, _⟩ | ⟨a', len', cap', zs, hcs, _, hlc, hcm, hzl, _, hz, _⟩
 ·simp only [List.cons.injEq, and_true] at h0
  exact ⟨none, 0, [], h0, by simp, Nat.le_refl _, Arr.nil _ _ _⟩
 ·simp only [List.cons.injEq, and_true] at hcs
  have hll : len' ≤ zs.length := by rw [hzl]; split <;> omega
  refine ⟨some a', cap', zs.take len', by rw [hcs, List.length_take, Nat.min_eq_left hll], by rw [List.length_take]; omega, by rw [List.length_take]; omega, fun hne => ?_⟩
  have hpos : 0 < zs.length := by
   rcases Nat.eq_zero_or_pos zs.length with h0 | h0
   ·rw [List.length_eq_zero_iff.1 h0] at hne; simp [ints] at hne
   ·exact h0
  have h00 := hz 0 hpos
  have e0 : a'.add 0 = a' := by simp [Addr.add]
  rw [e0] at h00
  obtain ⟨hlt, hsp⟩ := cell_lt h00
  obtain ⟨b, o, sp⟩ := a'
  simp only at hsp hlt
  subst hsp
  refine ⟨b, o, rfl, hlt, fun j u hu => ?_⟩
  have hj : j < (zs.take len').length := by
   have h1 := (List.getElem?_eq_some_iff.1 hu).1
   rwa [ints_length] at h1
  have hj2 : j < zs.length := by rw [List.length_take] at hj; omega
  have h1 := hz j hj2
  have h2 : Addr.add ⟨b, o, none⟩ j = ⟨b, o + j, none⟩ := by unfold Addr.add; split <;> simp_all
  rw [h2] at h1
  rw [h1, ← hu]
  simp only [ints, List.getElem?_map, List.getElem?_take]
  rw [if_pos (by rw [List.length_take] at hj; omega), List.getElem?_eq_getElem hj2, List.getD_eq_getElem?_getD, List.getElem?_eq_getElem hj2]
  rfl
end
theorem Try.own : ownKnob Try.prog.godebug = none := by kernel_rfl
theorem Try.laidOut : laidOutB Try.prog = true := by kernel_rfl

set_option maxRecDepth 100000 in
theorem nameTrue_lifted (os : Os) (started : os.Started) (H : Type) (enc : TypeId × Value → H) :
    ReturnsInHanded {} Try.checked os 4 .any (Rows.nameTrueSpec.pre6 enc Try.prog Try.f4 Rows.nameTrueRow.domain false) (Rows.nameTrueSpec.post enc Try.prog Try.f4 false true false false) := by
 refine returnsInHanded_of_change (C := Try.checked) Try.own started (by kernel_rfl) Try.func4
  (ChangeSpec.witness6 (enc := enc) (C := Try.checked) false ⟨#[], #[.agg #[.slice none 0 0, .string ⟨#[]⟩, .int .i64 0, .slice none 0 0, .int .i64 0, .int .i64 0, .int .i64 0], .slice none 0 0], []⟩ 8 (by kernel_rfl) (by kernel_rfl) (by kernel_rfl) (by kernel_rfl)) ?_
 intro W base args ds gs before hval0 hW hcnd _
 have hval : ∀ (j : Nat) t v, Try.f4.params[j]? = some t → args[j]? = some v → Value.okWide Try.prog W .any base t v := hval0
 have hW' := hW
 obtain ⟨p, q, hA0, hV, rfl, hfz, hnd⟩ := hW
 have hA : DataW.TrodAll enc Try.prog W 0 (fun _ => true) true Try.f4.params.toList args.toList ds p := hA0
 rw [Try.params4] at hA hval
 obtain ⟨v0, v1, d0, d1, p0, p1, rfl, rfl, rfl, h0, h1⟩ := trodAll_two hA
 obtain ⟨rfl, rfl⟩ := trodVars_none hV
 obtain ⟨A, cap, L, lcap, b, rfl, hs, hM⟩ := open_nbook (hval 0 35 v0 rfl rfl) h0
 obtain ⟨T, tc, ns, rfl, hn, htc, hT⟩ := open_bits2 (hval 1 36 v1 rfl rfl) h1
 clear hA0 hval0
 simp only [List.append_nil] at hW'
 have hlt : ∀ x ∈ p0 ++ p1, x.block < W.heap.size := fun x hx => by simpa using hW'.lt x hx
 refine (ntrue_any A cap L lcap b T tc ns W hM hs hT (by simpa [maxLen] using hn) htc).mono fun e W' ⟨he, hw⟩ => ?_
 subst he
 have k0 := Below.trod Try.laidOut (by kernel_rfl) (of_decide_eq_true (by kernel_rfl)) h0 hw (fun x hx => hlt x (List.mem_append_left _ hx))
 have k1 := Below.trod Try.laidOut (by kernel_rfl) (of_decide_eq_true (by kernel_rfl)) h1 hw (fun x hx => hlt x (List.mem_append_right _ hx))
 exact ⟨_, rfl, _, _, _, [], p0 ++ p1, [], hW', trodAll_mk1 (shut_bool Try.underlying4 _), trodAll_mk2 k0 k1, rfl, hw.frame _, fun h => by cases h⟩

theorem nameTrue_holds : Rows.NameTrueSaid :=
 OpenClaim.holds_of_wide 4 Try.f4 rfl rfl rfl rfl rfl rfl rfl ⟨rfl, rfl, rfl, rfl, rfl⟩ rfl rfl rfl rfl rfl (by kernel_rfl) Try.func4 (by kernel_rfl)
  (of_decide_eq_true (by kernel_rfl)) (by unfold Func.isWrapper; first | (rw [if_pos (by decide +kernel)]; kernel_rfl) | (rw [if_neg (by decide +kernel)]; exact ⟨rfl, rfl⟩))
  (fun os started H enc _ => nameTrue_lifted os started H enc)
end Go.Proofs.Ytbimkcjdodgojaa
