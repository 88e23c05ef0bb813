/-
  Whenever frosts truly began and were over, the clock shows in a minute what lies between what is told, what it shows can mean this minute, and as many minutes passed between two of them as lie between what is told of both readings: for every clock and all numbers the law returns true and leaves its arguments as they were.
  Conditions: none of its own.
-/
import Derived.Test.YtjkajcpanhlbkaaW8
import Derived.Test.YtjkajcpanhlbkaaO
namespace Go.Proofs.Ytjkajcpanhlbkaa
set_option linter.unusedSimpArgs false
set_option linter.unusedVariables false
open Go.ChangeShapes Go.WideShapes Go.ChangeAt Go.RowKit

theorem trueFaces_at (set : Int) (fs : List Fr) (bits : List Int) (ho : Ck.ok ⟨set, fs⟩ = true) (k : Nat) (h : k < (trueFaces set fs bits).length) : (trueFaces set fs bits)[k] = showsT ⟨set, fs⟩ (trulyL fs bits) k := by
  have e : (trueFaces set fs bits)[k] = faceAt set (exactF (trulyL fs bits)) k := facesL_get _ _ _ _ h
  rw [e]
  exact face_shows set fs _ (ord_of fs 0 (chk_of ho) _ (truly_inT fs bits (okFs_of ho).1)) k

theorem clockTrue_any (set : Int) (A Bi : Option Addr) (cap bcap : Nat) (fs : List Fr) (bits : List Int) (n0 n1 : Int) (w : World) (hA : Arr w w.heap.size A (frosts fs)) (hBi : Arr w w.heap.size Bi (ints bits)) (hbl : bits.length ≤ 9223372036854775807) :
    Calls Try.prog 6 #[.agg #[.int .i64 set, .slice A fs.length cap], .agg #[.int .i64 n0, .int .i64 n1], .slice Bi bits.length bcap] w fun e w' => e = .returned (.bool true) ∧ Below w.heap.size w w' := by
  cases ho : Ck.ok ⟨set, fs⟩
  · exact true_false set A Bi cap bcap fs bits n0 n1 w hA ho
  · obtain ⟨p1, p2⟩ := windI_range n0 4320 (by omega)
    obtain ⟨q1, q2⟩ := windI_range n1 4320 (by omega)
    obtain ⟨a, ha⟩ : ∃ a : Nat, (if windI n1 4320 < windI n0 4320 then windI n1 4320 else windI n0 4320) = (a : Int) := ⟨(if windI n1 4320 < windI n0 4320 then windI n1 4320 else windI n0 4320).toNat, by split <;> omega⟩
    obtain ⟨z, hz⟩ : ∃ z : Nat, (if windI n0 4320 < windI n1 4320 then windI n1 4320 else windI n0 4320) = (z : Int) := ⟨(if windI n0 4320 < windI n1 4320 then windI n1 4320 else windI n0 4320).toNat, by split <;> omega⟩
    have haz : a ≤ z := by split at ha <;> split at hz <;> omega
    have hz' : z < 4320 := by split at hz <;> omega
    have hT := truly_inT fs bits (okFs_of ho).1
    have h1 := true_shows ho hT (a := (a : Int)) (by omega)
    have h2 := true_means ho hT (z := (z : Int)) (by omega)
    have h3 := true_passed ho hT (a := (a : Int)) (z := (z : Int)) (by omega) (by omega)
    exact true_core set A Bi cap bcap fs bits n0 n1 w hA hBi hbl ho a z (hid ha) (hid hz) haz hz' (showsT ⟨set, fs⟩ (trulyL fs bits) a) (showsT ⟨set, fs⟩ (trulyL fs bits) z) (hid fun h => trueFaces_at set fs bits ho a h) (hid fun h => trueFaces_at set fs bits ho z h)
      _ _ _ (hid (Prod.ext rfl h1.1)) (hid (Prod.ext rfl h2.1)) (hid (Prod.ext rfl h3.1)) h1.2 h2.2 ⟨h3.2.1, h3.2.2.1⟩ h3.2.2.2

theorem Try.own : ownKnob Try.prog.godebug = none := by kernel_rfl
theorem Try.laidOut : laidOutB Try.prog = true := by kernel_rfl

set_option maxRecDepth 100000 in
theorem clockTrue_lifted (os : Os) (started : os.Started) (H : Type) (enc : TypeId × Value → H) :
    ReturnsInHanded {} Try.checked os 6 .any (Rows.clockTrueSpec.pre6 enc Try.prog Try.f6 Rows.clockTrueRow.domain false) (Rows.clockTrueSpec.post enc Try.prog Try.f6 false true false false) := by
  refine returnsInHanded_of_change (C := Try.checked) Try.own started (by kernel_rfl) Try.func6
    (ChangeSpec.witness6 (enc := enc) (C := Try.checked) false ⟨#[], #[.agg #[.int .i64 0, .slice none 0 0], .agg #[.int .i64 0, .int .i64 0], .slice none 0 0], []⟩ 8 (by kernel_rfl) (by kernel_rfl) (by kernel_rfl) (by kernel_rfl)) ?_
  intro W base args ds gs before hval0 hW hcnd _
  have hval : ∀ (j : Nat) t v, Try.f6.params[j]? = some t → args[j]? = some v → Value.okWide Try.prog W .any base t v := hval0
  have hW' := hW
  obtain ⟨p, q, hA0, hV, rfl, hfz, hnd⟩ := hW
  have hA : DataW.TrodAll enc Try.prog W 0 (fun _ => true) true Try.f6.params.toList args.toList ds p := hA0
  rw [Try.params6] at hA hval
  obtain ⟨v0, v1, v2, d0, d1, d2, p0, p1, p2, rfl, rfl, rfl, h0, h1, h2⟩ := trodAll_three hA
  obtain ⟨rfl, rfl⟩ := trodVars_none hV
  obtain ⟨set, A, cap, fs, rfl, hfs⟩ := open_clock (hval 0 24 v0 rfl rfl) h0
  obtain ⟨n0, n1, rfl⟩ := open_two (hval 1 35 v1 rfl rfl) h1
  obtain ⟨Bi, bcap, bits, rfl, hlen, hbs⟩ := open_bits (hval 2 47 v2 rfl rfl) h2
  clear hA0 hval0
  simp only [List.append_nil] at hW'
  have hlt : ∀ x ∈ p0 ++ (p1 ++ p2), x.block < W.heap.size := fun x hx => by simpa using hW'.lt x (by simpa using hx)
  refine (clockTrue_any set A Bi cap bcap fs bits n0 n1 W hfs hbs (by unfold maxLen at hlen; omega)).mono fun e W' ⟨he, hw⟩ => ?_
  subst he
  have k0 := Below.trod Try.laidOut (by kernel_rfl) (of_decide_eq_true (by kernel_rfl)) h0 hw (fun x hx => hlt x (by simp [hx]))
  have k1 := Below.trod Try.laidOut (by kernel_rfl) (of_decide_eq_true (by kernel_rfl)) h1 hw (fun x hx => hlt x (by simp [hx]))
  have k2 := Below.trod Try.laidOut (by kernel_rfl) (of_decide_eq_true (by kernel_rfl)) h2 hw (fun x hx => hlt x (by simp [hx]))
  have k012 := trodAll_mk3 k0 k1 k2
  exact ⟨_, rfl, _, _, _, [], p0 ++ (p1 ++ p2), [], hW', trodAll_mk1 (shut_bool Try.underlying4 _), k012, rfl, hw.frame _, fun h => by cases h⟩

theorem clockTrue_holds : Rows.ClockTrueSaid :=
  OpenClaim.holds_of_wide 6 Try.f6 rfl rfl rfl rfl rfl rfl rfl ⟨rfl, rfl, rfl, rfl, rfl⟩ rfl rfl rfl rfl rfl (by kernel_rfl) Try.func6 (by kernel_rfl)
    (of_decide_eq_true (by kernel_rfl)) (by unfold Func.isWrapper; first | (rw [if_pos (by decide +kernel)]; kernel_rfl) | (rw [if_neg (by decide +kernel)]; exact ⟨rfl, rfl⟩))
    (fun os started H enc _ => clockTrue_lifted os started H enc)
end Go.Proofs.Ytjkajcpanhlbkaa
