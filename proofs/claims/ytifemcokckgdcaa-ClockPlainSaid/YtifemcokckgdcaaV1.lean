/-
  A clock without frosts shows each reading in one minute, and as much time passed between two lines as their readings differ; with frosts a reading means no sooner minute, and no less passed: for every clock and all numbers the law returns true and leaves its arguments as they were.
  Conditions: none of its own.
-/
import Derived.Test.YtifemcokckgdcaaW6
import Derived.Test.YtifemcokckgdcaaO
namespace Go.Proofs.Ytifemcokckgdcaa
set_option linter.unusedSimpArgs false
set_option linter.unusedVariables false
open Go.ChangeShapes Go.WideShapes Go.ChangeAt Go.RowKit

theorem clockPlain_any (set : Int) (A : Option Addr) (cap : Nat) (fs : List Fr) (n0 n1 : Int) (w : World) (hA : Arr w w.heap.size A (frosts fs)) :
    Calls Try.prog 12 #[.agg #[.int .i64 set, .slice A fs.length cap], .agg #[.int .i64 n0, .int .i64 n1]] w fun e w' => e = .returned (.bool true) ∧ Below w.heap.size w w' := by
  cases ho : Ck.ok ⟨set, fs⟩
  · exact plain_false set A cap fs n0 n1 w hA ho
  · obtain ⟨p1, p2⟩ := windI_range n0 4320 (by omega)
    obtain ⟨q1, q2⟩ := windI_range n1 4320 (by omega)
    obtain ⟨a, ha⟩ : ∃ a, (if windI n1 4320 < windI n0 4320 then windI n1 4320 else windI n0 4320) = a := ⟨_, rfl⟩
    obtain ⟨z, hz⟩ : ∃ z, (if windI n0 4320 < windI n1 4320 then windI n1 4320 else windI n0 4320) = z := ⟨_, rfl⟩
    have haz : 0 ≤ a ∧ a ≤ z := by rw [← ha, ← hz]; split <;> split <;> omega
    have hz' : 0 ≤ z ∧ z ≤ 4319 := by rw [← hz]; split <;> omega
    obtain ⟨h1, h2, _⟩ := frost_shows set a fs ho ⟨haz.1, by omega⟩
    have h3 := frost_means set z fs ho hz'
    have h4 := frost_passed set a z fs ho haz hz'.2
    refine plain_core set A cap fs n0 n1 w hA ho a z (hid ha) (hid hz) haz hz' (pShowsR ⟨set, fs⟩ a).1 (pMeansR ⟨set, fs⟩ (set + z)).1 (pPassedR ⟨set, fs⟩ (set + a) (set + z)).1 (pMeansR ⟨set, fs⟩ (set + z)).2 (pPassedR ⟨set, fs⟩ (set + a) (set + z)).2
      (hid (Prod.ext rfl h1)) (hid rfl) (hid rfl) h2 ?_
    rcases h3 with ⟨e1, e2⟩ | ⟨e1, e2⟩
    · refine .inl ⟨e1, e2, ?_⟩
      rcases h4 with e3 | ⟨e3, e4, e5⟩
      · exact .inr e3
      · exact .inl ⟨e3, e4, e5⟩
    · exact .inr ⟨e1, e2 a haz.1 haz.2⟩

theorem Try.own : ownKnob Try.prog.godebug = none := by kernel_rfl
theorem Try.laidOut : laidOutB Try.prog = true := by kernel_rfl

set_option maxRecDepth 100000 in
theorem clockPlain_lifted (os : Os) (started : os.Started) (H : Type) (enc : TypeId × Value → H) :
    ReturnsInHanded {} Try.checked os 12 .any (Rows.clockPlainSpec.pre6 enc Try.prog Try.f12 Rows.clockPlainRow.domain false) (Rows.clockPlainSpec.post enc Try.prog Try.f12 false true false false) := by
  refine returnsInHanded_of_change (C := Try.checked) Try.own started (by kernel_rfl) Try.func12
    (ChangeSpec.witness6 (enc := enc) (C := Try.checked) false ⟨#[], #[.agg #[.int .i64 0, .slice none 0 0], .agg #[.int .i64 0, .int .i64 0]], []⟩ 8 (by kernel_rfl) (by kernel_rfl) (by kernel_rfl) (by kernel_rfl)) ?_
  intro W base args ds gs before hval0 hW hcnd _
  have hval : ∀ (j : Nat) t v, Try.f12.params[j]? = some t → args[j]? = some v → Value.okWide Try.prog W .any base t v := hval0
  have hW' := hW
  obtain ⟨p, q, hA0, hV, rfl, hfz, hnd⟩ := hW
  have hA : DataW.TrodAll enc Try.prog W 0 (fun _ => true) true Try.f12.params.toList args.toList ds p := hA0
  rw [Try.params12] at hA hval
  obtain ⟨v0, v1, d0, d1, p0, p1, rfl, rfl, rfl, h0, h1⟩ := trodAll_two hA
  obtain ⟨rfl, rfl⟩ := trodVars_none hV
  obtain ⟨set, A, cap, fs, rfl, hfs⟩ := open_clock (hval 0 24 v0 rfl rfl) h0
  obtain ⟨n0, n1, rfl⟩ := open_two (hval 1 35 v1 rfl rfl) h1
  clear hA0 hval0
  simp only [List.append_nil] at hW'
  have hlt : ∀ x ∈ p0 ++ p1, x.block < W.heap.size := fun x hx => by simpa using hW'.lt x hx
  refine (clockPlain_any set A cap fs n0 n1 W hfs).mono fun e W' ⟨he, hw⟩ => ?_
  subst he
  have k0 := Below.trod Try.laidOut (by kernel_rfl) (of_decide_eq_true (by kernel_rfl)) h0 hw (fun x hx => hlt x (List.mem_append_left _ hx))
  have k1 := Below.trod Try.laidOut (by kernel_rfl) (of_decide_eq_true (by kernel_rfl)) h1 hw (fun x hx => hlt x (List.mem_append_right _ hx))
  exact ⟨_, rfl, _, _, _, [], p0 ++ p1, [], hW', trodAll_mk1 (shut_bool Try.underlying4 _), trodAll_mk2 k0 k1, rfl, hw.frame _, fun h => by cases h⟩

theorem clockPlain_holds : Rows.ClockPlainSaid :=
  OpenClaim.holds_of_wide 12 Try.f12 rfl rfl rfl rfl rfl rfl rfl ⟨rfl, rfl, rfl, rfl, rfl⟩ rfl rfl rfl rfl rfl (by kernel_rfl) Try.func12 (by kernel_rfl)
    (of_decide_eq_true (by kernel_rfl)) (by unfold Func.isWrapper; first | (rw [if_pos (by decide +kernel)]; kernel_rfl) | (rw [if_neg (by decide +kernel)]; exact ⟨rfl, rfl⟩))
    (fun os started H enc _ => clockPlain_lifted os started H enc)
end Go.Proofs.Ytifemcokckgdcaa
