/-
  Both ends of what the clock shows are so in a truth: if all frosts were as long as they can be, or as short; what is told never gets less from a minute to the next one, and by one at most more; a reading is meant by just the minutes from the first one, in which it can be shown, to the last one: for every clock and number the law returns true and leaves its arguments as they were.
  Conditions: none of its own.
-/
import Derived.Test.YtjkajcpanhlbkaaW12
import Derived.Test.YtjkajcpanhlbkaaO
namespace Go.Proofs.Ytjkajcpanhlbkaa
set_option linter.unusedSimpArgs false
set_option linter.unusedVariables false
open Go.ChangeShapes Go.WideShapes Go.ChangeAt Go.RowKit

theorem endFaces_at (set : Int) (fs : List Fr) (long : Bool) (ho : Ck.ok ⟨set, fs⟩ = true) (k : Nat) (h : k < (endFaces set fs long).length) : (endFaces set fs long)[k] = showsT ⟨set, fs⟩ (endsL fs long) k := by
  have e : (endFaces set fs long)[k] = faceAt set (exactF (endsL fs long)) k := facesL_get _ _ _ _ h
  rw [e]
  exact face_shows set fs _ (ord_of fs 0 (chk_of ho) _ (ends_inT fs (okFs_of ho).1 long)) k

theorem clockEnds_any (set : Int) (A : Option Addr) (cap : Nat) (fs : List Fr) (n : Int) (w : World) (hA : Arr w w.heap.size A (frosts fs)) :
    Calls Try.prog 7 #[.agg #[.int .i64 set, .slice A fs.length cap], .int .i64 n] w fun e w' => e = .returned (.bool true) ∧ Below w.heap.size w w' := by
  cases ho : Ck.ok ⟨set, fs⟩
  · exact ends_false set A cap fs n w hA ho
  · obtain ⟨p1, p2⟩ := windI_range n 4319 (by omega)
    obtain ⟨m, hm⟩ : ∃ m : Nat, windI n 4319 = (m : Int) := ⟨(windI n 4319).toNat, by omega⟩
    have hI := fun b => ends_inT fs (okFs_of ho).1 b
    have hS := ends_shows ho (m := (m : Int)) (by omega)
    have hN := ends_shows ho (m := (m : Int) + 1) (by omega)
    obtain ⟨⟨T, e1, t1, t2, t3, t4, t5, t6⟩, ⟨U, e2, u1, u2, u3, u4, u5, u6⟩⟩ := ends_means ho (m := (m : Int)) (by omega)
    have b1 := shown_bd (fs := fs) (ok_set ho) (ord_of fs 0 (chk_of ho) _ (hI true)) (m := (m : Int)) (by omega)
    have b2 := shown_bd (fs := fs) (ok_set ho) (ord_of fs 0 (chk_of ho) _ (hI false)) (m := (m : Int)) (by omega)
    obtain ⟨tlo, th⟩ := T
    obtain ⟨ul, uhi⟩ := U
    simp only at t1 t2 t3 t4 t5 t6 u1 u2 u3 u4 u5 u6
    obtain ⟨tl, rfl⟩ : ∃ tl : Nat, tlo = (tl : Int) := ⟨tlo.toNat, by omega⟩
    obtain ⟨uh, rfl⟩ : ∃ uh : Nat, uhi = (uh : Int) := ⟨uhi.toNat, by omega⟩
    refine ends_core set A cap fs n w hA ho m (hid hm) (by omega) _ _ _ _ (hid hS) (hid hN) ⟨b1.1, b1.2, b2.1, b2.2⟩ (ends_next (hI true) ho m) (ends_next (hI false) ho m)
      (hid fun h => endFaces_at set fs true ho m h) (hid fun h => endFaces_at set fs false ho m h) tl uh th ul (hid e1) (hid e2) ⟨by omega, t4, t2⟩ ⟨u1, u3, by omega, by omega⟩
      (hid fun h => (endFaces_at set fs false ho tl h).trans t5) (hid fun h => (endFaces_at set fs true ho uh h).trans u5)
      (tl - 1) (uh + 1) (showsT ⟨set, fs⟩ (endsL fs false) ((tl : Int) - 1)) (showsT ⟨set, fs⟩ (endsL fs true) ((uh : Int) + 1)) ?_ ?_ (hid ?_) (hid ?_)
    · rcases t6 with h | h
      · exact .inl (by omega)
      · by_cases c : tl = 0
        · exact .inl c
        · exact .inr ⟨by omega, h⟩
    · rcases u6 with h | h
      · exact .inl (by omega)
      · by_cases c : uh = 4319
        · exact .inl c
        · exact .inr ⟨rfl, by omega, h⟩
    · by_cases c : tl = 0
      · exact .inl c
      · refine .inr fun h => ?_
        rw [endFaces_at set fs false ho (tl - 1) h]
        congr 1
        omega
    · refine .inr fun h => ?_
      rw [endFaces_at set fs true ho (uh + 1) h]
      rfl

theorem Try.own : ownKnob Try.prog.godebug = none := by kernel_rfl
theorem Try.laidOut : laidOutB Try.prog = true := by kernel_rfl

set_option maxRecDepth 100000 in
theorem clockEnds_lifted (os : Os) (started : os.Started) (H : Type) (enc : TypeId × Value → H) :
    ReturnsInHanded {} Try.checked os 7 .any (Rows.clockEndsSpec.pre6 enc Try.prog Try.f7 Rows.clockEndsRow.domain false) (Rows.clockEndsSpec.post enc Try.prog Try.f7 false true false false) := by
  refine returnsInHanded_of_change (C := Try.checked) Try.own started (by kernel_rfl) Try.func7
    (ChangeSpec.witness6 (enc := enc) (C := Try.checked) false ⟨#[], #[.agg #[.int .i64 0, .slice none 0 0], .int .i64 0], []⟩ 8 (by kernel_rfl) (by kernel_rfl) (by kernel_rfl) (by kernel_rfl)) ?_
  intro W base args ds gs before hval0 hW hcnd _
  have hval : ∀ (j : Nat) t v, Try.f7.params[j]? = some t → args[j]? = some v → Value.okWide Try.prog W .any base t v := hval0
  have hW' := hW
  obtain ⟨p, q, hA0, hV, rfl, hfz, hnd⟩ := hW
  have hA : DataW.TrodAll enc Try.prog W 0 (fun _ => true) true Try.f7.params.toList args.toList ds p := hA0
  rw [Try.params7] at hA hval
  obtain ⟨v0, v1, d0, d1, p0, p1, rfl, rfl, rfl, h0, h1⟩ := trodAll_two hA
  obtain ⟨rfl, rfl⟩ := trodVars_none hV
  obtain ⟨set, A, cap, fs, rfl, hfs⟩ := open_clock (hval 0 24 v0 rfl rfl) h0
  obtain ⟨n, rfl, rfl, rfl, hwf⟩ := open_int Try.underlying3 (hval 1 3 v1 rfl rfl) h1
  clear hA0 hval0
  simp only [List.append_nil] at hW'
  have hlt : ∀ x ∈ p0, x.block < W.heap.size := fun x hx => by simpa using hW'.lt x (by simpa using hx)
  refine (clockEnds_any set A cap fs n W hfs).mono fun e W' ⟨he, hw⟩ => ?_
  subst he
  have k0 := Below.trod Try.laidOut (by kernel_rfl) (of_decide_eq_true (by kernel_rfl)) h0 hw hlt
  have k1 := Below.trod Try.laidOut (by kernel_rfl) (of_decide_eq_true (by kernel_rfl)) h1 hw (fun x hx => by cases hx)
  have k01 := trodAll_mk2 k0 k1
  simp only [List.append_nil] at k01
  exact ⟨_, rfl, _, _, _, [], p0, [], hW', trodAll_mk1 (shut_bool Try.underlying4 _), k01, rfl, hw.frame _, fun h => by cases h⟩

theorem clockEnds_holds : Rows.ClockEndsSaid :=
  OpenClaim.holds_of_wide 7 Try.f7 rfl rfl rfl rfl rfl rfl rfl ⟨rfl, rfl, rfl, rfl, rfl⟩ rfl rfl rfl rfl rfl (by kernel_rfl) Try.func7 (by kernel_rfl)
    (of_decide_eq_true (by kernel_rfl)) (by unfold Func.isWrapper; first | (rw [if_pos (by decide +kernel)]; kernel_rfl) | (rw [if_neg (by decide +kernel)]; exact ⟨rfl, rfl⟩))
    (fun os started H enc _ => clockEnds_lifted os started H enc)
end Go.Proofs.Ytjkajcpanhlbkaa
