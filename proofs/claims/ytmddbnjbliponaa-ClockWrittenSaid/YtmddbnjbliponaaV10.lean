/-
  Whatever minutes the lines of a book truly had, if they were written in their order, the book can be right, each line was in a minute that is told of it, the clock stood still for as long as lies between what is told, and no line must be wrong: for every clock and all numbers the law returns true and leaves its arguments as they were.
  Conditions: none of its own.
-/
import Derived.Test.YtmddbnjbliponaaW16
import Derived.Test.YtmddbnjbliponaaO2
namespace Go.Proofs.Ytmddbnjbliponaa
set_option linter.unusedSimpArgs false
set_option linter.unusedVariables false
open Go.ChangeShapes Go.WideShapes Go.ChangeAt Go.RowKit
attribute [local go_sem high] cell_set_wr
attribute [local go_sem low] cell_wr frozen_wr
attribute [local go_sem] wr_set wr_drew wr_drewN wr_alloc wr_new

set_option maxRecDepth 100000 in
set_option maxHeartbeats 4000000 in
theorem written_false (set : Int) (A Bi S : Option Addr) (cap bcap scap : Nat) (fs : List Fr) (bits steps : List Int) (w : World) (hA : Arr w w.heap.size A (frosts fs)) (ho : Ck.ok ⟨set, fs⟩ = false) :
    Calls Try.prog 8 #[.agg #[.int .i64 set, .slice A fs.length cap], .slice Bi bits.length bcap, .slice S steps.length scap] w fun e w' => e = .returned (.bool true) ∧ Below w.heap.size w w' := by
  have HO := hid ho
  go_enter Try.func8, Try.ntmps8
  go_wp2_with (first
    | (go_at_call 35; refine (sound_any set A cap fs _ ?_).mono ?_; (focus (refine (hA.below ?_).more ?_; (repeat' (first | (with_reducible exact Below.refl _ _) | (with_reducible assumption) | (with_reducible refine Below.drew ?_) | (with_reducible refine below_drewN ?_ _) | (with_reducible refine Below.setCell ?_ ?_ _) | (with_reducible refine Below.alloc ?_ ?_ _) | go_size | (exact Below.size (by assumption)) | (refine Below.trans ?_ (Below.mono (by assumption) ?_)))))); rw [HO.out]; rintro e w1 ⟨rfl, hb1⟩; (first | replace hb1 := Below.un1 hb1 | replace hb1 := Below.un2 hb1 | skip); obtain ⟨hc1, hf1, hl1, hm1, hw1⟩ := bcell hb1; have hz1 := hb1.size; (try simp only [World.size_alloc, World.size_setCell] at hz1))
    | (go_at_call 22; refine (ticks_any _).mono ?_; rintro e w2 ⟨rfl, hb2⟩; (first | replace hb2 := Below.un1 hb2 | replace hb2 := Below.un2 hb2 | skip); obtain ⟨hc2, hf2, hl2, hm2, hw2⟩ := bcell hb2; have hz2 := hb2.size; (try simp only [World.size_alloc, World.size_setCell] at hz2)))
  go_ret
  exact ⟨rfl, by (repeat' (first | (with_reducible exact Below.refl _ _) | (with_reducible assumption) | (with_reducible refine Below.drew ?_) | (with_reducible refine below_drewN ?_ _) | (with_reducible refine Below.setCell ?_ ?_ _) | (with_reducible refine Below.alloc ?_ ?_ _) | go_size | (exact Below.size (by assumption)) | (refine Below.trans ?_ (Below.mono (by assumption) ?_))))⟩

theorem clockWritten_any (set : Int) (A Bi S : Option Addr) (cap bcap scap : Nat) (fs : List Fr) (bits steps : List Int) (w : World) (hA : Arr w w.heap.size A (frosts fs)) (hBi : Arr w w.heap.size Bi (ints bits)) (hS : Arr w w.heap.size S (ints steps)) (hn : bits.length ≤ 9223372036854775807) (hsn : steps.length ≤ 9223372036854775807) :
    Calls Try.prog 8 #[.agg #[.int .i64 set, .slice A fs.length cap], .slice Bi bits.length bcap, .slice S steps.length scap] w fun e w' => e = .returned (.bool true) ∧ Below w.heap.size w w' := by
  cases ho : Ck.ok ⟨set, fs⟩
  · exact written_false set A Bi S cap bcap scap fs bits steps w hA ho
  · exact written_yes set A Bi S cap bcap scap fs bits steps w hA hBi hS ho hn hsn

theorem Try.own : ownKnob Try.prog.godebug = none := by kernel_rfl
theorem Try.laidOut : laidOutB Try.prog = true := by kernel_rfl

set_option maxRecDepth 100000 in
theorem clockWritten_lifted (os : Os) (started : os.Started) (H : Type) (enc : TypeId × Value → H) :
    ReturnsInHanded {} Try.checked os 8 .any (Rows.clockWrittenSpec.pre6 enc Try.prog Try.f8 Rows.clockWrittenRow.domain false) (Rows.clockWrittenSpec.post enc Try.prog Try.f8 false true false false) := by
  refine returnsInHanded_of_change (C := Try.checked) Try.own started (by kernel_rfl) Try.func8
    (ChangeSpec.witness6 (enc := enc) (C := Try.checked) false ⟨#[], #[.agg #[.int .i64 0, .slice none 0 0], .slice none 0 0, .slice none 0 0], []⟩ 8 (by kernel_rfl) (by kernel_rfl) (by kernel_rfl) (by kernel_rfl)) ?_
  intro W base args ds gs before hval0 hW hcnd _
  have hval : ∀ (j : Nat) t v, Try.f8.params[j]? = some t → args[j]? = some v → Value.okWide Try.prog W .any base t v := hval0
  have hW' := hW
  obtain ⟨p, q, hA0, hV, rfl, hfz, hnd⟩ := hW
  have hA : DataW.TrodAll enc Try.prog W 0 (fun _ => true) true Try.f8.params.toList args.toList ds p := hA0
  rw [Try.params8] at hA hval
  obtain ⟨v0, v1, v2, d0, d1, d2, p0, p1, p2, rfl, rfl, rfl, h0, h1, h2⟩ := trodAll_three hA
  obtain ⟨rfl, rfl⟩ := trodVars_none hV
  obtain ⟨set, A, cap, fs, rfl, hfs⟩ := open_clock (hval 0 24 v0 rfl rfl) h0
  obtain ⟨Bi, bcap, bits, rfl, hlen, hbs⟩ := open_bits (hval 1 47 v1 rfl rfl) h1
  obtain ⟨S, scap, steps, rfl, hlen2, hss⟩ := open_bits (hval 2 47 v2 rfl rfl) h2
  clear hA0 hval0
  simp only [List.append_nil] at hW'
  have hlt : ∀ x ∈ p0 ++ (p1 ++ p2), x.block < W.heap.size := fun x hx => by simpa using hW'.lt x (by simpa using hx)
  refine (clockWritten_any set A Bi S cap bcap scap fs bits steps W hfs hbs hss (by unfold maxLen at hlen; omega) (by unfold maxLen at hlen2; omega)).mono fun e W' ⟨he, hw⟩ => ?_
  subst he
  have k0 := Below.trod Try.laidOut (by kernel_rfl) (of_decide_eq_true (by kernel_rfl)) h0 hw (fun x hx => hlt x (by simp [hx]))
  have k1 := Below.trod Try.laidOut (by kernel_rfl) (of_decide_eq_true (by kernel_rfl)) h1 hw (fun x hx => hlt x (by simp [hx]))
  have k2 := Below.trod Try.laidOut (by kernel_rfl) (of_decide_eq_true (by kernel_rfl)) h2 hw (fun x hx => hlt x (by simp [hx]))
  have k012 := trodAll_mk3 k0 k1 k2
  exact ⟨_, rfl, _, _, _, [], p0 ++ (p1 ++ p2), [], hW', trodAll_mk1 (shut_bool Try.underlying4 _), k012, rfl, hw.frame _, fun h => by cases h⟩

theorem clockWritten_holds : Rows.ClockWrittenSaid :=
  OpenClaim.holds_of_wide 8 Try.f8 rfl rfl rfl rfl rfl rfl rfl ⟨rfl, rfl, rfl, rfl, rfl⟩ rfl rfl rfl rfl rfl (by kernel_rfl) Try.func8 (by kernel_rfl)
    (of_decide_eq_true (by kernel_rfl)) (by unfold Func.isWrapper; first | (rw [if_pos (by decide +kernel)]; kernel_rfl) | (rw [if_neg (by decide +kernel)]; exact ⟨rfl, rfl⟩))
    (fun os started H enc _ => clockWritten_lifted os started H enc)
end Go.Proofs.Ytmddbnjbliponaa
