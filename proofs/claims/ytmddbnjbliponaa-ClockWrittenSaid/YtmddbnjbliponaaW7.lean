/- faces: what a clock shows, minute by minute. -/
import Derived.Test.YtmddbnjbliponaaP8
import Derived.Test.YtmddbnjbliponaaN
import Derived.Test.YtmddbnjbliponaaB2
namespace Go.Proofs.Ytmddbnjbliponaa
set_option linter.unusedSimpArgs false
set_option linter.unusedVariables false
open Go.RowKit
attribute [local go_sem high] cell_set_wr
attribute [local go_sem low] cell_wr frozen_wr
attribute [local go_sem] wr_set wr_drew wr_drewN wr_alloc wr_new

theorem any_take (p : Fr → Bool) (l : List Fr) (k : Nat) (hk : k < l.length) : (l.take (k + 1)).any p = ((l.take k).any p || p l[k]) := by
  rw [List.take_succ_eq_append_getElem hk, List.any_append]; simp
def inFr (m : Int) (f : Fr) : Bool := decide (f.b.lo ≤ m) && decide (m < f.e.lo)

set_option maxRecDepth 100000 in
set_option maxHeartbeats 4000000 in
theorem faces_any (set : Int) (A : Option Addr) (cap : Nat) (fs : List Fr) (w : World) (hA : Arr w w.heap.size A (frosts fs)) (hs : 0 ≤ set ∧ set ≤ 4319) (hl3 : fs.length ≤ 3) :
    Calls Try.prog 36 #[.agg #[.int .i64 set, .slice A fs.length cap]] w fun e w' =>
      (∃ O oc, e = .returned (.slice O 4320 oc) ∧ oc ≤ maxLen ∧ Arr w' w'.heap.size O (ints (facesL set fs 4320))) ∧ Below w.heap.size w w' := by
  have hl3' : (fs.length : Int) ≤ 3 := by omega
  go_enter Try.func36, Try.ntmps36
  go_wp2_with fail
  go_loopw [3, 4, 5] (fun ov fv mv wr => ∃ (m : Nat), m ≤ 4320 ∧ mv = .int .i64 m ∧ fv = .int .i64 (faceAt set fs m) ∧ wr.ownsRow (w.heap.size + 1) 3 1 ov (facesL set fs m).length (ints (facesL set fs m)) ∧
      wr.cell? ⟨w.heap.size, 1, none⟩ = some (.slice A fs.length cap) ∧ w.heap.size + 1 ≤ wr.heap.size ∧ Below w.heap.size w wr) (fun _ _ mv _ => 4320 - (intOf mv).toNat)
  case atStart => exact ⟨0, by omega, by simp, by simp [faceAt], own_nil _ _ _ _, by simp [go_sem], by simp, by (repeat' (first | (with_reducible exact Below.refl _ _) | (with_reducible assumption) | (with_reducible refine Below.drew ?_) | (with_reducible refine below_drewN ?_ _) | (with_reducible refine Below.setCell ?_ ?_ _) | (with_reducible refine Below.alloc ?_ ?_ _) | go_size | (exact Below.size (by assumption)) | (refine Below.trans ?_ (Below.mono (by assumption) ?_))))⟩
  case round =>
    obtain ⟨m, hm, rfl, rfl, hown, hc1, hz, hB⟩ := hrel
    have hfl := facesL_length set fs m
    obtain ⟨fb1, fb2⟩ := faceAt_bd set fs m
    by_cases hlt : m < 4320
    · have hlt' : (m : Int) ≤ 4319 := by omega
      have hAw := hA.below hB
      have HS := hid (facesL_snoc set fs m)
      have HF : Hid (faceAt set fs (m + 1) = if standsB fs m then faceAt set fs m else faceAt set fs m + 1) := hid rfl
      have HSt : Hid (standsB fs m = fs.any (inFr m)) := hid rfl
      generalize faceAt set fs m = fa at *
      go_wp2_with (at_builtin; refine wpList_app1 rfl _ _ 47 rfl (w.heap.size + 1) 3 _ 1 8 Try.underlying47 info_int rfl (by omega) _ _ _ rfl hown _ rfl rfl (by simp [Value.oneCell']) (by unfold maxLen; omega) (by omega) hz ?_; intro A1 cap1 w1 hcap1 hcap1' hown1 hb1 hg1)
      have hc1' : w1.cell? ⟨w.heap.size, 1, none⟩ = some (.slice A fs.length cap) := (hb1.cell (by simp only; omega)).trans hc1
      have hA1 := hAw.below (hb1.mono (by omega))
      have hz1 := hb1.size
      clear hc1 hAw hA
      go_loop [6, 7] (fun sv iv => ∃ k : Nat, k ≤ fs.length ∧ iv = .int .i64 k ∧ sv = .bool ((fs.take k).any (inFr m))) (fun _ iv => fs.length - (intOf iv).toNat)
      case atStart => exact ⟨0, Nat.zero_le _, by simp, by simp⟩
      case round =>
        obtain ⟨k, hk, rfl, rfl⟩ := hrel
        by_cases hkl : k < fs.length
        · obtain ⟨b, o, rfl, hb, c0, c1, c2, c3⟩ := hA1.fr hkl
          have HT := hid (any_take (inFr m) fs k hkl)
          have hk1 : k + 1 ≤ fs.length := hkl
          have hkI : (k : Int) < fs.length := by omega
          generalize fs[k] = g at *
          generalize (fs.take k).any (inFr m) = st at *
          cases st
          · by_cases h1 : g.b.lo ≤ m
            · have t1 : decide (g.b.lo ≤ (m : Int)) = true := decide_eq_true h1
              by_cases h2 : (m : Int) < g.e.lo
              · have t2 : decide ((m : Int) < g.e.lo) = true := decide_eq_true h2
                have HI : Hid (inFr m g = true) := hid (by simp [inFr, h1, h2])
                go_wp2
                exact ⟨⟨k + 1, hk1, by go_num, by rw [HT.out, HI.out]; rfl⟩, by simp [intOf]; omega⟩
              · have t2 : decide ((m : Int) < g.e.lo) = false := decide_eq_false h2
                have HI : Hid (inFr m g = false) := hid (by simp [inFr, h2])
                go_wp2
                exact ⟨⟨k + 1, hk1, by go_num, by rw [HT.out, HI.out]; rfl⟩, by simp [intOf]; omega⟩
            · have t1 : decide (g.b.lo ≤ (m : Int)) = false := decide_eq_false h1
              have HI : Hid (inFr m g = false) := hid (by simp [inFr, h1])
              go_wp2
              exact ⟨⟨k + 1, hk1, by go_num, by rw [HT.out, HI.out]; rfl⟩, by simp [intOf]; omega⟩
          · go_wp2
            exact ⟨⟨k + 1, hk1, by go_num, by rw [HT.out]; rfl⟩, by simp [intOf]; omega⟩
        · obtain rfl : k = fs.length := by omega
          rw [List.take_length, ← HSt.out]
          have e1 : (facesL set fs (m + 1)).length = (facesL set fs m).length + 1 := by rw [HS.out]; simp
          have e2 : ints (facesL set fs (m + 1)) = ints (facesL set fs m) ++ [.int .i64 fa] := by rw [HS.out]; simp [ints]
          have HE := hid (And.intro e1 e2)
          clear e1 e2
          cases hst : standsB fs m
          · have HFF : Hid (faceAt set fs (m + 1) = fa + 1) := hid (by rw [HF.out, hst]; rfl)
            clear hst
            go_wp2
            refine ⟨⟨m + 1, by omega, by go_num, by rw [HFF.out], ?_, hc1', by omega, hB.trans (hb1.mono (by omega))⟩, by simp [intOf]; omega⟩
            rw [HE.out.1, HE.out.2]
            simpa [hfl] using hown1
          · have HFF : Hid (faceAt set fs (m + 1) = fa) := hid (by rw [HF.out, hst]; rfl)
            clear hst
            go_wp2
            refine ⟨⟨m + 1, by omega, by go_num, by rw [HFF.out], ?_, hc1', by omega, hB.trans (hb1.mono (by omega))⟩, by simp [intOf]; omega⟩
            rw [HE.out.1, HE.out.2]
            simpa [hfl] using hown1
    · obtain rfl : m = 4320 := by omega
      go_wp2
      go_ret
      obtain ⟨O, oc, rfl, _, hocm, hOA⟩ := own_form hown
      exact ⟨⟨O, oc, by rw [hfl]; rfl, hocm, hOA⟩, hB⟩
end Go.Proofs.Ytmddbnjbliponaa
