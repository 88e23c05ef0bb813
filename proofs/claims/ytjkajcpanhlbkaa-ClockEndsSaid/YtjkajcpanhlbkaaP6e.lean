/- A reach is widened to a span. -/
import Derived.Test.YtjkajcpanhlbkaaP6c
import Derived.Test.YtjkajcpanhlbkaaP6d
namespace Go.Proofs.Ytjkajcpanhlbkaa
set_option linter.unusedSimpArgs false
set_option linter.unusedVariables false
open Go.RowKit
attribute [local go_sem high] cell_set_wr
attribute [local go_sem low] cell_wr frozen_wr
attribute [local go_sem] wr_set wr_drew wr_drewN wr_alloc wr_new

set_option maxRecDepth 100000 in
set_option maxHeartbeats 4000000 in
theorem add_at (rb ro : Nat) (r : Rc) (lo hi : Int) (w : World) (hR : RBoxO w rb ro r) :
    Calls Try.prog 68 #[.pointer (some ⟨rb, ro, none⟩), .agg #[.int .i64 lo, .int .i64 hi]] w fun e w' => (∃ v, e = .returned v) ∧ RBoxO w' rb ro (r.add ⟨lo, hi⟩) ∧ ButO rb ro w w' := by
  have hlt := hR.lt
  have hR0 := hR
  obtain ⟨c0, c1, c2, fz⟩ := hR
  have z0 := fz ro
  have z1 := fz (ro + 1)
  have z2 := fz (ro + 2)
  by_cases h : hi < lo
  · have HA : Hid (r.add ⟨lo, hi⟩ = r) := hid (if_pos h)
    go_enter Try.func68, Try.ntmps68
    go_wp2_with (go_at_call 92; refine (isEmpty_any _ _ _).mono ?_; rintro e w1 ⟨rfl, hb1⟩; (first | replace hb1 := Below.un1 hb1 | replace hb1 := Below.un2 hb1 | skip); obtain ⟨hc1, hf1, hl1, hm1, hw1⟩ := bcell hb1; have hz1 := hb1.size; (try simp only [World.size_alloc, World.size_setCell] at hz1))
    go_end0
    refine ⟨⟨_, rfl⟩, ?_, ((ButO.refl hlt).alloc _).and hb1⟩
    rw [HA.out]
    exact (hR0.below ((Below.refl w.heap.size w).alloc (Nat.le_refl _) (.cells #[.int .i64 lo, .int .i64 hi] 27)) hlt).below hb1 (by simp; omega)
  · have hle : lo ≤ hi := by omega
    cases ha : r.any
    · go_enter Try.func68, Try.ntmps68
      go_wp2_with (go_at_call 92; refine (isEmpty_any _ _ _).mono ?_; rintro e w1 ⟨rfl, hb1⟩; (first | replace hb1 := Below.un1 hb1 | replace hb1 := Below.un2 hb1 | skip); obtain ⟨hc1, hf1, hl1, hm1, hw1⟩ := bcell hb1; have hz1 := hb1.size; (try simp only [World.size_alloc, World.size_setCell] at hz1))
      go_end0
      have HA : r.add ⟨lo, hi⟩ = ⟨lo, hi, true⟩ := by unfold Rc.add; rw [if_neg (by simp only; omega), if_neg (by simp [ha])]
      refine ⟨⟨_, rfl⟩, ?_, (((((ButO.refl hlt).alloc _).and hb1).set _ _).set _ _).set _ _⟩
      rw [HA]
      have hR1 := (hR0.below ((Below.refl w.heap.size w).alloc (Nat.le_refl _) (.cells #[.int .i64 lo, .int .i64 hi] 27)) hlt).below hb1 (by simp; omega)
      exact hR1.put lo hi true
    · by_cases hmin : lo < r.lo
      · exact add_yes rb ro r lo hi w hR0 hle ha hmin
      · exact add_no rb ro r lo hi w hR0 hle ha hmin

theorem add_any (rb : Nat) (r : Rc) (lo hi : Int) (w : World) (hR : RBox w rb r) :
    Calls Try.prog 68 #[.pointer (some ⟨rb, 0, none⟩), .agg #[.int .i64 lo, .int .i64 hi]] w fun e w' => (∃ v, e = .returned v) ∧ RBox w' rb (r.add ⟨lo, hi⟩) ∧ But rb w w' := by
  refine (add_at rb 0 r lo hi w ⟨hR.c0, hR.c1, hR.c2, hR.fz⟩).mono ?_
  rintro e w' ⟨h1, h2, h3⟩
  exact ⟨h1, ⟨h2.c0, h2.c1, h2.c2, h2.fz⟩, h3.but⟩
end Go.Proofs.Ytjkajcpanhlbkaa
