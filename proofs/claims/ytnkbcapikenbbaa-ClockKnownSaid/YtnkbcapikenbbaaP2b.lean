/- What a dial tells of what is asked. -/
import Derived.Test.YtnkbcapikenbbaaP2
namespace Go.Proofs.Ytnkbcapikenbbaa
set_option linter.unusedSimpArgs false
set_option linter.unusedVariables false
open Go.RowKit
attribute [local go_sem high] cell_set_wr
attribute [local go_sem low] cell_wr frozen_wr
attribute [local go_sem] wr_set wr_drew wr_drewN wr_alloc wr_new
attribute [local go_sem high] eq_when idx0 idx1 idx2 eq_frost tab0 tab1 tab2

set_option maxRecDepth 100000 in
set_option maxHeartbeats 4000000 in
theorem dTell0_any (set : Int) (F : Option Addr) (fl fc : Nat) (f0 f1 f2 : Sp) (ask klo khi : Int) (w : World) (hs : 0 ≤ set ∧ set ≤ 4319) (hD : OkD [f0, f1, f2]) (ha : 0 ≤ ask ∧ ask ≤ 4320) :
    Calls Try.prog 85 #[.agg #[.int .i64 set, .slice F fl fc, .int .i64 f0.lo, .int .i64 f0.hi, .int .i64 f1.lo, .int .i64 f1.hi, .int .i64 f2.lo, .int .i64 f2.hi], .int .i64 0, .int .i64 ask, .agg #[.int .i64 klo, .int .i64 khi]] w
      fun e w' => e = .returned (.agg #[.int .i64 (tellD set [f0, f1, f2] 0 ask ⟨klo, khi⟩).lo, .int .i64 (tellD set [f0, f1, f2] 0 ask ⟨klo, khi⟩).hi]) ∧ Below w.heap.size w w' := by
  have HT : Hid (tellD set [f0, f1, f2] 0 ask ⟨klo, khi⟩ = ⟨max (shownD set [f0, f1, f2] ask) klo, min (shownD set [f0, f1, f2] ask) khi⟩) := hid rfl
  generalize hl : shownD set [f0, f1, f2] ask = L at *
  have HL := hid hl
  clear hl
  have E : Hid ((if khi < L then khi else L) = min L khi) := hid (by split <;> omega)
  go_enter Try.func85, Try.ntmps85
  go_wp2_with (go_at_call 98; refine (answers_any _).mono ?_; rintro e w1 ⟨rfl, hb1⟩; (first | replace hb1 := Below.un1 hb1 | replace hb1 := Below.un2 hb1 | skip); obtain ⟨hc1, hf1, hl1, hm1, hw1⟩ := bcell hb1; have hz1 := hb1.size; (try simp only [World.size_alloc, World.size_setCell] at hz1))
  refine wp_name ?_
  intro W hW
  have x0 : W.cell? ⟨w.heap.size, 0, none⟩ = some (.int .i64 set) := by rw [hW]; (first | (simp [go_sem, wr_set, wr_drew, wr_drewN, wr_alloc, wr_new]; done) | (simp [go_sem, wr_set, wr_drew, wr_drewN, wr_alloc, wr_new, *]; done) | (simp (disch := go_size) [go_sem, wr_set, wr_drew, wr_drewN, wr_alloc, wr_new, *]; done))
  have x1 : W.cell? ⟨w.heap.size, 1, none⟩ = some (.slice F fl fc) := by rw [hW]; (first | (simp [go_sem, wr_set, wr_drew, wr_drewN, wr_alloc, wr_new]; done) | (simp [go_sem, wr_set, wr_drew, wr_drewN, wr_alloc, wr_new, *]; done) | (simp (disch := go_size) [go_sem, wr_set, wr_drew, wr_drewN, wr_alloc, wr_new, *]; done))
  have x2 : W.cell? ⟨w.heap.size, 2, none⟩ = some (.int .i64 f0.lo) := by rw [hW]; (first | (simp [go_sem, wr_set, wr_drew, wr_drewN, wr_alloc, wr_new]; done) | (simp [go_sem, wr_set, wr_drew, wr_drewN, wr_alloc, wr_new, *]; done) | (simp (disch := go_size) [go_sem, wr_set, wr_drew, wr_drewN, wr_alloc, wr_new, *]; done))
  have x3 : W.cell? ⟨w.heap.size, 3, none⟩ = some (.int .i64 f0.hi) := by rw [hW]; (first | (simp [go_sem, wr_set, wr_drew, wr_drewN, wr_alloc, wr_new]; done) | (simp [go_sem, wr_set, wr_drew, wr_drewN, wr_alloc, wr_new, *]; done) | (simp (disch := go_size) [go_sem, wr_set, wr_drew, wr_drewN, wr_alloc, wr_new, *]; done))
  have x4 : W.cell? ⟨w.heap.size, 4, none⟩ = some (.int .i64 f1.lo) := by rw [hW]; (first | (simp [go_sem, wr_set, wr_drew, wr_drewN, wr_alloc, wr_new]; done) | (simp [go_sem, wr_set, wr_drew, wr_drewN, wr_alloc, wr_new, *]; done) | (simp (disch := go_size) [go_sem, wr_set, wr_drew, wr_drewN, wr_alloc, wr_new, *]; done))
  have x5 : W.cell? ⟨w.heap.size, 5, none⟩ = some (.int .i64 f1.hi) := by rw [hW]; (first | (simp [go_sem, wr_set, wr_drew, wr_drewN, wr_alloc, wr_new]; done) | (simp [go_sem, wr_set, wr_drew, wr_drewN, wr_alloc, wr_new, *]; done) | (simp (disch := go_size) [go_sem, wr_set, wr_drew, wr_drewN, wr_alloc, wr_new, *]; done))
  have x6 : W.cell? ⟨w.heap.size, 6, none⟩ = some (.int .i64 f2.lo) := by rw [hW]; (first | (simp [go_sem, wr_set, wr_drew, wr_drewN, wr_alloc, wr_new]; done) | (simp [go_sem, wr_set, wr_drew, wr_drewN, wr_alloc, wr_new, *]; done) | (simp (disch := go_size) [go_sem, wr_set, wr_drew, wr_drewN, wr_alloc, wr_new, *]; done))
  have x7 : W.cell? ⟨w.heap.size, 7, none⟩ = some (.int .i64 f2.hi) := by rw [hW]; (first | (simp [go_sem, wr_set, wr_drew, wr_drewN, wr_alloc, wr_new]; done) | (simp [go_sem, wr_set, wr_drew, wr_drewN, wr_alloc, wr_new, *]; done) | (simp (disch := go_size) [go_sem, wr_set, wr_drew, wr_drewN, wr_alloc, wr_new, *]; done))
  have y0 : W.cell? ⟨w.heap.size + 1, 0, none⟩ = some (.int .i64 klo) := by rw [hW]; (first | (simp [go_sem, wr_set, wr_drew, wr_drewN, wr_alloc, wr_new]; done) | (simp [go_sem, wr_set, wr_drew, wr_drewN, wr_alloc, wr_new, *]; done) | (simp (disch := go_size) [go_sem, wr_set, wr_drew, wr_drewN, wr_alloc, wr_new, *]; done))
  have y1 : W.cell? ⟨w.heap.size + 1, 1, none⟩ = some (.int .i64 khi) := by rw [hW]; (first | (simp [go_sem, wr_set, wr_drew, wr_drewN, wr_alloc, wr_new]; done) | (simp [go_sem, wr_set, wr_drew, wr_drewN, wr_alloc, wr_new, *]; done) | (simp (disch := go_size) [go_sem, wr_set, wr_drew, wr_drewN, wr_alloc, wr_new, *]; done))
  have y2 : W.cell? ⟨w1.heap.size, 0, none⟩ = some (.func (.func 102) #[] #[]) := by rw [hW]; (first | (simp [go_sem, wr_set, wr_drew, wr_drewN, wr_alloc, wr_new]; done) | (simp [go_sem, wr_set, wr_drew, wr_drewN, wr_alloc, wr_new, *]; done) | (simp (disch := go_size) [go_sem, wr_set, wr_drew, wr_drewN, wr_alloc, wr_new, *]; done))
  have y3 : W.cell? ⟨w1.heap.size, 1, none⟩ = some (.func (.func 102) #[] #[]) := by rw [hW]; (first | (simp [go_sem, wr_set, wr_drew, wr_drewN, wr_alloc, wr_new]; done) | (simp [go_sem, wr_set, wr_drew, wr_drewN, wr_alloc, wr_new, *]; done) | (simp (disch := go_size) [go_sem, wr_set, wr_drew, wr_drewN, wr_alloc, wr_new, *]; done))
  have q0 : Wr W (w.heap.size + 1 + 1) 0 := by rw [hW]; (first | (simp [go_sem, wr_set, wr_drew, wr_drewN, wr_alloc, wr_new]; done) | (simp [go_sem, wr_set, wr_drew, wr_drewN, wr_alloc, wr_new, *]; done) | (simp (disch := go_size) [go_sem, wr_set, wr_drew, wr_drewN, wr_alloc, wr_new, *]; done))
  have q1 : Wr W (w.heap.size + 1 + 1) 1 := by rw [hW]; (first | (simp [go_sem, wr_set, wr_drew, wr_drewN, wr_alloc, wr_new]; done) | (simp [go_sem, wr_set, wr_drew, wr_drewN, wr_alloc, wr_new, *]; done) | (simp (disch := go_size) [go_sem, wr_set, wr_drew, wr_drewN, wr_alloc, wr_new, *]; done))
  have hBW : Below w.heap.size w W := by rw [hW]; (repeat' (first | (with_reducible exact Below.refl _ _) | (with_reducible assumption) | (with_reducible refine Below.drew ?_) | (with_reducible refine below_drewN ?_ _) | (with_reducible refine Below.setCell ?_ ?_ _) | (with_reducible refine Below.alloc ?_ ?_ _) | go_size | (exact Below.size (by assumption)) | (refine Below.trans ?_ (Below.mono (by assumption) ?_))))
  have hsz : W.heap.size = w1.heap.size + 1 := by rw [hW]; simp
  have n0 : w.heap.size < W.heap.size := by omega
  have n1 : w.heap.size + 1 < W.heap.size := by omega
  have n2 : w.heap.size + 1 + 1 < W.heap.size := by omega
  have n3 : w1.heap.size < W.heap.size := by omega
  have n5 : ¬ w.heap.size = w.heap.size + 1 + 1 := by omega
  have n6 : ¬ w.heap.size + 1 = w.heap.size + 1 + 1 := by omega
  have n4 : ¬ w1.heap.size = w.heap.size + 1 + 1 := by omega
  have Hsz := hid hsz
  clear hc1 hf1 hl1 hm1 hw1 hW hsz hb1 hz1
  go_region_held3 (fun w' => (∀ b o, b < W.heap.size → b ≠ w.heap.size + 1 + 1 → w'.cell? ⟨b, o, none⟩ = W.cell? ⟨b, o, none⟩) ∧ (Wr w' (w.heap.size + 1 + 1) 0 ∧ Wr w' (w.heap.size + 1 + 1) 1) ∧ Below w.heap.size w w') (((refine ⟨?_, ?_, ?_⟩; (focus (repeat' (first | (with_reducible assumption) | (with_reducible exact same_refl) | (with_reducible refine same_drew ?_) | (with_reducible refine same_drewN ?_) | (with_reducible refine same_alloc ?_ ?_) | (with_reducible refine same_set ?_ (.inl ?_)) | (with_reducible refine same_set ?_ (.inr ?_)) | (refine same_below ?_ (by assumption) ?_) | rfl | go_size))); (focus (repeat' (first | (with_reducible assumption) | trivial | (with_reducible refine And.intro ?_ ?_) | (with_reducible refine wr_drew' ?_) | (with_reducible refine wr_drewN' ?_) | (with_reducible refine wr_alloc _ ?_) | (with_reducible refine wr_set' ?_) | (refine wr_below ?_ (by assumption) ?_) | go_size))); (repeat' (first | (with_reducible exact Below.refl _ _) | (with_reducible assumption) | (with_reducible refine Below.drew ?_) | (with_reducible refine below_drewN ?_ _) | (with_reducible refine Below.setCell ?_ ?_ _) | (with_reducible refine Below.alloc ?_ ?_ _) | go_size | (exact Below.size (by assumption)) | (refine Below.trans ?_ (Below.mono (by assumption) ?_)))))))
    (first
      | (go_at_call 102; refine (dShown_any set F fl fc f0 f1 f2 ask _ hs hD ha).mono ?_; rw [HL.out]; rintro e w3 ⟨rfl, hb3⟩; (first | replace hb3 := Below.un1 hb3 | replace hb3 := Below.un2 hb3 | skip); obtain ⟨hc3, hf3, hl3, hm3, hw3⟩ := bcell hb3; have hz3 := hb3.size; (try simp only [World.size_alloc, World.size_setCell] at hz3))
      | (go_at_call 93; refine (greatest_at _ _ _ _ klo _ ?_).mono ?_; (focus (first | (simp [go_sem, wr_set, wr_drew, wr_drewN, wr_alloc, wr_new]; done) | (simp [go_sem, wr_set, wr_drew, wr_drewN, wr_alloc, wr_new, *]; done) | (simp (disch := go_size) [go_sem, wr_set, wr_drew, wr_drewN, wr_alloc, wr_new, *]; done))); rintro e w4 ⟨rfl, rfl⟩))
  all_goals
    rename_i hHeld
    obtain ⟨-, ⟨r0, r1⟩, -⟩ := hHeld
    simp only [wr_set] at r0 r1
    (try clear hw3)
    (try clear hw5)
    rw [E.out]
    go_wp2
    simp [bodyPost, results, Try.results85, go_sem, HT.out, *]
    (repeat' (first | (with_reducible exact Below.refl _ _) | (with_reducible assumption) | (with_reducible refine Below.drew ?_) | (with_reducible refine below_drewN ?_ _) | (with_reducible refine Below.setCell ?_ ?_ _) | (with_reducible refine Below.alloc ?_ ?_ _) | go_size | (exact Below.size (by assumption)) | (refine Below.trans ?_ (Below.mono (by assumption) ?_))))

set_option maxRecDepth 100000 in
set_option maxHeartbeats 4000000 in
theorem dTell1_any (set : Int) (F : Option Addr) (fl fc : Nat) (f0 f1 f2 : Sp) (ask klo khi : Int) (w : World) (hs : 0 ≤ set ∧ set ≤ 4319) (hD : OkD [f0, f1, f2]) (ha : 0 ≤ ask ∧ ask ≤ 8638) :
    Calls Try.prog 85 #[.agg #[.int .i64 set, .slice F fl fc, .int .i64 f0.lo, .int .i64 f0.hi, .int .i64 f1.lo, .int .i64 f1.hi, .int .i64 f2.lo, .int .i64 f2.hi], .int .i64 1, .int .i64 ask, .agg #[.int .i64 klo, .int .i64 khi]] w
      fun e w' => e = .returned (.agg #[.int .i64 (tellD set [f0, f1, f2] 1 ask ⟨klo, khi⟩).lo, .int .i64 (tellD set [f0, f1, f2] 1 ask ⟨klo, khi⟩).hi]) ∧ Below w.heap.size w w' := by
  have HT : Hid (tellD set [f0, f1, f2] 1 ask ⟨klo, khi⟩ = ⟨max (firstD set [f0, f1, f2] ask) klo, min (lastD set [f0, f1, f2] ask) khi⟩) := hid rfl
  generalize hl : firstD set [f0, f1, f2] ask = L at *
  have HL := hid hl
  clear hl
  generalize hh : lastD set [f0, f1, f2] ask = H at *
  have HH := hid hh
  clear hh
  have E : Hid ((if khi < H then khi else H) = min H khi) := hid (by split <;> omega)
  go_enter Try.func85, Try.ntmps85
  go_wp2_with (go_at_call 98; refine (answers_any _).mono ?_; rintro e w1 ⟨rfl, hb1⟩; (first | replace hb1 := Below.un1 hb1 | replace hb1 := Below.un2 hb1 | skip); obtain ⟨hc1, hf1, hl1, hm1, hw1⟩ := bcell hb1; have hz1 := hb1.size; (try simp only [World.size_alloc, World.size_setCell] at hz1))
  refine wp_name ?_
  intro W hW
  have x0 : W.cell? ⟨w.heap.size, 0, none⟩ = some (.int .i64 set) := by rw [hW]; (first | (simp [go_sem, wr_set, wr_drew, wr_drewN, wr_alloc, wr_new]; done) | (simp [go_sem, wr_set, wr_drew, wr_drewN, wr_alloc, wr_new, *]; done) | (simp (disch := go_size) [go_sem, wr_set, wr_drew, wr_drewN, wr_alloc, wr_new, *]; done))
  have x1 : W.cell? ⟨w.heap.size, 1, none⟩ = some (.slice F fl fc) := by rw [hW]; (first | (simp [go_sem, wr_set, wr_drew, wr_drewN, wr_alloc, wr_new]; done) | (simp [go_sem, wr_set, wr_drew, wr_drewN, wr_alloc, wr_new, *]; done) | (simp (disch := go_size) [go_sem, wr_set, wr_drew, wr_drewN, wr_alloc, wr_new, *]; done))
  have x2 : W.cell? ⟨w.heap.size, 2, none⟩ = some (.int .i64 f0.lo) := by rw [hW]; (first | (simp [go_sem, wr_set, wr_drew, wr_drewN, wr_alloc, wr_new]; done) | (simp [go_sem, wr_set, wr_drew, wr_drewN, wr_alloc, wr_new, *]; done) | (simp (disch := go_size) [go_sem, wr_set, wr_drew, wr_drewN, wr_alloc, wr_new, *]; done))
  have x3 : W.cell? ⟨w.heap.size, 3, none⟩ = some (.int .i64 f0.hi) := by rw [hW]; (first | (simp [go_sem, wr_set, wr_drew, wr_drewN, wr_alloc, wr_new]; done) | (simp [go_sem, wr_set, wr_drew, wr_drewN, wr_alloc, wr_new, *]; done) | (simp (disch := go_size) [go_sem, wr_set, wr_drew, wr_drewN, wr_alloc, wr_new, *]; done))
  have x4 : W.cell? ⟨w.heap.size, 4, none⟩ = some (.int .i64 f1.lo) := by rw [hW]; (first | (simp [go_sem, wr_set, wr_drew, wr_drewN, wr_alloc, wr_new]; done) | (simp [go_sem, wr_set, wr_drew, wr_drewN, wr_alloc, wr_new, *]; done) | (simp (disch := go_size) [go_sem, wr_set, wr_drew, wr_drewN, wr_alloc, wr_new, *]; done))
  have x5 : W.cell? ⟨w.heap.size, 5, none⟩ = some (.int .i64 f1.hi) := by rw [hW]; (first | (simp [go_sem, wr_set, wr_drew, wr_drewN, wr_alloc, wr_new]; done) | (simp [go_sem, wr_set, wr_drew, wr_drewN, wr_alloc, wr_new, *]; done) | (simp (disch := go_size) [go_sem, wr_set, wr_drew, wr_drewN, wr_alloc, wr_new, *]; done))
  have x6 : W.cell? ⟨w.heap.size, 6, none⟩ = some (.int .i64 f2.lo) := by rw [hW]; (first | (simp [go_sem, wr_set, wr_drew, wr_drewN, wr_alloc, wr_new]; done) | (simp [go_sem, wr_set, wr_drew, wr_drewN, wr_alloc, wr_new, *]; done) | (simp (disch := go_size) [go_sem, wr_set, wr_drew, wr_drewN, wr_alloc, wr_new, *]; done))
  have x7 : W.cell? ⟨w.heap.size, 7, none⟩ = some (.int .i64 f2.hi) := by rw [hW]; (first | (simp [go_sem, wr_set, wr_drew, wr_drewN, wr_alloc, wr_new]; done) | (simp [go_sem, wr_set, wr_drew, wr_drewN, wr_alloc, wr_new, *]; done) | (simp (disch := go_size) [go_sem, wr_set, wr_drew, wr_drewN, wr_alloc, wr_new, *]; done))
  have y0 : W.cell? ⟨w.heap.size + 1, 0, none⟩ = some (.int .i64 klo) := by rw [hW]; (first | (simp [go_sem, wr_set, wr_drew, wr_drewN, wr_alloc, wr_new]; done) | (simp [go_sem, wr_set, wr_drew, wr_drewN, wr_alloc, wr_new, *]; done) | (simp (disch := go_size) [go_sem, wr_set, wr_drew, wr_drewN, wr_alloc, wr_new, *]; done))
  have y1 : W.cell? ⟨w.heap.size + 1, 1, none⟩ = some (.int .i64 khi) := by rw [hW]; (first | (simp [go_sem, wr_set, wr_drew, wr_drewN, wr_alloc, wr_new]; done) | (simp [go_sem, wr_set, wr_drew, wr_drewN, wr_alloc, wr_new, *]; done) | (simp (disch := go_size) [go_sem, wr_set, wr_drew, wr_drewN, wr_alloc, wr_new, *]; done))
  have y2 : W.cell? ⟨w1.heap.size, 0, none⟩ = some (.func (.func 103) #[] #[]) := by rw [hW]; (first | (simp [go_sem, wr_set, wr_drew, wr_drewN, wr_alloc, wr_new]; done) | (simp [go_sem, wr_set, wr_drew, wr_drewN, wr_alloc, wr_new, *]; done) | (simp (disch := go_size) [go_sem, wr_set, wr_drew, wr_drewN, wr_alloc, wr_new, *]; done))
  have y3 : W.cell? ⟨w1.heap.size, 1, none⟩ = some (.func (.func 104) #[] #[]) := by rw [hW]; (first | (simp [go_sem, wr_set, wr_drew, wr_drewN, wr_alloc, wr_new]; done) | (simp [go_sem, wr_set, wr_drew, wr_drewN, wr_alloc, wr_new, *]; done) | (simp (disch := go_size) [go_sem, wr_set, wr_drew, wr_drewN, wr_alloc, wr_new, *]; done))
  have q0 : Wr W (w.heap.size + 1 + 1) 0 := by rw [hW]; (first | (simp [go_sem, wr_set, wr_drew, wr_drewN, wr_alloc, wr_new]; done) | (simp [go_sem, wr_set, wr_drew, wr_drewN, wr_alloc, wr_new, *]; done) | (simp (disch := go_size) [go_sem, wr_set, wr_drew, wr_drewN, wr_alloc, wr_new, *]; done))
  have q1 : Wr W (w.heap.size + 1 + 1) 1 := by rw [hW]; (first | (simp [go_sem, wr_set, wr_drew, wr_drewN, wr_alloc, wr_new]; done) | (simp [go_sem, wr_set, wr_drew, wr_drewN, wr_alloc, wr_new, *]; done) | (simp (disch := go_size) [go_sem, wr_set, wr_drew, wr_drewN, wr_alloc, wr_new, *]; done))
  have hBW : Below w.heap.size w W := by rw [hW]; (repeat' (first | (with_reducible exact Below.refl _ _) | (with_reducible assumption) | (with_reducible refine Below.drew ?_) | (with_reducible refine below_drewN ?_ _) | (with_reducible refine Below.setCell ?_ ?_ _) | (with_reducible refine Below.alloc ?_ ?_ _) | go_size | (exact Below.size (by assumption)) | (refine Below.trans ?_ (Below.mono (by assumption) ?_))))
  have hsz : W.heap.size = w1.heap.size + 1 := by rw [hW]; simp
  have n0 : w.heap.size < W.heap.size := by omega
  have n1 : w.heap.size + 1 < W.heap.size := by omega
  have n2 : w.heap.size + 1 + 1 < W.heap.size := by omega
  have n3 : w1.heap.size < W.heap.size := by omega
  have n5 : ¬ w.heap.size = w.heap.size + 1 + 1 := by omega
  have n6 : ¬ w.heap.size + 1 = w.heap.size + 1 + 1 := by omega
  have n4 : ¬ w1.heap.size = w.heap.size + 1 + 1 := by omega
  have Hsz := hid hsz
  clear hc1 hf1 hl1 hm1 hw1 hW hsz hb1 hz1
  go_region_held3 (fun w' => (∀ b o, b < W.heap.size → b ≠ w.heap.size + 1 + 1 → w'.cell? ⟨b, o, none⟩ = W.cell? ⟨b, o, none⟩) ∧ (Wr w' (w.heap.size + 1 + 1) 0 ∧ Wr w' (w.heap.size + 1 + 1) 1) ∧ Below w.heap.size w w') (((refine ⟨?_, ?_, ?_⟩; (focus (repeat' (first | (with_reducible assumption) | (with_reducible exact same_refl) | (with_reducible refine same_drew ?_) | (with_reducible refine same_drewN ?_) | (with_reducible refine same_alloc ?_ ?_) | (with_reducible refine same_set ?_ (.inl ?_)) | (with_reducible refine same_set ?_ (.inr ?_)) | (refine same_below ?_ (by assumption) ?_) | rfl | go_size))); (focus (repeat' (first | (with_reducible assumption) | trivial | (with_reducible refine And.intro ?_ ?_) | (with_reducible refine wr_drew' ?_) | (with_reducible refine wr_drewN' ?_) | (with_reducible refine wr_alloc _ ?_) | (with_reducible refine wr_set' ?_) | (refine wr_below ?_ (by assumption) ?_) | go_size))); (repeat' (first | (with_reducible exact Below.refl _ _) | (with_reducible assumption) | (with_reducible refine Below.drew ?_) | (with_reducible refine below_drewN ?_ _) | (with_reducible refine Below.setCell ?_ ?_ _) | (with_reducible refine Below.alloc ?_ ?_ _) | go_size | (exact Below.size (by assumption)) | (refine Below.trans ?_ (Below.mono (by assumption) ?_)))))))
    (first
      | (go_at_call 103; refine (dFirst_any set F fl fc f0 f1 f2 ask _ hs hD ha).mono ?_; rw [HL.out]; rintro e w3 ⟨rfl, hb3⟩; (first | replace hb3 := Below.un1 hb3 | replace hb3 := Below.un2 hb3 | skip); obtain ⟨hc3, hf3, hl3, hm3, hw3⟩ := bcell hb3; have hz3 := hb3.size; (try simp only [World.size_alloc, World.size_setCell] at hz3))
      | (go_at_call 104; refine (dLast_any set F fl fc f0 f1 f2 ask _ hs hD ⟨by omega, by omega⟩).mono ?_; rw [HH.out]; rintro e w5 ⟨rfl, hb5⟩; (first | replace hb5 := Below.un1 hb5 | replace hb5 := Below.un2 hb5 | skip); obtain ⟨hc5, hf5, hl5, hm5, hw5⟩ := bcell hb5; have hz5 := hb5.size; (try simp only [World.size_alloc, World.size_setCell] at hz5))
      | (go_at_call 93; refine (greatest_at _ _ _ _ klo _ ?_).mono ?_; (focus (first | (simp [go_sem, wr_set, wr_drew, wr_drewN, wr_alloc, wr_new]; done) | (simp [go_sem, wr_set, wr_drew, wr_drewN, wr_alloc, wr_new, *]; done) | (simp (disch := go_size) [go_sem, wr_set, wr_drew, wr_drewN, wr_alloc, wr_new, *]; done))); rintro e w4 ⟨rfl, rfl⟩))
  all_goals
    rename_i hHeld
    obtain ⟨-, ⟨r0, r1⟩, -⟩ := hHeld
    simp only [wr_set] at r0 r1
    (try clear hw3)
    (try clear hw5)
    rw [E.out]
    go_wp2
    simp [bodyPost, results, Try.results85, go_sem, HT.out, *]
    (repeat' (first | (with_reducible exact Below.refl _ _) | (with_reducible assumption) | (with_reducible refine Below.drew ?_) | (with_reducible refine below_drewN ?_ _) | (with_reducible refine Below.setCell ?_ ?_ _) | (with_reducible refine Below.alloc ?_ ?_ _) | go_size | (exact Below.size (by assumption)) | (refine Below.trans ?_ (Below.mono (by assumption) ?_))))

set_option maxRecDepth 100000 in
set_option maxHeartbeats 4000000 in
theorem dTell2_any (set : Int) (F : Option Addr) (fl fc : Nat) (f0 f1 f2 : Sp) (ask klo khi : Int) (w : World) (hs : 0 ≤ set ∧ set ≤ 4319) (hD : OkD [f0, f1, f2]) (ha : 0 ≤ ask ∧ ask ≤ 4320) :
    Calls Try.prog 85 #[.agg #[.int .i64 set, .slice F fl fc, .int .i64 f0.lo, .int .i64 f0.hi, .int .i64 f1.lo, .int .i64 f1.hi, .int .i64 f2.lo, .int .i64 f2.hi], .int .i64 2, .int .i64 ask, .agg #[.int .i64 klo, .int .i64 khi]] w
      fun e w' => e = .returned (.agg #[.int .i64 (tellD set [f0, f1, f2] 2 ask ⟨klo, khi⟩).lo, .int .i64 (tellD set [f0, f1, f2] 2 ask ⟨klo, khi⟩).hi]) ∧ Below w.heap.size w w' := by
  have HT : Hid (tellD set [f0, f1, f2] 2 ask ⟨klo, khi⟩ = ⟨max (stopD [f0, f1, f2] ask) klo, min (stopD [f0, f1, f2] ask) khi⟩) := hid rfl
  generalize hl : stopD [f0, f1, f2] ask = L at *
  have HL := hid hl
  clear hl
  have E : Hid ((if khi < L then khi else L) = min L khi) := hid (by split <;> omega)
  go_enter Try.func85, Try.ntmps85
  go_wp2_with (go_at_call 98; refine (answers_any _).mono ?_; rintro e w1 ⟨rfl, hb1⟩; (first | replace hb1 := Below.un1 hb1 | replace hb1 := Below.un2 hb1 | skip); obtain ⟨hc1, hf1, hl1, hm1, hw1⟩ := bcell hb1; have hz1 := hb1.size; (try simp only [World.size_alloc, World.size_setCell] at hz1))
  refine wp_name ?_
  intro W hW
  have x0 : W.cell? ⟨w.heap.size, 0, none⟩ = some (.int .i64 set) := by rw [hW]; (first | (simp [go_sem, wr_set, wr_drew, wr_drewN, wr_alloc, wr_new]; done) | (simp [go_sem, wr_set, wr_drew, wr_drewN, wr_alloc, wr_new, *]; done) | (simp (disch := go_size) [go_sem, wr_set, wr_drew, wr_drewN, wr_alloc, wr_new, *]; done))
  have x1 : W.cell? ⟨w.heap.size, 1, none⟩ = some (.slice F fl fc) := by rw [hW]; (first | (simp [go_sem, wr_set, wr_drew, wr_drewN, wr_alloc, wr_new]; done) | (simp [go_sem, wr_set, wr_drew, wr_drewN, wr_alloc, wr_new, *]; done) | (simp (disch := go_size) [go_sem, wr_set, wr_drew, wr_drewN, wr_alloc, wr_new, *]; done))
  have x2 : W.cell? ⟨w.heap.size, 2, none⟩ = some (.int .i64 f0.lo) := by rw [hW]; (first | (simp [go_sem, wr_set, wr_drew, wr_drewN, wr_alloc, wr_new]; done) | (simp [go_sem, wr_set, wr_drew, wr_drewN, wr_alloc, wr_new, *]; done) | (simp (disch := go_size) [go_sem, wr_set, wr_drew, wr_drewN, wr_alloc, wr_new, *]; done))
  have x3 : W.cell? ⟨w.heap.size, 3, none⟩ = some (.int .i64 f0.hi) := by rw [hW]; (first | (simp [go_sem, wr_set, wr_drew, wr_drewN, wr_alloc, wr_new]; done) | (simp [go_sem, wr_set, wr_drew, wr_drewN, wr_alloc, wr_new, *]; done) | (simp (disch := go_size) [go_sem, wr_set, wr_drew, wr_drewN, wr_alloc, wr_new, *]; done))
  have x4 : W.cell? ⟨w.heap.size, 4, none⟩ = some (.int .i64 f1.lo) := by rw [hW]; (first | (simp [go_sem, wr_set, wr_drew, wr_drewN, wr_alloc, wr_new]; done) | (simp [go_sem, wr_set, wr_drew, wr_drewN, wr_alloc, wr_new, *]; done) | (simp (disch := go_size) [go_sem, wr_set, wr_drew, wr_drewN, wr_alloc, wr_new, *]; done))
  have x5 : W.cell? ⟨w.heap.size, 5, none⟩ = some (.int .i64 f1.hi) := by rw [hW]; (first | (simp [go_sem, wr_set, wr_drew, wr_drewN, wr_alloc, wr_new]; done) | (simp [go_sem, wr_set, wr_drew, wr_drewN, wr_alloc, wr_new, *]; done) | (simp (disch := go_size) [go_sem, wr_set, wr_drew, wr_drewN, wr_alloc, wr_new, *]; done))
  have x6 : W.cell? ⟨w.heap.size, 6, none⟩ = some (.int .i64 f2.lo) := by rw [hW]; (first | (simp [go_sem, wr_set, wr_drew, wr_drewN, wr_alloc, wr_new]; done) | (simp [go_sem, wr_set, wr_drew, wr_drewN, wr_alloc, wr_new, *]; done) | (simp (disch := go_size) [go_sem, wr_set, wr_drew, wr_drewN, wr_alloc, wr_new, *]; done))
  have x7 : W.cell? ⟨w.heap.size, 7, none⟩ = some (.int .i64 f2.hi) := by rw [hW]; (first | (simp [go_sem, wr_set, wr_drew, wr_drewN, wr_alloc, wr_new]; done) | (simp [go_sem, wr_set, wr_drew, wr_drewN, wr_alloc, wr_new, *]; done) | (simp (disch := go_size) [go_sem, wr_set, wr_drew, wr_drewN, wr_alloc, wr_new, *]; done))
  have y0 : W.cell? ⟨w.heap.size + 1, 0, none⟩ = some (.int .i64 klo) := by rw [hW]; (first | (simp [go_sem, wr_set, wr_drew, wr_drewN, wr_alloc, wr_new]; done) | (simp [go_sem, wr_set, wr_drew, wr_drewN, wr_alloc, wr_new, *]; done) | (simp (disch := go_size) [go_sem, wr_set, wr_drew, wr_drewN, wr_alloc, wr_new, *]; done))
  have y1 : W.cell? ⟨w.heap.size + 1, 1, none⟩ = some (.int .i64 khi) := by rw [hW]; (first | (simp [go_sem, wr_set, wr_drew, wr_drewN, wr_alloc, wr_new]; done) | (simp [go_sem, wr_set, wr_drew, wr_drewN, wr_alloc, wr_new, *]; done) | (simp (disch := go_size) [go_sem, wr_set, wr_drew, wr_drewN, wr_alloc, wr_new, *]; done))
  have y2 : W.cell? ⟨w1.heap.size, 0, none⟩ = some (.func (.func 105) #[] #[]) := by rw [hW]; (first | (simp [go_sem, wr_set, wr_drew, wr_drewN, wr_alloc, wr_new]; done) | (simp [go_sem, wr_set, wr_drew, wr_drewN, wr_alloc, wr_new, *]; done) | (simp (disch := go_size) [go_sem, wr_set, wr_drew, wr_drewN, wr_alloc, wr_new, *]; done))
  have y3 : W.cell? ⟨w1.heap.size, 1, none⟩ = some (.func (.func 105) #[] #[]) := by rw [hW]; (first | (simp [go_sem, wr_set, wr_drew, wr_drewN, wr_alloc, wr_new]; done) | (simp [go_sem, wr_set, wr_drew, wr_drewN, wr_alloc, wr_new, *]; done) | (simp (disch := go_size) [go_sem, wr_set, wr_drew, wr_drewN, wr_alloc, wr_new, *]; done))
  have q0 : Wr W (w.heap.size + 1 + 1) 0 := by rw [hW]; (first | (simp [go_sem, wr_set, wr_drew, wr_drewN, wr_alloc, wr_new]; done) | (simp [go_sem, wr_set, wr_drew, wr_drewN, wr_alloc, wr_new, *]; done) | (simp (disch := go_size) [go_sem, wr_set, wr_drew, wr_drewN, wr_alloc, wr_new, *]; done))
  have q1 : Wr W (w.heap.size + 1 + 1) 1 := by rw [hW]; (first | (simp [go_sem, wr_set, wr_drew, wr_drewN, wr_alloc, wr_new]; done) | (simp [go_sem, wr_set, wr_drew, wr_drewN, wr_alloc, wr_new, *]; done) | (simp (disch := go_size) [go_sem, wr_set, wr_drew, wr_drewN, wr_alloc, wr_new, *]; done))
  have hBW : Below w.heap.size w W := by rw [hW]; (repeat' (first | (with_reducible exact Below.refl _ _) | (with_reducible assumption) | (with_reducible refine Below.drew ?_) | (with_reducible refine below_drewN ?_ _) | (with_reducible refine Below.setCell ?_ ?_ _) | (with_reducible refine Below.alloc ?_ ?_ _) | go_size | (exact Below.size (by assumption)) | (refine Below.trans ?_ (Below.mono (by assumption) ?_))))
  have hsz : W.heap.size = w1.heap.size + 1 := by rw [hW]; simp
  have n0 : w.heap.size < W.heap.size := by omega
  have n1 : w.heap.size + 1 < W.heap.size := by omega
  have n2 : w.heap.size + 1 + 1 < W.heap.size := by omega
  have n3 : w1.heap.size < W.heap.size := by omega
  have n5 : ¬ w.heap.size = w.heap.size + 1 + 1 := by omega
  have n6 : ¬ w.heap.size + 1 = w.heap.size + 1 + 1 := by omega
  have n4 : ¬ w1.heap.size = w.heap.size + 1 + 1 := by omega
  have Hsz := hid hsz
  clear hc1 hf1 hl1 hm1 hw1 hW hsz hb1 hz1
  go_region_held3 (fun w' => (∀ b o, b < W.heap.size → b ≠ w.heap.size + 1 + 1 → w'.cell? ⟨b, o, none⟩ = W.cell? ⟨b, o, none⟩) ∧ (Wr w' (w.heap.size + 1 + 1) 0 ∧ Wr w' (w.heap.size + 1 + 1) 1) ∧ Below w.heap.size w w') (((refine ⟨?_, ?_, ?_⟩; (focus (repeat' (first | (with_reducible assumption) | (with_reducible exact same_refl) | (with_reducible refine same_drew ?_) | (with_reducible refine same_drewN ?_) | (with_reducible refine same_alloc ?_ ?_) | (with_reducible refine same_set ?_ (.inl ?_)) | (with_reducible refine same_set ?_ (.inr ?_)) | (refine same_below ?_ (by assumption) ?_) | rfl | go_size))); (focus (repeat' (first | (with_reducible assumption) | trivial | (with_reducible refine And.intro ?_ ?_) | (with_reducible refine wr_drew' ?_) | (with_reducible refine wr_drewN' ?_) | (with_reducible refine wr_alloc _ ?_) | (with_reducible refine wr_set' ?_) | (refine wr_below ?_ (by assumption) ?_) | go_size))); (repeat' (first | (with_reducible exact Below.refl _ _) | (with_reducible assumption) | (with_reducible refine Below.drew ?_) | (with_reducible refine below_drewN ?_ _) | (with_reducible refine Below.setCell ?_ ?_ _) | (with_reducible refine Below.alloc ?_ ?_ _) | go_size | (exact Below.size (by assumption)) | (refine Below.trans ?_ (Below.mono (by assumption) ?_)))))))
    (first
      | (go_at_call 105; refine (dStopped_any set F fl fc f0 f1 f2 ask _ hD ha).mono ?_; rw [HL.out]; rintro e w3 ⟨rfl, hb3⟩; (first | replace hb3 := Below.un1 hb3 | replace hb3 := Below.un2 hb3 | skip); obtain ⟨hc3, hf3, hl3, hm3, hw3⟩ := bcell hb3; have hz3 := hb3.size; (try simp only [World.size_alloc, World.size_setCell] at hz3))
      | (go_at_call 93; refine (greatest_at _ _ _ _ klo _ ?_).mono ?_; (focus (first | (simp [go_sem, wr_set, wr_drew, wr_drewN, wr_alloc, wr_new]; done) | (simp [go_sem, wr_set, wr_drew, wr_drewN, wr_alloc, wr_new, *]; done) | (simp (disch := go_size) [go_sem, wr_set, wr_drew, wr_drewN, wr_alloc, wr_new, *]; done))); rintro e w4 ⟨rfl, rfl⟩))
  all_goals
    rename_i hHeld
    obtain ⟨-, ⟨r0, r1⟩, -⟩ := hHeld
    simp only [wr_set] at r0 r1
    (try clear hw3)
    (try clear hw5)
    rw [E.out]
    go_wp2
    simp [bodyPost, results, Try.results85, go_sem, HT.out, *]
    (repeat' (first | (with_reducible exact Below.refl _ _) | (with_reducible assumption) | (with_reducible refine Below.drew ?_) | (with_reducible refine below_drewN ?_ _) | (with_reducible refine Below.setCell ?_ ?_ _) | (with_reducible refine Below.alloc ?_ ?_ _) | go_size | (exact Below.size (by assumption)) | (refine Below.trans ?_ (Below.mono (by assumption) ?_))))
end Go.Proofs.Ytnkbcapikenbbaa
