/- How many minutes lie between two readings in a dial. -/
import Derived.Test.YtnkbcapikenbbaaP7
import Derived.Test.YtnkbcapikenbbaaP8
import Derived.Deep.RegionHeld3
import Derived.Deep.DeepCutAuto
namespace Go.Proofs.Ytnkbcapikenbbaa
set_option linter.unusedSimpArgs false
set_option linter.unusedVariables false
open Go.RowKit
attribute [local go_sem high] cell_set_wr
attribute [local go_sem low] cell_wr frozen_wr
attribute [local go_sem] wr_set wr_drew wr_drewN wr_alloc wr_new

def passD (set : Int) (x : List Sp) (a z : Int) : Sp :=
  if (tellD set x 1 a ⟨0, 4319⟩).hi < (tellD set x 1 a ⟨0, 4319⟩).lo ∨ (tellD set x 1 z ⟨0, 4319⟩).hi < (tellD set x 1 z ⟨0, 4319⟩).lo then ⟨0, -1⟩
  else ⟨max 0 ((tellD set x 1 z ⟨0, 4319⟩).lo - (tellD set x 1 a ⟨0, 4319⟩).hi), (tellD set x 1 z ⟨0, 4319⟩).hi - (tellD set x 1 a ⟨0, 4319⟩).lo⟩
theorem tell1_bd (set : Int) (x : List Sp) (a : Int) (hs : 0 ≤ set ∧ set ≤ 4319) (hD : OkD x) (ha : 0 ≤ a ∧ a ≤ 8638) :
    0 ≤ (tellD set x 1 a ⟨0, 4319⟩).lo ∧ (tellD set x 1 a ⟨0, 4319⟩).lo ≤ 30000 ∧ -5000 ≤ (tellD set x 1 a ⟨0, 4319⟩).hi ∧ (tellD set x 1 a ⟨0, 4319⟩).hi ≤ 4319 := by
  have h1 := last_bd x (a - set) hD.2
  have h2 := last_bd x (a - 1 - set) hD.2
  have h3 := hD.1
  simp only [tellD, lowD, highD, firstD, lastD]
  rw [h3] at h1 h2
  simp only [if_neg (show ¬ (1 : Int) = 0 by omega), if_true]
  omega

theorem size_drew1 (w : World) : w.drew.heap.size = w.heap.size := rfl
theorem size_drewN1 (w : World) (n : Nat) : (w.drewN n).heap.size = w.heap.size := rfl

/-- O is a variable of two cells that was made after W -/
def Fresh (W V : World) (O : Nat) : Prop := W.heap.size ≤ O ∧ O < V.heap.size ∧ Wr V O 0 ∧ Wr V O 1
theorem Fresh.below {W V V' : World} {O : Nat} (h : Fresh W V O) (hb : Below V.heap.size V V') : Fresh W V' O :=
  ⟨h.1, Nat.lt_of_lt_of_le h.2.1 hb.size, wr_below h.2.2.1 hb h.2.1, wr_below h.2.2.2 hb h.2.1⟩
theorem Fresh.alloc {W V : World} {O : Nat} (h : Fresh W V O) (x : Obj) : Fresh W (V.alloc x) O :=
  ⟨h.1, by have := h.2.1; simp; omega, wr_alloc x h.2.2.1, wr_alloc x h.2.2.2⟩
theorem Fresh.new {W V : World} (hS : Below W.heap.size W V) (a b : Value) (t : TypeId) : Fresh W (V.alloc (.cells #[a, b] t)) V.heap.size :=
  ⟨hS.size, by simp, wr_new rfl (by simp), wr_new rfl (by simp)⟩
theorem fin_passed {w W X : World} {O8 O9 : Nat} {al ah zl zh : Int} (n0 : w.heap.size < W.heap.size) (n1 : w.heap.size + 1 < W.heap.size) (q0 : Wr W (w.heap.size + 1) 0) (q1 : Wr W (w.heap.size + 1) 1) (hBW : Below w.heap.size w W)
    (hEnd : Below W.heap.size W ((X.setCell ⟨O9, 0, none⟩ (.int .i64 zl)).setCell ⟨O9, 1, none⟩ (.int .i64 zh))) (a8 : W.heap.size ≤ O8) (a9 : W.heap.size ≤ O9) (b8 : O8 < X.heap.size) (b9 : O9 < X.heap.size) (hne : O8 ≠ O9)
    (e0 : X.cell? ⟨O8, 0, none⟩ = some (.int .i64 al)) (e1 : X.cell? ⟨O8, 1, none⟩ = some (.int .i64 ah)) (c9 : Wr X O9 0) (d9 : Wr X O9 1) :
    ∃ O1 O2 : Nat, Value.pointer (some ⟨O8, 0, none⟩) = .pointer (some ⟨O1, 0, none⟩) ∧ Value.pointer (some ⟨O9, 0, none⟩) = .pointer (some ⟨O2, 0, none⟩) ∧ w.heap.size + 1 < O1 ∧ w.heap.size + 1 < O2 ∧
      O1 < ((X.setCell ⟨O9, 0, none⟩ (.int .i64 zl)).setCell ⟨O9, 1, none⟩ (.int .i64 zh)).heap.size ∧ O2 < ((X.setCell ⟨O9, 0, none⟩ (.int .i64 zl)).setCell ⟨O9, 1, none⟩ (.int .i64 zh)).heap.size ∧
      ((X.setCell ⟨O9, 0, none⟩ (.int .i64 zl)).setCell ⟨O9, 1, none⟩ (.int .i64 zh)).cell? ⟨O1, 0, none⟩ = some (.int .i64 al) ∧ ((X.setCell ⟨O9, 0, none⟩ (.int .i64 zl)).setCell ⟨O9, 1, none⟩ (.int .i64 zh)).cell? ⟨O1, 1, none⟩ = some (.int .i64 ah) ∧
      ((X.setCell ⟨O9, 0, none⟩ (.int .i64 zl)).setCell ⟨O9, 1, none⟩ (.int .i64 zh)).cell? ⟨O2, 0, none⟩ = some (.int .i64 zl) ∧ ((X.setCell ⟨O9, 0, none⟩ (.int .i64 zl)).setCell ⟨O9, 1, none⟩ (.int .i64 zh)).cell? ⟨O2, 1, none⟩ = some (.int .i64 zh) ∧
      Wr ((X.setCell ⟨O9, 0, none⟩ (.int .i64 zl)).setCell ⟨O9, 1, none⟩ (.int .i64 zh)) (w.heap.size + 1) 0 ∧ Wr ((X.setCell ⟨O9, 0, none⟩ (.int .i64 zl)).setCell ⟨O9, 1, none⟩ (.int .i64 zh)) (w.heap.size + 1) 1 ∧
      Below w.heap.size w ((X.setCell ⟨O9, 0, none⟩ (.int .i64 zl)).setCell ⟨O9, 1, none⟩ (.int .i64 zh)) := by
  have ho : ∀ o, ((X.setCell ⟨O9, 0, none⟩ (.int .i64 zl)).setCell ⟨O9, 1, none⟩ (.int .i64 zh)).cell? ⟨O8, o, none⟩ = X.cell? ⟨O8, o, none⟩ := fun o =>
    (World.cell?_setCell_other _ _ _ _ (fun e => hne (congrArg Addr.block e).symm)).trans (World.cell?_setCell_other _ _ _ _ (fun e => hne (congrArg Addr.block e).symm))
  exact ⟨O8, O9, rfl, rfl, by omega, by omega, by simp; omega, by simp; omega, (ho 0).trans e0, (ho 1).trans e1,
    (World.cell?_setCell_other _ _ _ _ (fun e => by cases e)).trans (World.cell?_setCell_same' _ _ _ c9.1), World.cell?_setCell_same' _ _ _ (by rw [World.cell?_setCell_other _ _ _ _ (fun e => by cases e)]; exact d9.1),
    wr_below q0 hEnd n1, wr_below q1 hEnd n1, hBW.trans (hEnd.mono hBW.size)⟩

set_option maxRecDepth 100000 in
set_option maxHeartbeats 4000000 in
theorem passed_any (set : Int) (F : Option Addr) (fl fc : Nat) (f0 f1 f2 : Sp) (a z : Int) (w : World) (hs : 0 ≤ set ∧ set ≤ 4319) (hD : OkD [f0, f1, f2]) (ha : 0 ≤ a ∧ a ≤ 8638) (hz : 0 ≤ z ∧ z ≤ 8638) :
    Calls Try.prog 69 #[.agg #[.int .i64 set, .slice F fl fc, .int .i64 f0.lo, .int .i64 f0.hi, .int .i64 f1.lo, .int .i64 f1.hi, .int .i64 f2.lo, .int .i64 f2.hi], .int .i64 a, .int .i64 z] w
      fun e w' => e = .returned (.agg #[.int .i64 (passD set [f0, f1, f2] a z).lo, .int .i64 (passD set [f0, f1, f2] a z).hi]) ∧ Below w.heap.size w w' := by
  obtain ⟨a1, a2, a3, a4⟩ := tell1_bd set [f0, f1, f2] a hs hD ha
  obtain ⟨z1, z2, z3, z4⟩ := tell1_bd set [f0, f1, f2] z hs hD hz
  have HP : Hid (passD set [f0, f1, f2] a z = if (tellD set [f0, f1, f2] 1 a ⟨0, 4319⟩).hi < (tellD set [f0, f1, f2] 1 a ⟨0, 4319⟩).lo ∨ (tellD set [f0, f1, f2] 1 z ⟨0, 4319⟩).hi < (tellD set [f0, f1, f2] 1 z ⟨0, 4319⟩).lo then ⟨0, -1⟩
    else ⟨max 0 ((tellD set [f0, f1, f2] 1 z ⟨0, 4319⟩).lo - (tellD set [f0, f1, f2] 1 a ⟨0, 4319⟩).hi), (tellD set [f0, f1, f2] 1 z ⟨0, 4319⟩).hi - (tellD set [f0, f1, f2] 1 a ⟨0, 4319⟩).lo⟩) := hid rfl
  generalize hta : tellD set [f0, f1, f2] 1 a ⟨0, 4319⟩ = ta at *
  generalize htz : tellD set [f0, f1, f2] 1 z ⟨0, 4319⟩ = tz at *
  have HA := hid hta
  have HZ := hid htz
  clear hta htz
  go_enter Try.func69, Try.ntmps69
  go_wp2_with fail
  go_cut [7, 8] (fun s7 s8 wx => ∃ O1 O2 : Nat, s7 = .pointer (some ⟨O1, 0, none⟩) ∧ s8 = .pointer (some ⟨O2, 0, none⟩) ∧ w.heap.size + 1 < O1 ∧ w.heap.size + 1 < O2 ∧ O1 < wx.heap.size ∧ O2 < wx.heap.size ∧ wx.cell? ⟨O1, 0, none⟩ = some (.int .i64 ta.lo) ∧ wx.cell? ⟨O1, 1, none⟩ = some (.int .i64 ta.hi) ∧
    wx.cell? ⟨O2, 0, none⟩ = some (.int .i64 tz.lo) ∧ wx.cell? ⟨O2, 1, none⟩ = some (.int .i64 tz.hi) ∧ Wr wx (w.heap.size + 1) 0 ∧ Wr wx (w.heap.size + 1) 1 ∧ Below w.heap.size w wx)
  case first =>
    refine wp_name ?_
    intro W hW
    have x0 : W.cell? ⟨w.heap.size, 0, none⟩ = some (.int .i64 set) := by rw [hW]; (first | (simp [go_sem, wr_set, wr_drew, wr_drewN, wr_alloc, wr_new]; done) | (simp [go_sem, wr_set, wr_drew, wr_drewN, wr_alloc, wr_new, *]; done) | (simp (disch := go_size) [go_sem, wr_set, wr_drew, wr_drewN, wr_alloc, wr_new, *]; done))
    have x1 : W.cell? ⟨w.heap.size, 1, none⟩ = some (.slice F fl fc) := by rw [hW]; (first | (simp [go_sem, wr_set, wr_drew, wr_drewN, wr_alloc, wr_new]; done) | (simp [go_sem, wr_set, wr_drew, wr_drewN, wr_alloc, wr_new, *]; done) | (simp (disch := go_size) [go_sem, wr_set, wr_drew, wr_drewN, wr_alloc, wr_new, *]; done))
    have x2 : W.cell? ⟨w.heap.size, 2, none⟩ = some (.int .i64 f0.lo) := by rw [hW]; (first | (simp [go_sem, wr_set, wr_drew, wr_drewN, wr_alloc, wr_new]; done) | (simp [go_sem, wr_set, wr_drew, wr_drewN, wr_alloc, wr_new, *]; done) | (simp (disch := go_size) [go_sem, wr_set, wr_drew, wr_drewN, wr_alloc, wr_new, *]; done))
    have x3 : W.cell? ⟨w.heap.size, 3, none⟩ = some (.int .i64 f0.hi) := by rw [hW]; (first | (simp [go_sem, wr_set, wr_drew, wr_drewN, wr_alloc, wr_new]; done) | (simp [go_sem, wr_set, wr_drew, wr_drewN, wr_alloc, wr_new, *]; done) | (simp (disch := go_size) [go_sem, wr_set, wr_drew, wr_drewN, wr_alloc, wr_new, *]; done))
    have x4 : W.cell? ⟨w.heap.size, 4, none⟩ = some (.int .i64 f1.lo) := by rw [hW]; (first | (simp [go_sem, wr_set, wr_drew, wr_drewN, wr_alloc, wr_new]; done) | (simp [go_sem, wr_set, wr_drew, wr_drewN, wr_alloc, wr_new, *]; done) | (simp (disch := go_size) [go_sem, wr_set, wr_drew, wr_drewN, wr_alloc, wr_new, *]; done))
    have x5 : W.cell? ⟨w.heap.size, 5, none⟩ = some (.int .i64 f1.hi) := by rw [hW]; (first | (simp [go_sem, wr_set, wr_drew, wr_drewN, wr_alloc, wr_new]; done) | (simp [go_sem, wr_set, wr_drew, wr_drewN, wr_alloc, wr_new, *]; done) | (simp (disch := go_size) [go_sem, wr_set, wr_drew, wr_drewN, wr_alloc, wr_new, *]; done))
    have x6 : W.cell? ⟨w.heap.size, 6, none⟩ = some (.int .i64 f2.lo) := by rw [hW]; (first | (simp [go_sem, wr_set, wr_drew, wr_drewN, wr_alloc, wr_new]; done) | (simp [go_sem, wr_set, wr_drew, wr_drewN, wr_alloc, wr_new, *]; done) | (simp (disch := go_size) [go_sem, wr_set, wr_drew, wr_drewN, wr_alloc, wr_new, *]; done))
    have x7 : W.cell? ⟨w.heap.size, 7, none⟩ = some (.int .i64 f2.hi) := by rw [hW]; (first | (simp [go_sem, wr_set, wr_drew, wr_drewN, wr_alloc, wr_new]; done) | (simp [go_sem, wr_set, wr_drew, wr_drewN, wr_alloc, wr_new, *]; done) | (simp (disch := go_size) [go_sem, wr_set, wr_drew, wr_drewN, wr_alloc, wr_new, *]; done))
    have q0 : Wr W (w.heap.size + 1) 0 := by rw [hW]; (first | (simp [go_sem, wr_set, wr_drew, wr_drewN, wr_alloc, wr_new]; done) | (simp [go_sem, wr_set, wr_drew, wr_drewN, wr_alloc, wr_new, *]; done) | (simp (disch := go_size) [go_sem, wr_set, wr_drew, wr_drewN, wr_alloc, wr_new, *]; done))
    have q1 : Wr W (w.heap.size + 1) 1 := by rw [hW]; (first | (simp [go_sem, wr_set, wr_drew, wr_drewN, wr_alloc, wr_new]; done) | (simp [go_sem, wr_set, wr_drew, wr_drewN, wr_alloc, wr_new, *]; done) | (simp (disch := go_size) [go_sem, wr_set, wr_drew, wr_drewN, wr_alloc, wr_new, *]; done))
    have hBW : Below w.heap.size w W := by rw [hW]; (repeat' (first | (with_reducible exact Below.refl _ _) | (with_reducible assumption) | (with_reducible refine Below.drew ?_) | (with_reducible refine below_drewN ?_ _) | (with_reducible refine Below.setCell ?_ ?_ _) | (with_reducible refine Below.alloc ?_ ?_ _) | go_size | (exact Below.size (by assumption)) | (refine Below.trans ?_ (Below.mono (by assumption) ?_))))
    have hsz : W.heap.size = w.heap.size + 1 + 1 := by rw [hW]; simp
    have n0 : w.heap.size < W.heap.size := by omega
    have n1 : w.heap.size + 1 < W.heap.size := by omega
    have n2 : ¬ w.heap.size = w.heap.size + 1 := by omega
    clear hW
    refine wp_region_held_drew (S := fun w' => Below W.heap.size W w') (by kernel_rfl) (Below.refl _ _).drew (fun hHeld => ?_)
    refine wpAnyH_take (i := 0) (v := ?_) (by simp only [List.getElem?_toArray, List.getElem?_cons_succ, List.getElem?_cons_zero]; rfl) (by kernel_rfl) (by kernel_rfl) (by kernel_rfl) (by exact fun _ _ _ h => h) (Or.inl ⟨by rfl, ?_⟩) (by assumption) ?_; rotate_left 1; (focus (intro w' hSw; obtain ⟨hcS, hfS, -, -, -⟩ := bcell hSw; go_simp; (try (with_reducible rfl)))); (try simp only [Act.put, List.setIfInBounds_toArray, List.set_cons_zero, List.set_cons_succ])
    refine wpAnyH_take (i := 1) (v := ?_) (by simp only [List.getElem?_toArray, List.getElem?_cons_succ, List.getElem?_cons_zero]; rfl) (by kernel_rfl) (by kernel_rfl) (by kernel_rfl) (by exact fun _ _ _ h => h) (Or.inl ⟨by rfl, ?_⟩) (by assumption) ?_; rotate_left 1; (focus (intro w' hSw; obtain ⟨hcS, hfS, -, -, -⟩ := bcell hSw; go_simp; (try (with_reducible rfl)))); (try simp only [Act.put, List.setIfInBounds_toArray, List.set_cons_zero, List.set_cons_succ])
    refine wpAnyH_take (i := 4) (v := ?_) (by simp only [List.getElem?_toArray, List.getElem?_cons_succ, List.getElem?_cons_zero]; rfl) (by kernel_rfl) (by kernel_rfl) (by kernel_rfl) (by exact fun _ _ _ h => h) (Or.inl ⟨by rfl, ?_⟩) (by assumption) ?_; rotate_left 1; (focus (intro w' hSw; obtain ⟨hcS, hfS, -, -, -⟩ := bcell hSw; go_simp; (try (with_reducible rfl)))); (try simp only [Act.put, List.setIfInBounds_toArray, List.set_cons_zero, List.set_cons_succ])
    refine wpAnyH_take (i := 5) (v := ?_) (by simp only [List.getElem?_toArray, List.getElem?_cons_succ, List.getElem?_cons_zero]; rfl) (by kernel_rfl) (by kernel_rfl) (by kernel_rfl) (by exact fun _ _ _ h => h) (Or.inl ⟨by rfl, ?_⟩) (by assumption) ?_; rotate_left 1; (focus (intro w' hSw; obtain ⟨hcS, hfS, -, -, -⟩ := bcell hSw; go_simp; (try (with_reducible rfl)))); (try simp only [Act.put, List.setIfInBounds_toArray, List.set_cons_zero, List.set_cons_succ])
    obtain ⟨V0, hV0⟩ : ∃ V, V = W.drew := ⟨_, rfl⟩
    rw [← hV0] at hHeld ⊢
    clear hV0
    have hS0 := hHeld
    refine wpAnyH_ready (rs := [2, 8, 9]) (by kernel_rfl) (by simp) ?_
    refine AllReadyH.cons (by simp only [List.getElem?_toArray, List.getElem?_cons_succ, List.getElem?_cons_zero]; rfl) (fun K hK => ?_) ?_
    · go_simp; (go_at_call 63; refine (pMinutes_any _).mono ?_; rintro e V1 ⟨rfl, hb⟩; (try go_wp2_with fail)); refine hK.out _ _ (hS0.trans (hb.mono hS0.size)) (fun hHeld => ?_); clear hK K; (try simp only [Act.put, List.setIfInBounds_toArray, List.set_cons_zero, List.set_cons_succ])
      have hS1 := hHeld
      refine wpAnyH_ready (rs := [3, 8, 9]) (by kernel_rfl) (by simp) ?_
      refine AllReadyH.cons (by simp only [List.getElem?_toArray, List.getElem?_cons_succ, List.getElem?_cons_zero]; rfl) (fun K hK => ?_) ?_
      · go_simp; (go_at_call 85; refine (dTell_any set F fl fc f0 f1 f2 1 _ 0 4319 _ hs hD ?_).mono ?_; (focus (first | exact .inr (.inl ⟨rfl, ha⟩) | exact .inr (.inl ⟨rfl, hz⟩))); (first | rw [HA.out] | rw [HZ.out]); rintro e V2 ⟨rfl, hb⟩; (try go_wp2_with fail)); refine hK.out _ _ (hS1.trans (hb.mono hS1.size)) (fun hHeld => ?_); clear hK K; (try simp only [Act.put, List.setIfInBounds_toArray, List.set_cons_zero, List.set_cons_succ])
        have hS2 := hHeld
        refine wpAnyH_ready (rs := [6, 8, 9]) (by kernel_rfl) (by simp) ?_
        refine AllReadyH.cons (by simp only [List.getElem?_toArray, List.getElem?_cons_succ, List.getElem?_cons_zero]; rfl) (fun K hK => ?_) ?_
        · go_simp; (go_at_call 63; refine (pMinutes_any _).mono ?_; rintro e V3 ⟨rfl, hb⟩; (try go_wp2_with fail)); refine hK.out _ _ (hS2.trans (hb.mono hS2.size)) (fun hHeld => ?_); clear hK K; (try simp only [Act.put, List.setIfInBounds_toArray, List.set_cons_zero, List.set_cons_succ])
          have hS3 := hHeld
          refine wpAnyH_ready (rs := [7, 8, 9]) (by kernel_rfl) (by simp) ?_
          refine AllReadyH.cons (by simp only [List.getElem?_toArray, List.getElem?_cons_succ, List.getElem?_cons_zero]; rfl) (fun K hK => ?_) ?_
          · go_simp; (go_at_call 85; refine (dTell_any set F fl fc f0 f1 f2 1 _ 0 4319 _ hs hD ?_).mono ?_; (focus (first | exact .inr (.inl ⟨rfl, ha⟩) | exact .inr (.inl ⟨rfl, hz⟩))); (first | rw [HA.out] | rw [HZ.out]); rintro e V4 ⟨rfl, hb⟩; (try go_wp2_with fail)); refine hK.out _ _ (hS3.trans (hb.mono hS3.size)) (fun hHeld => ?_); clear hK K; (try simp only [Act.put, List.setIfInBounds_toArray, List.set_cons_zero, List.set_cons_succ])
            have hS4 := hHeld
            refine wpAnyH_ready (rs := [8, 9]) (by kernel_rfl) (by simp) ?_
            refine AllReadyH.cons (by simp only [List.getElem?_toArray, List.getElem?_cons_succ, List.getElem?_cons_zero]; rfl) (fun K hK => ?_) ?_
            · go_simp; refine hK.out _ _ (hS4.alloc hS4.size _) (fun hHeld => ?_); clear hK K; (try simp only [Act.put, List.setIfInBounds_toArray, List.set_cons_zero, List.set_cons_succ])
              have f8_5 := Fresh.new hS4 (.int .i64 0) (.int .i64 0) 27
              obtain ⟨O8, hO8⟩ : ∃ O, O = V4.heap.size := ⟨_, rfl⟩
              rw [← hO8] at f8_5 ⊢
              clear hO8
              generalize V4.alloc (.cells #[.int .i64 0, .int .i64 0] 27) = V5 at *
              have hS5 := hHeld
              refine wpAnyH_ready (rs := [9]) (by kernel_rfl) (by simp) ?_
              refine AllReadyH.cons (by simp only [List.getElem?_toArray, List.getElem?_cons_succ, List.getElem?_cons_zero]; rfl) (fun K hK => ?_) ?_
              · go_simp; refine hK.out _ _ (hS5.alloc hS5.size _) (fun hHeld => ?_); clear hK K; (try simp only [Act.put, List.setIfInBounds_toArray, List.set_cons_zero, List.set_cons_succ])
                have f9_6 := Fresh.new hS5 (.int .i64 0) (.int .i64 0) 27
                have f8_6 := f8_5.alloc (.cells #[.int .i64 0, .int .i64 0] 27)
                have hne' : O8 < V5.heap.size := f8_5.2.1
                obtain ⟨O9, hO9⟩ : ∃ O, O = V5.heap.size := ⟨_, rfl⟩
                rw [← hO9] at f9_6 ⊢
                have hne : O8 ≠ O9 := by omega
                clear hO9
                generalize V5.alloc (.cells #[.int .i64 0, .int .i64 0] 27) = V6 at *
                have hS6 := hHeld
                obtain ⟨a8, b8, c8, d8⟩ := f8_6
                obtain ⟨a9, b9, c9, d9⟩ := f9_6
                clear hHeld
                refine wpAnyH_ready (rs := [10]) (by kernel_rfl) (by simp) ?_
                refine AllReadyH.cons (by simp only [List.getElem?_toArray, List.getElem?_cons_succ, List.getElem?_cons_zero]; rfl) (fun K hK => ?_) AllReadyH.nil
                go_simp; refine hK.out _ _ ((hS6.setCell (p := ⟨O8, 0, none⟩) a8 _).setCell (p := ⟨O8, 1, none⟩) a8 _) (fun hHeld => ?_); clear hK K; (try simp only [Act.put, List.setIfInBounds_toArray, List.set_cons_zero, List.set_cons_succ])
                refine wpAnyH_ready (rs := [11]) (by kernel_rfl) (by simp) ?_
                refine AllReadyH.cons (by simp only [List.getElem?_toArray, List.getElem?_cons_succ, List.getElem?_cons_zero]; rfl) (fun K hK => ?_) AllReadyH.nil
                have c9' : Wr ((V6.setCell ⟨O8, 0, none⟩ (.int .i64 ta.lo)).setCell ⟨O8, 1, none⟩ (.int .i64 ta.hi)) O9 0 := by rw [wr_set, wr_set]; exact c9
                have d9' : Wr ((V6.setCell ⟨O8, 0, none⟩ (.int .i64 ta.lo)).setCell ⟨O8, 1, none⟩ (.int .i64 ta.hi)) O9 1 := by rw [wr_set, wr_set]; exact d9
                have e0 : ((V6.setCell ⟨O8, 0, none⟩ (.int .i64 ta.lo)).setCell ⟨O8, 1, none⟩ (.int .i64 ta.hi)).cell? ⟨O8, 0, none⟩ = some (.int .i64 ta.lo) := (World.cell?_setCell_other _ _ _ _ (fun e => by cases e)).trans (World.cell?_setCell_same' _ _ _ c8.1)
                have e1 : ((V6.setCell ⟨O8, 0, none⟩ (.int .i64 ta.lo)).setCell ⟨O8, 1, none⟩ (.int .i64 ta.hi)).cell? ⟨O8, 1, none⟩ = some (.int .i64 ta.hi) := World.cell?_setCell_same' _ _ _ (by rw [World.cell?_setCell_other _ _ _ _ (fun e => by cases e)]; exact d8.1)
                have es : ((V6.setCell ⟨O8, 0, none⟩ (.int .i64 ta.lo)).setCell ⟨O8, 1, none⟩ (.int .i64 ta.hi)).heap.size = V6.heap.size := by simp
                generalize (V6.setCell ⟨O8, 0, none⟩ (.int .i64 ta.lo)).setCell ⟨O8, 1, none⟩ (.int .i64 ta.hi) = X at *
                go_simp; refine hK.out _ _ ((hHeld.setCell (p := ⟨O9, 0, none⟩) a9 _).setCell (p := ⟨O9, 1, none⟩) a9 _) (fun hEnd => ?_); clear hK K; (try simp only [Act.put, List.setIfInBounds_toArray, List.set_cons_zero, List.set_cons_succ])
                refine wpAnyH_done (by kernel_rfl) ?_ _
                go_wp2_with fail
                go_meet
                exact fin_passed n0 n1 q0 q1 hBW hEnd a8 a9 (by omega) (by omega) hne e0 e1 c9' d9'
              exact AllReadyH.nil
            refine AllReadyH.cons (by simp only [List.getElem?_toArray, List.getElem?_cons_succ, List.getElem?_cons_zero]; rfl) (fun K hK => ?_) ?_
            · go_simp; refine hK.out _ _ (hS4.alloc hS4.size _) (fun hHeld => ?_); clear hK K; (try simp only [Act.put, List.setIfInBounds_toArray, List.set_cons_zero, List.set_cons_succ])
              have f9_5 := Fresh.new hS4 (.int .i64 0) (.int .i64 0) 27
              obtain ⟨O9, hO9⟩ : ∃ O, O = V4.heap.size := ⟨_, rfl⟩
              rw [← hO9] at f9_5 ⊢
              clear hO9
              generalize V4.alloc (.cells #[.int .i64 0, .int .i64 0] 27) = V5 at *
              have hS5 := hHeld
              refine wpAnyH_ready (rs := [8]) (by kernel_rfl) (by simp) ?_
              refine AllReadyH.cons (by simp only [List.getElem?_toArray, List.getElem?_cons_succ, List.getElem?_cons_zero]; rfl) (fun K hK => ?_) ?_
              · go_simp; refine hK.out _ _ (hS5.alloc hS5.size _) (fun hHeld => ?_); clear hK K; (try simp only [Act.put, List.setIfInBounds_toArray, List.set_cons_zero, List.set_cons_succ])
                have f8_6 := Fresh.new hS5 (.int .i64 0) (.int .i64 0) 27
                have f9_6 := f9_5.alloc (.cells #[.int .i64 0, .int .i64 0] 27)
                have hne' : O9 < V5.heap.size := f9_5.2.1
                obtain ⟨O8, hO8⟩ : ∃ O, O = V5.heap.size := ⟨_, rfl⟩
                rw [← hO8] at f8_6 ⊢
                have hne : O8 ≠ O9 := by omega
                clear hO8
                generalize V5.alloc (.cells #[.int .i64 0, .int .i64 0] 27) = V6 at *
                have hS6 := hHeld
                obtain ⟨a8, b8, c8, d8⟩ := f8_6
                obtain ⟨a9, b9, c9, d9⟩ := f9_6
                clear hHeld
                refine wpAnyH_ready (rs := [10]) (by kernel_rfl) (by simp) ?_
                refine AllReadyH.cons (by simp only [List.getElem?_toArray, List.getElem?_cons_succ, List.getElem?_cons_zero]; rfl) (fun K hK => ?_) AllReadyH.nil
                go_simp; refine hK.out _ _ ((hS6.setCell (p := ⟨O8, 0, none⟩) a8 _).setCell (p := ⟨O8, 1, none⟩) a8 _) (fun hHeld => ?_); clear hK K; (try simp only [Act.put, List.setIfInBounds_toArray, List.set_cons_zero, List.set_cons_succ])
                refine wpAnyH_ready (rs := [11]) (by kernel_rfl) (by simp) ?_
                refine AllReadyH.cons (by simp only [List.getElem?_toArray, List.getElem?_cons_succ, List.getElem?_cons_zero]; rfl) (fun K hK => ?_) AllReadyH.nil
                have c9' : Wr ((V6.setCell ⟨O8, 0, none⟩ (.int .i64 ta.lo)).setCell ⟨O8, 1, none⟩ (.int .i64 ta.hi)) O9 0 := by rw [wr_set, wr_set]; exact c9
                have d9' : Wr ((V6.setCell ⟨O8, 0, none⟩ (.int .i64 ta.lo)).setCell ⟨O8, 1, none⟩ (.int .i64 ta.hi)) O9 1 := by rw [wr_set, wr_set]; exact d9
                have e0 : ((V6.setCell ⟨O8, 0, none⟩ (.int .i64 ta.lo)).setCell ⟨O8, 1, none⟩ (.int .i64 ta.hi)).cell? ⟨O8, 0, none⟩ = some (.int .i64 ta.lo) := (World.cell?_setCell_other _ _ _ _ (fun e => by cases e)).trans (World.cell?_setCell_same' _ _ _ c8.1)
                have e1 : ((V6.setCell ⟨O8, 0, none⟩ (.int .i64 ta.lo)).setCell ⟨O8, 1, none⟩ (.int .i64 ta.hi)).cell? ⟨O8, 1, none⟩ = some (.int .i64 ta.hi) := World.cell?_setCell_same' _ _ _ (by rw [World.cell?_setCell_other _ _ _ _ (fun e => by cases e)]; exact d8.1)
                have es : ((V6.setCell ⟨O8, 0, none⟩ (.int .i64 ta.lo)).setCell ⟨O8, 1, none⟩ (.int .i64 ta.hi)).heap.size = V6.heap.size := by simp
                generalize (V6.setCell ⟨O8, 0, none⟩ (.int .i64 ta.lo)).setCell ⟨O8, 1, none⟩ (.int .i64 ta.hi) = X at *
                go_simp; refine hK.out _ _ ((hHeld.setCell (p := ⟨O9, 0, none⟩) a9 _).setCell (p := ⟨O9, 1, none⟩) a9 _) (fun hEnd => ?_); clear hK K; (try simp only [Act.put, List.setIfInBounds_toArray, List.set_cons_zero, List.set_cons_succ])
                refine wpAnyH_done (by kernel_rfl) ?_ _
                go_wp2_with fail
                go_meet
                exact fin_passed n0 n1 q0 q1 hBW hEnd a8 a9 (by omega) (by omega) hne e0 e1 c9' d9'
              exact AllReadyH.nil
            exact AllReadyH.nil
          refine AllReadyH.cons (by simp only [List.getElem?_toArray, List.getElem?_cons_succ, List.getElem?_cons_zero]; rfl) (fun K hK => ?_) ?_
          · go_simp; refine hK.out _ _ (hS3.alloc hS3.size _) (fun hHeld => ?_); clear hK K; (try simp only [Act.put, List.setIfInBounds_toArray, List.set_cons_zero, List.set_cons_succ])
            have f8_4 := Fresh.new hS3 (.int .i64 0) (.int .i64 0) 27
            obtain ⟨O8, hO8⟩ : ∃ O, O = V3.heap.size := ⟨_, rfl⟩
            rw [← hO8] at f8_4 ⊢
            clear hO8
            generalize V3.alloc (.cells #[.int .i64 0, .int .i64 0] 27) = V4 at *
            have hS4 := hHeld
            refine wpAnyH_ready (rs := [7, 9]) (by kernel_rfl) (by simp) ?_
            refine AllReadyH.cons (by simp only [List.getElem?_toArray, List.getElem?_cons_succ, List.getElem?_cons_zero]; rfl) (fun K hK => ?_) ?_
            · go_simp; (go_at_call 85; refine (dTell_any set F fl fc f0 f1 f2 1 _ 0 4319 _ hs hD ?_).mono ?_; (focus (first | exact .inr (.inl ⟨rfl, ha⟩) | exact .inr (.inl ⟨rfl, hz⟩))); (first | rw [HA.out] | rw [HZ.out]); rintro e V5 ⟨rfl, hb⟩; (try go_wp2_with fail)); refine hK.out _ _ (hS4.trans (hb.mono hS4.size)) (fun hHeld => ?_); clear hK K; (try simp only [Act.put, List.setIfInBounds_toArray, List.set_cons_zero, List.set_cons_succ])
              have hS5 := hHeld
              have f8_5 := f8_4.below hb
              refine wpAnyH_ready (rs := [9]) (by kernel_rfl) (by simp) ?_
              refine AllReadyH.cons (by simp only [List.getElem?_toArray, List.getElem?_cons_succ, List.getElem?_cons_zero]; rfl) (fun K hK => ?_) ?_
              · go_simp; refine hK.out _ _ (hS5.alloc hS5.size _) (fun hHeld => ?_); clear hK K; (try simp only [Act.put, List.setIfInBounds_toArray, List.set_cons_zero, List.set_cons_succ])
                have f9_6 := Fresh.new hS5 (.int .i64 0) (.int .i64 0) 27
                have f8_6 := f8_5.alloc (.cells #[.int .i64 0, .int .i64 0] 27)
                have hne' : O8 < V5.heap.size := f8_5.2.1
                obtain ⟨O9, hO9⟩ : ∃ O, O = V5.heap.size := ⟨_, rfl⟩
                rw [← hO9] at f9_6 ⊢
                have hne : O8 ≠ O9 := by omega
                clear hO9
                generalize V5.alloc (.cells #[.int .i64 0, .int .i64 0] 27) = V6 at *
                have hS6 := hHeld
                obtain ⟨a8, b8, c8, d8⟩ := f8_6
                obtain ⟨a9, b9, c9, d9⟩ := f9_6
                clear hHeld
                refine wpAnyH_ready (rs := [10]) (by kernel_rfl) (by simp) ?_
                refine AllReadyH.cons (by simp only [List.getElem?_toArray, List.getElem?_cons_succ, List.getElem?_cons_zero]; rfl) (fun K hK => ?_) AllReadyH.nil
                go_simp; refine hK.out _ _ ((hS6.setCell (p := ⟨O8, 0, none⟩) a8 _).setCell (p := ⟨O8, 1, none⟩) a8 _) (fun hHeld => ?_); clear hK K; (try simp only [Act.put, List.setIfInBounds_toArray, List.set_cons_zero, List.set_cons_succ])
                refine wpAnyH_ready (rs := [11]) (by kernel_rfl) (by simp) ?_
                refine AllReadyH.cons (by simp only [List.getElem?_toArray, List.getElem?_cons_succ, List.getElem?_cons_zero]; rfl) (fun K hK => ?_) AllReadyH.nil
                have c9' : Wr ((V6.setCell ⟨O8, 0, none⟩ (.int .i64 ta.lo)).setCell ⟨O8, 1, none⟩ (.int .i64 ta.hi)) O9 0 := by rw [wr_set, wr_set]; exact c9
                have d9' : Wr ((V6.setCell ⟨O8, 0, none⟩ (.int .i64 ta.lo)).setCell ⟨O8, 1, none⟩ (.int .i64 ta.hi)) O9 1 := by rw [wr_set, wr_set]; exact d9
                have e0 : ((V6.setCell ⟨O8, 0, none⟩ (.int .i64 ta.lo)).setCell ⟨O8, 1, none⟩ (.int .i64 ta.hi)).cell? ⟨O8, 0, none⟩ = some (.int .i64 ta.lo) := (World.cell?_setCell_other _ _ _ _ (fun e => by cases e)).trans (World.cell?_setCell_same' _ _ _ c8.1)
                have e1 : ((V6.setCell ⟨O8, 0, none⟩ (.int .i64 ta.lo)).setCell ⟨O8, 1, none⟩ (.int .i64 ta.hi)).cell? ⟨O8, 1, none⟩ = some (.int .i64 ta.hi) := World.cell?_setCell_same' _ _ _ (by rw [World.cell?_setCell_other _ _ _ _ (fun e => by cases e)]; exact d8.1)
                have es : ((V6.setCell ⟨O8, 0, none⟩ (.int .i64 ta.lo)).setCell ⟨O8, 1, none⟩ (.int .i64 ta.hi)).heap.size = V6.heap.size := by simp
                generalize (V6.setCell ⟨O8, 0, none⟩ (.int .i64 ta.lo)).setCell ⟨O8, 1, none⟩ (.int .i64 ta.hi) = X at *
                go_simp; refine hK.out _ _ ((hHeld.setCell (p := ⟨O9, 0, none⟩) a9 _).setCell (p := ⟨O9, 1, none⟩) a9 _) (fun hEnd => ?_); clear hK K; (try simp only [Act.put, List.setIfInBounds_toArray, List.set_cons_zero, List.set_cons_succ])
                refine wpAnyH_done (by kernel_rfl) ?_ _
                go_wp2_with fail
                go_meet
                exact fin_passed n0 n1 q0 q1 hBW hEnd a8 a9 (by omega) (by omega) hne e0 e1 c9' d9'
              exact AllReadyH.nil
            refine AllReadyH.cons (by simp only [List.getElem?_toArray, List.getElem?_cons_succ, List.getElem?_cons_zero]; rfl) (fun K hK => ?_) ?_
            · go_simp; refine hK.out _ _ (hS4.alloc hS4.size _) (fun hHeld => ?_); clear hK K; (try simp only [Act.put, List.setIfInBounds_toArray, List.set_cons_zero, List.set_cons_succ])
              have f9_5 := Fresh.new hS4 (.int .i64 0) (.int .i64 0) 27
              have f8_5 := f8_4.alloc (.cells #[.int .i64 0, .int .i64 0] 27)
              have hne' : O8 < V4.heap.size := f8_4.2.1
              obtain ⟨O9, hO9⟩ : ∃ O, O = V4.heap.size := ⟨_, rfl⟩
              rw [← hO9] at f9_5 ⊢
              have hne : O8 ≠ O9 := by omega
              clear hO9
              generalize V4.alloc (.cells #[.int .i64 0, .int .i64 0] 27) = V5 at *
              have hS5 := hHeld
              refine wpAnyH_ready (rs := [7]) (by kernel_rfl) (by simp) ?_
              refine AllReadyH.cons (by simp only [List.getElem?_toArray, List.getElem?_cons_succ, List.getElem?_cons_zero]; rfl) (fun K hK => ?_) ?_
              · go_simp; (go_at_call 85; refine (dTell_any set F fl fc f0 f1 f2 1 _ 0 4319 _ hs hD ?_).mono ?_; (focus (first | exact .inr (.inl ⟨rfl, ha⟩) | exact .inr (.inl ⟨rfl, hz⟩))); (first | rw [HA.out] | rw [HZ.out]); rintro e V6 ⟨rfl, hb⟩; (try go_wp2_with fail)); refine hK.out _ _ (hS5.trans (hb.mono hS5.size)) (fun hHeld => ?_); clear hK K; (try simp only [Act.put, List.setIfInBounds_toArray, List.set_cons_zero, List.set_cons_succ])
                have hS6 := hHeld
                have f9_6 := f9_5.below hb
                have f8_6 := f8_5.below hb
                obtain ⟨a8, b8, c8, d8⟩ := f8_6
                obtain ⟨a9, b9, c9, d9⟩ := f9_6
                clear hHeld
                refine wpAnyH_ready (rs := [10]) (by kernel_rfl) (by simp) ?_
                refine AllReadyH.cons (by simp only [List.getElem?_toArray, List.getElem?_cons_succ, List.getElem?_cons_zero]; rfl) (fun K hK => ?_) AllReadyH.nil
                go_simp; refine hK.out _ _ ((hS6.setCell (p := ⟨O8, 0, none⟩) a8 _).setCell (p := ⟨O8, 1, none⟩) a8 _) (fun hHeld => ?_); clear hK K; (try simp only [Act.put, List.setIfInBounds_toArray, List.set_cons_zero, List.set_cons_succ])
                refine wpAnyH_ready (rs := [11]) (by kernel_rfl) (by simp) ?_
                refine AllReadyH.cons (by simp only [List.getElem?_toArray, List.getElem?_cons_succ, List.getElem?_cons_zero]; rfl) (fun K hK => ?_) AllReadyH.nil
                have c9' : Wr ((V6.setCell ⟨O8, 0, none⟩ (.int .i64 ta.lo)).setCell ⟨O8, 1, none⟩ (.int .i64 ta.hi)) O9 0 := by rw [wr_set, wr_set]; exact c9
                have d9' : Wr ((V6.setCell ⟨O8, 0, none⟩ (.int .i64 ta.lo)).setCell ⟨O8, 1, none⟩ (.int .i64 ta.hi)) O9 1 := by rw [wr_set, wr_set]; exact d9
                have e0 : ((V6.setCell ⟨O8, 0, none⟩ (.int .i64 ta.lo)).setCell ⟨O8, 1, none⟩ (.int .i64 ta.hi)).cell? ⟨O8, 0, none⟩ = some (.int .i64 ta.lo) := (World.cell?_setCell_other _ _ _ _ (fun e => by cases e)).trans (World.cell?_setCell_same' _ _ _ c8.1)
                have e1 : ((V6.setCell ⟨O8, 0, none⟩ (.int .i64 ta.lo)).setCell ⟨O8, 1, none⟩ (.int .i64 ta.hi)).cell? ⟨O8, 1, none⟩ = some (.int .i64 ta.hi) := World.cell?_setCell_same' _ _ _ (by rw [World.cell?_setCell_other _ _ _ _ (fun e => by cases e)]; exact d8.1)
                have es : ((V6.setCell ⟨O8, 0, none⟩ (.int .i64 ta.lo)).setCell ⟨O8, 1, none⟩ (.int .i64 ta.hi)).heap.size = V6.heap.size := by simp
                generalize (V6.setCell ⟨O8, 0, none⟩ (.int .i64 ta.lo)).setCell ⟨O8, 1, none⟩ (.int .i64 ta.hi) = X at *
                go_simp; refine hK.out _ _ ((hHeld.setCell (p := ⟨O9, 0, none⟩) a9 _).setCell (p := ⟨O9, 1, none⟩) a9 _) (fun hEnd => ?_); clear hK K; (try simp only [Act.put, List.setIfInBounds_toArray, List.set_cons_zero, List.set_cons_succ])
                refine wpAnyH_done (by kernel_rfl) ?_ _
                go_wp2_with fail
                go_meet
                exact fin_passed n0 n1 q0 q1 hBW hEnd a8 a9 (by omega) (by omega) hne e0 e1 c9' d9'
              exact AllReadyH.nil
            exact AllReadyH.nil
          refine AllReadyH.cons (by simp only [List.getElem?_toArray, List.getElem?_cons_succ, List.getElem?_cons_zero]; rfl) (fun K hK => ?_) ?_
          · go_simp; refine hK.out _ _ (hS3.alloc hS3.size _) (fun hHeld => ?_); clear hK K; (try simp only [Act.put, List.setIfInBounds_toArray, List.set_cons_zero, List.set_cons_succ])
            have f9_4 := Fresh.new hS3 (.int .i64 0) (.int .i64 0) 27
            obtain ⟨O9, hO9⟩ : ∃ O, O = V3.heap.size := ⟨_, rfl⟩
            rw [← hO9] at f9_4 ⊢
            clear hO9
            generalize V3.alloc (.cells #[.int .i64 0, .int .i64 0] 27) = V4 at *
            have hS4 := hHeld
            refine wpAnyH_ready (rs := [7, 8]) (by kernel_rfl) (by simp) ?_
            refine AllReadyH.cons (by simp only [List.getElem?_toArray, List.getElem?_cons_succ, List.getElem?_cons_zero]; rfl) (fun K hK => ?_) ?_
            · go_simp; (go_at_call 85; refine (dTell_any set F fl fc f0 f1 f2 1 _ 0 4319 _ hs hD ?_).mono ?_; (focus (first | exact .inr (.inl ⟨rfl, ha⟩) | exact .inr (.inl ⟨rfl, hz⟩))); (first | rw [HA.out] | rw [HZ.out]); rintro e V5 ⟨rfl, hb⟩; (try go_wp2_with fail)); refine hK.out _ _ (hS4.trans (hb.mono hS4.size)) (fun hHeld => ?_); clear hK K; (try simp only [Act.put, List.setIfInBounds_toArray, List.set_cons_zero, List.set_cons_succ])
              have hS5 := hHeld
              have f9_5 := f9_4.below hb
              refine wpAnyH_ready (rs := [8]) (by kernel_rfl) (by simp) ?_
              refine AllReadyH.cons (by simp only [List.getElem?_toArray, List.getElem?_cons_succ, List.getElem?_cons_zero]; rfl) (fun K hK => ?_) ?_
              · go_simp; refine hK.out _ _ (hS5.alloc hS5.size _) (fun hHeld => ?_); clear hK K; (try simp only [Act.put, List.setIfInBounds_toArray, List.set_cons_zero, List.set_cons_succ])
                have f8_6 := Fresh.new hS5 (.int .i64 0) (.int .i64 0) 27
                have f9_6 := f9_5.alloc (.cells #[.int .i64 0, .int .i64 0] 27)
                have hne' : O9 < V5.heap.size := f9_5.2.1
                obtain ⟨O8, hO8⟩ : ∃ O, O = V5.heap.size := ⟨_, rfl⟩
                rw [← hO8] at f8_6 ⊢
                have hne : O8 ≠ O9 := by omega
                clear hO8
                generalize V5.alloc (.cells #[.int .i64 0, .int .i64 0] 27) = V6 at *
                have hS6 := hHeld
                obtain ⟨a8, b8, c8, d8⟩ := f8_6
                obtain ⟨a9, b9, c9, d9⟩ := f9_6
                clear hHeld
                refine wpAnyH_ready (rs := [10]) (by kernel_rfl) (by simp) ?_
                refine AllReadyH.cons (by simp only [List.getElem?_toArray, List.getElem?_cons_succ, List.getElem?_cons_zero]; rfl) (fun K hK => ?_) AllReadyH.nil
                go_simp; refine hK.out _ _ ((hS6.setCell (p := ⟨O8, 0, none⟩) a8 _).setCell (p := ⟨O8, 1, none⟩) a8 _) (fun hHeld => ?_); clear hK K; (try simp only [Act.put, List.setIfInBounds_toArray, List.set_cons_zero, List.set_cons_succ])
                refine wpAnyH_ready (rs := [11]) (by kernel_rfl) (by simp) ?_
                refine AllReadyH.cons (by simp only [List.getElem?_toArray, List.getElem?_cons_succ, List.getElem?_cons_zero]; rfl) (fun K hK => ?_) AllReadyH.nil
                have c9' : Wr ((V6.setCell ⟨O8, 0, none⟩ (.int .i64 ta.lo)).setCell ⟨O8, 1, none⟩ (.int .i64 ta.hi)) O9 0 := by rw [wr_set, wr_set]; exact c9
                have d9' : Wr ((V6.setCell ⟨O8, 0, none⟩ (.int .i64 ta.lo)).setCell ⟨O8, 1, none⟩ (.int .i64 ta.hi)) O9 1 := by rw [wr_set, wr_set]; exact d9
                have e0 : ((V6.setCell ⟨O8, 0, none⟩ (.int .i64 ta.lo)).setCell ⟨O8, 1, none⟩ (.int .i64 ta.hi)).cell? ⟨O8, 0, none⟩ = some (.int .i64 ta.lo) := (World.cell?_setCell_other _ _ _ _ (fun e => by cases e)).trans (World.cell?_setCell_same' _ _ _ c8.1)
                have e1 : ((V6.setCell ⟨O8, 0, none⟩ (.int .i64 ta.lo)).setCell ⟨O8, 1, none⟩ (.int .i64 ta.hi)).cell? ⟨O8, 1, none⟩ = some (.int .i64 ta.hi) := World.cell?_setCell_same' _ _ _ (by rw [World.cell?_setCell_other _ _ _ _ (fun e => by cases e)]; exact d8.1)
                have es : ((V6.setCell ⟨O8, 0, none⟩ (.int .i64 ta.lo)).setCell ⟨O8, 1, none⟩ (.int .i64 ta.hi)).heap.size = V6.heap.size := by simp
                generalize (V6.setCell ⟨O8, 0, none⟩ (.int .i64 ta.lo)).setCell ⟨O8, 1, none⟩ (.int .i64 ta.hi) = X at *
                go_simp; refine hK.out _ _ ((hHeld.setCell (p := ⟨O9, 0, none⟩) a9 _).setCell (p := ⟨O9, 1, none⟩) a9 _) (fun hEnd => ?_); clear hK K; (try simp only [Act.put, List.setIfInBounds_toArray, List.set_cons_zero, List.set_cons_succ])
                refine wpAnyH_done (by kernel_rfl) ?_ _
                go_wp2_with fail
                go_meet
                exact fin_passed n0 n1 q0 q1 hBW hEnd a8 a9 (by omega) (by omega) hne e0 e1 c9' d9'
              exact AllReadyH.nil
            refine AllReadyH.cons (by simp only [List.getElem?_toArray, List.getElem?_cons_succ, List.getElem?_cons_zero]; rfl) (fun K hK => ?_) ?_
            · go_simp; refine hK.out _ _ (hS4.alloc hS4.size _) (fun hHeld => ?_); clear hK K; (try simp only [Act.put, List.setIfInBounds_toArray, List.set_cons_zero, List.set_cons_succ])
              have f8_5 := Fresh.new hS4 (.int .i64 0) (.int .i64 0) 27
              have f9_5 := f9_4.alloc (.cells #[.int .i64 0, .int .i64 0] 27)
              have hne' : O9 < V4.heap.size := f9_4.2.1
              obtain ⟨O8, hO8⟩ : ∃ O, O = V4.heap.size := ⟨_, rfl⟩
              rw [← hO8] at f8_5 ⊢
              have hne : O8 ≠ O9 := by omega
              clear hO8
              generalize V4.alloc (.cells #[.int .i64 0, .int .i64 0] 27) = V5 at *
              have hS5 := hHeld
              refine wpAnyH_ready (rs := [7]) (by kernel_rfl) (by simp) ?_
              refine AllReadyH.cons (by simp only [List.getElem?_toArray, List.getElem?_cons_succ, List.getElem?_cons_zero]; rfl) (fun K hK => ?_) ?_
              · go_simp; (go_at_call 85; refine (dTell_any set F fl fc f0 f1 f2 1 _ 0 4319 _ hs hD ?_).mono ?_; (focus (first | exact .inr (.inl ⟨rfl, ha⟩) | exact .inr (.inl ⟨rfl, hz⟩))); (first | rw [HA.out] | rw [HZ.out]); rintro e V6 ⟨rfl, hb⟩; (try go_wp2_with fail)); refine hK.out _ _ (hS5.trans (hb.mono hS5.size)) (fun hHeld => ?_); clear hK K; (try simp only [Act.put, List.setIfInBounds_toArray, List.set_cons_zero, List.set_cons_succ])
                have hS6 := hHeld
                have f8_6 := f8_5.below hb
                have f9_6 := f9_5.below hb
                obtain ⟨a8, b8, c8, d8⟩ := f8_6
                obtain ⟨a9, b9, c9, d9⟩ := f9_6
                clear hHeld
                refine wpAnyH_ready (rs := [10]) (by kernel_rfl) (by simp) ?_
                refine AllReadyH.cons (by simp only [List.getElem?_toArray, List.getElem?_cons_succ, List.getElem?_cons_zero]; rfl) (fun K hK => ?_) AllReadyH.nil
                go_simp; refine hK.out _ _ ((hS6.setCell (p := ⟨O8, 0, none⟩) a8 _).setCell (p := ⟨O8, 1, none⟩) a8 _) (fun hHeld => ?_); clear hK K; (try simp only [Act.put, List.setIfInBounds_toArray, List.set_cons_zero, List.set_cons_succ])
                refine wpAnyH_ready (rs := [11]) (by kernel_rfl) (by simp) ?_
                refine AllReadyH.cons (by simp only [List.getElem?_toArray, List.getElem?_cons_succ, List.getElem?_cons_zero]; rfl) (fun K hK => ?_) AllReadyH.nil
                have c9' : Wr ((V6.setCell ⟨O8, 0, none⟩ (.int .i64 ta.lo)).setCell ⟨O8, 1, none⟩ (.int .i64 ta.hi)) O9 0 := by rw [wr_set, wr_set]; exact c9
                have d9' : Wr ((V6.setCell ⟨O8, 0, none⟩ (.int .i64 ta.lo)).setCell ⟨O8, 1, none⟩ (.int .i64 ta.hi)) O9 1 := by rw [wr_set, wr_set]; exact d9
                have e0 : ((V6.setCell ⟨O8, 0, none⟩ (.int .i64 ta.lo)).setCell ⟨O8, 1, none⟩ (.int .i64 ta.hi)).cell? ⟨O8, 0, none⟩ = some (.int .i64 ta.lo) := (World.cell?_setCell_other _ _ _ _ (fun e => by cases e)).trans (World.cell?_setCell_same' _ _ _ c8.1)
                have e1 : ((V6.setCell ⟨O8, 0, none⟩ (.int .i64 ta.lo)).setCell ⟨O8, 1, none⟩ (.int .i64 ta.hi)).cell? ⟨O8, 1, none⟩ = some (.int .i64 ta.hi) := World.cell?_setCell_same' _ _ _ (by rw [World.cell?_setCell_other _ _ _ _ (fun e => by cases e)]; exact d8.1)
                have es : ((V6.setCell ⟨O8, 0, none⟩ (.int .i64 ta.lo)).setCell ⟨O8, 1, none⟩ (.int .i64 ta.hi)).heap.size = V6.heap.size := by simp
                generalize (V6.setCell ⟨O8, 0, none⟩ (.int .i64 ta.lo)).setCell ⟨O8, 1, none⟩ (.int .i64 ta.hi) = X at *
                go_simp; refine hK.out _ _ ((hHeld.setCell (p := ⟨O9, 0, none⟩) a9 _).setCell (p := ⟨O9, 1, none⟩) a9 _) (fun hEnd => ?_); clear hK K; (try simp only [Act.put, List.setIfInBounds_toArray, List.set_cons_zero, List.set_cons_succ])
                refine wpAnyH_done (by kernel_rfl) ?_ _
                go_wp2_with fail
                go_meet
                exact fin_passed n0 n1 q0 q1 hBW hEnd a8 a9 (by omega) (by omega) hne e0 e1 c9' d9'
              exact AllReadyH.nil
            exact AllReadyH.nil
          exact AllReadyH.nil
        refine AllReadyH.cons (by simp only [List.getElem?_toArray, List.getElem?_cons_succ, List.getElem?_cons_zero]; rfl) (fun K hK => ?_) ?_
        · go_simp; refine hK.out _ _ (hS2.alloc hS2.size _) (fun hHeld => ?_); clear hK K; (try simp only [Act.put, List.setIfInBounds_toArray, List.set_cons_zero, List.set_cons_succ])
          have f8_3 := Fresh.new hS2 (.int .i64 0) (.int .i64 0) 27
          obtain ⟨O8, hO8⟩ : ∃ O, O = V2.heap.size := ⟨_, rfl⟩
          rw [← hO8] at f8_3 ⊢
          clear hO8
          generalize V2.alloc (.cells #[.int .i64 0, .int .i64 0] 27) = V3 at *
          have hS3 := hHeld
          refine wpAnyH_ready (rs := [6, 9]) (by kernel_rfl) (by simp) ?_
          refine AllReadyH.cons (by simp only [List.getElem?_toArray, List.getElem?_cons_succ, List.getElem?_cons_zero]; rfl) (fun K hK => ?_) ?_
          · go_simp; (go_at_call 63; refine (pMinutes_any _).mono ?_; rintro e V4 ⟨rfl, hb⟩; (try go_wp2_with fail)); refine hK.out _ _ (hS3.trans (hb.mono hS3.size)) (fun hHeld => ?_); clear hK K; (try simp only [Act.put, List.setIfInBounds_toArray, List.set_cons_zero, List.set_cons_succ])
            have hS4 := hHeld
            have f8_4 := f8_3.below hb
            refine wpAnyH_ready (rs := [7, 9]) (by kernel_rfl) (by simp) ?_
            refine AllReadyH.cons (by simp only [List.getElem?_toArray, List.getElem?_cons_succ, List.getElem?_cons_zero]; rfl) (fun K hK => ?_) ?_
            · go_simp; (go_at_call 85; refine (dTell_any set F fl fc f0 f1 f2 1 _ 0 4319 _ hs hD ?_).mono ?_; (focus (first | exact .inr (.inl ⟨rfl, ha⟩) | exact .inr (.inl ⟨rfl, hz⟩))); (first | rw [HA.out] | rw [HZ.out]); rintro e V5 ⟨rfl, hb⟩; (try go_wp2_with fail)); refine hK.out _ _ (hS4.trans (hb.mono hS4.size)) (fun hHeld => ?_); clear hK K; (try simp only [Act.put, List.setIfInBounds_toArray, List.set_cons_zero, List.set_cons_succ])
              have hS5 := hHeld
              have f8_5 := f8_4.below hb
              refine wpAnyH_ready (rs := [9]) (by kernel_rfl) (by simp) ?_
              refine AllReadyH.cons (by simp only [List.getElem?_toArray, List.getElem?_cons_succ, List.getElem?_cons_zero]; rfl) (fun K hK => ?_) ?_
              · go_simp; refine hK.out _ _ (hS5.alloc hS5.size _) (fun hHeld => ?_); clear hK K; (try simp only [Act.put, List.setIfInBounds_toArray, List.set_cons_zero, List.set_cons_succ])
                have f9_6 := Fresh.new hS5 (.int .i64 0) (.int .i64 0) 27
                have f8_6 := f8_5.alloc (.cells #[.int .i64 0, .int .i64 0] 27)
                have hne' : O8 < V5.heap.size := f8_5.2.1
                obtain ⟨O9, hO9⟩ : ∃ O, O = V5.heap.size := ⟨_, rfl⟩
                rw [← hO9] at f9_6 ⊢
                have hne : O8 ≠ O9 := by omega
                clear hO9
                generalize V5.alloc (.cells #[.int .i64 0, .int .i64 0] 27) = V6 at *
                have hS6 := hHeld
                obtain ⟨a8, b8, c8, d8⟩ := f8_6
                obtain ⟨a9, b9, c9, d9⟩ := f9_6
                clear hHeld
                refine wpAnyH_ready (rs := [10]) (by kernel_rfl) (by simp) ?_
                refine AllReadyH.cons (by simp only [List.getElem?_toArray, List.getElem?_cons_succ, List.getElem?_cons_zero]; rfl) (fun K hK => ?_) AllReadyH.nil
                go_simp; refine hK.out _ _ ((hS6.setCell (p := ⟨O8, 0, none⟩) a8 _).setCell (p := ⟨O8, 1, none⟩) a8 _) (fun hHeld => ?_); clear hK K; (try simp only [Act.put, List.setIfInBounds_toArray, List.set_cons_zero, List.set_cons_succ])
                refine wpAnyH_ready (rs := [11]) (by kernel_rfl) (by simp) ?_
                refine AllReadyH.cons (by simp only [List.getElem?_toArray, List.getElem?_cons_succ, List.getElem?_cons_zero]; rfl) (fun K hK => ?_) AllReadyH.nil
                have c9' : Wr ((V6.setCell ⟨O8, 0, none⟩ (.int .i64 ta.lo)).setCell ⟨O8, 1, none⟩ (.int .i64 ta.hi)) O9 0 := by rw [wr_set, wr_set]; exact c9
                have d9' : Wr ((V6.setCell ⟨O8, 0, none⟩ (.int .i64 ta.lo)).setCell ⟨O8, 1, none⟩ (.int .i64 ta.hi)) O9 1 := by rw [wr_set, wr_set]; exact d9
                have e0 : ((V6.setCell ⟨O8, 0, none⟩ (.int .i64 ta.lo)).setCell ⟨O8, 1, none⟩ (.int .i64 ta.hi)).cell? ⟨O8, 0, none⟩ = some (.int .i64 ta.lo) := (World.cell?_setCell_other _ _ _ _ (fun e => by cases e)).trans (World.cell?_setCell_same' _ _ _ c8.1)
                have e1 : ((V6.setCell ⟨O8, 0, none⟩ (.int .i64 ta.lo)).setCell ⟨O8, 1, none⟩ (.int .i64 ta.hi)).cell? ⟨O8, 1, none⟩ = some (.int .i64 ta.hi) := World.cell?_setCell_same' _ _ _ (by rw [World.cell?_setCell_other _ _ _ _ (fun e => by cases e)]; exact d8.1)
                have es : ((V6.setCell ⟨O8, 0, none⟩ (.int .i64 ta.lo)).setCell ⟨O8, 1, none⟩ (.int .i64 ta.hi)).heap.size = V6.heap.size := by simp
                generalize (V6.setCell ⟨O8, 0, none⟩ (.int .i64 ta.lo)).setCell ⟨O8, 1, none⟩ (.int .i64 ta.hi) = X at *
                go_simp; refine hK.out _ _ ((hHeld.setCell (p := ⟨O9, 0, none⟩) a9 _).setCell (p := ⟨O9, 1, none⟩) a9 _) (fun hEnd => ?_); clear hK K; (try simp only [Act.put, List.setIfInBounds_toArray, List.set_cons_zero, List.set_cons_succ])
                refine wpAnyH_done (by kernel_rfl) ?_ _
                go_wp2_with fail
                go_meet
                exact fin_passed n0 n1 q0 q1 hBW hEnd a8 a9 (by omega) (by omega) hne e0 e1 c9' d9'
              exact AllReadyH.nil
            refine AllReadyH.cons (by simp only [List.getElem?_toArray, List.getElem?_cons_succ, List.getElem?_cons_zero]; rfl) (fun K hK => ?_) ?_
            · go_simp; refine hK.out _ _ (hS4.alloc hS4.size _) (fun hHeld => ?_); clear hK K; (try simp only [Act.put, List.setIfInBounds_toArray, List.set_cons_zero, List.set_cons_succ])
              have f9_5 := Fresh.new hS4 (.int .i64 0) (.int .i64 0) 27
              have f8_5 := f8_4.alloc (.cells #[.int .i64 0, .int .i64 0] 27)
              have hne' : O8 < V4.heap.size := f8_4.2.1
              obtain ⟨O9, hO9⟩ : ∃ O, O = V4.heap.size := ⟨_, rfl⟩
              rw [← hO9] at f9_5 ⊢
              have hne : O8 ≠ O9 := by omega
              clear hO9
              generalize V4.alloc (.cells #[.int .i64 0, .int .i64 0] 27) = V5 at *
              have hS5 := hHeld
              refine wpAnyH_ready (rs := [7]) (by kernel_rfl) (by simp) ?_
              refine AllReadyH.cons (by simp only [List.getElem?_toArray, List.getElem?_cons_succ, List.getElem?_cons_zero]; rfl) (fun K hK => ?_) ?_
              · go_simp; (go_at_call 85; refine (dTell_any set F fl fc f0 f1 f2 1 _ 0 4319 _ hs hD ?_).mono ?_; (focus (first | exact .inr (.inl ⟨rfl, ha⟩) | exact .inr (.inl ⟨rfl, hz⟩))); (first | rw [HA.out] | rw [HZ.out]); rintro e V6 ⟨rfl, hb⟩; (try go_wp2_with fail)); refine hK.out _ _ (hS5.trans (hb.mono hS5.size)) (fun hHeld => ?_); clear hK K; (try simp only [Act.put, List.setIfInBounds_toArray, List.set_cons_zero, List.set_cons_succ])
                have hS6 := hHeld
                have f9_6 := f9_5.below hb
                have f8_6 := f8_5.below hb
                obtain ⟨a8, b8, c8, d8⟩ := f8_6
                obtain ⟨a9, b9, c9, d9⟩ := f9_6
                clear hHeld
                refine wpAnyH_ready (rs := [10]) (by kernel_rfl) (by simp) ?_
                refine AllReadyH.cons (by simp only [List.getElem?_toArray, List.getElem?_cons_succ, List.getElem?_cons_zero]; rfl) (fun K hK => ?_) AllReadyH.nil
                go_simp; refine hK.out _ _ ((hS6.setCell (p := ⟨O8, 0, none⟩) a8 _).setCell (p := ⟨O8, 1, none⟩) a8 _) (fun hHeld => ?_); clear hK K; (try simp only [Act.put, List.setIfInBounds_toArray, List.set_cons_zero, List.set_cons_succ])
                refine wpAnyH_ready (rs := [11]) (by kernel_rfl) (by simp) ?_
                refine AllReadyH.cons (by simp only [List.getElem?_toArray, List.getElem?_cons_succ, List.getElem?_cons_zero]; rfl) (fun K hK => ?_) AllReadyH.nil
                have c9' : Wr ((V6.setCell ⟨O8, 0, none⟩ (.int .i64 ta.lo)).setCell ⟨O8, 1, none⟩ (.int .i64 ta.hi)) O9 0 := by rw [wr_set, wr_set]; exact c9
                have d9' : Wr ((V6.setCell ⟨O8, 0, none⟩ (.int .i64 ta.lo)).setCell ⟨O8, 1, none⟩ (.int .i64 ta.hi)) O9 1 := by rw [wr_set, wr_set]; exact d9
                have e0 : ((V6.setCell ⟨O8, 0, none⟩ (.int .i64 ta.lo)).setCell ⟨O8, 1, none⟩ (.int .i64 ta.hi)).cell? ⟨O8, 0, none⟩ = some (.int .i64 ta.lo) := (World.cell?_setCell_other _ _ _ _ (fun e => by cases e)).trans (World.cell?_setCell_same' _ _ _ c8.1)
                have e1 : ((V6.setCell ⟨O8, 0, none⟩ (.int .i64 ta.lo)).setCell ⟨O8, 1, none⟩ (.int .i64 ta.hi)).cell? ⟨O8, 1, none⟩ = some (.int .i64 ta.hi) := World.cell?_setCell_same' _ _ _ (by rw [World.cell?_setCell_other _ _ _ _ (fun e => by cases e)]; exact d8.1)
                have es : ((V6.setCell ⟨O8, 0, none⟩ (.int .i64 ta.lo)).setCell ⟨O8, 1, none⟩ (.int .i64 ta.hi)).heap.size = V6.heap.size := by simp
                generalize (V6.setCell ⟨O8, 0, none⟩ (.int .i64 ta.lo)).setCell ⟨O8, 1, none⟩ (.int .i64 ta.hi) = X at *
                go_simp; refine hK.out _ _ ((hHeld.setCell (p := ⟨O9, 0, none⟩) a9 _).setCell (p := ⟨O9, 1, none⟩) a9 _) (fun hEnd => ?_); clear hK K; (try simp only [Act.put, List.setIfInBounds_toArray, List.set_cons_zero, List.set_cons_succ])
                refine wpAnyH_done (by kernel_rfl) ?_ _
                go_wp2_with fail
                go_meet
                exact fin_passed n0 n1 q0 q1 hBW hEnd a8 a9 (by omega) (by omega) hne e0 e1 c9' d9'
              exact AllReadyH.nil
            exact AllReadyH.nil
          refine AllReadyH.cons (by simp only [List.getElem?_toArray, List.getElem?_cons_succ, List.getElem?_cons_zero]; rfl) (fun K hK => ?_) ?_
          · go_simp; refine hK.out _ _ (hS3.alloc hS3.size _) (fun hHeld => ?_); clear hK K; (try simp only [Act.put, List.setIfInBounds_toArray, List.set_cons_zero, List.set_cons_succ])
            have f9_4 := Fresh.new hS3 (.int .i64 0) (.int .i64 0) 27
            have f8_4 := f8_3.alloc (.cells #[.int .i64 0, .int .i64 0] 27)
            have hne' : O8 < V3.heap.size := f8_3.2.1
            obtain ⟨O9, hO9⟩ : ∃ O, O = V3.heap.size := ⟨_, rfl⟩
            rw [← hO9] at f9_4 ⊢
            have hne : O8 ≠ O9 := by omega
            clear hO9
            generalize V3.alloc (.cells #[.int .i64 0, .int .i64 0] 27) = V4 at *
            have hS4 := hHeld
            refine wpAnyH_ready (rs := [6]) (by kernel_rfl) (by simp) ?_
            refine AllReadyH.cons (by simp only [List.getElem?_toArray, List.getElem?_cons_succ, List.getElem?_cons_zero]; rfl) (fun K hK => ?_) ?_
            · go_simp; (go_at_call 63; refine (pMinutes_any _).mono ?_; rintro e V5 ⟨rfl, hb⟩; (try go_wp2_with fail)); refine hK.out _ _ (hS4.trans (hb.mono hS4.size)) (fun hHeld => ?_); clear hK K; (try simp only [Act.put, List.setIfInBounds_toArray, List.set_cons_zero, List.set_cons_succ])
              have hS5 := hHeld
              have f9_5 := f9_4.below hb
              have f8_5 := f8_4.below hb
              refine wpAnyH_ready (rs := [7]) (by kernel_rfl) (by simp) ?_
              refine AllReadyH.cons (by simp only [List.getElem?_toArray, List.getElem?_cons_succ, List.getElem?_cons_zero]; rfl) (fun K hK => ?_) ?_
              · go_simp; (go_at_call 85; refine (dTell_any set F fl fc f0 f1 f2 1 _ 0 4319 _ hs hD ?_).mono ?_; (focus (first | exact .inr (.inl ⟨rfl, ha⟩) | exact .inr (.inl ⟨rfl, hz⟩))); (first | rw [HA.out] | rw [HZ.out]); rintro e V6 ⟨rfl, hb⟩; (try go_wp2_with fail)); refine hK.out _ _ (hS5.trans (hb.mono hS5.size)) (fun hHeld => ?_); clear hK K; (try simp only [Act.put, List.setIfInBounds_toArray, List.set_cons_zero, List.set_cons_succ])
                have hS6 := hHeld
                have f9_6 := f9_5.below hb
                have f8_6 := f8_5.below hb
                obtain ⟨a8, b8, c8, d8⟩ := f8_6
                obtain ⟨a9, b9, c9, d9⟩ := f9_6
                clear hHeld
                refine wpAnyH_ready (rs := [10]) (by kernel_rfl) (by simp) ?_
                refine AllReadyH.cons (by simp only [List.getElem?_toArray, List.getElem?_cons_succ, List.getElem?_cons_zero]; rfl) (fun K hK => ?_) AllReadyH.nil
                go_simp; refine hK.out _ _ ((hS6.setCell (p := ⟨O8, 0, none⟩) a8 _).setCell (p := ⟨O8, 1, none⟩) a8 _) (fun hHeld => ?_); clear hK K; (try simp only [Act.put, List.setIfInBounds_toArray, List.set_cons_zero, List.set_cons_succ])
                refine wpAnyH_ready (rs := [11]) (by kernel_rfl) (by simp) ?_
                refine AllReadyH.cons (by simp only [List.getElem?_toArray, List.getElem?_cons_succ, List.getElem?_cons_zero]; rfl) (fun K hK => ?_) AllReadyH.nil
                have c9' : Wr ((V6.setCell ⟨O8, 0, none⟩ (.int .i64 ta.lo)).setCell ⟨O8, 1, none⟩ (.int .i64 ta.hi)) O9 0 := by rw [wr_set, wr_set]; exact c9
                have d9' : Wr ((V6.setCell ⟨O8, 0, none⟩ (.int .i64 ta.lo)).setCell ⟨O8, 1, none⟩ (.int .i64 ta.hi)) O9 1 := by rw [wr_set, wr_set]; exact d9
                have e0 : ((V6.setCell ⟨O8, 0, none⟩ (.int .i64 ta.lo)).setCell ⟨O8, 1, none⟩ (.int .i64 ta.hi)).cell? ⟨O8, 0, none⟩ = some (.int .i64 ta.lo) := (World.cell?_setCell_other _ _ _ _ (fun e => by cases e)).trans (World.cell?_setCell_same' _ _ _ c8.1)
                have e1 : ((V6.setCell ⟨O8, 0, none⟩ (.int .i64 ta.lo)).setCell ⟨O8, 1, none⟩ (.int .i64 ta.hi)).cell? ⟨O8, 1, none⟩ = some (.int .i64 ta.hi) := World.cell?_setCell_same' _ _ _ (by rw [World.cell?_setCell_other _ _ _ _ (fun e => by cases e)]; exact d8.1)
                have es : ((V6.setCell ⟨O8, 0, none⟩ (.int .i64 ta.lo)).setCell ⟨O8, 1, none⟩ (.int .i64 ta.hi)).heap.size = V6.heap.size := by simp
                generalize (V6.setCell ⟨O8, 0, none⟩ (.int .i64 ta.lo)).setCell ⟨O8, 1, none⟩ (.int .i64 ta.hi) = X at *
                go_simp; refine hK.out _ _ ((hHeld.setCell (p := ⟨O9, 0, none⟩) a9 _).setCell (p := ⟨O9, 1, none⟩) a9 _) (fun hEnd => ?_); clear hK K; (try simp only [Act.put, List.setIfInBounds_toArray, List.set_cons_zero, List.set_cons_succ])
                refine wpAnyH_done (by kernel_rfl) ?_ _
                go_wp2_with fail
                go_meet
                exact fin_passed n0 n1 q0 q1 hBW hEnd a8 a9 (by omega) (by omega) hne e0 e1 c9' d9'
              exact AllReadyH.nil
            exact AllReadyH.nil
          exact AllReadyH.nil
        refine AllReadyH.cons (by simp only [List.getElem?_toArray, List.getElem?_cons_succ, List.getElem?_cons_zero]; rfl) (fun K hK => ?_) ?_
        · go_simp; refine hK.out _ _ (hS2.alloc hS2.size _) (fun hHeld => ?_); clear hK K; (try simp only [Act.put, List.setIfInBounds_toArray, List.set_cons_zero, List.set_cons_succ])
          have f9_3 := Fresh.new hS2 (.int .i64 0) (.int .i64 0) 27
          obtain ⟨O9, hO9⟩ : ∃ O, O = V2.heap.size := ⟨_, rfl⟩
          rw [← hO9] at f9_3 ⊢
          clear hO9
          generalize V2.alloc (.cells #[.int .i64 0, .int .i64 0] 27) = V3 at *
          have hS3 := hHeld
          refine wpAnyH_ready (rs := [6, 8]) (by kernel_rfl) (by simp) ?_
          refine AllReadyH.cons (by simp only [List.getElem?_toArray, List.getElem?_cons_succ, List.getElem?_cons_zero]; rfl) (fun K hK => ?_) ?_
          · go_simp; (go_at_call 63; refine (pMinutes_any _).mono ?_; rintro e V4 ⟨rfl, hb⟩; (try go_wp2_with fail)); refine hK.out _ _ (hS3.trans (hb.mono hS3.size)) (fun hHeld => ?_); clear hK K; (try simp only [Act.put, List.setIfInBounds_toArray, List.set_cons_zero, List.set_cons_succ])
            have hS4 := hHeld
            have f9_4 := f9_3.below hb
            refine wpAnyH_ready (rs := [7, 8]) (by kernel_rfl) (by simp) ?_
            refine AllReadyH.cons (by simp only [List.getElem?_toArray, List.getElem?_cons_succ, List.getElem?_cons_zero]; rfl) (fun K hK => ?_) ?_
            · go_simp; (go_at_call 85; refine (dTell_any set F fl fc f0 f1 f2 1 _ 0 4319 _ hs hD ?_).mono ?_; (focus (first | exact .inr (.inl ⟨rfl, ha⟩) | exact .inr (.inl ⟨rfl, hz⟩))); (first | rw [HA.out] | rw [HZ.out]); rintro e V5 ⟨rfl, hb⟩; (try go_wp2_with fail)); refine hK.out _ _ (hS4.trans (hb.mono hS4.size)) (fun hHeld => ?_); clear hK K; (try simp only [Act.put, List.setIfInBounds_toArray, List.set_cons_zero, List.set_cons_succ])
              have hS5 := hHeld
              have f9_5 := f9_4.below hb
              refine wpAnyH_ready (rs := [8]) (by kernel_rfl) (by simp) ?_
              refine AllReadyH.cons (by simp only [List.getElem?_toArray, List.getElem?_cons_succ, List.getElem?_cons_zero]; rfl) (fun K hK => ?_) ?_
              · go_simp; refine hK.out _ _ (hS5.alloc hS5.size _) (fun hHeld => ?_); clear hK K; (try simp only [Act.put, List.setIfInBounds_toArray, List.set_cons_zero, List.set_cons_succ])
                have f8_6 := Fresh.new hS5 (.int .i64 0) (.int .i64 0) 27
                have f9_6 := f9_5.alloc (.cells #[.int .i64 0, .int .i64 0] 27)
                have hne' : O9 < V5.heap.size := f9_5.2.1
                obtain ⟨O8, hO8⟩ : ∃ O, O = V5.heap.size := ⟨_, rfl⟩
                rw [← hO8] at f8_6 ⊢
                have hne : O8 ≠ O9 := by omega
                clear hO8
                generalize V5.alloc (.cells #[.int .i64 0, .int .i64 0] 27) = V6 at *
                have hS6 := hHeld
                obtain ⟨a8, b8, c8, d8⟩ := f8_6
                obtain ⟨a9, b9, c9, d9⟩ := f9_6
                clear hHeld
                refine wpAnyH_ready (rs := [10]) (by kernel_rfl) (by simp) ?_
                refine AllReadyH.cons (by simp only [List.getElem?_toArray, List.getElem?_cons_succ, List.getElem?_cons_zero]; rfl) (fun K hK => ?_) AllReadyH.nil
                go_simp; refine hK.out _ _ ((hS6.setCell (p := ⟨O8, 0, none⟩) a8 _).setCell (p := ⟨O8, 1, none⟩) a8 _) (fun hHeld => ?_); clear hK K; (try simp only [Act.put, List.setIfInBounds_toArray, List.set_cons_zero, List.set_cons_succ])
                refine wpAnyH_ready (rs := [11]) (by kernel_rfl) (by simp) ?_
                refine AllReadyH.cons (by simp only [List.getElem?_toArray, List.getElem?_cons_succ, List.getElem?_cons_zero]; rfl) (fun K hK => ?_) AllReadyH.nil
                have c9' : Wr ((V6.setCell ⟨O8, 0, none⟩ (.int .i64 ta.lo)).setCell ⟨O8, 1, none⟩ (.int .i64 ta.hi)) O9 0 := by rw [wr_set, wr_set]; exact c9
                have d9' : Wr ((V6.setCell ⟨O8, 0, none⟩ (.int .i64 ta.lo)).setCell ⟨O8, 1, none⟩ (.int .i64 ta.hi)) O9 1 := by rw [wr_set, wr_set]; exact d9
                have e0 : ((V6.setCell ⟨O8, 0, none⟩ (.int .i64 ta.lo)).setCell ⟨O8, 1, none⟩ (.int .i64 ta.hi)).cell? ⟨O8, 0, none⟩ = some (.int .i64 ta.lo) := (World.cell?_setCell_other _ _ _ _ (fun e => by cases e)).trans (World.cell?_setCell_same' _ _ _ c8.1)
                have e1 : ((V6.setCell ⟨O8, 0, none⟩ (.int .i64 ta.lo)).setCell ⟨O8, 1, none⟩ (.int .i64 ta.hi)).cell? ⟨O8, 1, none⟩ = some (.int .i64 ta.hi) := World.cell?_setCell_same' _ _ _ (by rw [World.cell?_setCell_other _ _ _ _ (fun e => by cases e)]; exact d8.1)
                have es : ((V6.setCell ⟨O8, 0, none⟩ (.int .i64 ta.lo)).setCell ⟨O8, 1, none⟩ (.int .i64 ta.hi)).heap.size = V6.heap.size := by simp
                generalize (V6.setCell ⟨O8, 0, none⟩ (.int .i64 ta.lo)).setCell ⟨O8, 1, none⟩ (.int .i64 ta.hi) = X at *
                go_simp; refine hK.out _ _ ((hHeld.setCell (p := ⟨O9, 0, none⟩) a9 _).setCell (p := ⟨O9, 1, none⟩) a9 _) (fun hEnd => ?_); clear hK K; (try simp only [Act.put, List.setIfInBounds_toArray, List.set_cons_zero, List.set_cons_succ])
                refine wpAnyH_done (by kernel_rfl) ?_ _
                go_wp2_with fail
                go_meet
                exact fin_passed n0 n1 q0 q1 hBW hEnd a8 a9 (by omega) (by omega) hne e0 e1 c9' d9'
              exact AllReadyH.nil
            refine AllReadyH.cons (by simp only [List.getElem?_toArray, List.getElem?_cons_succ, List.getElem?_cons_zero]; rfl) (fun K hK => ?_) ?_
            · go_simp; refine hK.out _ _ (hS4.alloc hS4.size _) (fun hHeld => ?_); clear hK K; (try simp only [Act.put, List.setIfInBounds_toArray, List.set_cons_zero, List.set_cons_succ])
              have f8_5 := Fresh.new hS4 (.int .i64 0) (.int .i64 0) 27
              have f9_5 := f9_4.alloc (.cells #[.int .i64 0, .int .i64 0] 27)
              have hne' : O9 < V4.heap.size := f9_4.2.1
              obtain ⟨O8, hO8⟩ : ∃ O, O = V4.heap.size := ⟨_, rfl⟩
              rw [← hO8] at f8_5 ⊢
              have hne : O8 ≠ O9 := by omega
              clear hO8
              generalize V4.alloc (.cells #[.int .i64 0, .int .i64 0] 27) = V5 at *
              have hS5 := hHeld
              refine wpAnyH_ready (rs := [7]) (by kernel_rfl) (by simp) ?_
              refine AllReadyH.cons (by simp only [List.getElem?_toArray, List.getElem?_cons_succ, List.getElem?_cons_zero]; rfl) (fun K hK => ?_) ?_
              · go_simp; (go_at_call 85; refine (dTell_any set F fl fc f0 f1 f2 1 _ 0 4319 _ hs hD ?_).mono ?_; (focus (first | exact .inr (.inl ⟨rfl, ha⟩) | exact .inr (.inl ⟨rfl, hz⟩))); (first | rw [HA.out] | rw [HZ.out]); rintro e V6 ⟨rfl, hb⟩; (try go_wp2_with fail)); refine hK.out _ _ (hS5.trans (hb.mono hS5.size)) (fun hHeld => ?_); clear hK K; (try simp only [Act.put, List.setIfInBounds_toArray, List.set_cons_zero, List.set_cons_succ])
                have hS6 := hHeld
                have f8_6 := f8_5.below hb
                have f9_6 := f9_5.below hb
                obtain ⟨a8, b8, c8, d8⟩ := f8_6
                obtain ⟨a9, b9, c9, d9⟩ := f9_6
                clear hHeld
                refine wpAnyH_ready (rs := [10]) (by kernel_rfl) (by simp) ?_
                refine AllReadyH.cons (by simp only [List.getElem?_toArray, List.getElem?_cons_succ, List.getElem?_cons_zero]; rfl) (fun K hK => ?_) AllReadyH.nil
                go_simp; refine hK.out _ _ ((hS6.setCell (p := ⟨O8, 0, none⟩) a8 _).setCell (p := ⟨O8, 1, none⟩) a8 _) (fun hHeld => ?_); clear hK K; (try simp only [Act.put, List.setIfInBounds_toArray, List.set_cons_zero, List.set_cons_succ])
                refine wpAnyH_ready (rs := [11]) (by kernel_rfl) (by simp) ?_
                refine AllReadyH.cons (by simp only [List.getElem?_toArray, List.getElem?_cons_succ, List.getElem?_cons_zero]; rfl) (fun K hK => ?_) AllReadyH.nil
                have c9' : Wr ((V6.setCell ⟨O8, 0, none⟩ (.int .i64 ta.lo)).setCell ⟨O8, 1, none⟩ (.int .i64 ta.hi)) O9 0 := by rw [wr_set, wr_set]; exact c9
                have d9' : Wr ((V6.setCell ⟨O8, 0, none⟩ (.int .i64 ta.lo)).setCell ⟨O8, 1, none⟩ (.int .i64 ta.hi)) O9 1 := by rw [wr_set, wr_set]; exact d9
                have e0 : ((V6.setCell ⟨O8, 0, none⟩ (.int .i64 ta.lo)).setCell ⟨O8, 1, none⟩ (.int .i64 ta.hi)).cell? ⟨O8, 0, none⟩ = some (.int .i64 ta.lo) := (World.cell?_setCell_other _ _ _ _ (fun e => by cases e)).trans (World.cell?_setCell_same' _ _ _ c8.1)
                have e1 : ((V6.setCell ⟨O8, 0, none⟩ (.int .i64 ta.lo)).setCell ⟨O8, 1, none⟩ (.int .i64 ta.hi)).cell? ⟨O8, 1, none⟩ = some (.int .i64 ta.hi) := World.cell?_setCell_same' _ _ _ (by rw [World.cell?_setCell_other _ _ _ _ (fun e => by cases e)]; exact d8.1)
                have es : ((V6.setCell ⟨O8, 0, none⟩ (.int .i64 ta.lo)).setCell ⟨O8, 1, none⟩ (.int .i64 ta.hi)).heap.size = V6.heap.size := by simp
                generalize (V6.setCell ⟨O8, 0, none⟩ (.int .i64 ta.lo)).setCell ⟨O8, 1, none⟩ (.int .i64 ta.hi) = X at *
                go_simp; refine hK.out _ _ ((hHeld.setCell (p := ⟨O9, 0, none⟩) a9 _).setCell (p := ⟨O9, 1, none⟩) a9 _) (fun hEnd => ?_); clear hK K; (try simp only [Act.put, List.setIfInBounds_toArray, List.set_cons_zero, List.set_cons_succ])
                refine wpAnyH_done (by kernel_rfl) ?_ _
                go_wp2_with fail
                go_meet
                exact fin_passed n0 n1 q0 q1 hBW hEnd a8 a9 (by omega) (by omega) hne e0 e1 c9' d9'
              exact AllReadyH.nil
            exact AllReadyH.nil
          refine AllReadyH.cons (by simp only [List.getElem?_toArray, List.getElem?_cons_succ, List.getElem?_cons_zero]; rfl) (fun K hK => ?_) ?_
          · go_simp; refine hK.out _ _ (hS3.alloc hS3.size _) (fun hHeld => ?_); clear hK K; (try simp only [Act.put, List.setIfInBounds_toArray, List.set_cons_zero, List.set_cons_succ])
            have f8_4 := Fresh.new hS3 (.int .i64 0) (.int .i64 0) 27
            have f9_4 := f9_3.alloc (.cells #[.int .i64 0, .int .i64 0] 27)
            have hne' : O9 < V3.heap.size := f9_3.2.1
            obtain ⟨O8, hO8⟩ : ∃ O, O = V3.heap.size := ⟨_, rfl⟩
            rw [← hO8] at f8_4 ⊢
            have hne : O8 ≠ O9 := by omega
            clear hO8
            generalize V3.alloc (.cells #[.int .i64 0, .int .i64 0] 27) = V4 at *
            have hS4 := hHeld
            refine wpAnyH_ready (rs := [6]) (by kernel_rfl) (by simp) ?_
            refine AllReadyH.cons (by simp only [List.getElem?_toArray, List.getElem?_cons_succ, List.getElem?_cons_zero]; rfl) (fun K hK => ?_) ?_
            · go_simp; (go_at_call 63; refine (pMinutes_any _).mono ?_; rintro e V5 ⟨rfl, hb⟩; (try go_wp2_with fail)); refine hK.out _ _ (hS4.trans (hb.mono hS4.size)) (fun hHeld => ?_); clear hK K; (try simp only [Act.put, List.setIfInBounds_toArray, List.set_cons_zero, List.set_cons_succ])
              have hS5 := hHeld
              have f8_5 := f8_4.below hb
              have f9_5 := f9_4.below hb
              refine wpAnyH_ready (rs := [7]) (by kernel_rfl) (by simp) ?_
              refine AllReadyH.cons (by simp only [List.getElem?_toArray, List.getElem?_cons_succ, List.getElem?_cons_zero]; rfl) (fun K hK => ?_) ?_
              · go_simp; (go_at_call 85; refine (dTell_any set F fl fc f0 f1 f2 1 _ 0 4319 _ hs hD ?_).mono ?_; (focus (first | exact .inr (.inl ⟨rfl, ha⟩) | exact .inr (.inl ⟨rfl, hz⟩))); (first | rw [HA.out] | rw [HZ.out]); rintro e V6 ⟨rfl, hb⟩; (try go_wp2_with fail)); refine hK.out _ _ (hS5.trans (hb.mono hS5.size)) (fun hHeld => ?_); clear hK K; (try simp only [Act.put, List.setIfInBounds_toArray, List.set_cons_zero, List.set_cons_succ])
                have hS6 := hHeld
                have f8_6 := f8_5.below hb
                have f9_6 := f9_5.below hb
                obtain ⟨a8, b8, c8, d8⟩ := f8_6
                obtain ⟨a9, b9, c9, d9⟩ := f9_6
                clear hHeld
                refine wpAnyH_ready (rs := [10]) (by kernel_rfl) (by simp) ?_
                refine AllReadyH.cons (by simp only [List.getElem?_toArray, List.getElem?_cons_succ, List.getElem?_cons_zero]; rfl) (fun K hK => ?_) AllReadyH.nil
                go_simp; refine hK.out _ _ ((hS6.setCell (p := ⟨O8, 0, none⟩) a8 _).setCell (p := ⟨O8, 1, none⟩) a8 _) (fun hHeld => ?_); clear hK K; (try simp only [Act.put, List.setIfInBounds_toArray, List.set_cons_zero, List.set_cons_succ])
                refine wpAnyH_ready (rs := [11]) (by kernel_rfl) (by simp) ?_
                refine AllReadyH.cons (by simp only [List.getElem?_toArray, List.getElem?_cons_succ, List.getElem?_cons_zero]; rfl) (fun K hK => ?_) AllReadyH.nil
                have c9' : Wr ((V6.setCell ⟨O8, 0, none⟩ (.int .i64 ta.lo)).setCell ⟨O8, 1, none⟩ (.int .i64 ta.hi)) O9 0 := by rw [wr_set, wr_set]; exact c9
                have d9' : Wr ((V6.setCell ⟨O8, 0, none⟩ (.int .i64 ta.lo)).setCell ⟨O8, 1, none⟩ (.int .i64 ta.hi)) O9 1 := by rw [wr_set, wr_set]; exact d9
                have e0 : ((V6.setCell ⟨O8, 0, none⟩ (.int .i64 ta.lo)).setCell ⟨O8, 1, none⟩ (.int .i64 ta.hi)).cell? ⟨O8, 0, none⟩ = some (.int .i64 ta.lo) := (World.cell?_setCell_other _ _ _ _ (fun e => by cases e)).trans (World.cell?_setCell_same' _ _ _ c8.1)
                have e1 : ((V6.setCell ⟨O8, 0, none⟩ (.int .i64 ta.lo)).setCell ⟨O8, 1, none⟩ (.int .i64 ta.hi)).cell? ⟨O8, 1, none⟩ = some (.int .i64 ta.hi) := World.cell?_setCell_same' _ _ _ (by rw [World.cell?_setCell_other _ _ _ _ (fun e => by cases e)]; exact d8.1)
                have es : ((V6.setCell ⟨O8, 0, none⟩ (.int .i64 ta.lo)).setCell ⟨O8, 1, none⟩ (.int .i64 ta.hi)).heap.size = V6.heap.size := by simp
                generalize (V6.setCell ⟨O8, 0, none⟩ (.int .i64 ta.lo)).setCell ⟨O8, 1, none⟩ (.int .i64 ta.hi) = X at *
                go_simp; refine hK.out _ _ ((hHeld.setCell (p := ⟨O9, 0, none⟩) a9 _).setCell (p := ⟨O9, 1, none⟩) a9 _) (fun hEnd => ?_); clear hK K; (try simp only [Act.put, List.setIfInBounds_toArray, List.set_cons_zero, List.set_cons_succ])
                refine wpAnyH_done (by kernel_rfl) ?_ _
                go_wp2_with fail
                go_meet
                exact fin_passed n0 n1 q0 q1 hBW hEnd a8 a9 (by omega) (by omega) hne e0 e1 c9' d9'
              exact AllReadyH.nil
            exact AllReadyH.nil
          exact AllReadyH.nil
        exact AllReadyH.nil
      refine AllReadyH.cons (by simp only [List.getElem?_toArray, List.getElem?_cons_succ, List.getElem?_cons_zero]; rfl) (fun K hK => ?_) ?_
      · go_simp; refine hK.out _ _ (hS1.alloc hS1.size _) (fun hHeld => ?_); clear hK K; (try simp only [Act.put, List.setIfInBounds_toArray, List.set_cons_zero, List.set_cons_succ])
        have f8_2 := Fresh.new hS1 (.int .i64 0) (.int .i64 0) 27
        obtain ⟨O8, hO8⟩ : ∃ O, O = V1.heap.size := ⟨_, rfl⟩
        rw [← hO8] at f8_2 ⊢
        clear hO8
        generalize V1.alloc (.cells #[.int .i64 0, .int .i64 0] 27) = V2 at *
        have hS2 := hHeld
        refine wpAnyH_ready (rs := [3, 9]) (by kernel_rfl) (by simp) ?_
        refine AllReadyH.cons (by simp only [List.getElem?_toArray, List.getElem?_cons_succ, List.getElem?_cons_zero]; rfl) (fun K hK => ?_) ?_
        · go_simp; (go_at_call 85; refine (dTell_any set F fl fc f0 f1 f2 1 _ 0 4319 _ hs hD ?_).mono ?_; (focus (first | exact .inr (.inl ⟨rfl, ha⟩) | exact .inr (.inl ⟨rfl, hz⟩))); (first | rw [HA.out] | rw [HZ.out]); rintro e V3 ⟨rfl, hb⟩; (try go_wp2_with fail)); refine hK.out _ _ (hS2.trans (hb.mono hS2.size)) (fun hHeld => ?_); clear hK K; (try simp only [Act.put, List.setIfInBounds_toArray, List.set_cons_zero, List.set_cons_succ])
          have hS3 := hHeld
          have f8_3 := f8_2.below hb
          refine wpAnyH_ready (rs := [6, 9]) (by kernel_rfl) (by simp) ?_
          refine AllReadyH.cons (by simp only [List.getElem?_toArray, List.getElem?_cons_succ, List.getElem?_cons_zero]; rfl) (fun K hK => ?_) ?_
          · go_simp; (go_at_call 63; refine (pMinutes_any _).mono ?_; rintro e V4 ⟨rfl, hb⟩; (try go_wp2_with fail)); refine hK.out _ _ (hS3.trans (hb.mono hS3.size)) (fun hHeld => ?_); clear hK K; (try simp only [Act.put, List.setIfInBounds_toArray, List.set_cons_zero, List.set_cons_succ])
            have hS4 := hHeld
            have f8_4 := f8_3.below hb
            refine wpAnyH_ready (rs := [7, 9]) (by kernel_rfl) (by simp) ?_
            refine AllReadyH.cons (by simp only [List.getElem?_toArray, List.getElem?_cons_succ, List.getElem?_cons_zero]; rfl) (fun K hK => ?_) ?_
            · go_simp; (go_at_call 85; refine (dTell_any set F fl fc f0 f1 f2 1 _ 0 4319 _ hs hD ?_).mono ?_; (focus (first | exact .inr (.inl ⟨rfl, ha⟩) | exact .inr (.inl ⟨rfl, hz⟩))); (first | rw [HA.out] | rw [HZ.out]); rintro e V5 ⟨rfl, hb⟩; (try go_wp2_with fail)); refine hK.out _ _ (hS4.trans (hb.mono hS4.size)) (fun hHeld => ?_); clear hK K; (try simp only [Act.put, List.setIfInBounds_toArray, List.set_cons_zero, List.set_cons_succ])
              have hS5 := hHeld
              have f8_5 := f8_4.below hb
              refine wpAnyH_ready (rs := [9]) (by kernel_rfl) (by simp) ?_
              refine AllReadyH.cons (by simp only [List.getElem?_toArray, List.getElem?_cons_succ, List.getElem?_cons_zero]; rfl) (fun K hK => ?_) ?_
              · go_simp; refine hK.out _ _ (hS5.alloc hS5.size _) (fun hHeld => ?_); clear hK K; (try simp only [Act.put, List.setIfInBounds_toArray, List.set_cons_zero, List.set_cons_succ])
                have f9_6 := Fresh.new hS5 (.int .i64 0) (.int .i64 0) 27
                have f8_6 := f8_5.alloc (.cells #[.int .i64 0, .int .i64 0] 27)
                have hne' : O8 < V5.heap.size := f8_5.2.1
                obtain ⟨O9, hO9⟩ : ∃ O, O = V5.heap.size := ⟨_, rfl⟩
                rw [← hO9] at f9_6 ⊢
                have hne : O8 ≠ O9 := by omega
                clear hO9
                generalize V5.alloc (.cells #[.int .i64 0, .int .i64 0] 27) = V6 at *
                have hS6 := hHeld
                obtain ⟨a8, b8, c8, d8⟩ := f8_6
                obtain ⟨a9, b9, c9, d9⟩ := f9_6
                clear hHeld
                refine wpAnyH_ready (rs := [10]) (by kernel_rfl) (by simp) ?_
                refine AllReadyH.cons (by simp only [List.getElem?_toArray, List.getElem?_cons_succ, List.getElem?_cons_zero]; rfl) (fun K hK => ?_) AllReadyH.nil
                go_simp; refine hK.out _ _ ((hS6.setCell (p := ⟨O8, 0, none⟩) a8 _).setCell (p := ⟨O8, 1, none⟩) a8 _) (fun hHeld => ?_); clear hK K; (try simp only [Act.put, List.setIfInBounds_toArray, List.set_cons_zero, List.set_cons_succ])
                refine wpAnyH_ready (rs := [11]) (by kernel_rfl) (by simp) ?_
                refine AllReadyH.cons (by simp only [List.getElem?_toArray, List.getElem?_cons_succ, List.getElem?_cons_zero]; rfl) (fun K hK => ?_) AllReadyH.nil
                have c9' : Wr ((V6.setCell ⟨O8, 0, none⟩ (.int .i64 ta.lo)).setCell ⟨O8, 1, none⟩ (.int .i64 ta.hi)) O9 0 := by rw [wr_set, wr_set]; exact c9
                have d9' : Wr ((V6.setCell ⟨O8, 0, none⟩ (.int .i64 ta.lo)).setCell ⟨O8, 1, none⟩ (.int .i64 ta.hi)) O9 1 := by rw [wr_set, wr_set]; exact d9
                have e0 : ((V6.setCell ⟨O8, 0, none⟩ (.int .i64 ta.lo)).setCell ⟨O8, 1, none⟩ (.int .i64 ta.hi)).cell? ⟨O8, 0, none⟩ = some (.int .i64 ta.lo) := (World.cell?_setCell_other _ _ _ _ (fun e => by cases e)).trans (World.cell?_setCell_same' _ _ _ c8.1)
                have e1 : ((V6.setCell ⟨O8, 0, none⟩ (.int .i64 ta.lo)).setCell ⟨O8, 1, none⟩ (.int .i64 ta.hi)).cell? ⟨O8, 1, none⟩ = some (.int .i64 ta.hi) := World.cell?_setCell_same' _ _ _ (by rw [World.cell?_setCell_other _ _ _ _ (fun e => by cases e)]; exact d8.1)
                have es : ((V6.setCell ⟨O8, 0, none⟩ (.int .i64 ta.lo)).setCell ⟨O8, 1, none⟩ (.int .i64 ta.hi)).heap.size = V6.heap.size := by simp
                generalize (V6.setCell ⟨O8, 0, none⟩ (.int .i64 ta.lo)).setCell ⟨O8, 1, none⟩ (.int .i64 ta.hi) = X at *
                go_simp; refine hK.out _ _ ((hHeld.setCell (p := ⟨O9, 0, none⟩) a9 _).setCell (p := ⟨O9, 1, none⟩) a9 _) (fun hEnd => ?_); clear hK K; (try simp only [Act.put, List.setIfInBounds_toArray, List.set_cons_zero, List.set_cons_succ])
                refine wpAnyH_done (by kernel_rfl) ?_ _
                go_wp2_with fail
                go_meet
                exact fin_passed n0 n1 q0 q1 hBW hEnd a8 a9 (by omega) (by omega) hne e0 e1 c9' d9'
              exact AllReadyH.nil
            refine AllReadyH.cons (by simp only [List.getElem?_toArray, List.getElem?_cons_succ, List.getElem?_cons_zero]; rfl) (fun K hK => ?_) ?_
            · go_simp; refine hK.out _ _ (hS4.alloc hS4.size _) (fun hHeld => ?_); clear hK K; (try simp only [Act.put, List.setIfInBounds_toArray, List.set_cons_zero, List.set_cons_succ])
              have f9_5 := Fresh.new hS4 (.int .i64 0) (.int .i64 0) 27
              have f8_5 := f8_4.alloc (.cells #[.int .i64 0, .int .i64 0] 27)
              have hne' : O8 < V4.heap.size := f8_4.2.1
              obtain ⟨O9, hO9⟩ : ∃ O, O = V4.heap.size := ⟨_, rfl⟩
              rw [← hO9] at f9_5 ⊢
              have hne : O8 ≠ O9 := by omega
              clear hO9
              generalize V4.alloc (.cells #[.int .i64 0, .int .i64 0] 27) = V5 at *
              have hS5 := hHeld
              refine wpAnyH_ready (rs := [7]) (by kernel_rfl) (by simp) ?_
              refine AllReadyH.cons (by simp only [List.getElem?_toArray, List.getElem?_cons_succ, List.getElem?_cons_zero]; rfl) (fun K hK => ?_) ?_
              · go_simp; (go_at_call 85; refine (dTell_any set F fl fc f0 f1 f2 1 _ 0 4319 _ hs hD ?_).mono ?_; (focus (first | exact .inr (.inl ⟨rfl, ha⟩) | exact .inr (.inl ⟨rfl, hz⟩))); (first | rw [HA.out] | rw [HZ.out]); rintro e V6 ⟨rfl, hb⟩; (try go_wp2_with fail)); refine hK.out _ _ (hS5.trans (hb.mono hS5.size)) (fun hHeld => ?_); clear hK K; (try simp only [Act.put, List.setIfInBounds_toArray, List.set_cons_zero, List.set_cons_succ])
                have hS6 := hHeld
                have f9_6 := f9_5.below hb
                have f8_6 := f8_5.below hb
                obtain ⟨a8, b8, c8, d8⟩ := f8_6
                obtain ⟨a9, b9, c9, d9⟩ := f9_6
                clear hHeld
                refine wpAnyH_ready (rs := [10]) (by kernel_rfl) (by simp) ?_
                refine AllReadyH.cons (by simp only [List.getElem?_toArray, List.getElem?_cons_succ, List.getElem?_cons_zero]; rfl) (fun K hK => ?_) AllReadyH.nil
                go_simp; refine hK.out _ _ ((hS6.setCell (p := ⟨O8, 0, none⟩) a8 _).setCell (p := ⟨O8, 1, none⟩) a8 _) (fun hHeld => ?_); clear hK K; (try simp only [Act.put, List.setIfInBounds_toArray, List.set_cons_zero, List.set_cons_succ])
                refine wpAnyH_ready (rs := [11]) (by kernel_rfl) (by simp) ?_
                refine AllReadyH.cons (by simp only [List.getElem?_toArray, List.getElem?_cons_succ, List.getElem?_cons_zero]; rfl) (fun K hK => ?_) AllReadyH.nil
                have c9' : Wr ((V6.setCell ⟨O8, 0, none⟩ (.int .i64 ta.lo)).setCell ⟨O8, 1, none⟩ (.int .i64 ta.hi)) O9 0 := by rw [wr_set, wr_set]; exact c9
                have d9' : Wr ((V6.setCell ⟨O8, 0, none⟩ (.int .i64 ta.lo)).setCell ⟨O8, 1, none⟩ (.int .i64 ta.hi)) O9 1 := by rw [wr_set, wr_set]; exact d9
                have e0 : ((V6.setCell ⟨O8, 0, none⟩ (.int .i64 ta.lo)).setCell ⟨O8, 1, none⟩ (.int .i64 ta.hi)).cell? ⟨O8, 0, none⟩ = some (.int .i64 ta.lo) := (World.cell?_setCell_other _ _ _ _ (fun e => by cases e)).trans (World.cell?_setCell_same' _ _ _ c8.1)
                have e1 : ((V6.setCell ⟨O8, 0, none⟩ (.int .i64 ta.lo)).setCell ⟨O8, 1, none⟩ (.int .i64 ta.hi)).cell? ⟨O8, 1, none⟩ = some (.int .i64 ta.hi) := World.cell?_setCell_same' _ _ _ (by rw [World.cell?_setCell_other _ _ _ _ (fun e => by cases e)]; exact d8.1)
                have es : ((V6.setCell ⟨O8, 0, none⟩ (.int .i64 ta.lo)).setCell ⟨O8, 1, none⟩ (.int .i64 ta.hi)).heap.size = V6.heap.size := by simp
                generalize (V6.setCell ⟨O8, 0, none⟩ (.int .i64 ta.lo)).setCell ⟨O8, 1, none⟩ (.int .i64 ta.hi) = X at *
                go_simp; refine hK.out _ _ ((hHeld.setCell (p := ⟨O9, 0, none⟩) a9 _).setCell (p := ⟨O9, 1, none⟩) a9 _) (fun hEnd => ?_); clear hK K; (try simp only [Act.put, List.setIfInBounds_toArray, List.set_cons_zero, List.set_cons_succ])
                refine wpAnyH_done (by kernel_rfl) ?_ _
                go_wp2_with fail
                go_meet
                exact fin_passed n0 n1 q0 q1 hBW hEnd a8 a9 (by omega) (by omega) hne e0 e1 c9' d9'
              exact AllReadyH.nil
            exact AllReadyH.nil
          refine AllReadyH.cons (by simp only [List.getElem?_toArray, List.getElem?_cons_succ, List.getElem?_cons_zero]; rfl) (fun K hK => ?_) ?_
          · go_simp; refine hK.out _ _ (hS3.alloc hS3.size _) (fun hHeld => ?_); clear hK K; (try simp only [Act.put, List.setIfInBounds_toArray, List.set_cons_zero, List.set_cons_succ])
            have f9_4 := Fresh.new hS3 (.int .i64 0) (.int .i64 0) 27
            have f8_4 := f8_3.alloc (.cells #[.int .i64 0, .int .i64 0] 27)
            have hne' : O8 < V3.heap.size := f8_3.2.1
            obtain ⟨O9, hO9⟩ : ∃ O, O = V3.heap.size := ⟨_, rfl⟩
            rw [← hO9] at f9_4 ⊢
            have hne : O8 ≠ O9 := by omega
            clear hO9
            generalize V3.alloc (.cells #[.int .i64 0, .int .i64 0] 27) = V4 at *
            have hS4 := hHeld
            refine wpAnyH_ready (rs := [6]) (by kernel_rfl) (by simp) ?_
            refine AllReadyH.cons (by simp only [List.getElem?_toArray, List.getElem?_cons_succ, List.getElem?_cons_zero]; rfl) (fun K hK => ?_) ?_
            · go_simp; (go_at_call 63; refine (pMinutes_any _).mono ?_; rintro e V5 ⟨rfl, hb⟩; (try go_wp2_with fail)); refine hK.out _ _ (hS4.trans (hb.mono hS4.size)) (fun hHeld => ?_); clear hK K; (try simp only [Act.put, List.setIfInBounds_toArray, List.set_cons_zero, List.set_cons_succ])
              have hS5 := hHeld
              have f9_5 := f9_4.below hb
              have f8_5 := f8_4.below hb
              refine wpAnyH_ready (rs := [7]) (by kernel_rfl) (by simp) ?_
              refine AllReadyH.cons (by simp only [List.getElem?_toArray, List.getElem?_cons_succ, List.getElem?_cons_zero]; rfl) (fun K hK => ?_) ?_
              · go_simp; (go_at_call 85; refine (dTell_any set F fl fc f0 f1 f2 1 _ 0 4319 _ hs hD ?_).mono ?_; (focus (first | exact .inr (.inl ⟨rfl, ha⟩) | exact .inr (.inl ⟨rfl, hz⟩))); (first | rw [HA.out] | rw [HZ.out]); rintro e V6 ⟨rfl, hb⟩; (try go_wp2_with fail)); refine hK.out _ _ (hS5.trans (hb.mono hS5.size)) (fun hHeld => ?_); clear hK K; (try simp only [Act.put, List.setIfInBounds_toArray, List.set_cons_zero, List.set_cons_succ])
                have hS6 := hHeld
                have f9_6 := f9_5.below hb
                have f8_6 := f8_5.below hb
                obtain ⟨a8, b8, c8, d8⟩ := f8_6
                obtain ⟨a9, b9, c9, d9⟩ := f9_6
                clear hHeld
                refine wpAnyH_ready (rs := [10]) (by kernel_rfl) (by simp) ?_
                refine AllReadyH.cons (by simp only [List.getElem?_toArray, List.getElem?_cons_succ, List.getElem?_cons_zero]; rfl) (fun K hK => ?_) AllReadyH.nil
                go_simp; refine hK.out _ _ ((hS6.setCell (p := ⟨O8, 0, none⟩) a8 _).setCell (p := ⟨O8, 1, none⟩) a8 _) (fun hHeld => ?_); clear hK K; (try simp only [Act.put, List.setIfInBounds_toArray, List.set_cons_zero, List.set_cons_succ])
                refine wpAnyH_ready (rs := [11]) (by kernel_rfl) (by simp) ?_
                refine AllReadyH.cons (by simp only [List.getElem?_toArray, List.getElem?_cons_succ, List.getElem?_cons_zero]; rfl) (fun K hK => ?_) AllReadyH.nil
                have c9' : Wr ((V6.setCell ⟨O8, 0, none⟩ (.int .i64 ta.lo)).setCell ⟨O8, 1, none⟩ (.int .i64 ta.hi)) O9 0 := by rw [wr_set, wr_set]; exact c9
                have d9' : Wr ((V6.setCell ⟨O8, 0, none⟩ (.int .i64 ta.lo)).setCell ⟨O8, 1, none⟩ (.int .i64 ta.hi)) O9 1 := by rw [wr_set, wr_set]; exact d9
                have e0 : ((V6.setCell ⟨O8, 0, none⟩ (.int .i64 ta.lo)).setCell ⟨O8, 1, none⟩ (.int .i64 ta.hi)).cell? ⟨O8, 0, none⟩ = some (.int .i64 ta.lo) := (World.cell?_setCell_other _ _ _ _ (fun e => by cases e)).trans (World.cell?_setCell_same' _ _ _ c8.1)
                have e1 : ((V6.setCell ⟨O8, 0, none⟩ (.int .i64 ta.lo)).setCell ⟨O8, 1, none⟩ (.int .i64 ta.hi)).cell? ⟨O8, 1, none⟩ = some (.int .i64 ta.hi) := World.cell?_setCell_same' _ _ _ (by rw [World.cell?_setCell_other _ _ _ _ (fun e => by cases e)]; exact d8.1)
                have es : ((V6.setCell ⟨O8, 0, none⟩ (.int .i64 ta.lo)).setCell ⟨O8, 1, none⟩ (.int .i64 ta.hi)).heap.size = V6.heap.size := by simp
                generalize (V6.setCell ⟨O8, 0, none⟩ (.int .i64 ta.lo)).setCell ⟨O8, 1, none⟩ (.int .i64 ta.hi) = X at *
                go_simp; refine hK.out _ _ ((hHeld.setCell (p := ⟨O9, 0, none⟩) a9 _).setCell (p := ⟨O9, 1, none⟩) a9 _) (fun hEnd => ?_); clear hK K; (try simp only [Act.put, List.setIfInBounds_toArray, List.set_cons_zero, List.set_cons_succ])
                refine wpAnyH_done (by kernel_rfl) ?_ _
                go_wp2_with fail
                go_meet
                exact fin_passed n0 n1 q0 q1 hBW hEnd a8 a9 (by omega) (by omega) hne e0 e1 c9' d9'
              exact AllReadyH.nil
            exact AllReadyH.nil
          exact AllReadyH.nil
        refine AllReadyH.cons (by simp only [List.getElem?_toArray, List.getElem?_cons_succ, List.getElem?_cons_zero]; rfl) (fun K hK => ?_) ?_
        · go_simp; refine hK.out _ _ (hS2.alloc hS2.size _) (fun hHeld => ?_); clear hK K; (try simp only [Act.put, List.setIfInBounds_toArray, List.set_cons_zero, List.set_cons_succ])
          have f9_3 := Fresh.new hS2 (.int .i64 0) (.int .i64 0) 27
          have f8_3 := f8_2.alloc (.cells #[.int .i64 0, .int .i64 0] 27)
          have hne' : O8 < V2.heap.size := f8_2.2.1
          obtain ⟨O9, hO9⟩ : ∃ O, O = V2.heap.size := ⟨_, rfl⟩
          rw [← hO9] at f9_3 ⊢
          have hne : O8 ≠ O9 := by omega
          clear hO9
          generalize V2.alloc (.cells #[.int .i64 0, .int .i64 0] 27) = V3 at *
          have hS3 := hHeld
          refine wpAnyH_ready (rs := [3]) (by kernel_rfl) (by simp) ?_
          refine AllReadyH.cons (by simp only [List.getElem?_toArray, List.getElem?_cons_succ, List.getElem?_cons_zero]; rfl) (fun K hK => ?_) ?_
          · go_simp; (go_at_call 85; refine (dTell_any set F fl fc f0 f1 f2 1 _ 0 4319 _ hs hD ?_).mono ?_; (focus (first | exact .inr (.inl ⟨rfl, ha⟩) | exact .inr (.inl ⟨rfl, hz⟩))); (first | rw [HA.out] | rw [HZ.out]); rintro e V4 ⟨rfl, hb⟩; (try go_wp2_with fail)); refine hK.out _ _ (hS3.trans (hb.mono hS3.size)) (fun hHeld => ?_); clear hK K; (try simp only [Act.put, List.setIfInBounds_toArray, List.set_cons_zero, List.set_cons_succ])
            have hS4 := hHeld
            have f9_4 := f9_3.below hb
            have f8_4 := f8_3.below hb
            refine wpAnyH_ready (rs := [6]) (by kernel_rfl) (by simp) ?_
            refine AllReadyH.cons (by simp only [List.getElem?_toArray, List.getElem?_cons_succ, List.getElem?_cons_zero]; rfl) (fun K hK => ?_) ?_
            · go_simp; (go_at_call 63; refine (pMinutes_any _).mono ?_; rintro e V5 ⟨rfl, hb⟩; (try go_wp2_with fail)); refine hK.out _ _ (hS4.trans (hb.mono hS4.size)) (fun hHeld => ?_); clear hK K; (try simp only [Act.put, List.setIfInBounds_toArray, List.set_cons_zero, List.set_cons_succ])
              have hS5 := hHeld
              have f9_5 := f9_4.below hb
              have f8_5 := f8_4.below hb
              refine wpAnyH_ready (rs := [7]) (by kernel_rfl) (by simp) ?_
              refine AllReadyH.cons (by simp only [List.getElem?_toArray, List.getElem?_cons_succ, List.getElem?_cons_zero]; rfl) (fun K hK => ?_) ?_
              · go_simp; (go_at_call 85; refine (dTell_any set F fl fc f0 f1 f2 1 _ 0 4319 _ hs hD ?_).mono ?_; (focus (first | exact .inr (.inl ⟨rfl, ha⟩) | exact .inr (.inl ⟨rfl, hz⟩))); (first | rw [HA.out] | rw [HZ.out]); rintro e V6 ⟨rfl, hb⟩; (try go_wp2_with fail)); refine hK.out _ _ (hS5.trans (hb.mono hS5.size)) (fun hHeld => ?_); clear hK K; (try simp only [Act.put, List.setIfInBounds_toArray, List.set_cons_zero, List.set_cons_succ])
                have hS6 := hHeld
                have f9_6 := f9_5.below hb
                have f8_6 := f8_5.below hb
                obtain ⟨a8, b8, c8, d8⟩ := f8_6
                obtain ⟨a9, b9, c9, d9⟩ := f9_6
                clear hHeld
                refine wpAnyH_ready (rs := [10]) (by kernel_rfl) (by simp) ?_
                refine AllReadyH.cons (by simp only [List.getElem?_toArray, List.getElem?_cons_succ, List.getElem?_cons_zero]; rfl) (fun K hK => ?_) AllReadyH.nil
                go_simp; refine hK.out _ _ ((hS6.setCell (p := ⟨O8, 0, none⟩) a8 _).setCell (p := ⟨O8, 1, none⟩) a8 _) (fun hHeld => ?_); clear hK K; (try simp only [Act.put, List.setIfInBounds_toArray, List.set_cons_zero, List.set_cons_succ])
                refine wpAnyH_ready (rs := [11]) (by kernel_rfl) (by simp) ?_
                refine AllReadyH.cons (by simp only [List.getElem?_toArray, List.getElem?_cons_succ, List.getElem?_cons_zero]; rfl) (fun K hK => ?_) AllReadyH.nil
                have c9' : Wr ((V6.setCell ⟨O8, 0, none⟩ (.int .i64 ta.lo)).setCell ⟨O8, 1, none⟩ (.int .i64 ta.hi)) O9 0 := by rw [wr_set, wr_set]; exact c9
                have d9' : Wr ((V6.setCell ⟨O8, 0, none⟩ (.int .i64 ta.lo)).setCell ⟨O8, 1, none⟩ (.int .i64 ta.hi)) O9 1 := by rw [wr_set, wr_set]; exact d9
                have e0 : ((V6.setCell ⟨O8, 0, none⟩ (.int .i64 ta.lo)).setCell ⟨O8, 1, none⟩ (.int .i64 ta.hi)).cell? ⟨O8, 0, none⟩ = some (.int .i64 ta.lo) := (World.cell?_setCell_other _ _ _ _ (fun e => by cases e)).trans (World.cell?_setCell_same' _ _ _ c8.1)
                have e1 : ((V6.setCell ⟨O8, 0, none⟩ (.int .i64 ta.lo)).setCell ⟨O8, 1, none⟩ (.int .i64 ta.hi)).cell? ⟨O8, 1, none⟩ = some (.int .i64 ta.hi) := World.cell?_setCell_same' _ _ _ (by rw [World.cell?_setCell_other _ _ _ _ (fun e => by cases e)]; exact d8.1)
                have es : ((V6.setCell ⟨O8, 0, none⟩ (.int .i64 ta.lo)).setCell ⟨O8, 1, none⟩ (.int .i64 ta.hi)).heap.size = V6.heap.size := by simp
                generalize (V6.setCell ⟨O8, 0, none⟩ (.int .i64 ta.lo)).setCell ⟨O8, 1, none⟩ (.int .i64 ta.hi) = X at *
                go_simp; refine hK.out _ _ ((hHeld.setCell (p := ⟨O9, 0, none⟩) a9 _).setCell (p := ⟨O9, 1, none⟩) a9 _) (fun hEnd => ?_); clear hK K; (try simp only [Act.put, List.setIfInBounds_toArray, List.set_cons_zero, List.set_cons_succ])
                refine wpAnyH_done (by kernel_rfl) ?_ _
                go_wp2_with fail
                go_meet
                exact fin_passed n0 n1 q0 q1 hBW hEnd a8 a9 (by omega) (by omega) hne e0 e1 c9' d9'
              exact AllReadyH.nil
            exact AllReadyH.nil
          exact AllReadyH.nil
        exact AllReadyH.nil
      refine AllReadyH.cons (by simp only [List.getElem?_toArray, List.getElem?_cons_succ, List.getElem?_cons_zero]; rfl) (fun K hK => ?_) ?_
      · go_simp; refine hK.out _ _ (hS1.alloc hS1.size _) (fun hHeld => ?_); clear hK K; (try simp only [Act.put, List.setIfInBounds_toArray, List.set_cons_zero, List.set_cons_succ])
        have f9_2 := Fresh.new hS1 (.int .i64 0) (.int .i64 0) 27
        obtain ⟨O9, hO9⟩ : ∃ O, O = V1.heap.size := ⟨_, rfl⟩
        rw [← hO9] at f9_2 ⊢
        clear hO9
        generalize V1.alloc (.cells #[.int .i64 0, .int .i64 0] 27) = V2 at *
        have hS2 := hHeld
        refine wpAnyH_ready (rs := [3, 8]) (by kernel_rfl) (by simp) ?_
        refine AllReadyH.cons (by simp only [List.getElem?_toArray, List.getElem?_cons_succ, List.getElem?_cons_zero]; rfl) (fun K hK => ?_) ?_
        · go_simp; (go_at_call 85; refine (dTell_any set F fl fc f0 f1 f2 1 _ 0 4319 _ hs hD ?_).mono ?_; (focus (first | exact .inr (.inl ⟨rfl, ha⟩) | exact .inr (.inl ⟨rfl, hz⟩))); (first | rw [HA.out] | rw [HZ.out]); rintro e V3 ⟨rfl, hb⟩; (try go_wp2_with fail)); refine hK.out _ _ (hS2.trans (hb.mono hS2.size)) (fun hHeld => ?_); clear hK K; (try simp only [Act.put, List.setIfInBounds_toArray, List.set_cons_zero, List.set_cons_succ])
          have hS3 := hHeld
          have f9_3 := f9_2.below hb
          refine wpAnyH_ready (rs := [6, 8]) (by kernel_rfl) (by simp) ?_
          refine AllReadyH.cons (by simp only [List.getElem?_toArray, List.getElem?_cons_succ, List.getElem?_cons_zero]; rfl) (fun K hK => ?_) ?_
          · go_simp; (go_at_call 63; refine (pMinutes_any _).mono ?_; rintro e V4 ⟨rfl, hb⟩; (try go_wp2_with fail)); refine hK.out _ _ (hS3.trans (hb.mono hS3.size)) (fun hHeld => ?_); clear hK K; (try simp only [Act.put, List.setIfInBounds_toArray, List.set_cons_zero, List.set_cons_succ])
            have hS4 := hHeld
            have f9_4 := f9_3.below hb
            refine wpAnyH_ready (rs := [7, 8]) (by kernel_rfl) (by simp) ?_
            refine AllReadyH.cons (by simp only [List.getElem?_toArray, List.getElem?_cons_succ, List.getElem?_cons_zero]; rfl) (fun K hK => ?_) ?_
            · go_simp; (go_at_call 85; refine (dTell_any set F fl fc f0 f1 f2 1 _ 0 4319 _ hs hD ?_).mono ?_; (focus (first | exact .inr (.inl ⟨rfl, ha⟩) | exact .inr (.inl ⟨rfl, hz⟩))); (first | rw [HA.out] | rw [HZ.out]); rintro e V5 ⟨rfl, hb⟩; (try go_wp2_with fail)); refine hK.out _ _ (hS4.trans (hb.mono hS4.size)) (fun hHeld => ?_); clear hK K; (try simp only [Act.put, List.setIfInBounds_toArray, List.set_cons_zero, List.set_cons_succ])
              have hS5 := hHeld
              have f9_5 := f9_4.below hb
              refine wpAnyH_ready (rs := [8]) (by kernel_rfl) (by simp) ?_
              refine AllReadyH.cons (by simp only [List.getElem?_toArray, List.getElem?_cons_succ, List.getElem?_cons_zero]; rfl) (fun K hK => ?_) ?_
              · go_simp; refine hK.out _ _ (hS5.alloc hS5.size _) (fun hHeld => ?_); clear hK K; (try simp only [Act.put, List.setIfInBounds_toArray, List.set_cons_zero, List.set_cons_succ])
                have f8_6 := Fresh.new hS5 (.int .i64 0) (.int .i64 0) 27
                have f9_6 := f9_5.alloc (.cells #[.int .i64 0, .int .i64 0] 27)
                have hne' : O9 < V5.heap.size := f9_5.2.1
                obtain ⟨O8, hO8⟩ : ∃ O, O = V5.heap.size := ⟨_, rfl⟩
                rw [← hO8] at f8_6 ⊢
                have hne : O8 ≠ O9 := by omega
                clear hO8
                generalize V5.alloc (.cells #[.int .i64 0, .int .i64 0] 27) = V6 at *
                have hS6 := hHeld
                obtain ⟨a8, b8, c8, d8⟩ := f8_6
                obtain ⟨a9, b9, c9, d9⟩ := f9_6
                clear hHeld
                refine wpAnyH_ready (rs := [10]) (by kernel_rfl) (by simp) ?_
                refine AllReadyH.cons (by simp only [List.getElem?_toArray, List.getElem?_cons_succ, List.getElem?_cons_zero]; rfl) (fun K hK => ?_) AllReadyH.nil
                go_simp; refine hK.out _ _ ((hS6.setCell (p := ⟨O8, 0, none⟩) a8 _).setCell (p := ⟨O8, 1, none⟩) a8 _) (fun hHeld => ?_); clear hK K; (try simp only [Act.put, List.setIfInBounds_toArray, List.set_cons_zero, List.set_cons_succ])
                refine wpAnyH_ready (rs := [11]) (by kernel_rfl) (by simp) ?_
                refine AllReadyH.cons (by simp only [List.getElem?_toArray, List.getElem?_cons_succ, List.getElem?_cons_zero]; rfl) (fun K hK => ?_) AllReadyH.nil
                have c9' : Wr ((V6.setCell ⟨O8, 0, none⟩ (.int .i64 ta.lo)).setCell ⟨O8, 1, none⟩ (.int .i64 ta.hi)) O9 0 := by rw [wr_set, wr_set]; exact c9
                have d9' : Wr ((V6.setCell ⟨O8, 0, none⟩ (.int .i64 ta.lo)).setCell ⟨O8, 1, none⟩ (.int .i64 ta.hi)) O9 1 := by rw [wr_set, wr_set]; exact d9
                have e0 : ((V6.setCell ⟨O8, 0, none⟩ (.int .i64 ta.lo)).setCell ⟨O8, 1, none⟩ (.int .i64 ta.hi)).cell? ⟨O8, 0, none⟩ = some (.int .i64 ta.lo) := (World.cell?_setCell_other _ _ _ _ (fun e => by cases e)).trans (World.cell?_setCell_same' _ _ _ c8.1)
                have e1 : ((V6.setCell ⟨O8, 0, none⟩ (.int .i64 ta.lo)).setCell ⟨O8, 1, none⟩ (.int .i64 ta.hi)).cell? ⟨O8, 1, none⟩ = some (.int .i64 ta.hi) := World.cell?_setCell_same' _ _ _ (by rw [World.cell?_setCell_other _ _ _ _ (fun e => by cases e)]; exact d8.1)
                have es : ((V6.setCell ⟨O8, 0, none⟩ (.int .i64 ta.lo)).setCell ⟨O8, 1, none⟩ (.int .i64 ta.hi)).heap.size = V6.heap.size := by simp
                generalize (V6.setCell ⟨O8, 0, none⟩ (.int .i64 ta.lo)).setCell ⟨O8, 1, none⟩ (.int .i64 ta.hi) = X at *
                go_simp; refine hK.out _ _ ((hHeld.setCell (p := ⟨O9, 0, none⟩) a9 _).setCell (p := ⟨O9, 1, none⟩) a9 _) (fun hEnd => ?_); clear hK K; (try simp only [Act.put, List.setIfInBounds_toArray, List.set_cons_zero, List.set_cons_succ])
                refine wpAnyH_done (by kernel_rfl) ?_ _
                go_wp2_with fail
                go_meet
                exact fin_passed n0 n1 q0 q1 hBW hEnd a8 a9 (by omega) (by omega) hne e0 e1 c9' d9'
              exact AllReadyH.nil
            refine AllReadyH.cons (by simp only [List.getElem?_toArray, List.getElem?_cons_succ, List.getElem?_cons_zero]; rfl) (fun K hK => ?_) ?_
            · go_simp; refine hK.out _ _ (hS4.alloc hS4.size _) (fun hHeld => ?_); clear hK K; (try simp only [Act.put, List.setIfInBounds_toArray, List.set_cons_zero, List.set_cons_succ])
              have f8_5 := Fresh.new hS4 (.int .i64 0) (.int .i64 0) 27
              have f9_5 := f9_4.alloc (.cells #[.int .i64 0, .int .i64 0] 27)
              have hne' : O9 < V4.heap.size := f9_4.2.1
              obtain ⟨O8, hO8⟩ : ∃ O, O = V4.heap.size := ⟨_, rfl⟩
              rw [← hO8] at f8_5 ⊢
              have hne : O8 ≠ O9 := by omega
              clear hO8
              generalize V4.alloc (.cells #[.int .i64 0, .int .i64 0] 27) = V5 at *
              have hS5 := hHeld
              refine wpAnyH_ready (rs := [7]) (by kernel_rfl) (by simp) ?_
              refine AllReadyH.cons (by simp only [List.getElem?_toArray, List.getElem?_cons_succ, List.getElem?_cons_zero]; rfl) (fun K hK => ?_) ?_
              · go_simp; (go_at_call 85; refine (dTell_any set F fl fc f0 f1 f2 1 _ 0 4319 _ hs hD ?_).mono ?_; (focus (first | exact .inr (.inl ⟨rfl, ha⟩) | exact .inr (.inl ⟨rfl, hz⟩))); (first | rw [HA.out] | rw [HZ.out]); rintro e V6 ⟨rfl, hb⟩; (try go_wp2_with fail)); refine hK.out _ _ (hS5.trans (hb.mono hS5.size)) (fun hHeld => ?_); clear hK K; (try simp only [Act.put, List.setIfInBounds_toArray, List.set_cons_zero, List.set_cons_succ])
                have hS6 := hHeld
                have f8_6 := f8_5.below hb
                have f9_6 := f9_5.below hb
                obtain ⟨a8, b8, c8, d8⟩ := f8_6
                obtain ⟨a9, b9, c9, d9⟩ := f9_6
                clear hHeld
                refine wpAnyH_ready (rs := [10]) (by kernel_rfl) (by simp) ?_
                refine AllReadyH.cons (by simp only [List.getElem?_toArray, List.getElem?_cons_succ, List.getElem?_cons_zero]; rfl) (fun K hK => ?_) AllReadyH.nil
                go_simp; refine hK.out _ _ ((hS6.setCell (p := ⟨O8, 0, none⟩) a8 _).setCell (p := ⟨O8, 1, none⟩) a8 _) (fun hHeld => ?_); clear hK K; (try simp only [Act.put, List.setIfInBounds_toArray, List.set_cons_zero, List.set_cons_succ])
                refine wpAnyH_ready (rs := [11]) (by kernel_rfl) (by simp) ?_
                refine AllReadyH.cons (by simp only [List.getElem?_toArray, List.getElem?_cons_succ, List.getElem?_cons_zero]; rfl) (fun K hK => ?_) AllReadyH.nil
                have c9' : Wr ((V6.setCell ⟨O8, 0, none⟩ (.int .i64 ta.lo)).setCell ⟨O8, 1, none⟩ (.int .i64 ta.hi)) O9 0 := by rw [wr_set, wr_set]; exact c9
                have d9' : Wr ((V6.setCell ⟨O8, 0, none⟩ (.int .i64 ta.lo)).setCell ⟨O8, 1, none⟩ (.int .i64 ta.hi)) O9 1 := by rw [wr_set, wr_set]; exact d9
                have e0 : ((V6.setCell ⟨O8, 0, none⟩ (.int .i64 ta.lo)).setCell ⟨O8, 1, none⟩ (.int .i64 ta.hi)).cell? ⟨O8, 0, none⟩ = some (.int .i64 ta.lo) := (World.cell?_setCell_other _ _ _ _ (fun e => by cases e)).trans (World.cell?_setCell_same' _ _ _ c8.1)
                have e1 : ((V6.setCell ⟨O8, 0, none⟩ (.int .i64 ta.lo)).setCell ⟨O8, 1, none⟩ (.int .i64 ta.hi)).cell? ⟨O8, 1, none⟩ = some (.int .i64 ta.hi) := World.cell?_setCell_same' _ _ _ (by rw [World.cell?_setCell_other _ _ _ _ (fun e => by cases e)]; exact d8.1)
                have es : ((V6.setCell ⟨O8, 0, none⟩ (.int .i64 ta.lo)).setCell ⟨O8, 1, none⟩ (.int .i64 ta.hi)).heap.size = V6.heap.size := by simp
                generalize (V6.setCell ⟨O8, 0, none⟩ (.int .i64 ta.lo)).setCell ⟨O8, 1, none⟩ (.int .i64 ta.hi) = X at *
                go_simp; refine hK.out _ _ ((hHeld.setCell (p := ⟨O9, 0, none⟩) a9 _).setCell (p := ⟨O9, 1, none⟩) a9 _) (fun hEnd => ?_); clear hK K; (try simp only [Act.put, List.setIfInBounds_toArray, List.set_cons_zero, List.set_cons_succ])
                refine wpAnyH_done (by kernel_rfl) ?_ _
                go_wp2_with fail
                go_meet
                exact fin_passed n0 n1 q0 q1 hBW hEnd a8 a9 (by omega) (by omega) hne e0 e1 c9' d9'
              exact AllReadyH.nil
            exact AllReadyH.nil
          refine AllReadyH.cons (by simp only [List.getElem?_toArray, List.getElem?_cons_succ, List.getElem?_cons_zero]; rfl) (fun K hK => ?_) ?_
          · go_simp; refine hK.out _ _ (hS3.alloc hS3.size _) (fun hHeld => ?_); clear hK K; (try simp only [Act.put, List.setIfInBounds_toArray, List.set_cons_zero, List.set_cons_succ])
            have f8_4 := Fresh.new hS3 (.int .i64 0) (.int .i64 0) 27
            have f9_4 := f9_3.alloc (.cells #[.int .i64 0, .int .i64 0] 27)
            have hne' : O9 < V3.heap.size := f9_3.2.1
            obtain ⟨O8, hO8⟩ : ∃ O, O = V3.heap.size := ⟨_, rfl⟩
            rw [← hO8] at f8_4 ⊢
            have hne : O8 ≠ O9 := by omega
            clear hO8
            generalize V3.alloc (.cells #[.int .i64 0, .int .i64 0] 27) = V4 at *
            have hS4 := hHeld
            refine wpAnyH_ready (rs := [6]) (by kernel_rfl) (by simp) ?_
            refine AllReadyH.cons (by simp only [List.getElem?_toArray, List.getElem?_cons_succ, List.getElem?_cons_zero]; rfl) (fun K hK => ?_) ?_
            · go_simp; (go_at_call 63; refine (pMinutes_any _).mono ?_; rintro e V5 ⟨rfl, hb⟩; (try go_wp2_with fail)); refine hK.out _ _ (hS4.trans (hb.mono hS4.size)) (fun hHeld => ?_); clear hK K; (try simp only [Act.put, List.setIfInBounds_toArray, List.set_cons_zero, List.set_cons_succ])
              have hS5 := hHeld
              have f8_5 := f8_4.below hb
              have f9_5 := f9_4.below hb
              refine wpAnyH_ready (rs := [7]) (by kernel_rfl) (by simp) ?_
              refine AllReadyH.cons (by simp only [List.getElem?_toArray, List.getElem?_cons_succ, List.getElem?_cons_zero]; rfl) (fun K hK => ?_) ?_
              · go_simp; (go_at_call 85; refine (dTell_any set F fl fc f0 f1 f2 1 _ 0 4319 _ hs hD ?_).mono ?_; (focus (first | exact .inr (.inl ⟨rfl, ha⟩) | exact .inr (.inl ⟨rfl, hz⟩))); (first | rw [HA.out] | rw [HZ.out]); rintro e V6 ⟨rfl, hb⟩; (try go_wp2_with fail)); refine hK.out _ _ (hS5.trans (hb.mono hS5.size)) (fun hHeld => ?_); clear hK K; (try simp only [Act.put, List.setIfInBounds_toArray, List.set_cons_zero, List.set_cons_succ])
                have hS6 := hHeld
                have f8_6 := f8_5.below hb
                have f9_6 := f9_5.below hb
                obtain ⟨a8, b8, c8, d8⟩ := f8_6
                obtain ⟨a9, b9, c9, d9⟩ := f9_6
                clear hHeld
                refine wpAnyH_ready (rs := [10]) (by kernel_rfl) (by simp) ?_
                refine AllReadyH.cons (by simp only [List.getElem?_toArray, List.getElem?_cons_succ, List.getElem?_cons_zero]; rfl) (fun K hK => ?_) AllReadyH.nil
                go_simp; refine hK.out _ _ ((hS6.setCell (p := ⟨O8, 0, none⟩) a8 _).setCell (p := ⟨O8, 1, none⟩) a8 _) (fun hHeld => ?_); clear hK K; (try simp only [Act.put, List.setIfInBounds_toArray, List.set_cons_zero, List.set_cons_succ])
                refine wpAnyH_ready (rs := [11]) (by kernel_rfl) (by simp) ?_
                refine AllReadyH.cons (by simp only [List.getElem?_toArray, List.getElem?_cons_succ, List.getElem?_cons_zero]; rfl) (fun K hK => ?_) AllReadyH.nil
                have c9' : Wr ((V6.setCell ⟨O8, 0, none⟩ (.int .i64 ta.lo)).setCell ⟨O8, 1, none⟩ (.int .i64 ta.hi)) O9 0 := by rw [wr_set, wr_set]; exact c9
                have d9' : Wr ((V6.setCell ⟨O8, 0, none⟩ (.int .i64 ta.lo)).setCell ⟨O8, 1, none⟩ (.int .i64 ta.hi)) O9 1 := by rw [wr_set, wr_set]; exact d9
                have e0 : ((V6.setCell ⟨O8, 0, none⟩ (.int .i64 ta.lo)).setCell ⟨O8, 1, none⟩ (.int .i64 ta.hi)).cell? ⟨O8, 0, none⟩ = some (.int .i64 ta.lo) := (World.cell?_setCell_other _ _ _ _ (fun e => by cases e)).trans (World.cell?_setCell_same' _ _ _ c8.1)
                have e1 : ((V6.setCell ⟨O8, 0, none⟩ (.int .i64 ta.lo)).setCell ⟨O8, 1, none⟩ (.int .i64 ta.hi)).cell? ⟨O8, 1, none⟩ = some (.int .i64 ta.hi) := World.cell?_setCell_same' _ _ _ (by rw [World.cell?_setCell_other _ _ _ _ (fun e => by cases e)]; exact d8.1)
                have es : ((V6.setCell ⟨O8, 0, none⟩ (.int .i64 ta.lo)).setCell ⟨O8, 1, none⟩ (.int .i64 ta.hi)).heap.size = V6.heap.size := by simp
                generalize (V6.setCell ⟨O8, 0, none⟩ (.int .i64 ta.lo)).setCell ⟨O8, 1, none⟩ (.int .i64 ta.hi) = X at *
                go_simp; refine hK.out _ _ ((hHeld.setCell (p := ⟨O9, 0, none⟩) a9 _).setCell (p := ⟨O9, 1, none⟩) a9 _) (fun hEnd => ?_); clear hK K; (try simp only [Act.put, List.setIfInBounds_toArray, List.set_cons_zero, List.set_cons_succ])
                refine wpAnyH_done (by kernel_rfl) ?_ _
                go_wp2_with fail
                go_meet
                exact fin_passed n0 n1 q0 q1 hBW hEnd a8 a9 (by omega) (by omega) hne e0 e1 c9' d9'
              exact AllReadyH.nil
            exact AllReadyH.nil
          exact AllReadyH.nil
        refine AllReadyH.cons (by simp only [List.getElem?_toArray, List.getElem?_cons_succ, List.getElem?_cons_zero]; rfl) (fun K hK => ?_) ?_
        · go_simp; refine hK.out _ _ (hS2.alloc hS2.size _) (fun hHeld => ?_); clear hK K; (try simp only [Act.put, List.setIfInBounds_toArray, List.set_cons_zero, List.set_cons_succ])
          have f8_3 := Fresh.new hS2 (.int .i64 0) (.int .i64 0) 27
          have f9_3 := f9_2.alloc (.cells #[.int .i64 0, .int .i64 0] 27)
          have hne' : O9 < V2.heap.size := f9_2.2.1
          obtain ⟨O8, hO8⟩ : ∃ O, O = V2.heap.size := ⟨_, rfl⟩
          rw [← hO8] at f8_3 ⊢
          have hne : O8 ≠ O9 := by omega
          clear hO8
          generalize V2.alloc (.cells #[.int .i64 0, .int .i64 0] 27) = V3 at *
          have hS3 := hHeld
          refine wpAnyH_ready (rs := [3]) (by kernel_rfl) (by simp) ?_
          refine AllReadyH.cons (by simp only [List.getElem?_toArray, List.getElem?_cons_succ, List.getElem?_cons_zero]; rfl) (fun K hK => ?_) ?_
          · go_simp; (go_at_call 85; refine (dTell_any set F fl fc f0 f1 f2 1 _ 0 4319 _ hs hD ?_).mono ?_; (focus (first | exact .inr (.inl ⟨rfl, ha⟩) | exact .inr (.inl ⟨rfl, hz⟩))); (first | rw [HA.out] | rw [HZ.out]); rintro e V4 ⟨rfl, hb⟩; (try go_wp2_with fail)); refine hK.out _ _ (hS3.trans (hb.mono hS3.size)) (fun hHeld => ?_); clear hK K; (try simp only [Act.put, List.setIfInBounds_toArray, List.set_cons_zero, List.set_cons_succ])
            have hS4 := hHeld
            have f8_4 := f8_3.below hb
            have f9_4 := f9_3.below hb
            refine wpAnyH_ready (rs := [6]) (by kernel_rfl) (by simp) ?_
            refine AllReadyH.cons (by simp only [List.getElem?_toArray, List.getElem?_cons_succ, List.getElem?_cons_zero]; rfl) (fun K hK => ?_) ?_
            · go_simp; (go_at_call 63; refine (pMinutes_any _).mono ?_; rintro e V5 ⟨rfl, hb⟩; (try go_wp2_with fail)); refine hK.out _ _ (hS4.trans (hb.mono hS4.size)) (fun hHeld => ?_); clear hK K; (try simp only [Act.put, List.setIfInBounds_toArray, List.set_cons_zero, List.set_cons_succ])
              have hS5 := hHeld
              have f8_5 := f8_4.below hb
              have f9_5 := f9_4.below hb
              refine wpAnyH_ready (rs := [7]) (by kernel_rfl) (by simp) ?_
              refine AllReadyH.cons (by simp only [List.getElem?_toArray, List.getElem?_cons_succ, List.getElem?_cons_zero]; rfl) (fun K hK => ?_) ?_
              · go_simp; (go_at_call 85; refine (dTell_any set F fl fc f0 f1 f2 1 _ 0 4319 _ hs hD ?_).mono ?_; (focus (first | exact .inr (.inl ⟨rfl, ha⟩) | exact .inr (.inl ⟨rfl, hz⟩))); (first | rw [HA.out] | rw [HZ.out]); rintro e V6 ⟨rfl, hb⟩; (try go_wp2_with fail)); refine hK.out _ _ (hS5.trans (hb.mono hS5.size)) (fun hHeld => ?_); clear hK K; (try simp only [Act.put, List.setIfInBounds_toArray, List.set_cons_zero, List.set_cons_succ])
                have hS6 := hHeld
                have f8_6 := f8_5.below hb
                have f9_6 := f9_5.below hb
                obtain ⟨a8, b8, c8, d8⟩ := f8_6
                obtain ⟨a9, b9, c9, d9⟩ := f9_6
                clear hHeld
                refine wpAnyH_ready (rs := [10]) (by kernel_rfl) (by simp) ?_
                refine AllReadyH.cons (by simp only [List.getElem?_toArray, List.getElem?_cons_succ, List.getElem?_cons_zero]; rfl) (fun K hK => ?_) AllReadyH.nil
                go_simp; refine hK.out _ _ ((hS6.setCell (p := ⟨O8, 0, none⟩) a8 _).setCell (p := ⟨O8, 1, none⟩) a8 _) (fun hHeld => ?_); clear hK K; (try simp only [Act.put, List.setIfInBounds_toArray, List.set_cons_zero, List.set_cons_succ])
                refine wpAnyH_ready (rs := [11]) (by kernel_rfl) (by simp) ?_
                refine AllReadyH.cons (by simp only [List.getElem?_toArray, List.getElem?_cons_succ, List.getElem?_cons_zero]; rfl) (fun K hK => ?_) AllReadyH.nil
                have c9' : Wr ((V6.setCell ⟨O8, 0, none⟩ (.int .i64 ta.lo)).setCell ⟨O8, 1, none⟩ (.int .i64 ta.hi)) O9 0 := by rw [wr_set, wr_set]; exact c9
                have d9' : Wr ((V6.setCell ⟨O8, 0, none⟩ (.int .i64 ta.lo)).setCell ⟨O8, 1, none⟩ (.int .i64 ta.hi)) O9 1 := by rw [wr_set, wr_set]; exact d9
                have e0 : ((V6.setCell ⟨O8, 0, none⟩ (.int .i64 ta.lo)).setCell ⟨O8, 1, none⟩ (.int .i64 ta.hi)).cell? ⟨O8, 0, none⟩ = some (.int .i64 ta.lo) := (World.cell?_setCell_other _ _ _ _ (fun e => by cases e)).trans (World.cell?_setCell_same' _ _ _ c8.1)
                have e1 : ((V6.setCell ⟨O8, 0, none⟩ (.int .i64 ta.lo)).setCell ⟨O8, 1, none⟩ (.int .i64 ta.hi)).cell? ⟨O8, 1, none⟩ = some (.int .i64 ta.hi) := World.cell?_setCell_same' _ _ _ (by rw [World.cell?_setCell_other _ _ _ _ (fun e => by cases e)]; exact d8.1)
                have es : ((V6.setCell ⟨O8, 0, none⟩ (.int .i64 ta.lo)).setCell ⟨O8, 1, none⟩ (.int .i64 ta.hi)).heap.size = V6.heap.size := by simp
                generalize (V6.setCell ⟨O8, 0, none⟩ (.int .i64 ta.lo)).setCell ⟨O8, 1, none⟩ (.int .i64 ta.hi) = X at *
                go_simp; refine hK.out _ _ ((hHeld.setCell (p := ⟨O9, 0, none⟩) a9 _).setCell (p := ⟨O9, 1, none⟩) a9 _) (fun hEnd => ?_); clear hK K; (try simp only [Act.put, List.setIfInBounds_toArray, List.set_cons_zero, List.set_cons_succ])
                refine wpAnyH_done (by kernel_rfl) ?_ _
                go_wp2_with fail
                go_meet
                exact fin_passed n0 n1 q0 q1 hBW hEnd a8 a9 (by omega) (by omega) hne e0 e1 c9' d9'
              exact AllReadyH.nil
            exact AllReadyH.nil
          exact AllReadyH.nil
        exact AllReadyH.nil
      exact AllReadyH.nil
    refine AllReadyH.cons (by simp only [List.getElem?_toArray, List.getElem?_cons_succ, List.getElem?_cons_zero]; rfl) (fun K hK => ?_) ?_
    · go_simp; refine hK.out _ _ (hS0.alloc hS0.size _) (fun hHeld => ?_); clear hK K; (try simp only [Act.put, List.setIfInBounds_toArray, List.set_cons_zero, List.set_cons_succ])
      have f8_1 := Fresh.new hS0 (.int .i64 0) (.int .i64 0) 27
      obtain ⟨O8, hO8⟩ : ∃ O, O = V0.heap.size := ⟨_, rfl⟩
      rw [← hO8] at f8_1 ⊢
      clear hO8
      generalize V0.alloc (.cells #[.int .i64 0, .int .i64 0] 27) = V1 at *
      have hS1 := hHeld
      refine wpAnyH_ready (rs := [2, 9]) (by kernel_rfl) (by simp) ?_
      refine AllReadyH.cons (by simp only [List.getElem?_toArray, List.getElem?_cons_succ, List.getElem?_cons_zero]; rfl) (fun K hK => ?_) ?_
      · go_simp; (go_at_call 63; refine (pMinutes_any _).mono ?_; rintro e V2 ⟨rfl, hb⟩; (try go_wp2_with fail)); refine hK.out _ _ (hS1.trans (hb.mono hS1.size)) (fun hHeld => ?_); clear hK K; (try simp only [Act.put, List.setIfInBounds_toArray, List.set_cons_zero, List.set_cons_succ])
        have hS2 := hHeld
        have f8_2 := f8_1.below hb
        refine wpAnyH_ready (rs := [3, 9]) (by kernel_rfl) (by simp) ?_
        refine AllReadyH.cons (by simp only [List.getElem?_toArray, List.getElem?_cons_succ, List.getElem?_cons_zero]; rfl) (fun K hK => ?_) ?_
        · go_simp; (go_at_call 85; refine (dTell_any set F fl fc f0 f1 f2 1 _ 0 4319 _ hs hD ?_).mono ?_; (focus (first | exact .inr (.inl ⟨rfl, ha⟩) | exact .inr (.inl ⟨rfl, hz⟩))); (first | rw [HA.out] | rw [HZ.out]); rintro e V3 ⟨rfl, hb⟩; (try go_wp2_with fail)); refine hK.out _ _ (hS2.trans (hb.mono hS2.size)) (fun hHeld => ?_); clear hK K; (try simp only [Act.put, List.setIfInBounds_toArray, List.set_cons_zero, List.set_cons_succ])
          have hS3 := hHeld
          have f8_3 := f8_2.below hb
          refine wpAnyH_ready (rs := [6, 9]) (by kernel_rfl) (by simp) ?_
          refine AllReadyH.cons (by simp only [List.getElem?_toArray, List.getElem?_cons_succ, List.getElem?_cons_zero]; rfl) (fun K hK => ?_) ?_
          · go_simp; (go_at_call 63; refine (pMinutes_any _).mono ?_; rintro e V4 ⟨rfl, hb⟩; (try go_wp2_with fail)); refine hK.out _ _ (hS3.trans (hb.mono hS3.size)) (fun hHeld => ?_); clear hK K; (try simp only [Act.put, List.setIfInBounds_toArray, List.set_cons_zero, List.set_cons_succ])
            have hS4 := hHeld
            have f8_4 := f8_3.below hb
            refine wpAnyH_ready (rs := [7, 9]) (by kernel_rfl) (by simp) ?_
            refine AllReadyH.cons (by simp only [List.getElem?_toArray, List.getElem?_cons_succ, List.getElem?_cons_zero]; rfl) (fun K hK => ?_) ?_
            · go_simp; (go_at_call 85; refine (dTell_any set F fl fc f0 f1 f2 1 _ 0 4319 _ hs hD ?_).mono ?_; (focus (first | exact .inr (.inl ⟨rfl, ha⟩) | exact .inr (.inl ⟨rfl, hz⟩))); (first | rw [HA.out] | rw [HZ.out]); rintro e V5 ⟨rfl, hb⟩; (try go_wp2_with fail)); refine hK.out _ _ (hS4.trans (hb.mono hS4.size)) (fun hHeld => ?_); clear hK K; (try simp only [Act.put, List.setIfInBounds_toArray, List.set_cons_zero, List.set_cons_succ])
              have hS5 := hHeld
              have f8_5 := f8_4.below hb
              refine wpAnyH_ready (rs := [9]) (by kernel_rfl) (by simp) ?_
              refine AllReadyH.cons (by simp only [List.getElem?_toArray, List.getElem?_cons_succ, List.getElem?_cons_zero]; rfl) (fun K hK => ?_) ?_
              · go_simp; refine hK.out _ _ (hS5.alloc hS5.size _) (fun hHeld => ?_); clear hK K; (try simp only [Act.put, List.setIfInBounds_toArray, List.set_cons_zero, List.set_cons_succ])
                have f9_6 := Fresh.new hS5 (.int .i64 0) (.int .i64 0) 27
                have f8_6 := f8_5.alloc (.cells #[.int .i64 0, .int .i64 0] 27)
                have hne' : O8 < V5.heap.size := f8_5.2.1
                obtain ⟨O9, hO9⟩ : ∃ O, O = V5.heap.size := ⟨_, rfl⟩
                rw [← hO9] at f9_6 ⊢
                have hne : O8 ≠ O9 := by omega
                clear hO9
                generalize V5.alloc (.cells #[.int .i64 0, .int .i64 0] 27) = V6 at *
                have hS6 := hHeld
                obtain ⟨a8, b8, c8, d8⟩ := f8_6
                obtain ⟨a9, b9, c9, d9⟩ := f9_6
                clear hHeld
                refine wpAnyH_ready (rs := [10]) (by kernel_rfl) (by simp) ?_
                refine AllReadyH.cons (by simp only [List.getElem?_toArray, List.getElem?_cons_succ, List.getElem?_cons_zero]; rfl) (fun K hK => ?_) AllReadyH.nil
                go_simp; refine hK.out _ _ ((hS6.setCell (p := ⟨O8, 0, none⟩) a8 _).setCell (p := ⟨O8, 1, none⟩) a8 _) (fun hHeld => ?_); clear hK K; (try simp only [Act.put, List.setIfInBounds_toArray, List.set_cons_zero, List.set_cons_succ])
                refine wpAnyH_ready (rs := [11]) (by kernel_rfl) (by simp) ?_
                refine AllReadyH.cons (by simp only [List.getElem?_toArray, List.getElem?_cons_succ, List.getElem?_cons_zero]; rfl) (fun K hK => ?_) AllReadyH.nil
                have c9' : Wr ((V6.setCell ⟨O8, 0, none⟩ (.int .i64 ta.lo)).setCell ⟨O8, 1, none⟩ (.int .i64 ta.hi)) O9 0 := by rw [wr_set, wr_set]; exact c9
                have d9' : Wr ((V6.setCell ⟨O8, 0, none⟩ (.int .i64 ta.lo)).setCell ⟨O8, 1, none⟩ (.int .i64 ta.hi)) O9 1 := by rw [wr_set, wr_set]; exact d9
                have e0 : ((V6.setCell ⟨O8, 0, none⟩ (.int .i64 ta.lo)).setCell ⟨O8, 1, none⟩ (.int .i64 ta.hi)).cell? ⟨O8, 0, none⟩ = some (.int .i64 ta.lo) := (World.cell?_setCell_other _ _ _ _ (fun e => by cases e)).trans (World.cell?_setCell_same' _ _ _ c8.1)
                have e1 : ((V6.setCell ⟨O8, 0, none⟩ (.int .i64 ta.lo)).setCell ⟨O8, 1, none⟩ (.int .i64 ta.hi)).cell? ⟨O8, 1, none⟩ = some (.int .i64 ta.hi) := World.cell?_setCell_same' _ _ _ (by rw [World.cell?_setCell_other _ _ _ _ (fun e => by cases e)]; exact d8.1)
                have es : ((V6.setCell ⟨O8, 0, none⟩ (.int .i64 ta.lo)).setCell ⟨O8, 1, none⟩ (.int .i64 ta.hi)).heap.size = V6.heap.size := by simp
                generalize (V6.setCell ⟨O8, 0, none⟩ (.int .i64 ta.lo)).setCell ⟨O8, 1, none⟩ (.int .i64 ta.hi) = X at *
                go_simp; refine hK.out _ _ ((hHeld.setCell (p := ⟨O9, 0, none⟩) a9 _).setCell (p := ⟨O9, 1, none⟩) a9 _) (fun hEnd => ?_); clear hK K; (try simp only [Act.put, List.setIfInBounds_toArray, List.set_cons_zero, List.set_cons_succ])
                refine wpAnyH_done (by kernel_rfl) ?_ _
                go_wp2_with fail
                go_meet
                exact fin_passed n0 n1 q0 q1 hBW hEnd a8 a9 (by omega) (by omega) hne e0 e1 c9' d9'
              exact AllReadyH.nil
            refine AllReadyH.cons (by simp only [List.getElem?_toArray, List.getElem?_cons_succ, List.getElem?_cons_zero]; rfl) (fun K hK => ?_) ?_
            · go_simp; refine hK.out _ _ (hS4.alloc hS4.size _) (fun hHeld => ?_); clear hK K; (try simp only [Act.put, List.setIfInBounds_toArray, List.set_cons_zero, List.set_cons_succ])
              have f9_5 := Fresh.new hS4 (.int .i64 0) (.int .i64 0) 27
              have f8_5 := f8_4.alloc (.cells #[.int .i64 0, .int .i64 0] 27)
              have hne' : O8 < V4.heap.size := f8_4.2.1
              obtain ⟨O9, hO9⟩ : ∃ O, O = V4.heap.size := ⟨_, rfl⟩
              rw [← hO9] at f9_5 ⊢
              have hne : O8 ≠ O9 := by omega
              clear hO9
              generalize V4.alloc (.cells #[.int .i64 0, .int .i64 0] 27) = V5 at *
              have hS5 := hHeld
              refine wpAnyH_ready (rs := [7]) (by kernel_rfl) (by simp) ?_
              refine AllReadyH.cons (by simp only [List.getElem?_toArray, List.getElem?_cons_succ, List.getElem?_cons_zero]; rfl) (fun K hK => ?_) ?_
              · go_simp; (go_at_call 85; refine (dTell_any set F fl fc f0 f1 f2 1 _ 0 4319 _ hs hD ?_).mono ?_; (focus (first | exact .inr (.inl ⟨rfl, ha⟩) | exact .inr (.inl ⟨rfl, hz⟩))); (first | rw [HA.out] | rw [HZ.out]); rintro e V6 ⟨rfl, hb⟩; (try go_wp2_with fail)); refine hK.out _ _ (hS5.trans (hb.mono hS5.size)) (fun hHeld => ?_); clear hK K; (try simp only [Act.put, List.setIfInBounds_toArray, List.set_cons_zero, List.set_cons_succ])
                have hS6 := hHeld
                have f9_6 := f9_5.below hb
                have f8_6 := f8_5.below hb
                obtain ⟨a8, b8, c8, d8⟩ := f8_6
                obtain ⟨a9, b9, c9, d9⟩ := f9_6
                clear hHeld
                refine wpAnyH_ready (rs := [10]) (by kernel_rfl) (by simp) ?_
                refine AllReadyH.cons (by simp only [List.getElem?_toArray, List.getElem?_cons_succ, List.getElem?_cons_zero]; rfl) (fun K hK => ?_) AllReadyH.nil
                go_simp; refine hK.out _ _ ((hS6.setCell (p := ⟨O8, 0, none⟩) a8 _).setCell (p := ⟨O8, 1, none⟩) a8 _) (fun hHeld => ?_); clear hK K; (try simp only [Act.put, List.setIfInBounds_toArray, List.set_cons_zero, List.set_cons_succ])
                refine wpAnyH_ready (rs := [11]) (by kernel_rfl) (by simp) ?_
                refine AllReadyH.cons (by simp only [List.getElem?_toArray, List.getElem?_cons_succ, List.getElem?_cons_zero]; rfl) (fun K hK => ?_) AllReadyH.nil
                have c9' : Wr ((V6.setCell ⟨O8, 0, none⟩ (.int .i64 ta.lo)).setCell ⟨O8, 1, none⟩ (.int .i64 ta.hi)) O9 0 := by rw [wr_set, wr_set]; exact c9
                have d9' : Wr ((V6.setCell ⟨O8, 0, none⟩ (.int .i64 ta.lo)).setCell ⟨O8, 1, none⟩ (.int .i64 ta.hi)) O9 1 := by rw [wr_set, wr_set]; exact d9
                have e0 : ((V6.setCell ⟨O8, 0, none⟩ (.int .i64 ta.lo)).setCell ⟨O8, 1, none⟩ (.int .i64 ta.hi)).cell? ⟨O8, 0, none⟩ = some (.int .i64 ta.lo) := (World.cell?_setCell_other _ _ _ _ (fun e => by cases e)).trans (World.cell?_setCell_same' _ _ _ c8.1)
                have e1 : ((V6.setCell ⟨O8, 0, none⟩ (.int .i64 ta.lo)).setCell ⟨O8, 1, none⟩ (.int .i64 ta.hi)).cell? ⟨O8, 1, none⟩ = some (.int .i64 ta.hi) := World.cell?_setCell_same' _ _ _ (by rw [World.cell?_setCell_other _ _ _ _ (fun e => by cases e)]; exact d8.1)
                have es : ((V6.setCell ⟨O8, 0, none⟩ (.int .i64 ta.lo)).setCell ⟨O8, 1, none⟩ (.int .i64 ta.hi)).heap.size = V6.heap.size := by simp
                generalize (V6.setCell ⟨O8, 0, none⟩ (.int .i64 ta.lo)).setCell ⟨O8, 1, none⟩ (.int .i64 ta.hi) = X at *
                go_simp; refine hK.out _ _ ((hHeld.setCell (p := ⟨O9, 0, none⟩) a9 _).setCell (p := ⟨O9, 1, none⟩) a9 _) (fun hEnd => ?_); clear hK K; (try simp only [Act.put, List.setIfInBounds_toArray, List.set_cons_zero, List.set_cons_succ])
                refine wpAnyH_done (by kernel_rfl) ?_ _
                go_wp2_with fail
                go_meet
                exact fin_passed n0 n1 q0 q1 hBW hEnd a8 a9 (by omega) (by omega) hne e0 e1 c9' d9'
              exact AllReadyH.nil
            exact AllReadyH.nil
          refine AllReadyH.cons (by simp only [List.getElem?_toArray, List.getElem?_cons_succ, List.getElem?_cons_zero]; rfl) (fun K hK => ?_) ?_
          · go_simp; refine hK.out _ _ (hS3.alloc hS3.size _) (fun hHeld => ?_); clear hK K; (try simp only [Act.put, List.setIfInBounds_toArray, List.set_cons_zero, List.set_cons_succ])
            have f9_4 := Fresh.new hS3 (.int .i64 0) (.int .i64 0) 27
            have f8_4 := f8_3.alloc (.cells #[.int .i64 0, .int .i64 0] 27)
            have hne' : O8 < V3.heap.size := f8_3.2.1
            obtain ⟨O9, hO9⟩ : ∃ O, O = V3.heap.size := ⟨_, rfl⟩
            rw [← hO9] at f9_4 ⊢
            have hne : O8 ≠ O9 := by omega
            clear hO9
            generalize V3.alloc (.cells #[.int .i64 0, .int .i64 0] 27) = V4 at *
            have hS4 := hHeld
            refine wpAnyH_ready (rs := [6]) (by kernel_rfl) (by simp) ?_
            refine AllReadyH.cons (by simp only [List.getElem?_toArray, List.getElem?_cons_succ, List.getElem?_cons_zero]; rfl) (fun K hK => ?_) ?_
            · go_simp; (go_at_call 63; refine (pMinutes_any _).mono ?_; rintro e V5 ⟨rfl, hb⟩; (try go_wp2_with fail)); refine hK.out _ _ (hS4.trans (hb.mono hS4.size)) (fun hHeld => ?_); clear hK K; (try simp only [Act.put, List.setIfInBounds_toArray, List.set_cons_zero, List.set_cons_succ])
              have hS5 := hHeld
              have f9_5 := f9_4.below hb
              have f8_5 := f8_4.below hb
              refine wpAnyH_ready (rs := [7]) (by kernel_rfl) (by simp) ?_
              refine AllReadyH.cons (by simp only [List.getElem?_toArray, List.getElem?_cons_succ, List.getElem?_cons_zero]; rfl) (fun K hK => ?_) ?_
              · go_simp; (go_at_call 85; refine (dTell_any set F fl fc f0 f1 f2 1 _ 0 4319 _ hs hD ?_).mono ?_; (focus (first | exact .inr (.inl ⟨rfl, ha⟩) | exact .inr (.inl ⟨rfl, hz⟩))); (first | rw [HA.out] | rw [HZ.out]); rintro e V6 ⟨rfl, hb⟩; (try go_wp2_with fail)); refine hK.out _ _ (hS5.trans (hb.mono hS5.size)) (fun hHeld => ?_); clear hK K; (try simp only [Act.put, List.setIfInBounds_toArray, List.set_cons_zero, List.set_cons_succ])
                have hS6 := hHeld
                have f9_6 := f9_5.below hb
                have f8_6 := f8_5.below hb
                obtain ⟨a8, b8, c8, d8⟩ := f8_6
                obtain ⟨a9, b9, c9, d9⟩ := f9_6
                clear hHeld
                refine wpAnyH_ready (rs := [10]) (by kernel_rfl) (by simp) ?_
                refine AllReadyH.cons (by simp only [List.getElem?_toArray, List.getElem?_cons_succ, List.getElem?_cons_zero]; rfl) (fun K hK => ?_) AllReadyH.nil
                go_simp; refine hK.out _ _ ((hS6.setCell (p := ⟨O8, 0, none⟩) a8 _).setCell (p := ⟨O8, 1, none⟩) a8 _) (fun hHeld => ?_); clear hK K; (try simp only [Act.put, List.setIfInBounds_toArray, List.set_cons_zero, List.set_cons_succ])
                refine wpAnyH_ready (rs := [11]) (by kernel_rfl) (by simp) ?_
                refine AllReadyH.cons (by simp only [List.getElem?_toArray, List.getElem?_cons_succ, List.getElem?_cons_zero]; rfl) (fun K hK => ?_) AllReadyH.nil
                have c9' : Wr ((V6.setCell ⟨O8, 0, none⟩ (.int .i64 ta.lo)).setCell ⟨O8, 1, none⟩ (.int .i64 ta.hi)) O9 0 := by rw [wr_set, wr_set]; exact c9
                have d9' : Wr ((V6.setCell ⟨O8, 0, none⟩ (.int .i64 ta.lo)).setCell ⟨O8, 1, none⟩ (.int .i64 ta.hi)) O9 1 := by rw [wr_set, wr_set]; exact d9
                have e0 : ((V6.setCell ⟨O8, 0, none⟩ (.int .i64 ta.lo)).setCell ⟨O8, 1, none⟩ (.int .i64 ta.hi)).cell? ⟨O8, 0, none⟩ = some (.int .i64 ta.lo) := (World.cell?_setCell_other _ _ _ _ (fun e => by cases e)).trans (World.cell?_setCell_same' _ _ _ c8.1)
                have e1 : ((V6.setCell ⟨O8, 0, none⟩ (.int .i64 ta.lo)).setCell ⟨O8, 1, none⟩ (.int .i64 ta.hi)).cell? ⟨O8, 1, none⟩ = some (.int .i64 ta.hi) := World.cell?_setCell_same' _ _ _ (by rw [World.cell?_setCell_other _ _ _ _ (fun e => by cases e)]; exact d8.1)
                have es : ((V6.setCell ⟨O8, 0, none⟩ (.int .i64 ta.lo)).setCell ⟨O8, 1, none⟩ (.int .i64 ta.hi)).heap.size = V6.heap.size := by simp
                generalize (V6.setCell ⟨O8, 0, none⟩ (.int .i64 ta.lo)).setCell ⟨O8, 1, none⟩ (.int .i64 ta.hi) = X at *
                go_simp; refine hK.out _ _ ((hHeld.setCell (p := ⟨O9, 0, none⟩) a9 _).setCell (p := ⟨O9, 1, none⟩) a9 _) (fun hEnd => ?_); clear hK K; (try simp only [Act.put, List.setIfInBounds_toArray, List.set_cons_zero, List.set_cons_succ])
                refine wpAnyH_done (by kernel_rfl) ?_ _
                go_wp2_with fail
                go_meet
                exact fin_passed n0 n1 q0 q1 hBW hEnd a8 a9 (by omega) (by omega) hne e0 e1 c9' d9'
              exact AllReadyH.nil
            exact AllReadyH.nil
          exact AllReadyH.nil
        refine AllReadyH.cons (by simp only [List.getElem?_toArray, List.getElem?_cons_succ, List.getElem?_cons_zero]; rfl) (fun K hK => ?_) ?_
        · go_simp; refine hK.out _ _ (hS2.alloc hS2.size _) (fun hHeld => ?_); clear hK K; (try simp only [Act.put, List.setIfInBounds_toArray, List.set_cons_zero, List.set_cons_succ])
          have f9_3 := Fresh.new hS2 (.int .i64 0) (.int .i64 0) 27
          have f8_3 := f8_2.alloc (.cells #[.int .i64 0, .int .i64 0] 27)
          have hne' : O8 < V2.heap.size := f8_2.2.1
          obtain ⟨O9, hO9⟩ : ∃ O, O = V2.heap.size := ⟨_, rfl⟩
          rw [← hO9] at f9_3 ⊢
          have hne : O8 ≠ O9 := by omega
          clear hO9
          generalize V2.alloc (.cells #[.int .i64 0, .int .i64 0] 27) = V3 at *
          have hS3 := hHeld
          refine wpAnyH_ready (rs := [3]) (by kernel_rfl) (by simp) ?_
          refine AllReadyH.cons (by simp only [List.getElem?_toArray, List.getElem?_cons_succ, List.getElem?_cons_zero]; rfl) (fun K hK => ?_) ?_
          · go_simp; (go_at_call 85; refine (dTell_any set F fl fc f0 f1 f2 1 _ 0 4319 _ hs hD ?_).mono ?_; (focus (first | exact .inr (.inl ⟨rfl, ha⟩) | exact .inr (.inl ⟨rfl, hz⟩))); (first | rw [HA.out] | rw [HZ.out]); rintro e V4 ⟨rfl, hb⟩; (try go_wp2_with fail)); refine hK.out _ _ (hS3.trans (hb.mono hS3.size)) (fun hHeld => ?_); clear hK K; (try simp only [Act.put, List.setIfInBounds_toArray, List.set_cons_zero, List.set_cons_succ])
            have hS4 := hHeld
            have f9_4 := f9_3.below hb
            have f8_4 := f8_3.below hb
            refine wpAnyH_ready (rs := [6]) (by kernel_rfl) (by simp) ?_
            refine AllReadyH.cons (by simp only [List.getElem?_toArray, List.getElem?_cons_succ, List.getElem?_cons_zero]; rfl) (fun K hK => ?_) ?_
            · go_simp; (go_at_call 63; refine (pMinutes_any _).mono ?_; rintro e V5 ⟨rfl, hb⟩; (try go_wp2_with fail)); refine hK.out _ _ (hS4.trans (hb.mono hS4.size)) (fun hHeld => ?_); clear hK K; (try simp only [Act.put, List.setIfInBounds_toArray, List.set_cons_zero, List.set_cons_succ])
              have hS5 := hHeld
              have f9_5 := f9_4.below hb
              have f8_5 := f8_4.below hb
              refine wpAnyH_ready (rs := [7]) (by kernel_rfl) (by simp) ?_
              refine AllReadyH.cons (by simp only [List.getElem?_toArray, List.getElem?_cons_succ, List.getElem?_cons_zero]; rfl) (fun K hK => ?_) ?_
              · go_simp; (go_at_call 85; refine (dTell_any set F fl fc f0 f1 f2 1 _ 0 4319 _ hs hD ?_).mono ?_; (focus (first | exact .inr (.inl ⟨rfl, ha⟩) | exact .inr (.inl ⟨rfl, hz⟩))); (first | rw [HA.out] | rw [HZ.out]); rintro e V6 ⟨rfl, hb⟩; (try go_wp2_with fail)); refine hK.out _ _ (hS5.trans (hb.mono hS5.size)) (fun hHeld => ?_); clear hK K; (try simp only [Act.put, List.setIfInBounds_toArray, List.set_cons_zero, List.set_cons_succ])
                have hS6 := hHeld
                have f9_6 := f9_5.below hb
                have f8_6 := f8_5.below hb
                obtain ⟨a8, b8, c8, d8⟩ := f8_6
                obtain ⟨a9, b9, c9, d9⟩ := f9_6
                clear hHeld
                refine wpAnyH_ready (rs := [10]) (by kernel_rfl) (by simp) ?_
                refine AllReadyH.cons (by simp only [List.getElem?_toArray, List.getElem?_cons_succ, List.getElem?_cons_zero]; rfl) (fun K hK => ?_) AllReadyH.nil
                go_simp; refine hK.out _ _ ((hS6.setCell (p := ⟨O8, 0, none⟩) a8 _).setCell (p := ⟨O8, 1, none⟩) a8 _) (fun hHeld => ?_); clear hK K; (try simp only [Act.put, List.setIfInBounds_toArray, List.set_cons_zero, List.set_cons_succ])
                refine wpAnyH_ready (rs := [11]) (by kernel_rfl) (by simp) ?_
                refine AllReadyH.cons (by simp only [List.getElem?_toArray, List.getElem?_cons_succ, List.getElem?_cons_zero]; rfl) (fun K hK => ?_) AllReadyH.nil
                have c9' : Wr ((V6.setCell ⟨O8, 0, none⟩ (.int .i64 ta.lo)).setCell ⟨O8, 1, none⟩ (.int .i64 ta.hi)) O9 0 := by rw [wr_set, wr_set]; exact c9
                have d9' : Wr ((V6.setCell ⟨O8, 0, none⟩ (.int .i64 ta.lo)).setCell ⟨O8, 1, none⟩ (.int .i64 ta.hi)) O9 1 := by rw [wr_set, wr_set]; exact d9
                have e0 : ((V6.setCell ⟨O8, 0, none⟩ (.int .i64 ta.lo)).setCell ⟨O8, 1, none⟩ (.int .i64 ta.hi)).cell? ⟨O8, 0, none⟩ = some (.int .i64 ta.lo) := (World.cell?_setCell_other _ _ _ _ (fun e => by cases e)).trans (World.cell?_setCell_same' _ _ _ c8.1)
                have e1 : ((V6.setCell ⟨O8, 0, none⟩ (.int .i64 ta.lo)).setCell ⟨O8, 1, none⟩ (.int .i64 ta.hi)).cell? ⟨O8, 1, none⟩ = some (.int .i64 ta.hi) := World.cell?_setCell_same' _ _ _ (by rw [World.cell?_setCell_other _ _ _ _ (fun e => by cases e)]; exact d8.1)
                have es : ((V6.setCell ⟨O8, 0, none⟩ (.int .i64 ta.lo)).setCell ⟨O8, 1, none⟩ (.int .i64 ta.hi)).heap.size = V6.heap.size := by simp
                generalize (V6.setCell ⟨O8, 0, none⟩ (.int .i64 ta.lo)).setCell ⟨O8, 1, none⟩ (.int .i64 ta.hi) = X at *
                go_simp; refine hK.out _ _ ((hHeld.setCell (p := ⟨O9, 0, none⟩) a9 _).setCell (p := ⟨O9, 1, none⟩) a9 _) (fun hEnd => ?_); clear hK K; (try simp only [Act.put, List.setIfInBounds_toArray, List.set_cons_zero, List.set_cons_succ])
                refine wpAnyH_done (by kernel_rfl) ?_ _
                go_wp2_with fail
                go_meet
                exact fin_passed n0 n1 q0 q1 hBW hEnd a8 a9 (by omega) (by omega) hne e0 e1 c9' d9'
              exact AllReadyH.nil
            exact AllReadyH.nil
          exact AllReadyH.nil
        exact AllReadyH.nil
      refine AllReadyH.cons (by simp only [List.getElem?_toArray, List.getElem?_cons_succ, List.getElem?_cons_zero]; rfl) (fun K hK => ?_) ?_
      · go_simp; refine hK.out _ _ (hS1.alloc hS1.size _) (fun hHeld => ?_); clear hK K; (try simp only [Act.put, List.setIfInBounds_toArray, List.set_cons_zero, List.set_cons_succ])
        have f9_2 := Fresh.new hS1 (.int .i64 0) (.int .i64 0) 27
        have f8_2 := f8_1.alloc (.cells #[.int .i64 0, .int .i64 0] 27)
        have hne' : O8 < V1.heap.size := f8_1.2.1
        obtain ⟨O9, hO9⟩ : ∃ O, O = V1.heap.size := ⟨_, rfl⟩
        rw [← hO9] at f9_2 ⊢
        have hne : O8 ≠ O9 := by omega
        clear hO9
        generalize V1.alloc (.cells #[.int .i64 0, .int .i64 0] 27) = V2 at *
        have hS2 := hHeld
        refine wpAnyH_ready (rs := [2]) (by kernel_rfl) (by simp) ?_
        refine AllReadyH.cons (by simp only [List.getElem?_toArray, List.getElem?_cons_succ, List.getElem?_cons_zero]; rfl) (fun K hK => ?_) ?_
        · go_simp; (go_at_call 63; refine (pMinutes_any _).mono ?_; rintro e V3 ⟨rfl, hb⟩; (try go_wp2_with fail)); refine hK.out _ _ (hS2.trans (hb.mono hS2.size)) (fun hHeld => ?_); clear hK K; (try simp only [Act.put, List.setIfInBounds_toArray, List.set_cons_zero, List.set_cons_succ])
          have hS3 := hHeld
          have f9_3 := f9_2.below hb
          have f8_3 := f8_2.below hb
          refine wpAnyH_ready (rs := [3]) (by kernel_rfl) (by simp) ?_
          refine AllReadyH.cons (by simp only [List.getElem?_toArray, List.getElem?_cons_succ, List.getElem?_cons_zero]; rfl) (fun K hK => ?_) ?_
          · go_simp; (go_at_call 85; refine (dTell_any set F fl fc f0 f1 f2 1 _ 0 4319 _ hs hD ?_).mono ?_; (focus (first | exact .inr (.inl ⟨rfl, ha⟩) | exact .inr (.inl ⟨rfl, hz⟩))); (first | rw [HA.out] | rw [HZ.out]); rintro e V4 ⟨rfl, hb⟩; (try go_wp2_with fail)); refine hK.out _ _ (hS3.trans (hb.mono hS3.size)) (fun hHeld => ?_); clear hK K; (try simp only [Act.put, List.setIfInBounds_toArray, List.set_cons_zero, List.set_cons_succ])
            have hS4 := hHeld
            have f9_4 := f9_3.below hb
            have f8_4 := f8_3.below hb
            refine wpAnyH_ready (rs := [6]) (by kernel_rfl) (by simp) ?_
            refine AllReadyH.cons (by simp only [List.getElem?_toArray, List.getElem?_cons_succ, List.getElem?_cons_zero]; rfl) (fun K hK => ?_) ?_
            · go_simp; (go_at_call 63; refine (pMinutes_any _).mono ?_; rintro e V5 ⟨rfl, hb⟩; (try go_wp2_with fail)); refine hK.out _ _ (hS4.trans (hb.mono hS4.size)) (fun hHeld => ?_); clear hK K; (try simp only [Act.put, List.setIfInBounds_toArray, List.set_cons_zero, List.set_cons_succ])
              have hS5 := hHeld
              have f9_5 := f9_4.below hb
              have f8_5 := f8_4.below hb
              refine wpAnyH_ready (rs := [7]) (by kernel_rfl) (by simp) ?_
              refine AllReadyH.cons (by simp only [List.getElem?_toArray, List.getElem?_cons_succ, List.getElem?_cons_zero]; rfl) (fun K hK => ?_) ?_
              · go_simp; (go_at_call 85; refine (dTell_any set F fl fc f0 f1 f2 1 _ 0 4319 _ hs hD ?_).mono ?_; (focus (first | exact .inr (.inl ⟨rfl, ha⟩) | exact .inr (.inl ⟨rfl, hz⟩))); (first | rw [HA.out] | rw [HZ.out]); rintro e V6 ⟨rfl, hb⟩; (try go_wp2_with fail)); refine hK.out _ _ (hS5.trans (hb.mono hS5.size)) (fun hHeld => ?_); clear hK K; (try simp only [Act.put, List.setIfInBounds_toArray, List.set_cons_zero, List.set_cons_succ])
                have hS6 := hHeld
                have f9_6 := f9_5.below hb
                have f8_6 := f8_5.below hb
                obtain ⟨a8, b8, c8, d8⟩ := f8_6
                obtain ⟨a9, b9, c9, d9⟩ := f9_6
                clear hHeld
                refine wpAnyH_ready (rs := [10]) (by kernel_rfl) (by simp) ?_
                refine AllReadyH.cons (by simp only [List.getElem?_toArray, List.getElem?_cons_succ, List.getElem?_cons_zero]; rfl) (fun K hK => ?_) AllReadyH.nil
                go_simp; refine hK.out _ _ ((hS6.setCell (p := ⟨O8, 0, none⟩) a8 _).setCell (p := ⟨O8, 1, none⟩) a8 _) (fun hHeld => ?_); clear hK K; (try simp only [Act.put, List.setIfInBounds_toArray, List.set_cons_zero, List.set_cons_succ])
                refine wpAnyH_ready (rs := [11]) (by kernel_rfl) (by simp) ?_
                refine AllReadyH.cons (by simp only [List.getElem?_toArray, List.getElem?_cons_succ, List.getElem?_cons_zero]; rfl) (fun K hK => ?_) AllReadyH.nil
                have c9' : Wr ((V6.setCell ⟨O8, 0, none⟩ (.int .i64 ta.lo)).setCell ⟨O8, 1, none⟩ (.int .i64 ta.hi)) O9 0 := by rw [wr_set, wr_set]; exact c9
                have d9' : Wr ((V6.setCell ⟨O8, 0, none⟩ (.int .i64 ta.lo)).setCell ⟨O8, 1, none⟩ (.int .i64 ta.hi)) O9 1 := by rw [wr_set, wr_set]; exact d9
                have e0 : ((V6.setCell ⟨O8, 0, none⟩ (.int .i64 ta.lo)).setCell ⟨O8, 1, none⟩ (.int .i64 ta.hi)).cell? ⟨O8, 0, none⟩ = some (.int .i64 ta.lo) := (World.cell?_setCell_other _ _ _ _ (fun e => by cases e)).trans (World.cell?_setCell_same' _ _ _ c8.1)
                have e1 : ((V6.setCell ⟨O8, 0, none⟩ (.int .i64 ta.lo)).setCell ⟨O8, 1, none⟩ (.int .i64 ta.hi)).cell? ⟨O8, 1, none⟩ = some (.int .i64 ta.hi) := World.cell?_setCell_same' _ _ _ (by rw [World.cell?_setCell_other _ _ _ _ (fun e => by cases e)]; exact d8.1)
                have es : ((V6.setCell ⟨O8, 0, none⟩ (.int .i64 ta.lo)).setCell ⟨O8, 1, none⟩ (.int .i64 ta.hi)).heap.size = V6.heap.size := by simp
                generalize (V6.setCell ⟨O8, 0, none⟩ (.int .i64 ta.lo)).setCell ⟨O8, 1, none⟩ (.int .i64 ta.hi) = X at *
                go_simp; refine hK.out _ _ ((hHeld.setCell (p := ⟨O9, 0, none⟩) a9 _).setCell (p := ⟨O9, 1, none⟩) a9 _) (fun hEnd => ?_); clear hK K; (try simp only [Act.put, List.setIfInBounds_toArray, List.set_cons_zero, List.set_cons_succ])
                refine wpAnyH_done (by kernel_rfl) ?_ _
                go_wp2_with fail
                go_meet
                exact fin_passed n0 n1 q0 q1 hBW hEnd a8 a9 (by omega) (by omega) hne e0 e1 c9' d9'
              exact AllReadyH.nil
            exact AllReadyH.nil
          exact AllReadyH.nil
        exact AllReadyH.nil
      exact AllReadyH.nil
    refine AllReadyH.cons (by simp only [List.getElem?_toArray, List.getElem?_cons_succ, List.getElem?_cons_zero]; rfl) (fun K hK => ?_) ?_
    · go_simp; refine hK.out _ _ (hS0.alloc hS0.size _) (fun hHeld => ?_); clear hK K; (try simp only [Act.put, List.setIfInBounds_toArray, List.set_cons_zero, List.set_cons_succ])
      have f9_1 := Fresh.new hS0 (.int .i64 0) (.int .i64 0) 27
      obtain ⟨O9, hO9⟩ : ∃ O, O = V0.heap.size := ⟨_, rfl⟩
      rw [← hO9] at f9_1 ⊢
      clear hO9
      generalize V0.alloc (.cells #[.int .i64 0, .int .i64 0] 27) = V1 at *
      have hS1 := hHeld
      refine wpAnyH_ready (rs := [2, 8]) (by kernel_rfl) (by simp) ?_
      refine AllReadyH.cons (by simp only [List.getElem?_toArray, List.getElem?_cons_succ, List.getElem?_cons_zero]; rfl) (fun K hK => ?_) ?_
      · go_simp; (go_at_call 63; refine (pMinutes_any _).mono ?_; rintro e V2 ⟨rfl, hb⟩; (try go_wp2_with fail)); refine hK.out _ _ (hS1.trans (hb.mono hS1.size)) (fun hHeld => ?_); clear hK K; (try simp only [Act.put, List.setIfInBounds_toArray, List.set_cons_zero, List.set_cons_succ])
        have hS2 := hHeld
        have f9_2 := f9_1.below hb
        refine wpAnyH_ready (rs := [3, 8]) (by kernel_rfl) (by simp) ?_
        refine AllReadyH.cons (by simp only [List.getElem?_toArray, List.getElem?_cons_succ, List.getElem?_cons_zero]; rfl) (fun K hK => ?_) ?_
        · go_simp; (go_at_call 85; refine (dTell_any set F fl fc f0 f1 f2 1 _ 0 4319 _ hs hD ?_).mono ?_; (focus (first | exact .inr (.inl ⟨rfl, ha⟩) | exact .inr (.inl ⟨rfl, hz⟩))); (first | rw [HA.out] | rw [HZ.out]); rintro e V3 ⟨rfl, hb⟩; (try go_wp2_with fail)); refine hK.out _ _ (hS2.trans (hb.mono hS2.size)) (fun hHeld => ?_); clear hK K; (try simp only [Act.put, List.setIfInBounds_toArray, List.set_cons_zero, List.set_cons_succ])
          have hS3 := hHeld
          have f9_3 := f9_2.below hb
          refine wpAnyH_ready (rs := [6, 8]) (by kernel_rfl) (by simp) ?_
          refine AllReadyH.cons (by simp only [List.getElem?_toArray, List.getElem?_cons_succ, List.getElem?_cons_zero]; rfl) (fun K hK => ?_) ?_
          · go_simp; (go_at_call 63; refine (pMinutes_any _).mono ?_; rintro e V4 ⟨rfl, hb⟩; (try go_wp2_with fail)); refine hK.out _ _ (hS3.trans (hb.mono hS3.size)) (fun hHeld => ?_); clear hK K; (try simp only [Act.put, List.setIfInBounds_toArray, List.set_cons_zero, List.set_cons_succ])
            have hS4 := hHeld
            have f9_4 := f9_3.below hb
            refine wpAnyH_ready (rs := [7, 8]) (by kernel_rfl) (by simp) ?_
            refine AllReadyH.cons (by simp only [List.getElem?_toArray, List.getElem?_cons_succ, List.getElem?_cons_zero]; rfl) (fun K hK => ?_) ?_
            · go_simp; (go_at_call 85; refine (dTell_any set F fl fc f0 f1 f2 1 _ 0 4319 _ hs hD ?_).mono ?_; (focus (first | exact .inr (.inl ⟨rfl, ha⟩) | exact .inr (.inl ⟨rfl, hz⟩))); (first | rw [HA.out] | rw [HZ.out]); rintro e V5 ⟨rfl, hb⟩; (try go_wp2_with fail)); refine hK.out _ _ (hS4.trans (hb.mono hS4.size)) (fun hHeld => ?_); clear hK K; (try simp only [Act.put, List.setIfInBounds_toArray, List.set_cons_zero, List.set_cons_succ])
              have hS5 := hHeld
              have f9_5 := f9_4.below hb
              refine wpAnyH_ready (rs := [8]) (by kernel_rfl) (by simp) ?_
              refine AllReadyH.cons (by simp only [List.getElem?_toArray, List.getElem?_cons_succ, List.getElem?_cons_zero]; rfl) (fun K hK => ?_) ?_
              · go_simp; refine hK.out _ _ (hS5.alloc hS5.size _) (fun hHeld => ?_); clear hK K; (try simp only [Act.put, List.setIfInBounds_toArray, List.set_cons_zero, List.set_cons_succ])
                have f8_6 := Fresh.new hS5 (.int .i64 0) (.int .i64 0) 27
                have f9_6 := f9_5.alloc (.cells #[.int .i64 0, .int .i64 0] 27)
                have hne' : O9 < V5.heap.size := f9_5.2.1
                obtain ⟨O8, hO8⟩ : ∃ O, O = V5.heap.size := ⟨_, rfl⟩
                rw [← hO8] at f8_6 ⊢
                have hne : O8 ≠ O9 := by omega
                clear hO8
                generalize V5.alloc (.cells #[.int .i64 0, .int .i64 0] 27) = V6 at *
                have hS6 := hHeld
                obtain ⟨a8, b8, c8, d8⟩ := f8_6
                obtain ⟨a9, b9, c9, d9⟩ := f9_6
                clear hHeld
                refine wpAnyH_ready (rs := [10]) (by kernel_rfl) (by simp) ?_
                refine AllReadyH.cons (by simp only [List.getElem?_toArray, List.getElem?_cons_succ, List.getElem?_cons_zero]; rfl) (fun K hK => ?_) AllReadyH.nil
                go_simp; refine hK.out _ _ ((hS6.setCell (p := ⟨O8, 0, none⟩) a8 _).setCell (p := ⟨O8, 1, none⟩) a8 _) (fun hHeld => ?_); clear hK K; (try simp only [Act.put, List.setIfInBounds_toArray, List.set_cons_zero, List.set_cons_succ])
                refine wpAnyH_ready (rs := [11]) (by kernel_rfl) (by simp) ?_
                refine AllReadyH.cons (by simp only [List.getElem?_toArray, List.getElem?_cons_succ, List.getElem?_cons_zero]; rfl) (fun K hK => ?_) AllReadyH.nil
                have c9' : Wr ((V6.setCell ⟨O8, 0, none⟩ (.int .i64 ta.lo)).setCell ⟨O8, 1, none⟩ (.int .i64 ta.hi)) O9 0 := by rw [wr_set, wr_set]; exact c9
                have d9' : Wr ((V6.setCell ⟨O8, 0, none⟩ (.int .i64 ta.lo)).setCell ⟨O8, 1, none⟩ (.int .i64 ta.hi)) O9 1 := by rw [wr_set, wr_set]; exact d9
                have e0 : ((V6.setCell ⟨O8, 0, none⟩ (.int .i64 ta.lo)).setCell ⟨O8, 1, none⟩ (.int .i64 ta.hi)).cell? ⟨O8, 0, none⟩ = some (.int .i64 ta.lo) := (World.cell?_setCell_other _ _ _ _ (fun e => by cases e)).trans (World.cell?_setCell_same' _ _ _ c8.1)
                have e1 : ((V6.setCell ⟨O8, 0, none⟩ (.int .i64 ta.lo)).setCell ⟨O8, 1, none⟩ (.int .i64 ta.hi)).cell? ⟨O8, 1, none⟩ = some (.int .i64 ta.hi) := World.cell?_setCell_same' _ _ _ (by rw [World.cell?_setCell_other _ _ _ _ (fun e => by cases e)]; exact d8.1)
                have es : ((V6.setCell ⟨O8, 0, none⟩ (.int .i64 ta.lo)).setCell ⟨O8, 1, none⟩ (.int .i64 ta.hi)).heap.size = V6.heap.size := by simp
                generalize (V6.setCell ⟨O8, 0, none⟩ (.int .i64 ta.lo)).setCell ⟨O8, 1, none⟩ (.int .i64 ta.hi) = X at *
                go_simp; refine hK.out _ _ ((hHeld.setCell (p := ⟨O9, 0, none⟩) a9 _).setCell (p := ⟨O9, 1, none⟩) a9 _) (fun hEnd => ?_); clear hK K; (try simp only [Act.put, List.setIfInBounds_toArray, List.set_cons_zero, List.set_cons_succ])
                refine wpAnyH_done (by kernel_rfl) ?_ _
                go_wp2_with fail
                go_meet
                exact fin_passed n0 n1 q0 q1 hBW hEnd a8 a9 (by omega) (by omega) hne e0 e1 c9' d9'
              exact AllReadyH.nil
            refine AllReadyH.cons (by simp only [List.getElem?_toArray, List.getElem?_cons_succ, List.getElem?_cons_zero]; rfl) (fun K hK => ?_) ?_
            · go_simp; refine hK.out _ _ (hS4.alloc hS4.size _) (fun hHeld => ?_); clear hK K; (try simp only [Act.put, List.setIfInBounds_toArray, List.set_cons_zero, List.set_cons_succ])
              have f8_5 := Fresh.new hS4 (.int .i64 0) (.int .i64 0) 27
              have f9_5 := f9_4.alloc (.cells #[.int .i64 0, .int .i64 0] 27)
              have hne' : O9 < V4.heap.size := f9_4.2.1
              obtain ⟨O8, hO8⟩ : ∃ O, O = V4.heap.size := ⟨_, rfl⟩
              rw [← hO8] at f8_5 ⊢
              have hne : O8 ≠ O9 := by omega
              clear hO8
              generalize V4.alloc (.cells #[.int .i64 0, .int .i64 0] 27) = V5 at *
              have hS5 := hHeld
              refine wpAnyH_ready (rs := [7]) (by kernel_rfl) (by simp) ?_
              refine AllReadyH.cons (by simp only [List.getElem?_toArray, List.getElem?_cons_succ, List.getElem?_cons_zero]; rfl) (fun K hK => ?_) ?_
              · go_simp; (go_at_call 85; refine (dTell_any set F fl fc f0 f1 f2 1 _ 0 4319 _ hs hD ?_).mono ?_; (focus (first | exact .inr (.inl ⟨rfl, ha⟩) | exact .inr (.inl ⟨rfl, hz⟩))); (first | rw [HA.out] | rw [HZ.out]); rintro e V6 ⟨rfl, hb⟩; (try go_wp2_with fail)); refine hK.out _ _ (hS5.trans (hb.mono hS5.size)) (fun hHeld => ?_); clear hK K; (try simp only [Act.put, List.setIfInBounds_toArray, List.set_cons_zero, List.set_cons_succ])
                have hS6 := hHeld
                have f8_6 := f8_5.below hb
                have f9_6 := f9_5.below hb
                obtain ⟨a8, b8, c8, d8⟩ := f8_6
                obtain ⟨a9, b9, c9, d9⟩ := f9_6
                clear hHeld
                refine wpAnyH_ready (rs := [10]) (by kernel_rfl) (by simp) ?_
                refine AllReadyH.cons (by simp only [List.getElem?_toArray, List.getElem?_cons_succ, List.getElem?_cons_zero]; rfl) (fun K hK => ?_) AllReadyH.nil
                go_simp; refine hK.out _ _ ((hS6.setCell (p := ⟨O8, 0, none⟩) a8 _).setCell (p := ⟨O8, 1, none⟩) a8 _) (fun hHeld => ?_); clear hK K; (try simp only [Act.put, List.setIfInBounds_toArray, List.set_cons_zero, List.set_cons_succ])
                refine wpAnyH_ready (rs := [11]) (by kernel_rfl) (by simp) ?_
                refine AllReadyH.cons (by simp only [List.getElem?_toArray, List.getElem?_cons_succ, List.getElem?_cons_zero]; rfl) (fun K hK => ?_) AllReadyH.nil
                have c9' : Wr ((V6.setCell ⟨O8, 0, none⟩ (.int .i64 ta.lo)).setCell ⟨O8, 1, none⟩ (.int .i64 ta.hi)) O9 0 := by rw [wr_set, wr_set]; exact c9
                have d9' : Wr ((V6.setCell ⟨O8, 0, none⟩ (.int .i64 ta.lo)).setCell ⟨O8, 1, none⟩ (.int .i64 ta.hi)) O9 1 := by rw [wr_set, wr_set]; exact d9
                have e0 : ((V6.setCell ⟨O8, 0, none⟩ (.int .i64 ta.lo)).setCell ⟨O8, 1, none⟩ (.int .i64 ta.hi)).cell? ⟨O8, 0, none⟩ = some (.int .i64 ta.lo) := (World.cell?_setCell_other _ _ _ _ (fun e => by cases e)).trans (World.cell?_setCell_same' _ _ _ c8.1)
                have e1 : ((V6.setCell ⟨O8, 0, none⟩ (.int .i64 ta.lo)).setCell ⟨O8, 1, none⟩ (.int .i64 ta.hi)).cell? ⟨O8, 1, none⟩ = some (.int .i64 ta.hi) := World.cell?_setCell_same' _ _ _ (by rw [World.cell?_setCell_other _ _ _ _ (fun e => by cases e)]; exact d8.1)
                have es : ((V6.setCell ⟨O8, 0, none⟩ (.int .i64 ta.lo)).setCell ⟨O8, 1, none⟩ (.int .i64 ta.hi)).heap.size = V6.heap.size := by simp
                generalize (V6.setCell ⟨O8, 0, none⟩ (.int .i64 ta.lo)).setCell ⟨O8, 1, none⟩ (.int .i64 ta.hi) = X at *
                go_simp; refine hK.out _ _ ((hHeld.setCell (p := ⟨O9, 0, none⟩) a9 _).setCell (p := ⟨O9, 1, none⟩) a9 _) (fun hEnd => ?_); clear hK K; (try simp only [Act.put, List.setIfInBounds_toArray, List.set_cons_zero, List.set_cons_succ])
                refine wpAnyH_done (by kernel_rfl) ?_ _
                go_wp2_with fail
                go_meet
                exact fin_passed n0 n1 q0 q1 hBW hEnd a8 a9 (by omega) (by omega) hne e0 e1 c9' d9'
              exact AllReadyH.nil
            exact AllReadyH.nil
          refine AllReadyH.cons (by simp only [List.getElem?_toArray, List.getElem?_cons_succ, List.getElem?_cons_zero]; rfl) (fun K hK => ?_) ?_
          · go_simp; refine hK.out _ _ (hS3.alloc hS3.size _) (fun hHeld => ?_); clear hK K; (try simp only [Act.put, List.setIfInBounds_toArray, List.set_cons_zero, List.set_cons_succ])
            have f8_4 := Fresh.new hS3 (.int .i64 0) (.int .i64 0) 27
            have f9_4 := f9_3.alloc (.cells #[.int .i64 0, .int .i64 0] 27)
            have hne' : O9 < V3.heap.size := f9_3.2.1
            obtain ⟨O8, hO8⟩ : ∃ O, O = V3.heap.size := ⟨_, rfl⟩
            rw [← hO8] at f8_4 ⊢
            have hne : O8 ≠ O9 := by omega
            clear hO8
            generalize V3.alloc (.cells #[.int .i64 0, .int .i64 0] 27) = V4 at *
            have hS4 := hHeld
            refine wpAnyH_ready (rs := [6]) (by kernel_rfl) (by simp) ?_
            refine AllReadyH.cons (by simp only [List.getElem?_toArray, List.getElem?_cons_succ, List.getElem?_cons_zero]; rfl) (fun K hK => ?_) ?_
            · go_simp; (go_at_call 63; refine (pMinutes_any _).mono ?_; rintro e V5 ⟨rfl, hb⟩; (try go_wp2_with fail)); refine hK.out _ _ (hS4.trans (hb.mono hS4.size)) (fun hHeld => ?_); clear hK K; (try simp only [Act.put, List.setIfInBounds_toArray, List.set_cons_zero, List.set_cons_succ])
              have hS5 := hHeld
              have f8_5 := f8_4.below hb
              have f9_5 := f9_4.below hb
              refine wpAnyH_ready (rs := [7]) (by kernel_rfl) (by simp) ?_
              refine AllReadyH.cons (by simp only [List.getElem?_toArray, List.getElem?_cons_succ, List.getElem?_cons_zero]; rfl) (fun K hK => ?_) ?_
              · go_simp; (go_at_call 85; refine (dTell_any set F fl fc f0 f1 f2 1 _ 0 4319 _ hs hD ?_).mono ?_; (focus (first | exact .inr (.inl ⟨rfl, ha⟩) | exact .inr (.inl ⟨rfl, hz⟩))); (first | rw [HA.out] | rw [HZ.out]); rintro e V6 ⟨rfl, hb⟩; (try go_wp2_with fail)); refine hK.out _ _ (hS5.trans (hb.mono hS5.size)) (fun hHeld => ?_); clear hK K; (try simp only [Act.put, List.setIfInBounds_toArray, List.set_cons_zero, List.set_cons_succ])
                have hS6 := hHeld
                have f8_6 := f8_5.below hb
                have f9_6 := f9_5.below hb
                obtain ⟨a8, b8, c8, d8⟩ := f8_6
                obtain ⟨a9, b9, c9, d9⟩ := f9_6
                clear hHeld
                refine wpAnyH_ready (rs := [10]) (by kernel_rfl) (by simp) ?_
                refine AllReadyH.cons (by simp only [List.getElem?_toArray, List.getElem?_cons_succ, List.getElem?_cons_zero]; rfl) (fun K hK => ?_) AllReadyH.nil
                go_simp; refine hK.out _ _ ((hS6.setCell (p := ⟨O8, 0, none⟩) a8 _).setCell (p := ⟨O8, 1, none⟩) a8 _) (fun hHeld => ?_); clear hK K; (try simp only [Act.put, List.setIfInBounds_toArray, List.set_cons_zero, List.set_cons_succ])
                refine wpAnyH_ready (rs := [11]) (by kernel_rfl) (by simp) ?_
                refine AllReadyH.cons (by simp only [List.getElem?_toArray, List.getElem?_cons_succ, List.getElem?_cons_zero]; rfl) (fun K hK => ?_) AllReadyH.nil
                have c9' : Wr ((V6.setCell ⟨O8, 0, none⟩ (.int .i64 ta.lo)).setCell ⟨O8, 1, none⟩ (.int .i64 ta.hi)) O9 0 := by rw [wr_set, wr_set]; exact c9
                have d9' : Wr ((V6.setCell ⟨O8, 0, none⟩ (.int .i64 ta.lo)).setCell ⟨O8, 1, none⟩ (.int .i64 ta.hi)) O9 1 := by rw [wr_set, wr_set]; exact d9
                have e0 : ((V6.setCell ⟨O8, 0, none⟩ (.int .i64 ta.lo)).setCell ⟨O8, 1, none⟩ (.int .i64 ta.hi)).cell? ⟨O8, 0, none⟩ = some (.int .i64 ta.lo) := (World.cell?_setCell_other _ _ _ _ (fun e => by cases e)).trans (World.cell?_setCell_same' _ _ _ c8.1)
                have e1 : ((V6.setCell ⟨O8, 0, none⟩ (.int .i64 ta.lo)).setCell ⟨O8, 1, none⟩ (.int .i64 ta.hi)).cell? ⟨O8, 1, none⟩ = some (.int .i64 ta.hi) := World.cell?_setCell_same' _ _ _ (by rw [World.cell?_setCell_other _ _ _ _ (fun e => by cases e)]; exact d8.1)
                have es : ((V6.setCell ⟨O8, 0, none⟩ (.int .i64 ta.lo)).setCell ⟨O8, 1, none⟩ (.int .i64 ta.hi)).heap.size = V6.heap.size := by simp
                generalize (V6.setCell ⟨O8, 0, none⟩ (.int .i64 ta.lo)).setCell ⟨O8, 1, none⟩ (.int .i64 ta.hi) = X at *
                go_simp; refine hK.out _ _ ((hHeld.setCell (p := ⟨O9, 0, none⟩) a9 _).setCell (p := ⟨O9, 1, none⟩) a9 _) (fun hEnd => ?_); clear hK K; (try simp only [Act.put, List.setIfInBounds_toArray, List.set_cons_zero, List.set_cons_succ])
                refine wpAnyH_done (by kernel_rfl) ?_ _
                go_wp2_with fail
                go_meet
                exact fin_passed n0 n1 q0 q1 hBW hEnd a8 a9 (by omega) (by omega) hne e0 e1 c9' d9'
              exact AllReadyH.nil
            exact AllReadyH.nil
          exact AllReadyH.nil
        refine AllReadyH.cons (by simp only [List.getElem?_toArray, List.getElem?_cons_succ, List.getElem?_cons_zero]; rfl) (fun K hK => ?_) ?_
        · go_simp; refine hK.out _ _ (hS2.alloc hS2.size _) (fun hHeld => ?_); clear hK K; (try simp only [Act.put, List.setIfInBounds_toArray, List.set_cons_zero, List.set_cons_succ])
          have f8_3 := Fresh.new hS2 (.int .i64 0) (.int .i64 0) 27
          have f9_3 := f9_2.alloc (.cells #[.int .i64 0, .int .i64 0] 27)
          have hne' : O9 < V2.heap.size := f9_2.2.1
          obtain ⟨O8, hO8⟩ : ∃ O, O = V2.heap.size := ⟨_, rfl⟩
          rw [← hO8] at f8_3 ⊢
          have hne : O8 ≠ O9 := by omega
          clear hO8
          generalize V2.alloc (.cells #[.int .i64 0, .int .i64 0] 27) = V3 at *
          have hS3 := hHeld
          refine wpAnyH_ready (rs := [3]) (by kernel_rfl) (by simp) ?_
          refine AllReadyH.cons (by simp only [List.getElem?_toArray, List.getElem?_cons_succ, List.getElem?_cons_zero]; rfl) (fun K hK => ?_) ?_
          · go_simp; (go_at_call 85; refine (dTell_any set F fl fc f0 f1 f2 1 _ 0 4319 _ hs hD ?_).mono ?_; (focus (first | exact .inr (.inl ⟨rfl, ha⟩) | exact .inr (.inl ⟨rfl, hz⟩))); (first | rw [HA.out] | rw [HZ.out]); rintro e V4 ⟨rfl, hb⟩; (try go_wp2_with fail)); refine hK.out _ _ (hS3.trans (hb.mono hS3.size)) (fun hHeld => ?_); clear hK K; (try simp only [Act.put, List.setIfInBounds_toArray, List.set_cons_zero, List.set_cons_succ])
            have hS4 := hHeld
            have f8_4 := f8_3.below hb
            have f9_4 := f9_3.below hb
            refine wpAnyH_ready (rs := [6]) (by kernel_rfl) (by simp) ?_
            refine AllReadyH.cons (by simp only [List.getElem?_toArray, List.getElem?_cons_succ, List.getElem?_cons_zero]; rfl) (fun K hK => ?_) ?_
            · go_simp; (go_at_call 63; refine (pMinutes_any _).mono ?_; rintro e V5 ⟨rfl, hb⟩; (try go_wp2_with fail)); refine hK.out _ _ (hS4.trans (hb.mono hS4.size)) (fun hHeld => ?_); clear hK K; (try simp only [Act.put, List.setIfInBounds_toArray, List.set_cons_zero, List.set_cons_succ])
              have hS5 := hHeld
              have f8_5 := f8_4.below hb
              have f9_5 := f9_4.below hb
              refine wpAnyH_ready (rs := [7]) (by kernel_rfl) (by simp) ?_
              refine AllReadyH.cons (by simp only [List.getElem?_toArray, List.getElem?_cons_succ, List.getElem?_cons_zero]; rfl) (fun K hK => ?_) ?_
              · go_simp; (go_at_call 85; refine (dTell_any set F fl fc f0 f1 f2 1 _ 0 4319 _ hs hD ?_).mono ?_; (focus (first | exact .inr (.inl ⟨rfl, ha⟩) | exact .inr (.inl ⟨rfl, hz⟩))); (first | rw [HA.out] | rw [HZ.out]); rintro e V6 ⟨rfl, hb⟩; (try go_wp2_with fail)); refine hK.out _ _ (hS5.trans (hb.mono hS5.size)) (fun hHeld => ?_); clear hK K; (try simp only [Act.put, List.setIfInBounds_toArray, List.set_cons_zero, List.set_cons_succ])
                have hS6 := hHeld
                have f8_6 := f8_5.below hb
                have f9_6 := f9_5.below hb
                obtain ⟨a8, b8, c8, d8⟩ := f8_6
                obtain ⟨a9, b9, c9, d9⟩ := f9_6
                clear hHeld
                refine wpAnyH_ready (rs := [10]) (by kernel_rfl) (by simp) ?_
                refine AllReadyH.cons (by simp only [List.getElem?_toArray, List.getElem?_cons_succ, List.getElem?_cons_zero]; rfl) (fun K hK => ?_) AllReadyH.nil
                go_simp; refine hK.out _ _ ((hS6.setCell (p := ⟨O8, 0, none⟩) a8 _).setCell (p := ⟨O8, 1, none⟩) a8 _) (fun hHeld => ?_); clear hK K; (try simp only [Act.put, List.setIfInBounds_toArray, List.set_cons_zero, List.set_cons_succ])
                refine wpAnyH_ready (rs := [11]) (by kernel_rfl) (by simp) ?_
                refine AllReadyH.cons (by simp only [List.getElem?_toArray, List.getElem?_cons_succ, List.getElem?_cons_zero]; rfl) (fun K hK => ?_) AllReadyH.nil
                have c9' : Wr ((V6.setCell ⟨O8, 0, none⟩ (.int .i64 ta.lo)).setCell ⟨O8, 1, none⟩ (.int .i64 ta.hi)) O9 0 := by rw [wr_set, wr_set]; exact c9
                have d9' : Wr ((V6.setCell ⟨O8, 0, none⟩ (.int .i64 ta.lo)).setCell ⟨O8, 1, none⟩ (.int .i64 ta.hi)) O9 1 := by rw [wr_set, wr_set]; exact d9
                have e0 : ((V6.setCell ⟨O8, 0, none⟩ (.int .i64 ta.lo)).setCell ⟨O8, 1, none⟩ (.int .i64 ta.hi)).cell? ⟨O8, 0, none⟩ = some (.int .i64 ta.lo) := (World.cell?_setCell_other _ _ _ _ (fun e => by cases e)).trans (World.cell?_setCell_same' _ _ _ c8.1)
                have e1 : ((V6.setCell ⟨O8, 0, none⟩ (.int .i64 ta.lo)).setCell ⟨O8, 1, none⟩ (.int .i64 ta.hi)).cell? ⟨O8, 1, none⟩ = some (.int .i64 ta.hi) := World.cell?_setCell_same' _ _ _ (by rw [World.cell?_setCell_other _ _ _ _ (fun e => by cases e)]; exact d8.1)
                have es : ((V6.setCell ⟨O8, 0, none⟩ (.int .i64 ta.lo)).setCell ⟨O8, 1, none⟩ (.int .i64 ta.hi)).heap.size = V6.heap.size := by simp
                generalize (V6.setCell ⟨O8, 0, none⟩ (.int .i64 ta.lo)).setCell ⟨O8, 1, none⟩ (.int .i64 ta.hi) = X at *
                go_simp; refine hK.out _ _ ((hHeld.setCell (p := ⟨O9, 0, none⟩) a9 _).setCell (p := ⟨O9, 1, none⟩) a9 _) (fun hEnd => ?_); clear hK K; (try simp only [Act.put, List.setIfInBounds_toArray, List.set_cons_zero, List.set_cons_succ])
                refine wpAnyH_done (by kernel_rfl) ?_ _
                go_wp2_with fail
                go_meet
                exact fin_passed n0 n1 q0 q1 hBW hEnd a8 a9 (by omega) (by omega) hne e0 e1 c9' d9'
              exact AllReadyH.nil
            exact AllReadyH.nil
          exact AllReadyH.nil
        exact AllReadyH.nil
      refine AllReadyH.cons (by simp only [List.getElem?_toArray, List.getElem?_cons_succ, List.getElem?_cons_zero]; rfl) (fun K hK => ?_) ?_
      · go_simp; refine hK.out _ _ (hS1.alloc hS1.size _) (fun hHeld => ?_); clear hK K; (try simp only [Act.put, List.setIfInBounds_toArray, List.set_cons_zero, List.set_cons_succ])
        have f8_2 := Fresh.new hS1 (.int .i64 0) (.int .i64 0) 27
        have f9_2 := f9_1.alloc (.cells #[.int .i64 0, .int .i64 0] 27)
        have hne' : O9 < V1.heap.size := f9_1.2.1
        obtain ⟨O8, hO8⟩ : ∃ O, O = V1.heap.size := ⟨_, rfl⟩
        rw [← hO8] at f8_2 ⊢
        have hne : O8 ≠ O9 := by omega
        clear hO8
        generalize V1.alloc (.cells #[.int .i64 0, .int .i64 0] 27) = V2 at *
        have hS2 := hHeld
        refine wpAnyH_ready (rs := [2]) (by kernel_rfl) (by simp) ?_
        refine AllReadyH.cons (by simp only [List.getElem?_toArray, List.getElem?_cons_succ, List.getElem?_cons_zero]; rfl) (fun K hK => ?_) ?_
        · go_simp; (go_at_call 63; refine (pMinutes_any _).mono ?_; rintro e V3 ⟨rfl, hb⟩; (try go_wp2_with fail)); refine hK.out _ _ (hS2.trans (hb.mono hS2.size)) (fun hHeld => ?_); clear hK K; (try simp only [Act.put, List.setIfInBounds_toArray, List.set_cons_zero, List.set_cons_succ])
          have hS3 := hHeld
          have f8_3 := f8_2.below hb
          have f9_3 := f9_2.below hb
          refine wpAnyH_ready (rs := [3]) (by kernel_rfl) (by simp) ?_
          refine AllReadyH.cons (by simp only [List.getElem?_toArray, List.getElem?_cons_succ, List.getElem?_cons_zero]; rfl) (fun K hK => ?_) ?_
          · go_simp; (go_at_call 85; refine (dTell_any set F fl fc f0 f1 f2 1 _ 0 4319 _ hs hD ?_).mono ?_; (focus (first | exact .inr (.inl ⟨rfl, ha⟩) | exact .inr (.inl ⟨rfl, hz⟩))); (first | rw [HA.out] | rw [HZ.out]); rintro e V4 ⟨rfl, hb⟩; (try go_wp2_with fail)); refine hK.out _ _ (hS3.trans (hb.mono hS3.size)) (fun hHeld => ?_); clear hK K; (try simp only [Act.put, List.setIfInBounds_toArray, List.set_cons_zero, List.set_cons_succ])
            have hS4 := hHeld
            have f8_4 := f8_3.below hb
            have f9_4 := f9_3.below hb
            refine wpAnyH_ready (rs := [6]) (by kernel_rfl) (by simp) ?_
            refine AllReadyH.cons (by simp only [List.getElem?_toArray, List.getElem?_cons_succ, List.getElem?_cons_zero]; rfl) (fun K hK => ?_) ?_
            · go_simp; (go_at_call 63; refine (pMinutes_any _).mono ?_; rintro e V5 ⟨rfl, hb⟩; (try go_wp2_with fail)); refine hK.out _ _ (hS4.trans (hb.mono hS4.size)) (fun hHeld => ?_); clear hK K; (try simp only [Act.put, List.setIfInBounds_toArray, List.set_cons_zero, List.set_cons_succ])
              have hS5 := hHeld
              have f8_5 := f8_4.below hb
              have f9_5 := f9_4.below hb
              refine wpAnyH_ready (rs := [7]) (by kernel_rfl) (by simp) ?_
              refine AllReadyH.cons (by simp only [List.getElem?_toArray, List.getElem?_cons_succ, List.getElem?_cons_zero]; rfl) (fun K hK => ?_) ?_
              · go_simp; (go_at_call 85; refine (dTell_any set F fl fc f0 f1 f2 1 _ 0 4319 _ hs hD ?_).mono ?_; (focus (first | exact .inr (.inl ⟨rfl, ha⟩) | exact .inr (.inl ⟨rfl, hz⟩))); (first | rw [HA.out] | rw [HZ.out]); rintro e V6 ⟨rfl, hb⟩; (try go_wp2_with fail)); refine hK.out _ _ (hS5.trans (hb.mono hS5.size)) (fun hHeld => ?_); clear hK K; (try simp only [Act.put, List.setIfInBounds_toArray, List.set_cons_zero, List.set_cons_succ])
                have hS6 := hHeld
                have f8_6 := f8_5.below hb
                have f9_6 := f9_5.below hb
                obtain ⟨a8, b8, c8, d8⟩ := f8_6
                obtain ⟨a9, b9, c9, d9⟩ := f9_6
                clear hHeld
                refine wpAnyH_ready (rs := [10]) (by kernel_rfl) (by simp) ?_
                refine AllReadyH.cons (by simp only [List.getElem?_toArray, List.getElem?_cons_succ, List.getElem?_cons_zero]; rfl) (fun K hK => ?_) AllReadyH.nil
                go_simp; refine hK.out _ _ ((hS6.setCell (p := ⟨O8, 0, none⟩) a8 _).setCell (p := ⟨O8, 1, none⟩) a8 _) (fun hHeld => ?_); clear hK K; (try simp only [Act.put, List.setIfInBounds_toArray, List.set_cons_zero, List.set_cons_succ])
                refine wpAnyH_ready (rs := [11]) (by kernel_rfl) (by simp) ?_
                refine AllReadyH.cons (by simp only [List.getElem?_toArray, List.getElem?_cons_succ, List.getElem?_cons_zero]; rfl) (fun K hK => ?_) AllReadyH.nil
                have c9' : Wr ((V6.setCell ⟨O8, 0, none⟩ (.int .i64 ta.lo)).setCell ⟨O8, 1, none⟩ (.int .i64 ta.hi)) O9 0 := by rw [wr_set, wr_set]; exact c9
                have d9' : Wr ((V6.setCell ⟨O8, 0, none⟩ (.int .i64 ta.lo)).setCell ⟨O8, 1, none⟩ (.int .i64 ta.hi)) O9 1 := by rw [wr_set, wr_set]; exact d9
                have e0 : ((V6.setCell ⟨O8, 0, none⟩ (.int .i64 ta.lo)).setCell ⟨O8, 1, none⟩ (.int .i64 ta.hi)).cell? ⟨O8, 0, none⟩ = some (.int .i64 ta.lo) := (World.cell?_setCell_other _ _ _ _ (fun e => by cases e)).trans (World.cell?_setCell_same' _ _ _ c8.1)
                have e1 : ((V6.setCell ⟨O8, 0, none⟩ (.int .i64 ta.lo)).setCell ⟨O8, 1, none⟩ (.int .i64 ta.hi)).cell? ⟨O8, 1, none⟩ = some (.int .i64 ta.hi) := World.cell?_setCell_same' _ _ _ (by rw [World.cell?_setCell_other _ _ _ _ (fun e => by cases e)]; exact d8.1)
                have es : ((V6.setCell ⟨O8, 0, none⟩ (.int .i64 ta.lo)).setCell ⟨O8, 1, none⟩ (.int .i64 ta.hi)).heap.size = V6.heap.size := by simp
                generalize (V6.setCell ⟨O8, 0, none⟩ (.int .i64 ta.lo)).setCell ⟨O8, 1, none⟩ (.int .i64 ta.hi) = X at *
                go_simp; refine hK.out _ _ ((hHeld.setCell (p := ⟨O9, 0, none⟩) a9 _).setCell (p := ⟨O9, 1, none⟩) a9 _) (fun hEnd => ?_); clear hK K; (try simp only [Act.put, List.setIfInBounds_toArray, List.set_cons_zero, List.set_cons_succ])
                refine wpAnyH_done (by kernel_rfl) ?_ _
                go_wp2_with fail
                go_meet
                exact fin_passed n0 n1 q0 q1 hBW hEnd a8 a9 (by omega) (by omega) hne e0 e1 c9' d9'
              exact AllReadyH.nil
            exact AllReadyH.nil
          exact AllReadyH.nil
        exact AllReadyH.nil
      exact AllReadyH.nil
    exact AllReadyH.nil
  case rest =>
    obtain ⟨O1, O2, rfl, rfl, h1, h2, h3, h4, c0, c1, c2, c3, q0, q1, hBx⟩ := hcut
    have n0 := q0.lt
    by_cases ea : ta.hi < ta.lo
    · have hd : decide (ta.hi < ta.lo) = true := decide_eq_true ea
      have H2 : Hid (passD set [f0, f1, f2] a z = ⟨0, -1⟩) := hid (by rw [HP.out, if_pos (.inl ea)])
      go_wp2_with (go_at_call 92; refine (isEmpty_any _ _ _).mono ?_; rw [hd]; rintro e w1 ⟨rfl, hb1⟩; (first | replace hb1 := Below.un1 hb1 | replace hb1 := Below.un2 hb1 | skip); obtain ⟨hc1, hf1, hl1, hm1, hw1⟩ := bcell hb1; have hz1 := hb1.size; (try simp only [World.size_alloc, World.size_setCell] at hz1); have z0 : Wr w1 (w.heap.size + 1) 0 := (by rw [hw1 _ _ (by assumption)]; assumption); have z1 : Wr w1 (w.heap.size + 1) 1 := (by rw [hw1 _ _ (by assumption)]; assumption); have nn := z0.lt; have m1 := hl1 O1 (by assumption); have m2 := hl1 O2 (by assumption); clear hw1 hf1)
      simp [bodyPost, results, Try.results69, go_sem, H2.out, *]
      (repeat' (first | (with_reducible exact Below.refl _ _) | (with_reducible assumption) | (with_reducible refine Below.drew ?_) | (with_reducible refine below_drewN ?_ _) | (with_reducible refine Below.setCell ?_ ?_ _) | (with_reducible refine Below.alloc ?_ ?_ _) | go_size | (exact Below.size (by assumption)) | (refine Below.trans ?_ (Below.mono (by assumption) ?_))))
    · have hd : decide (ta.hi < ta.lo) = false := decide_eq_false ea
      by_cases ez : tz.hi < tz.lo
      · have hd2 : decide (tz.hi < tz.lo) = true := decide_eq_true ez
        have H2 : Hid (passD set [f0, f1, f2] a z = ⟨0, -1⟩) := hid (by rw [HP.out, if_pos (.inr ez)])
        go_wp2_with (go_at_call 92; refine (isEmpty_any _ _ _).mono ?_; (first | rw [hd] | rw [hd2]); rintro e w1 ⟨rfl, hb1⟩; (first | replace hb1 := Below.un1 hb1 | replace hb1 := Below.un2 hb1 | skip); obtain ⟨hc1, hf1, hl1, hm1, hw1⟩ := bcell hb1; have hz1 := hb1.size; (try simp only [World.size_alloc, World.size_setCell] at hz1); have z0 : Wr w1 (w.heap.size + 1) 0 := (by rw [hw1 _ _ (by assumption)]; assumption); have z1 : Wr w1 (w.heap.size + 1) 1 := (by rw [hw1 _ _ (by assumption)]; assumption); have nn := z0.lt; have m1 := hl1 O1 (by assumption); have m2 := hl1 O2 (by assumption); clear hw1 hf1)
        simp [bodyPost, results, Try.results69, go_sem, H2.out, *]
        (repeat' (first | (with_reducible exact Below.refl _ _) | (with_reducible assumption) | (with_reducible refine Below.drew ?_) | (with_reducible refine below_drewN ?_ _) | (with_reducible refine Below.setCell ?_ ?_ _) | (with_reducible refine Below.alloc ?_ ?_ _) | go_size | (exact Below.size (by assumption)) | (refine Below.trans ?_ (Below.mono (by assumption) ?_))))
      · have hd2 : decide (tz.hi < tz.lo) = false := decide_eq_false ez
        have H2 : Hid (passD set [f0, f1, f2] a z = ⟨max 0 (tz.lo - ta.hi), tz.hi - ta.lo⟩) := hid (by rw [HP.out, if_neg (fun h => h.elim ea ez)])
        go_wp2_with (go_at_call 92; refine (isEmpty_any _ _ _).mono ?_; (first | rw [hd] | rw [hd2]); rintro e w1 ⟨rfl, hb1⟩; (first | replace hb1 := Below.un1 hb1 | replace hb1 := Below.un2 hb1 | skip); obtain ⟨hc1, hf1, hl1, hm1, hw1⟩ := bcell hb1; have hz1 := hb1.size; (try simp only [World.size_alloc, World.size_setCell] at hz1); have z0 : Wr w1 (w.heap.size + 1) 0 := (by rw [hw1 _ _ (by assumption)]; assumption); have z1 : Wr w1 (w.heap.size + 1) 1 := (by rw [hw1 _ _ (by assumption)]; assumption); have nn := z0.lt; have m1 := hl1 O1 (by assumption); have m2 := hl1 O2 (by assumption); clear hw1 hf1)
        have hg : ∀ (W : World) (b o c : Nat), W.cell? ⟨b, o, none⟩ = some (.int .i64 (IntKind.i64.wrap (tz.lo - ta.hi))) → Calls Try.prog 93 #[.int .i64 0, .slice (some ⟨b, o, none⟩) 1 c] W fun e w' => e = .returned (.int .i64 (max 0 (IntKind.i64.wrap (tz.lo - ta.hi)))) ∧ W = w' := fun W b o c h => greatest_at b o c 0 _ W h
        go_region_held3 (fun w' => (w'.cell? ⟨O1, 0, none⟩ = some (.int .i64 ta.lo) ∧ w'.cell? ⟨O1, 1, none⟩ = some (.int .i64 ta.hi) ∧ w'.cell? ⟨O2, 0, none⟩ = some (.int .i64 tz.lo) ∧ w'.cell? ⟨O2, 1, none⟩ = some (.int .i64 tz.hi) ∧ Wr w' (w.heap.size + 1) 0 ∧ Wr w' (w.heap.size + 1) 1) ∧ Below w.heap.size w w') (((refine ⟨?_, ?_⟩; (focus (first | (simp [go_sem, wr_set, wr_drew, wr_drewN, wr_alloc, wr_new]; done) | (simp [go_sem, wr_set, wr_drew, wr_drewN, wr_alloc, wr_new, *]; done) | (simp (disch := go_size) [go_sem, wr_set, wr_drew, wr_drewN, wr_alloc, wr_new, *]; done))); (repeat' (first | (with_reducible exact Below.refl _ _) | (with_reducible assumption) | (with_reducible refine Below.drew ?_) | (with_reducible refine below_drewN ?_ _) | (with_reducible refine Below.setCell ?_ ?_ _) | (with_reducible refine Below.alloc ?_ ?_ _) | go_size | (exact Below.size (by assumption)) | (refine Below.trans ?_ (Below.mono (by assumption) ?_)))))))
          (first
            | (go_at_call 93; refine (hg _ _ _ _ ?_).mono ?_; (focus (first | (simp [go_sem, wr_set, wr_drew, wr_drewN, wr_alloc, wr_new]; done) | (simp [go_sem, wr_set, wr_drew, wr_drewN, wr_alloc, wr_new, *]; done) | (simp (disch := go_size) [go_sem, wr_set, wr_drew, wr_drewN, wr_alloc, wr_new, *]; done))); rintro e w4 ⟨rfl, rfl⟩))
        all_goals
          rename_i hHeld
          obtain ⟨⟨-, -, -, -, r0, r1⟩, hB'⟩ := hHeld
          (try simp only [wr_set] at r0 r1)
          simp (disch := omega) only [IntWalk.i64_in]
          go_wp2
          simp [bodyPost, results, Try.results69, go_sem, H2.out, *]
          (repeat' (first | (with_reducible exact Below.refl _ _) | (with_reducible assumption) | (with_reducible refine Below.drew ?_) | (with_reducible refine below_drewN ?_ _) | (with_reducible refine Below.setCell ?_ ?_ _) | (with_reducible refine Below.alloc ?_ ?_ _) | go_size | (exact Below.size (by assumption)) | (refine Below.trans ?_ (Below.mono (by assumption) ?_))))
end Go.Proofs.Ytnkbcapikenbbaa
