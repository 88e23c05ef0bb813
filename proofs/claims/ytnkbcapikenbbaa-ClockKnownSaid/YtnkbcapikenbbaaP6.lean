/- A reach: the least span in which all spans lie that were added. -/
import Derived.Test.YtnkbcapikenbbaaP2
import Derived.Test.YtnkbcapikenbbaaJ
import Derived.Deep.RegionHeld3
import Derived.Test.YtnkbcapikenbbaaZ
namespace Go.Proofs.Ytnkbcapikenbbaa
set_option linter.unusedSimpArgs false
set_option linter.unusedVariables false
open Go.RowKit
attribute [local go_sem high] cell_set_wr
attribute [local go_sem low] cell_wr frozen_wr
attribute [local go_sem] wr_set wr_drew wr_drewN wr_alloc wr_new

structure Rc where
  lo : Int
  hi : Int
  any : Bool
def Rc.zero : Rc := ⟨0, 0, false⟩
def Rc.add (r : Rc) (s : Sp) : Rc := if s.hi < s.lo then r else if r.any = true then ⟨min r.lo s.lo, max r.hi s.hi, true⟩ else ⟨s.lo, s.hi, true⟩

/-- all but block rb is as it was -/
structure But (rb : Nat) (w w' : World) : Prop where
  os : w'.os = w.os
  tape : w'.tape = w.tape
  output : w'.output = w.output
  size : w.heap.size ≤ w'.heap.size
  block : ∀ k, k < w.heap.size → k ≠ rb → w'.heap[k]? = w.heap[k]?
theorem But.below {rb : Nat} {w w' : World} (h : But rb w w') {B : Nat} (hB : B ≤ rb) (hz : B ≤ w.heap.size) : Below B w w' := ⟨h.os, h.tape, h.output, h.size, fun k hk => h.block k (by omega) (by omega)⟩
theorem But.cell {rb : Nat} {w w' : World} (h : But rb w w') {b : Nat} (hb : b < w.heap.size) (hr : b ≠ rb) (o : Nat) : w'.cell? ⟨b, o, none⟩ = w.cell? ⟨b, o, none⟩ := World.cell?_of_block (w := w) (h.block b hb hr)
theorem But.mid {rb c : Nat} {w w' : World} (h : But rb w w') (hc : rb < c) : Mid c w w' := ⟨h.size, fun k hk hz => h.block k hz (by omega)⟩

structure RBox (w : World) (rb : Nat) (r : Rc) : Prop where
  c0 : w.cell? ⟨rb, 0, none⟩ = some (.int .i64 r.lo)
  c1 : w.cell? ⟨rb, 1, none⟩ = some (.int .i64 r.hi)
  c2 : w.cell? ⟨rb, 2, none⟩ = some (.bool r.any)
  fz : ∀ o, w.frozen? ⟨rb, o, none⟩ = false
theorem RBox.lt {w : World} {rb : Nat} {r : Rc} (h : RBox w rb r) : rb < w.heap.size := by
  refine Nat.lt_of_not_le fun hge => ?_
  have h1 := h.c0
  simp [World.cell?, Array.getElem?_eq_none hge] at h1
theorem RBox.below {w w' : World} {rb B : Nat} {r : Rc} (h : RBox w rb r) (hb : Below B w w') (hr : rb < B) : RBox w' rb r :=
  ⟨(hb.cell (p := ⟨rb, 0, none⟩) hr).trans h.c0, (hb.cell (p := ⟨rb, 1, none⟩) hr).trans h.c1, (hb.cell (p := ⟨rb, 2, none⟩) hr).trans h.c2, fun o => (hb.frozen (p := ⟨rb, o, none⟩) hr).trans (h.fz o)⟩

theorem But.refl (rb : Nat) (w : World) : But rb w w := ⟨rfl, rfl, rfl, Nat.le_refl _, fun _ _ _ => rfl⟩
theorem But.trans {rb : Nat} {a b c : World} (h : But rb a b) (k : But rb b c) : But rb a c := ⟨k.os.trans h.os, k.tape.trans h.tape, k.output.trans h.output, Nat.le_trans h.size k.size, fun i hi hr => (k.block i (Nat.lt_of_lt_of_le hi h.size) hr).trans (h.block i hi hr)⟩
theorem But.alloc {rb : Nat} {a b : World} (h : But rb a b) (o : Obj) : But rb a (b.alloc o) :=
  h.trans ⟨rfl, rfl, rfl, by simp, fun k hk _ => Below.heap_alloc _ _ _ hk⟩
theorem But.set {rb : Nat} {a b : World} (h : But rb a b) (o : Nat) (u : Value) : But rb a (b.setCell ⟨rb, o, none⟩ u) :=
  h.trans ⟨rfl, rfl, rfl, by simp [World.setCell], fun k _ hr => Below.heap_setCell _ _ _ _ hr⟩
theorem But.and {rb : Nat} {a b c : World} (h : But rb a b) (k : Below b.heap.size b c) : But rb a c := h.trans ⟨k.os, k.tape, k.output, k.size, fun i hi _ => k.block i hi⟩

theorem RBox.put01 {w : World} {rb : Nat} {r : Rc} (h : RBox w rb r) (a b : Int) : RBox ((w.setCell ⟨rb, 0, none⟩ (.int .i64 a)).setCell ⟨rb, 1, none⟩ (.int .i64 b)) rb ⟨a, b, r.any⟩ := by
  have n : ∀ {o o' : Nat} {v : Value} {W : World}, o' ≠ o → (W.setCell ⟨rb, o, none⟩ v).cell? ⟨rb, o', none⟩ = W.cell? ⟨rb, o', none⟩ := fun hne => World.cell?_setCell_other _ _ _ _ (fun e => hne (congrArg Addr.off e).symm)
  refine ⟨(n (by omega)).trans (World.cell?_setCell_same' _ _ _ (by rw [h.c0]; rfl)), World.cell?_setCell_same' _ _ _ (by rw [n (by omega), h.c1]; rfl), (n (by omega)).trans ((n (by omega)).trans h.c2), fun o => ?_⟩
  rw [World.frozen?_setCell, World.frozen?_setCell]; exact h.fz o
theorem RBox.put {w : World} {rb : Nat} {r : Rc} (h : RBox w rb r) (a b : Int) (x : Bool) : RBox (((w.setCell ⟨rb, 0, none⟩ (.int .i64 a)).setCell ⟨rb, 1, none⟩ (.int .i64 b)).setCell ⟨rb, 2, none⟩ (.bool x)) rb ⟨a, b, x⟩ := by
  have h' := h.put01 a b
  generalize (w.setCell ⟨rb, 0, none⟩ (.int .i64 a)).setCell ⟨rb, 1, none⟩ (.int .i64 b) = V at *
  have n : ∀ {o o' : Nat} {v : Value} {W : World}, o' ≠ o → (W.setCell ⟨rb, o, none⟩ v).cell? ⟨rb, o', none⟩ = W.cell? ⟨rb, o', none⟩ := fun hne => World.cell?_setCell_other _ _ _ _ (fun e => hne (congrArg Addr.off e).symm)
  refine ⟨(n (by omega)).trans h'.c0, (n (by omega)).trans h'.c1, World.cell?_setCell_same' _ _ _ (by rw [h'.c2]; rfl), fun o => ?_⟩
  rw [World.frozen?_setCell]; exact h'.fz o

/-- all but block rb is as it was, and in that block all but three cells from ro on -/
structure ButO (rb ro : Nat) (w w' : World) : Prop where
  but : But rb w w'
  lt : rb < w.heap.size
  cell : ∀ o, (o < ro ∨ ro + 3 ≤ o) → w'.cell? ⟨rb, o, none⟩ = w.cell? ⟨rb, o, none⟩
  fz : ∀ o, w'.frozen? ⟨rb, o, none⟩ = w.frozen? ⟨rb, o, none⟩
theorem ButO.refl {rb ro : Nat} {w : World} (h : rb < w.heap.size) : ButO rb ro w w := ⟨But.refl _ _, h, fun _ _ => rfl, fun _ => rfl⟩
theorem ButO.and {rb ro : Nat} {a b c : World} (h : ButO rb ro a b) (k : Below b.heap.size b c) : ButO rb ro a c := by
  have hlt : rb < b.heap.size := Nat.lt_of_lt_of_le h.lt h.but.size
  exact ⟨h.but.and k, h.lt, fun o ho => (k.cell (p := ⟨rb, o, none⟩) hlt).trans (h.cell o ho), fun o => (k.frozen (p := ⟨rb, o, none⟩) hlt).trans (h.fz o)⟩
theorem ButO.alloc {rb ro : Nat} {a b : World} (h : ButO rb ro a b) (o : Obj) : ButO rb ro a (b.alloc o) := h.and ((Below.refl _ _).alloc (Nat.le_refl _) o)
theorem ButO.set {rb ro : Nat} {a b : World} (h : ButO rb ro a b) (o : Nat) (u : Value) (ho : ro ≤ o ∧ o < ro + 3 := by omega) : ButO rb ro a (b.setCell ⟨rb, o, none⟩ u) :=
  ⟨h.but.set o u, h.lt, fun k hk => (World.cell?_setCell_other _ _ _ _ (fun e => by have := congrArg Addr.off e; simp only at this; omega)).trans (h.cell k hk), fun k => by rw [World.frozen?_setCell]; exact h.fz k⟩

/-- a reach in the cells of block rb from ro on -/
structure RBoxO (w : World) (rb ro : Nat) (r : Rc) : Prop where
  c0 : w.cell? ⟨rb, ro, none⟩ = some (.int .i64 r.lo)
  c1 : w.cell? ⟨rb, ro + 1, none⟩ = some (.int .i64 r.hi)
  c2 : w.cell? ⟨rb, ro + 2, none⟩ = some (.bool r.any)
  fz : ∀ o, w.frozen? ⟨rb, o, none⟩ = false
theorem RBoxO.lt {w : World} {rb ro : Nat} {r : Rc} (h : RBoxO w rb ro r) : rb < w.heap.size := by
  refine Nat.lt_of_not_le fun hge => ?_
  have h1 := h.c0
  simp [World.cell?, Array.getElem?_eq_none hge] at h1
theorem RBoxO.below {w w' : World} {rb ro B : Nat} {r : Rc} (h : RBoxO w rb ro r) (hb : Below B w w') (hr : rb < B) : RBoxO w' rb ro r :=
  ⟨(hb.cell (p := ⟨rb, ro, none⟩) hr).trans h.c0, (hb.cell (p := ⟨rb, ro + 1, none⟩) hr).trans h.c1, (hb.cell (p := ⟨rb, ro + 2, none⟩) hr).trans h.c2, fun o => (hb.frozen (p := ⟨rb, o, none⟩) hr).trans (h.fz o)⟩
theorem RBoxO.put01 {w : World} {rb ro : Nat} {r : Rc} (h : RBoxO w rb ro r) (a b : Int) : RBoxO ((w.setCell ⟨rb, ro, none⟩ (.int .i64 a)).setCell ⟨rb, ro + 1, none⟩ (.int .i64 b)) rb ro ⟨a, b, r.any⟩ := by
  have n : ∀ {o o' : Nat} {v : Value} {W : World}, o' ≠ o → (W.setCell ⟨rb, o, none⟩ v).cell? ⟨rb, o', none⟩ = W.cell? ⟨rb, o', none⟩ := fun hne => World.cell?_setCell_other _ _ _ _ (fun e => hne (congrArg Addr.off e).symm)
  refine ⟨(n (by omega)).trans (World.cell?_setCell_same' _ _ _ (by rw [h.c0]; rfl)), World.cell?_setCell_same' _ _ _ (by rw [n (by omega), h.c1]; rfl), (n (by omega)).trans ((n (by omega)).trans h.c2), fun o => ?_⟩
  rw [World.frozen?_setCell, World.frozen?_setCell]; exact h.fz o
theorem RBoxO.put {w : World} {rb ro : Nat} {r : Rc} (h : RBoxO w rb ro r) (a b : Int) (x : Bool) : RBoxO (((w.setCell ⟨rb, ro, none⟩ (.int .i64 a)).setCell ⟨rb, ro + 1, none⟩ (.int .i64 b)).setCell ⟨rb, ro + 2, none⟩ (.bool x)) rb ro ⟨a, b, x⟩ := by
  have h' := h.put01 a b
  generalize (w.setCell ⟨rb, ro, none⟩ (.int .i64 a)).setCell ⟨rb, ro + 1, none⟩ (.int .i64 b) = V at *
  have n : ∀ {o o' : Nat} {v : Value} {W : World}, o' ≠ o → (W.setCell ⟨rb, o, none⟩ v).cell? ⟨rb, o', none⟩ = W.cell? ⟨rb, o', none⟩ := fun hne => World.cell?_setCell_other _ _ _ _ (fun e => hne (congrArg Addr.off e).symm)
  refine ⟨(n (by omega)).trans h'.c0, (n (by omega)).trans h'.c1, World.cell?_setCell_same' _ _ _ (by rw [h'.c2]; rfl), fun o => ?_⟩
  rw [World.frozen?_setCell]; exact h'.fz o

/-- what the steps of `r.Low, r.High = min(r.Low, s.Low), greatest(r.High, s.High)` leave -/
def adF (rb ro P : Nat) (r : Rc) (lo hi : Int) : Nat → Value → World → Prop
  | 0, v, _ => v = .pointer (some ⟨rb, ro, none⟩)
  | 1, v, _ => v = .pointer (some ⟨rb, ro, none⟩)
  | 2, v, _ => v = .pointer (some ⟨rb, ro, none⟩)
  | 3, v, _ => v = .pointer (some ⟨rb, ro, none⟩)
  | 4, v, _ => v = .pointer (some ⟨rb, ro, none⟩)
  | 5, v, _ => v = .pointer (some ⟨rb, ro, none⟩)
  | 6, v, _ => v = .int .i64 r.lo
  | 7, v, _ => v = .pointer (some ⟨P, 0, none⟩)
  | 8, v, _ => v = .int .i64 lo
  | 9, v, _ => v = .int .i64 (min r.lo lo)
  | 10, v, _ => v = .pointer (some ⟨rb, ro, none⟩)
  | 11, v, _ => v = .pointer (some ⟨rb, ro, none⟩)
  | 12, v, _ => v = .pointer (some ⟨rb, ro, none⟩)
  | 13, v, _ => v = .pointer (some ⟨rb, ro + 1, none⟩)
  | 14, v, _ => v = .int .i64 r.hi
  | 15, v, _ => v = .pointer (some ⟨P, 1, none⟩)
  | 16, v, _ => v = .int .i64 hi
  | 17, v, w => ∃ G, v = .slice (some ⟨G, 0, none⟩) 1 1 ∧ w.cell? ⟨G, 0, none⟩ = some (.int .i64 hi) ∧ G < w.heap.size
  | 18, v, _ => v = .int .i64 (max r.hi hi)
  | 19, v, _ => v = .pointer (some ⟨rb, ro, none⟩)
  | 20, v, _ => v = .pointer (some ⟨rb, ro, none⟩)
  | 21, v, _ => v = .pointer (some ⟨rb, ro, none⟩)
  | _, _, _ => True
theorem adF_stable (rb ro P : Nat) (r : Rc) (lo hi : Int) : ∀ i v w w', Below w.heap.size w w' → adF rb ro P r lo hi i v w → adF rb ro P r lo hi i v w' := by
  intro i v w w' hb h
  unfold adF at *
  split at h
  case h_18 =>
    obtain ⟨G, h1, h2, h3⟩ := h
    exact ⟨G, h1, (hb.cell h3).trans h2, Nat.lt_of_lt_of_le h3 hb.size⟩
  all_goals exact h

set_option maxRecDepth 100000 in
set_option maxHeartbeats 4000000 in
theorem add_wide (rb ro : Nat) (r : Rc) (lo hi : Int) (w : World) (hR : RBoxO w rb ro r) (hle : lo ≤ hi) (ha : r.any = true) :
    Calls Try.prog 68 #[.pointer (some ⟨rb, ro, none⟩), .agg #[.int .i64 lo, .int .i64 hi]] w fun e w' => (∃ v, e = .returned v) ∧ RBoxO w' rb ro (r.add ⟨lo, hi⟩) ∧ ButO rb ro w w' := by
  have hlt := hR.lt
  have hR0 := hR
  obtain ⟨c0, c1, c2, fz⟩ := hR
  have z0 := fz ro
  have z1 := fz (ro + 1)
  have z2 := fz (ro + 2)
  go_enter Try.func68, Try.ntmps68
  go_wp2_with (go_at_call 92; refine (isEmpty_any _ _ _).mono ?_; rintro e w1 ⟨rfl, hb1⟩; (first | replace hb1 := Below.un1 hb1 | replace hb1 := Below.un2 hb1 | skip); obtain ⟨hc1, hf1, hl1, hm1, hw1⟩ := bcell hb1; have hz1 := hb1.size; (try simp only [World.size_alloc, World.size_setCell] at hz1))
  have HA : Hid (r.add ⟨lo, hi⟩ = ⟨min r.lo lo, max r.hi hi, true⟩) := hid (by unfold Rc.add; rw [if_neg (by simp only; omega), if_pos ha])
  have hR1 := (hR0.below ((Below.refl w.heap.size w).alloc (Nat.le_refl _) (.cells #[.int .i64 lo, .int .i64 hi] 27)) hlt).below hb1 (by simp; omega)
  have hp0 : w1.cell? ⟨w.heap.size, 0, none⟩ = some (.int .i64 lo) := by (first | (simp [go_sem, wr_set, wr_drew, wr_drewN, wr_alloc, wr_new]; done) | (simp [go_sem, wr_set, wr_drew, wr_drewN, wr_alloc, wr_new, *]; done) | (simp (disch := go_size) [go_sem, wr_set, wr_drew, wr_drewN, wr_alloc, wr_new, *]; done))
  have hp1 : w1.cell? ⟨w.heap.size, 1, none⟩ = some (.int .i64 hi) := by (first | (simp [go_sem, wr_set, wr_drew, wr_drewN, wr_alloc, wr_new]; done) | (simp [go_sem, wr_set, wr_drew, wr_drewN, wr_alloc, wr_new, *]; done) | (simp (disch := go_size) [go_sem, wr_set, wr_drew, wr_drewN, wr_alloc, wr_new, *]; done))
  have hBt : ButO rb ro w w1 := ((ButO.refl hlt).alloc _).and hb1
  have hlt1 : rb < w1.heap.size := hR1.lt
  have hz1' : w.heap.size < w1.heap.size := by omega
  have HR := hid hR1
  have HA' := hid ha
  obtain ⟨x0, x1, x2, xz⟩ := hR1
  clear hc1 hf1 hl1 hm1 hw1 hb1 c0 c1 c2 fz z0 z1 z2 xz x2
  refine wp_region_any (by kernel_rfl) ?_
  refine wpAny_take (i := 1) (v := ?_) (by simp only [List.getElem?_toArray, List.getElem?_cons_succ, List.getElem?_cons_zero]; rfl) (by kernel_rfl) (by kernel_rfl) (by kernel_rfl) (by exact fun _ _ _ h => h) (Or.inl ⟨by rfl, ?_⟩) ?_; rotate_left 1; (focus (intro w; go_simp; (try (with_reducible rfl)))); (try simp only [Act.put, List.setIfInBounds_toArray, List.set_cons_zero, List.set_cons_succ])
  have T0 : Below w1.heap.size w1 w1.drew := (Below.refl _ _).drew
  refine lin_any [22, 23, 24, 25, 26] 44 (adF rb ro w.heap.size r lo hi) (fun w' => Below w1.heap.size w1 w') (fun w1 w2 => Below w1.heap.size w1 w2)
    [0, 1, 2, 3, 4, 5, 6, 7, 8, 9, 10, 11, 12, 13, 14, 15, 16, 17, 18, 20] #[true, true, true, true, true, true, true, true, true, true, true, true, true, true, true, true, true, true, true, true, true, true, false, false, false, false, false] [0, 2, 3, 4, 5, 6, 7, 8, 9, 10, 11, 12, 13, 14, 15, 16, 17, 18, 19, 20, 21] (by kernel_rfl) (by kernel_rfl) (by kernel_rfl) (by kernel_rfl) (by kernel_rfl) (by kernel_rfl) (by kernel_rfl) (by kernel_rfl) (by kernel_rfl) (by kernel_rfl)
    (adF_stable _ _ _ _ _ _) (by rfl) T0 ?_ ?_
  · intro a' w' hd hsz hkn hT
    obtain ⟨xs, D⟩ := a'; obtain ⟨l0⟩ := xs; dsimp only at hd hsz hkn; subst hd; have hs0 := hsz; clear hsz; simp only [List.size_toArray] at hs0; obtain ⟨x0, x1, x2, x3, x4, x5, x6, x7, x8, x9, l1, rfl, hs1⟩ := len_ten hs0; clear hs0; obtain ⟨x10, x11, x12, x13, x14, x15, x16, x17, x18, x19, l2, rfl, hs2⟩ := len_ten hs1; clear hs1; obtain ⟨x20, x21, x22, x23, x24, x25, x26, x27, x28, x29, l3, rfl, hs3⟩ := len_ten hs2; clear hs2; obtain ⟨x30, x31, x32, x33, x34, x35, x36, x37, x38, x39, l4, rfl, hs4⟩ := len_ten hs3; clear hs3; obtain ⟨x40, l5, rfl, hs5⟩ := len_succ hs4; clear hs4; obtain ⟨x41, l6, rfl, hs6⟩ := len_succ hs5; clear hs5; obtain ⟨x42, l7, rfl, hs7⟩ := len_succ hs6; clear hs6; obtain ⟨x43, l8, rfl, hs8⟩ := len_succ hs7; clear hs7; obtain rfl := List.length_eq_zero_iff.1 hs8; clear hs8; have kn := known_list hkn; clear hkn; simp only [List.map_cons, List.map_nil, List.getElem?_toArray, List.getElem?_cons_succ, List.getElem?_cons_zero, Array.getD_eq_getD_getElem?, Option.getD_some, List.cons.injEq, Option.some.injEq, and_true] at kn; obtain ⟨rfl, rfl, rfl, rfl, rfl, rfl, rfl, rfl, rfl, rfl, rfl, rfl, rfl, rfl, rfl, rfl, rfl, rfl, rfl, rfl⟩ := kn
    have f0 : w'.cell? ⟨rb, ro, none⟩ = some (.int .i64 r.lo) := (hT.cell (by simp only; omega)).trans x0
    have f1 : w'.cell? ⟨rb, ro + 1, none⟩ = some (.int .i64 r.hi) := (hT.cell (by simp only; omega)).trans x1
    have f2 : w'.cell? ⟨w.heap.size, 0, none⟩ = some (.int .i64 lo) := (hT.cell (by simp only; omega)).trans hp0
    have f3 : w'.cell? ⟨w.heap.size, 1, none⟩ = some (.int .i64 hi) := (hT.cell (by simp only; omega)).trans hp1
    refine LinOps.cons (by simp only [List.getElem?_toArray, List.getElem?_cons_succ, List.getElem?_cons_zero]; rfl) (fun hk K hK => ?_) ?_
    · go_simp
      exact hK.out _ _ _ rfl rfl hT (Below.refl _ _)
    refine LinOps.cons (by simp only [List.getElem?_toArray, List.getElem?_cons_succ, List.getElem?_cons_zero]; rfl) (fun hk K hK => ?_) ?_
    · go_simp
      exact hK.out _ _ _ rfl rfl hT (Below.refl _ _)
    refine LinOps.cons (by simp only [List.getElem?_toArray, List.getElem?_cons_succ, List.getElem?_cons_zero]; rfl) (fun hk K hK => ?_) ?_
    · (obtain ⟨v, hv, hf⟩ := Known.get (hk 2 (by kernel_rfl) (by simp)) (d := 21) (by kernel_rfl); simp only [List.getElem?_toArray, List.getElem?_cons_succ, List.getElem?_cons_zero, Option.some.injEq] at hv; subst hv; simp only [adF] at hf; (try subst hf))
      go_simp
      exact hK.out _ _ _ rfl rfl hT (Below.refl _ _)
    refine LinOps.cons (by simp only [List.getElem?_toArray, List.getElem?_cons_succ, List.getElem?_cons_zero]; rfl) (fun hk K hK => ?_) ?_
    · (obtain ⟨v, hv, hf⟩ := Known.get (hk 3 (by kernel_rfl) (by simp)) (d := 22) (by kernel_rfl); simp only [List.getElem?_toArray, List.getElem?_cons_succ, List.getElem?_cons_zero, Option.some.injEq] at hv; subst hv; simp only [adF] at hf; (try subst hf))
      go_simp
      exact hK.out _ _ _ rfl rfl hT (Below.refl _ _)
    refine LinOps.cons (by simp only [List.getElem?_toArray, List.getElem?_cons_succ, List.getElem?_cons_zero]; rfl) (fun hk K hK => ?_) ?_
    · (obtain ⟨v, hv, hf⟩ := Known.get (hk 4 (by kernel_rfl) (by simp)) (d := 23) (by kernel_rfl); simp only [List.getElem?_toArray, List.getElem?_cons_succ, List.getElem?_cons_zero, Option.some.injEq] at hv; subst hv; simp only [adF] at hf; (try subst hf))
      go_simp
      exact hK.out _ _ _ rfl rfl hT (Below.refl _ _)
    refine LinOps.cons (by simp only [List.getElem?_toArray, List.getElem?_cons_succ, List.getElem?_cons_zero]; rfl) (fun hk K hK => ?_) ?_
    · (obtain ⟨v, hv, hf⟩ := Known.get (hk 5 (by kernel_rfl) (by simp)) (d := 24) (by kernel_rfl); simp only [List.getElem?_toArray, List.getElem?_cons_succ, List.getElem?_cons_zero, Option.some.injEq] at hv; subst hv; simp only [adF] at hf; (try subst hf))
      go_simp
      exact hK.out _ _ _ rfl rfl hT (Below.refl _ _)
    refine LinOps.cons (by simp only [List.getElem?_toArray, List.getElem?_cons_succ, List.getElem?_cons_zero]; rfl) (fun hk K hK => ?_) ?_
    · go_simp
      exact hK.out _ _ _ rfl rfl hT (Below.refl _ _)
    refine LinOps.cons (by simp only [List.getElem?_toArray, List.getElem?_cons_succ, List.getElem?_cons_zero]; rfl) (fun hk K hK => ?_) ?_
    · (obtain ⟨v, hv, hf⟩ := Known.get (hk 7 (by kernel_rfl) (by simp)) (d := 26) (by kernel_rfl); simp only [List.getElem?_toArray, List.getElem?_cons_succ, List.getElem?_cons_zero, Option.some.injEq] at hv; subst hv; simp only [adF] at hf; (try subst hf))
      go_simp
      exact hK.out _ _ _ rfl rfl hT (Below.refl _ _)
    refine LinOps.cons (by simp only [List.getElem?_toArray, List.getElem?_cons_succ, List.getElem?_cons_zero]; rfl) (fun hk K hK => ?_) ?_
    · (obtain ⟨v, hv, hf⟩ := Known.get (hk 6 (by kernel_rfl) (by simp)) (d := 25) (by kernel_rfl); simp only [List.getElem?_toArray, List.getElem?_cons_succ, List.getElem?_cons_zero, Option.some.injEq] at hv; subst hv; simp only [adF] at hf; (try subst hf)); (obtain ⟨v, hv, hf⟩ := Known.get (hk 8 (by kernel_rfl) (by simp)) (d := 27) (by kernel_rfl); simp only [List.getElem?_toArray, List.getElem?_cons_succ, List.getElem?_cons_zero, Option.some.injEq] at hv; subst hv; simp only [adF] at hf; (try subst hf))
      go_simp
      exact hK.out _ _ _ rfl (by simp only [adF]; congr 1; first | (split <;> omega) | omega) hT (Below.refl _ _)
    refine LinOps.cons (by simp only [List.getElem?_toArray, List.getElem?_cons_succ, List.getElem?_cons_zero]; rfl) (fun hk K hK => ?_) ?_
    · go_simp
      exact hK.out _ _ _ rfl rfl hT (Below.refl _ _)
    refine LinOps.cons (by simp only [List.getElem?_toArray, List.getElem?_cons_succ, List.getElem?_cons_zero]; rfl) (fun hk K hK => ?_) ?_
    · (obtain ⟨v, hv, hf⟩ := Known.get (hk 10 (by kernel_rfl) (by simp)) (d := 29) (by kernel_rfl); simp only [List.getElem?_toArray, List.getElem?_cons_succ, List.getElem?_cons_zero, Option.some.injEq] at hv; subst hv; simp only [adF] at hf; (try subst hf))
      go_simp
      exact hK.out _ _ _ rfl rfl hT (Below.refl _ _)
    refine LinOps.cons (by simp only [List.getElem?_toArray, List.getElem?_cons_succ, List.getElem?_cons_zero]; rfl) (fun hk K hK => ?_) ?_
    · (obtain ⟨v, hv, hf⟩ := Known.get (hk 11 (by kernel_rfl) (by simp)) (d := 30) (by kernel_rfl); simp only [List.getElem?_toArray, List.getElem?_cons_succ, List.getElem?_cons_zero, Option.some.injEq] at hv; subst hv; simp only [adF] at hf; (try subst hf))
      go_simp
      exact hK.out _ _ _ rfl rfl hT (Below.refl _ _)
    refine LinOps.cons (by simp only [List.getElem?_toArray, List.getElem?_cons_succ, List.getElem?_cons_zero]; rfl) (fun hk K hK => ?_) ?_
    · (obtain ⟨v, hv, hf⟩ := Known.get (hk 12 (by kernel_rfl) (by simp)) (d := 31) (by kernel_rfl); simp only [List.getElem?_toArray, List.getElem?_cons_succ, List.getElem?_cons_zero, Option.some.injEq] at hv; subst hv; simp only [adF] at hf; (try subst hf))
      go_simp
      exact hK.out _ _ _ rfl rfl hT (Below.refl _ _)
    refine LinOps.cons (by simp only [List.getElem?_toArray, List.getElem?_cons_succ, List.getElem?_cons_zero]; rfl) (fun hk K hK => ?_) ?_
    · (obtain ⟨v, hv, hf⟩ := Known.get (hk 13 (by kernel_rfl) (by simp)) (d := 32) (by kernel_rfl); simp only [List.getElem?_toArray, List.getElem?_cons_succ, List.getElem?_cons_zero, Option.some.injEq] at hv; subst hv; simp only [adF] at hf; (try subst hf))
      go_simp
      exact hK.out _ _ _ rfl rfl hT (Below.refl _ _)
    refine LinOps.cons (by simp only [List.getElem?_toArray, List.getElem?_cons_succ, List.getElem?_cons_zero]; rfl) (fun hk K hK => ?_) ?_
    · go_simp
      exact hK.out _ _ _ rfl rfl hT (Below.refl _ _)
    refine LinOps.cons (by simp only [List.getElem?_toArray, List.getElem?_cons_succ, List.getElem?_cons_zero]; rfl) (fun hk K hK => ?_) ?_
    · (obtain ⟨v, hv, hf⟩ := Known.get (hk 15 (by kernel_rfl) (by simp)) (d := 34) (by kernel_rfl); simp only [List.getElem?_toArray, List.getElem?_cons_succ, List.getElem?_cons_zero, Option.some.injEq] at hv; subst hv; simp only [adF] at hf; (try subst hf))
      go_simp
      exact hK.out _ _ _ rfl rfl hT (Below.refl _ _)
    refine LinOps.cons (by simp only [List.getElem?_toArray, List.getElem?_cons_succ, List.getElem?_cons_zero]; rfl) (fun hk K hK => ?_) ?_
    · (obtain ⟨v, hv, hf⟩ := Known.get (hk 16 (by kernel_rfl) (by simp)) (d := 35) (by kernel_rfl); simp only [List.getElem?_toArray, List.getElem?_cons_succ, List.getElem?_cons_zero, Option.some.injEq] at hv; subst hv; simp only [adF] at hf; (try subst hf))
      go_simp
      exact hK.out _ _ _ rfl ⟨w'.heap.size, by rfl, by simp [go_sem], by simp⟩ (hT.alloc hT.size _) ((Below.refl _ _).alloc (Nat.le_refl _) _)
    refine LinOps.cons (by simp only [List.getElem?_toArray, List.getElem?_cons_succ, List.getElem?_cons_zero]; rfl) (fun hk K hK => ?_) ?_
    · (obtain ⟨v, hv, hf⟩ := Known.get (hk 14 (by kernel_rfl) (by simp)) (d := 33) (by kernel_rfl); simp only [List.getElem?_toArray, List.getElem?_cons_succ, List.getElem?_cons_zero, Option.some.injEq] at hv; subst hv; simp only [adF] at hf; (try subst hf)); (obtain ⟨v, hv, hf⟩ := Known.get (hk 17 (by kernel_rfl) (by simp)) (d := 36) (by kernel_rfl); simp only [List.getElem?_toArray, List.getElem?_cons_succ, List.getElem?_cons_zero, Option.some.injEq] at hv; subst hv; simp only [adF] at hf; (try subst hf))
      obtain ⟨G, rfl, hG, hGl⟩ := hf
      go_simp
      go_at_call 93; refine (greatest_at _ _ _ _ hi _ hG).mono ?_
      rintro e w4 ⟨rfl, rfl⟩
      exact hK.out _ _ _ rfl rfl hT (Below.refl _ _)
    refine LinOps.cons (by simp only [List.getElem?_toArray, List.getElem?_cons_succ, List.getElem?_cons_zero]; rfl) (fun hk K hK => ?_) ?_
    · (obtain ⟨v, hv, hf⟩ := Known.get (hk 0 (by kernel_rfl) (by simp)) (d := 19) (by kernel_rfl); simp only [List.getElem?_toArray, List.getElem?_cons_succ, List.getElem?_cons_zero, Option.some.injEq] at hv; subst hv; simp only [adF] at hf; (try subst hf))
      go_simp
      exact hK.out _ _ _ rfl rfl hT (Below.refl _ _)
    refine LinOps.cons (by simp only [List.getElem?_toArray, List.getElem?_cons_succ, List.getElem?_cons_zero]; rfl) (fun hk K hK => ?_) ?_
    · (obtain ⟨v, hv, hf⟩ := Known.get (hk 19 (by kernel_rfl) (by simp)) (d := 38) (by kernel_rfl); simp only [List.getElem?_toArray, List.getElem?_cons_succ, List.getElem?_cons_zero, Option.some.injEq] at hv; subst hv; simp only [adF] at hf; (try subst hf))
      go_simp
      exact hK.out _ _ _ rfl rfl hT (Below.refl _ _)
    refine LinOps.cons (by simp only [List.getElem?_toArray, List.getElem?_cons_succ, List.getElem?_cons_zero]; rfl) (fun hk K hK => ?_) ?_
    · (obtain ⟨v, hv, hf⟩ := Known.get (hk 20 (by kernel_rfl) (by simp)) (d := 39) (by kernel_rfl); simp only [List.getElem?_toArray, List.getElem?_cons_succ, List.getElem?_cons_zero, Option.some.injEq] at hv; subst hv; simp only [adF] at hf; (try subst hf))
      go_simp
      exact hK.out _ _ _ rfl rfl hT (Below.refl _ _)
    exact LinOps.nil
  · intro a' w' hd hsz hkn hT hall
    obtain ⟨xs, D⟩ := a'; obtain ⟨l0⟩ := xs; dsimp only at hd hsz hkn; subst hd; have hs0 := hsz; clear hsz; simp only [List.size_toArray] at hs0; obtain ⟨x0, x1, x2, x3, x4, x5, x6, x7, x8, x9, l1, rfl, hs1⟩ := len_ten hs0; clear hs0; obtain ⟨x10, x11, x12, x13, x14, x15, x16, x17, x18, x19, l2, rfl, hs2⟩ := len_ten hs1; clear hs1; obtain ⟨x20, x21, x22, x23, x24, x25, x26, x27, x28, x29, l3, rfl, hs3⟩ := len_ten hs2; clear hs2; obtain ⟨x30, x31, x32, x33, x34, x35, x36, x37, x38, x39, l4, rfl, hs4⟩ := len_ten hs3; clear hs3; obtain ⟨x40, l5, rfl, hs5⟩ := len_succ hs4; clear hs4; obtain ⟨x41, l6, rfl, hs6⟩ := len_succ hs5; clear hs5; obtain ⟨x42, l7, rfl, hs7⟩ := len_succ hs6; clear hs6; obtain ⟨x43, l8, rfl, hs8⟩ := len_succ hs7; clear hs7; obtain rfl := List.length_eq_zero_iff.1 hs8; clear hs8; have kn := known_list hkn; clear hkn; simp only [List.map_cons, List.map_nil, List.getElem?_toArray, List.getElem?_cons_succ, List.getElem?_cons_zero, Array.getD_eq_getD_getElem?, Option.getD_some, List.cons.injEq, Option.some.injEq, and_true] at kn; obtain ⟨rfl, rfl, rfl, rfl, rfl, rfl, rfl, rfl, rfl, rfl, rfl, rfl, rfl, rfl, rfl, rfl, rfl, rfl, rfl, rfl⟩ := kn
    (obtain ⟨v, hv, hf⟩ := Known.get (hall 9 (by kernel_rfl) ) (d := 28) (by kernel_rfl); simp only [List.getElem?_toArray, List.getElem?_cons_succ, List.getElem?_cons_zero, Option.some.injEq] at hv; subst hv; simp only [adF] at hf; (try subst hf))
    (obtain ⟨v, hv, hf⟩ := Known.get (hall 18 (by kernel_rfl) ) (d := 37) (by kernel_rfl); simp only [List.getElem?_toArray, List.getElem?_cons_succ, List.getElem?_cons_zero, Option.some.injEq] at hv; subst hv; simp only [adF] at hf; (try subst hf))
    (obtain ⟨v, hv, hf⟩ := Known.get (hall 21 (by kernel_rfl) ) (d := 40) (by kernel_rfl); simp only [List.getElem?_toArray, List.getElem?_cons_succ, List.getElem?_cons_zero, Option.some.injEq] at hv; subst hv; simp only [adF] at hf; (try subst hf))
    clear hall
    have hR' := HR.out.below hT hlt1
    have q0 : Wr w' rb ro := ⟨by rw [hR'.c0]; rfl, hR'.fz ro⟩
    have q1 : Wr w' rb (ro + 1) := ⟨by rw [hR'.c1]; rfl, hR'.fz (ro + 1)⟩
    have HR' := hid hR'
    have HB := hid (hBt.and hT)
    clear hR' hp0 hp1 x0 x1 hBt
    refine wpAny_ready (rs := [22]) (by kernel_rfl) (by simp) ?_; refine AllReady.cons (by simp only [List.getElem?_toArray, List.getElem?_cons_succ, List.getElem?_cons_zero]; rfl) (fun K hK => ?_) AllReady.nil
    go_simp
    refine hK _ _ ?_
    (try simp only [Act.put, List.setIfInBounds_toArray, List.set_cons_zero, List.set_cons_succ])
    clear hK K
    refine wpAny_take (i := 23) (v := ?_) (by simp only [List.getElem?_toArray, List.getElem?_cons_succ, List.getElem?_cons_zero]; rfl) (by kernel_rfl) (by kernel_rfl) (by kernel_rfl) (by exact fun _ _ _ h => h) (Or.inl ⟨by rfl, ?_⟩) ?_; rotate_left 1; (focus (intro w; go_simp; (try (with_reducible rfl)))); (try simp only [Act.put, List.setIfInBounds_toArray, List.set_cons_zero, List.set_cons_succ])
    refine wpAny_take (i := 24) (v := ?_) (by simp only [List.getElem?_toArray, List.getElem?_cons_succ, List.getElem?_cons_zero]; rfl) (by kernel_rfl) (by kernel_rfl) (by kernel_rfl) (by exact fun _ _ _ h => h) (Or.inl ⟨by rfl, ?_⟩) ?_; rotate_left 1; (focus (intro w; go_simp; (try (with_reducible rfl)))); (try simp only [Act.put, List.setIfInBounds_toArray, List.set_cons_zero, List.set_cons_succ])
    refine wpAny_take (i := 25) (v := ?_) (by simp only [List.getElem?_toArray, List.getElem?_cons_succ, List.getElem?_cons_zero]; rfl) (by kernel_rfl) (by kernel_rfl) (by kernel_rfl) (by exact fun _ _ _ h => h) (Or.inl ⟨by rfl, ?_⟩) ?_; rotate_left 1; (focus (intro w; go_simp; (try (with_reducible rfl)))); (try simp only [Act.put, List.setIfInBounds_toArray, List.set_cons_zero, List.set_cons_succ])
    refine wpAny_ready (rs := [26]) (by kernel_rfl) (by simp) ?_; refine AllReady.cons (by simp only [List.getElem?_toArray, List.getElem?_cons_succ, List.getElem?_cons_zero]; rfl) (fun K hK => ?_) AllReady.nil
    go_simp
    refine hK _ _ ?_
    (try simp only [Act.put, List.setIfInBounds_toArray, List.set_cons_zero, List.set_cons_succ])
    clear hK K
    refine wpAny_done (by kernel_rfl) ?_ _
    go_end0
    have hp := HR'.out.put01 (min r.lo lo) (max r.hi hi)
    rw [HA'.out] at hp
    refine ⟨⟨_, rfl⟩, ?_, (HB.out.set _ _).set _ _⟩
    rw [HA.out]
    exact hp

set_option maxRecDepth 100000 in
set_option maxHeartbeats 4000000 in
theorem add_at (rb ro : Nat) (r : Rc) (lo hi : Int) (w : World) (hR : RBoxO w rb ro r) :
    Calls Try.prog 68 #[.pointer (some ⟨rb, ro, none⟩), .agg #[.int .i64 lo, .int .i64 hi]] w fun e w' => (∃ v, e = .returned v) ∧ RBoxO w' rb ro (r.add ⟨lo, hi⟩) ∧ ButO rb ro w w' := by
  have hlt := hR.lt
  have hR0 := hR
  obtain ⟨c0, c1, c2, fz⟩ := hR
  have z0 := fz ro
  have z1 := fz (ro + 1)
  have z2 := fz (ro + 2)
  by_cases h : hi < lo
  · have HA : Hid (r.add ⟨lo, hi⟩ = r) := hid (if_pos h)
    go_enter Try.func68, Try.ntmps68
    go_wp2_with (go_at_call 92; refine (isEmpty_any _ _ _).mono ?_; rintro e w1 ⟨rfl, hb1⟩; (first | replace hb1 := Below.un1 hb1 | replace hb1 := Below.un2 hb1 | skip); obtain ⟨hc1, hf1, hl1, hm1, hw1⟩ := bcell hb1; have hz1 := hb1.size; (try simp only [World.size_alloc, World.size_setCell] at hz1))
    go_end0
    refine ⟨⟨_, rfl⟩, ?_, ((ButO.refl hlt).alloc _).and hb1⟩
    rw [HA.out]
    exact (hR0.below ((Below.refl w.heap.size w).alloc (Nat.le_refl _) (.cells #[.int .i64 lo, .int .i64 hi] 27)) hlt).below hb1 (by simp; omega)
  · have hle : lo ≤ hi := by omega
    cases ha : r.any
    · go_enter Try.func68, Try.ntmps68
      go_wp2_with (go_at_call 92; refine (isEmpty_any _ _ _).mono ?_; rintro e w1 ⟨rfl, hb1⟩; (first | replace hb1 := Below.un1 hb1 | replace hb1 := Below.un2 hb1 | skip); obtain ⟨hc1, hf1, hl1, hm1, hw1⟩ := bcell hb1; have hz1 := hb1.size; (try simp only [World.size_alloc, World.size_setCell] at hz1))
      go_end0
      have HA : r.add ⟨lo, hi⟩ = ⟨lo, hi, true⟩ := by unfold Rc.add; rw [if_neg (by simp only; omega), if_neg (by simp [ha])]
      refine ⟨⟨_, rfl⟩, ?_, (((((ButO.refl hlt).alloc _).and hb1).set _ _).set _ _).set _ _⟩
      rw [HA]
      have hR1 := (hR0.below ((Below.refl w.heap.size w).alloc (Nat.le_refl _) (.cells #[.int .i64 lo, .int .i64 hi] 27)) hlt).below hb1 (by simp; omega)
      exact hR1.put lo hi true
    · exact add_wide rb ro r lo hi w hR0 hle ha

theorem add_any (rb : Nat) (r : Rc) (lo hi : Int) (w : World) (hR : RBox w rb r) :
    Calls Try.prog 68 #[.pointer (some ⟨rb, 0, none⟩), .agg #[.int .i64 lo, .int .i64 hi]] w fun e w' => (∃ v, e = .returned v) ∧ RBox w' rb (r.add ⟨lo, hi⟩) ∧ But rb w w' := by
  refine (add_at rb 0 r lo hi w ⟨hR.c0, hR.c1, hR.c2, hR.fz⟩).mono ?_
  rintro e w' ⟨h1, h2, h3⟩
  exact ⟨h1, ⟨h2.c0, h2.c1, h2.c2, h2.fz⟩, h3.but⟩
end Go.Proofs.Ytnkbcapikenbbaa
