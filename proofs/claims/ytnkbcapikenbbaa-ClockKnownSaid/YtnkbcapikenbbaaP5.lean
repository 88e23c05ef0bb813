/- The clock in all its truths: the iterator that dials returns gives them one after another. -/
import Derived.Test.YtnkbcapikenbbaaP4
import Derived.Test.YtnkbcapikenbbaaJ
import Derived.OwnWalkIn
import Derived.TacticsInMore
import Derived.LoopNIn
import Derived.LoopIn
import Derived.Shelf.RegionOpen
import Derived.Shelf.Abstract
namespace Go.Proofs.Ytnkbcapikenbbaa
set_option linter.unusedSimpArgs false
set_option linter.unusedVariables false
open Go.RowKit Go.Shelf
attribute [local go_sem] Oper.semAt_some
attribute [local go_sem high] cell_set_wr
attribute [local go_sem low] cell_wr frozen_wr
attribute [local go_sem] wr_set wr_drew wr_drewN wr_alloc wr_new

/-- one of each list -/
def combos : List (List Sp) → List (List Sp)
  | [] => [[]]
  | l :: ls => l.flatMap fun f => (combos ls).map fun r => f :: r
def zSp : Sp := ⟨0, 0⟩
def nth3 (x : List Sp) (k : Nat) : Sp := x.getD k zSp
/-- the three frosts of a dial -/
def pad (r : List Sp) : List Sp := r ++ List.replicate (3 - r.length) zSp
def dialsL (lls : List (List Sp)) : List (List Sp) := (combos lls).map pad
def dcells (set : Int) (A : Option Addr) (n cap : Nat) (x : List Sp) : List Value := .int .i64 set :: .slice A n cap :: spans x
def dialV (set : Int) (A : Option Addr) (n cap : Nat) (x : List Sp) : Value := .agg #[.int .i64 set, .slice A n cap, .int .i64 (nth3 x 0).lo, .int .i64 (nth3 x 0).hi, .int .i64 (nth3 x 1).lo, .int .i64 (nth3 x 1).hi, .int .i64 (nth3 x 2).lo, .int .i64 (nth3 x 2).hi]

/-- the dial's variable in block db -/
structure DBox (V : World) (db : Nat) (set : Int) (A : Option Addr) (n cap : Nat) (x : List Sp) : Prop where
  c0 : V.cell? ⟨db, 0, none⟩ = some (.int .i64 set)
  c1 : V.cell? ⟨db, 1, none⟩ = some (.slice A n cap)
  c2 : V.cell? ⟨db, 2, none⟩ = some (.int .i64 (nth3 x 0).lo)
  c3 : V.cell? ⟨db, 3, none⟩ = some (.int .i64 (nth3 x 0).hi)
  c4 : V.cell? ⟨db, 4, none⟩ = some (.int .i64 (nth3 x 1).lo)
  c5 : V.cell? ⟨db, 5, none⟩ = some (.int .i64 (nth3 x 1).hi)
  c6 : V.cell? ⟨db, 6, none⟩ = some (.int .i64 (nth3 x 2).lo)
  c7 : V.cell? ⟨db, 7, none⟩ = some (.int .i64 (nth3 x 2).hi)
  fz : ∀ k, V.frozen? ⟨db, k, none⟩ = false
theorem DBox.mid {V V' : World} {db l c : Nat} {set : Int} {A : Option Addr} {n cap : Nat} {x : List Sp} (h : DBox V db set A n cap x) (hm : MidBut c l V V') (hc : c ≤ db) (hd : db < V.heap.size) (hl : db ≠ l) : DBox V' db set A n cap x := by
  have k : ∀ o, V'.cell? ⟨db, o, none⟩ = V.cell? ⟨db, o, none⟩ := fun o => hm.cell (p := ⟨db, o, none⟩) hc hd hl
  exact ⟨(k 0).trans h.c0, (k 1).trans h.c1, (k 2).trans h.c2, (k 3).trans h.c3, (k 4).trans h.c4, (k 5).trans h.c5, (k 6).trans h.c6, (k 7).trans h.c7, fun o => (hm.frozen (p := ⟨db, o, none⟩) hc hd hl).trans (h.fz o)⟩

/-- what the calls of choose read besides -/
structure Fix (V : World) (l yb db cb ob c c1 : Nat) (n : Nat) (S : Option Addr) (lls : List (List Sp)) : Prop where
  y : V.cell? ⟨yb, 0, none⟩ = some (.func (.yield l) #[] #[])
  k : V.cell? ⟨cb, 0, none⟩ = some (.slice S n n)
  o : V.cell? ⟨ob, 0, none⟩ = some (.func (.func 91) #[] #[.pointer (some ⟨db, 0, none⟩), .pointer (some ⟨yb, 0, none⟩), .pointer (some ⟨cb, 0, none⟩), .pointer (some ⟨ob, 0, none⟩)])
  s : Could V c c1 S lls
  z : yb < V.heap.size ∧ db < V.heap.size ∧ cb < V.heap.size ∧ ob < V.heap.size ∧ c1 ≤ V.heap.size
theorem Fix.of_cells {V V' : World} {l yb db cb ob c c1 n : Nat} {S : Option Addr} {lls : List (List Sp)} (h : Fix V l yb db cb ob c c1 n S lls) (hs : V.heap.size ≤ V'.heap.size)
    (hk : ∀ b o, (b = yb ∨ b = cb ∨ b = ob ∨ (c ≤ b ∧ b < c1)) → V'.cell? ⟨b, o, none⟩ = V.cell? ⟨b, o, none⟩) : Fix V' l yb db cb ob c c1 n S lls :=
  ⟨(hk _ _ (by simp)).trans h.y, (hk _ _ (by simp)).trans h.k, (hk _ _ (by simp)).trans h.o, h.s.of_cells fun b o h1 h2 => hk b o (.inr (.inr (.inr ⟨h1, h2⟩))), by have := h.z; omega⟩
theorem Fix.mid {V V' : World} {l yb db cb ob c c1 n : Nat} {S : Option Addr} {lls : List (List Sp)} (h : Fix V l yb db cb ob c c1 n S lls) (hm : MidBut c l V V') (h1 : c ≤ yb ∧ yb ≠ l) (h2 : c ≤ cb ∧ cb ≠ l) (h3 : c ≤ ob ∧ ob ≠ l) (h4 : c1 ≤ l) : Fix V' l yb db cb ob c c1 n S lls := by
  have hz := h.z
  refine h.of_cells hm.size fun b o hb => hm.cell (p := ⟨b, o, none⟩) ?_ ?_ ?_ <;> simp only <;> omega

set_option maxRecDepth 100000 in
set_option maxHeartbeats 4000000 in
theorem choose_end (l db yb cb ob c c1 B : Nat) (set : Int) (A S : Option Addr) (n cap : Nat) (lls : List (List Sp)) (J Jx : List (List Sp) → World → Prop) (XS : List (List Sp))
    (hY : ∀ pre x V, J pre V → B ≤ V.heap.size → pre ++ [x] <+: XS → YieldW Try.prog l #[dialV set A n cap x] V fun e V' =>
      (e = .returned (.bool true) ∧ J (pre ++ [x]) V' ∧ MidBut c l V V') ∨ (e = .returned (.bool false) ∧ Jx (pre ++ [x]) V'))
    (x : List Sp) (pre : List (List Sp)) (V : World) (hJ : J pre V) (hp : pre ++ [x] <+: XS) (hF : Fix V l yb db cb ob c c1 n S lls) (hD : DBox V db set A n cap x) (hB : B ≤ V.heap.size) :
    Calls Try.prog 91 #[.int .i64 n, .pointer (some ⟨db, 0, none⟩), .pointer (some ⟨yb, 0, none⟩), .pointer (some ⟨cb, 0, none⟩), .pointer (some ⟨ob, 0, none⟩)] V
      fun e V' => (e = .returned (.bool true) ∧ J (pre ++ [x]) V' ∧ MidBut c l V V') ∨ (e = .returned (.bool false) ∧ ∃ pre' y, pre' ++ [y] <+: XS ∧ Jx (pre' ++ [y]) V') := by
  obtain ⟨fn, tmps, assign, body, hy, hR⟩ := hY pre x V hJ hB hp
  obtain ⟨d0, d1, d2, d3, d4, d5, d6, d7, _⟩ := hD
  have f0 := hF.y
  unfold dialV at hy
  refine (callsIn_wide (n := 5)).1 ?_
  refine callsIn_of_wp Try.func91 rfl trivial ?_ rfl
  simp only [Try.ntmps91, List.size_toArray, List.length_cons, List.length_nil, Nat.reduceAdd, Nat.reduceSub, Array.replicate_succ, Array.replicate_zero, List.push_toArray, List.append_toArray, List.nil_append, List.cons_append]
  gi_wp2
  refine (hR _).mono ?_
  rintro e V' (⟨rfl, hJ', hm⟩ | ⟨rfl, hJ'⟩)
  · gi_wp2
    go_ret
    exact .inl ⟨rfl, hJ', hm⟩
  · gi_wp2
    go_ret
    exact .inr ⟨rfl, _, _, hp, hJ'⟩

/-- the dials that begin with the frosts ys -/
def under (ys : List Sp) (ls : List (List Sp)) : List (List Sp) := (combos ls).map fun r => pad (ys ++ r)
theorem under_nil (ys : List Sp) : under ys [] = [pad ys] := by simp [under, combos]
theorem under_cons (ys : List Sp) (l : List Sp) (ls : List (List Sp)) : under ys (l :: ls) = l.flatMap fun f => under (ys ++ [f]) ls := by
  simp only [under, combos, List.map_flatMap, List.map_map]
  congr 1; funext f; congr 1; funext r; simp
theorem flat_drop {α β : Type} (l : List α) (g : α → List β) (k : Nat) (hk : k < l.length) : (l.drop k).flatMap g = g l[k] ++ (l.drop (k + 1)).flatMap g := by
  rw [List.drop_eq_getElem_cons hk]; rfl
theorem nth3_set (x : List Sp) (i k : Nat) (f : Sp) (hi : i < x.length) : nth3 (x.set i f) k = if i = k then f else nth3 x k := by
  unfold nth3
  simp only [List.getD_eq_getElem?_getD]
  by_cases h : i = k
  · subst h; simp [hi]
  · simp [h, List.getElem?_set_ne]
theorem DBox.at_ {V : World} {db : Nat} {set : Int} {A : Option Addr} {n cap : Nat} {x : List Sp} (h : DBox V db set A n cap x) {i : Nat} (hi : i < 3) :
    V.cell? ⟨db, 2 + i * 2, none⟩ = some (.int .i64 (nth3 x i).lo) ∧ V.cell? ⟨db, 2 + i * 2 + 1, none⟩ = some (.int .i64 (nth3 x i).hi) := by
  have hc : i = 0 ∨ i = 1 ∨ i = 2 := by omega
  rcases hc with rfl | rfl | rfl
  · exact ⟨h.c2, h.c3⟩
  · exact ⟨h.c4, h.c5⟩
  · exact ⟨h.c6, h.c7⟩
theorem DBox.below {V V' : World} {db B : Nat} {set : Int} {A : Option Addr} {n cap : Nat} {x : List Sp} (h : DBox V db set A n cap x) (hm : Below B V V') (hc : db < B) : DBox V' db set A n cap x := by
  have k : ∀ o, V'.cell? ⟨db, o, none⟩ = V.cell? ⟨db, o, none⟩ := fun o => hm.cell (p := ⟨db, o, none⟩) hc
  exact ⟨(k 0).trans h.c0, (k 1).trans h.c1, (k 2).trans h.c2, (k 3).trans h.c3, (k 4).trans h.c4, (k 5).trans h.c5, (k 6).trans h.c6, (k 7).trans h.c7, fun o => (hm.frozen (p := ⟨db, o, none⟩) hc).trans (h.fz o)⟩
theorem DBox.set {V : World} {db : Nat} {set : Int} {A : Option Addr} {n cap : Nat} {x : List Sp} (h : DBox V db set A n cap x) (i : Nat) (hi : i < 3) (hx : x.length = 3) (f : Sp) :
    DBox ((V.setCell ⟨db, 2 + i * 2, none⟩ (.int .i64 f.lo)).setCell ⟨db, 2 + i * 2 + 1, none⟩ (.int .i64 f.hi)) db set A n cap (x.set i f) := by
  have hr : ∀ o v o', o' ≠ o → (V.setCell ⟨db, o, none⟩ v).cell? ⟨db, o', none⟩ = V.cell? ⟨db, o', none⟩ := fun o v o' hne => World.cell?_setCell_other _ _ _ _ (fun e => by cases e; exact hne rfl)
  have hc : i = 0 ∨ i = 1 ∨ i = 2 := by omega
  have lo := (h.at_ hi).1
  have hi' := (h.at_ hi).2
  have w1 : ((V.setCell ⟨db, 2 + i * 2, none⟩ (.int .i64 f.lo)).setCell ⟨db, 2 + i * 2 + 1, none⟩ (.int .i64 f.hi)).cell? ⟨db, 2 + i * 2 + 1, none⟩ = some (.int .i64 f.hi) :=
    World.cell?_setCell_same' _ _ _ (by rw [hr _ _ _ (by omega), hi']; rfl)
  have w0 : ((V.setCell ⟨db, 2 + i * 2, none⟩ (.int .i64 f.lo)).setCell ⟨db, 2 + i * 2 + 1, none⟩ (.int .i64 f.hi)).cell? ⟨db, 2 + i * 2, none⟩ = some (.int .i64 f.lo) :=
    (World.cell?_setCell_other _ _ _ _ (fun e => by have := congrArg Addr.off e; simp only at this; omega)).trans (World.cell?_setCell_same' _ _ _ (by rw [lo]; rfl))
  have ho : ∀ k, k ≠ 2 + i * 2 → k ≠ 2 + i * 2 + 1 → ((V.setCell ⟨db, 2 + i * 2, none⟩ (.int .i64 f.lo)).setCell ⟨db, 2 + i * 2 + 1, none⟩ (.int .i64 f.hi)).cell? ⟨db, k, none⟩ = V.cell? ⟨db, k, none⟩ := fun k h1 h2 =>
    (World.cell?_setCell_other _ _ _ _ (fun e => by cases e; exact h2 rfl)).trans (hr _ _ _ h1)
  have fz : ∀ k, ((V.setCell ⟨db, 2 + i * 2, none⟩ (.int .i64 f.lo)).setCell ⟨db, 2 + i * 2 + 1, none⟩ (.int .i64 f.hi)).frozen? ⟨db, k, none⟩ = false := fun k => by
    rw [World.frozen?_setCell, World.frozen?_setCell]; exact h.fz k
  generalize (V.setCell ⟨db, 2 + i * 2, none⟩ (.int .i64 f.lo)).setCell ⟨db, 2 + i * 2 + 1, none⟩ (.int .i64 f.hi) = V' at *
  have hx' : i < x.length := by omega
  rcases hc with rfl | rfl | rfl
  · exact ⟨(ho 0 (by omega) (by omega)).trans h.c0, (ho 1 (by omega) (by omega)).trans h.c1, by rw [nth3_set _ _ _ _ hx', if_pos rfl]; exact w0, by rw [nth3_set _ _ _ _ hx', if_pos rfl]; exact w1,
      by rw [nth3_set _ _ _ _ hx', if_neg (by omega)]; exact (ho 4 (by omega) (by omega)).trans h.c4, by rw [nth3_set _ _ _ _ hx', if_neg (by omega)]; exact (ho 5 (by omega) (by omega)).trans h.c5,
      by rw [nth3_set _ _ _ _ hx', if_neg (by omega)]; exact (ho 6 (by omega) (by omega)).trans h.c6, by rw [nth3_set _ _ _ _ hx', if_neg (by omega)]; exact (ho 7 (by omega) (by omega)).trans h.c7, fz⟩
  · exact ⟨(ho 0 (by omega) (by omega)).trans h.c0, (ho 1 (by omega) (by omega)).trans h.c1, by rw [nth3_set _ _ _ _ hx', if_neg (by omega)]; exact (ho 2 (by omega) (by omega)).trans h.c2, by rw [nth3_set _ _ _ _ hx', if_neg (by omega)]; exact (ho 3 (by omega) (by omega)).trans h.c3,
      by rw [nth3_set _ _ _ _ hx', if_pos rfl]; exact w0, by rw [nth3_set _ _ _ _ hx', if_pos rfl]; exact w1,
      by rw [nth3_set _ _ _ _ hx', if_neg (by omega)]; exact (ho 6 (by omega) (by omega)).trans h.c6, by rw [nth3_set _ _ _ _ hx', if_neg (by omega)]; exact (ho 7 (by omega) (by omega)).trans h.c7, fz⟩
  · exact ⟨(ho 0 (by omega) (by omega)).trans h.c0, (ho 1 (by omega) (by omega)).trans h.c1, by rw [nth3_set _ _ _ _ hx', if_neg (by omega)]; exact (ho 2 (by omega) (by omega)).trans h.c2, by rw [nth3_set _ _ _ _ hx', if_neg (by omega)]; exact (ho 3 (by omega) (by omega)).trans h.c3,
      by rw [nth3_set _ _ _ _ hx', if_neg (by omega)]; exact (ho 4 (by omega) (by omega)).trans h.c4, by rw [nth3_set _ _ _ _ hx', if_neg (by omega)]; exact (ho 5 (by omega) (by omega)).trans h.c5,
      by rw [nth3_set _ _ _ _ hx', if_pos rfl]; exact w0, by rw [nth3_set _ _ _ _ hx', if_pos rfl]; exact w1, fz⟩

set_option maxRecDepth 100000 in
set_option maxHeartbeats 4000000 in
theorem choose_any (l db yb cb ob c c1 B : Nat) (set : Int) (A S : Option Addr) (n cap : Nat) (lls : List (List Sp)) (hn : lls.length = n) (hn3 : n ≤ 3) (hls : ∀ L ∈ lls, L.length ≤ 16)
    (J Jx : List (List Sp) → World → Prop) (XS : List (List Sp)) (hJu : Up B J) (b1 : c ≤ cb ∧ cb < c1 ∧ c1 ≤ l ∧ l < B) (b2 : B ≤ yb ∧ B ≤ db ∧ B ≤ ob ∧ yb ≠ db ∧ db ≠ ob ∧ yb ≠ ob)
    (hY : ∀ pre x V, J pre V → B ≤ V.heap.size → pre ++ [x] <+: XS → YieldW Try.prog l #[dialV set A n cap x] V fun e V' =>
      (e = .returned (.bool true) ∧ J (pre ++ [x]) V' ∧ MidBut c l V V') ∨ (e = .returned (.bool false) ∧ Jx (pre ++ [x]) V')) :
    ∀ (r i : Nat) (ys x : List Sp) (pre : List (List Sp)) (V : World), i + r = n → ys.length = i → x.length = 3 → x.take i = ys → x.drop n = List.replicate (3 - n) zSp → J pre V → pre ++ under ys (lls.drop i) <+: XS →
      Fix V l yb db cb ob c c1 n S lls → DBox V db set A n cap x → B ≤ V.heap.size →
      Calls Try.prog 91 #[.int .i64 i, .pointer (some ⟨db, 0, none⟩), .pointer (some ⟨yb, 0, none⟩), .pointer (some ⟨cb, 0, none⟩), .pointer (some ⟨ob, 0, none⟩)] V fun e V' =>
        (e = .returned (.bool true) ∧ J (pre ++ under ys (lls.drop i)) V' ∧ Fix V' l yb db cb ob c c1 n S lls ∧ (∃ x' : List Sp, x'.length = 3 ∧ x'.take i = ys ∧ x'.drop n = List.replicate (3 - n) zSp ∧ DBox V' db set A n cap x') ∧ B ≤ V'.heap.size ∧ (∀ b o, c ≤ b → b < c1 → V'.cell? ⟨b, o, none⟩ = V.cell? ⟨b, o, none⟩)) ∨
        (e = .returned (.bool false) ∧ ∃ pre' y, pre' ++ [y] <+: XS ∧ Jx (pre' ++ [y]) V') := by
  intro r
  induction r with
  | zero =>
    intro i ys x pre V hi hys hx ht hd hJ hp hF hD hB
    obtain rfl : i = n := hi
    have hxp : x = pad ys := by
      rw [← List.take_append_drop i x, ht, hd]
      unfold pad
      rw [hys]
    rw [show lls.drop i = [] from by rw [← hn, List.drop_length]] at hp ⊢
    rw [under_nil] at hp ⊢
    rw [← hxp] at hp ⊢
    refine (choose_end l db yb cb ob c c1 B set A S i cap lls J Jx XS hY x pre V hJ hp hF hD hB).mono ?_
    rintro e V' (⟨rfl, hJ', hm⟩ | ⟨rfl, h⟩)
    · have hz := hF.z
      exact .inl ⟨rfl, hJ', hF.mid hm (by omega) (by omega) (by omega) (by omega), ⟨x, hx, ht, hd, hD.mid hm (by omega) (by omega) (by omega)⟩, Nat.le_trans hB hm.size, fun b o h1 h2 => hm.cell (p := ⟨b, o, none⟩) h1 (by simp only; omega) (by simp only; omega)⟩
    · exact .inr ⟨rfl, h⟩
  | succ r ih =>
    intro i ys x pre V hi hys hx ht hd hJ hp hF hD hB
    have hin : i < lls.length := by omega
    have hdr : lls.drop i = lls[i] :: lls.drop (i + 1) := List.drop_eq_getElem_cons hin
    rw [hdr, under_cons] at hp ⊢
    have hL := hls _ (List.getElem_mem hin)
    obtain ⟨sb, so, A', c', rfl, hs1, hs2, hsc, hsa⟩ := hF.s.at_ hin
    generalize lls[i] = L at *
    have hD0 := hD
    obtain ⟨d0, d1, d2, d3, d4, d5, d6, d7, dz⟩ := hD
    have f0 := hF.y
    have f1 := hF.k
    have f2 := hF.o
    have hne : (i : Int) ≠ n := by omega
    have hnb : ((i : Int) == (n : Int)) = false := by rw [beq_eq_false_iff_ne]; exact hne
    refine (callsIn_wide (n := 5)).1 ?_
    refine callsIn_of_wp Try.func91 rfl trivial ?_ rfl
    simp only [Try.ntmps91, List.size_toArray, List.length_cons, List.length_nil, Nat.reduceAdd, Nat.reduceSub, Array.replicate_succ, Array.replicate_zero, List.push_toArray, List.append_toArray, List.nil_append, List.cons_append]
    gi_wp2
    clear d0 d1 d2 d3 d4 d5 d6 d7 dz f0 f1 f2 hsc
    have hsw := hF.s
    have hD' : DBox V db set A n cap x := hD0
    have hWhole : Hid (∃ T, T = L.flatMap (fun f => under (ys ++ [f]) (lls.drop (i + 1)))) := hid ⟨_, rfl⟩
    gi_loopw [23] (fun iv wr => ∃ (j : Nat) (D : List (List Sp)) (x' : List Sp), j ≤ L.length ∧ iv = .int .i64 j ∧ J (pre ++ D) wr ∧ Fix wr l yb db cb ob c c1 n (some ⟨sb, so, none⟩) lls ∧ (x'.length = 3 ∧ x'.take i = ys ∧ x'.drop n = List.replicate (3 - n) zSp) ∧ DBox wr db set A n cap x' ∧
        B ≤ wr.heap.size ∧ (∀ b o, c ≤ b → b < c1 → wr.cell? ⟨b, o, none⟩ = V.cell? ⟨b, o, none⟩) ∧ Hid (D ++ (L.drop j).flatMap (fun f => under (ys ++ [f]) (lls.drop (i + 1))) = L.flatMap (fun f => under (ys ++ [f]) (lls.drop (i + 1))))) (fun iv _ => L.length - (intOf iv).toNat)
    case atStart => exact ⟨0, [], x, Nat.zero_le _, by simp, by simpa using hJ, hF, ⟨hx, ht, hd⟩, hD', hB, fun _ _ _ _ => rfl, hid rfl⟩
    case round =>
      obtain ⟨j, D, x', hj, rfl, hJr, hFr, ⟨hx1, hx2, hx3⟩, hDr, hBr, har, HD⟩ := hrel
      have HAR := hid har
      clear har
      by_cases hjt : j < L.length
      · have hj1 : j + 1 ≤ L.length := hjt
        have HD2 : Hid ((D ++ under (ys ++ [L[j]]) (lls.drop (i + 1))) ++ (L.drop (j + 1)).flatMap (fun f => under (ys ++ [f]) (lls.drop (i + 1))) = L.flatMap (fun f => under (ys ++ [f]) (lls.drop (i + 1)))) := hid (by rw [← HD.out, flat_drop _ _ j hjt, List.append_assoc])
        obtain ⟨b, o, rfl, hb, a0, a1⟩ := (hsa.of_cells HAR.out).arr.sp hjt
        generalize L[j] = f at *
        obtain ⟨v0, v1⟩ := hDr.at_ (show i < 3 by omega)
        have z0 := hDr.fz (2 + i * 2)
        have z1 := hDr.fz (2 + i * 2 + 1)
        have f2 := hFr.o
        obtain ⟨hz1, hz2, hz3, hz4, hz5⟩ := hFr.z
        have hne1 : ob ≠ db := by omega
        gi_wp2
        have hDs := hDr.set i (show i < 3 by omega) hx1 f
        have hbs : Below B wr ((wr.setCell ⟨db, 2 + i * 2, none⟩ (.int .i64 f.lo)).setCell ⟨db, 2 + i * 2 + 1, none⟩ (.int .i64 f.hi)) := ((Below.refl B wr).setCell (p := ⟨db, 2 + i * 2, none⟩) (by simp; omega) _).setCell (p := ⟨db, 2 + i * 2 + 1, none⟩) (by simp; omega) _
        have hcs : ∀ b o, b ≠ db → ((wr.setCell ⟨db, 2 + i * 2, none⟩ (.int .i64 f.lo)).setCell ⟨db, 2 + i * 2 + 1, none⟩ (.int .i64 f.hi)).cell? ⟨b, o, none⟩ = wr.cell? ⟨b, o, none⟩ := fun b o hb =>
          (World.cell?_setCell_other _ _ _ _ (fun e => by cases e; exact hb rfl)).trans (World.cell?_setCell_other _ _ _ _ (fun e => by cases e; exact hb rfl))
        have hzs : ((wr.setCell ⟨db, 2 + i * 2, none⟩ (.int .i64 f.lo)).setCell ⟨db, 2 + i * 2 + 1, none⟩ (.int .i64 f.hi)).heap.size = wr.heap.size := by simp
        have hFs := hFr.of_cells (V' := (wr.setCell ⟨db, 2 + i * 2, none⟩ (.int .i64 f.lo)).setCell ⟨db, 2 + i * 2 + 1, none⟩ (.int .i64 f.hi)) (by omega) (fun b o hb => hcs b o (by omega))
        have hJs := hJu _ _ _ hJr hbs
        have has : ∀ b o, c ≤ b → b < c1 → ((wr.setCell ⟨db, 2 + i * 2, none⟩ (.int .i64 f.lo)).setCell ⟨db, 2 + i * 2 + 1, none⟩ (.int .i64 f.hi)).cell? ⟨b, o, none⟩ = V.cell? ⟨b, o, none⟩ := fun b o h1 h2 => (hcs b o (by omega)).trans (HAR.out b o h1 h2)
        generalize (wr.setCell ⟨db, 2 + i * 2, none⟩ (.int .i64 f.lo)).setCell ⟨db, 2 + i * 2 + 1, none⟩ (.int .i64 f.hi) = W1 at *
        have hba := (Below.refl W1.heap.size W1).alloc (Nat.le_refl _) (.cells #[.int .i64 f.lo, .int .i64 f.hi] 101)
        have hza : (W1.alloc (.cells #[.int .i64 f.lo, .int .i64 f.hi] 101)).heap.size = W1.heap.size + 1 := by simp
        have hFa := hFs.of_cells hba.size (fun b o hb => hba.cell (p := ⟨b, o, none⟩) (by simp only; omega))
        have hDa : DBox (W1.alloc (.cells #[.int .i64 f.lo, .int .i64 f.hi] 101)) db set A n cap (x'.set i f) := hDs.below hba (by omega)
        have hJa := hJu _ _ _ hJs (hba.mono (by omega))
        have haa : ∀ b o, c ≤ b → b < c1 → (W1.alloc (.cells #[.int .i64 f.lo, .int .i64 f.hi] 101)).cell? ⟨b, o, none⟩ = V.cell? ⟨b, o, none⟩ := fun b o h1 h2 => (hba.cell (p := ⟨b, o, none⟩) (by simp only; omega)).trans (has b o h1 h2)
        generalize W1.alloc (.cells #[.int .i64 f.lo, .int .i64 f.hi] 101) = W2 at *
        have hu : Hid (under (ys ++ [f]) (lls.drop (i + 1)) = under (ys ++ [f]) (lls.drop (i + 1))) := hid rfl
        refine ⟨trivial, ?_⟩
        have ihc := ih (i + 1) (ys ++ [f]) (x'.set i f) (pre ++ D) W2 (by omega) (by simp [hys]) (by simp [hx1]) ?_ ?_ hJa ?_ hFa hDa (by omega)
        · simp only [Int.natCast_add, Int.natCast_one] at ihc
          refine (callsIn_wide.2 ihc).mono ?_
          rintro e V' (⟨rfl, hJ', hF', ⟨x2, h1, h2, h3, h4⟩, hB', hk'⟩ | ⟨rfl, hx⟩)
          · gi_wp2
            refine ⟨⟨j + 1, D ++ under (ys ++ [f]) (lls.drop (i + 1)), x2, hj1, by go_num, by rw [← List.append_assoc]; exact hJ', hF', ⟨h1, ?_, h3⟩, h4, hB', fun b o q1 q2 => (hk' b o q1 q2).trans (haa b o q1 q2), HD2⟩, ?_⟩
            · have := congrArg (List.take i) h2
              rw [List.take_take, Nat.min_eq_left (by omega)] at this
              rw [this, List.take_append_of_le_length (by omega), List.take_of_length_le (by omega)]
            · simp [intOf]; omega
          · gi_wp2
            go_ret
            exact .inr ⟨rfl, hx⟩
        · rw [List.take_add_one, List.take_set_of_le (by omega), hx2, List.getElem?_set_self (by omega)]
          rfl
        · rw [List.drop_set_of_lt (by omega)]
          exact hx3
        · refine List.IsPrefix.trans ⟨?_, ?_⟩ hp
          · exact (L.drop (j + 1)).flatMap (fun f => under (ys ++ [f]) (lls.drop (i + 1)))
          · rw [← HD2.out]
            simp only [List.append_assoc]
      · obtain rfl : j = L.length := by omega
        have HDE : D = L.flatMap (fun f => under (ys ++ [f]) (lls.drop (i + 1))) := by
          have h := HD.out
          rw [List.drop_length] at h
          simpa using h
        subst HDE
        have HX := hid (And.intro hFr hDr)
        gi_wp2
        go_ret
        exact .inl ⟨rfl, hJr, HX.out.1, ⟨x', hx1, hx2, hx3, HX.out.2⟩, hBr, HAR.out⟩

theorem run_store_func {P : Program} {w : World} {a : Addr} {m : Mode} (f : Fn) (ts cs : Array Value) : (store a (.func f ts cs) m).run P w = stored P w a (.func f ts cs) m := run_store P w a _ m rfl
attribute [local go_sem] run_store_func
theorem under_all (lls : List (List Sp)) : under [] lls = dialsL lls := by simp [under, dialsL]

set_option maxRecDepth 100000 in
set_option maxHeartbeats 4000000 in
theorem dials_seq (c cb c1 : Nat) (set : Int) (A S : Option Addr) (n cap : Nat) (lls : List (List Sp)) (w0 : World) (hn : lls.length = n) (hn3 : n ≤ 3) (hls : ∀ L ∈ lls, L.length ≤ 16) (hc1 : c1 = w0.heap.size)
    (hcb : c < cb ∧ cb < c1) (h0 : w0.cell? ⟨c, 0, none⟩ = some (.int .i64 set)) (h1 : w0.cell? ⟨c, 1, none⟩ = some (.slice A n cap)) (h2 : w0.cell? ⟨cb, 0, none⟩ = some (.slice S n n)) (hS : Could w0 c c1 S lls) :
    SeqM Try.prog 90 #[.pointer (some ⟨c, 0, none⟩), .pointer (some ⟨cb, 0, none⟩)] (fun x => #[dialV set A n cap x]) c (dialsL lls) w0 := by
  intro l J Jx W hb hl1 hl2 hJ hJx hY hJ0
  have x0 : W.cell? ⟨c, 0, none⟩ = some (.int .i64 set) := (hb.cell (by simp only; omega)).trans h0
  have x1 : W.cell? ⟨c, 1, none⟩ = some (.slice A n cap) := (hb.cell (by simp only; omega)).trans h1
  have x2 : W.cell? ⟨cb, 0, none⟩ = some (.slice S n n) := (hb.cell (by simp only; omega)).trans h2
  have hSW : Could W c c1 S lls := hS.of_cells fun b o q1 q2 => hb.cell (p := ⟨b, o, none⟩) (by simp only; omega)
  have hsz := hb.size
  have hcW : c < W.heap.size := by omega
  have hcbW : cb < W.heap.size := by omega
  show Calls Try.prog 90 #[.func (.yield l) #[] #[], .pointer (some ⟨c, 0, none⟩), .pointer (some ⟨cb, 0, none⟩)] W _
  go_enter Try.func90, Try.ntmps90
  go_wp2_with fail
  have hB3 : Below W.heap.size W (((W.alloc (.cells #[.func (.yield l) #[] #[]] 126)).alloc (.cells #[.int .i64 set, .slice A n cap, .int .i64 0, .int .i64 0, .int .i64 0, .int .i64 0, .int .i64 0, .int .i64 0] 105)).alloc
      (.cells #[.func (.func 91) #[] #[.pointer (some ⟨W.heap.size + 1, 0, none⟩), .pointer (some ⟨W.heap.size, 0, none⟩), .pointer (some ⟨cb, 0, none⟩), .pointer (some ⟨W.heap.size + 1 + 1, 0, none⟩)]] 93)) := by (repeat' (first | (with_reducible exact Below.refl _ _) | (with_reducible assumption) | (with_reducible refine Below.drew ?_) | (with_reducible refine below_drewN ?_ _) | (with_reducible refine Below.setCell ?_ ?_ _) | (with_reducible refine Below.alloc ?_ ?_ _) | go_size | (exact Below.size (by assumption)) | (refine Below.trans ?_ (Below.mono (by assumption) ?_))))
  have hF3 : Fix (((W.alloc (.cells #[.func (.yield l) #[] #[]] 126)).alloc (.cells #[.int .i64 set, .slice A n cap, .int .i64 0, .int .i64 0, .int .i64 0, .int .i64 0, .int .i64 0, .int .i64 0] 105)).alloc
      (.cells #[.func (.func 91) #[] #[.pointer (some ⟨W.heap.size + 1, 0, none⟩), .pointer (some ⟨W.heap.size, 0, none⟩), .pointer (some ⟨cb, 0, none⟩), .pointer (some ⟨W.heap.size + 1 + 1, 0, none⟩)]] 93))
      l W.heap.size (W.heap.size + 1) cb (W.heap.size + 1 + 1) c c1 n S lls :=
    ⟨by simp [go_sem], (hB3.cell (by simp only; omega)).trans x2, by simp [go_sem], hSW.of_cells fun b o q1 q2 => hB3.cell (p := ⟨b, o, none⟩) (by simp only; omega), by simp; omega⟩
  have hD3 : DBox (((W.alloc (.cells #[.func (.yield l) #[] #[]] 126)).alloc (.cells #[.int .i64 set, .slice A n cap, .int .i64 0, .int .i64 0, .int .i64 0, .int .i64 0, .int .i64 0, .int .i64 0] 105)).alloc
      (.cells #[.func (.func 91) #[] #[.pointer (some ⟨W.heap.size + 1, 0, none⟩), .pointer (some ⟨W.heap.size, 0, none⟩), .pointer (some ⟨cb, 0, none⟩), .pointer (some ⟨W.heap.size + 1 + 1, 0, none⟩)]] 93))
      (W.heap.size + 1) set A n cap [zSp, zSp, zSp] :=
    ⟨by simp [go_sem], by simp [go_sem], by simp [go_sem, nth3, zSp], by simp [go_sem, nth3, zSp], by simp [go_sem, nth3, zSp], by simp [go_sem, nth3, zSp], by simp [go_sem, nth3, zSp], by simp [go_sem, nth3, zSp], fun k => by simp [go_sem]⟩
  have hJ3 := hJ _ _ _ hJ0 hB3
  have hz3 := hB3.size
  generalize (((W.alloc (.cells #[.func (.yield l) #[] #[]] 126)).alloc (.cells #[.int .i64 set, .slice A n cap, .int .i64 0, .int .i64 0, .int .i64 0, .int .i64 0, .int .i64 0, .int .i64 0] 105)).alloc
      (.cells #[.func (.func 91) #[] #[.pointer (some ⟨W.heap.size + 1, 0, none⟩), .pointer (some ⟨W.heap.size, 0, none⟩), .pointer (some ⟨cb, 0, none⟩), .pointer (some ⟨W.heap.size + 1 + 1, 0, none⟩)]] 93)) = W3 at *
  have hc := choose_any l (W.heap.size + 1) W.heap.size cb (W.heap.size + 1 + 1) c c1 W.heap.size set A S n cap lls hn hn3 hls J Jx (dialsL lls) hJ (by omega) (by omega) hY n 0 [] [zSp, zSp, zSp] [] W3 (by omega) rfl rfl rfl
    (by have : n = 0 ∨ n = 1 ∨ n = 2 ∨ n = 3 := by omega
        rcases this with rfl | rfl | rfl | rfl <;> rfl) hJ3 (by rw [List.drop_zero, under_all]; exact List.prefix_refl _) hF3 hD3 hz3
  rw [List.drop_zero, under_all] at hc
  refine hc.mono ?_
  rintro e V' (⟨rfl, hJ', _⟩ | ⟨rfl, pre', y, hp, hx⟩)
  · go_wp2
    go_end0
    exact ⟨⟨_, rfl⟩, .inl hJ'⟩
  · go_wp2
    go_end0
    exact ⟨⟨_, rfl⟩, .inr ⟨pre', y, hp, hx⟩⟩
end Go.Proofs.Ytnkbcapikenbbaa
