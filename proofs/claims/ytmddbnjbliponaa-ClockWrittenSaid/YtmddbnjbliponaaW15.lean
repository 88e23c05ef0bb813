/- ClockWritten: the book that numbers choose. -/
import Derived.Test.YtmddbnjbliponaaTr
import Derived.Test.YtmddbnjbliponaaW7
import Derived.Test.YtmddbnjbliponaaZ2
import Derived.Deep.RegionHeld3
import Derived.Deep.DeepCutAuto
namespace Go.Proofs.Ytmddbnjbliponaa
set_option linter.unusedSimpArgs false
set_option linter.unusedVariables false
open Go.RowKit
attribute [local go_sem high] cell_set_wr
attribute [local go_sem low] cell_wr frozen_wr
attribute [local go_sem] wr_set wr_drew wr_drewN wr_alloc wr_new

def byOf (s : Int) : Int := windI s 7 * windI s 11
def stepM (m s : Int) : Int := min 4319 (m + windI s 700)
def lineOf (face : Int → Int) (m s : Int) : Ln := ⟨face m, ⟨max 0 (m - byOf s), min 4319 (m + byOf s / 2)⟩⟩
def minsL : Int → List Int → List Int
  | _, [] => []
  | m, s :: r => stepM m s :: minsL (stepM m s) r
def linesL (face : Int → Int) : Int → List Int → List Ln
  | _, [] => []
  | m, s :: r => lineOf face (stepM m s) s :: linesL face (stepM m s) r
theorem by_bd (s : Int) : 0 ≤ byOf s ∧ byOf s ≤ 60 := by
  have h1 := windI_range s 7 (by omega)
  have h2 := windI_range s 11 (by omega)
  unfold byOf
  constructor
  · exact Int.mul_nonneg h1.1 h2.1
  · have := Int.mul_le_mul (a := windI s 7) (c := 6) (b := windI s 11) (d := 10) (by omega) (by omega) h2.1 (by omega)
    omega
theorem step_bd {m s : Int} (h : 0 ≤ m ∧ m ≤ 4319) : m ≤ stepM m s ∧ 0 ≤ stepM m s ∧ stepM m s ≤ 4319 := by
  have h1 := windI_range s 700 (by omega)
  unfold stepM
  omega
theorem tdiv_two {n : Int} (h : 0 ≤ n) : n.tdiv 2 = n / 2 := Int.tdiv_eq_ediv_of_nonneg h

/-- what the clock shows in a truth that numbers choose, minute by minute -/
def trueF (set : Int) (fs : List Fr) (bits : List Int) : List Int := facesL set (exactF (trulyL fs bits)) 4320
theorem faces_tr (set : Int) (O : Option Addr) (oc : Nat) (fs : List Fr) (bits : List Int) (w : World) (hA : Arr w w.heap.size O (frosts (exactF (trulyL fs bits)))) (hs : 0 ≤ set ∧ set ≤ 4319) (hl3 : fs.length ≤ 3) :
    Calls Try.prog 36 #[.agg #[.int .i64 set, .slice O fs.length oc]] w fun e w' =>
      (∃ L lc, e = .returned (.slice L 4320 lc) ∧ lc ≤ maxLen ∧ Arr w' w'.heap.size L (ints (trueF set fs bits))) ∧ Below w.heap.size w w' := by
  have hfl : (exactF (trulyL fs bits)).length = fs.length := by simp [exactF, trulyL_length]
  have h := faces_any set O oc (exactF (trulyL fs bits)) w hA hs (by rw [hfl]; exact hl3)
  rw [hfl] at h
  exact h
theorem trueF_length (set : Int) (fs : List Fr) (bits : List Int) : (trueF set fs bits).length = 4320 := facesL_length _ _ _

theorem info_lineW : (Try.prog.info? 67).map (fun i => (i.zero, i.size, i.bytes)) = some (some (.agg #[.int .i64 0, .int .i64 0, .int .i64 0]), 3, 24) := by kernel_rfl
/-- all but two blocks are as they were -/
structure RB (rb ra : Option Nat) (w w' : World) : Prop where
  os : w'.os = w.os
  tape : w'.tape = w.tape
  output : w'.output = w.output
  size : w.heap.size ≤ w'.heap.size
  block : ∀ k, k < w.heap.size → some k ≠ rb → some k ≠ ra → w'.heap[k]? = w.heap[k]?
theorem RB.refl (rb ra : Option Nat) (w : World) : RB rb ra w w := ⟨rfl, rfl, rfl, Nat.le_refl _, fun _ _ _ _ => rfl⟩
theorem RB.trans {rb ra : Option Nat} {a b c : World} (h : RB rb ra a b) (k : RB rb ra b c) : RB rb ra a c := ⟨k.os.trans h.os, k.tape.trans h.tape, k.output.trans h.output, Nat.le_trans h.size k.size, fun i hi h1 h2 => (k.block i (Nat.lt_of_lt_of_le hi h.size) h1 h2).trans (h.block i hi h1 h2)⟩
theorem RB.of_below {rb ra : Option Nat} {a b : World} (h : Below a.heap.size a b) : RB rb ra a b := ⟨h.os, h.tape, h.output, h.size, fun k hk _ _ => h.block k hk⟩
theorem RB.left {rb ra : Option Nat} {a b : World} (h : a.grownBy b rb) : RB rb ra a b := ⟨h.os, h.tape, h.output, h.size, fun k hk h1 _ => h.block k hk h1⟩
theorem RB.right {rb ra : Option Nat} {a b : World} (h : a.grownBy b ra) : RB rb ra a b := ⟨h.os, h.tape, h.output, h.size, fun k hk _ h2 => h.block k hk h2⟩
theorem RB.cell {rb ra : Option Nat} {a b : World} (h : RB rb ra a b) {k : Nat} (hk : k < a.heap.size) (h1 : some k ≠ rb) (h2 : some k ≠ ra) (o : Nat) : b.cell? ⟨k, o, none⟩ = a.cell? ⟨k, o, none⟩ := World.cell?_of_block (w := a) (h.block k hk h1 h2)
theorem RB.below {rb ra : Option Nat} {a b : World} {B : Nat} (h : RB rb ra a b) (hB : B ≤ a.heap.size) (h1 : ∀ k, rb = some k → B ≤ k) (h2 : ∀ k, ra = some k → B ≤ k) : Below B a b :=
  ⟨h.os, h.tape, h.output, h.size, fun k hk => h.block k (by omega) (fun e => by have := h1 k e.symm; omega) (fun e => by have := h2 k e.symm; omega)⟩
theorem cells_new (w : World) (cs : Array Value) (ty : TypeId) (j : Nat) (u : Value) (hu : cs.toList[j]? = some u) : (w.alloc (.cells cs ty)).cell? ⟨w.heap.size, j, none⟩ = some u := by
  have hn : (w.alloc (.cells cs ty)).heap[w.heap.size]? = some (.cells cs ty) := by show (w.heap.push _)[w.heap.size]? = _; simp
  simp only [World.cell?, hn]
  simpa using hu
theorem arr_one' {w : World} {G : Nat} {v : Value} (hG : G < w.heap.size) (h : w.cell? ⟨G, 0, none⟩ = some v) : Arr w w.heap.size (some ⟨G, 0, none⟩) [v] := fun _ => ⟨G, 0, rfl, hG, fun j u hu => by
  have hj : j = 0 := by rcases j with _ | j; rfl; simp at hu
  subst hj
  simp at hu
  rw [← hu]; exact h⟩
/-- what the steps of `book, at = append(book, ..), append(at, m)` leave -/
def crF (bv tv : Value) (lb lo lc N0 : Nat) (m2 b : Nat) (x : Ln) : Nat → Value → World → Prop
  | 0, v, _ => v = bv
  | 1, v, _ => v = .slice (some ⟨lb, lo, none⟩) 4320 lc
  | 2, v, _ => v = .int .i64 m2
  | 3, v, _ => v = .pointer (some ⟨lb, lo + m2, none⟩)
  | 4, v, _ => v = .int .i64 x.r
  | 5, v, _ => v = .int .i64 m2
  | 6, v, _ => v = .int .i64 b
  | 7, v, _ => v = .int .i64 ((m2 : Int) - b)
  | 8, v, _ => v = .int .i64 (max 0 ((m2 : Int) - b))
  | 9, v, _ => v = .int .i64 m2
  | 10, v, _ => v = .int .i64 b
  | 11, v, _ => v = .int .i64 ((b : Int) / 2)
  | 12, v, _ => v = .int .i64 ((m2 : Int) + (b : Int) / 2)
  | 13, v, _ => v = .int .i64 (min 4319 ((m2 : Int) + (b : Int) / 2))
  | 14, v, _ => v = .agg #[.int .i64 (max 0 ((m2 : Int) - b)), .int .i64 (min 4319 ((m2 : Int) + (b : Int) / 2))]
  | 15, v, _ => v = .agg #[.int .i64 x.r, .int .i64 (max 0 ((m2 : Int) - b)), .int .i64 (min 4319 ((m2 : Int) + (b : Int) / 2))]
  | 16, v, w => ∃ G, v = .slice (some ⟨G, 0, none⟩) 1 1 ∧ N0 ≤ G ∧ G < w.heap.size ∧ ∀ j u, x.cells[j]? = some u → w.cell? ⟨G, j, none⟩ = some u
  | 18, v, _ => v = tv
  | 19, v, _ => v = .int .i64 m2
  | 20, v, w => ∃ G, v = .slice (some ⟨G, 0, none⟩) 1 1 ∧ N0 ≤ G ∧ G < w.heap.size ∧ w.cell? ⟨G, 0, none⟩ = some (.int .i64 m2)
  | _, _, _ => True
theorem crF_stable (bv tv : Value) (lb lo lc N0 : Nat) (m2 b : Nat) (x : Ln) (h1 : ∀ k, bv.ownBlock = some k → k < N0) (h2 : ∀ k, tv.ownBlock = some k → k < N0) : ∀ i v w w', RB bv.ownBlock tv.ownBlock w w' → crF bv tv lb lo lc N0 m2 b x i v w → crF bv tv lb lo lc N0 m2 b x i v w' := by
  intro i v w w' hR h
  unfold crF at *
  split at h
  case h_17 =>
    obtain ⟨G, e, g1, g2, g3⟩ := h
    exact ⟨G, e, g1, Nat.lt_of_lt_of_le g2 hR.size, fun j u hu => (hR.cell g2 (fun e' => by have := h1 G e'.symm; omega) (fun e' => by have := h2 G e'.symm; omega) j).trans (g3 j u hu)⟩
  case h_20 =>
    obtain ⟨G, e, g1, g2, g3⟩ := h
    exact ⟨G, e, g1, Nat.lt_of_lt_of_le g2 hR.size, (hR.cell g2 (fun e' => by have := h1 G e'.symm; omega) (fun e' => by have := h2 G e'.symm; omega) 0).trans g3⟩
  all_goals exact h
/-- who owns the two rows -/
def crE (base k : Nat) (bv tv : Value) (D : List Ln) (M : List Int) (x : Ln) (m2 : Int) (L : Array Bool) (a : Act) (w : World) : Prop :=
  (L.getD 17 false = false → w.ownsRow base 67 3 bv k (lines D)) ∧
  (L.getD 17 false = true → ∃ G c, a.tmps[64]? = some (.slice G (k + 1) c) ∧ w.ownsRow base 67 3 (.slice G (k + 1) c) (k + 1) (lines D ++ x.cells)) ∧
  (L.getD 21 false = false → w.ownsRow base 3 1 tv k (ints M)) ∧
  (L.getD 21 false = true → ∃ G c, a.tmps[68]? = some (.slice G (k + 1) c) ∧ w.ownsRow base 3 1 (.slice G (k + 1) c) (k + 1) (ints M ++ [.int .i64 m2]))
theorem put_other {a : Act} {dst : Option Tmp} {v : Value} {t : Nat} (hd : ∀ d, dst = some d → d ≠ t) : (a.put dst v).tmps[t]? = a.tmps[t]? := by
  cases dst with
  | none => rfl
  | some d => simp [Act.put, Array.getElem?_setIfInBounds_ne (hd d rfl)]
theorem crE_keep {base k : Nat} {bv tv : Value} {D : List Ln} {M : List Int} {x : Ln} {m2 : Int} {L : Array Bool} {a : Act} {w w' : World} {i : Nat} {dst : Option Tmp} {v : Value} (h : crE base k bv tv D M x m2 L a w) (hb : Below w.heap.size w w') (h1 : i ≠ 17) (h2 : i ≠ 21) (hd : ∀ d, dst = some d → d ≠ 64 ∧ d ≠ 68) :
    crE base k bv tv D M x m2 (L.setIfInBounds i true) (a.put dst v) w' := by
  obtain ⟨e1, e2, e3, e4⟩ := h
  unfold crE
  rw [getD_set_ne false h1, getD_set_ne false h2, put_other fun d hd' => (hd d hd').1, put_other fun d hd' => (hd d hd').2]
  refine ⟨fun h => own_below (e1 h) hb, fun h => ?_, fun h => own_below (e3 h) hb, fun h => ?_⟩
  · obtain ⟨G, c, g1, g2⟩ := e2 h; exact ⟨G, c, g1, own_below g2 hb⟩
  · obtain ⟨G, c, g1, g2⟩ := e4 h; exact ⟨G, c, g1, own_below g2 hb⟩
theorem crE_17 {base k : Nat} {bv tv : Value} {D : List Ln} {M : List Int} {x : Ln} {m2 : Int} {L : Array Bool} {a : Act} {w w' : World} {G : Option Addr} {c : Nat} (h : crE base k bv tv D M x m2 L a w) (hl : 17 < L.size) (ha : 64 < a.tmps.size) (hnew : L.getD 17 true = false)
    (ho : w'.ownsRow base 67 3 (.slice G (k + 1) c) (k + 1) (lines D ++ x.cells)) (hg : w.grownBy w' bv.ownBlock) : crE base k bv tv D M x m2 (L.setIfInBounds 17 true) (a.put (some 64) (.slice G (k + 1) c)) w' := by
  obtain ⟨e1, e2, e3, e4⟩ := h
  have hold := e1 (by rw [getD_lt hl false true]; exact hnew)
  unfold crE
  rw [getD_set_same hl, getD_set_ne false (show (17 : Nat) ≠ 21 by decide), put_other (t := 68) fun d hd' => by cases hd'; decide]
  refine ⟨fun h => (by cases h), fun _ => ⟨G, c, by simp [Act.put, ha], ho⟩, fun h => (e3 h).kept hg (own_ne (e3 h) hold (by decide)), fun h => ?_⟩
  obtain ⟨G', c', g1, g2⟩ := e4 h
  exact ⟨G', c', g1, g2.kept hg (own_ne g2 hold (by decide))⟩
theorem crE_21 {base k : Nat} {bv tv : Value} {D : List Ln} {M : List Int} {x : Ln} {m2 : Int} {L : Array Bool} {a : Act} {w w' : World} {G : Option Addr} {c : Nat} (h : crE base k bv tv D M x m2 L a w) (hl : 21 < L.size) (ha : 68 < a.tmps.size) (hnew : L.getD 21 true = false)
    (ho : w'.ownsRow base 3 1 (.slice G (k + 1) c) (k + 1) (ints M ++ [.int .i64 m2])) (hg : w.grownBy w' tv.ownBlock) : crE base k bv tv D M x m2 (L.setIfInBounds 21 true) (a.put (some 68) (.slice G (k + 1) c)) w' := by
  obtain ⟨e1, e2, e3, e4⟩ := h
  have hold := e3 (by rw [getD_lt hl false true]; exact hnew)
  unfold crE
  rw [getD_set_same hl, getD_set_ne false (show (21 : Nat) ≠ 17 by decide), put_other (t := 64) fun d hd' => by cases hd'; decide]
  refine ⟨fun h => (e1 h).kept hg (own_ne (e1 h) hold (by decide)), fun h => ?_, fun h => (by cases h), fun _ => ⟨G, c, by simp [Act.put, ha], ho⟩⟩
  obtain ⟨G', c', g1, g2⟩ := e2 h
  exact ⟨G', c', g1, g2.kept hg (own_ne g2 hold (by decide))⟩

/-- what courses returns -/
def CoursesRet (w : World) (bl : List Ln) (ms : List Int) (e : Ending) (w' : World) : Prop :=
  ∃ B bc T tc, e = .returned (.tuple #[.slice B bl.length bc, .slice T ms.length tc]) ∧ Arr w' w'.heap.size B (lines bl) ∧ Arr w' w'.heap.size T (ints ms) ∧ Below w.heap.size w w'

set_option maxRecDepth 100000 in
set_option maxHeartbeats 4000000 in
theorem chosen_any (set : Int) (A Bi S : Option Addr) (cap bcap scap : Nat) (fs : List Fr) (bits steps : List Int) (w : World) (hA : Arr w w.heap.size A (frosts fs)) (hBi : Arr w w.heap.size Bi (ints bits)) (hS : Arr w w.heap.size S (ints steps)) (hO : OkFs fs) (hs : 0 ≤ set ∧ set ≤ 4319) (hn : bits.length ≤ 9223372036854775807) (hsn : steps.length ≤ 9223372036854775807) (face : Int → Int) (Hface : Hid (∀ m, face m = (trueF set fs bits).getD m.toNat 0)) :
    Calls Try.prog 45 #[.agg #[.int .i64 set, .slice A fs.length cap], .slice Bi bits.length bcap, .slice S steps.length scap] w (CoursesRet w (linesL face 0 (steps.take 6)) (minsL 0 (steps.take 6))) := by
  have hfl3 : fs.length ≤ 3 := hO.1
  go_enter Try.func45, Try.ntmps45
  go_wp2_with (first
    | (go_at_call 37; refine (truly_any set A Bi cap bcap fs bits _ ?_ ?_ hO hn).mono ?_; (focus (refine (hA.below ?_).more ?_; (repeat' (first | (with_reducible exact Below.refl _ _) | (with_reducible assumption) | (with_reducible refine Below.drew ?_) | (with_reducible refine below_drewN ?_ _) | (with_reducible refine Below.setCell ?_ ?_ _) | (with_reducible refine Below.alloc ?_ ?_ _) | go_size | (exact Below.size (by assumption)) | (refine Below.trans ?_ (Below.mono (by assumption) ?_)))))); (focus (refine (hBi.below ?_).more ?_; (repeat' (first | (with_reducible exact Below.refl _ _) | (with_reducible assumption) | (with_reducible refine Below.drew ?_) | (with_reducible refine below_drewN ?_ _) | (with_reducible refine Below.setCell ?_ ?_ _) | (with_reducible refine Below.alloc ?_ ?_ _) | go_size | (exact Below.size (by assumption)) | (refine Below.trans ?_ (Below.mono (by assumption) ?_)))))); rintro e w1 ⟨⟨O1, oc1, rfl, hoc1, hO1⟩, hb1⟩; (first | replace hb1 := Below.un1 hb1 | replace hb1 := Below.un2 hb1 | skip); obtain ⟨hc1, hf1, hl1, hm1, hw1⟩ := bcell hb1; have hz1 := hb1.size; (try simp only [World.size_alloc] at hz1))
    | (go_at_call 36; refine (faces_tr set O1 oc1 fs bits _ hO1 hs hfl3).mono ?_; rintro e w2 ⟨⟨L2, lc2, rfl, hlc2, hL2⟩, hb2⟩; (first | replace hb2 := Below.un1 hb2 | replace hb2 := Below.un2 hb2 | skip); obtain ⟨hc2, hf2, hl2, hm2, hw2⟩ := bcell hb2; have hz2 := hb2.size))
  have hFL := trueF_length set fs bits
  have hB2 : Below w.heap.size w w2 := by (repeat' (first | (with_reducible exact Below.refl _ _) | (with_reducible assumption) | (with_reducible refine Below.drew ?_) | (with_reducible refine below_drewN ?_ _) | (with_reducible refine Below.setCell ?_ ?_ _) | (with_reducible refine Below.alloc ?_ ?_ _) | go_size | (exact Below.size (by assumption)) | (refine Below.trans ?_ (Below.mono (by assumption) ?_))))
  have hS2 := (hS.below hB2).more hB2.size
  clear hc1 hf1 hl1 hm1 hw1 hb1 hz1 hc2 hf2 hl2 hm2 hw2 hb2 hz2 hO1
  generalize trueF set fs bits = FL at *
  have HFL := hid hFL
  clear hFL
  go_loopw [9, 10, 11, 12] (fun bv tv mv iv wr => ∃ (k : Nat) (D : List Ln) (M : List Int) (m : Nat), k ≤ steps.length ∧ k ≤ 6 ∧ iv = .int .i64 k ∧ mv = .int .i64 m ∧ m ≤ 4319 ∧ D.length = k ∧ M.length = k ∧
      wr.ownsRow w2.heap.size 67 3 bv k (lines D) ∧ wr.ownsRow w2.heap.size 3 1 tv k (ints M) ∧
      Hid (D ++ linesL face m ((steps.take 6).drop k) = linesL face 0 (steps.take 6)) ∧ Hid (M ++ minsL m ((steps.take 6).drop k) = minsL 0 (steps.take 6)) ∧ Below w2.heap.size w2 wr) (fun _ _ _ iv _ => 6 - (intOf iv).toNat)
  case atStart => exact ⟨0, [], [], 0, Nat.zero_le _, by omega, rfl, rfl, by omega, rfl, rfl, own_nil _ _ _ _, own_nil _ _ _ _, hid (by simp), hid (by simp), Below.refl _ _⟩
  case round =>
    obtain ⟨k, D, M, m, hk, hk6, rfl, rfl, hm, hD, hM, ownD, ownM, HKD, HKM, hBr⟩ := hrel
    obtain ⟨wo, rfl⟩ : ∃ wo : World, wo = wr := ⟨_, rfl⟩
    have hzr := hBr.size
    have HD := hid hD
    have HM := hid hM
    clear hD hM
    by_cases hlt : k < steps.length ∧ k < 6
    · obtain ⟨hls, hl6⟩ := hlt
      have hkI : (k : Int) < steps.length := by omega
      obtain ⟨sb, so, rfl, hsb, s0⟩ := (hS2.below hBr).int hls
      obtain ⟨s, hse⟩ : ∃ s, steps[k] = s := ⟨_, rfl⟩
      rw [hse] at s0
      have HDR : Hid ((steps.take 6).drop k = s :: (steps.take 6).drop (k + 1)) := hid (by
        rw [List.drop_eq_getElem_cons (by rw [List.length_take]; omega), List.getElem_take, hse])
      clear hse
      obtain ⟨st1, st2, st3⟩ := step_bd (m := (m : Int)) (s := s) (by omega)
      obtain ⟨m2, hm2⟩ : ∃ m2 : Nat, stepM m s = m2 := ⟨(stepM m s).toNat, by omega⟩
      have HM2 := hid hm2
      have HE : Hid ((if (m : Int) + windI s 700 < 4319 then (m : Int) + windI s 700 else 4319) = m2) := hid (by rw [← hm2]; unfold stepM; split <;> omega)
      have hm2l : m2 ≤ 4319 := by omega
      obtain ⟨w71, w72⟩ := windI_range s 700 (by omega)
      obtain ⟨w73, w74⟩ := windI_range s 7 (by omega)
      obtain ⟨w75, w76⟩ := windI_range s 11 (by omega)
      obtain ⟨b, hb⟩ : ∃ b : Nat, byOf s = b := ⟨(byOf s).toNat, by have := by_bd s; omega⟩
      have HB := hid hb
      have hb60 : b ≤ 60 := by have := by_bd s; omega
      clear st1 st2 st3 hm2 hb
      have hk6I : (k : Int) < 6 := by omega
      go_upto_region 8 with (fail)
      go_cut [11] (fun mv wx => mv = .int .i64 m2 ∧ wx = wo)
      case first =>
        go_wp2_with (go_at_call 42; refine (wind_any s _ (by omega) _).mono ?_; rintro e w9 ⟨rfl, rfl⟩)
        all_goals
          go_meet
          refine ⟨?_, rfl⟩
          congr 1
          rw [← HE.out]
          split <;> omega
      case rest =>
        obtain ⟨rfl, rfl⟩ := hcut
        obtain ⟨wq, rfl⟩ : ∃ wq : World, wq = wc := ⟨_, rfl⟩
        go_wp2_with fail
        have rby : IntKind.i64.wrap (windI s 7 * windI s 11) = (b : Int) := by
          have h1 : windI s 7 * windI s 11 = (b : Int) := HB.out
          rw [h1]; exact IntWalk.i64_in _ (by omega)
        go_cut [13] (fun v wx => v = .int .i64 b ∧ ∃ nd, wx = wq.drewN nd)
        case first =>
          go_quiet ((go_at_call 42; exact Calls.quiet_of_same ((wind_any _ _ (by omega) _).mono fun _ _ h => ⟨h.1, h.2.symm⟩)))
          go_wp2_with fail
          go_meet
          exact ⟨rfl, _, rfl⟩
        case rest =>
          obtain ⟨rfl, nd, hW⟩ := hcut
          obtain ⟨W, rfl⟩ : ∃ W : World, W = wc := ⟨_, rfl⟩
          clear rby
          have hWB : Below wq.heap.size wq W := by rw [hW]; exact below_drewN (Below.refl _ _) _
          have hWz : W.heap.size = wq.heap.size := by rw [hW]; rfl
          have oD := own_below ownD hWB
          have oM := own_below ownM hWB
          have hBW : Below w2.heap.size w2 W := hBr.trans (hWB.mono hzr)
          have hBs : w2.heap.size ≤ W.heap.size := hBW.size
          have HWZ := hid hWz
          clear ownD ownM hWB hWz hW
          have hmf : m2 < FL.length := by have := HFL.out; omega
          obtain ⟨lb, lo, rfl, hlb, l0⟩ := (hL2.below hBW).int hmf
          obtain ⟨x, hx⟩ : ∃ x : Ln, x = ⟨FL[m2], ⟨max 0 ((m2 : Int) - b), min 4319 ((m2 : Int) + (b : Int) / 2)⟩⟩ := ⟨_, rfl⟩
          have hxr : FL[m2] = x.r := by rw [hx]
          rw [hxr] at l0
          have HX := hid hx
          have hk4 : k ≤ 100 := by omega
          have hm2I : (m2 : Int) < 4320 := by omega
          have u9l : ∀ g, Value.ownBlock u9 = some g → g < W.heap.size := own_lt oD
          have u10l : ∀ g, Value.ownBlock u10 = some g → g < W.heap.size := own_lt oM
          have u9b : ∀ g, Value.ownBlock u9 = some g → w2.heap.size ≤ g := ownBlock_le oD
          have u10b : ∀ g, Value.ownBlock u10 = some g → w2.heap.size ≤ g := ownBlock_le oM
          have HU := hid (And.intro u9l u10l)
          have HUB := hid (And.intro u9b u10b)
          have HXC : Hid (x.cells = [.int .i64 x.r, .int .i64 (max 0 ((m2 : Int) - b)), .int .i64 (min 4319 ((m2 : Int) + (b : Int) / 2))]) := hid (by rw [hx]; rfl)
          clear hx hxr u9l u10l u9b u10b
          go_wp2_with fail
          refine wp_region_any (by kernel_rfl) ?_
          have T0 : RB (Value.ownBlock u9) (Value.ownBlock u10) W W.drew := RB.of_below (Below.refl _ _).drew
          refine linE_any [22, 23] 71 (crF u9 u10 lb lo lc2 W.heap.size m2 b x) (fun w' => RB (Value.ownBlock u9) (Value.ownBlock u10) W w') (RB (Value.ownBlock u9) (Value.ownBlock u10)) (crE w2.heap.size k u9 u10 D M x m2)
            [0, 1, 2, 3, 4, 5, 6, 7, 8, 9, 10, 11, 12, 13, 14, 15, 16, 17, 18, 19, 20, 21, 22, 23, 24, 25, 26, 27, 28, 29, 30, 31, 32, 33, 34, 35, 36, 37, 38, 39, 40, 41, 42, 43, 44, 45, 46, 69, 70] #[true, true, true, true, true, true, true, true, true, true, true, true, true, true, true, true, true, true, true, true, true, true, false, false] [0, 1, 2, 3, 4, 5, 6, 7, 8, 9, 10, 11, 12, 13, 14, 15, 16, 17, 18, 19, 20, 21] (by kernel_rfl) (by kernel_rfl) (by kernel_rfl) (by kernel_rfl) (by kernel_rfl) (by kernel_rfl) (by kernel_rfl) (by kernel_rfl) (by kernel_rfl) (by kernel_rfl)
            (crF_stable _ _ _ _ _ _ _ _ _ HU.out.1 HU.out.2) (by rfl) T0 ⟨fun _ => oD, fun h => (by cases h), fun _ => oM, fun h => (by cases h)⟩ ?_ ?_
          · intro a' w' L hL hd hsz hkn hT hE hall
            clear hd
            have r8 := hkn 8 (by decide); have r9 := hkn 9 (by decide); have r10 := hkn 10 (by decide); have r11 := hkn 11 (by decide); have r13 := hkn 13 (by decide); simp only [Array.getD_eq_getD_getElem?, List.getElem?_toArray, List.getElem?_cons_succ, List.getElem?_cons_zero, Option.getD_some] at r8 r9 r10 r11 r13
            clear hkn hall
            have f0 : w'.cell? ⟨lb, lo + m2, none⟩ = some (.int .i64 x.r) := (hT.cell (by omega) (fun e => by have := HUB.out.1 lb e.symm; omega) (fun e => by have := HUB.out.2 lb e.symm; omega) _).trans l0
            refine LinE.cons (by simp only [List.getElem?_toArray, List.getElem?_cons_succ, List.getElem?_cons_zero]; rfl) (fun hnew hk K hK => ?_) ?_
            · rw [if_pos (wanted_none rfl)]; obtain ⟨ρ, hρ⟩ : ∃ ρ, a'.eval = ρ := ⟨_, rfl⟩; have qc : ∀ v, ρ (.const v) = v := (fun v => (by rw [← hρ]; rfl)); have qf : ∀ f, ρ (.func f) = .func (.func f) #[] #[] := (fun f => (by rw [← hρ]; rfl)); have q9 := eval_of r9; rw [hρ] at q9; refine abs_op ρ hρ ?_; clear hρ; go_simp
              exact hK.out _ _ _ rfl rfl hT (RB.refl _ _ _) (crE_keep hE (Below.refl _ _) (by decide) (by decide) (by simp))
            refine LinE.cons (by simp only [List.getElem?_toArray, List.getElem?_cons_succ, List.getElem?_cons_zero]; rfl) (fun hnew hk K hK => ?_) ?_
            · rw [if_pos (wanted_none rfl)]; obtain ⟨ρ, hρ⟩ : ∃ ρ, a'.eval = ρ := ⟨_, rfl⟩; have qc : ∀ v, ρ (.const v) = v := (fun v => (by rw [← hρ]; rfl)); have qf : ∀ f, ρ (.func f) = .func (.func f) #[] #[] := (fun f => (by rw [← hρ]; rfl)); have q8 := eval_of r8; rw [hρ] at q8; refine abs_op ρ hρ ?_; clear hρ; go_simp
              exact hK.out _ _ _ rfl rfl hT (RB.refl _ _ _) (crE_keep hE (Below.refl _ _) (by decide) (by decide) (by simp))
            refine LinE.cons (by simp only [List.getElem?_toArray, List.getElem?_cons_succ, List.getElem?_cons_zero]; rfl) (fun hnew hk K hK => ?_) ?_
            · rw [if_pos (wanted_none rfl)]; obtain ⟨ρ, hρ⟩ : ∃ ρ, a'.eval = ρ := ⟨_, rfl⟩; have qc : ∀ v, ρ (.const v) = v := (fun v => (by rw [← hρ]; rfl)); have qf : ∀ f, ρ (.func f) = .func (.func f) #[] #[] := (fun f => (by rw [← hρ]; rfl)); have q11 := eval_of r11; rw [hρ] at q11; refine abs_op ρ hρ ?_; clear hρ; go_simp
              exact hK.out _ _ _ rfl rfl hT (RB.refl _ _ _) (crE_keep hE (Below.refl _ _) (by decide) (by decide) (by simp))
            refine LinE.cons (by simp only [List.getElem?_toArray, List.getElem?_cons_succ, List.getElem?_cons_zero]; rfl) (fun hnew hk K hK => ?_) ?_
            · (obtain ⟨v, r48, hf⟩ := Known.get (hk 1 (by kernel_rfl) (by simp)) (d := 48) (by kernel_rfl); simp only [crF] at hf; (try subst hf)); (obtain ⟨v, r49, hf⟩ := Known.get (hk 2 (by kernel_rfl) (by simp)) (d := 49) (by kernel_rfl); simp only [crF] at hf; (try subst hf))
              rw [if_pos (wanted_none rfl)]; obtain ⟨ρ, hρ⟩ : ∃ ρ, a'.eval = ρ := ⟨_, rfl⟩; have qc : ∀ v, ρ (.const v) = v := (fun v => (by rw [← hρ]; rfl)); have qf : ∀ f, ρ (.func f) = .func (.func f) #[] #[] := (fun f => (by rw [← hρ]; rfl)); have q48 := eval_of r48; rw [hρ] at q48; have q49 := eval_of r49; rw [hρ] at q49; refine abs_op ρ hρ ?_; clear hρ; go_simp
              exact hK.out _ _ _ rfl rfl hT (RB.refl _ _ _) (crE_keep hE (Below.refl _ _) (by decide) (by decide) (by simp))
            refine LinE.cons (by simp only [List.getElem?_toArray, List.getElem?_cons_succ, List.getElem?_cons_zero]; rfl) (fun hnew hk K hK => ?_) ?_
            · (obtain ⟨v, r50, hf⟩ := Known.get (hk 3 (by kernel_rfl) (by simp)) (d := 50) (by kernel_rfl); simp only [crF] at hf; (try subst hf))
              rw [if_pos (wanted_none rfl)]; obtain ⟨ρ, hρ⟩ : ∃ ρ, a'.eval = ρ := ⟨_, rfl⟩; have qc : ∀ v, ρ (.const v) = v := (fun v => (by rw [← hρ]; rfl)); have qf : ∀ f, ρ (.func f) = .func (.func f) #[] #[] := (fun f => (by rw [← hρ]; rfl)); have q50 := eval_of r50; rw [hρ] at q50; refine abs_op ρ hρ ?_; clear hρ; go_simp
              exact hK.out _ _ _ rfl rfl hT (RB.refl _ _ _) (crE_keep hE (Below.refl _ _) (by decide) (by decide) (by simp))
            refine LinE.cons (by simp only [List.getElem?_toArray, List.getElem?_cons_succ, List.getElem?_cons_zero]; rfl) (fun hnew hk K hK => ?_) ?_
            · rw [if_pos (wanted_none rfl)]; obtain ⟨ρ, hρ⟩ : ∃ ρ, a'.eval = ρ := ⟨_, rfl⟩; have qc : ∀ v, ρ (.const v) = v := (fun v => (by rw [← hρ]; rfl)); have qf : ∀ f, ρ (.func f) = .func (.func f) #[] #[] := (fun f => (by rw [← hρ]; rfl)); have q11 := eval_of r11; rw [hρ] at q11; refine abs_op ρ hρ ?_; clear hρ; go_simp
              exact hK.out _ _ _ rfl rfl hT (RB.refl _ _ _) (crE_keep hE (Below.refl _ _) (by decide) (by decide) (by simp))
            refine LinE.cons (by simp only [List.getElem?_toArray, List.getElem?_cons_succ, List.getElem?_cons_zero]; rfl) (fun hnew hk K hK => ?_) ?_
            · rw [if_pos (wanted_none rfl)]; obtain ⟨ρ, hρ⟩ : ∃ ρ, a'.eval = ρ := ⟨_, rfl⟩; have qc : ∀ v, ρ (.const v) = v := (fun v => (by rw [← hρ]; rfl)); have qf : ∀ f, ρ (.func f) = .func (.func f) #[] #[] := (fun f => (by rw [← hρ]; rfl)); have q13 := eval_of r13; rw [hρ] at q13; refine abs_op ρ hρ ?_; clear hρ; go_simp
              exact hK.out _ _ _ rfl rfl hT (RB.refl _ _ _) (crE_keep hE (Below.refl _ _) (by decide) (by decide) (by simp))
            refine LinE.cons (by simp only [List.getElem?_toArray, List.getElem?_cons_succ, List.getElem?_cons_zero]; rfl) (fun hnew hk K hK => ?_) ?_
            · (obtain ⟨v, r52, hf⟩ := Known.get (hk 5 (by kernel_rfl) (by simp)) (d := 52) (by kernel_rfl); simp only [crF] at hf; (try subst hf)); (obtain ⟨v, r53, hf⟩ := Known.get (hk 6 (by kernel_rfl) (by simp)) (d := 53) (by kernel_rfl); simp only [crF] at hf; (try subst hf))
              have r7 : IntKind.i64.wrap ((m2 : Int) - b) = (m2 : Int) - b := IntWalk.i64_in _ (by omega)
              rw [if_pos (wanted_none rfl)]; obtain ⟨ρ, hρ⟩ : ∃ ρ, a'.eval = ρ := ⟨_, rfl⟩; have qc : ∀ v, ρ (.const v) = v := (fun v => (by rw [← hρ]; rfl)); have qf : ∀ f, ρ (.func f) = .func (.func f) #[] #[] := (fun f => (by rw [← hρ]; rfl)); have q52 := eval_of r52; rw [hρ] at q52; have q53 := eval_of r53; rw [hρ] at q53; refine abs_op ρ hρ ?_; clear hρ; go_simp
              exact hK.out _ _ _ rfl (by first | rfl | (simp only [crF]; done) | (simp only [crF]; first | rw [r7])) hT (RB.refl _ _ _) (crE_keep hE (Below.refl _ _) (by decide) (by decide) (by simp))
            refine LinE.cons (by simp only [List.getElem?_toArray, List.getElem?_cons_succ, List.getElem?_cons_zero]; rfl) (fun hnew hk K hK => ?_) ?_
            · (obtain ⟨v, r54, hf⟩ := Known.get (hk 7 (by kernel_rfl) (by simp)) (d := 54) (by kernel_rfl); simp only [crF] at hf; (try subst hf))
              rw [if_pos (wanted_none rfl)]; obtain ⟨ρ, hρ⟩ : ∃ ρ, a'.eval = ρ := ⟨_, rfl⟩; have qc : ∀ v, ρ (.const v) = v := (fun v => (by rw [← hρ]; rfl)); have qf : ∀ f, ρ (.func f) = .func (.func f) #[] #[] := (fun f => (by rw [← hρ]; rfl)); have q54 := eval_of r54; rw [hρ] at q54; refine abs_op ρ hρ ?_; clear hρ; go_simp
              exact hK.out _ _ _ rfl (by first | rfl | (simp only [crF]; done) | (simp only [crF]; first | (congr 1; done) | (congr 1; first | (split <;> omega) | omega))) hT (RB.refl _ _ _) (crE_keep hE (Below.refl _ _) (by decide) (by decide) (by simp))
            refine LinE.cons (by simp only [List.getElem?_toArray, List.getElem?_cons_succ, List.getElem?_cons_zero]; rfl) (fun hnew hk K hK => ?_) ?_
            · rw [if_pos (wanted_none rfl)]; obtain ⟨ρ, hρ⟩ : ∃ ρ, a'.eval = ρ := ⟨_, rfl⟩; have qc : ∀ v, ρ (.const v) = v := (fun v => (by rw [← hρ]; rfl)); have qf : ∀ f, ρ (.func f) = .func (.func f) #[] #[] := (fun f => (by rw [← hρ]; rfl)); have q11 := eval_of r11; rw [hρ] at q11; refine abs_op ρ hρ ?_; clear hρ; go_simp
              exact hK.out _ _ _ rfl rfl hT (RB.refl _ _ _) (crE_keep hE (Below.refl _ _) (by decide) (by decide) (by simp))
            refine LinE.cons (by simp only [List.getElem?_toArray, List.getElem?_cons_succ, List.getElem?_cons_zero]; rfl) (fun hnew hk K hK => ?_) ?_
            · rw [if_pos (wanted_none rfl)]; obtain ⟨ρ, hρ⟩ : ∃ ρ, a'.eval = ρ := ⟨_, rfl⟩; have qc : ∀ v, ρ (.const v) = v := (fun v => (by rw [← hρ]; rfl)); have qf : ∀ f, ρ (.func f) = .func (.func f) #[] #[] := (fun f => (by rw [← hρ]; rfl)); have q13 := eval_of r13; rw [hρ] at q13; refine abs_op ρ hρ ?_; clear hρ; go_simp
              exact hK.out _ _ _ rfl rfl hT (RB.refl _ _ _) (crE_keep hE (Below.refl _ _) (by decide) (by decide) (by simp))
            refine LinE.cons (by simp only [List.getElem?_toArray, List.getElem?_cons_succ, List.getElem?_cons_zero]; rfl) (fun hnew hk K hK => ?_) ?_
            · (obtain ⟨v, r57, hf⟩ := Known.get (hk 10 (by kernel_rfl) (by simp)) (d := 57) (by kernel_rfl); simp only [crF] at hf; (try subst hf))
              have r11 : IntKind.i64.wrap ((b : Int).tdiv 2) = (b : Int) / 2 := by rw [tdiv_two (by omega)]; exact IntWalk.i64_in _ (by omega)
              have r11b : IntKind.i64.wrap ((b : Int) / 2) = (b : Int) / 2 := IntWalk.i64_in _ (by omega)
              have q11 : (b : Int).tdiv 2 = (b : Int) / 2 := tdiv_two (by omega)
              rw [if_pos (wanted_none rfl)]; obtain ⟨ρ, hρ⟩ : ∃ ρ, a'.eval = ρ := ⟨_, rfl⟩; have qc : ∀ v, ρ (.const v) = v := (fun v => (by rw [← hρ]; rfl)); have qf : ∀ f, ρ (.func f) = .func (.func f) #[] #[] := (fun f => (by rw [← hρ]; rfl)); have q57 := eval_of r57; rw [hρ] at q57; refine abs_op ρ hρ ?_; clear hρ; go_simp
              exact hK.out _ _ _ rfl (by first | rfl | (simp only [crF]; done) | (simp only [crF]; first | rw [r11] | rw [q11] | rw [r11b])) hT (RB.refl _ _ _) (crE_keep hE (Below.refl _ _) (by decide) (by decide) (by simp))
            refine LinE.cons (by simp only [List.getElem?_toArray, List.getElem?_cons_succ, List.getElem?_cons_zero]; rfl) (fun hnew hk K hK => ?_) ?_
            · (obtain ⟨v, r56, hf⟩ := Known.get (hk 9 (by kernel_rfl) (by simp)) (d := 56) (by kernel_rfl); simp only [crF] at hf; (try subst hf)); (obtain ⟨v, r58, hf⟩ := Known.get (hk 11 (by kernel_rfl) (by simp)) (d := 58) (by kernel_rfl); simp only [crF] at hf; (try subst hf))
              have r12 : IntKind.i64.wrap ((m2 : Int) + (b : Int) / 2) = (m2 : Int) + (b : Int) / 2 := IntWalk.i64_in _ (by omega)
              rw [if_pos (wanted_none rfl)]; obtain ⟨ρ, hρ⟩ : ∃ ρ, a'.eval = ρ := ⟨_, rfl⟩; have qc : ∀ v, ρ (.const v) = v := (fun v => (by rw [← hρ]; rfl)); have qf : ∀ f, ρ (.func f) = .func (.func f) #[] #[] := (fun f => (by rw [← hρ]; rfl)); have q56 := eval_of r56; rw [hρ] at q56; have q58 := eval_of r58; rw [hρ] at q58; refine abs_op ρ hρ ?_; clear hρ; go_simp
              exact hK.out _ _ _ rfl (by first | rfl | (simp only [crF]; done) | (simp only [crF]; first | rw [r12])) hT (RB.refl _ _ _) (crE_keep hE (Below.refl _ _) (by decide) (by decide) (by simp))
            refine LinE.cons (by simp only [List.getElem?_toArray, List.getElem?_cons_succ, List.getElem?_cons_zero]; rfl) (fun hnew hk K hK => ?_) ?_
            · (obtain ⟨v, r59, hf⟩ := Known.get (hk 12 (by kernel_rfl) (by simp)) (d := 59) (by kernel_rfl); simp only [crF] at hf; (try subst hf))
              rw [if_pos (wanted_none rfl)]; obtain ⟨ρ, hρ⟩ : ∃ ρ, a'.eval = ρ := ⟨_, rfl⟩; have qc : ∀ v, ρ (.const v) = v := (fun v => (by rw [← hρ]; rfl)); have qf : ∀ f, ρ (.func f) = .func (.func f) #[] #[] := (fun f => (by rw [← hρ]; rfl)); have q59 := eval_of r59; rw [hρ] at q59; refine abs_op ρ hρ ?_; clear hρ; go_simp
              exact hK.out _ _ _ rfl (by first | rfl | (simp only [crF]; done) | (simp only [crF]; first | (congr 1; done) | (congr 1; first | (split <;> omega) | omega))) hT (RB.refl _ _ _) (crE_keep hE (Below.refl _ _) (by decide) (by decide) (by simp))
            refine LinE.cons (by simp only [List.getElem?_toArray, List.getElem?_cons_succ, List.getElem?_cons_zero]; rfl) (fun hnew hk K hK => ?_) ?_
            · (obtain ⟨v, r55, hf⟩ := Known.get (hk 8 (by kernel_rfl) (by simp)) (d := 55) (by kernel_rfl); simp only [crF] at hf; (try subst hf)); (obtain ⟨v, r60, hf⟩ := Known.get (hk 13 (by kernel_rfl) (by simp)) (d := 60) (by kernel_rfl); simp only [crF] at hf; (try subst hf))
              rw [if_pos (wanted_none rfl)]; obtain ⟨ρ, hρ⟩ : ∃ ρ, a'.eval = ρ := ⟨_, rfl⟩; have qc : ∀ v, ρ (.const v) = v := (fun v => (by rw [← hρ]; rfl)); have qf : ∀ f, ρ (.func f) = .func (.func f) #[] #[] := (fun f => (by rw [← hρ]; rfl)); have q55 := eval_of r55; rw [hρ] at q55; have q60 := eval_of r60; rw [hρ] at q60; refine abs_op ρ hρ ?_; clear hρ; go_simp
              go_at_call 41; refine (to_any _ _ _).mono ?_
              rintro e w1 ⟨rfl, h1⟩
              exact hK.out _ _ _ rfl rfl (hT.trans (RB.of_below h1)) (RB.of_below h1) (crE_keep hE h1 (by decide) (by decide) (by simp))
            refine LinE.cons (by simp only [List.getElem?_toArray, List.getElem?_cons_succ, List.getElem?_cons_zero]; rfl) (fun hnew hk K hK => ?_) ?_
            · (obtain ⟨v, r51, hf⟩ := Known.get (hk 4 (by kernel_rfl) (by simp)) (d := 51) (by kernel_rfl); simp only [crF] at hf; (try subst hf)); (obtain ⟨v, r61, hf⟩ := Known.get (hk 14 (by kernel_rfl) (by simp)) (d := 61) (by kernel_rfl); simp only [crF] at hf; (try subst hf))
              rw [if_pos (wanted_none rfl)]; obtain ⟨ρ, hρ⟩ : ∃ ρ, a'.eval = ρ := ⟨_, rfl⟩; have qc : ∀ v, ρ (.const v) = v := (fun v => (by rw [← hρ]; rfl)); have qf : ∀ f, ρ (.func f) = .func (.func f) #[] #[] := (fun f => (by rw [← hρ]; rfl)); have q51 := eval_of r51; rw [hρ] at q51; have q61 := eval_of r61; rw [hρ] at q61; refine abs_op ρ hρ ?_; clear hρ; go_simp
              exact hK.out _ _ _ rfl rfl hT (RB.refl _ _ _) (crE_keep hE (Below.refl _ _) (by decide) (by decide) (by simp))
            refine LinE.cons (by simp only [List.getElem?_toArray, List.getElem?_cons_succ, List.getElem?_cons_zero]; rfl) (fun hnew hk K hK => ?_) ?_
            · (obtain ⟨v, r62, hf⟩ := Known.get (hk 15 (by kernel_rfl) (by simp)) (d := 62) (by kernel_rfl); simp only [crF] at hf; (try subst hf))
              rw [if_pos (wanted_none rfl)]; obtain ⟨ρ, hρ⟩ : ∃ ρ, a'.eval = ρ := ⟨_, rfl⟩; have qc : ∀ v, ρ (.const v) = v := (fun v => (by rw [← hρ]; rfl)); have qf : ∀ f, ρ (.func f) = .func (.func f) #[] #[] := (fun f => (by rw [← hρ]; rfl)); have q62 := eval_of r62; rw [hρ] at q62; refine abs_op ρ hρ ?_; clear hρ; go_simp
              exact hK.out _ _ _ rfl ⟨w'.heap.size, rfl, hT.size, by simp, fun j u hu => cells_new w' _ _ j u (by rw [HXC.out] at hu; exact hu)⟩ (hT.trans (RB.of_below ((Below.refl _ _).alloc (Nat.le_refl _) _))) (RB.of_below ((Below.refl _ _).alloc (Nat.le_refl _) _)) (crE_keep hE ((Below.refl _ _).alloc (Nat.le_refl _) _) (by decide) (by decide) (by simp))
            refine LinE.cons (by simp only [List.getElem?_toArray, List.getElem?_cons_succ, List.getElem?_cons_zero]; rfl) (fun hnew hk K hK => ?_) ?_
            · (obtain ⟨v, r63, hf⟩ := Known.get (hk 16 (by kernel_rfl) (by simp)) (d := 63) (by kernel_rfl); simp only [crF] at hf; (try subst hf))
              (obtain ⟨v, r47, hfr⟩ := Known.get (hk 0 (by kernel_rfl) (by simp)) (d := 47) (by kernel_rfl); simp only [crF] at hfr; rw [hfr] at r47; clear hfr)
              obtain ⟨G, rfl, hG0, hG1, hGc⟩ := hf
              rw [if_pos (wanted_none rfl)]
              refine wp_appN (.tmp 47) (.tmp 63) 39 rfl w2.heap.size 67 _ 3 24 Try.underlying39 info_lineW rfl (by omega) u9 k (lines D) (eval_of r47) (hE.1 (by rw [getD_lt (by rw [hL]; decide) false true]; exact hnew)) w'.heap.size (some ⟨G, 0, none⟩) 1 1 x.cells (eval_of r63) (fun _ => ⟨G, 0, rfl, hG1, fun j u hu => by rw [Nat.zero_add]; exact hGc j u hu⟩) (by rfl) (by simp [Ln.cells, Value.oneCell']) (by unfold maxLen; omega) (by omega) (Nat.le_trans hBs hT.size) ?_
              intro A3 cap3 w3 hc3 hc3' hown3 hg3 hk3
              exact hK.out _ _ _ rfl trivial (hT.trans (RB.left hg3)) (RB.left hg3) (crE_17 hE (by rw [hL]; decide) (by rw [hsz]; decide) hnew hown3 hg3)
            refine LinE.cons (by simp only [List.getElem?_toArray, List.getElem?_cons_succ, List.getElem?_cons_zero]; rfl) (fun hnew hk K hK => ?_) ?_
            · rw [if_pos (wanted_none rfl)]; obtain ⟨ρ, hρ⟩ : ∃ ρ, a'.eval = ρ := ⟨_, rfl⟩; have qc : ∀ v, ρ (.const v) = v := (fun v => (by rw [← hρ]; rfl)); have qf : ∀ f, ρ (.func f) = .func (.func f) #[] #[] := (fun f => (by rw [← hρ]; rfl)); have q10 := eval_of r10; rw [hρ] at q10; refine abs_op ρ hρ ?_; clear hρ; go_simp
              exact hK.out _ _ _ rfl rfl hT (RB.refl _ _ _) (crE_keep hE (Below.refl _ _) (by decide) (by decide) (by simp))
            refine LinE.cons (by simp only [List.getElem?_toArray, List.getElem?_cons_succ, List.getElem?_cons_zero]; rfl) (fun hnew hk K hK => ?_) ?_
            · rw [if_pos (wanted_none rfl)]; obtain ⟨ρ, hρ⟩ : ∃ ρ, a'.eval = ρ := ⟨_, rfl⟩; have qc : ∀ v, ρ (.const v) = v := (fun v => (by rw [← hρ]; rfl)); have qf : ∀ f, ρ (.func f) = .func (.func f) #[] #[] := (fun f => (by rw [← hρ]; rfl)); have q11 := eval_of r11; rw [hρ] at q11; refine abs_op ρ hρ ?_; clear hρ; go_simp
              exact hK.out _ _ _ rfl rfl hT (RB.refl _ _ _) (crE_keep hE (Below.refl _ _) (by decide) (by decide) (by simp))
            refine LinE.cons (by simp only [List.getElem?_toArray, List.getElem?_cons_succ, List.getElem?_cons_zero]; rfl) (fun hnew hk K hK => ?_) ?_
            · (obtain ⟨v, r66, hf⟩ := Known.get (hk 19 (by kernel_rfl) (by simp)) (d := 66) (by kernel_rfl); simp only [crF] at hf; (try subst hf))
              rw [if_pos (wanted_none rfl)]; obtain ⟨ρ, hρ⟩ : ∃ ρ, a'.eval = ρ := ⟨_, rfl⟩; have qc : ∀ v, ρ (.const v) = v := (fun v => (by rw [← hρ]; rfl)); have qf : ∀ f, ρ (.func f) = .func (.func f) #[] #[] := (fun f => (by rw [← hρ]; rfl)); have q66 := eval_of r66; rw [hρ] at q66; refine abs_op ρ hρ ?_; clear hρ; go_simp
              exact hK.out _ _ _ rfl ⟨w'.heap.size, rfl, hT.size, by simp, by simp [go_sem]⟩ (hT.trans (RB.of_below ((Below.refl _ _).alloc (Nat.le_refl _) _))) (RB.of_below ((Below.refl _ _).alloc (Nat.le_refl _) _)) (crE_keep hE ((Below.refl _ _).alloc (Nat.le_refl _) _) (by decide) (by decide) (by simp))
            refine LinE.cons (by simp only [List.getElem?_toArray, List.getElem?_cons_succ, List.getElem?_cons_zero]; rfl) (fun hnew hk K hK => ?_) ?_
            · (obtain ⟨v, r67, hf⟩ := Known.get (hk 20 (by kernel_rfl) (by simp)) (d := 67) (by kernel_rfl); simp only [crF] at hf; (try subst hf))
              (obtain ⟨v, r65, hfr⟩ := Known.get (hk 18 (by kernel_rfl) (by simp)) (d := 65) (by kernel_rfl); simp only [crF] at hfr; rw [hfr] at r65; clear hfr)
              obtain ⟨G, rfl, hG0, hG1, hGc⟩ := hf
              rw [if_pos (wanted_none rfl)]
              refine wp_appN (.tmp 65) (.tmp 67) 47 rfl w2.heap.size 3 _ 1 8 Try.underlying47 info_int rfl (by omega) u10 k (ints M) (eval_of r65) (hE.2.2.1 (by rw [getD_lt (by rw [hL]; decide) false true]; exact hnew)) w'.heap.size (some ⟨G, 0, none⟩) 1 1 [.int .i64 (m2 : Int)] (eval_of r67) (arr_one' hG1 hGc) (by rfl) (by simp [Value.oneCell']) (by unfold maxLen; omega) (by omega) (Nat.le_trans hBs hT.size) ?_
              intro A3 cap3 w3 hc3 hc3' hown3 hg3 hk3
              exact hK.out _ _ _ rfl trivial (hT.trans (RB.right hg3)) (RB.right hg3) (crE_21 hE (by rw [hL]; decide) (by rw [hsz]; decide) hnew hown3 hg3)
            exact LinE.nil
          · intro a' w' hd hsz hkn hT hE hall
            obtain ⟨G1, c1, g1, o1⟩ := hE.2.1 (by rfl)
            obtain ⟨G2, c2, g2, o2⟩ := hE.2.2.2 (by rfl)
            clear hall hE
            obtain ⟨xs, D⟩ := a'; obtain ⟨l0⟩ := xs; dsimp only at hd hsz hkn; subst hd; have hs0 := hsz; clear hsz; simp only [List.size_toArray] at hs0; obtain ⟨x0, x1, x2, x3, x4, x5, x6, x7, x8, x9, l1, rfl, hs1⟩ := len_ten hs0; clear hs0; obtain ⟨x10, x11, x12, x13, x14, x15, x16, x17, x18, x19, l2, rfl, hs2⟩ := len_ten hs1; clear hs1; obtain ⟨x20, x21, x22, x23, x24, x25, x26, x27, x28, x29, l3, rfl, hs3⟩ := len_ten hs2; clear hs2; obtain ⟨x30, x31, x32, x33, x34, x35, x36, x37, x38, x39, l4, rfl, hs4⟩ := len_ten hs3; clear hs3; obtain ⟨x40, x41, x42, x43, x44, x45, x46, x47, x48, x49, l5, rfl, hs5⟩ := len_ten hs4; clear hs4; obtain ⟨x50, x51, x52, x53, x54, x55, x56, x57, x58, x59, l6, rfl, hs6⟩ := len_ten hs5; clear hs5; obtain ⟨x60, x61, x62, x63, x64, x65, x66, x67, x68, x69, l7, rfl, hs7⟩ := len_ten hs6; clear hs6; obtain ⟨x70, l8, rfl, hs8⟩ := len_succ hs7; clear hs7; obtain rfl := List.length_eq_zero_iff.1 hs8; clear hs8; have kn := known_list hkn; clear hkn; simp only [List.map_cons, List.map_nil, List.getElem?_toArray, List.getElem?_cons_succ, List.getElem?_cons_zero, Array.getD_eq_getD_getElem?, Option.getD_some, List.cons.injEq, Option.some.injEq, and_true] at kn; obtain ⟨rfl, rfl, rfl, rfl, rfl, rfl, rfl, rfl, rfl, rfl, rfl, rfl, rfl, rfl, rfl, rfl, rfl, rfl, rfl, rfl, rfl, rfl, rfl, rfl, rfl, rfl, rfl, rfl, rfl, rfl, rfl, rfl, rfl, rfl, rfl, rfl, rfl, rfl, rfl, rfl, rfl, rfl, rfl, rfl, rfl, rfl, rfl, rfl, rfl⟩ := kn
            simp only [List.getElem?_toArray, List.getElem?_cons_succ, List.getElem?_cons_zero, Option.some.injEq] at g1 g2
            subst g1 g2
            have hBn : Below w2.heap.size w2 w' := hBW.trans (hT.below hBs HUB.out.1 HUB.out.2)
            have HO1 := hid o1
            have HO2 := hid o2
            clear o1 o2
            refine wpAny_ready (rs := [22]) (by kernel_rfl) (by simp) ?_; refine AllReady.cons (by simp only [List.getElem?_toArray, List.getElem?_cons_succ, List.getElem?_cons_zero]; rfl) (fun K hK => ?_) AllReady.nil
            go_simp
            refine hK _ _ ?_
            (try simp only [Act.put, List.setIfInBounds_toArray, List.set_cons_zero, List.set_cons_succ])
            clear hK K
            refine wpAny_ready (rs := [23]) (by kernel_rfl) (by simp) ?_; refine AllReady.cons (by simp only [List.getElem?_toArray, List.getElem?_cons_succ, List.getElem?_cons_zero]; rfl) (fun K hK => ?_) AllReady.nil
            go_simp
            refine hK _ _ ?_
            (try simp only [Act.put, List.setIfInBounds_toArray, List.set_cons_zero, List.set_cons_succ])
            clear hK K
            refine wpAny_done (by kernel_rfl) ?_ _
            go_wp2_with fail
            have hfx : lineOf face (m2 : Int) s = x := by
              rw [HX.out]
              unfold lineOf
              rw [HB.out, Hface.out]
              simp only [Int.toNat_natCast, List.getD_eq_getElem?_getD, List.getElem?_eq_getElem hmf, Option.getD_some]
            refine ⟨⟨k + 1, D ++ [x], M ++ [(m2 : Int)], m2, hls, hl6, by go_num, rfl, hm2l, by simp [HD.out], by simp [HM.out], ?_, ?_, hid ?_, hid ?_, hBn⟩, by simp [intOf]; omega⟩
            · have e : lines (D ++ [x]) = lines D ++ x.cells := by simp [lines]
              rw [e]; exact HO1.out
            · have e : ints (M ++ [(m2 : Int)]) = ints M ++ [.int .i64 (m2 : Int)] := by simp [ints]
              rw [e]; exact HO2.out
            · have h := HKD.out
              rw [HDR.out] at h
              simp only [linesL] at h
              rw [HM2.out, hfx] at h
              rw [← h]; simp
            · have h := HKM.out
              rw [HDR.out] at h
              simp only [minsL] at h
              rw [HM2.out] at h
              rw [← h]; simp
    · have he : (steps.take 6).drop k = [] := List.drop_of_length_le (by rw [List.length_take]; omega)
      have HFD : Hid (D = linesL face 0 (steps.take 6)) := hid (by have h := HKD.out; rw [he] at h; simpa [linesL] using h)
      have HFM : Hid (M = minsL 0 (steps.take 6)) := hid (by have h := HKM.out; rw [he] at h; simpa [minsL] using h)
      clear he HKD HKM
      obtain ⟨B, bc, rfl, _, _, hBA⟩ := own_form ownD
      obtain ⟨T, tc, rfl, _, _, hTA⟩ := own_form ownM
      have hz2 : w.heap.size ≤ w2.heap.size := hB2.size
      clear ownD ownM
      by_cases hls : k < steps.length
      all_goals
        first
          | (have hk6J : ¬ (k : Int) < 6 := by omega)
          | (have hk6J : (0 : Int) ≤ k := by omega)
        go_wp2_with fail
        refine bodyPost_ret (v := .tuple #[.slice B k bc, .slice T k tc]) (by simp [results, Try.results45, go_sem]) rfl ?_
        rw [← HFD.out, ← HFM.out]
        exact ⟨B, bc, T, tc, by rw [HD.out, HM.out], hBA, hTA, hB2.trans (hBr.mono hz2)⟩
end Go.Proofs.Ytmddbnjbliponaa
