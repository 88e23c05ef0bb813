/- ClockWritten: the walk. -/
import Derived.Test.YtmddbnjbliponaaE10
import Derived.Test.YtmddbnjbliponaaE11
import Derived.Test.YtmddbnjbliponaaW5
import Derived.Test.YtmddbnjbliponaaW9
import Derived.Test.YtmddbnjbliponaaZ2
namespace Go.Proofs.Ytmddbnjbliponaa
set_option linter.unusedSimpArgs false
set_option linter.unusedVariables false
open Go.RowKit Go.Shelf
attribute [local go_sem high] cell_set_wr
attribute [local go_sem low] cell_wr frozen_wr
attribute [local go_sem] wr_set wr_drew wr_drewN wr_alloc wr_new

/-- what the steps of the test in ClockWritten's loop leave -/
def woF (p q : Nat) (tv : Int) (x y : Sp) (SB ST SO AT AO AO1 OV AB AK KV AQ AQ1 : Value) (b1 : Bool) : Nat → Value → World → Prop
  | 0, v, _ => v = ST
  | 1, v, _ => v = .int .i64 p
  | 2, v, _ => v = AT
  | 3, v, _ => v = .int .i64 tv
  | 4, v, _ => v = SO
  | 5, v, _ => v = .int .i64 p
  | 6, v, _ => v = AO
  | 7, v, _ => v = OV
  | 8, v, _ => v = .bool true
  | 9, v, _ => v = .bool false
  | 10, v, _ => v = .bool false
  | 11, v, _ => v = SO
  | 12, v, _ => v = .int .i64 p
  | 13, v, _ => v = AO
  | 14, v, _ => v = OV
  | 15, v, _ => v = SB
  | 16, v, _ => v = .int .i64 p
  | 17, v, _ => v = AB
  | 18, v, _ => v = AK
  | 19, v, _ => v = KV
  | 20, v, _ => v = .bool true
  | 21, v, _ => v = .bool false
  | 22, v, _ => v = .bool false
  | 23, v, _ => v = .bool false
  | 24, v, _ => v = .int .i64 p
  | 25, v, _ => v = .bool b1
  | 26, v, _ => v = .bool b1
  | 27, v, _ => v = if b1 then SO else undef
  | 28, v, _ => v = if b1 then .int .i64 p else undef
  | 29, v, _ => v = if b1 then AO else undef
  | 30, v, _ => v = if b1 then AO else undef
  | 31, v, _ => v = if b1 then .int .i64 x.lo else undef
  | 32, v, _ => v = if b1 then SO else undef
  | 33, v, _ => v = if b1 then .int .i64 p else undef
  | 34, v, _ => v = if b1 then .int .i64 q else undef
  | 35, v, _ => v = if b1 then AQ else undef
  | 36, v, _ => v = if b1 then AQ else undef
  | 37, v, _ => v = if b1 then .int .i64 y.lo else undef
  | 38, v, _ => v = if b1 then .bool false else undef
  | 39, v, _ => v = if b1 then .bool false else undef
  | 40, v, _ => v = if b1 then SO else undef
  | 41, v, _ => v = if b1 then .int .i64 p else undef
  | 42, v, _ => v = if b1 then AO else undef
  | 43, v, _ => v = if b1 then AO1 else undef
  | 44, v, _ => v = if b1 then .int .i64 x.hi else undef
  | 45, v, _ => v = if b1 then SO else undef
  | 46, v, _ => v = if b1 then .int .i64 p else undef
  | 47, v, _ => v = if b1 then .int .i64 q else undef
  | 48, v, _ => v = if b1 then AQ else undef
  | 49, v, _ => v = if b1 then AQ1 else undef
  | 50, v, _ => v = if b1 then .int .i64 y.hi else undef
  | 51, v, _ => v = if b1 then .bool false else undef
  | 52, v, _ => v = if b1 then .bool false else undef
  | 53, v, _ => v = .bool false
  | _, _, _ => True
theorem woF_stable (p q : Nat) (tv : Int) (x y : Sp) (SB ST SO AT AO AO1 OV AB AK KV AQ AQ1 : Value) (b1 : Bool) : ∀ j v w w', Below w.heap.size w w' → woF p q tv x y SB ST SO AT AO AO1 OV AB AK KV AQ AQ1 b1 j v w → woF p q tv x y SB ST SO AT AO AO1 OV AB AK KV AQ AQ1 b1 j v w' := by
  intro j v w w' _ h
  unfold woF at *
  split at h
  all_goals exact h

/-- how long the first frosts were -/
def stoodL (tr : List When) : Int := (tr.map fun t => t.hi - t.lo).foldl (· + ·) 0
theorem stoodL_snoc (tr : List When) (k : Nat) (h : k < tr.length) : stoodL (tr.take (k + 1)) = stoodL (tr.take k) + (tr[k].hi - tr[k].lo) := by
  unfold stoodL
  rw [List.take_succ_eq_append_getElem h, List.map_append, List.foldl_append]
  rfl
theorem truly_bd {fs : List Fr} (hf : ∀ f ∈ fs, 0 ≤ f.b.lo ∧ f.b.hi ≤ f.e.lo ∧ f.e.hi ≤ 4319) : ∀ {fs' : List Fr} {tr : List When}, (∀ f ∈ fs', f ∈ fs) → InT fs' tr → ∀ t ∈ tr, 0 ≤ t.lo ∧ t.lo ≤ t.hi ∧ t.hi ≤ 4319
  | [], [], _, _, t, ht => by cases ht
  | [], _ :: _, _, h, _, _ => h.elim
  | _ :: _, [], _, h, _, _ => h.elim
  | f :: fs', u :: tr, hm, h, t, ht => by
    rcases List.mem_cons.1 ht with rfl | ht
    · have := hf f (hm f (List.mem_cons_self ..))
      have := h.1
      omega
    · exact truly_bd hf (fun g hg => hm g (List.mem_cons_of_mem _ hg)) h.2 t ht

set_option maxRecDepth 100000 in
set_option maxHeartbeats 4000000 in
theorem written_yes (set : Int) (A Bi S : Option Addr) (cap bcap scap : Nat) (fs : List Fr) (bits steps : List Int) (w : World) (hA : Arr w w.heap.size A (frosts fs)) (hBi : Arr w w.heap.size Bi (ints bits)) (hS : Arr w w.heap.size S (ints steps)) (h1 : Ck.ok ⟨set, fs⟩ = true) (hn : bits.length ≤ 9223372036854775807) (hsn : steps.length ≤ 9223372036854775807) :
    Calls Try.prog 8 #[.agg #[.int .i64 set, .slice A fs.length cap], .slice Bi bits.length bcap, .slice S steps.length scap] w fun e w' => e = .returned (.bool true) ∧ Below w.heap.size w w' := by
  have HO := hid h1
  obtain ⟨hOk, hs1, hs2⟩ := okFs_of h1
  have hfl3 := hOk.1
  obtain ⟨face, hface⟩ : ∃ face : Int → Int, ∀ m, face m = (trueF set fs bits).getD m.toNat 0 := ⟨_, fun _ => rfl⟩
  obtain ⟨k1, P1, P4, k2, l, s, P2, P3, k3, k4, k5, k6, k7, k8⟩ := chosen_law h1 bits steps hface
  have hbd := truly_bd (fs := fs) (fun f hf => by have := hOk.2 f hf; omega) (fun _ h => h) (truly_inT fs bits hOk)
  rw [still_all hbd] at k7 k8
  have hst : stoodL ((trulyL fs bits).take fs.length) = ((trulyL fs bits).map fun t => t.hi - t.lo).foldl (· + ·) 0 := by
    rw [List.take_of_length_le (by rw [trulyL_length]; omega)]; rfl
  have HFin : Hid ((decide (s.lo ≤ stoodL ((trulyL fs bits).take fs.length)) && decide (stoodL ((trulyL fs bits).take fs.length) ≤ s.hi)) = true) := hid (by rw [hst, decide_eq_true k7, decide_eq_true k8]; rfl)
  have HBD := hid hbd
  clear k7 k8 hst hbd
  have Hface := hid hface
  clear hface h1
  obtain ⟨ls, hls⟩ : ∃ ls, linesL face 0 (steps.take 6) = ls := ⟨_, rfl⟩
  obtain ⟨ms, hms⟩ : ∃ ms, minsL 0 (steps.take 6) = ms := ⟨_, rfl⟩
  have HC : Hid (∀ W : World, Arr W W.heap.size A (frosts fs) → Arr W W.heap.size Bi (ints bits) → Arr W W.heap.size S (ints steps) → Calls Try.prog 45 #[.agg #[.int .i64 set, .slice A fs.length cap], .slice Bi bits.length bcap, .slice S steps.length scap] W fun e w' => ∃ B bc T tc, e = .returned (.tuple #[.slice B ls.length bc, .slice T ls.length tc]) ∧ Arr w' w'.heap.size B (lines ls) ∧ Arr w' w'.heap.size T (ints ms) ∧ Below W.heap.size W w') := hid fun W h2 h3 h4 =>
    (chosen_any set A Bi S cap bcap scap fs bits steps W h2 h3 h4 hOk ⟨hs1, hs2⟩ hn hsn face Hface).mono fun e w' ⟨B, bc, T, tc, q1, q2, q3, q4⟩ => ⟨B, bc, T, tc, by rw [q1, k2, hls], by rw [← hls]; exact q2, by rw [← hms]; exact q3, q4⟩
  rw [hls] at k1 P1 P4 P2 P3 k2 k3
  rw [hms] at k2
  have HK4 : Hid (∀ p (h1 : p < l.length) (h2 : p < ms.length), l[p].lo ≤ ms[p] ∧ ms[p] ≤ l[p].hi) := hid (by subst hms; exact k4)
  have HK5 : Hid (∀ p (h1 : p < l.length) (h2 : p < ls.length), ls[p].k.lo ≤ l[p].lo ∧ l[p].hi ≤ ls[p].k.hi) := hid (by subst hls; exact k5)
  have HK6 := hid k6
  clear k4 k5 k6 hls hms Hface hs1 hs2 hsn
  have R1 := fun B bc => hid (right_to (A := A) (L := B) (cap := cap) (lcap := bc) P1 (by omega))
  have T1 := fun B bc => hid (times_to (A := A) (L := B) (cap := cap) (lcap := bc) P2 k3 rfl (by omega))
  have S1 := fun B bc => hid (stopped_to (A := A) (L := B) (cap := cap) (lcap := bc) P3 (by omega))
  have W1 := fun B bc => hid (wrong_to (A := A) (L := B) (cap := cap) (lcap := bc) (n := 0) P4 rfl (by omega))
  have K3 := hid k3
  have K2 := hid k2
  have hll : (ls.length : Int) ≤ 6 := by omega
  clear P1 P2 P3 P4 k2 k3
  go_enter Try.func8, Try.ntmps8
  go_wp2_with (first
    | (go_at_call 35; refine (sound_any set A cap fs _ ?_).mono ?_; (focus (refine (hA.below ?_).more ?_; (repeat' (first | (with_reducible exact Below.refl _ _) | (with_reducible assumption) | (with_reducible refine Below.drew ?_) | (with_reducible refine below_drewN ?_ _) | (with_reducible refine Below.setCell ?_ ?_ _) | (with_reducible refine Below.alloc ?_ ?_ _) | go_size | (exact Below.size (by assumption)) | (refine Below.trans ?_ (Below.mono (by assumption) ?_)))))); rw [HO.out]; rintro e w1 ⟨rfl, hb1⟩; (first | replace hb1 := Below.un1 hb1 | replace hb1 := Below.un2 hb1 | skip); obtain ⟨hc1, hf1, hl1, hm1, hw1⟩ := bcell hb1; have hz1 := hb1.size; (try simp only [World.size_alloc, World.size_setCell] at hz1); have e1 : w.heap.size < w1.heap.size := (by omega))
    | (go_at_call 45; refine (HC.out _ ?_ ?_ ?_).mono ?_; (focus (refine (hA.below ?_).more ?_; (repeat' (first | (with_reducible exact Below.refl _ _) | (with_reducible assumption) | (with_reducible refine Below.drew ?_) | (with_reducible refine below_drewN ?_ _) | (with_reducible refine Below.setCell ?_ ?_ _) | (with_reducible refine Below.alloc ?_ ?_ _) | go_size | (exact Below.size (by assumption)) | (refine Below.trans ?_ (Below.mono (by assumption) ?_)))))); (focus (refine (hBi.below ?_).more ?_; (repeat' (first | (with_reducible exact Below.refl _ _) | (with_reducible assumption) | (with_reducible refine Below.drew ?_) | (with_reducible refine below_drewN ?_ _) | (with_reducible refine Below.setCell ?_ ?_ _) | (with_reducible refine Below.alloc ?_ ?_ _) | go_size | (exact Below.size (by assumption)) | (refine Below.trans ?_ (Below.mono (by assumption) ?_)))))); (focus (refine (hS.below ?_).more ?_; (repeat' (first | (with_reducible exact Below.refl _ _) | (with_reducible assumption) | (with_reducible refine Below.drew ?_) | (with_reducible refine below_drewN ?_ _) | (with_reducible refine Below.setCell ?_ ?_ _) | (with_reducible refine Below.alloc ?_ ?_ _) | go_size | (exact Below.size (by assumption)) | (refine Below.trans ?_ (Below.mono (by assumption) ?_)))))); rintro e w2 ⟨B, bc, T, tc, rfl, hBk, hTk, hb2⟩; (first | replace hb2 := Below.un1 hb2 | replace hb2 := Below.un2 hb2 | skip); obtain ⟨hc2, hf2, hl2, hm2, hw2⟩ := bcell hb2; have hz2 := hb2.size; (try simp only [World.size_alloc, World.size_setCell] at hz2); have e2 : w.heap.size < w2.heap.size := (by omega); have e2' : w.heap.size < w2.heap.size := (by omega); refine Halt.on ?_))
  have c0 : w2.cell? ⟨w.heap.size, 0, none⟩ = some (.int .i64 set) := by (first | (simp [go_sem, wr_set, wr_drew, wr_drewN, wr_alloc, wr_new]; done) | (simp [go_sem, wr_set, wr_drew, wr_drewN, wr_alloc, wr_new, *]; done) | (simp (disch := go_size) [go_sem, wr_set, wr_drew, wr_drewN, wr_alloc, wr_new, *]; done))
  have c1 : w2.cell? ⟨w.heap.size, 1, none⟩ = some (.slice A fs.length cap) := by (first | (simp [go_sem, wr_set, wr_drew, wr_drewN, wr_alloc, wr_new]; done) | (simp [go_sem, wr_set, wr_drew, wr_drewN, wr_alloc, wr_new, *]; done) | (simp (disch := go_size) [go_sem, wr_set, wr_drew, wr_drewN, wr_alloc, wr_new, *]; done))
  have hB2 : Below w.heap.size w w2 := by (repeat' (first | (with_reducible exact Below.refl _ _) | (with_reducible assumption) | (with_reducible refine Below.drew ?_) | (with_reducible refine below_drewN ?_ _) | (with_reducible refine Below.setCell ?_ ?_ _) | (with_reducible refine Below.alloc ?_ ?_ _) | go_size | (exact Below.size (by assumption)) | (refine Below.trans ?_ (Below.mono (by assumption) ?_))))
  have hA2 := (hA.below hB2).more hB2.size
  have hBi2 := (hBi.below hB2).more hB2.size
  have R1 := R1 B bc
  have T1 := T1 B bc
  have S1 := S1 B bc
  have W1 := W1 B bc
  clear hc1 hf1 hl1 hm1 hw1 hb1 hz1 e1 hc2 hf2 hl2 hm2 hw2 hb2 hz2 hA hBi hS HC
  refine Halt.off ?_
  go_wp2_with (first
    | (go_at_call 25; ((with_reducible refine (R1.out _ ?_ ?_).mono ?_); (focus (refine (hA2.below ?_).more ?_; (repeat' (first | (with_reducible exact Below.refl _ _) | (with_reducible assumption) | (with_reducible refine Below.drew ?_) | (with_reducible refine below_drewN ?_ _) | (with_reducible refine Below.setCell ?_ ?_ _) | (with_reducible refine Below.alloc ?_ ?_ _) | go_size | (exact Below.size (by assumption)) | (refine Below.trans ?_ (Below.mono (by assumption) ?_)))))); (focus (refine (hBk.below ?_).more ?_; (repeat' (first | (with_reducible exact Below.refl _ _) | (with_reducible assumption) | (with_reducible refine Below.drew ?_) | (with_reducible refine below_drewN ?_ _) | (with_reducible refine Below.setCell ?_ ?_ _) | (with_reducible refine Below.alloc ?_ ?_ _) | go_size | (exact Below.size (by assumption)) | (refine Below.trans ?_ (Below.mono (by assumption) ?_)))))); rintro e w3 ⟨rfl, hb3⟩; (first | replace hb3 := Below.un1 hb3 | replace hb3 := Below.un2 hb3 | skip); obtain ⟨hc3, hf3, hl3, hm3, hw3⟩ := bcell hb3; have hz3 := hb3.size; (try simp only [World.size_alloc, World.size_setCell] at hz3); have e3 : w.heap.size < w3.heap.size := (by omega)))
    | (go_at_call 27; ((with_reducible refine (T1.out _ ?_ ?_).mono ?_); (focus (refine (hA2.below ?_).more ?_; (repeat' (first | (with_reducible exact Below.refl _ _) | (with_reducible assumption) | (with_reducible refine Below.drew ?_) | (with_reducible refine below_drewN ?_ _) | (with_reducible refine Below.setCell ?_ ?_ _) | (with_reducible refine Below.alloc ?_ ?_ _) | go_size | (exact Below.size (by assumption)) | (refine Below.trans ?_ (Below.mono (by assumption) ?_)))))); (focus (refine (hBk.below ?_).more ?_; (repeat' (first | (with_reducible exact Below.refl _ _) | (with_reducible assumption) | (with_reducible refine Below.drew ?_) | (with_reducible refine below_drewN ?_ _) | (with_reducible refine Below.setCell ?_ ?_ _) | (with_reducible refine Below.alloc ?_ ?_ _) | go_size | (exact Below.size (by assumption)) | (refine Below.trans ?_ (Below.mono (by assumption) ?_)))))); rintro e w4 ⟨O4, oc4, rfl, hO4, hb4⟩; (first | replace hb4 := Below.un1 hb4 | replace hb4 := Below.un2 hb4 | skip); obtain ⟨hc4, hf4, hl4, hm4, hw4⟩ := bcell hb4; have hz4 := hb4.size; (try simp only [World.size_alloc, World.size_setCell] at hz4); have e4 : w.heap.size < w4.heap.size := (by omega)))
    | (go_at_call 30; ((with_reducible refine (S1.out _ ?_ ?_).mono ?_); (focus (refine (hA2.below ?_).more ?_; (repeat' (first | (with_reducible exact Below.refl _ _) | (with_reducible assumption) | (with_reducible refine Below.drew ?_) | (with_reducible refine below_drewN ?_ _) | (with_reducible refine Below.setCell ?_ ?_ _) | (with_reducible refine Below.alloc ?_ ?_ _) | go_size | (exact Below.size (by assumption)) | (refine Below.trans ?_ (Below.mono (by assumption) ?_)))))); (focus (refine (hBk.below ?_).more ?_; (repeat' (first | (with_reducible exact Below.refl _ _) | (with_reducible assumption) | (with_reducible refine Below.drew ?_) | (with_reducible refine below_drewN ?_ _) | (with_reducible refine Below.setCell ?_ ?_ _) | (with_reducible refine Below.alloc ?_ ?_ _) | go_size | (exact Below.size (by assumption)) | (refine Below.trans ?_ (Below.mono (by assumption) ?_)))))); rintro e w5 ⟨rfl, hb5⟩; (first | replace hb5 := Below.un1 hb5 | replace hb5 := Below.un2 hb5 | skip); obtain ⟨hc5, hf5, hl5, hm5, hw5⟩ := bcell hb5; have hz5 := hb5.size; (try simp only [World.size_alloc, World.size_setCell] at hz5); have e5 : w.heap.size < w5.heap.size := (by omega)))
    | (go_at_call 32; ((with_reducible refine (W1.out _ ?_ ?_).mono ?_); (focus (refine (hA2.below ?_).more ?_; (repeat' (first | (with_reducible exact Below.refl _ _) | (with_reducible assumption) | (with_reducible refine Below.drew ?_) | (with_reducible refine below_drewN ?_ _) | (with_reducible refine Below.setCell ?_ ?_ _) | (with_reducible refine Below.alloc ?_ ?_ _) | go_size | (exact Below.size (by assumption)) | (refine Below.trans ?_ (Below.mono (by assumption) ?_)))))); (focus (refine (hBk.below ?_).more ?_; (repeat' (first | (with_reducible exact Below.refl _ _) | (with_reducible assumption) | (with_reducible refine Below.drew ?_) | (with_reducible refine below_drewN ?_ _) | (with_reducible refine Below.setCell ?_ ?_ _) | (with_reducible refine Below.alloc ?_ ?_ _) | go_size | (exact Below.size (by assumption)) | (refine Below.trans ?_ (Below.mono (by assumption) ?_)))))); rintro e w6 ⟨O6, oc6, rfl, hb6⟩; (first | replace hb6 := Below.un1 hb6 | replace hb6 := Below.un2 hb6 | skip); obtain ⟨hc6, hf6, hl6, hm6, hw6⟩ := bcell hb6; have hz6 := hb6.size; (try simp only [World.size_alloc, World.size_setCell] at hz6); have e6 : w.heap.size < w6.heap.size := (by omega); have e6' : w5.heap.size < w6.heap.size := (by omega))))
  have d0 : w6.cell? ⟨w5.heap.size, 0, none⟩ = some (.int .i64 s.lo) := by (first | (simp [go_sem, wr_set, wr_drew, wr_drewN, wr_alloc, wr_new]; done) | (simp [go_sem, wr_set, wr_drew, wr_drewN, wr_alloc, wr_new, *]; done) | (simp (disch := go_size) [go_sem, wr_set, wr_drew, wr_drewN, wr_alloc, wr_new, *]; done))
  have d1 : w6.cell? ⟨w5.heap.size, 1, none⟩ = some (.int .i64 s.hi) := by (first | (simp [go_sem, wr_set, wr_drew, wr_drewN, wr_alloc, wr_new]; done) | (simp [go_sem, wr_set, wr_drew, wr_drewN, wr_alloc, wr_new, *]; done) | (simp (disch := go_size) [go_sem, wr_set, wr_drew, wr_drewN, wr_alloc, wr_new, *]; done))
  have B5 : Below w5.heap.size w5 w6 := by (repeat' (first | (with_reducible exact Below.refl _ _) | (with_reducible assumption) | (with_reducible refine Below.drew ?_) | (with_reducible refine below_drewN ?_ _) | (with_reducible refine Below.setCell ?_ ?_ _) | (with_reducible refine Below.alloc ?_ ?_ _) | go_size | (exact Below.size (by assumption)) | (refine Below.trans ?_ (Below.mono (by assumption) ?_))))
  have B4 : Below w4.heap.size w4 w6 := hb5.trans (B5.mono (by omega))
  have B6 : Below w2.heap.size w2 w6 := hb3.trans ((hb4.trans (B4.mono (by omega))).mono (by omega))
  have c0' := (B6.cell (p := ⟨w.heap.size, 0, none⟩) e2').trans c0
  have c1' := (B6.cell (p := ⟨w.heap.size, 1, none⟩) e2').trans c1
  have hA6 := (hA2.below B6).more B6.size
  have hBi6 := (hBi2.below B6).more B6.size
  have hBk6 := (hBk.below B6).more B6.size
  have hTk6 := (hTk.below B6).more B6.size
  have hO6 := (hO4.below B4).more B4.size
  have hBw : Below w.heap.size w w6 := hB2.trans (B6.mono (by omega))
  clear hc3 hf3 hl3 hm3 hw3 hb3 hz3 e3 hc4 hf4 hl4 hm4 hw4 hb4 hz4 e4 hc5 hf5 hl5 hm5 hw5 hb5 hz5 e5 hc6 hf6 hl6 hm6 hw6 hb6 hz6 B6 B5 B4 c0 c1 hA2 hBi2 hBk hTk hO4 hB2 e2' R1 T1 S1 W1
  go_loopw [17] (fun pv wr => ∃ p : Nat, p ≤ ls.length ∧ pv = .int .i64 p ∧ Below w6.heap.size w6 wr) (fun pv _ => ls.length - (intOf pv).toNat)
  case atStart => exact ⟨0, Nat.zero_le _, rfl, Below.refl _ _⟩
  case round =>
    obtain ⟨p, hp, rfl, hBr⟩ := hrel
    obtain ⟨wo, rfl⟩ : ∃ wo : World, wo = wr := ⟨_, rfl⟩
    have hzr := hBr.size
    by_cases hlt : p < ls.length
    · have hpI : (p : Int) < ls.length := by omega
      have hpl : p < l.length := by have := K3.out; omega
      have hpm : p < ms.length := by have := K2.out; omega
      obtain ⟨ob, oo, rfl, hobz, u0, u1⟩ := (hO6.below hBr).sp hpl
      obtain ⟨tb, tof, rfl, htbz, m0⟩ := (hTk6.below hBr).int hpm
      obtain ⟨bb, bo, rfl, hbbz, -, l1, l2⟩ := (hBk6.below hBr).ln hlt
      obtain ⟨q, hq⟩ : ∃ q, q = p - 1 := ⟨_, rfl⟩
      have hql : q < l.length := by omega
      have hv : wo.cell? ⟨ob, oo + q * 2, none⟩ = some (.int .i64 l[q].lo) ∧ wo.cell? ⟨ob, oo + q * 2 + 1, none⟩ = some (.int .i64 l[q].hi) := by
        obtain ⟨b', o', e', _, r0, r1⟩ := (hO6.below hBr).sp hql
        simp only [Option.some.injEq, Addr.mk.injEq, and_true] at e'
        obtain ⟨rfl, rfl⟩ := e'
        exact ⟨r0, r1⟩
      obtain ⟨v0, v1⟩ := hv
      obtain ⟨x, hx⟩ : ∃ x, l[p] = x := ⟨_, rfl⟩
      obtain ⟨y, hy⟩ : ∃ y, l[q] = y := ⟨_, rfl⟩
      obtain ⟨tv, htv⟩ : ∃ tv, ms[p] = tv := ⟨_, rfl⟩
      obtain ⟨kk, hkk⟩ : ∃ kk, ls[p] = kk := ⟨_, rfl⟩
      have hin : Hid ((decide (x.lo ≤ tv) && decide (tv ≤ x.hi)) = true) := hid (by
        have := HK4.out p hpl hpm
        rw [hx, htv] at this
        rw [decide_eq_true this.1, decide_eq_true this.2]; rfl)
      have hsub : Hid ((decide (kk.k.lo ≤ x.lo) && decide (x.hi ≤ kk.k.hi)) = true) := hid (by
        have := HK5.out p hpl hlt
        rw [hx, hkk] at this
        rw [decide_eq_true this.1, decide_eq_true this.2]; rfl)
      obtain ⟨b1, hb1⟩ : ∃ b, decide ((0 : Int) < p) = b := ⟨_, rfl⟩
      have HB1 := hid hb1
      have HB2 : Hid (decide (0 < p) = b1) := hid (by rw [← hb1]; congr 1; simp)
      have hlow : Hid (b1 = true → decide (x.lo < y.lo) = false ∧ decide (x.hi < y.hi) = false) := hid fun h => by
        rw [h] at hb1
        have hp0 := of_decide_eq_true hb1
        have hqp : q + 1 = p := by omega
        have := HK6.out q (by omega)
        have hxq : l[q + 1]'(by omega) = x := by rw [← hx]; congr 1
        rw [hxq, hy] at this
        exact ⟨decide_eq_false (by omega), decide_eq_false (by omega)⟩
      have hq1 : Hid (b1 = true → (p : Int) - 1 = q ∧ 0 ≤ (p : Int) - 1 ∧ (q : Int) < ls.length) := hid fun h => by
        rw [h] at hb1
        have hp0 := of_decide_eq_true hb1
        omega
      rw [hx] at u0 u1
      rw [hy] at v0 v1
      rw [htv] at m0
      rw [hkk] at l1 l2
      clear hx hy htv hkk hb1 hq
      go_wp2_with fail
      go_cut [146] (fun v wx => v = .bool false ∧ Below wo.heap.size wo wx)
      case first =>
        refine wp_region_any (by kernel_rfl) ?_
        have T0 : Below wo.heap.size wo wo.drew := (Below.refl _ _).drew
        refine lin_any [54] 180 (woF p q tv x y (.slice (some ⟨bb, bo, none⟩) ls.length bc) (.slice (some ⟨tb, tof, none⟩) ls.length tc) (.slice (some ⟨ob, oo, none⟩) ls.length oc4) (.pointer (some ⟨tb, tof + p, none⟩)) (.pointer (some ⟨ob, oo + p * 2, none⟩)) (.pointer (some ⟨ob, oo + p * 2 + 1, none⟩)) (.agg #[.int .i64 x.lo, .int .i64 x.hi]) (.pointer (some ⟨bb, bo + p * 3, none⟩)) (.pointer (some ⟨bb, bo + p * 3 + 1, none⟩)) (.agg #[.int .i64 kk.k.lo, .int .i64 kk.k.hi]) (.pointer (some ⟨ob, oo + q * 2, none⟩)) (.pointer (some ⟨ob, oo + q * 2 + 1, none⟩)) b1) (fun w' => Below wo.heap.size wo w') (fun w1 w2 => Below w1.heap.size w1 w2)
          [0, 1, 2, 3, 4, 5, 6, 7, 8, 9, 10, 11, 12, 13, 14, 15, 16, 17, 18, 19, 20, 21, 22, 23, 24, 25, 26, 27, 28, 29, 30, 31, 32, 33, 34, 35, 36, 37, 38, 39, 40, 41, 42, 43, 44, 45, 46, 47, 48, 49, 50, 51, 52, 53, 54, 55, 56, 57, 58, 59, 60, 61, 62, 63, 64, 65, 66, 67, 68, 69, 70, 71, 72, 73, 74, 75, 76, 77, 78, 79, 80, 81, 82, 83, 84, 85, 86, 87, 88, 89, 90, 91, 146, 147, 148, 149, 150, 151, 152, 153, 154, 155, 156, 157, 158, 159, 160, 161, 162, 163, 164, 165, 166, 167, 168, 169, 170, 171, 172, 173, 174, 175, 176, 177, 178, 179] #[true, true, true, true, true, true, true, true, true, true, true, true, true, true, true, true, true, true, true, true, true, true, true, true, true, true, true, true, true, true, true, true, true, true, true, true, true, true, true, true, true, true, true, true, true, true, true, true, true, true, true, true, true, true, false] [0, 1, 2, 3, 4, 5, 6, 7, 8, 9, 10, 11, 12, 13, 14, 15, 16, 17, 18, 19, 20, 21, 22, 23, 24, 25, 26, 27, 28, 29, 30, 31, 32, 33, 34, 35, 36, 37, 38, 39, 40, 41, 42, 43, 44, 45, 46, 47, 48, 49, 50, 51, 52, 53] (by kernel_rfl) (by kernel_rfl) (by kernel_rfl) (by kernel_rfl) (by kernel_rfl) (by kernel_rfl) (by kernel_rfl) (by kernel_rfl) (by kernel_rfl) (by kernel_rfl)
          (woF_stable _ _ _ _ _ _ _ _ _ _ _ _ _ _ _ _ _ _) (by rfl) T0 ?_ ?_
        · intro a' w' hd hsz hkn hT
          clear hd
          have r7 := hkn 7 (by decide); have r8 := hkn 8 (by decide); have r11 := hkn 11 (by decide); have r17 := hkn 17 (by decide); simp only [Array.getD_eq_getD_getElem?, List.getElem?_toArray, List.getElem?_cons_succ, List.getElem?_cons_zero, Option.getD_some] at r7 r8 r11 r17
          clear hkn
          have f0 : w'.cell? ⟨ob, oo + p * 2, none⟩ = some (.int .i64 x.lo) := (hT.cell (by simp only; omega)).trans u0
          have f1 : w'.cell? ⟨ob, oo + p * 2 + 1, none⟩ = some (.int .i64 x.hi) := (hT.cell (by simp only; omega)).trans u1
          have f2 : w'.cell? ⟨ob, oo + q * 2, none⟩ = some (.int .i64 y.lo) := (hT.cell (by simp only; omega)).trans v0
          have f3 : w'.cell? ⟨ob, oo + q * 2 + 1, none⟩ = some (.int .i64 y.hi) := (hT.cell (by simp only; omega)).trans v1
          have f4 : w'.cell? ⟨tb, tof + p, none⟩ = some (.int .i64 tv) := (hT.cell (by simp only; omega)).trans m0
          have f5 : w'.cell? ⟨bb, bo + p * 3 + 1, none⟩ = some (.int .i64 kk.k.lo) := (hT.cell (by simp only; omega)).trans l1
          have f6 : w'.cell? ⟨bb, bo + p * 3 + 2, none⟩ = some (.int .i64 kk.k.hi) := (hT.cell (by simp only; omega)).trans l2
          refine LinOps.cons (by simp only [List.getElem?_toArray, List.getElem?_cons_succ, List.getElem?_cons_zero]; rfl) (fun hk K hK => ?_) ?_
          · rw [if_pos (wanted_none rfl)]; obtain ⟨ρ, hρ⟩ : ∃ ρ, a'.eval = ρ := ⟨_, rfl⟩; have qc : ∀ v, ρ (.const v) = v := (fun v => (by rw [← hρ]; rfl)); have qf : ∀ f, ρ (.func f) = .func (.func f) #[] #[] := (fun f => (by rw [← hρ]; rfl)); have q8 := eval_of r8; rw [hρ] at q8; refine abs_op ρ hρ ?_; clear hρ; go_simp
            exact hK.out _ _ _ rfl rfl hT (Below.refl _ _)
          refine LinOps.cons (by simp only [List.getElem?_toArray, List.getElem?_cons_succ, List.getElem?_cons_zero]; rfl) (fun hk K hK => ?_) ?_
          · rw [if_pos (wanted_none rfl)]; obtain ⟨ρ, hρ⟩ : ∃ ρ, a'.eval = ρ := ⟨_, rfl⟩; have qc : ∀ v, ρ (.const v) = v := (fun v => (by rw [← hρ]; rfl)); have qf : ∀ f, ρ (.func f) = .func (.func f) #[] #[] := (fun f => (by rw [← hρ]; rfl)); have q17 := eval_of r17; rw [hρ] at q17; refine abs_op ρ hρ ?_; clear hρ; go_simp
            exact hK.out _ _ _ rfl rfl hT (Below.refl _ _)
          refine LinOps.cons (by simp only [List.getElem?_toArray, List.getElem?_cons_succ, List.getElem?_cons_zero]; rfl) (fun hk K hK => ?_) ?_
          · (obtain ⟨v, r92, hf⟩ := Known.get (hk 0 (by kernel_rfl) (by simp)) (d := 92) (by kernel_rfl); simp only [woF] at hf; (try subst hf)); (obtain ⟨v, r93, hf⟩ := Known.get (hk 1 (by kernel_rfl) (by simp)) (d := 93) (by kernel_rfl); simp only [woF] at hf; (try subst hf))
            rw [if_pos (wanted_none rfl)]; obtain ⟨ρ, hρ⟩ : ∃ ρ, a'.eval = ρ := ⟨_, rfl⟩; have qc : ∀ v, ρ (.const v) = v := (fun v => (by rw [← hρ]; rfl)); have qf : ∀ f, ρ (.func f) = .func (.func f) #[] #[] := (fun f => (by rw [← hρ]; rfl)); have q92 := eval_of r92; rw [hρ] at q92; have q93 := eval_of r93; rw [hρ] at q93; refine abs_op ρ hρ ?_; clear hρ; go_simp
            exact hK.out _ _ _ rfl rfl hT (Below.refl _ _)
          refine LinOps.cons (by simp only [List.getElem?_toArray, List.getElem?_cons_succ, List.getElem?_cons_zero]; rfl) (fun hk K hK => ?_) ?_
          · (obtain ⟨v, r94, hf⟩ := Known.get (hk 2 (by kernel_rfl) (by simp)) (d := 94) (by kernel_rfl); simp only [woF] at hf; (try subst hf))
            rw [if_pos (wanted_none rfl)]; obtain ⟨ρ, hρ⟩ : ∃ ρ, a'.eval = ρ := ⟨_, rfl⟩; have qc : ∀ v, ρ (.const v) = v := (fun v => (by rw [← hρ]; rfl)); have qf : ∀ f, ρ (.func f) = .func (.func f) #[] #[] := (fun f => (by rw [← hρ]; rfl)); have q94 := eval_of r94; rw [hρ] at q94; refine abs_op ρ hρ ?_; clear hρ; go_simp
            exact hK.out _ _ _ rfl rfl hT (Below.refl _ _)
          refine LinOps.cons (by simp only [List.getElem?_toArray, List.getElem?_cons_succ, List.getElem?_cons_zero]; rfl) (fun hk K hK => ?_) ?_
          · rw [if_pos (wanted_none rfl)]; obtain ⟨ρ, hρ⟩ : ∃ ρ, a'.eval = ρ := ⟨_, rfl⟩; have qc : ∀ v, ρ (.const v) = v := (fun v => (by rw [← hρ]; rfl)); have qf : ∀ f, ρ (.func f) = .func (.func f) #[] #[] := (fun f => (by rw [← hρ]; rfl)); have q11 := eval_of r11; rw [hρ] at q11; refine abs_op ρ hρ ?_; clear hρ; go_simp
            exact hK.out _ _ _ rfl rfl hT (Below.refl _ _)
          refine LinOps.cons (by simp only [List.getElem?_toArray, List.getElem?_cons_succ, List.getElem?_cons_zero]; rfl) (fun hk K hK => ?_) ?_
          · rw [if_pos (wanted_none rfl)]; obtain ⟨ρ, hρ⟩ : ∃ ρ, a'.eval = ρ := ⟨_, rfl⟩; have qc : ∀ v, ρ (.const v) = v := (fun v => (by rw [← hρ]; rfl)); have qf : ∀ f, ρ (.func f) = .func (.func f) #[] #[] := (fun f => (by rw [← hρ]; rfl)); have q17 := eval_of r17; rw [hρ] at q17; refine abs_op ρ hρ ?_; clear hρ; go_simp
            exact hK.out _ _ _ rfl rfl hT (Below.refl _ _)
          refine LinOps.cons (by simp only [List.getElem?_toArray, List.getElem?_cons_succ, List.getElem?_cons_zero]; rfl) (fun hk K hK => ?_) ?_
          · (obtain ⟨v, r96, hf⟩ := Known.get (hk 4 (by kernel_rfl) (by simp)) (d := 96) (by kernel_rfl); simp only [woF] at hf; (try subst hf)); (obtain ⟨v, r97, hf⟩ := Known.get (hk 5 (by kernel_rfl) (by simp)) (d := 97) (by kernel_rfl); simp only [woF] at hf; (try subst hf))
            rw [if_pos (wanted_none rfl)]; obtain ⟨ρ, hρ⟩ : ∃ ρ, a'.eval = ρ := ⟨_, rfl⟩; have qc : ∀ v, ρ (.const v) = v := (fun v => (by rw [← hρ]; rfl)); have qf : ∀ f, ρ (.func f) = .func (.func f) #[] #[] := (fun f => (by rw [← hρ]; rfl)); have q96 := eval_of r96; rw [hρ] at q96; have q97 := eval_of r97; rw [hρ] at q97; refine abs_op ρ hρ ?_; clear hρ; go_simp
            exact hK.out _ _ _ rfl rfl hT (Below.refl _ _)
          refine LinOps.cons (by simp only [List.getElem?_toArray, List.getElem?_cons_succ, List.getElem?_cons_zero]; rfl) (fun hk K hK => ?_) ?_
          · (obtain ⟨v, r98, hf⟩ := Known.get (hk 6 (by kernel_rfl) (by simp)) (d := 98) (by kernel_rfl); simp only [woF] at hf; (try subst hf))
            rw [if_pos (wanted_none rfl)]; obtain ⟨ρ, hρ⟩ : ∃ ρ, a'.eval = ρ := ⟨_, rfl⟩; have qc : ∀ v, ρ (.const v) = v := (fun v => (by rw [← hρ]; rfl)); have qf : ∀ f, ρ (.func f) = .func (.func f) #[] #[] := (fun f => (by rw [← hρ]; rfl)); have q98 := eval_of r98; rw [hρ] at q98; refine abs_op ρ hρ ?_; clear hρ; go_simp
            exact hK.out _ _ _ rfl rfl hT (Below.refl _ _)
          refine LinOps.cons (by simp only [List.getElem?_toArray, List.getElem?_cons_succ, List.getElem?_cons_zero]; rfl) (fun hk K hK => ?_) ?_
          · (obtain ⟨v, r95, hf⟩ := Known.get (hk 3 (by kernel_rfl) (by simp)) (d := 95) (by kernel_rfl); simp only [woF] at hf; (try subst hf)); (obtain ⟨v, r99, hf⟩ := Known.get (hk 7 (by kernel_rfl) (by simp)) (d := 99) (by kernel_rfl); simp only [woF] at hf; (try subst hf))
            rw [if_pos (wanted_none rfl)]; obtain ⟨ρ, hρ⟩ : ∃ ρ, a'.eval = ρ := ⟨_, rfl⟩; have qc : ∀ v, ρ (.const v) = v := (fun v => (by rw [← hρ]; rfl)); have qf : ∀ f, ρ (.func f) = .func (.func f) #[] #[] := (fun f => (by rw [← hρ]; rfl)); have q95 := eval_of r95; rw [hρ] at q95; have q99 := eval_of r99; rw [hρ] at q99; refine abs_op ρ hρ ?_; clear hρ; go_simp
            go_at_call 39; refine (in_any _ _ _ _).mono ?_
            rw [hin.out]
            rintro e w1 ⟨rfl, h1⟩
            exact hK.out _ _ _ rfl rfl (hT.trans (h1.mono hT.size)) h1
          refine LinOps.cons (by simp only [List.getElem?_toArray, List.getElem?_cons_succ, List.getElem?_cons_zero]; rfl) (fun hk K hK => ?_) ?_
          · (obtain ⟨v, r100, hf⟩ := Known.get (hk 8 (by kernel_rfl) (by simp)) (d := 100) (by kernel_rfl); simp only [woF] at hf; (try subst hf))
            rw [if_pos (wanted_none rfl)]; obtain ⟨ρ, hρ⟩ : ∃ ρ, a'.eval = ρ := ⟨_, rfl⟩; have qc : ∀ v, ρ (.const v) = v := (fun v => (by rw [← hρ]; rfl)); have qf : ∀ f, ρ (.func f) = .func (.func f) #[] #[] := (fun f => (by rw [← hρ]; rfl)); have q100 := eval_of r100; rw [hρ] at q100; refine abs_op ρ hρ ?_; clear hρ; go_simp
            exact hK.out _ _ _ rfl rfl hT (Below.refl _ _)
          refine LinOps.cons (by simp only [List.getElem?_toArray, List.getElem?_cons_succ, List.getElem?_cons_zero]; rfl) (fun hk K hK => ?_) ?_
          · (obtain ⟨v, r101, hf⟩ := Known.get (hk 9 (by kernel_rfl) (by simp)) (d := 101) (by kernel_rfl); simp only [woF] at hf; (try subst hf))
            rw [if_pos (wanted_none rfl)]; obtain ⟨ρ, hρ⟩ : ∃ ρ, a'.eval = ρ := ⟨_, rfl⟩; have qc : ∀ v, ρ (.const v) = v := (fun v => (by rw [← hρ]; rfl)); have qf : ∀ f, ρ (.func f) = .func (.func f) #[] #[] := (fun f => (by rw [← hρ]; rfl)); have q101 := eval_of r101; rw [hρ] at q101; refine abs_op ρ hρ ?_; clear hρ; go_simp
            exact hK.out _ _ _ rfl rfl hT (Below.refl _ _)
          refine LinOps.cons (by simp only [List.getElem?_toArray, List.getElem?_cons_succ, List.getElem?_cons_zero]; rfl) (fun hk K hK => ?_) ?_
          · (obtain ⟨v, r102, hf⟩ := Known.get (hk 10 (by kernel_rfl) (by simp)) (d := 102) (by kernel_rfl); simp only [woF] at hf; (try subst hf))
            rw [if_pos (wanted_yes rfl (by kernel_rfl) r102)]; obtain ⟨ρ, hρ⟩ : ∃ ρ, a'.eval = ρ := ⟨_, rfl⟩; have qc : ∀ v, ρ (.const v) = v := (fun v => (by rw [← hρ]; rfl)); have qf : ∀ f, ρ (.func f) = .func (.func f) #[] #[] := (fun f => (by rw [← hρ]; rfl)); have q11 := eval_of r11; rw [hρ] at q11; refine abs_op ρ hρ ?_; clear hρ; go_simp
            exact hK.out _ _ _ rfl rfl hT (Below.refl _ _)
          refine LinOps.cons (by simp only [List.getElem?_toArray, List.getElem?_cons_succ, List.getElem?_cons_zero]; rfl) (fun hk K hK => ?_) ?_
          · (obtain ⟨v, r102, hf⟩ := Known.get (hk 10 (by kernel_rfl) (by simp)) (d := 102) (by kernel_rfl); simp only [woF] at hf; (try subst hf))
            rw [if_pos (wanted_yes rfl (by kernel_rfl) r102)]; obtain ⟨ρ, hρ⟩ : ∃ ρ, a'.eval = ρ := ⟨_, rfl⟩; have qc : ∀ v, ρ (.const v) = v := (fun v => (by rw [← hρ]; rfl)); have qf : ∀ f, ρ (.func f) = .func (.func f) #[] #[] := (fun f => (by rw [← hρ]; rfl)); have q17 := eval_of r17; rw [hρ] at q17; refine abs_op ρ hρ ?_; clear hρ; go_simp
            exact hK.out _ _ _ rfl rfl hT (Below.refl _ _)
          refine LinOps.cons (by simp only [List.getElem?_toArray, List.getElem?_cons_succ, List.getElem?_cons_zero]; rfl) (fun hk K hK => ?_) ?_
          · (obtain ⟨v, r102, hf⟩ := Known.get (hk 10 (by kernel_rfl) (by simp)) (d := 102) (by kernel_rfl); simp only [woF] at hf; (try subst hf)); (obtain ⟨v, r103, hf⟩ := Known.get (hk 11 (by kernel_rfl) (by simp)) (d := 103) (by kernel_rfl); simp only [woF] at hf; (try subst hf)); (obtain ⟨v, r104, hf⟩ := Known.get (hk 12 (by kernel_rfl) (by simp)) (d := 104) (by kernel_rfl); simp only [woF] at hf; (try subst hf))
            rw [if_pos (wanted_yes rfl (by kernel_rfl) r102)]; obtain ⟨ρ, hρ⟩ : ∃ ρ, a'.eval = ρ := ⟨_, rfl⟩; have qc : ∀ v, ρ (.const v) = v := (fun v => (by rw [← hρ]; rfl)); have qf : ∀ f, ρ (.func f) = .func (.func f) #[] #[] := (fun f => (by rw [← hρ]; rfl)); have q103 := eval_of r103; rw [hρ] at q103; have q104 := eval_of r104; rw [hρ] at q104; refine abs_op ρ hρ ?_; clear hρ; go_simp
            exact hK.out _ _ _ rfl rfl hT (Below.refl _ _)
          refine LinOps.cons (by simp only [List.getElem?_toArray, List.getElem?_cons_succ, List.getElem?_cons_zero]; rfl) (fun hk K hK => ?_) ?_
          · (obtain ⟨v, r102, hf⟩ := Known.get (hk 10 (by kernel_rfl) (by simp)) (d := 102) (by kernel_rfl); simp only [woF] at hf; (try subst hf)); (obtain ⟨v, r105, hf⟩ := Known.get (hk 13 (by kernel_rfl) (by simp)) (d := 105) (by kernel_rfl); simp only [woF] at hf; (try subst hf))
            rw [if_pos (wanted_yes rfl (by kernel_rfl) r102)]; obtain ⟨ρ, hρ⟩ : ∃ ρ, a'.eval = ρ := ⟨_, rfl⟩; have qc : ∀ v, ρ (.const v) = v := (fun v => (by rw [← hρ]; rfl)); have qf : ∀ f, ρ (.func f) = .func (.func f) #[] #[] := (fun f => (by rw [← hρ]; rfl)); have q105 := eval_of r105; rw [hρ] at q105; refine abs_op ρ hρ ?_; clear hρ; go_simp
            exact hK.out _ _ _ rfl rfl hT (Below.refl _ _)
          refine LinOps.cons (by simp only [List.getElem?_toArray, List.getElem?_cons_succ, List.getElem?_cons_zero]; rfl) (fun hk K hK => ?_) ?_
          · (obtain ⟨v, r102, hf⟩ := Known.get (hk 10 (by kernel_rfl) (by simp)) (d := 102) (by kernel_rfl); simp only [woF] at hf; (try subst hf))
            rw [if_pos (wanted_yes rfl (by kernel_rfl) r102)]; obtain ⟨ρ, hρ⟩ : ∃ ρ, a'.eval = ρ := ⟨_, rfl⟩; have qc : ∀ v, ρ (.const v) = v := (fun v => (by rw [← hρ]; rfl)); have qf : ∀ f, ρ (.func f) = .func (.func f) #[] #[] := (fun f => (by rw [← hρ]; rfl)); have q7 := eval_of r7; rw [hρ] at q7; refine abs_op ρ hρ ?_; clear hρ; go_simp
            exact hK.out _ _ _ rfl rfl hT (Below.refl _ _)
          refine LinOps.cons (by simp only [List.getElem?_toArray, List.getElem?_cons_succ, List.getElem?_cons_zero]; rfl) (fun hk K hK => ?_) ?_
          · (obtain ⟨v, r102, hf⟩ := Known.get (hk 10 (by kernel_rfl) (by simp)) (d := 102) (by kernel_rfl); simp only [woF] at hf; (try subst hf))
            rw [if_pos (wanted_yes rfl (by kernel_rfl) r102)]; obtain ⟨ρ, hρ⟩ : ∃ ρ, a'.eval = ρ := ⟨_, rfl⟩; have qc : ∀ v, ρ (.const v) = v := (fun v => (by rw [← hρ]; rfl)); have qf : ∀ f, ρ (.func f) = .func (.func f) #[] #[] := (fun f => (by rw [← hρ]; rfl)); have q17 := eval_of r17; rw [hρ] at q17; refine abs_op ρ hρ ?_; clear hρ; go_simp
            exact hK.out _ _ _ rfl rfl hT (Below.refl _ _)
          refine LinOps.cons (by simp only [List.getElem?_toArray, List.getElem?_cons_succ, List.getElem?_cons_zero]; rfl) (fun hk K hK => ?_) ?_
          · (obtain ⟨v, r102, hf⟩ := Known.get (hk 10 (by kernel_rfl) (by simp)) (d := 102) (by kernel_rfl); simp only [woF] at hf; (try subst hf)); (obtain ⟨v, r107, hf⟩ := Known.get (hk 15 (by kernel_rfl) (by simp)) (d := 107) (by kernel_rfl); simp only [woF] at hf; (try subst hf)); (obtain ⟨v, r108, hf⟩ := Known.get (hk 16 (by kernel_rfl) (by simp)) (d := 108) (by kernel_rfl); simp only [woF] at hf; (try subst hf))
            rw [if_pos (wanted_yes rfl (by kernel_rfl) r102)]; obtain ⟨ρ, hρ⟩ : ∃ ρ, a'.eval = ρ := ⟨_, rfl⟩; have qc : ∀ v, ρ (.const v) = v := (fun v => (by rw [← hρ]; rfl)); have qf : ∀ f, ρ (.func f) = .func (.func f) #[] #[] := (fun f => (by rw [← hρ]; rfl)); have q107 := eval_of r107; rw [hρ] at q107; have q108 := eval_of r108; rw [hρ] at q108; refine abs_op ρ hρ ?_; clear hρ; go_simp
            exact hK.out _ _ _ rfl rfl hT (Below.refl _ _)
          refine LinOps.cons (by simp only [List.getElem?_toArray, List.getElem?_cons_succ, List.getElem?_cons_zero]; rfl) (fun hk K hK => ?_) ?_
          · (obtain ⟨v, r102, hf⟩ := Known.get (hk 10 (by kernel_rfl) (by simp)) (d := 102) (by kernel_rfl); simp only [woF] at hf; (try subst hf)); (obtain ⟨v, r109, hf⟩ := Known.get (hk 17 (by kernel_rfl) (by simp)) (d := 109) (by kernel_rfl); simp only [woF] at hf; (try subst hf))
            rw [if_pos (wanted_yes rfl (by kernel_rfl) r102)]; obtain ⟨ρ, hρ⟩ : ∃ ρ, a'.eval = ρ := ⟨_, rfl⟩; have qc : ∀ v, ρ (.const v) = v := (fun v => (by rw [← hρ]; rfl)); have qf : ∀ f, ρ (.func f) = .func (.func f) #[] #[] := (fun f => (by rw [← hρ]; rfl)); have q109 := eval_of r109; rw [hρ] at q109; refine abs_op ρ hρ ?_; clear hρ; go_simp
            exact hK.out _ _ _ rfl rfl hT (Below.refl _ _)
          refine LinOps.cons (by simp only [List.getElem?_toArray, List.getElem?_cons_succ, List.getElem?_cons_zero]; rfl) (fun hk K hK => ?_) ?_
          · (obtain ⟨v, r102, hf⟩ := Known.get (hk 10 (by kernel_rfl) (by simp)) (d := 102) (by kernel_rfl); simp only [woF] at hf; (try subst hf)); (obtain ⟨v, r110, hf⟩ := Known.get (hk 18 (by kernel_rfl) (by simp)) (d := 110) (by kernel_rfl); simp only [woF] at hf; (try subst hf))
            rw [if_pos (wanted_yes rfl (by kernel_rfl) r102)]; obtain ⟨ρ, hρ⟩ : ∃ ρ, a'.eval = ρ := ⟨_, rfl⟩; have qc : ∀ v, ρ (.const v) = v := (fun v => (by rw [← hρ]; rfl)); have qf : ∀ f, ρ (.func f) = .func (.func f) #[] #[] := (fun f => (by rw [← hρ]; rfl)); have q110 := eval_of r110; rw [hρ] at q110; refine abs_op ρ hρ ?_; clear hρ; go_simp
            exact hK.out _ _ _ rfl rfl hT (Below.refl _ _)
          refine LinOps.cons (by simp only [List.getElem?_toArray, List.getElem?_cons_succ, List.getElem?_cons_zero]; rfl) (fun hk K hK => ?_) ?_
          · (obtain ⟨v, r102, hf⟩ := Known.get (hk 10 (by kernel_rfl) (by simp)) (d := 102) (by kernel_rfl); simp only [woF] at hf; (try subst hf)); (obtain ⟨v, r106, hf⟩ := Known.get (hk 14 (by kernel_rfl) (by simp)) (d := 106) (by kernel_rfl); simp only [woF] at hf; (try subst hf)); (obtain ⟨v, r111, hf⟩ := Known.get (hk 19 (by kernel_rfl) (by simp)) (d := 111) (by kernel_rfl); simp only [woF] at hf; (try subst hf))
            rw [if_pos (wanted_yes rfl (by kernel_rfl) r102)]; obtain ⟨ρ, hρ⟩ : ∃ ρ, a'.eval = ρ := ⟨_, rfl⟩; have qc : ∀ v, ρ (.const v) = v := (fun v => (by rw [← hρ]; rfl)); have qf : ∀ f, ρ (.func f) = .func (.func f) #[] #[] := (fun f => (by rw [← hρ]; rfl)); have q106 := eval_of r106; rw [hρ] at q106; have q111 := eval_of r111; rw [hρ] at q111; refine abs_op ρ hρ ?_; clear hρ; go_simp
            go_at_call 40; refine (inside_any _ _ _ _ _).mono ?_
            rw [hsub.out]
            rintro e w1 ⟨rfl, h1⟩
            exact hK.out _ _ _ rfl rfl (hT.trans (h1.mono hT.size)) h1
          refine LinOps.cons (by simp only [List.getElem?_toArray, List.getElem?_cons_succ, List.getElem?_cons_zero]; rfl) (fun hk K hK => ?_) ?_
          · (obtain ⟨v, r102, hf⟩ := Known.get (hk 10 (by kernel_rfl) (by simp)) (d := 102) (by kernel_rfl); simp only [woF] at hf; (try subst hf)); (obtain ⟨v, r112, hf⟩ := Known.get (hk 20 (by kernel_rfl) (by simp)) (d := 112) (by kernel_rfl); simp only [woF] at hf; (try subst hf))
            rw [if_pos (wanted_yes rfl (by kernel_rfl) r102)]; obtain ⟨ρ, hρ⟩ : ∃ ρ, a'.eval = ρ := ⟨_, rfl⟩; have qc : ∀ v, ρ (.const v) = v := (fun v => (by rw [← hρ]; rfl)); have qf : ∀ f, ρ (.func f) = .func (.func f) #[] #[] := (fun f => (by rw [← hρ]; rfl)); have q112 := eval_of r112; rw [hρ] at q112; refine abs_op ρ hρ ?_; clear hρ; go_simp
            exact hK.out _ _ _ rfl rfl hT (Below.refl _ _)
          refine LinOps.cons (by simp only [List.getElem?_toArray, List.getElem?_cons_succ, List.getElem?_cons_zero]; rfl) (fun hk K hK => ?_) ?_
          · (obtain ⟨v, r102, hf⟩ := Known.get (hk 10 (by kernel_rfl) (by simp)) (d := 102) (by kernel_rfl); simp only [woF] at hf; (try subst hf)); (obtain ⟨v, r113, hf⟩ := Known.get (hk 21 (by kernel_rfl) (by simp)) (d := 113) (by kernel_rfl); simp only [woF] at hf; (try subst hf))
            rw [if_pos (wanted_none rfl)]; obtain ⟨ρ, hρ⟩ : ∃ ρ, a'.eval = ρ := ⟨_, rfl⟩; have qc : ∀ v, ρ (.const v) = v := (fun v => (by rw [← hρ]; rfl)); have qf : ∀ f, ρ (.func f) = .func (.func f) #[] #[] := (fun f => (by rw [← hρ]; rfl)); have q102 := eval_of r102; rw [hρ] at q102; have q113 := eval_of r113; rw [hρ] at q113; refine abs_op ρ hρ ?_; clear hρ; go_simp
            exact hK.out _ _ _ rfl rfl hT (Below.refl _ _)
          refine LinOps.cons (by simp only [List.getElem?_toArray, List.getElem?_cons_succ, List.getElem?_cons_zero]; rfl) (fun hk K hK => ?_) ?_
          · (obtain ⟨v, r114, hf⟩ := Known.get (hk 22 (by kernel_rfl) (by simp)) (d := 114) (by kernel_rfl); simp only [woF] at hf; (try subst hf))
            rw [if_pos (wanted_none rfl)]; obtain ⟨ρ, hρ⟩ : ∃ ρ, a'.eval = ρ := ⟨_, rfl⟩; have qc : ∀ v, ρ (.const v) = v := (fun v => (by rw [← hρ]; rfl)); have qf : ∀ f, ρ (.func f) = .func (.func f) #[] #[] := (fun f => (by rw [← hρ]; rfl)); have q114 := eval_of r114; rw [hρ] at q114; refine abs_op ρ hρ ?_; clear hρ; go_simp
            exact hK.out _ _ _ rfl rfl hT (Below.refl _ _)
          refine LinOps.cons (by simp only [List.getElem?_toArray, List.getElem?_cons_succ, List.getElem?_cons_zero]; rfl) (fun hk K hK => ?_) ?_
          · (obtain ⟨v, r115, hf⟩ := Known.get (hk 23 (by kernel_rfl) (by simp)) (d := 115) (by kernel_rfl); simp only [woF] at hf; (try subst hf))
            rw [if_pos (wanted_yes rfl (by kernel_rfl) r115)]; obtain ⟨ρ, hρ⟩ : ∃ ρ, a'.eval = ρ := ⟨_, rfl⟩; have qc : ∀ v, ρ (.const v) = v := (fun v => (by rw [← hρ]; rfl)); have qf : ∀ f, ρ (.func f) = .func (.func f) #[] #[] := (fun f => (by rw [← hρ]; rfl)); have q17 := eval_of r17; rw [hρ] at q17; refine abs_op ρ hρ ?_; clear hρ; go_simp
            exact hK.out _ _ _ rfl rfl hT (Below.refl _ _)
          refine LinOps.cons (by simp only [List.getElem?_toArray, List.getElem?_cons_succ, List.getElem?_cons_zero]; rfl) (fun hk K hK => ?_) ?_
          · (obtain ⟨v, r115, hf⟩ := Known.get (hk 23 (by kernel_rfl) (by simp)) (d := 115) (by kernel_rfl); simp only [woF] at hf; (try subst hf)); (obtain ⟨v, r116, hf⟩ := Known.get (hk 24 (by kernel_rfl) (by simp)) (d := 116) (by kernel_rfl); simp only [woF] at hf; (try subst hf))
            rw [if_pos (wanted_yes rfl (by kernel_rfl) r115)]; obtain ⟨ρ, hρ⟩ : ∃ ρ, a'.eval = ρ := ⟨_, rfl⟩; have qc : ∀ v, ρ (.const v) = v := (fun v => (by rw [← hρ]; rfl)); have qf : ∀ f, ρ (.func f) = .func (.func f) #[] #[] := (fun f => (by rw [← hρ]; rfl)); have q116 := eval_of r116; rw [hρ] at q116; refine abs_op ρ hρ ?_; clear hρ; go_simp
            exact hK.out _ _ _ rfl (by show _ = Value.bool b1; first | (rw [← HB2.out]; done) | (rw [← HB1.out]; done)) hT (Below.refl _ _)
          refine LinOps.cons (by simp only [List.getElem?_toArray, List.getElem?_cons_succ, List.getElem?_cons_zero]; rfl) (fun hk K hK => ?_) ?_
          · (obtain ⟨v, r115, hf⟩ := Known.get (hk 23 (by kernel_rfl) (by simp)) (d := 115) (by kernel_rfl); simp only [woF] at hf; (try subst hf)); (obtain ⟨v, r117, hf⟩ := Known.get (hk 25 (by kernel_rfl) (by simp)) (d := 117) (by kernel_rfl); simp only [woF] at hf; (try subst hf))
            rw [if_pos (wanted_yes rfl (by kernel_rfl) r115)]; obtain ⟨ρ, hρ⟩ : ∃ ρ, a'.eval = ρ := ⟨_, rfl⟩; have qc : ∀ v, ρ (.const v) = v := (fun v => (by rw [← hρ]; rfl)); have qf : ∀ f, ρ (.func f) = .func (.func f) #[] #[] := (fun f => (by rw [← hρ]; rfl)); have q117 := eval_of r117; rw [hρ] at q117; refine abs_op ρ hρ ?_; clear hρ; go_simp
            exact hK.out _ _ _ rfl rfl hT (Below.refl _ _)
          refine LinOps.cons (by simp only [List.getElem?_toArray, List.getElem?_cons_succ, List.getElem?_cons_zero]; rfl) (fun hk K hK => ?_) ?_
          · (obtain ⟨v, r118, hf⟩ := Known.get (hk 26 (by kernel_rfl) (by simp)) (d := 118) (by kernel_rfl); simp only [woF] at hf; (try subst hf))
            cases b1
            · rw [if_neg (wanted_no rfl (by kernel_rfl) r118 rfl)]
              exact hK.out _ _ _ rfl rfl hT (Below.refl _ _)
            · rw [if_pos (wanted_yes rfl (by kernel_rfl) r118)]; obtain ⟨ρ, hρ⟩ : ∃ ρ, a'.eval = ρ := ⟨_, rfl⟩; have qc : ∀ v, ρ (.const v) = v := (fun v => (by rw [← hρ]; rfl)); have qf : ∀ f, ρ (.func f) = .func (.func f) #[] #[] := (fun f => (by rw [← hρ]; rfl)); have q11 := eval_of r11; rw [hρ] at q11; refine abs_op ρ hρ ?_; clear hρ; go_simp
              exact hK.out _ _ _ rfl rfl hT (Below.refl _ _)
          refine LinOps.cons (by simp only [List.getElem?_toArray, List.getElem?_cons_succ, List.getElem?_cons_zero]; rfl) (fun hk K hK => ?_) ?_
          · (obtain ⟨v, r118, hf⟩ := Known.get (hk 26 (by kernel_rfl) (by simp)) (d := 118) (by kernel_rfl); simp only [woF] at hf; (try subst hf))
            cases b1
            · rw [if_neg (wanted_no rfl (by kernel_rfl) r118 rfl)]
              exact hK.out _ _ _ rfl rfl hT (Below.refl _ _)
            · rw [if_pos (wanted_yes rfl (by kernel_rfl) r118)]; obtain ⟨ρ, hρ⟩ : ∃ ρ, a'.eval = ρ := ⟨_, rfl⟩; have qc : ∀ v, ρ (.const v) = v := (fun v => (by rw [← hρ]; rfl)); have qf : ∀ f, ρ (.func f) = .func (.func f) #[] #[] := (fun f => (by rw [← hρ]; rfl)); have q17 := eval_of r17; rw [hρ] at q17; refine abs_op ρ hρ ?_; clear hρ; go_simp
              exact hK.out _ _ _ rfl rfl hT (Below.refl _ _)
          refine LinOps.cons (by simp only [List.getElem?_toArray, List.getElem?_cons_succ, List.getElem?_cons_zero]; rfl) (fun hk K hK => ?_) ?_
          · (obtain ⟨v, r118, hf⟩ := Known.get (hk 26 (by kernel_rfl) (by simp)) (d := 118) (by kernel_rfl); simp only [woF] at hf; (try subst hf)); (obtain ⟨v, r119, hf⟩ := Known.get (hk 27 (by kernel_rfl) (by simp)) (d := 119) (by kernel_rfl); simp only [woF] at hf; (try subst hf)); (obtain ⟨v, r120, hf⟩ := Known.get (hk 28 (by kernel_rfl) (by simp)) (d := 120) (by kernel_rfl); simp only [woF] at hf; (try subst hf))
            cases b1
            · rw [if_neg (wanted_no rfl (by kernel_rfl) r118 rfl)]
              exact hK.out _ _ _ rfl rfl hT (Below.refl _ _)
            · rw [if_pos (wanted_yes rfl (by kernel_rfl) r118)]; obtain ⟨ρ, hρ⟩ : ∃ ρ, a'.eval = ρ := ⟨_, rfl⟩; have qc : ∀ v, ρ (.const v) = v := (fun v => (by rw [← hρ]; rfl)); have qf : ∀ f, ρ (.func f) = .func (.func f) #[] #[] := (fun f => (by rw [← hρ]; rfl)); have q119 := eval_of r119; rw [hρ] at q119; have q120 := eval_of r120; rw [hρ] at q120; refine abs_op ρ hρ ?_; clear hρ; go_simp
              exact hK.out _ _ _ rfl rfl hT (Below.refl _ _)
          refine LinOps.cons (by simp only [List.getElem?_toArray, List.getElem?_cons_succ, List.getElem?_cons_zero]; rfl) (fun hk K hK => ?_) ?_
          · (obtain ⟨v, r118, hf⟩ := Known.get (hk 26 (by kernel_rfl) (by simp)) (d := 118) (by kernel_rfl); simp only [woF] at hf; (try subst hf)); (obtain ⟨v, r121, hf⟩ := Known.get (hk 29 (by kernel_rfl) (by simp)) (d := 121) (by kernel_rfl); simp only [woF] at hf; (try subst hf))
            cases b1
            · rw [if_neg (wanted_no rfl (by kernel_rfl) r118 rfl)]
              exact hK.out _ _ _ rfl rfl hT (Below.refl _ _)
            · rw [if_pos (wanted_yes rfl (by kernel_rfl) r118)]; obtain ⟨ρ, hρ⟩ : ∃ ρ, a'.eval = ρ := ⟨_, rfl⟩; have qc : ∀ v, ρ (.const v) = v := (fun v => (by rw [← hρ]; rfl)); have qf : ∀ f, ρ (.func f) = .func (.func f) #[] #[] := (fun f => (by rw [← hρ]; rfl)); have q121 := eval_of r121; rw [hρ] at q121; refine abs_op ρ hρ ?_; clear hρ; go_simp
              exact hK.out _ _ _ rfl rfl hT (Below.refl _ _)
          refine LinOps.cons (by simp only [List.getElem?_toArray, List.getElem?_cons_succ, List.getElem?_cons_zero]; rfl) (fun hk K hK => ?_) ?_
          · (obtain ⟨v, r118, hf⟩ := Known.get (hk 26 (by kernel_rfl) (by simp)) (d := 118) (by kernel_rfl); simp only [woF] at hf; (try subst hf)); (obtain ⟨v, r122, hf⟩ := Known.get (hk 30 (by kernel_rfl) (by simp)) (d := 122) (by kernel_rfl); simp only [woF] at hf; (try subst hf))
            cases b1
            · rw [if_neg (wanted_no rfl (by kernel_rfl) r118 rfl)]
              exact hK.out _ _ _ rfl rfl hT (Below.refl _ _)
            · rw [if_pos (wanted_yes rfl (by kernel_rfl) r118)]; obtain ⟨ρ, hρ⟩ : ∃ ρ, a'.eval = ρ := ⟨_, rfl⟩; have qc : ∀ v, ρ (.const v) = v := (fun v => (by rw [← hρ]; rfl)); have qf : ∀ f, ρ (.func f) = .func (.func f) #[] #[] := (fun f => (by rw [← hρ]; rfl)); have q122 := eval_of r122; rw [hρ] at q122; refine abs_op ρ hρ ?_; clear hρ; go_simp
              exact hK.out _ _ _ rfl rfl hT (Below.refl _ _)
          refine LinOps.cons (by simp only [List.getElem?_toArray, List.getElem?_cons_succ, List.getElem?_cons_zero]; rfl) (fun hk K hK => ?_) ?_
          · (obtain ⟨v, r118, hf⟩ := Known.get (hk 26 (by kernel_rfl) (by simp)) (d := 118) (by kernel_rfl); simp only [woF] at hf; (try subst hf))
            cases b1
            · rw [if_neg (wanted_no rfl (by kernel_rfl) r118 rfl)]
              exact hK.out _ _ _ rfl rfl hT (Below.refl _ _)
            · rw [if_pos (wanted_yes rfl (by kernel_rfl) r118)]; obtain ⟨ρ, hρ⟩ : ∃ ρ, a'.eval = ρ := ⟨_, rfl⟩; have qc : ∀ v, ρ (.const v) = v := (fun v => (by rw [← hρ]; rfl)); have qf : ∀ f, ρ (.func f) = .func (.func f) #[] #[] := (fun f => (by rw [← hρ]; rfl)); have q11 := eval_of r11; rw [hρ] at q11; refine abs_op ρ hρ ?_; clear hρ; go_simp
              exact hK.out _ _ _ rfl rfl hT (Below.refl _ _)
          refine LinOps.cons (by simp only [List.getElem?_toArray, List.getElem?_cons_succ, List.getElem?_cons_zero]; rfl) (fun hk K hK => ?_) ?_
          · (obtain ⟨v, r118, hf⟩ := Known.get (hk 26 (by kernel_rfl) (by simp)) (d := 118) (by kernel_rfl); simp only [woF] at hf; (try subst hf))
            cases b1
            · rw [if_neg (wanted_no rfl (by kernel_rfl) r118 rfl)]
              exact hK.out _ _ _ rfl rfl hT (Below.refl _ _)
            · rw [if_pos (wanted_yes rfl (by kernel_rfl) r118)]; obtain ⟨ρ, hρ⟩ : ∃ ρ, a'.eval = ρ := ⟨_, rfl⟩; have qc : ∀ v, ρ (.const v) = v := (fun v => (by rw [← hρ]; rfl)); have qf : ∀ f, ρ (.func f) = .func (.func f) #[] #[] := (fun f => (by rw [← hρ]; rfl)); have q17 := eval_of r17; rw [hρ] at q17; refine abs_op ρ hρ ?_; clear hρ; go_simp
              exact hK.out _ _ _ rfl rfl hT (Below.refl _ _)
          refine LinOps.cons (by simp only [List.getElem?_toArray, List.getElem?_cons_succ, List.getElem?_cons_zero]; rfl) (fun hk K hK => ?_) ?_
          · (obtain ⟨v, r118, hf⟩ := Known.get (hk 26 (by kernel_rfl) (by simp)) (d := 118) (by kernel_rfl); simp only [woF] at hf; (try subst hf)); (obtain ⟨v, r125, hf⟩ := Known.get (hk 33 (by kernel_rfl) (by simp)) (d := 125) (by kernel_rfl); simp only [woF] at hf; (try subst hf))
            cases b1
            · rw [if_neg (wanted_no rfl (by kernel_rfl) r118 rfl)]
              exact hK.out _ _ _ rfl rfl hT (Below.refl _ _)
            · obtain ⟨hq0, hq2, hq3⟩ := hq1.out rfl
              rw [if_pos (wanted_yes rfl (by kernel_rfl) r118)]; obtain ⟨ρ, hρ⟩ : ∃ ρ, a'.eval = ρ := ⟨_, rfl⟩; have qc : ∀ v, ρ (.const v) = v := (fun v => (by rw [← hρ]; rfl)); have qf : ∀ f, ρ (.func f) = .func (.func f) #[] #[] := (fun f => (by rw [← hρ]; rfl)); have q125 := eval_of r125; rw [hρ] at q125; refine abs_op ρ hρ ?_; clear hρ; go_simp
              exact hK.out _ _ _ rfl (by show _ = Value.int .i64 (q : Int); rw [← hq0]; first | rfl | (congr 1; exact (IntWalk.i64_in _ (by omega))) | (congr 1; exact (IntWalk.i64_in _ (by omega)).symm)) hT (Below.refl _ _)
          refine LinOps.cons (by simp only [List.getElem?_toArray, List.getElem?_cons_succ, List.getElem?_cons_zero]; rfl) (fun hk K hK => ?_) ?_
          · (obtain ⟨v, r118, hf⟩ := Known.get (hk 26 (by kernel_rfl) (by simp)) (d := 118) (by kernel_rfl); simp only [woF] at hf; (try subst hf)); (obtain ⟨v, r124, hf⟩ := Known.get (hk 32 (by kernel_rfl) (by simp)) (d := 124) (by kernel_rfl); simp only [woF] at hf; (try subst hf)); (obtain ⟨v, r126, hf⟩ := Known.get (hk 34 (by kernel_rfl) (by simp)) (d := 126) (by kernel_rfl); simp only [woF] at hf; (try subst hf))
            cases b1
            · rw [if_neg (wanted_no rfl (by kernel_rfl) r118 rfl)]
              exact hK.out _ _ _ rfl rfl hT (Below.refl _ _)
            · obtain ⟨hq0, hq2, hq3⟩ := hq1.out rfl
              rw [if_pos (wanted_yes rfl (by kernel_rfl) r118)]; obtain ⟨ρ, hρ⟩ : ∃ ρ, a'.eval = ρ := ⟨_, rfl⟩; have qc : ∀ v, ρ (.const v) = v := (fun v => (by rw [← hρ]; rfl)); have qf : ∀ f, ρ (.func f) = .func (.func f) #[] #[] := (fun f => (by rw [← hρ]; rfl)); have q124 := eval_of r124; rw [hρ] at q124; have q126 := eval_of r126; rw [hρ] at q126; refine abs_op ρ hρ ?_; clear hρ; go_simp
              exact hK.out _ _ _ rfl rfl hT (Below.refl _ _)
          refine LinOps.cons (by simp only [List.getElem?_toArray, List.getElem?_cons_succ, List.getElem?_cons_zero]; rfl) (fun hk K hK => ?_) ?_
          · (obtain ⟨v, r118, hf⟩ := Known.get (hk 26 (by kernel_rfl) (by simp)) (d := 118) (by kernel_rfl); simp only [woF] at hf; (try subst hf)); (obtain ⟨v, r127, hf⟩ := Known.get (hk 35 (by kernel_rfl) (by simp)) (d := 127) (by kernel_rfl); simp only [woF] at hf; (try subst hf))
            cases b1
            · rw [if_neg (wanted_no rfl (by kernel_rfl) r118 rfl)]
              exact hK.out _ _ _ rfl rfl hT (Below.refl _ _)
            · rw [if_pos (wanted_yes rfl (by kernel_rfl) r118)]; obtain ⟨ρ, hρ⟩ : ∃ ρ, a'.eval = ρ := ⟨_, rfl⟩; have qc : ∀ v, ρ (.const v) = v := (fun v => (by rw [← hρ]; rfl)); have qf : ∀ f, ρ (.func f) = .func (.func f) #[] #[] := (fun f => (by rw [← hρ]; rfl)); have q127 := eval_of r127; rw [hρ] at q127; refine abs_op ρ hρ ?_; clear hρ; go_simp
              exact hK.out _ _ _ rfl rfl hT (Below.refl _ _)
          refine LinOps.cons (by simp only [List.getElem?_toArray, List.getElem?_cons_succ, List.getElem?_cons_zero]; rfl) (fun hk K hK => ?_) ?_
          · (obtain ⟨v, r118, hf⟩ := Known.get (hk 26 (by kernel_rfl) (by simp)) (d := 118) (by kernel_rfl); simp only [woF] at hf; (try subst hf)); (obtain ⟨v, r128, hf⟩ := Known.get (hk 36 (by kernel_rfl) (by simp)) (d := 128) (by kernel_rfl); simp only [woF] at hf; (try subst hf))
            cases b1
            · rw [if_neg (wanted_no rfl (by kernel_rfl) r118 rfl)]
              exact hK.out _ _ _ rfl rfl hT (Below.refl _ _)
            · rw [if_pos (wanted_yes rfl (by kernel_rfl) r118)]; obtain ⟨ρ, hρ⟩ : ∃ ρ, a'.eval = ρ := ⟨_, rfl⟩; have qc : ∀ v, ρ (.const v) = v := (fun v => (by rw [← hρ]; rfl)); have qf : ∀ f, ρ (.func f) = .func (.func f) #[] #[] := (fun f => (by rw [← hρ]; rfl)); have q128 := eval_of r128; rw [hρ] at q128; refine abs_op ρ hρ ?_; clear hρ; go_simp
              exact hK.out _ _ _ rfl rfl hT (Below.refl _ _)
          refine LinOps.cons (by simp only [List.getElem?_toArray, List.getElem?_cons_succ, List.getElem?_cons_zero]; rfl) (fun hk K hK => ?_) ?_
          · (obtain ⟨v, r118, hf⟩ := Known.get (hk 26 (by kernel_rfl) (by simp)) (d := 118) (by kernel_rfl); simp only [woF] at hf; (try subst hf)); (obtain ⟨v, r123, hf⟩ := Known.get (hk 31 (by kernel_rfl) (by simp)) (d := 123) (by kernel_rfl); simp only [woF] at hf; (try subst hf)); (obtain ⟨v, r129, hf⟩ := Known.get (hk 37 (by kernel_rfl) (by simp)) (d := 129) (by kernel_rfl); simp only [woF] at hf; (try subst hf))
            cases b1
            · rw [if_neg (wanted_no rfl (by kernel_rfl) r118 rfl)]
              exact hK.out _ _ _ rfl rfl hT (Below.refl _ _)
            · have hx1 := (hlow.out rfl).1
              rw [if_pos (wanted_yes rfl (by kernel_rfl) r118)]; obtain ⟨ρ, hρ⟩ : ∃ ρ, a'.eval = ρ := ⟨_, rfl⟩; have qc : ∀ v, ρ (.const v) = v := (fun v => (by rw [← hρ]; rfl)); have qf : ∀ f, ρ (.func f) = .func (.func f) #[] #[] := (fun f => (by rw [← hρ]; rfl)); have q123 := eval_of r123; rw [hρ] at q123; have q129 := eval_of r129; rw [hρ] at q129; refine abs_op ρ hρ ?_; clear hρ; go_simp
              exact hK.out _ _ _ rfl (by first | rfl | (show _ = Value.bool false; first | rw [hx1] | (simp only [hx1]))) hT (Below.refl _ _)
          refine LinOps.cons (by simp only [List.getElem?_toArray, List.getElem?_cons_succ, List.getElem?_cons_zero]; rfl) (fun hk K hK => ?_) ?_
          · (obtain ⟨v, r118, hf⟩ := Known.get (hk 26 (by kernel_rfl) (by simp)) (d := 118) (by kernel_rfl); simp only [woF] at hf; (try subst hf)); (obtain ⟨v, r130, hf⟩ := Known.get (hk 38 (by kernel_rfl) (by simp)) (d := 130) (by kernel_rfl); simp only [woF] at hf; (try subst hf))
            cases b1
            · rw [if_neg (wanted_no rfl (by kernel_rfl) r118 rfl)]
              exact hK.out _ _ _ rfl rfl hT (Below.refl _ _)
            · rw [if_pos (wanted_yes rfl (by kernel_rfl) r118)]; obtain ⟨ρ, hρ⟩ : ∃ ρ, a'.eval = ρ := ⟨_, rfl⟩; have qc : ∀ v, ρ (.const v) = v := (fun v => (by rw [← hρ]; rfl)); have qf : ∀ f, ρ (.func f) = .func (.func f) #[] #[] := (fun f => (by rw [← hρ]; rfl)); have q130 := eval_of r130; rw [hρ] at q130; refine abs_op ρ hρ ?_; clear hρ; go_simp
              exact hK.out _ _ _ rfl rfl hT (Below.refl _ _)
          refine LinOps.cons (by simp only [List.getElem?_toArray, List.getElem?_cons_succ, List.getElem?_cons_zero]; rfl) (fun hk K hK => ?_) ?_
          · (obtain ⟨v, r131, hf⟩ := Known.get (hk 39 (by kernel_rfl) (by simp)) (d := 131) (by kernel_rfl); simp only [woF] at hf; (try subst hf))
            cases b1
            · simp only [↓reduceIte, Bool.false_eq_true] at r131
              rw [if_neg (wanted_un rfl (by kernel_rfl) r131)]
              exact hK.out _ _ _ rfl rfl hT (Below.refl _ _)
            · simp only [↓reduceIte] at r131
              rw [if_pos (wanted_yes rfl (by kernel_rfl) r131)]; obtain ⟨ρ, hρ⟩ : ∃ ρ, a'.eval = ρ := ⟨_, rfl⟩; have qc : ∀ v, ρ (.const v) = v := (fun v => (by rw [← hρ]; rfl)); have qf : ∀ f, ρ (.func f) = .func (.func f) #[] #[] := (fun f => (by rw [← hρ]; rfl)); have q11 := eval_of r11; rw [hρ] at q11; refine abs_op ρ hρ ?_; clear hρ; go_simp
              exact hK.out _ _ _ rfl rfl hT (Below.refl _ _)
          refine LinOps.cons (by simp only [List.getElem?_toArray, List.getElem?_cons_succ, List.getElem?_cons_zero]; rfl) (fun hk K hK => ?_) ?_
          · (obtain ⟨v, r131, hf⟩ := Known.get (hk 39 (by kernel_rfl) (by simp)) (d := 131) (by kernel_rfl); simp only [woF] at hf; (try subst hf))
            cases b1
            · simp only [↓reduceIte, Bool.false_eq_true] at r131
              rw [if_neg (wanted_un rfl (by kernel_rfl) r131)]
              exact hK.out _ _ _ rfl rfl hT (Below.refl _ _)
            · simp only [↓reduceIte] at r131
              rw [if_pos (wanted_yes rfl (by kernel_rfl) r131)]; obtain ⟨ρ, hρ⟩ : ∃ ρ, a'.eval = ρ := ⟨_, rfl⟩; have qc : ∀ v, ρ (.const v) = v := (fun v => (by rw [← hρ]; rfl)); have qf : ∀ f, ρ (.func f) = .func (.func f) #[] #[] := (fun f => (by rw [← hρ]; rfl)); have q17 := eval_of r17; rw [hρ] at q17; refine abs_op ρ hρ ?_; clear hρ; go_simp
              exact hK.out _ _ _ rfl rfl hT (Below.refl _ _)
          refine LinOps.cons (by simp only [List.getElem?_toArray, List.getElem?_cons_succ, List.getElem?_cons_zero]; rfl) (fun hk K hK => ?_) ?_
          · (obtain ⟨v, r131, hf⟩ := Known.get (hk 39 (by kernel_rfl) (by simp)) (d := 131) (by kernel_rfl); simp only [woF] at hf; (try subst hf)); (obtain ⟨v, r132, hf⟩ := Known.get (hk 40 (by kernel_rfl) (by simp)) (d := 132) (by kernel_rfl); simp only [woF] at hf; (try subst hf)); (obtain ⟨v, r133, hf⟩ := Known.get (hk 41 (by kernel_rfl) (by simp)) (d := 133) (by kernel_rfl); simp only [woF] at hf; (try subst hf))
            cases b1
            · simp only [↓reduceIte, Bool.false_eq_true] at r131
              rw [if_neg (wanted_un rfl (by kernel_rfl) r131)]
              exact hK.out _ _ _ rfl rfl hT (Below.refl _ _)
            · simp only [↓reduceIte] at r131
              rw [if_pos (wanted_yes rfl (by kernel_rfl) r131)]; obtain ⟨ρ, hρ⟩ : ∃ ρ, a'.eval = ρ := ⟨_, rfl⟩; have qc : ∀ v, ρ (.const v) = v := (fun v => (by rw [← hρ]; rfl)); have qf : ∀ f, ρ (.func f) = .func (.func f) #[] #[] := (fun f => (by rw [← hρ]; rfl)); have q132 := eval_of r132; rw [hρ] at q132; have q133 := eval_of r133; rw [hρ] at q133; refine abs_op ρ hρ ?_; clear hρ; go_simp
              exact hK.out _ _ _ rfl rfl hT (Below.refl _ _)
          refine LinOps.cons (by simp only [List.getElem?_toArray, List.getElem?_cons_succ, List.getElem?_cons_zero]; rfl) (fun hk K hK => ?_) ?_
          · (obtain ⟨v, r131, hf⟩ := Known.get (hk 39 (by kernel_rfl) (by simp)) (d := 131) (by kernel_rfl); simp only [woF] at hf; (try subst hf)); (obtain ⟨v, r134, hf⟩ := Known.get (hk 42 (by kernel_rfl) (by simp)) (d := 134) (by kernel_rfl); simp only [woF] at hf; (try subst hf))
            cases b1
            · simp only [↓reduceIte, Bool.false_eq_true] at r131
              rw [if_neg (wanted_un rfl (by kernel_rfl) r131)]
              exact hK.out _ _ _ rfl rfl hT (Below.refl _ _)
            · simp only [↓reduceIte] at r131
              rw [if_pos (wanted_yes rfl (by kernel_rfl) r131)]; obtain ⟨ρ, hρ⟩ : ∃ ρ, a'.eval = ρ := ⟨_, rfl⟩; have qc : ∀ v, ρ (.const v) = v := (fun v => (by rw [← hρ]; rfl)); have qf : ∀ f, ρ (.func f) = .func (.func f) #[] #[] := (fun f => (by rw [← hρ]; rfl)); have q134 := eval_of r134; rw [hρ] at q134; refine abs_op ρ hρ ?_; clear hρ; go_simp
              exact hK.out _ _ _ rfl rfl hT (Below.refl _ _)
          refine LinOps.cons (by simp only [List.getElem?_toArray, List.getElem?_cons_succ, List.getElem?_cons_zero]; rfl) (fun hk K hK => ?_) ?_
          · (obtain ⟨v, r131, hf⟩ := Known.get (hk 39 (by kernel_rfl) (by simp)) (d := 131) (by kernel_rfl); simp only [woF] at hf; (try subst hf)); (obtain ⟨v, r135, hf⟩ := Known.get (hk 43 (by kernel_rfl) (by simp)) (d := 135) (by kernel_rfl); simp only [woF] at hf; (try subst hf))
            cases b1
            · simp only [↓reduceIte, Bool.false_eq_true] at r131
              rw [if_neg (wanted_un rfl (by kernel_rfl) r131)]
              exact hK.out _ _ _ rfl rfl hT (Below.refl _ _)
            · simp only [↓reduceIte] at r131
              rw [if_pos (wanted_yes rfl (by kernel_rfl) r131)]; obtain ⟨ρ, hρ⟩ : ∃ ρ, a'.eval = ρ := ⟨_, rfl⟩; have qc : ∀ v, ρ (.const v) = v := (fun v => (by rw [← hρ]; rfl)); have qf : ∀ f, ρ (.func f) = .func (.func f) #[] #[] := (fun f => (by rw [← hρ]; rfl)); have q135 := eval_of r135; rw [hρ] at q135; refine abs_op ρ hρ ?_; clear hρ; go_simp
              exact hK.out _ _ _ rfl rfl hT (Below.refl _ _)
          refine LinOps.cons (by simp only [List.getElem?_toArray, List.getElem?_cons_succ, List.getElem?_cons_zero]; rfl) (fun hk K hK => ?_) ?_
          · (obtain ⟨v, r131, hf⟩ := Known.get (hk 39 (by kernel_rfl) (by simp)) (d := 131) (by kernel_rfl); simp only [woF] at hf; (try subst hf))
            cases b1
            · simp only [↓reduceIte, Bool.false_eq_true] at r131
              rw [if_neg (wanted_un rfl (by kernel_rfl) r131)]
              exact hK.out _ _ _ rfl rfl hT (Below.refl _ _)
            · simp only [↓reduceIte] at r131
              rw [if_pos (wanted_yes rfl (by kernel_rfl) r131)]; obtain ⟨ρ, hρ⟩ : ∃ ρ, a'.eval = ρ := ⟨_, rfl⟩; have qc : ∀ v, ρ (.const v) = v := (fun v => (by rw [← hρ]; rfl)); have qf : ∀ f, ρ (.func f) = .func (.func f) #[] #[] := (fun f => (by rw [← hρ]; rfl)); have q11 := eval_of r11; rw [hρ] at q11; refine abs_op ρ hρ ?_; clear hρ; go_simp
              exact hK.out _ _ _ rfl rfl hT (Below.refl _ _)
          refine LinOps.cons (by simp only [List.getElem?_toArray, List.getElem?_cons_succ, List.getElem?_cons_zero]; rfl) (fun hk K hK => ?_) ?_
          · (obtain ⟨v, r131, hf⟩ := Known.get (hk 39 (by kernel_rfl) (by simp)) (d := 131) (by kernel_rfl); simp only [woF] at hf; (try subst hf))
            cases b1
            · simp only [↓reduceIte, Bool.false_eq_true] at r131
              rw [if_neg (wanted_un rfl (by kernel_rfl) r131)]
              exact hK.out _ _ _ rfl rfl hT (Below.refl _ _)
            · simp only [↓reduceIte] at r131
              rw [if_pos (wanted_yes rfl (by kernel_rfl) r131)]; obtain ⟨ρ, hρ⟩ : ∃ ρ, a'.eval = ρ := ⟨_, rfl⟩; have qc : ∀ v, ρ (.const v) = v := (fun v => (by rw [← hρ]; rfl)); have qf : ∀ f, ρ (.func f) = .func (.func f) #[] #[] := (fun f => (by rw [← hρ]; rfl)); have q17 := eval_of r17; rw [hρ] at q17; refine abs_op ρ hρ ?_; clear hρ; go_simp
              exact hK.out _ _ _ rfl rfl hT (Below.refl _ _)
          refine LinOps.cons (by simp only [List.getElem?_toArray, List.getElem?_cons_succ, List.getElem?_cons_zero]; rfl) (fun hk K hK => ?_) ?_
          · (obtain ⟨v, r131, hf⟩ := Known.get (hk 39 (by kernel_rfl) (by simp)) (d := 131) (by kernel_rfl); simp only [woF] at hf; (try subst hf)); (obtain ⟨v, r138, hf⟩ := Known.get (hk 46 (by kernel_rfl) (by simp)) (d := 138) (by kernel_rfl); simp only [woF] at hf; (try subst hf))
            cases b1
            · simp only [↓reduceIte, Bool.false_eq_true] at r131
              rw [if_neg (wanted_un rfl (by kernel_rfl) r131)]
              exact hK.out _ _ _ rfl rfl hT (Below.refl _ _)
            · simp only [↓reduceIte] at r131
              obtain ⟨hq0, hq2, hq3⟩ := hq1.out rfl
              rw [if_pos (wanted_yes rfl (by kernel_rfl) r131)]; obtain ⟨ρ, hρ⟩ : ∃ ρ, a'.eval = ρ := ⟨_, rfl⟩; have qc : ∀ v, ρ (.const v) = v := (fun v => (by rw [← hρ]; rfl)); have qf : ∀ f, ρ (.func f) = .func (.func f) #[] #[] := (fun f => (by rw [← hρ]; rfl)); have q138 := eval_of r138; rw [hρ] at q138; refine abs_op ρ hρ ?_; clear hρ; go_simp
              exact hK.out _ _ _ rfl (by show _ = Value.int .i64 (q : Int); rw [← hq0]; first | rfl | (congr 1; exact (IntWalk.i64_in _ (by omega))) | (congr 1; exact (IntWalk.i64_in _ (by omega)).symm)) hT (Below.refl _ _)
          refine LinOps.cons (by simp only [List.getElem?_toArray, List.getElem?_cons_succ, List.getElem?_cons_zero]; rfl) (fun hk K hK => ?_) ?_
          · (obtain ⟨v, r131, hf⟩ := Known.get (hk 39 (by kernel_rfl) (by simp)) (d := 131) (by kernel_rfl); simp only [woF] at hf; (try subst hf)); (obtain ⟨v, r137, hf⟩ := Known.get (hk 45 (by kernel_rfl) (by simp)) (d := 137) (by kernel_rfl); simp only [woF] at hf; (try subst hf)); (obtain ⟨v, r139, hf⟩ := Known.get (hk 47 (by kernel_rfl) (by simp)) (d := 139) (by kernel_rfl); simp only [woF] at hf; (try subst hf))
            cases b1
            · simp only [↓reduceIte, Bool.false_eq_true] at r131
              rw [if_neg (wanted_un rfl (by kernel_rfl) r131)]
              exact hK.out _ _ _ rfl rfl hT (Below.refl _ _)
            · simp only [↓reduceIte] at r131
              obtain ⟨hq0, hq2, hq3⟩ := hq1.out rfl
              rw [if_pos (wanted_yes rfl (by kernel_rfl) r131)]; obtain ⟨ρ, hρ⟩ : ∃ ρ, a'.eval = ρ := ⟨_, rfl⟩; have qc : ∀ v, ρ (.const v) = v := (fun v => (by rw [← hρ]; rfl)); have qf : ∀ f, ρ (.func f) = .func (.func f) #[] #[] := (fun f => (by rw [← hρ]; rfl)); have q137 := eval_of r137; rw [hρ] at q137; have q139 := eval_of r139; rw [hρ] at q139; refine abs_op ρ hρ ?_; clear hρ; go_simp
              exact hK.out _ _ _ rfl rfl hT (Below.refl _ _)
          refine LinOps.cons (by simp only [List.getElem?_toArray, List.getElem?_cons_succ, List.getElem?_cons_zero]; rfl) (fun hk K hK => ?_) ?_
          · (obtain ⟨v, r131, hf⟩ := Known.get (hk 39 (by kernel_rfl) (by simp)) (d := 131) (by kernel_rfl); simp only [woF] at hf; (try subst hf)); (obtain ⟨v, r140, hf⟩ := Known.get (hk 48 (by kernel_rfl) (by simp)) (d := 140) (by kernel_rfl); simp only [woF] at hf; (try subst hf))
            cases b1
            · simp only [↓reduceIte, Bool.false_eq_true] at r131
              rw [if_neg (wanted_un rfl (by kernel_rfl) r131)]
              exact hK.out _ _ _ rfl rfl hT (Below.refl _ _)
            · simp only [↓reduceIte] at r131
              rw [if_pos (wanted_yes rfl (by kernel_rfl) r131)]; obtain ⟨ρ, hρ⟩ : ∃ ρ, a'.eval = ρ := ⟨_, rfl⟩; have qc : ∀ v, ρ (.const v) = v := (fun v => (by rw [← hρ]; rfl)); have qf : ∀ f, ρ (.func f) = .func (.func f) #[] #[] := (fun f => (by rw [← hρ]; rfl)); have q140 := eval_of r140; rw [hρ] at q140; refine abs_op ρ hρ ?_; clear hρ; go_simp
              exact hK.out _ _ _ rfl rfl hT (Below.refl _ _)
          refine LinOps.cons (by simp only [List.getElem?_toArray, List.getElem?_cons_succ, List.getElem?_cons_zero]; rfl) (fun hk K hK => ?_) ?_
          · (obtain ⟨v, r131, hf⟩ := Known.get (hk 39 (by kernel_rfl) (by simp)) (d := 131) (by kernel_rfl); simp only [woF] at hf; (try subst hf)); (obtain ⟨v, r141, hf⟩ := Known.get (hk 49 (by kernel_rfl) (by simp)) (d := 141) (by kernel_rfl); simp only [woF] at hf; (try subst hf))
            cases b1
            · simp only [↓reduceIte, Bool.false_eq_true] at r131
              rw [if_neg (wanted_un rfl (by kernel_rfl) r131)]
              exact hK.out _ _ _ rfl rfl hT (Below.refl _ _)
            · simp only [↓reduceIte] at r131
              rw [if_pos (wanted_yes rfl (by kernel_rfl) r131)]; obtain ⟨ρ, hρ⟩ : ∃ ρ, a'.eval = ρ := ⟨_, rfl⟩; have qc : ∀ v, ρ (.const v) = v := (fun v => (by rw [← hρ]; rfl)); have qf : ∀ f, ρ (.func f) = .func (.func f) #[] #[] := (fun f => (by rw [← hρ]; rfl)); have q141 := eval_of r141; rw [hρ] at q141; refine abs_op ρ hρ ?_; clear hρ; go_simp
              exact hK.out _ _ _ rfl rfl hT (Below.refl _ _)
          refine LinOps.cons (by simp only [List.getElem?_toArray, List.getElem?_cons_succ, List.getElem?_cons_zero]; rfl) (fun hk K hK => ?_) ?_
          · (obtain ⟨v, r131, hf⟩ := Known.get (hk 39 (by kernel_rfl) (by simp)) (d := 131) (by kernel_rfl); simp only [woF] at hf; (try subst hf)); (obtain ⟨v, r136, hf⟩ := Known.get (hk 44 (by kernel_rfl) (by simp)) (d := 136) (by kernel_rfl); simp only [woF] at hf; (try subst hf)); (obtain ⟨v, r142, hf⟩ := Known.get (hk 50 (by kernel_rfl) (by simp)) (d := 142) (by kernel_rfl); simp only [woF] at hf; (try subst hf))
            cases b1
            · simp only [↓reduceIte, Bool.false_eq_true] at r131
              rw [if_neg (wanted_un rfl (by kernel_rfl) r131)]
              exact hK.out _ _ _ rfl rfl hT (Below.refl _ _)
            · simp only [↓reduceIte] at r131
              have hx1 := (hlow.out rfl).2
              rw [if_pos (wanted_yes rfl (by kernel_rfl) r131)]; obtain ⟨ρ, hρ⟩ : ∃ ρ, a'.eval = ρ := ⟨_, rfl⟩; have qc : ∀ v, ρ (.const v) = v := (fun v => (by rw [← hρ]; rfl)); have qf : ∀ f, ρ (.func f) = .func (.func f) #[] #[] := (fun f => (by rw [← hρ]; rfl)); have q136 := eval_of r136; rw [hρ] at q136; have q142 := eval_of r142; rw [hρ] at q142; refine abs_op ρ hρ ?_; clear hρ; go_simp
              exact hK.out _ _ _ rfl (by first | rfl | (show _ = Value.bool false; first | rw [hx1] | (simp only [hx1]))) hT (Below.refl _ _)
          refine LinOps.cons (by simp only [List.getElem?_toArray, List.getElem?_cons_succ, List.getElem?_cons_zero]; rfl) (fun hk K hK => ?_) ?_
          · (obtain ⟨v, r118, hf⟩ := Known.get (hk 26 (by kernel_rfl) (by simp)) (d := 118) (by kernel_rfl); simp only [woF] at hf; (try subst hf)); (obtain ⟨v, r131, hf⟩ := Known.get (hk 39 (by kernel_rfl) (by simp)) (d := 131) (by kernel_rfl); simp only [woF] at hf; (try subst hf)); (obtain ⟨v, r143, hf⟩ := Known.get (hk 51 (by kernel_rfl) (by simp)) (d := 143) (by kernel_rfl); simp only [woF] at hf; (try subst hf))
            cases b1
            · rw [if_neg (wanted_no rfl (by kernel_rfl) r118 rfl)]
              exact hK.out _ _ _ rfl rfl hT (Below.refl _ _)
            · rw [if_pos (wanted_yes rfl (by kernel_rfl) r118)]; obtain ⟨ρ, hρ⟩ : ∃ ρ, a'.eval = ρ := ⟨_, rfl⟩; have qc : ∀ v, ρ (.const v) = v := (fun v => (by rw [← hρ]; rfl)); have qf : ∀ f, ρ (.func f) = .func (.func f) #[] #[] := (fun f => (by rw [← hρ]; rfl)); have q131 := eval_of r131; rw [hρ] at q131; have q143 := eval_of r143; rw [hρ] at q143; refine abs_op ρ hρ ?_; clear hρ; go_simp
              exact hK.out _ _ _ rfl rfl hT (Below.refl _ _)
          refine LinOps.cons (by simp only [List.getElem?_toArray, List.getElem?_cons_succ, List.getElem?_cons_zero]; rfl) (fun hk K hK => ?_) ?_
          · (obtain ⟨v, r115, hf⟩ := Known.get (hk 23 (by kernel_rfl) (by simp)) (d := 115) (by kernel_rfl); simp only [woF] at hf; (try subst hf)); (obtain ⟨v, r118, hf⟩ := Known.get (hk 26 (by kernel_rfl) (by simp)) (d := 118) (by kernel_rfl); simp only [woF] at hf; (try subst hf)); (obtain ⟨v, r144, hf⟩ := Known.get (hk 52 (by kernel_rfl) (by simp)) (d := 144) (by kernel_rfl); simp only [woF] at hf; (try subst hf))
            cases b1
            all_goals
              rw [if_pos (wanted_yes rfl (by kernel_rfl) r115)]; obtain ⟨ρ, hρ⟩ : ∃ ρ, a'.eval = ρ := ⟨_, rfl⟩; have qc : ∀ v, ρ (.const v) = v := (fun v => (by rw [← hρ]; rfl)); have qf : ∀ f, ρ (.func f) = .func (.func f) #[] #[] := (fun f => (by rw [← hρ]; rfl)); have q118 := eval_of r118; rw [hρ] at q118; have q144 := eval_of r144; rw [hρ] at q144; refine abs_op ρ hρ ?_; clear hρ; go_simp
              exact hK.out _ _ _ rfl rfl hT (Below.refl _ _)
          exact LinOps.nil
        · intro a' w' hd hsz hkn hT hall
          (obtain ⟨v, r115, hf⟩ := Known.get (hall 23 (by kernel_rfl) ) (d := 115) (by kernel_rfl); simp only [woF] at hf; (try subst hf))
          (obtain ⟨v, r145, hf⟩ := Known.get (hall 53 (by kernel_rfl) ) (d := 145) (by kernel_rfl); simp only [woF] at hf; (try subst hf))
          clear hall
          have hlit := hid (act_lit hd hsz hkn)
          clear hd hkn
          refine wpAny_ready (rs := [54]) (by kernel_rfl) (by simp) ?_; refine AllReady.cons (by simp only [List.getElem?_toArray, List.getElem?_cons_succ, List.getElem?_cons_zero]; rfl) (fun K hK => ?_) AllReady.nil
          rw [if_pos (wanted_none rfl)]; obtain ⟨ρ, hρ⟩ : ∃ ρ, a'.eval = ρ := ⟨_, rfl⟩; have qc : ∀ v, ρ (.const v) = v := (fun v => (by rw [← hρ]; rfl)); have qf : ∀ f, ρ (.func f) = .func (.func f) #[] #[] := (fun f => (by rw [← hρ]; rfl)); have q115 := eval_of r115; rw [hρ] at q115; have q145 := eval_of r145; rw [hρ] at q145; refine abs_op ρ hρ ?_; clear hρ; go_simp
          refine hK _ _ ?_
          clear hK K
          refine wpAny_done (by kernel_rfl) ?_ _
          go_wp2_with fail
          refine Met.intro ?_
          go_step
          (repeat apply Exists.intro)
          refine And.intro ?_ ?_
          rotate_left 1
          (focus (refine (put_lit hlit.out).trans ?_; rfl))
          any_goals exact ⟨rfl, hT⟩
      case rest =>
        obtain ⟨rfl, hbc⟩ := hcut
        have hBc := hBr.trans (hbc.mono hBr.size)
        go_wp2_with fail
        exact ⟨⟨p + 1, hlt, by go_num, hBc⟩, by simp [intOf]; omega⟩
    · obtain rfl : p = ls.length := by omega
      have c0 := (hBr.cell (p := ⟨w.heap.size, 0, none⟩) e6).trans c0'
      have c1 := (hBr.cell (p := ⟨w.heap.size, 1, none⟩) e6).trans c1'
      have s0 := (hBr.cell (p := ⟨w5.heap.size, 0, none⟩) e6').trans d0
      have s1 := (hBr.cell (p := ⟨w5.heap.size, 1, none⟩) e6').trans d1
      have hAr := (hA6.below hBr).more hBr.size
      have hBir := (hBi6.below hBr).more hBr.size
      have hBwr := hBw.trans (hBr.mono (by omega))
      have g6 : w.heap.size < wo.heap.size := by omega
      have g6' : w5.heap.size < wo.heap.size := by omega
      clear c0' c1' d0 d1 hA6 hBi6 hBk6 hTk6 hO6 hBw hBr hzr hlt hp HK4 HK5 HK6 e6 e6'
      go_wp2_with (go_at_call 37; refine (truly_any set A Bi cap bcap fs bits _ ?_ ?_ hOk hn).mono ?_; (focus (refine (hAr.below ?_).more ?_; (repeat' (first | (with_reducible exact Below.refl _ _) | (with_reducible assumption) | (with_reducible refine Below.drew ?_) | (with_reducible refine below_drewN ?_ _) | (with_reducible refine Below.setCell ?_ ?_ _) | (with_reducible refine Below.alloc ?_ ?_ _) | go_size | (exact Below.size (by assumption)) | (refine Below.trans ?_ (Below.mono (by assumption) ?_)))))); (focus (refine (hBir.below ?_).more ?_; (repeat' (first | (with_reducible exact Below.refl _ _) | (with_reducible assumption) | (with_reducible refine Below.drew ?_) | (with_reducible refine below_drewN ?_ _) | (with_reducible refine Below.setCell ?_ ?_ _) | (with_reducible refine Below.alloc ?_ ?_ _) | go_size | (exact Below.size (by assumption)) | (refine Below.trans ?_ (Below.mono (by assumption) ?_)))))); rintro e w7 ⟨⟨O7, oc7, rfl, hoc7, hO7⟩, hb7⟩; (first | replace hb7 := Below.un1 hb7 | replace hb7 := Below.un2 hb7 | skip); obtain ⟨hc7, hf7, hl7, hm7, hw7⟩ := bcell hb7; have hz7 := hb7.size; (try simp only [World.size_alloc, World.size_setCell] at hz7))
      have x1 : (w7.alloc (.cells #[.int .i64 set, .slice O7 fs.length oc7] 24)).cell? ⟨w7.heap.size, 1, none⟩ = some (.slice O7 fs.length oc7) := by simp [go_sem]
      have t0 : w7.cell? ⟨w5.heap.size, 0, none⟩ = some (.int .i64 s.lo) := (hc7 _ _ g6').trans s0
      have t1 : w7.cell? ⟨w5.heap.size, 1, none⟩ = some (.int .i64 s.hi) := (hc7 _ _ g6').trans s1
      have hBw7 : Below w.heap.size w w7 := hBwr.trans (hb7.mono (by omega))
      have g7 : w5.heap.size < w7.heap.size := by omega
      have gw7 : w.heap.size ≤ w7.heap.size := by omega
      clear hc7 hf7 hl7 hm7 hw7 hb7 hz7 s0 s1 c0 c1 hAr hBir hBwr g6 g6' hoc7
      go_loopw [19, 20] (fun sv iv wr => ∃ (k : Nat) (sm : Int), k ≤ fs.length ∧ iv = .int .i64 k ∧ sv = .int .i64 sm ∧ 0 ≤ sm ∧ sm ≤ 4319 * k ∧ Hid (sm = stoodL ((trulyL fs bits).take k)) ∧ wr.cell? ⟨w7.heap.size, 1, none⟩ = some (.slice O7 fs.length oc7) ∧ w7.heap.size < wr.heap.size ∧ Below w7.heap.size w7 wr) (fun _ iv _ => fs.length - (intOf iv).toNat)
      case atStart => exact ⟨0, 0, Nat.zero_le _, rfl, rfl, by omega, by omega, hid rfl, x1, by simp, by (repeat' (first | (with_reducible exact Below.refl _ _) | (with_reducible assumption) | (with_reducible refine Below.drew ?_) | (with_reducible refine below_drewN ?_ _) | (with_reducible refine Below.setCell ?_ ?_ _) | (with_reducible refine Below.alloc ?_ ?_ _) | go_size | (exact Below.size (by assumption)) | (refine Below.trans ?_ (Below.mono (by assumption) ?_))))⟩
      case round =>
        obtain ⟨k, sm, hk, rfl, rfl, hsm0, hsm1, HSM, y1, hyz, hyB⟩ := hrel
        obtain ⟨wo2, rfl⟩ : ∃ wo2 : World, wo2 = wr := ⟨_, rfl⟩
        by_cases hlt : k < fs.length
        · have hkI : (k : Int) < fs.length := by omega
          have hkt : k < (trulyL fs bits).length := by rw [trulyL_length]; exact hlt
          have hke : k < (exactF (trulyL fs bits)).length := by simpa [exactF] using hkt
          obtain ⟨fb, fo, rfl, hfb, a0, -, a2, -⟩ := (hO7.below hyB).fr hke
          have HSN := hid (stoodL_snoc (trulyL fs bits) k hkt)
          obtain ⟨b1, b2, b3⟩ := HBD.out _ (List.getElem_mem hkt)
          have he : (exactF (trulyL fs bits))[k] = ⟨one (trulyL fs bits)[k].lo, one (trulyL fs bits)[k].hi⟩ := by simp [exactF]
          rw [he] at a0 a2
          simp only [one] at a0 a2
          clear he hke
          obtain ⟨t, ht⟩ : ∃ t, (trulyL fs bits)[k] = t := ⟨_, rfl⟩
          rw [ht] at a0 a2 b1 b2 b3
          have HT := hid ht
          clear ht
          have r1 : IntKind.i64.wrap (t.hi - t.lo) = t.hi - t.lo := IntWalk.i64_in _ (by omega)
          have r2 : IntKind.i64.wrap (sm + (t.hi - t.lo)) = sm + (t.hi - t.lo) := IntWalk.i64_in _ (by omega)
          go_wp2_with fail
          go_quiet (fail)
          go_wp2_with fail
          exact ⟨⟨k + 1, sm + (t.hi - t.lo), hlt, by go_num, by first | rfl | (rw [r1, r2]) | (rw [r2]), by omega, by omega, hid (by rw [HSN.out, HT.out, HSM.out]), by simpa [go_sem] using y1, by simpa using hyz, below_drewN hyB _⟩, by simp [intOf]; omega⟩
        · obtain rfl : k = fs.length := by omega
          have u0 := (hyB.cell (p := ⟨w5.heap.size, 0, none⟩) g7).trans t0
          have u1 := (hyB.cell (p := ⟨w5.heap.size, 1, none⟩) g7).trans t1
          have HF2 : Hid ((decide (s.lo ≤ sm) && decide (sm ≤ s.hi)) = true) := hid (by rw [HSM.out]; exact HFin.out)
          have hBx := hBw7.trans (hyB.mono gw7)
          have gx : w.heap.size ≤ wo2.heap.size := by omega
          clear HSM HFin t0 t1 hyB hBw7
          go_wp2_with (first
            | (go_at_call 39; refine (in_any _ _ _ _).mono ?_; rw [HF2.out]; rintro e w8 ⟨rfl, hb8⟩; (first | replace hb8 := Below.un1 hb8 | replace hb8 := Below.un2 hb8 | skip); obtain ⟨hc8, hf8, hl8, hm8, hw8⟩ := bcell hb8; have hz8 := hb8.size; (try simp only [World.size_alloc, World.size_setCell] at hz8))
            | (go_at_call 22; refine (ticks_any _).mono ?_; rintro e w9 ⟨rfl, hb9⟩; (first | replace hb9 := Below.un1 hb9 | replace hb9 := Below.un2 hb9 | skip); obtain ⟨hc9, hf9, hl9, hm9, hw9⟩ := bcell hb9; have hz9 := hb9.size; (try simp only [World.size_alloc, World.size_setCell] at hz9)))
          go_ret
          exact ⟨rfl, by (repeat' (first | (with_reducible exact Below.refl _ _) | (with_reducible assumption) | (with_reducible refine Below.drew ?_) | (with_reducible refine below_drewN ?_ _) | (with_reducible refine Below.setCell ?_ ?_ _) | (with_reducible refine Below.alloc ?_ ?_ _) | go_size | (exact Below.size (by assumption)) | (refine Below.trans ?_ (Below.mono (by assumption) ?_))))⟩
end Go.Proofs.Ytmddbnjbliponaa
