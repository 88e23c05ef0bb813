/- truly: a clock of which all frosts are known. -/
import Derived.Test.YtmddbnjbliponaaB2
import Derived.Test.YtmddbnjbliponaaN
import Derived.Test.YtmddbnjbliponaaTs
namespace Go.Proofs.Ytmddbnjbliponaa
set_option linter.unusedSimpArgs false
set_option linter.unusedVariables false
open Go.RowKit
attribute [local go_sem high] cell_set_wr
attribute [local go_sem low] cell_wr frozen_wr
attribute [local go_sem] wr_set wr_drew wr_drewN wr_alloc wr_new

/-- a number of a span that a number stands for -/
def someV (s : Sp) (n : Int) : Int := s.lo + windI n (s.hi - s.lo + 1)
def trueAt (bits : List Int) (i : Nat) (f : Fr) : When := ⟨someV f.b (nthI bits (2 * (i : Int))), someV f.e (nthI bits (2 * (i : Int) + 1))⟩
def trulyL (fs : List Fr) (bits : List Int) : List When := fs.mapIdx (trueAt bits)
theorem trulyL_snoc (fs : List Fr) (bits : List Int) (k : Nat) (hk : k < fs.length) : trulyL (fs.take (k + 1)) bits = trulyL (fs.take k) bits ++ [trueAt bits k fs[k]] := by
  unfold trulyL
  rw [List.take_succ_eq_append_getElem hk, List.mapIdx_concat, List.length_take, Nat.min_eq_left (by omega)]
theorem trulyL_length (fs : List Fr) (bits : List Int) : (trulyL fs bits).length = fs.length := by simp [trulyL]
theorem someV_in (s : Sp) (n : Int) (h : s.lo ≤ s.hi) : s.lo ≤ someV s n ∧ someV s n ≤ s.hi := by
  have := windI_range n (s.hi - s.lo + 1) (by omega)
  unfold someV
  omega
theorem truly_inT (fs : List Fr) (bits : List Int) (h : OkFs fs) : InT fs (trulyL fs bits) := by
  have go : ∀ (fs : List Fr) (g : Nat → Fr → When), (∀ i, ∀ f ∈ fs, f.b.lo ≤ (g i f).lo ∧ (g i f).lo ≤ f.b.hi ∧ f.e.lo ≤ (g i f).hi ∧ (g i f).hi ≤ f.e.hi) → InT fs (fs.mapIdx g) := fun fs => by
    induction fs with
    | nil => intro g _; exact trivial
    | cons f fs ih =>
      intro g hg
      rw [List.mapIdx_cons]
      exact ⟨hg 0 f (List.mem_cons_self ..), ih (fun i => g (i + 1)) fun i f hf => hg (i + 1) f (List.mem_cons_of_mem _ hf)⟩
  refine go fs _ fun i f hf => ?_
  obtain ⟨_, h1, _, _, h2, _⟩ := h.2 f hf
  have e1 := someV_in f.b (nthI bits (2 * (i : Int))) h1
  have e2 := someV_in f.e (nthI bits (2 * (i : Int) + 1)) h2
  exact ⟨e1.1, e1.2, e2.1, e2.2⟩


/-- what each step of truly's statement leaves -/
def trulyF (C X b o k n cap nb bcap : Nat) (ov : Value) (Bi : Option Addr) (bits : List Int) (g : Fr) : Nat → Value → World → Prop
  | 0, v, _ => v = .pointer (some ⟨X, 1, none⟩)
  | 1, v, _ => v = ov
  | 2, v, _ => v = .pointer (some ⟨C, 1, none⟩)
  | 3, v, _ => v = .slice (some ⟨b, o, none⟩) n cap
  | 4, v, _ => v = .int .i64 k
  | 5, v, _ => v = .pointer (some ⟨b, o + k * 4, none⟩)
  | 6, v, _ => v = .pointer (some ⟨b, o + k * 4, none⟩)
  | 7, v, _ => v = .agg #[.int .i64 g.b.lo, .int .i64 g.b.hi]
  | 8, v, _ => v = .slice Bi nb bcap
  | 9, v, _ => v = .int .i64 k
  | 10, v, _ => v = .int .i64 (2 * (k : Int))
  | 11, v, _ => v = .int .i64 (nthI bits (2 * (k : Int)))
  | 12, v, _ => v = .int .i64 (someV g.b (nthI bits (2 * (k : Int))))
  | 13, v, _ => v = .agg #[.int .i64 (someV g.b (nthI bits (2 * (k : Int)))), .int .i64 (someV g.b (nthI bits (2 * (k : Int))))]
  | 14, v, _ => v = .pointer (some ⟨C, 1, none⟩)
  | 15, v, _ => v = .slice (some ⟨b, o, none⟩) n cap
  | 16, v, _ => v = .int .i64 k
  | 17, v, _ => v = .pointer (some ⟨b, o + k * 4, none⟩)
  | 18, v, _ => v = .pointer (some ⟨b, o + k * 4 + 2, none⟩)
  | 19, v, _ => v = .agg #[.int .i64 g.e.lo, .int .i64 g.e.hi]
  | 20, v, _ => v = .slice Bi nb bcap
  | 21, v, _ => v = .int .i64 k
  | 22, v, _ => v = .int .i64 (2 * (k : Int))
  | 23, v, _ => v = .int .i64 (2 * (k : Int) + 1)
  | 24, v, _ => v = .int .i64 (nthI bits (2 * (k : Int) + 1))
  | 25, v, _ => v = .int .i64 (someV g.e (nthI bits (2 * (k : Int) + 1)))
  | 26, v, _ => v = .agg #[.int .i64 (someV g.e (nthI bits (2 * (k : Int) + 1))), .int .i64 (someV g.e (nthI bits (2 * (k : Int) + 1)))]
  | 27, v, _ => v = .agg #[.int .i64 (trueAt bits k g).lo, .int .i64 (trueAt bits k g).lo, .int .i64 (trueAt bits k g).hi, .int .i64 (trueAt bits k g).hi]
  | 28, v, w => ∃ A, v = .slice A 1 1 ∧ Arr w w.heap.size A [.int .i64 (trueAt bits k g).lo, .int .i64 (trueAt bits k g).lo, .int .i64 (trueAt bits k g).hi, .int .i64 (trueAt bits k g).hi]
  | _, _, _ => True

theorem trulyF_stable (C X b o k n cap nb bcap : Nat) (ov : Value) (Bi : Option Addr) (bits : List Int) (g : Fr) : ∀ j v w w', Below w.heap.size w w' → trulyF C X b o k n cap nb bcap ov Bi bits g j v w → trulyF C X b o k n cap nb bcap ov Bi bits g j v w' := by
  intro j v w w' hR h
  unfold trulyF at *
  split at h
  all_goals (try exact h)
  obtain ⟨A, h1, h2⟩ := h
  exact ⟨A, h1, (h2.below hR).more hR.size⟩

set_option maxRecDepth 100000 in
set_option maxHeartbeats 4000000 in
theorem truly_any (set : Int) (A Bi : Option Addr) (cap bcap : Nat) (fs : List Fr) (bits : List Int) (w : World) (hA : Arr w w.heap.size A (frosts fs)) (hBi : Arr w w.heap.size Bi (ints bits)) (hO : OkFs fs) (hn : bits.length ≤ 9223372036854775807) :
    Calls Try.prog 37 #[.agg #[.int .i64 set, .slice A fs.length cap], .slice Bi bits.length bcap] w fun e w' =>
      (∃ O oc, e = .returned (.agg #[.int .i64 set, .slice O fs.length oc]) ∧ oc ≤ maxLen ∧ Arr w' w'.heap.size O (frosts (exactF (trulyL fs bits)))) ∧ Below w.heap.size w w' := by
  have hl3 : fs.length ≤ 3 := hO.1
  have hl3' : (fs.length : Int) ≤ 3 := by omega
  go_enter Try.func37, Try.ntmps37
  go_wp2_with fail
  go_loopw [6] (fun iv wr => ∃ (k : Nat) (ov : Value), k ≤ fs.length ∧ iv = .int .i64 k ∧ wr.ownsRow (w.heap.size + 3) 69 4 ov k (frosts (exactF (trulyL (fs.take k) bits))) ∧
      wr.cell? ⟨w.heap.size, 0, none⟩ = some (.int .i64 set) ∧ wr.cell? ⟨w.heap.size, 1, none⟩ = some (.slice A fs.length cap) ∧ wr.cell? ⟨w.heap.size + 1 + 1, 0, none⟩ = some (.int .i64 set) ∧ wr.cell? ⟨w.heap.size + 1 + 1, 1, none⟩ = some ov ∧
      Wr wr (w.heap.size + 1 + 1) 1 ∧ Wr wr (w.heap.size + 1) 0 ∧ Wr wr (w.heap.size + 1) 1 ∧ w.heap.size + 3 ≤ wr.heap.size ∧ Below w.heap.size w wr) (fun iv _ => fs.length - (intOf iv).toNat)
  case atStart => 
    refine ⟨0, _, Nat.zero_le _, rfl, own_nil _ _ _ _, ?_, ?_, ?_, ?_, ?_, ?_, ?_, ?_, ?_⟩
    · (first | (simp [go_sem, wr_set, wr_drew, wr_drewN, wr_alloc, wr_new]; done) | (simp [go_sem, wr_set, wr_drew, wr_drewN, wr_alloc, wr_new, *]; done) | (simp (disch := go_size) [go_sem, wr_set, wr_drew, wr_drewN, wr_alloc, wr_new, *]; done))
    · (first | (simp [go_sem, wr_set, wr_drew, wr_drewN, wr_alloc, wr_new]; done) | (simp [go_sem, wr_set, wr_drew, wr_drewN, wr_alloc, wr_new, *]; done) | (simp (disch := go_size) [go_sem, wr_set, wr_drew, wr_drewN, wr_alloc, wr_new, *]; done))
    · (first | (simp [go_sem, wr_set, wr_drew, wr_drewN, wr_alloc, wr_new]; done) | (simp [go_sem, wr_set, wr_drew, wr_drewN, wr_alloc, wr_new, *]; done) | (simp (disch := go_size) [go_sem, wr_set, wr_drew, wr_drewN, wr_alloc, wr_new, *]; done))
    · (first | (simp [go_sem, wr_set, wr_drew, wr_drewN, wr_alloc, wr_new]; done) | (simp [go_sem, wr_set, wr_drew, wr_drewN, wr_alloc, wr_new, *]; done) | (simp (disch := go_size) [go_sem, wr_set, wr_drew, wr_drewN, wr_alloc, wr_new, *]; done))
    · (repeat' (first | (with_reducible assumption) | (with_reducible refine wr_set' ?_) | (with_reducible refine wr_drew' ?_) | (refine wr_new ?_ ?_; (focus (simp; done)); (focus (simp; done))) | (with_reducible refine wr_alloc _ ?_)))
    · (repeat' (first | (with_reducible assumption) | (with_reducible refine wr_set' ?_) | (with_reducible refine wr_drew' ?_) | (refine wr_new ?_ ?_; (focus (simp; done)); (focus (simp; done))) | (with_reducible refine wr_alloc _ ?_)))
    · (repeat' (first | (with_reducible assumption) | (with_reducible refine wr_set' ?_) | (with_reducible refine wr_drew' ?_) | (refine wr_new ?_ ?_; (focus (simp; done)); (focus (simp; done))) | (with_reducible refine wr_alloc _ ?_)))
    · simp
    · (repeat' (first | (with_reducible exact Below.refl _ _) | (with_reducible assumption) | (with_reducible refine Below.drew ?_) | (with_reducible refine below_drewN ?_ _) | (with_reducible refine Below.setCell ?_ ?_ _) | (with_reducible refine Below.alloc ?_ ?_ _) | go_size | (exact Below.size (by assumption)) | (refine Below.trans ?_ (Below.mono (by assumption) ?_))))
  case round =>
    obtain ⟨k, ov, hk, rfl, hown, c0, c1, x0, x1, xw, r0, r1', hz, hB⟩ := hrel
    by_cases hlt : k < fs.length
    · have hkI : (k : Int) < fs.length := by omega
      obtain ⟨b, o, rfl, hb, f0, f1, f2, f3⟩ := (hA.below hB).fr hlt
      have HT := hid (trulyL_snoc fs bits k hlt)
      have hOk := hO.2 fs[k] (List.getElem_mem hlt)
      have hk1 : k + 1 ≤ fs.length := hlt
      generalize trulyL (fs.take k) bits = tr at *
      generalize fs[k] = g at *
      have r1 : IntKind.i64.wrap (2 * (k : Int)) = 2 * (k : Int) := IntWalk.i64_in _ (by omega)
      have r2 : IntKind.i64.wrap (2 * (k : Int) + 1) = 2 * (k : Int) + 1 := IntWalk.i64_in _ (by omega)
      go_wp2_with fail
      refine wp_region_any (by kernel_rfl) ?_
      have T0 : Below wr.heap.size wr wr.drew := (Below.refl _ _).drew
      refine lin_any [29, 30, 31] 49 (trulyF w.heap.size (w.heap.size + 1 + 1) b o k fs.length cap bits.length bcap ov Bi bits g) (fun w' => Below wr.heap.size wr w') (fun w1 w2 => Below w1.heap.size w1 w2)
        [0, 1, 2, 3, 4, 5, 6, 7, 8, 9, 10, 11, 12, 13, 14, 15, 16, 48] #[true, true, true, true, true, true, true, true, true, true, true, true, true, true, true, true, true, true, true, true, true, true, true, true, true, true, true, true, true, false, false, false]
        [0, 1, 2, 3, 4, 5, 6, 7, 8, 9, 10, 11, 12, 13, 14, 15, 16, 17, 18, 19, 20, 21, 22, 23, 24, 25, 26, 27, 28] (by kernel_rfl) (by kernel_rfl) (by kernel_rfl) (by kernel_rfl) (by kernel_rfl) (by kernel_rfl) (by kernel_rfl) (by kernel_rfl) (by kernel_rfl) (by kernel_rfl)
        (trulyF_stable _ _ _ _ _ _ _ _ _ _ _ _ _) (by rfl) T0 ?_ ?_
      · intro a' w' hd hsz hkn hT
        obtain ⟨xs, D⟩ := a'; obtain ⟨l0⟩ := xs; dsimp only at hd hsz hkn; subst hd; have hs0 := hsz; clear hsz; simp only [List.size_toArray] at hs0; obtain ⟨x0, x1, x2, x3, x4, x5, x6, x7, x8, x9, l1, rfl, hs1⟩ := len_ten hs0; clear hs0; obtain ⟨x10, x11, x12, x13, x14, x15, x16, x17, x18, x19, l2, rfl, hs2⟩ := len_ten hs1; clear hs1; obtain ⟨x20, x21, x22, x23, x24, x25, x26, x27, x28, x29, l3, rfl, hs3⟩ := len_ten hs2; clear hs2; obtain ⟨x30, x31, x32, x33, x34, x35, x36, x37, x38, x39, l4, rfl, hs4⟩ := len_ten hs3; clear hs3; obtain ⟨x40, l5, rfl, hs5⟩ := len_succ hs4; clear hs4; obtain ⟨x41, l6, rfl, hs6⟩ := len_succ hs5; clear hs5; obtain ⟨x42, l7, rfl, hs7⟩ := len_succ hs6; clear hs6; obtain ⟨x43, l8, rfl, hs8⟩ := len_succ hs7; clear hs7; obtain ⟨x44, l9, rfl, hs9⟩ := len_succ hs8; clear hs8; obtain ⟨x45, l10, rfl, hs10⟩ := len_succ hs9; clear hs9; obtain ⟨x46, l11, rfl, hs11⟩ := len_succ hs10; clear hs10; obtain ⟨x47, l12, rfl, hs12⟩ := len_succ hs11; clear hs11; obtain ⟨x48, l13, rfl, hs13⟩ := len_succ hs12; clear hs12; obtain rfl := List.length_eq_zero_iff.1 hs13; clear hs13; have kn := known_list hkn; clear hkn; simp only [List.map_cons, List.map_nil, List.getElem?_toArray, List.getElem?_cons_succ, List.getElem?_cons_zero, Array.getD_eq_getD_getElem?, Option.getD_some, List.cons.injEq, Option.some.injEq, and_true] at kn; obtain ⟨rfl, rfl, rfl, rfl, rfl, rfl, rfl, rfl, rfl, rfl, rfl, rfl, rfl, rfl, rfl, rfl, rfl, rfl⟩ := kn
        have hW : Below w.heap.size w w' := hB.trans (hT.mono hB.size)
        have hc0 : w'.cell? ⟨w.heap.size, 1, none⟩ = some (.slice (some ⟨b, o, none⟩) fs.length cap) := (hT.cell (by simp only; omega)).trans c1
        have hx1 : w'.cell? ⟨w.heap.size + 1 + 1, 1, none⟩ = some ov := (hT.cell (by simp only; omega)).trans x1
        have hf0 : w'.cell? ⟨b, o + k * 4, none⟩ = some (.int .i64 g.b.lo) := (hT.cell (by simp only; omega)).trans f0
        have hf1 : w'.cell? ⟨b, o + k * 4 + 1, none⟩ = some (.int .i64 g.b.hi) := (hT.cell (by simp only; omega)).trans f1
        have hf2 : w'.cell? ⟨b, o + k * 4 + 2, none⟩ = some (.int .i64 g.e.lo) := (hT.cell (by simp only; omega)).trans f2
        have hf3 : w'.cell? ⟨b, o + k * 4 + 3, none⟩ = some (.int .i64 g.e.hi) := (hT.cell (by simp only; omega)).trans f3
        refine LinOps.cons (by simp only [List.getElem?_toArray, List.getElem?_cons_succ, List.getElem?_cons_zero]; rfl) (fun hk K hK => ?_) ?_
        · go_simp
          exact hK.out _ _ _ rfl rfl hT (Below.refl _ _)
        refine LinOps.cons (by simp only [List.getElem?_toArray, List.getElem?_cons_succ, List.getElem?_cons_zero]; rfl) (fun hk K hK => ?_) ?_
        · (obtain ⟨v, hv, hf⟩ := Known.get (hk 0 (by kernel_rfl) (by simp)) (d := 17) (by kernel_rfl); simp only [List.getElem?_toArray, List.getElem?_cons_succ, List.getElem?_cons_zero, Option.some.injEq] at hv; subst hv; simp only [trulyF] at hf; (try subst hf))
          go_simp
          exact hK.out _ _ _ rfl rfl hT (Below.refl _ _)
        refine LinOps.cons (by simp only [List.getElem?_toArray, List.getElem?_cons_succ, List.getElem?_cons_zero]; rfl) (fun hk K hK => ?_) ?_
        · go_simp
          exact hK.out _ _ _ rfl rfl hT (Below.refl _ _)
        refine LinOps.cons (by simp only [List.getElem?_toArray, List.getElem?_cons_succ, List.getElem?_cons_zero]; rfl) (fun hk K hK => ?_) ?_
        · (obtain ⟨v, hv, hf⟩ := Known.get (hk 2 (by kernel_rfl) (by simp)) (d := 19) (by kernel_rfl); simp only [List.getElem?_toArray, List.getElem?_cons_succ, List.getElem?_cons_zero, Option.some.injEq] at hv; subst hv; simp only [trulyF] at hf; (try subst hf))
          go_simp
          exact hK.out _ _ _ rfl rfl hT (Below.refl _ _)
        refine LinOps.cons (by simp only [List.getElem?_toArray, List.getElem?_cons_succ, List.getElem?_cons_zero]; rfl) (fun hk K hK => ?_) ?_
        · go_simp
          exact hK.out _ _ _ rfl rfl hT (Below.refl _ _)
        refine LinOps.cons (by simp only [List.getElem?_toArray, List.getElem?_cons_succ, List.getElem?_cons_zero]; rfl) (fun hk K hK => ?_) ?_
        · (obtain ⟨v, hv, hf⟩ := Known.get (hk 3 (by kernel_rfl) (by simp)) (d := 20) (by kernel_rfl); simp only [List.getElem?_toArray, List.getElem?_cons_succ, List.getElem?_cons_zero, Option.some.injEq] at hv; subst hv; simp only [trulyF] at hf; (try subst hf)); (obtain ⟨v, hv, hf⟩ := Known.get (hk 4 (by kernel_rfl) (by simp)) (d := 21) (by kernel_rfl); simp only [List.getElem?_toArray, List.getElem?_cons_succ, List.getElem?_cons_zero, Option.some.injEq] at hv; subst hv; simp only [trulyF] at hf; (try subst hf))
          go_simp
          exact hK.out _ _ _ rfl rfl hT (Below.refl _ _)
        refine LinOps.cons (by simp only [List.getElem?_toArray, List.getElem?_cons_succ, List.getElem?_cons_zero]; rfl) (fun hk K hK => ?_) ?_
        · (obtain ⟨v, hv, hf⟩ := Known.get (hk 5 (by kernel_rfl) (by simp)) (d := 22) (by kernel_rfl); simp only [List.getElem?_toArray, List.getElem?_cons_succ, List.getElem?_cons_zero, Option.some.injEq] at hv; subst hv; simp only [trulyF] at hf; (try subst hf))
          go_simp
          exact hK.out _ _ _ rfl rfl hT (Below.refl _ _)
        refine LinOps.cons (by simp only [List.getElem?_toArray, List.getElem?_cons_succ, List.getElem?_cons_zero]; rfl) (fun hk K hK => ?_) ?_
        · (obtain ⟨v, hv, hf⟩ := Known.get (hk 6 (by kernel_rfl) (by simp)) (d := 23) (by kernel_rfl); simp only [List.getElem?_toArray, List.getElem?_cons_succ, List.getElem?_cons_zero, Option.some.injEq] at hv; subst hv; simp only [trulyF] at hf; (try subst hf))
          go_simp
          exact hK.out _ _ _ rfl rfl hT (Below.refl _ _)
        refine LinOps.cons (by simp only [List.getElem?_toArray, List.getElem?_cons_succ, List.getElem?_cons_zero]; rfl) (fun hk K hK => ?_) ?_
        · go_simp
          exact hK.out _ _ _ rfl rfl hT (Below.refl _ _)
        refine LinOps.cons (by simp only [List.getElem?_toArray, List.getElem?_cons_succ, List.getElem?_cons_zero]; rfl) (fun hk K hK => ?_) ?_
        · go_simp
          exact hK.out _ _ _ rfl rfl hT (Below.refl _ _)
        refine LinOps.cons (by simp only [List.getElem?_toArray, List.getElem?_cons_succ, List.getElem?_cons_zero]; rfl) (fun hk K hK => ?_) ?_
        · (obtain ⟨v, hv, hf⟩ := Known.get (hk 9 (by kernel_rfl) (by simp)) (d := 26) (by kernel_rfl); simp only [List.getElem?_toArray, List.getElem?_cons_succ, List.getElem?_cons_zero, Option.some.injEq] at hv; subst hv; simp only [trulyF] at hf; (try subst hf))
          go_simp
          exact hK.out _ _ _ rfl (by simp only [trulyF, r1]) hT (Below.refl _ _)
        refine LinOps.cons (by simp only [List.getElem?_toArray, List.getElem?_cons_succ, List.getElem?_cons_zero]; rfl) (fun hk K hK => ?_) ?_
        · (obtain ⟨v, hv, hf⟩ := Known.get (hk 8 (by kernel_rfl) (by simp)) (d := 25) (by kernel_rfl); simp only [List.getElem?_toArray, List.getElem?_cons_succ, List.getElem?_cons_zero, Option.some.injEq] at hv; subst hv; simp only [trulyF] at hf; (try subst hf)); (obtain ⟨v, hv, hf⟩ := Known.get (hk 10 (by kernel_rfl) (by simp)) (d := 27) (by kernel_rfl); simp only [List.getElem?_toArray, List.getElem?_cons_succ, List.getElem?_cons_zero, Option.some.injEq] at hv; subst hv; simp only [trulyF] at hf; (try subst hf))
          go_simp
          go_at_call 82; refine (nth_any Bi bcap bits _ _ ?_ hn).mono ?_
          · exact (hBi.below hW).more hW.size
          · rintro e w2 ⟨rfl, h2⟩
            exact hK.out _ _ _ rfl rfl (hT.trans (h2.mono hT.size)) h2
        refine LinOps.cons (by simp only [List.getElem?_toArray, List.getElem?_cons_succ, List.getElem?_cons_zero]; rfl) (fun hk K hK => ?_) ?_
        · (obtain ⟨v, hv, hf⟩ := Known.get (hk 7 (by kernel_rfl) (by simp)) (d := 24) (by kernel_rfl); simp only [List.getElem?_toArray, List.getElem?_cons_succ, List.getElem?_cons_zero, Option.some.injEq] at hv; subst hv; simp only [trulyF] at hf; (try subst hf)); (obtain ⟨v, hv, hf⟩ := Known.get (hk 11 (by kernel_rfl) (by simp)) (d := 28) (by kernel_rfl); simp only [List.getElem?_toArray, List.getElem?_cons_succ, List.getElem?_cons_zero, Option.some.injEq] at hv; subst hv; simp only [trulyF] at hf; (try subst hf))
          go_simp
          go_at_call 48; refine (some_any _ _ _ _ (by omega) (by omega) (by omega)).mono ?_
          rintro e w2 ⟨rfl, h2⟩
          exact hK.out _ _ _ rfl rfl (hT.trans (h2.mono hT.size)) h2
        refine LinOps.cons (by simp only [List.getElem?_toArray, List.getElem?_cons_succ, List.getElem?_cons_zero]; rfl) (fun hk K hK => ?_) ?_
        · (obtain ⟨v, hv, hf⟩ := Known.get (hk 12 (by kernel_rfl) (by simp)) (d := 29) (by kernel_rfl); simp only [List.getElem?_toArray, List.getElem?_cons_succ, List.getElem?_cons_zero, Option.some.injEq] at hv; subst hv; simp only [trulyF] at hf; (try subst hf))
          go_simp
          go_at_call 47; refine (one_any _ _).mono ?_
          rintro e w2 ⟨rfl, h2⟩
          exact hK.out _ _ _ rfl rfl (hT.trans (h2.mono hT.size)) h2
        refine LinOps.cons (by simp only [List.getElem?_toArray, List.getElem?_cons_succ, List.getElem?_cons_zero]; rfl) (fun hk K hK => ?_) ?_
        · go_simp
          exact hK.out _ _ _ rfl rfl hT (Below.refl _ _)
        refine LinOps.cons (by simp only [List.getElem?_toArray, List.getElem?_cons_succ, List.getElem?_cons_zero]; rfl) (fun hk K hK => ?_) ?_
        · (obtain ⟨v, hv, hf⟩ := Known.get (hk 14 (by kernel_rfl) (by simp)) (d := 31) (by kernel_rfl); simp only [List.getElem?_toArray, List.getElem?_cons_succ, List.getElem?_cons_zero, Option.some.injEq] at hv; subst hv; simp only [trulyF] at hf; (try subst hf))
          go_simp
          exact hK.out _ _ _ rfl rfl hT (Below.refl _ _)
        refine LinOps.cons (by simp only [List.getElem?_toArray, List.getElem?_cons_succ, List.getElem?_cons_zero]; rfl) (fun hk K hK => ?_) ?_
        · go_simp
          exact hK.out _ _ _ rfl rfl hT (Below.refl _ _)
        refine LinOps.cons (by simp only [List.getElem?_toArray, List.getElem?_cons_succ, List.getElem?_cons_zero]; rfl) (fun hk K hK => ?_) ?_
        · (obtain ⟨v, hv, hf⟩ := Known.get (hk 15 (by kernel_rfl) (by simp)) (d := 32) (by kernel_rfl); simp only [List.getElem?_toArray, List.getElem?_cons_succ, List.getElem?_cons_zero, Option.some.injEq] at hv; subst hv; simp only [trulyF] at hf; (try subst hf)); (obtain ⟨v, hv, hf⟩ := Known.get (hk 16 (by kernel_rfl) (by simp)) (d := 33) (by kernel_rfl); simp only [List.getElem?_toArray, List.getElem?_cons_succ, List.getElem?_cons_zero, Option.some.injEq] at hv; subst hv; simp only [trulyF] at hf; (try subst hf))
          go_simp
          exact hK.out _ _ _ rfl rfl hT (Below.refl _ _)
        refine LinOps.cons (by simp only [List.getElem?_toArray, List.getElem?_cons_succ, List.getElem?_cons_zero]; rfl) (fun hk K hK => ?_) ?_
        · (obtain ⟨v, hv, hf⟩ := Known.get (hk 17 (by kernel_rfl) (by simp)) (d := 34) (by kernel_rfl); simp only [List.getElem?_toArray, List.getElem?_cons_succ, List.getElem?_cons_zero, Option.some.injEq] at hv; subst hv; simp only [trulyF] at hf; (try subst hf))
          go_simp
          exact hK.out _ _ _ rfl rfl hT (Below.refl _ _)
        refine LinOps.cons (by simp only [List.getElem?_toArray, List.getElem?_cons_succ, List.getElem?_cons_zero]; rfl) (fun hk K hK => ?_) ?_
        · (obtain ⟨v, hv, hf⟩ := Known.get (hk 18 (by kernel_rfl) (by simp)) (d := 35) (by kernel_rfl); simp only [List.getElem?_toArray, List.getElem?_cons_succ, List.getElem?_cons_zero, Option.some.injEq] at hv; subst hv; simp only [trulyF] at hf; (try subst hf))
          go_simp
          exact hK.out _ _ _ rfl rfl hT (Below.refl _ _)
        refine LinOps.cons (by simp only [List.getElem?_toArray, List.getElem?_cons_succ, List.getElem?_cons_zero]; rfl) (fun hk K hK => ?_) ?_
        · go_simp
          exact hK.out _ _ _ rfl rfl hT (Below.refl _ _)
        refine LinOps.cons (by simp only [List.getElem?_toArray, List.getElem?_cons_succ, List.getElem?_cons_zero]; rfl) (fun hk K hK => ?_) ?_
        · go_simp
          exact hK.out _ _ _ rfl rfl hT (Below.refl _ _)
        refine LinOps.cons (by simp only [List.getElem?_toArray, List.getElem?_cons_succ, List.getElem?_cons_zero]; rfl) (fun hk K hK => ?_) ?_
        · (obtain ⟨v, hv, hf⟩ := Known.get (hk 21 (by kernel_rfl) (by simp)) (d := 38) (by kernel_rfl); simp only [List.getElem?_toArray, List.getElem?_cons_succ, List.getElem?_cons_zero, Option.some.injEq] at hv; subst hv; simp only [trulyF] at hf; (try subst hf))
          go_simp
          exact hK.out _ _ _ rfl (by simp only [trulyF, r1]) hT (Below.refl _ _)
        refine LinOps.cons (by simp only [List.getElem?_toArray, List.getElem?_cons_succ, List.getElem?_cons_zero]; rfl) (fun hk K hK => ?_) ?_
        · (obtain ⟨v, hv, hf⟩ := Known.get (hk 22 (by kernel_rfl) (by simp)) (d := 39) (by kernel_rfl); simp only [List.getElem?_toArray, List.getElem?_cons_succ, List.getElem?_cons_zero, Option.some.injEq] at hv; subst hv; simp only [trulyF] at hf; (try subst hf))
          go_simp
          exact hK.out _ _ _ rfl (by simp only [trulyF, r2]) hT (Below.refl _ _)
        refine LinOps.cons (by simp only [List.getElem?_toArray, List.getElem?_cons_succ, List.getElem?_cons_zero]; rfl) (fun hk K hK => ?_) ?_
        · (obtain ⟨v, hv, hf⟩ := Known.get (hk 20 (by kernel_rfl) (by simp)) (d := 37) (by kernel_rfl); simp only [List.getElem?_toArray, List.getElem?_cons_succ, List.getElem?_cons_zero, Option.some.injEq] at hv; subst hv; simp only [trulyF] at hf; (try subst hf)); (obtain ⟨v, hv, hf⟩ := Known.get (hk 23 (by kernel_rfl) (by simp)) (d := 40) (by kernel_rfl); simp only [List.getElem?_toArray, List.getElem?_cons_succ, List.getElem?_cons_zero, Option.some.injEq] at hv; subst hv; simp only [trulyF] at hf; (try subst hf))
          go_simp
          go_at_call 82; refine (nth_any Bi bcap bits _ _ ?_ hn).mono ?_
          · exact (hBi.below hW).more hW.size
          · rintro e w2 ⟨rfl, h2⟩
            exact hK.out _ _ _ rfl rfl (hT.trans (h2.mono hT.size)) h2
        refine LinOps.cons (by simp only [List.getElem?_toArray, List.getElem?_cons_succ, List.getElem?_cons_zero]; rfl) (fun hk K hK => ?_) ?_
        · (obtain ⟨v, hv, hf⟩ := Known.get (hk 19 (by kernel_rfl) (by simp)) (d := 36) (by kernel_rfl); simp only [List.getElem?_toArray, List.getElem?_cons_succ, List.getElem?_cons_zero, Option.some.injEq] at hv; subst hv; simp only [trulyF] at hf; (try subst hf)); (obtain ⟨v, hv, hf⟩ := Known.get (hk 24 (by kernel_rfl) (by simp)) (d := 41) (by kernel_rfl); simp only [List.getElem?_toArray, List.getElem?_cons_succ, List.getElem?_cons_zero, Option.some.injEq] at hv; subst hv; simp only [trulyF] at hf; (try subst hf))
          go_simp
          go_at_call 48; refine (some_any _ _ _ _ (by omega) (by omega) (by omega)).mono ?_
          rintro e w2 ⟨rfl, h2⟩
          exact hK.out _ _ _ rfl rfl (hT.trans (h2.mono hT.size)) h2
        refine LinOps.cons (by simp only [List.getElem?_toArray, List.getElem?_cons_succ, List.getElem?_cons_zero]; rfl) (fun hk K hK => ?_) ?_
        · (obtain ⟨v, hv, hf⟩ := Known.get (hk 25 (by kernel_rfl) (by simp)) (d := 42) (by kernel_rfl); simp only [List.getElem?_toArray, List.getElem?_cons_succ, List.getElem?_cons_zero, Option.some.injEq] at hv; subst hv; simp only [trulyF] at hf; (try subst hf))
          go_simp
          go_at_call 47; refine (one_any _ _).mono ?_
          rintro e w2 ⟨rfl, h2⟩
          exact hK.out _ _ _ rfl rfl (hT.trans (h2.mono hT.size)) h2
        refine LinOps.cons (by simp only [List.getElem?_toArray, List.getElem?_cons_succ, List.getElem?_cons_zero]; rfl) (fun hk K hK => ?_) ?_
        · (obtain ⟨v, hv, hf⟩ := Known.get (hk 26 (by kernel_rfl) (by simp)) (d := 43) (by kernel_rfl); simp only [List.getElem?_toArray, List.getElem?_cons_succ, List.getElem?_cons_zero, Option.some.injEq] at hv; subst hv; simp only [trulyF] at hf; (try subst hf)); (obtain ⟨v, hv, hf⟩ := Known.get (hk 13 (by kernel_rfl) (by simp)) (d := 30) (by kernel_rfl); simp only [List.getElem?_toArray, List.getElem?_cons_succ, List.getElem?_cons_zero, Option.some.injEq] at hv; subst hv; simp only [trulyF] at hf; (try subst hf))
          go_simp
          exact hK.out _ _ _ rfl rfl hT (Below.refl _ _)
        refine LinOps.cons (by simp only [List.getElem?_toArray, List.getElem?_cons_succ, List.getElem?_cons_zero]; rfl) (fun hk K hK => ?_) ?_
        · (obtain ⟨v, hv, hf⟩ := Known.get (hk 27 (by kernel_rfl) (by simp)) (d := 44) (by kernel_rfl); simp only [List.getElem?_toArray, List.getElem?_cons_succ, List.getElem?_cons_zero, Option.some.injEq] at hv; subst hv; simp only [trulyF] at hf; (try subst hf))
          go_simp
          exact hK.out _ _ _ rfl ⟨_, rfl, (arr_new w' _ _).more (by simp)⟩ (hT.alloc hT.size _) ((Below.refl _ _).alloc (Nat.le_refl _) _)
        exact LinOps.nil
      · intro a' w' hd hsz hkn hT hall
        obtain ⟨xs, D⟩ := a'; obtain ⟨l0⟩ := xs; dsimp only at hd hsz hkn; subst hd; have hs0 := hsz; clear hsz; simp only [List.size_toArray] at hs0; obtain ⟨x0, x1, x2, x3, x4, x5, x6, x7, x8, x9, l1, rfl, hs1⟩ := len_ten hs0; clear hs0; obtain ⟨x10, x11, x12, x13, x14, x15, x16, x17, x18, x19, l2, rfl, hs2⟩ := len_ten hs1; clear hs1; obtain ⟨x20, x21, x22, x23, x24, x25, x26, x27, x28, x29, l3, rfl, hs3⟩ := len_ten hs2; clear hs2; obtain ⟨x30, x31, x32, x33, x34, x35, x36, x37, x38, x39, l4, rfl, hs4⟩ := len_ten hs3; clear hs3; obtain ⟨x40, l5, rfl, hs5⟩ := len_succ hs4; clear hs4; obtain ⟨x41, l6, rfl, hs6⟩ := len_succ hs5; clear hs5; obtain ⟨x42, l7, rfl, hs7⟩ := len_succ hs6; clear hs6; obtain ⟨x43, l8, rfl, hs8⟩ := len_succ hs7; clear hs7; obtain ⟨x44, l9, rfl, hs9⟩ := len_succ hs8; clear hs8; obtain ⟨x45, l10, rfl, hs10⟩ := len_succ hs9; clear hs9; obtain ⟨x46, l11, rfl, hs11⟩ := len_succ hs10; clear hs10; obtain ⟨x47, l12, rfl, hs12⟩ := len_succ hs11; clear hs11; obtain ⟨x48, l13, rfl, hs13⟩ := len_succ hs12; clear hs12; obtain rfl := List.length_eq_zero_iff.1 hs13; clear hs13; have kn := known_list hkn; clear hkn; simp only [List.map_cons, List.map_nil, List.getElem?_toArray, List.getElem?_cons_succ, List.getElem?_cons_zero, Array.getD_eq_getD_getElem?, Option.getD_some, List.cons.injEq, Option.some.injEq, and_true] at kn; obtain ⟨rfl, rfl, rfl, rfl, rfl, rfl, rfl, rfl, rfl, rfl, rfl, rfl, rfl, rfl, rfl, rfl, rfl, rfl⟩ := kn
        (obtain ⟨v, hv, hf⟩ := Known.get (hall 1 (by kernel_rfl) ) (d := 18) (by kernel_rfl); simp only [List.getElem?_toArray, List.getElem?_cons_succ, List.getElem?_cons_zero, Option.some.injEq] at hv; subst hv; simp only [trulyF] at hf; (try subst hf)); (obtain ⟨v, hv, hf⟩ := Known.get (hall 28 (by kernel_rfl) ) (d := 45) (by kernel_rfl); simp only [List.getElem?_toArray, List.getElem?_cons_succ, List.getElem?_cons_zero, Option.some.injEq] at hv; subst hv; simp only [trulyF] at hf; (try subst hf))
        obtain ⟨A2, rfl, hA2⟩ := hf
        have hW : Below w.heap.size w w' := hB.trans (hT.mono hB.size)
        have hz' := hT.size
        have hown' := own_below hown hT
        refine wpAny_ready (rs := [29]) (by kernel_rfl) (by simp) ?_; refine AllReady.cons (by simp only [List.getElem?_toArray, List.getElem?_cons_succ, List.getElem?_cons_zero]; rfl) (fun K hK => ?_) AllReady.nil
        refine step_appN rfl _ _ 22 rfl (w.heap.size + 3) 69 _ 4 32 Try.underlying22 info_frostA rfl (by omega) _ _ _ rfl hown' _ A2 1 1 _ rfl hA2 rfl (by simp [Value.oneCell']) (by unfold maxLen; omega) (by omega) (by omega) ?_
        intro A3 cap3 w3 hcap3 hcap3' hown3 hg3 _
        refine hK _ _ ?_
        (try simp only [Act.put, List.setIfInBounds_toArray, List.set_cons_zero, List.set_cons_succ])
        have hb3 : Below (w.heap.size + 3) w' w3 := (Below.refl _ _).grown hg3 (by omega) (ownBlock_le hown')
        have hW3 : Below w.heap.size w w3 := hW.trans (hb3.mono (by omega))
        have q0 : w3.cell? ⟨w.heap.size, 0, none⟩ = some (.int .i64 set) := (hb3.cell (by simp only; omega)).trans ((hT.cell (by simp only; omega)).trans c0)
        have q1 : w3.cell? ⟨w.heap.size, 1, none⟩ = some (.slice (some ⟨b, o, none⟩) fs.length cap) := (hb3.cell (by simp only; omega)).trans ((hT.cell (by simp only; omega)).trans c1)
        have q2 : w3.cell? ⟨w.heap.size + 1 + 1, 0, none⟩ = some (.int .i64 set) := (hb3.cell (by simp only; omega)).trans ((hT.cell (by simp only; omega)).trans x0)
        have q3 : Wr w3 (w.heap.size + 1 + 1) 1 := wr_below (wr_below xw hT (by omega)) hb3 (by omega)
        have q4 : Wr w3 (w.heap.size + 1) 0 := wr_below (wr_below r0 hT (by omega)) hb3 (by omega)
        have q5 : Wr w3 (w.heap.size + 1) 1 := wr_below (wr_below r1' hT (by omega)) hb3 (by omega)
        have hz3 := hb3.size
        clear hK K
        refine wpAny_ready (rs := [30]) (by kernel_rfl) (by simp) ?_; refine AllReady.cons (by simp only [List.getElem?_toArray, List.getElem?_cons_succ, List.getElem?_cons_zero]; rfl) (fun K hK => ?_) AllReady.nil
        go_simp
        refine hK _ _ ?_
        (try simp only [Act.put, List.setIfInBounds_toArray, List.set_cons_zero, List.set_cons_succ])
        clear hK K
        refine wpAny_ready (rs := [31]) (by kernel_rfl) (by simp) ?_; refine AllReady.cons (by simp only [List.getElem?_toArray, List.getElem?_cons_succ, List.getElem?_cons_zero]; rfl) (fun K hK => ?_) AllReady.nil
        go_simp
        refine hK _ _ ?_
        (try simp only [Act.put, List.setIfInBounds_toArray, List.set_cons_zero, List.set_cons_succ])
        clear hK K
        refine wpAny_done (by kernel_rfl) ?_ _
        go_wp2_with fail
        refine ⟨⟨k + 1, .slice A3 (k + 1) cap3, hk1, by go_num, ?_, ?_, ?_, ?_, ?_, ?_, ?_, ?_, ?_, ?_⟩, by simp [intOf]; omega⟩
        · rw [HT.out]
          unfold exactF
          rw [List.map_append, frosts_append]
          exact ownsRow_setCell_below hown3 (by simp only; omega) _
        · (first | (simp [go_sem, wr_set, wr_drew, wr_drewN, wr_alloc, wr_new]; done) | (simp [go_sem, wr_set, wr_drew, wr_drewN, wr_alloc, wr_new, *]; done) | (simp (disch := go_size) [go_sem, wr_set, wr_drew, wr_drewN, wr_alloc, wr_new, *]; done))
        · (first | (simp [go_sem, wr_set, wr_drew, wr_drewN, wr_alloc, wr_new]; done) | (simp [go_sem, wr_set, wr_drew, wr_drewN, wr_alloc, wr_new, *]; done) | (simp (disch := go_size) [go_sem, wr_set, wr_drew, wr_drewN, wr_alloc, wr_new, *]; done))
        · (first | (simp [go_sem, wr_set, wr_drew, wr_drewN, wr_alloc, wr_new]; done) | (simp [go_sem, wr_set, wr_drew, wr_drewN, wr_alloc, wr_new, *]; done) | (simp (disch := go_size) [go_sem, wr_set, wr_drew, wr_drewN, wr_alloc, wr_new, *]; done))
        · (first | (simp [go_sem, wr_set, wr_drew, wr_drewN, wr_alloc, wr_new]; done) | (simp [go_sem, wr_set, wr_drew, wr_drewN, wr_alloc, wr_new, *]; done) | (simp (disch := go_size) [go_sem, wr_set, wr_drew, wr_drewN, wr_alloc, wr_new, *]; done))
        · (repeat' (first | (with_reducible assumption) | trivial | (with_reducible refine And.intro ?_ ?_) | (with_reducible refine wr_drew' ?_) | (with_reducible refine wr_drewN' ?_) | (with_reducible refine wr_alloc _ ?_) | (with_reducible refine wr_set' ?_) | (refine wr_below ?_ (by assumption) ?_) | go_size))
        · (repeat' (first | (with_reducible assumption) | trivial | (with_reducible refine And.intro ?_ ?_) | (with_reducible refine wr_drew' ?_) | (with_reducible refine wr_drewN' ?_) | (with_reducible refine wr_alloc _ ?_) | (with_reducible refine wr_set' ?_) | (refine wr_below ?_ (by assumption) ?_) | go_size))
        · (repeat' (first | (with_reducible assumption) | trivial | (with_reducible refine And.intro ?_ ?_) | (with_reducible refine wr_drew' ?_) | (with_reducible refine wr_drewN' ?_) | (with_reducible refine wr_alloc _ ?_) | (with_reducible refine wr_set' ?_) | (refine wr_below ?_ (by assumption) ?_) | go_size))
        · simp; omega
        · (repeat' (first | (with_reducible exact Below.refl _ _) | (with_reducible assumption) | (with_reducible refine Below.drew ?_) | (with_reducible refine below_drewN ?_ _) | (with_reducible refine Below.setCell ?_ ?_ _) | (with_reducible refine Below.alloc ?_ ?_ _) | go_size | (exact Below.size (by assumption)) | (refine Below.trans ?_ (Below.mono (by assumption) ?_))))
    · obtain rfl : k = fs.length := by omega
      rw [List.take_length] at hown
      obtain ⟨O, oc, rfl, _, hocm, hOA⟩ := own_form hown
      go_wp2_with fail
      simp [bodyPost, results, Try.results37, go_sem, *]
      refine ⟨⟨O, oc, ⟨rfl, rfl⟩, hocm, ?_⟩, by (repeat' (first | (with_reducible exact Below.refl _ _) | (with_reducible assumption) | (with_reducible refine Below.drew ?_) | (with_reducible refine below_drewN ?_ _) | (with_reducible refine Below.setCell ?_ ?_ _) | (with_reducible refine Below.alloc ?_ ?_ _) | go_size | (exact Below.size (by assumption)) | (refine Below.trans ?_ (Below.mono (by assumption) ?_))))⟩
      intro hx
      obtain ⟨b, o, hO1, hO2, hO3⟩ := hOA hx
      refine ⟨b, o, hO1, hO2, fun j u hu => ?_⟩
      have hbe : w.heap.size + 1 ≠ b := by
        have h := ownBlock_le hown b (by rw [hO1]; rfl)
        omega
      rw [World.cell?_setCell_far _ _ _ _ hbe, World.cell?_setCell_far _ _ _ _ hbe]
      exact hO3 j u hu
end Go.Proofs.Ytmddbnjbliponaa
