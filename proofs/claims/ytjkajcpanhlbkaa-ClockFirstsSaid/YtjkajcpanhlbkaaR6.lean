/- What clavendierref01's Passed returns, for any clock. -/
import Derived.Test.YtjkajcpanhlbkaaR5
import Derived.Test.YtjkajcpanhlbkaaZ
namespace Go.Proofs.Ytjkajcpanhlbkaa
set_option linter.unusedSimpArgs false
set_option linter.unusedVariables false
open Go.RowKit
attribute [local go_sem high] cell_set_wr
attribute [local go_sem low] cell_wr frozen_wr
attribute [local go_sem] wr_set wr_drew wr_drewN wr_alloc wr_new

theorem wp_region_drew {P : Program} {ops : Array Oper} {Q : Exit → Act → World → Prop} {id : Nat} {a : Act} {w : World} (hm : P.follows .mixedOrders = true) (h : wpAny P .any ops Q ops.size (Array.replicate ops.size false) a w.drew) : (Code.region id ops true).wp P Q a w := wp_region_any hm h
/-- what each step of 'asked(c, isReading(from) && isReading(to))' leaves -/
def passF (set : Int) (A : Option Addr) (n cap : Nat) (fs : List Fr) (ra rz : Int) (ba : Bool) : Nat → Value → World → Prop
  | 0, v, _ => v = .agg #[.int .i64 set, .slice A n cap]
  | 1, v, _ => v = .int .i64 ra
  | 2, v, _ => v = .bool ba
  | 3, v, _ => v = .bool ba
  | 4, v, _ => v = if ba then .int .i64 rz else undef
  | 5, v, _ => v = if ba then .bool (isReadingB rz) else undef
  | 6, v, _ => v = .bool (ba && isReadingB rz)
  | 7, v, _ => v = .int .i64 (askE ⟨set, fs⟩ (ba && isReadingB rz))
  | _, _, _ => True
theorem passF_stable (set : Int) (A : Option Addr) (n cap : Nat) (fs : List Fr) (ra rz : Int) (ba : Bool) : ∀ j v w w', Below w.heap.size w w' → passF set A n cap fs ra rz ba j v w → passF set A n cap fs ra rz ba j v w' := by
  intro j v w w' _ h
  unfold passF at *
  split at h
  all_goals exact h

/-- what each step of the statement 'a, z := means(c, all[i], from), means(c, all[i], to)' leaves -/
def passG (set : Int) (A : Option Addr) (n cap b o m capR k : Nat) (A2 : Option Addr) (n2 c2 : Nat) (ra rz : Int) (s1 s2 : Sp) (N : Nat) : Nat → Value → World → Prop
  | 0, v, _ => v = .agg #[.int .i64 set, .slice A n cap]
  | 1, v, _ => v = .slice (some ⟨b, o, none⟩) m capR
  | 2, v, _ => v = .int .i64 k
  | 3, v, _ => v = .pointer (some ⟨b, o + k, none⟩)
  | 4, v, _ => v = .slice A2 n2 c2
  | 5, v, _ => v = .int .i64 ra
  | 6, v, _ => v = .agg #[.int .i64 s1.lo, .int .i64 s1.hi]
  | 7, v, _ => v = .agg #[.int .i64 set, .slice A n cap]
  | 8, v, _ => v = .slice (some ⟨b, o, none⟩) m capR
  | 9, v, _ => v = .int .i64 k
  | 10, v, _ => v = .pointer (some ⟨b, o + k, none⟩)
  | 11, v, _ => v = .slice A2 n2 c2
  | 12, v, _ => v = .int .i64 rz
  | 13, v, _ => v = .agg #[.int .i64 s2.lo, .int .i64 s2.hi]
  | 14, v, w => ∃ P : Nat, v = .pointer (some ⟨P, 0, none⟩) ∧ N ≤ P ∧ P < w.heap.size ∧ Wr w P 0 ∧ Wr w P 1
  | 15, v, w => ∃ P : Nat, v = .pointer (some ⟨P, 0, none⟩) ∧ N ≤ P ∧ P < w.heap.size ∧ Wr w P 0 ∧ Wr w P 1
  | _, _, _ => True
theorem passG_stable (set : Int) (A : Option Addr) (n cap b o m capR k : Nat) (A2 : Option Addr) (n2 c2 : Nat) (ra rz : Int) (s1 s2 : Sp) (N : Nat) : ∀ j v w w', Below w.heap.size w w' →
    passG set A n cap b o m capR k A2 n2 c2 ra rz s1 s2 N j v w → passG set A n cap b o m capR k A2 n2 c2 ra rz s1 s2 N j v w' := by
  intro j v w w' hR h
  unfold passG at *
  split at h
  all_goals (try exact h)
  all_goals
    obtain ⟨P, h1, h2, h3, h4, h5⟩ := h
    exact ⟨P, h1, h2, Nat.lt_of_lt_of_le h3 hR.size, wr_below h4 hR h3, wr_below h5 hR h3⟩
/-- the two new blocks are not one -/
def passE (L : Array Bool) (a : Act) (_ : World) : Prop := L.getD 14 false = true → L.getD 15 false = true → a.tmps[12]? ≠ a.tmps[13]?
theorem passE_keep {L : Array Bool} {a : Act} {w w' : World} {i : Nat} {dst : Option Tmp} {v : Value} (h : passE L a w) (h1 : i ≠ 14) (h2 : i ≠ 15) (hd : ∀ d, dst = some d → d ≠ 12 ∧ d ≠ 13) : passE (L.setIfInBounds i true) (a.put dst v) w' := by
  intro h14 h15
  rw [getD_set_ne false h1] at h14
  rw [getD_set_ne false h2] at h15
  have := h h14 h15
  cases dst with
  | none => exact this
  | some d =>
    obtain ⟨d1, d2⟩ := hd d rfl
    simpa [Act.put, Array.getElem?_setIfInBounds_ne d1, Array.getElem?_setIfInBounds_ne d2] using this

set_option maxRecDepth 100000 in
set_option maxHeartbeats 4000000 in
theorem rPassed_any (set : Int) (A : Option Addr) (cap : Nat) (fs : List Fr) (ra rz : Int) (w : World) (hA : Arr w w.heap.size A (frosts fs)) :
    Calls Try.prog 21 #[.agg #[.int .i64 set, .slice A fs.length cap], .int .i64 ra, .int .i64 rz] w fun e w' =>
      e = .returned (.tuple #[.agg #[.int .i64 (passedR ⟨set, fs⟩ ra rz).1.lo, .int .i64 (passedR ⟨set, fs⟩ ra rz).1.hi], .int .i64 (passedR ⟨set, fs⟩ ra rz).2]) ∧ Below w.heap.size w w' := by
  go_enter Try.func21, Try.ntmps21
  go_wp2
  go_cut [8] (fun s8 w2 => s8 = .int .i64 (askE ⟨set, fs⟩ (isReadingB ra && isReadingB rz)) ∧ w2.cell? ⟨w.heap.size, 0, none⟩ = some (.int .i64 set) ∧ w2.cell? ⟨w.heap.size, 1, none⟩ = some (.slice A fs.length cap) ∧ Wr w2 (w.heap.size + 1) 0 ∧ Wr w2 (w.heap.size + 1) 1 ∧ Below w.heap.size w w2)
  case first =>
    obtain ⟨ba, hba⟩ : ∃ b, isReadingB ra = b := ⟨_, rfl⟩
    have HBA := hid hba
    refine wp_region_drew (by kernel_rfl) ?_
    refine lin_any [8] 86 (passF set A fs.length cap fs ra rz ba) (fun w' => w'.cell? ⟨w.heap.size, 0, none⟩ = some (.int .i64 set) ∧ w'.cell? ⟨w.heap.size, 1, none⟩ = some (.slice A fs.length cap) ∧ Wr w' (w.heap.size + 1) 0 ∧ Wr w' (w.heap.size + 1) 1 ∧ Below w.heap.size w w') (fun w1 w2 => Below w1.heap.size w1 w2)
      [0, 1, 2, 3, 4, 5, 6, 7, 8, 9, 10, 11, 12, 13, 22, 23, 24, 25, 26, 27, 28, 29, 30, 31, 32, 33, 34, 35, 36, 37, 38, 39, 40, 41, 42, 43, 44, 45, 46, 47, 48, 49, 50, 51, 52, 53, 54, 55, 56, 57, 58, 59, 60, 61, 62, 63, 64, 65, 66, 67, 68, 69, 70, 71, 72, 73, 74, 75, 76, 77, 78, 79, 80, 81, 82, 83, 84, 85] #[true, true, true, true, true, true, true, true, false] [0, 1, 2, 3, 4, 5, 6, 7] (by kernel_rfl) (by kernel_rfl) (by kernel_rfl) (by kernel_rfl) (by kernel_rfl) (by kernel_rfl) (by kernel_rfl) (by kernel_rfl) (by kernel_rfl) (by kernel_rfl)
      (passF_stable _ _ _ _ _ _ _ _) (by rfl) ⟨by (first | (simp [go_sem, wr_set, wr_drew, wr_drewN, wr_alloc, wr_new]; done) | (simp [go_sem, wr_set, wr_drew, wr_drewN, wr_alloc, wr_new, *]; done) | (simp (disch := go_size) [go_sem, wr_set, wr_drew, wr_drewN, wr_alloc, wr_new, *]; done)), by (first | (simp [go_sem, wr_set, wr_drew, wr_drewN, wr_alloc, wr_new]; done) | (simp [go_sem, wr_set, wr_drew, wr_drewN, wr_alloc, wr_new, *]; done) | (simp (disch := go_size) [go_sem, wr_set, wr_drew, wr_drewN, wr_alloc, wr_new, *]; done)), by (repeat' (first | (with_reducible assumption) | (with_reducible refine wr_set' ?_) | (with_reducible refine wr_drew' ?_) | (refine wr_new ?_ ?_; (focus (simp; done)); (focus (simp; done))) | (with_reducible refine wr_alloc _ ?_))), by (repeat' (first | (with_reducible assumption) | (with_reducible refine wr_set' ?_) | (with_reducible refine wr_drew' ?_) | (refine wr_new ?_ ?_; (focus (simp; done)); (focus (simp; done))) | (with_reducible refine wr_alloc _ ?_))), by (repeat' (first | (with_reducible exact Below.refl _ _) | (with_reducible assumption) | (with_reducible refine Below.drew ?_) | (with_reducible refine below_drewN ?_ _) | (with_reducible refine Below.setCell ?_ ?_ _) | (with_reducible refine Below.alloc ?_ ?_ _) | go_size | (exact Below.size (by assumption)) | (refine Below.trans ?_ (Below.mono (by assumption) ?_))))⟩ ?_ ?_
    · intro a' w' hd hsz hkn hT
      obtain ⟨xs, D⟩ := a'; obtain ⟨l0⟩ := xs; dsimp only at hd hsz hkn; subst hd; have hs0 := hsz; clear hsz; simp only [List.size_toArray] at hs0; obtain ⟨x0, x1, x2, x3, x4, x5, x6, x7, x8, x9, l1, rfl, hs1⟩ := len_ten hs0; clear hs0; obtain ⟨x10, x11, x12, x13, x14, x15, x16, x17, x18, x19, l2, rfl, hs2⟩ := len_ten hs1; clear hs1; obtain ⟨x20, x21, x22, x23, x24, x25, x26, x27, x28, x29, l3, rfl, hs3⟩ := len_ten hs2; clear hs2; obtain ⟨x30, x31, x32, x33, x34, x35, x36, x37, x38, x39, l4, rfl, hs4⟩ := len_ten hs3; clear hs3; obtain ⟨x40, x41, x42, x43, x44, x45, x46, x47, x48, x49, l5, rfl, hs5⟩ := len_ten hs4; clear hs4; obtain ⟨x50, x51, x52, x53, x54, x55, x56, x57, x58, x59, l6, rfl, hs6⟩ := len_ten hs5; clear hs5; obtain ⟨x60, x61, x62, x63, x64, x65, x66, x67, x68, x69, l7, rfl, hs7⟩ := len_ten hs6; clear hs6; obtain ⟨x70, x71, x72, x73, x74, x75, x76, x77, x78, x79, l8, rfl, hs8⟩ := len_ten hs7; clear hs7; obtain ⟨x80, l9, rfl, hs9⟩ := len_succ hs8; clear hs8; obtain ⟨x81, l10, rfl, hs10⟩ := len_succ hs9; clear hs9; obtain ⟨x82, l11, rfl, hs11⟩ := len_succ hs10; clear hs10; obtain ⟨x83, l12, rfl, hs12⟩ := len_succ hs11; clear hs11; obtain ⟨x84, l13, rfl, hs13⟩ := len_succ hs12; clear hs12; obtain ⟨x85, l14, rfl, hs14⟩ := len_succ hs13; clear hs13; obtain rfl := List.length_eq_zero_iff.1 hs14; clear hs14; have kn := known_list hkn; clear hkn; simp only [List.map_cons, List.map_nil, List.getElem?_toArray, List.getElem?_cons_succ, List.getElem?_cons_zero, Array.getD_eq_getD_getElem?, Option.getD_some, List.cons.injEq, Option.some.injEq, and_true] at kn; obtain ⟨rfl, rfl, rfl, rfl, rfl, rfl, rfl, rfl, rfl, rfl, rfl, rfl, rfl, rfl, rfl, rfl, rfl, rfl, rfl, rfl, rfl, rfl, rfl, rfl, rfl, rfl, rfl, rfl, rfl, rfl, rfl, rfl, rfl, rfl, rfl, rfl, rfl, rfl, rfl, rfl, rfl, rfl, rfl, rfl, rfl, rfl, rfl, rfl, rfl, rfl, rfl, rfl, rfl, rfl, rfl, rfl, rfl, rfl, rfl, rfl, rfl, rfl, rfl, rfl, rfl, rfl, rfl, rfl, rfl, rfl, rfl, rfl, rfl, rfl, rfl, rfl, rfl, rfl⟩ := kn
      obtain ⟨t0, t1, t2, t3, hTB⟩ := hT
      have hT : w'.cell? ⟨w.heap.size, 0, none⟩ = some (.int .i64 set) ∧ w'.cell? ⟨w.heap.size, 1, none⟩ = some (.slice A fs.length cap) ∧ Wr w' (w.heap.size + 1) 0 ∧ Wr w' (w.heap.size + 1) 1 ∧ Below w.heap.size w w' := ⟨t0, t1, t2, t3, hTB⟩
      refine LinOps.cons (by simp only [List.getElem?_toArray, List.getElem?_cons_succ, List.getElem?_cons_zero]; rfl) (fun hk K hK => ?_) ?_
      · go_simp
        exact hK.out _ _ _ rfl rfl hT (Below.refl _ _)
      refine LinOps.cons (by simp only [List.getElem?_toArray, List.getElem?_cons_succ, List.getElem?_cons_zero]; rfl) (fun hk K hK => ?_) ?_
      · go_simp
        exact hK.out _ _ _ rfl rfl hT (Below.refl _ _)
      refine LinOps.cons (by simp only [List.getElem?_toArray, List.getElem?_cons_succ, List.getElem?_cons_zero]; rfl) (fun hk K hK => ?_) ?_
      · (obtain ⟨v, hv, hf⟩ := Known.get (hk 1 (by kernel_rfl) (by simp)) (d := 15) (by kernel_rfl); simp only [List.getElem?_toArray, List.getElem?_cons_succ, List.getElem?_cons_zero, Option.some.injEq] at hv; subst hv; simp only [passF] at hf; (try subst hf))
        go_simp
        go_at_call 64; refine (rIsReading_any _ _).mono ?_
        rintro e w1 ⟨rfl, rfl⟩
        exact hK.out _ _ _ rfl (by simp only [passF, HBA.out]) hT (Below.refl _ _)
      refine LinOps.cons (by simp only [List.getElem?_toArray, List.getElem?_cons_succ, List.getElem?_cons_zero]; rfl) (fun hk K hK => ?_) ?_
      · (obtain ⟨v, hv, hf⟩ := Known.get (hk 2 (by kernel_rfl) (by simp)) (d := 16) (by kernel_rfl); simp only [List.getElem?_toArray, List.getElem?_cons_succ, List.getElem?_cons_zero, Option.some.injEq] at hv; subst hv; simp only [passF] at hf; (try subst hf))
        go_simp
        exact hK.out _ _ _ rfl rfl hT (Below.refl _ _)
      refine LinOps.cons (by simp only [List.getElem?_toArray, List.getElem?_cons_succ, List.getElem?_cons_zero]; rfl) (fun hk K hK => ?_) ?_
      · (obtain ⟨v, hv, hf⟩ := Known.get (hk 3 (by kernel_rfl) (by simp)) (d := 17) (by kernel_rfl); simp only [List.getElem?_toArray, List.getElem?_cons_succ, List.getElem?_cons_zero, Option.some.injEq] at hv; subst hv; simp only [passF] at hf; (try subst hf))
        cases ba
        · go_simp
          exact hK.out _ _ _ rfl rfl hT (Below.refl _ _)
        · go_simp
          exact hK.out _ _ _ rfl rfl hT (Below.refl _ _)
      refine LinOps.cons (by simp only [List.getElem?_toArray, List.getElem?_cons_succ, List.getElem?_cons_zero]; rfl) (fun hk K hK => ?_) ?_
      · (obtain ⟨v, hv, hf⟩ := Known.get (hk 3 (by kernel_rfl) (by simp)) (d := 17) (by kernel_rfl); simp only [List.getElem?_toArray, List.getElem?_cons_succ, List.getElem?_cons_zero, Option.some.injEq] at hv; subst hv; simp only [passF] at hf; (try subst hf)); (obtain ⟨v, hv, hf⟩ := Known.get (hk 4 (by kernel_rfl) (by simp)) (d := 18) (by kernel_rfl); simp only [List.getElem?_toArray, List.getElem?_cons_succ, List.getElem?_cons_zero, Option.some.injEq] at hv; subst hv; simp only [passF] at hf; (try subst hf))
        cases ba
        · go_simp
          exact hK.out _ _ _ rfl rfl hT (Below.refl _ _)
        · go_simp
          go_at_call 64; refine (rIsReading_any _ _).mono ?_
          rintro e w1 ⟨rfl, rfl⟩
          exact hK.out _ _ _ rfl rfl hT (Below.refl _ _)
      refine LinOps.cons (by simp only [List.getElem?_toArray, List.getElem?_cons_succ, List.getElem?_cons_zero]; rfl) (fun hk K hK => ?_) ?_
      · (obtain ⟨v, hv, hf⟩ := Known.get (hk 3 (by kernel_rfl) (by simp)) (d := 17) (by kernel_rfl); simp only [List.getElem?_toArray, List.getElem?_cons_succ, List.getElem?_cons_zero, Option.some.injEq] at hv; subst hv; simp only [passF] at hf; (try subst hf)); (obtain ⟨v, hv, hf⟩ := Known.get (hk 5 (by kernel_rfl) (by simp)) (d := 19) (by kernel_rfl); simp only [List.getElem?_toArray, List.getElem?_cons_succ, List.getElem?_cons_zero, Option.some.injEq] at hv; subst hv; simp only [passF] at hf; (try subst hf))
        cases ba
        · go_simp
          exact hK.out _ _ _ rfl rfl hT (Below.refl _ _)
        · go_simp
          exact hK.out _ _ _ rfl rfl hT (Below.refl _ _)
      refine LinOps.cons (by simp only [List.getElem?_toArray, List.getElem?_cons_succ, List.getElem?_cons_zero]; rfl) (fun hk K hK => ?_) ?_
      · (obtain ⟨v, hv, hf⟩ := Known.get (hk 0 (by kernel_rfl) (by simp)) (d := 14) (by kernel_rfl); simp only [List.getElem?_toArray, List.getElem?_cons_succ, List.getElem?_cons_zero, Option.some.injEq] at hv; subst hv; simp only [passF] at hf; (try subst hf)); (obtain ⟨v, hv, hf⟩ := Known.get (hk 6 (by kernel_rfl) (by simp)) (d := 20) (by kernel_rfl); simp only [List.getElem?_toArray, List.getElem?_cons_succ, List.getElem?_cons_zero, Option.some.injEq] at hv; subst hv; simp only [passF] at hf; (try subst hf))
        go_simp
        go_at_call 58; refine (asked_any set A cap fs _ _ ((hA.below hTB).more hTB.size)).mono ?_
        rintro e w1 ⟨rfl, h1⟩
        have hs1 := t2.lt
        exact hK.out _ _ _ rfl rfl ⟨(h1.cell (by simp only; omega)).trans t0, (h1.cell (by simp only; omega)).trans t1, wr_below t2 h1 hs1, wr_below t3 h1 hs1, hTB.trans (h1.mono hTB.size)⟩ h1
      exact LinOps.nil
    · intro a' w' hd hsz hkn hT hall
      obtain ⟨xs, D⟩ := a'; obtain ⟨l0⟩ := xs; dsimp only at hd hsz hkn; subst hd; have hs0 := hsz; clear hsz; simp only [List.size_toArray] at hs0; obtain ⟨x0, x1, x2, x3, x4, x5, x6, x7, x8, x9, l1, rfl, hs1⟩ := len_ten hs0; clear hs0; obtain ⟨x10, x11, x12, x13, x14, x15, x16, x17, x18, x19, l2, rfl, hs2⟩ := len_ten hs1; clear hs1; obtain ⟨x20, x21, x22, x23, x24, x25, x26, x27, x28, x29, l3, rfl, hs3⟩ := len_ten hs2; clear hs2; obtain ⟨x30, x31, x32, x33, x34, x35, x36, x37, x38, x39, l4, rfl, hs4⟩ := len_ten hs3; clear hs3; obtain ⟨x40, x41, x42, x43, x44, x45, x46, x47, x48, x49, l5, rfl, hs5⟩ := len_ten hs4; clear hs4; obtain ⟨x50, x51, x52, x53, x54, x55, x56, x57, x58, x59, l6, rfl, hs6⟩ := len_ten hs5; clear hs5; obtain ⟨x60, x61, x62, x63, x64, x65, x66, x67, x68, x69, l7, rfl, hs7⟩ := len_ten hs6; clear hs6; obtain ⟨x70, x71, x72, x73, x74, x75, x76, x77, x78, x79, l8, rfl, hs8⟩ := len_ten hs7; clear hs7; obtain ⟨x80, l9, rfl, hs9⟩ := len_succ hs8; clear hs8; obtain ⟨x81, l10, rfl, hs10⟩ := len_succ hs9; clear hs9; obtain ⟨x82, l11, rfl, hs11⟩ := len_succ hs10; clear hs10; obtain ⟨x83, l12, rfl, hs12⟩ := len_succ hs11; clear hs11; obtain ⟨x84, l13, rfl, hs13⟩ := len_succ hs12; clear hs12; obtain ⟨x85, l14, rfl, hs14⟩ := len_succ hs13; clear hs13; obtain rfl := List.length_eq_zero_iff.1 hs14; clear hs14; have kn := known_list hkn; clear hkn; simp only [List.map_cons, List.map_nil, List.getElem?_toArray, List.getElem?_cons_succ, List.getElem?_cons_zero, Array.getD_eq_getD_getElem?, Option.getD_some, List.cons.injEq, Option.some.injEq, and_true] at kn; obtain ⟨rfl, rfl, rfl, rfl, rfl, rfl, rfl, rfl, rfl, rfl, rfl, rfl, rfl, rfl, rfl, rfl, rfl, rfl, rfl, rfl, rfl, rfl, rfl, rfl, rfl, rfl, rfl, rfl, rfl, rfl, rfl, rfl, rfl, rfl, rfl, rfl, rfl, rfl, rfl, rfl, rfl, rfl, rfl, rfl, rfl, rfl, rfl, rfl, rfl, rfl, rfl, rfl, rfl, rfl, rfl, rfl, rfl, rfl, rfl, rfl, rfl, rfl, rfl, rfl, rfl, rfl, rfl, rfl, rfl, rfl, rfl, rfl, rfl, rfl, rfl, rfl, rfl, rfl⟩ := kn
      (obtain ⟨v, hv, hf⟩ := Known.get (hall 7 (by kernel_rfl) ) (d := 21) (by kernel_rfl); simp only [List.getElem?_toArray, List.getElem?_cons_succ, List.getElem?_cons_zero, Option.some.injEq] at hv; subst hv; simp only [passF] at hf; (try subst hf))
      clear hall
      refine wpAny_ready (rs := [8]) (by kernel_rfl) (by simp) ?_; refine AllReady.cons (by simp only [List.getElem?_toArray, List.getElem?_cons_succ, List.getElem?_cons_zero]; rfl) (fun K hK => ?_) AllReady.nil
      go_simp
      refine hK _ _ ?_
      (try simp only [Act.put, List.setIfInBounds_toArray, List.set_cons_zero, List.set_cons_succ])
      clear hK K
      refine wpAny_done (by kernel_rfl) ?_ _
      go_wp2_with fail
      go_meet
      refine ⟨?_, hT⟩
      rw [HBA.out]
  case rest =>
  obtain ⟨rfl, s0, s1, s2, s3, hB⟩ := hcut
  have hlw : w.heap.size + 1 < wc.heap.size := s2.lt
  have HR : Hid (passedR ⟨set, fs⟩ ra rz = if askE ⟨set, fs⟩ (isReadingB ra && isReadingB rz) = 0 then orNone (passedH ⟨set, fs⟩ ra rz) else (zeroSp, askE ⟨set, fs⟩ (isReadingB ra && isReadingB rz))) := hid rfl
  by_cases he : askE ⟨set, fs⟩ (isReadingB ra && isReadingB rz) = 0
  · have H1 : Hid (passedR ⟨set, fs⟩ ra rz = orNone (passedH ⟨set, fs⟩ ra rz)) := hid (by rw [HR.out, if_pos he])
    have hok : Ck.ok ⟨set, fs⟩ = true ∧ isReadingB ra = true ∧ isReadingB rz = true := by
      unfold askE at he
      revert he
      cases Ck.ok ⟨set, fs⟩ <;> cases isReadingB ra <;> cases isReadingB rz <;> simp
    obtain ⟨hO, hs1, hs2⟩ := okFs_of hok.1
    have hmm := hok.2
    simp only [isReadingB, Bool.and_eq_true, decide_eq_true_eq] at hmm
    obtain ⟨⟨hm0, hm1⟩, hm2, hm3⟩ := hmm
    clear HR hok
    go_wp2_with (first
      | (go_at_call 41; refine (to_any _ _ _).mono ?_; rintro e w3 ⟨rfl, hb3⟩; (first | replace hb3 := Below.un1 hb3 | replace hb3 := Below.un2 hb3 | skip); obtain ⟨hc3, hf3, hl3, hm3, hw3⟩ := bcell hb3; have hz3 := hb3.size; (try simp only [World.size_alloc, World.size_setCell] at hz3); have n3 : w.heap.size + 1 < w3.heap.size := (by omega); have n3' : w.heap.size < w3.heap.size := (by omega); have p0 : w3.cell? ⟨w.heap.size, 0, none⟩ = some (.int .i64 set) := ((hc3 _ _ (by omega)).trans s0); have p1 : w3.cell? ⟨w.heap.size, 1, none⟩ = some (.slice A fs.length cap) := ((hc3 _ _ (by omega)).trans s1))
      | (go_at_call 59; refine (truths_any fs.length 0 0 set A cap fs _ (by omega) (by omega) (by rfl) ?_ hO).mono ?_; (focus (refine (hA.below ?_).more ?_; (repeat' (first | (with_reducible exact Below.refl _ _) | (with_reducible assumption) | (with_reducible refine Below.drew ?_) | (with_reducible refine below_drewN ?_ _) | (with_reducible refine Below.setCell ?_ ?_ _) | (with_reducible refine Below.alloc ?_ ?_ _) | go_size | (exact Below.size (by assumption)) | (refine Below.trans ?_ (Below.mono (by assumption) ?_)))))); rintro e w4 ⟨A4, cap4, rfl, hcap4, hA4, hb4⟩; obtain ⟨hc4, hf4, hl4, hm4, hw4⟩ := bcell hb4))
    rw [List.drop_zero] at hA4
    have hne := truths_ne fs hO
    have hTr : Hid (∀ tr ∈ truths fs, OkTr tr) := hid fun tr h => okTr_mem hO h
    have HH : Hid (passedH ⟨set, fs⟩ ra rz = hull ((truths fs).map fun tr => passT ⟨set, fs⟩ ra rz tr)) := hid rfl
    have hRL := truths_small fs hO 0
    rw [List.drop_zero] at hRL
    have q0 : w4.cell? ⟨w.heap.size, 0, none⟩ = some (.int .i64 set) := by (first | (simp [go_sem, wr_set, wr_drew, wr_drewN, wr_alloc, wr_new]; done) | (simp [go_sem, wr_set, wr_drew, wr_drewN, wr_alloc, wr_new, *]; done) | (simp (disch := go_size) [go_sem, wr_set, wr_drew, wr_drewN, wr_alloc, wr_new, *]; done))
    have q1 : w4.cell? ⟨w.heap.size, 1, none⟩ = some (.slice A fs.length cap) := by (first | (simp [go_sem, wr_set, wr_drew, wr_drewN, wr_alloc, wr_new]; done) | (simp [go_sem, wr_set, wr_drew, wr_drewN, wr_alloc, wr_new, *]; done) | (simp (disch := go_size) [go_sem, wr_set, wr_drew, wr_drewN, wr_alloc, wr_new, *]; done))
    have q2 : Wr w4 (w.heap.size + 1) 0 := by (repeat' (first | (with_reducible assumption) | (refine wr_new rfl ?_; (first | decide | (simp; done))) | (with_reducible refine wr_drew' ?_) | (with_reducible refine wr_drewN' ?_) | (with_reducible refine wr_set' ?_) | (refine wr_below ?_ (by assumption) ?_) | (with_reducible refine wr_alloc _ ?_) | go_size))
    have q3 : Wr w4 (w.heap.size + 1) 1 := by (repeat' (first | (with_reducible assumption) | (refine wr_new rfl ?_; (first | decide | (simp; done))) | (with_reducible refine wr_drew' ?_) | (with_reducible refine wr_drewN' ?_) | (with_reducible refine wr_set' ?_) | (refine wr_below ?_ (by assumption) ?_) | (with_reducible refine wr_alloc _ ?_) | go_size))
    have o0 : w4.cell? ⟨w3.heap.size, 0, none⟩ = some (.int .i64 4320) := by (first | (simp [go_sem, wr_set, wr_drew, wr_drewN, wr_alloc, wr_new]; done) | (simp [go_sem, wr_set, wr_drew, wr_drewN, wr_alloc, wr_new, *]; done) | (simp (disch := go_size) [go_sem, wr_set, wr_drew, wr_drewN, wr_alloc, wr_new, *]; done))
    have o1 : w4.cell? ⟨w3.heap.size, 1, none⟩ = some (.int .i64 (-1)) := by (first | (simp [go_sem, wr_set, wr_drew, wr_drewN, wr_alloc, wr_new]; done) | (simp [go_sem, wr_set, wr_drew, wr_drewN, wr_alloc, wr_new, *]; done) | (simp (disch := go_size) [go_sem, wr_set, wr_drew, wr_drewN, wr_alloc, wr_new, *]; done))
    have o2 : Wr w4 w3.heap.size 0 := by (repeat' (first | (with_reducible assumption) | (refine wr_new rfl ?_; (first | decide | (simp; done))) | (with_reducible refine wr_drew' ?_) | (with_reducible refine wr_drewN' ?_) | (with_reducible refine wr_set' ?_) | (refine wr_below ?_ (by assumption) ?_) | (with_reducible refine wr_alloc _ ?_) | go_size))
    have o3 : Wr w4 w3.heap.size 1 := by (repeat' (first | (with_reducible assumption) | (refine wr_new rfl ?_; (first | decide | (simp; done))) | (with_reducible refine wr_drew' ?_) | (with_reducible refine wr_drewN' ?_) | (with_reducible refine wr_set' ?_) | (refine wr_below ?_ (by assumption) ?_) | (with_reducible refine wr_alloc _ ?_) | go_size))
    have o4 : ∀ j, 2 ≤ j → w4.cell? ⟨w3.heap.size, j, none⟩ = none := fun j hj => by
      rw [hc4 _ _ (by simp)]
      exact cell_past w3 _ _ j (by simpa using hj)
    have hB4 : Below w.heap.size w w4 := by (repeat' (first | (with_reducible exact Below.refl _ _) | (with_reducible assumption) | (with_reducible refine Below.drew ?_) | (with_reducible refine below_drewN ?_ _) | (with_reducible refine Below.setCell ?_ ?_ _) | (with_reducible refine Below.alloc ?_ ?_ _) | go_size | (exact Below.size (by assumption)) | (refine Below.trans ?_ (Below.mono (by assumption) ?_))))
    have hz4 : w3.heap.size < w4.heap.size := o2.lt
    have n4 : w.heap.size + 1 < w4.heap.size := by omega
    have hO0 : w.heap.size + 1 < w3.heap.size := n3
    clear hc3 hf3 hl3 hm3 hw3 hb3 hz3 n3 n3' p0 p1 hc4 hf4 hl4 hm4 hw4 hb4 s0 s1 s2 s3 hB hlw
    generalize w3.heap.size = O at *
    generalize hgR : truths fs = R at *
    clear hgR
    go_loopw [11] (fun i wr => ∃ (k : Nat) (h : Option Sp), k ≤ R.length ∧ i = .int .i64 k ∧ wr.cell? ⟨O, 0, none⟩ = some (.int .i64 (outOf h).lo) ∧ wr.cell? ⟨O, 1, none⟩ = some (.int .i64 (outOf h).hi) ∧ Wr wr O 0 ∧ Wr wr O 1 ∧
        Hid (hull (R.map fun tr => passT ⟨set, fs⟩ ra rz tr) = ((R.drop k).map fun tr => passT ⟨set, fs⟩ ra rz tr).foldl addS h) ∧ Hid (∀ t, h = some t → t.lo ≤ t.hi) ∧
        (∀ b o, b < w4.heap.size → b ≠ O → wr.cell? ⟨b, o, none⟩ = w4.cell? ⟨b, o, none⟩) ∧ Wr wr (w.heap.size + 1) 0 ∧ Wr wr (w.heap.size + 1) 1 ∧ w4.heap.size ≤ wr.heap.size ∧ Below w.heap.size w wr) (fun i _ => R.length - (intOf i).toNat)
    case atStart =>
      exact ⟨0, none, Nat.zero_le _, rfl, o0, o1, o2, o3, hid (by rw [List.drop_zero]; rfl), hid (fun t ht => by cases ht), fun _ _ _ _ => rfl, q2, q3, Nat.le_refl _, hB4⟩
    case round =>
      obtain ⟨k, h, hk, rfl, b0, b1, b2, b3, HK, HV, hsame, g2, g3, hzr, hBr⟩ := hrel
      have Hs := hid hsame
      clear hsame
      have hOr : O < wr.heap.size := by omega
      have hnr : w.heap.size + 1 < wr.heap.size := by omega
      by_cases hlt : k < R.length
      · obtain ⟨b', o', A'', c'', rfl, hb', hck, hAk⟩ := hA4.at_ hlt
        have hTk := hTr.out _ (List.getElem_mem hlt)
        have hk1 : k + 1 ≤ R.length := hlt
        have HM := hid (map_drop R (fun tr => passT ⟨set, fs⟩ ra rz tr) k hlt)
        have hbO : b' ≠ O := fun e => by
          rw [e] at hck
          rcases Nat.lt_or_ge (o' + k) 2 with ho | ho
          · rcases Nat.lt_or_ge (o' + k) 1 with h' | h'
            · rw [show o' + k = 0 by omega, o0] at hck; cases hck
            · rw [show o' + k = 1 by omega, o1] at hck; cases hck
          · rw [o4 _ ho] at hck; cases hck
        have hne' := spans_ne hAk o0 o1 o4 fun t ht => by have := hTk.2 t ht; omega
        have hAk' := arr_same hAk Hs.out hne'
        have hck' := (Hs.out b' (o' + k) hb' hbO).trans hck
        have e0 := (Hs.out w.heap.size 0 (by omega) (by omega)).trans q0
        have e1 := (Hs.out w.heap.size 1 (by omega) (by omega)).trans q1
        have hbr : b' < wr.heap.size := by omega
        have hnr' : w.heap.size < wr.heap.size := by omega
        clear hck hAk hne'
        generalize R[k] = tr at *
        have hma := hid (meansT_in ⟨set, fs⟩ tr ra)
        have hmz := hid (meansT_in ⟨set, fs⟩ tr rz)
        have HP : Hid (passT ⟨set, fs⟩ ra rz tr = if (meansT ⟨set, fs⟩ tr ra).void || (meansT ⟨set, fs⟩ tr rz).void || decide ((meansT ⟨set, fs⟩ tr rz).hi < (meansT ⟨set, fs⟩ tr ra).lo) then ⟨1, 0⟩ else ⟨max 0 ((meansT ⟨set, fs⟩ tr rz).lo - (meansT ⟨set, fs⟩ tr ra).hi), (meansT ⟨set, fs⟩ tr rz).hi - (meansT ⟨set, fs⟩ tr ra).lo⟩) := hid rfl
        generalize hs' : passT ⟨set, fs⟩ ra rz tr = s at *
        clear hs'
        generalize hs1' : meansT ⟨set, fs⟩ tr ra = s1 at *
        generalize hs2' : meansT ⟨set, fs⟩ tr rz = s2 at *
        have HS1 := hid hs1'
        have HS2 := hid hs2'
        clear hs1' hs2'
        go_wp2
        go_cut [12, 13] (fun p q wx => ∃ P Z : Nat, p = .pointer (some ⟨P, 0, none⟩) ∧ q = .pointer (some ⟨Z, 0, none⟩) ∧ wr.heap.size ≤ P ∧ P < wx.heap.size ∧ wr.heap.size ≤ Z ∧ Z < wx.heap.size ∧ wx.cell? ⟨P, 0, none⟩ = some (.int .i64 s1.lo) ∧ wx.cell? ⟨P, 1, none⟩ = some (.int .i64 s1.hi) ∧
            wx.cell? ⟨Z, 0, none⟩ = some (.int .i64 s2.lo) ∧ wx.cell? ⟨Z, 1, none⟩ = some (.int .i64 s2.hi) ∧ Below wr.heap.size wr wx)
        case first =>
          clear o0 o1 o4 q0 q1
          refine wp_region_drew (by kernel_rfl) ?_
          have T0 : Below wr.heap.size wr wr.drew := (Below.refl _ _).drew
          refine linE_any [16, 17] 86 (passG set A fs.length cap b' o' R.length cap4 k A'' tr.length c'' ra rz s1 s2 wr.heap.size) (fun w' => Below wr.heap.size wr w') (fun w1 w2 => Below w1.heap.size w1 w2) passE
            [0, 1, 2, 3, 4, 5, 6, 7, 8, 9, 10, 11, 14, 15, 16, 17, 18, 19, 20, 21, 22, 23, 24, 25, 26, 27, 28, 29, 30, 31, 32, 33, 34, 49, 50, 51, 52, 53, 54, 55, 56, 57, 58, 59, 60, 61, 62, 63, 64, 65, 66, 67, 68, 69, 70, 71, 72, 73, 74, 75, 76, 77, 78, 79, 80, 81, 82, 83, 84, 85] #[true, true, true, true, true, true, true, true, true, true, true, true, true, true, true, true, false, false] [0, 1, 2, 3, 4, 5, 6, 7, 8, 9, 10, 11, 12, 13, 14, 15] (by kernel_rfl) (by kernel_rfl) (by kernel_rfl) (by kernel_rfl) (by kernel_rfl) (by kernel_rfl) (by kernel_rfl) (by kernel_rfl) (by kernel_rfl) (by kernel_rfl)
            (passG_stable _ _ _ _ _ _ _ _ _ _ _ _ _ _ _ _ _) (by rfl) T0 (fun h => by cases h) ?_ ?_
          · intro a' w' L hL hd hsz hkn hT hE hall
            obtain ⟨xs, D⟩ := a'; obtain ⟨l0⟩ := xs; dsimp only at hd hsz hkn; subst hd; have hs0 := hsz; clear hsz; simp only [List.size_toArray] at hs0; obtain ⟨x0, x1, x2, x3, x4, x5, x6, x7, x8, x9, l1, rfl, hs1⟩ := len_ten hs0; clear hs0; obtain ⟨x10, x11, x12, x13, x14, x15, x16, x17, x18, x19, l2, rfl, hs2⟩ := len_ten hs1; clear hs1; obtain ⟨x20, x21, x22, x23, x24, x25, x26, x27, x28, x29, l3, rfl, hs3⟩ := len_ten hs2; clear hs2; obtain ⟨x30, x31, x32, x33, x34, x35, x36, x37, x38, x39, l4, rfl, hs4⟩ := len_ten hs3; clear hs3; obtain ⟨x40, x41, x42, x43, x44, x45, x46, x47, x48, x49, l5, rfl, hs5⟩ := len_ten hs4; clear hs4; obtain ⟨x50, x51, x52, x53, x54, x55, x56, x57, x58, x59, l6, rfl, hs6⟩ := len_ten hs5; clear hs5; obtain ⟨x60, x61, x62, x63, x64, x65, x66, x67, x68, x69, l7, rfl, hs7⟩ := len_ten hs6; clear hs6; obtain ⟨x70, x71, x72, x73, x74, x75, x76, x77, x78, x79, l8, rfl, hs8⟩ := len_ten hs7; clear hs7; obtain ⟨x80, l9, rfl, hs9⟩ := len_succ hs8; clear hs8; obtain ⟨x81, l10, rfl, hs10⟩ := len_succ hs9; clear hs9; obtain ⟨x82, l11, rfl, hs11⟩ := len_succ hs10; clear hs10; obtain ⟨x83, l12, rfl, hs12⟩ := len_succ hs11; clear hs11; obtain ⟨x84, l13, rfl, hs13⟩ := len_succ hs12; clear hs12; obtain ⟨x85, l14, rfl, hs14⟩ := len_succ hs13; clear hs13; obtain rfl := List.length_eq_zero_iff.1 hs14; clear hs14; have kn := known_list hkn; clear hkn; simp only [List.map_cons, List.map_nil, List.getElem?_toArray, List.getElem?_cons_succ, List.getElem?_cons_zero, Array.getD_eq_getD_getElem?, Option.getD_some, List.cons.injEq, Option.some.injEq, and_true] at kn; obtain ⟨rfl, rfl, rfl, rfl, rfl, rfl, rfl, rfl, rfl, rfl, rfl, rfl, rfl, rfl, rfl, rfl, rfl, rfl, rfl, rfl, rfl, rfl, rfl, rfl, rfl, rfl, rfl, rfl, rfl, rfl, rfl, rfl, rfl, rfl, rfl, rfl, rfl, rfl, rfl, rfl, rfl, rfl, rfl, rfl, rfl, rfl, rfl, rfl, rfl, rfl, rfl, rfl, rfl, rfl, rfl, rfl, rfl, rfl, rfl, rfl, rfl, rfl, rfl, rfl, rfl, rfl, rfl, rfl, rfl, rfl⟩ := kn
            have t0 := (hT.cell (p := ⟨w.heap.size, 0, none⟩) (by simp only; omega)).trans e0
            have t1 := (hT.cell (p := ⟨w.heap.size, 1, none⟩) (by simp only; omega)).trans e1
            have t2 := (hT.cell (p := ⟨b', o' + k, none⟩) (by simp only; omega)).trans hck'
            have hz := hT.size
            refine LinE.cons (by simp only [List.getElem?_toArray, List.getElem?_cons_succ, List.getElem?_cons_zero]; rfl) (fun hk K hK => ?_) ?_
            · go_simp
              exact hK.out _ _ _ rfl rfl hT (Below.refl _ _) (passE_keep hE (by decide) (by decide) (by simp))
            refine LinE.cons (by simp only [List.getElem?_toArray, List.getElem?_cons_succ, List.getElem?_cons_zero]; rfl) (fun hk K hK => ?_) ?_
            · go_simp
              exact hK.out _ _ _ rfl rfl hT (Below.refl _ _) (passE_keep hE (by decide) (by decide) (by simp))
            refine LinE.cons (by simp only [List.getElem?_toArray, List.getElem?_cons_succ, List.getElem?_cons_zero]; rfl) (fun hk K hK => ?_) ?_
            · go_simp
              exact hK.out _ _ _ rfl rfl hT (Below.refl _ _) (passE_keep hE (by decide) (by decide) (by simp))
            refine LinE.cons (by simp only [List.getElem?_toArray, List.getElem?_cons_succ, List.getElem?_cons_zero]; rfl) (fun hk K hK => ?_) ?_
            · (obtain ⟨v, hv, hf⟩ := Known.get (hk 1 (by kernel_rfl) (by simp)) (d := 36) (by kernel_rfl); simp only [List.getElem?_toArray, List.getElem?_cons_succ, List.getElem?_cons_zero, Option.some.injEq] at hv; subst hv; simp only [passG] at hf; (try subst hf)); (obtain ⟨v, hv, hf⟩ := Known.get (hk 2 (by kernel_rfl) (by simp)) (d := 37) (by kernel_rfl); simp only [List.getElem?_toArray, List.getElem?_cons_succ, List.getElem?_cons_zero, Option.some.injEq] at hv; subst hv; simp only [passG] at hf; (try subst hf))
              go_simp
              exact hK.out _ _ _ rfl rfl hT (Below.refl _ _) (passE_keep hE (by decide) (by decide) (by simp))
            refine LinE.cons (by simp only [List.getElem?_toArray, List.getElem?_cons_succ, List.getElem?_cons_zero]; rfl) (fun hk K hK => ?_) ?_
            · (obtain ⟨v, hv, hf⟩ := Known.get (hk 3 (by kernel_rfl) (by simp)) (d := 38) (by kernel_rfl); simp only [List.getElem?_toArray, List.getElem?_cons_succ, List.getElem?_cons_zero, Option.some.injEq] at hv; subst hv; simp only [passG] at hf; (try subst hf))
              go_simp
              exact hK.out _ _ _ rfl rfl hT (Below.refl _ _) (passE_keep hE (by decide) (by decide) (by simp))
            refine LinE.cons (by simp only [List.getElem?_toArray, List.getElem?_cons_succ, List.getElem?_cons_zero]; rfl) (fun hk K hK => ?_) ?_
            · go_simp
              exact hK.out _ _ _ rfl rfl hT (Below.refl _ _) (passE_keep hE (by decide) (by decide) (by simp))
            refine LinE.cons (by simp only [List.getElem?_toArray, List.getElem?_cons_succ, List.getElem?_cons_zero]; rfl) (fun hk K hK => ?_) ?_
            · (obtain ⟨v, hv, hf⟩ := Known.get (hk 0 (by kernel_rfl) (by simp)) (d := 35) (by kernel_rfl); simp only [List.getElem?_toArray, List.getElem?_cons_succ, List.getElem?_cons_zero, Option.some.injEq] at hv; subst hv; simp only [passG] at hf; (try subst hf)); (obtain ⟨v, hv, hf⟩ := Known.get (hk 4 (by kernel_rfl) (by simp)) (d := 39) (by kernel_rfl); simp only [List.getElem?_toArray, List.getElem?_cons_succ, List.getElem?_cons_zero, Option.some.injEq] at hv; subst hv; simp only [passG] at hf; (try subst hf)); (obtain ⟨v, hv, hf⟩ := Known.get (hk 5 (by kernel_rfl) (by simp)) (d := 40) (by kernel_rfl); simp only [List.getElem?_toArray, List.getElem?_cons_succ, List.getElem?_cons_zero, Option.some.injEq] at hv; subst hv; simp only [passG] at hf; (try subst hf))
              go_simp
              go_at_call 65; refine (means_any set _ _ _ fs A'' c'' tr ra _ ?_ (Nat.le_refl _) hTk ⟨hm0, hm1⟩ ⟨hs1, hs2⟩).mono ?_
              · exact (hAk'.below (hT.mono hzr)).more (by omega)
              · rw [HS1.out]
                rintro e w3 ⟨rfl, h3⟩
                exact hK.out _ _ _ rfl rfl (hT.trans (h3.mono hz)) h3 (passE_keep hE (by decide) (by decide) (by simp))
            refine LinE.cons (by simp only [List.getElem?_toArray, List.getElem?_cons_succ, List.getElem?_cons_zero]; rfl) (fun hk K hK => ?_) ?_
            · go_simp
              exact hK.out _ _ _ rfl rfl hT (Below.refl _ _) (passE_keep hE (by decide) (by decide) (by simp))
            refine LinE.cons (by simp only [List.getElem?_toArray, List.getElem?_cons_succ, List.getElem?_cons_zero]; rfl) (fun hk K hK => ?_) ?_
            · go_simp
              exact hK.out _ _ _ rfl rfl hT (Below.refl _ _) (passE_keep hE (by decide) (by decide) (by simp))
            refine LinE.cons (by simp only [List.getElem?_toArray, List.getElem?_cons_succ, List.getElem?_cons_zero]; rfl) (fun hk K hK => ?_) ?_
            · go_simp
              exact hK.out _ _ _ rfl rfl hT (Below.refl _ _) (passE_keep hE (by decide) (by decide) (by simp))
            refine LinE.cons (by simp only [List.getElem?_toArray, List.getElem?_cons_succ, List.getElem?_cons_zero]; rfl) (fun hk K hK => ?_) ?_
            · (obtain ⟨v, hv, hf⟩ := Known.get (hk 8 (by kernel_rfl) (by simp)) (d := 43) (by kernel_rfl); simp only [List.getElem?_toArray, List.getElem?_cons_succ, List.getElem?_cons_zero, Option.some.injEq] at hv; subst hv; simp only [passG] at hf; (try subst hf)); (obtain ⟨v, hv, hf⟩ := Known.get (hk 9 (by kernel_rfl) (by simp)) (d := 44) (by kernel_rfl); simp only [List.getElem?_toArray, List.getElem?_cons_succ, List.getElem?_cons_zero, Option.some.injEq] at hv; subst hv; simp only [passG] at hf; (try subst hf))
              go_simp
              exact hK.out _ _ _ rfl rfl hT (Below.refl _ _) (passE_keep hE (by decide) (by decide) (by simp))
            refine LinE.cons (by simp only [List.getElem?_toArray, List.getElem?_cons_succ, List.getElem?_cons_zero]; rfl) (fun hk K hK => ?_) ?_
            · (obtain ⟨v, hv, hf⟩ := Known.get (hk 10 (by kernel_rfl) (by simp)) (d := 45) (by kernel_rfl); simp only [List.getElem?_toArray, List.getElem?_cons_succ, List.getElem?_cons_zero, Option.some.injEq] at hv; subst hv; simp only [passG] at hf; (try subst hf))
              go_simp
              exact hK.out _ _ _ rfl rfl hT (Below.refl _ _) (passE_keep hE (by decide) (by decide) (by simp))
            refine LinE.cons (by simp only [List.getElem?_toArray, List.getElem?_cons_succ, List.getElem?_cons_zero]; rfl) (fun hk K hK => ?_) ?_
            · go_simp
              exact hK.out _ _ _ rfl rfl hT (Below.refl _ _) (passE_keep hE (by decide) (by decide) (by simp))
            refine LinE.cons (by simp only [List.getElem?_toArray, List.getElem?_cons_succ, List.getElem?_cons_zero]; rfl) (fun hk K hK => ?_) ?_
            · (obtain ⟨v, hv, hf⟩ := Known.get (hk 7 (by kernel_rfl) (by simp)) (d := 42) (by kernel_rfl); simp only [List.getElem?_toArray, List.getElem?_cons_succ, List.getElem?_cons_zero, Option.some.injEq] at hv; subst hv; simp only [passG] at hf; (try subst hf)); (obtain ⟨v, hv, hf⟩ := Known.get (hk 11 (by kernel_rfl) (by simp)) (d := 46) (by kernel_rfl); simp only [List.getElem?_toArray, List.getElem?_cons_succ, List.getElem?_cons_zero, Option.some.injEq] at hv; subst hv; simp only [passG] at hf; (try subst hf)); (obtain ⟨v, hv, hf⟩ := Known.get (hk 12 (by kernel_rfl) (by simp)) (d := 47) (by kernel_rfl); simp only [List.getElem?_toArray, List.getElem?_cons_succ, List.getElem?_cons_zero, Option.some.injEq] at hv; subst hv; simp only [passG] at hf; (try subst hf))
              go_simp
              go_at_call 65; refine (means_any set _ _ _ fs A'' c'' tr rz _ ?_ (Nat.le_refl _) hTk ⟨hm2, hm3⟩ ⟨hs1, hs2⟩).mono ?_
              · exact (hAk'.below (hT.mono hzr)).more (by omega)
              · rw [HS2.out]
                rintro e w3 ⟨rfl, h3⟩
                exact hK.out _ _ _ rfl rfl (hT.trans (h3.mono hz)) h3 (passE_keep hE (by decide) (by decide) (by simp))
            refine LinE.cons (by simp only [List.getElem?_toArray, List.getElem?_cons_succ, List.getElem?_cons_zero]; rfl) (fun hk K hK => ?_) ?_
            · go_simp
              refine hK.out _ _ _ rfl ⟨w'.heap.size, rfl, hz, by simp, wr_new rfl (by simp), wr_new rfl (by simp)⟩ (hT.alloc hz _) ((Below.refl _ _).alloc (Nat.le_refl _) _) (fun h14 h15 heq => ?_)
              have hx : L.getD 15 false = true := by
                have h := h15
                rwa [getD_set_ne false (by decide)] at h
              obtain ⟨v, hv, P2, rfl, _, hP2, _⟩ := Known.get (hall 15 (by simp) hx) (d := 13) (by kernel_rfl)
              simp only [List.getElem?_toArray, List.getElem?_cons_succ, List.getElem?_cons_zero, Option.some.injEq] at hv
              subst hv
              simp only [Act.put, List.setIfInBounds_toArray, List.set_cons_zero, List.set_cons_succ, List.getElem?_toArray, List.getElem?_cons_succ, List.getElem?_cons_zero, Option.some.injEq, Value.pointer.injEq, Addr.mk.injEq] at heq
              omega
            refine LinE.cons (by simp only [List.getElem?_toArray, List.getElem?_cons_succ, List.getElem?_cons_zero]; rfl) (fun hk K hK => ?_) ?_
            · go_simp
              refine hK.out _ _ _ rfl ⟨w'.heap.size, rfl, hz, by simp, wr_new rfl (by simp), wr_new rfl (by simp)⟩ (hT.alloc hz _) ((Below.refl _ _).alloc (Nat.le_refl _) _) (fun h14 h15 heq => ?_)
              have hx : L.getD 14 false = true := by
                have h := h14
                rwa [getD_set_ne false (by decide)] at h
              obtain ⟨v, hv, P2, rfl, _, hP2, _⟩ := Known.get (hall 14 (by simp) hx) (d := 12) (by kernel_rfl)
              simp only [List.getElem?_toArray, List.getElem?_cons_succ, List.getElem?_cons_zero, Option.some.injEq] at hv
              subst hv
              simp only [Act.put, List.setIfInBounds_toArray, List.set_cons_zero, List.set_cons_succ, List.getElem?_toArray, List.getElem?_cons_succ, List.getElem?_cons_zero, Option.some.injEq, Value.pointer.injEq, Addr.mk.injEq] at heq
              omega
            exact LinE.nil
          · intro a' w' hd hsz hkn hT hE hall
            obtain ⟨xs, D⟩ := a'; obtain ⟨l0⟩ := xs; dsimp only at hd hsz hkn; subst hd; have hs0 := hsz; clear hsz; simp only [List.size_toArray] at hs0; obtain ⟨x0, x1, x2, x3, x4, x5, x6, x7, x8, x9, l1, rfl, hs1⟩ := len_ten hs0; clear hs0; obtain ⟨x10, x11, x12, x13, x14, x15, x16, x17, x18, x19, l2, rfl, hs2⟩ := len_ten hs1; clear hs1; obtain ⟨x20, x21, x22, x23, x24, x25, x26, x27, x28, x29, l3, rfl, hs3⟩ := len_ten hs2; clear hs2; obtain ⟨x30, x31, x32, x33, x34, x35, x36, x37, x38, x39, l4, rfl, hs4⟩ := len_ten hs3; clear hs3; obtain ⟨x40, x41, x42, x43, x44, x45, x46, x47, x48, x49, l5, rfl, hs5⟩ := len_ten hs4; clear hs4; obtain ⟨x50, x51, x52, x53, x54, x55, x56, x57, x58, x59, l6, rfl, hs6⟩ := len_ten hs5; clear hs5; obtain ⟨x60, x61, x62, x63, x64, x65, x66, x67, x68, x69, l7, rfl, hs7⟩ := len_ten hs6; clear hs6; obtain ⟨x70, x71, x72, x73, x74, x75, x76, x77, x78, x79, l8, rfl, hs8⟩ := len_ten hs7; clear hs7; obtain ⟨x80, l9, rfl, hs9⟩ := len_succ hs8; clear hs8; obtain ⟨x81, l10, rfl, hs10⟩ := len_succ hs9; clear hs9; obtain ⟨x82, l11, rfl, hs11⟩ := len_succ hs10; clear hs10; obtain ⟨x83, l12, rfl, hs12⟩ := len_succ hs11; clear hs11; obtain ⟨x84, l13, rfl, hs13⟩ := len_succ hs12; clear hs12; obtain ⟨x85, l14, rfl, hs14⟩ := len_succ hs13; clear hs13; obtain rfl := List.length_eq_zero_iff.1 hs14; clear hs14; have kn := known_list hkn; clear hkn; simp only [List.map_cons, List.map_nil, List.getElem?_toArray, List.getElem?_cons_succ, List.getElem?_cons_zero, Array.getD_eq_getD_getElem?, Option.getD_some, List.cons.injEq, Option.some.injEq, and_true] at kn; obtain ⟨rfl, rfl, rfl, rfl, rfl, rfl, rfl, rfl, rfl, rfl, rfl, rfl, rfl, rfl, rfl, rfl, rfl, rfl, rfl, rfl, rfl, rfl, rfl, rfl, rfl, rfl, rfl, rfl, rfl, rfl, rfl, rfl, rfl, rfl, rfl, rfl, rfl, rfl, rfl, rfl, rfl, rfl, rfl, rfl, rfl, rfl, rfl, rfl, rfl, rfl, rfl, rfl, rfl, rfl, rfl, rfl, rfl, rfl, rfl, rfl, rfl, rfl, rfl, rfl, rfl, rfl, rfl, rfl, rfl, rfl⟩ := kn
            (obtain ⟨v, hv, hf⟩ := Known.get (hall 6 (by kernel_rfl) ) (d := 41) (by kernel_rfl); simp only [List.getElem?_toArray, List.getElem?_cons_succ, List.getElem?_cons_zero, Option.some.injEq] at hv; subst hv; simp only [passG] at hf; (try subst hf))
            (obtain ⟨v, hv, hf⟩ := Known.get (hall 13 (by kernel_rfl) ) (d := 48) (by kernel_rfl); simp only [List.getElem?_toArray, List.getElem?_cons_succ, List.getElem?_cons_zero, Option.some.injEq] at hv; subst hv; simp only [passG] at hf; (try subst hf))
            (obtain ⟨v, hv, hf⟩ := Known.get (hall 14 (by kernel_rfl) ) (d := 12) (by kernel_rfl); simp only [List.getElem?_toArray, List.getElem?_cons_succ, List.getElem?_cons_zero, Option.some.injEq] at hv; subst hv; simp only [passG] at hf; (try subst hf))
            obtain ⟨P, rfl, hP1, hP2, hPw0, hPw1⟩ := hf
            (obtain ⟨v, hv, hf⟩ := Known.get (hall 15 (by kernel_rfl) ) (d := 13) (by kernel_rfl); simp only [List.getElem?_toArray, List.getElem?_cons_succ, List.getElem?_cons_zero, Option.some.injEq] at hv; subst hv; simp only [passG] at hf; (try subst hf))
            obtain ⟨Z, rfl, hZ1, hZ2, hZw0, hZw1⟩ := hf
            clear hall
            have hPZ : P ≠ Z := fun e => hE rfl rfl (by simp [e])
            clear hE
            refine wpAny_ready (rs := [16]) (by kernel_rfl) (by simp) ?_; refine AllReady.cons (by simp only [List.getElem?_toArray, List.getElem?_cons_succ, List.getElem?_cons_zero]; rfl) (fun K hK => ?_) AllReady.nil
            go_simp
            refine hK _ _ ?_
            (try simp only [Act.put, List.setIfInBounds_toArray, List.set_cons_zero, List.set_cons_succ])
            clear hK K
            refine wpAny_ready (rs := [17]) (by kernel_rfl) (by simp) ?_; refine AllReady.cons (by simp only [List.getElem?_toArray, List.getElem?_cons_succ, List.getElem?_cons_zero]; rfl) (fun K hK => ?_) AllReady.nil
            go_simp
            refine hK _ _ ?_
            (try simp only [Act.put, List.setIfInBounds_toArray, List.set_cons_zero, List.set_cons_succ])
            clear hK K
            refine wpAny_done (by kernel_rfl) ?_ _
            go_wp2_with fail
            go_meet
            refine ⟨P, Z, rfl, rfl, hP1, by simp; omega, hZ1, by simp; omega, ?_, ?_, ?_, ?_, ?_⟩
            · (first | (simp [go_sem, wr_set, wr_drew, wr_drewN, wr_alloc, wr_new]; done) | (simp [go_sem, wr_set, wr_drew, wr_drewN, wr_alloc, wr_new, *]; done) | (simp (disch := go_size) [go_sem, wr_set, wr_drew, wr_drewN, wr_alloc, wr_new, *]; done))
            · (first | (simp [go_sem, wr_set, wr_drew, wr_drewN, wr_alloc, wr_new]; done) | (simp [go_sem, wr_set, wr_drew, wr_drewN, wr_alloc, wr_new, *]; done) | (simp (disch := go_size) [go_sem, wr_set, wr_drew, wr_drewN, wr_alloc, wr_new, *]; done))
            · (first | (simp [go_sem, wr_set, wr_drew, wr_drewN, wr_alloc, wr_new]; done) | (simp [go_sem, wr_set, wr_drew, wr_drewN, wr_alloc, wr_new, *]; done) | (simp (disch := go_size) [go_sem, wr_set, wr_drew, wr_drewN, wr_alloc, wr_new, *]; done))
            · (first | (simp [go_sem, wr_set, wr_drew, wr_drewN, wr_alloc, wr_new]; done) | (simp [go_sem, wr_set, wr_drew, wr_drewN, wr_alloc, wr_new, *]; done) | (simp (disch := go_size) [go_sem, wr_set, wr_drew, wr_drewN, wr_alloc, wr_new, *]; done))
            · (repeat' (first | (with_reducible exact Below.refl _ _) | (with_reducible assumption) | (with_reducible refine Below.drew ?_) | (with_reducible refine below_drewN ?_ _) | (with_reducible refine Below.setCell ?_ ?_ _) | (with_reducible refine Below.alloc ?_ ?_ _) | go_size | (exact Below.size (by assumption)) | (refine Below.trans ?_ (Below.mono (by assumption) ?_))))
        case rest =>
          obtain ⟨P, Z, rfl, rfl, hP1, hP2, hZ1, hZ2, p0, p1, z0, z1, hbP⟩ := hcut
          have d0 : wc.cell? ⟨O, 0, none⟩ = some (.int .i64 (outOf h).lo) := (hbP.cell (by simp only; omega)).trans b0
          have d1 : wc.cell? ⟨O, 1, none⟩ = some (.int .i64 (outOf h).hi) := (hbP.cell (by simp only; omega)).trans b1
          have d2 : Wr wc O 0 := wr_below b2 hbP hOr
          have d3 : Wr wc O 1 := wr_below b3 hbP hOr
          have f2 : Wr wc (w.heap.size + 1) 0 := wr_below g2 hbP hnr
          have f3 : Wr wc (w.heap.size + 1) 1 := wr_below g3 hbP hnr
          have Hs' : Hid (∀ b o, b < w4.heap.size → b ≠ O → wc.cell? ⟨b, o, none⟩ = w4.cell? ⟨b, o, none⟩) := hid fun b o h1 h2 => (hbP.cell (by simp only; omega)).trans (Hs.out b o h1 h2)
          have hBc : Below w.heap.size w wc := hBr.trans (hbP.mono (by omega))
          have hzc : w4.heap.size ≤ wc.heap.size := by have := hbP.size; omega
          have hOc : O < wc.heap.size := by omega
          have hnc : w.heap.size + 1 < wc.heap.size := by omega
          have hPO : P ≠ O := by omega
          have hZO : Z ≠ O := by omega
          clear b0 b1 b2 b3 g2 g3 Hs hBr hzr hOr hnr hnr' hbr e0 e1 hck' hAk' hP1 hZ1
          have vd : ∀ x : Sp, x.void = decide (x.hi < x.lo) := fun _ => rfl
          rw [vd, vd] at HP
          clear vd
          by_cases hv1 : s1.hi < s1.lo
          · have t1 : decide (s1.hi < s1.lo) = true := decide_eq_true hv1
            have HA : Hid (addS h s = h) := hid (addS_void h s (by rw [HP.out, t1]; simp))
            clear hv1 HP
            go_wp2_with (go_at_call 66; refine (void_any _ _ _).mono ?_; (first | rw [t1] | rw [t2]); rintro e w6 ⟨rfl, hb6⟩; (first | replace hb6 := Below.un1 hb6 | replace hb6 := Below.un2 hb6 | skip); obtain ⟨hc6, hf6, hl6, hm6, hw6⟩ := bcell hb6; have hz6 := hb6.size; (try simp only [World.size_alloc, World.size_setCell] at hz6); have n6 : O < w6.heap.size := (by omega); have n7 : P < w6.heap.size := (by omega); have n8 : Z < w6.heap.size := (by omega))
            refine ⟨⟨k + 1, h, hk1, by go_num, ?_, ?_, ?_, ?_, hid (by rw [HK.out, HM.out, List.foldl_cons, HA.out]), HV, ?_, ?_, ?_, ?_, ?_⟩, by simp [intOf]; omega⟩
            · (first | (simp [go_sem, wr_set, wr_drew, wr_drewN, wr_alloc, wr_new]; done) | (simp [go_sem, wr_set, wr_drew, wr_drewN, wr_alloc, wr_new, *]; done) | (simp (disch := go_size) [go_sem, wr_set, wr_drew, wr_drewN, wr_alloc, wr_new, *]; done))
            · (first | (simp [go_sem, wr_set, wr_drew, wr_drewN, wr_alloc, wr_new]; done) | (simp [go_sem, wr_set, wr_drew, wr_drewN, wr_alloc, wr_new, *]; done) | (simp (disch := go_size) [go_sem, wr_set, wr_drew, wr_drewN, wr_alloc, wr_new, *]; done))
            · (first | (simp [go_sem, wr_set, wr_drew, wr_drewN, wr_alloc, wr_new]; done) | (simp [go_sem, wr_set, wr_drew, wr_drewN, wr_alloc, wr_new, *]; done) | (simp (disch := go_size) [go_sem, wr_set, wr_drew, wr_drewN, wr_alloc, wr_new, *]; done))
            · (first | (simp [go_sem, wr_set, wr_drew, wr_drewN, wr_alloc, wr_new]; done) | (simp [go_sem, wr_set, wr_drew, wr_drewN, wr_alloc, wr_new, *]; done) | (simp (disch := go_size) [go_sem, wr_set, wr_drew, wr_drewN, wr_alloc, wr_new, *]; done))
            · have hsame' := Hs'.out
              (repeat' (first | (with_reducible assumption) | (with_reducible exact same_refl) | (with_reducible refine same_drew ?_) | (with_reducible refine same_drewN ?_) | (with_reducible refine same_alloc ?_ ?_) | (with_reducible refine same_set ?_ (.inl ?_)) | (with_reducible refine same_set ?_ (.inr ?_)) | (refine same_below ?_ (by assumption) ?_) | rfl | go_size))
            · (first | (simp [go_sem, wr_set, wr_drew, wr_drewN, wr_alloc, wr_new]; done) | (simp [go_sem, wr_set, wr_drew, wr_drewN, wr_alloc, wr_new, *]; done) | (simp (disch := go_size) [go_sem, wr_set, wr_drew, wr_drewN, wr_alloc, wr_new, *]; done))
            · (first | (simp [go_sem, wr_set, wr_drew, wr_drewN, wr_alloc, wr_new]; done) | (simp [go_sem, wr_set, wr_drew, wr_drewN, wr_alloc, wr_new, *]; done) | (simp (disch := go_size) [go_sem, wr_set, wr_drew, wr_drewN, wr_alloc, wr_new, *]; done))
            · omega
            · (repeat' (first | (with_reducible exact Below.refl _ _) | (with_reducible assumption) | (with_reducible refine Below.drew ?_) | (with_reducible refine below_drewN ?_ _) | (with_reducible refine Below.setCell ?_ ?_ _) | (with_reducible refine Below.alloc ?_ ?_ _) | go_size | (exact Below.size (by assumption)) | (refine Below.trans ?_ (Below.mono (by assumption) ?_))))
          · have t1 : decide (s1.hi < s1.lo) = false := decide_eq_false hv1
            by_cases hv2 : s2.hi < s2.lo
            · have t2 : decide (s2.hi < s2.lo) = true := decide_eq_true hv2
              have HA : Hid (addS h s = h) := hid (addS_void h s (by rw [HP.out, t1, t2]; simp))
              clear hv1 hv2 HP
              go_wp2_with (go_at_call 66; refine (void_any _ _ _).mono ?_; (first | rw [t1] | rw [t2]); rintro e w6 ⟨rfl, hb6⟩; (first | replace hb6 := Below.un1 hb6 | replace hb6 := Below.un2 hb6 | skip); obtain ⟨hc6, hf6, hl6, hm6, hw6⟩ := bcell hb6; have hz6 := hb6.size; (try simp only [World.size_alloc, World.size_setCell] at hz6); have n6 : O < w6.heap.size := (by omega); have n7 : P < w6.heap.size := (by omega); have n8 : Z < w6.heap.size := (by omega))
              refine ⟨⟨k + 1, h, hk1, by go_num, ?_, ?_, ?_, ?_, hid (by rw [HK.out, HM.out, List.foldl_cons, HA.out]), HV, ?_, ?_, ?_, ?_, ?_⟩, by simp [intOf]; omega⟩
              · (first | (simp [go_sem, wr_set, wr_drew, wr_drewN, wr_alloc, wr_new]; done) | (simp [go_sem, wr_set, wr_drew, wr_drewN, wr_alloc, wr_new, *]; done) | (simp (disch := go_size) [go_sem, wr_set, wr_drew, wr_drewN, wr_alloc, wr_new, *]; done))
              · (first | (simp [go_sem, wr_set, wr_drew, wr_drewN, wr_alloc, wr_new]; done) | (simp [go_sem, wr_set, wr_drew, wr_drewN, wr_alloc, wr_new, *]; done) | (simp (disch := go_size) [go_sem, wr_set, wr_drew, wr_drewN, wr_alloc, wr_new, *]; done))
              · (first | (simp [go_sem, wr_set, wr_drew, wr_drewN, wr_alloc, wr_new]; done) | (simp [go_sem, wr_set, wr_drew, wr_drewN, wr_alloc, wr_new, *]; done) | (simp (disch := go_size) [go_sem, wr_set, wr_drew, wr_drewN, wr_alloc, wr_new, *]; done))
              · (first | (simp [go_sem, wr_set, wr_drew, wr_drewN, wr_alloc, wr_new]; done) | (simp [go_sem, wr_set, wr_drew, wr_drewN, wr_alloc, wr_new, *]; done) | (simp (disch := go_size) [go_sem, wr_set, wr_drew, wr_drewN, wr_alloc, wr_new, *]; done))
              · have hsame' := Hs'.out
                (repeat' (first | (with_reducible assumption) | (with_reducible exact same_refl) | (with_reducible refine same_drew ?_) | (with_reducible refine same_drewN ?_) | (with_reducible refine same_alloc ?_ ?_) | (with_reducible refine same_set ?_ (.inl ?_)) | (with_reducible refine same_set ?_ (.inr ?_)) | (refine same_below ?_ (by assumption) ?_) | rfl | go_size))
              · (first | (simp [go_sem, wr_set, wr_drew, wr_drewN, wr_alloc, wr_new]; done) | (simp [go_sem, wr_set, wr_drew, wr_drewN, wr_alloc, wr_new, *]; done) | (simp (disch := go_size) [go_sem, wr_set, wr_drew, wr_drewN, wr_alloc, wr_new, *]; done))
              · (first | (simp [go_sem, wr_set, wr_drew, wr_drewN, wr_alloc, wr_new]; done) | (simp [go_sem, wr_set, wr_drew, wr_drewN, wr_alloc, wr_new, *]; done) | (simp (disch := go_size) [go_sem, wr_set, wr_drew, wr_drewN, wr_alloc, wr_new, *]; done))
              · omega
              · (repeat' (first | (with_reducible exact Below.refl _ _) | (with_reducible assumption) | (with_reducible refine Below.drew ?_) | (with_reducible refine below_drewN ?_ _) | (with_reducible refine Below.setCell ?_ ?_ _) | (with_reducible refine Below.alloc ?_ ?_ _) | go_size | (exact Below.size (by assumption)) | (refine Below.trans ?_ (Below.mono (by assumption) ?_))))
            · have t2 : decide (s2.hi < s2.lo) = false := decide_eq_false hv2
              by_cases hv3 : s2.hi < s1.lo
              · have t3 : decide (s1.lo ≤ s2.hi) = false := decide_eq_false (by omega)
                have HA : Hid (addS h s = h) := hid (addS_void h s (by rw [HP.out, t1, t2, decide_eq_true hv3]; simp))
                clear hv1 hv2 hv3 HP
                go_wp2_with (go_at_call 66; refine (void_any _ _ _).mono ?_; (first | rw [t1] | rw [t2]); rintro e w6 ⟨rfl, hb6⟩; (first | replace hb6 := Below.un1 hb6 | replace hb6 := Below.un2 hb6 | skip); obtain ⟨hc6, hf6, hl6, hm6, hw6⟩ := bcell hb6; have hz6 := hb6.size; (try simp only [World.size_alloc, World.size_setCell] at hz6); have n6 : O < w6.heap.size := (by omega); have n7 : P < w6.heap.size := (by omega); have n8 : Z < w6.heap.size := (by omega))
                refine ⟨⟨k + 1, h, hk1, by go_num, ?_, ?_, ?_, ?_, hid (by rw [HK.out, HM.out, List.foldl_cons, HA.out]), HV, ?_, ?_, ?_, ?_, ?_⟩, by simp [intOf]; omega⟩
                · (first | (simp [go_sem, wr_set, wr_drew, wr_drewN, wr_alloc, wr_new]; done) | (simp [go_sem, wr_set, wr_drew, wr_drewN, wr_alloc, wr_new, *]; done) | (simp (disch := go_size) [go_sem, wr_set, wr_drew, wr_drewN, wr_alloc, wr_new, *]; done))
                · (first | (simp [go_sem, wr_set, wr_drew, wr_drewN, wr_alloc, wr_new]; done) | (simp [go_sem, wr_set, wr_drew, wr_drewN, wr_alloc, wr_new, *]; done) | (simp (disch := go_size) [go_sem, wr_set, wr_drew, wr_drewN, wr_alloc, wr_new, *]; done))
                · (first | (simp [go_sem, wr_set, wr_drew, wr_drewN, wr_alloc, wr_new]; done) | (simp [go_sem, wr_set, wr_drew, wr_drewN, wr_alloc, wr_new, *]; done) | (simp (disch := go_size) [go_sem, wr_set, wr_drew, wr_drewN, wr_alloc, wr_new, *]; done))
                · (first | (simp [go_sem, wr_set, wr_drew, wr_drewN, wr_alloc, wr_new]; done) | (simp [go_sem, wr_set, wr_drew, wr_drewN, wr_alloc, wr_new, *]; done) | (simp (disch := go_size) [go_sem, wr_set, wr_drew, wr_drewN, wr_alloc, wr_new, *]; done))
                · have hsame' := Hs'.out
                  (repeat' (first | (with_reducible assumption) | (with_reducible exact same_refl) | (with_reducible refine same_drew ?_) | (with_reducible refine same_drewN ?_) | (with_reducible refine same_alloc ?_ ?_) | (with_reducible refine same_set ?_ (.inl ?_)) | (with_reducible refine same_set ?_ (.inr ?_)) | (refine same_below ?_ (by assumption) ?_) | rfl | go_size))
                · (first | (simp [go_sem, wr_set, wr_drew, wr_drewN, wr_alloc, wr_new]; done) | (simp [go_sem, wr_set, wr_drew, wr_drewN, wr_alloc, wr_new, *]; done) | (simp (disch := go_size) [go_sem, wr_set, wr_drew, wr_drewN, wr_alloc, wr_new, *]; done))
                · (first | (simp [go_sem, wr_set, wr_drew, wr_drewN, wr_alloc, wr_new]; done) | (simp [go_sem, wr_set, wr_drew, wr_drewN, wr_alloc, wr_new, *]; done) | (simp (disch := go_size) [go_sem, wr_set, wr_drew, wr_drewN, wr_alloc, wr_new, *]; done))
                · omega
                · (repeat' (first | (with_reducible exact Below.refl _ _) | (with_reducible assumption) | (with_reducible refine Below.drew ?_) | (with_reducible refine below_drewN ?_ _) | (with_reducible refine Below.setCell ?_ ?_ _) | (with_reducible refine Below.alloc ?_ ?_ _) | go_size | (exact Below.size (by assumption)) | (refine Below.trans ?_ (Below.mono (by assumption) ?_))))
              · have t3 : decide (s1.lo ≤ s2.hi) = true := decide_eq_true (by omega)
                have hm1 := hma.out (by omega)
                have hm2 := hmz.out (by omega)
                have hs0 : s = ⟨max 0 (s2.lo - s1.hi), s2.hi - s1.lo⟩ := by rw [HP.out, t1, t2, decide_eq_false hv3]; rfl
                have r1 : IntKind.i64.wrap (s2.lo - s1.hi) = s2.lo - s1.hi := IntWalk.i64_in _ (by omega)
                have r2 : IntKind.i64.wrap (s2.hi - s1.lo) = s2.hi - s1.lo := IntWalk.i64_in _ (by omega)
                have HA := hid (outOf_add h s (by rw [hs0]; simp only; omega) (by rw [hs0]; simp only; omega) (by rw [hs0]; simp only; omega))
                have HAO := hid (addS_ok h s HV.out)
                have hslo : s.lo = max 0 (s2.lo - s1.hi) := by rw [hs0]
                have hshi : s.hi = s2.hi - s1.lo := by rw [hs0]
                have HX := hid (And.intro hslo hshi)
                clear hv1 hv2 hv3 hm1 hm2 HP hs0 hslo hshi
                go_wp2_with (first
                  | (go_at_call 66; refine (void_any _ _ _).mono ?_; (first | rw [t1] | rw [t2]); rintro e w6 ⟨rfl, hb6⟩; (first | replace hb6 := Below.un1 hb6 | replace hb6 := Below.un2 hb6 | skip); obtain ⟨hc6, hf6, hl6, hm6, hw6⟩ := bcell hb6; have hz6 := hb6.size; (try simp only [World.size_alloc, World.size_setCell] at hz6); have n6 : O < w6.heap.size := (by omega); have n7 : P < w6.heap.size := (by omega); have n8 : Z < w6.heap.size := (by omega))
                  | (go_at_call 41; refine (to_any _ _ _).mono ?_; rintro e w7 ⟨rfl, hb7⟩; (first | replace hb7 := Below.un1 hb7 | replace hb7 := Below.un2 hb7 | skip); obtain ⟨hc7, hf7, hl7, hm7, hw7⟩ := bcell hb7; have hz7 := hb7.size; (try simp only [World.size_alloc, World.size_setCell] at hz7)))
                all_goals
                  refine ⟨⟨k + 1, addS h s, hk1, by go_num, ?_, ?_, ?_, ?_, hid (by rw [HK.out, HM.out, List.foldl_cons]), HAO, ?_, ?_, ?_, ?_, ?_⟩, by simp [intOf]; omega⟩
                  · rw [HA.out]
                    simp [go_sem, wr_set, wr_drew, wr_drewN, wr_alloc, wr_new, *]
                    have hx := HX.out
                    omega
                  · rw [HA.out]
                    simp [go_sem, wr_set, wr_drew, wr_drewN, wr_alloc, wr_new, *]
                    have hx := HX.out
                    omega
                  · (first | (simp [go_sem, wr_set, wr_drew, wr_drewN, wr_alloc, wr_new]; done) | (simp [go_sem, wr_set, wr_drew, wr_drewN, wr_alloc, wr_new, *]; done) | (simp (disch := go_size) [go_sem, wr_set, wr_drew, wr_drewN, wr_alloc, wr_new, *]; done))
                  · (first | (simp [go_sem, wr_set, wr_drew, wr_drewN, wr_alloc, wr_new]; done) | (simp [go_sem, wr_set, wr_drew, wr_drewN, wr_alloc, wr_new, *]; done) | (simp (disch := go_size) [go_sem, wr_set, wr_drew, wr_drewN, wr_alloc, wr_new, *]; done))
                  · have hsame' := Hs'.out
                    (repeat' (first | (with_reducible assumption) | (with_reducible exact same_refl) | (with_reducible refine same_drew ?_) | (with_reducible refine same_drewN ?_) | (with_reducible refine same_alloc ?_ ?_) | (with_reducible refine same_set ?_ (.inl ?_)) | (with_reducible refine same_set ?_ (.inr ?_)) | (refine same_below ?_ (by assumption) ?_) | rfl | go_size))
                  · (first | (simp [go_sem, wr_set, wr_drew, wr_drewN, wr_alloc, wr_new]; done) | (simp [go_sem, wr_set, wr_drew, wr_drewN, wr_alloc, wr_new, *]; done) | (simp (disch := go_size) [go_sem, wr_set, wr_drew, wr_drewN, wr_alloc, wr_new, *]; done))
                  · (first | (simp [go_sem, wr_set, wr_drew, wr_drewN, wr_alloc, wr_new]; done) | (simp [go_sem, wr_set, wr_drew, wr_drewN, wr_alloc, wr_new, *]; done) | (simp (disch := go_size) [go_sem, wr_set, wr_drew, wr_drewN, wr_alloc, wr_new, *]; done))
                  · simp; omega
                  · (repeat' (first | (with_reducible exact Below.refl _ _) | (with_reducible assumption) | (with_reducible refine Below.drew ?_) | (with_reducible refine below_drewN ?_ _) | (with_reducible refine Below.setCell ?_ ?_ _) | (with_reducible refine Below.alloc ?_ ?_ _) | go_size | (exact Below.size (by assumption)) | (refine Below.trans ?_ (Below.mono (by assumption) ?_))))
      · obtain rfl : k = R.length := by omega
        have HF : Hid (passedH ⟨set, fs⟩ ra rz = h) := hid (by rw [HH.out, HK.out, List.drop_length]; rfl)
        have t1 := outOf_void h HV.out
        have H3 : Hid (passedR ⟨set, fs⟩ ra rz = if h.isNone then (zeroSp, 4) else (outOf h, 0)) := hid (by rw [H1.out, HF.out]; cases h <;> rfl)
        generalize outOf h = u at *
        generalize h.isNone = q at *
        clear o0 o1 o4 q0 q1 Hs HK HV HF
        cases q
        · have H2 : Hid (passedR ⟨set, fs⟩ ra rz = (u, 0)) := hid (by rw [H3.out]; rfl)
          go_wp2_with (go_at_call 66; refine (void_any _ _ _).mono ?_; rw [t1]; rintro e w6 ⟨rfl, hb6⟩; (first | replace hb6 := Below.un1 hb6 | replace hb6 := Below.un2 hb6 | skip); obtain ⟨hc6, hf6, hl6, hm6, hw6⟩ := bcell hb6; have hz6 := hb6.size; (try simp only [World.size_alloc, World.size_setCell] at hz6); have n6 : w.heap.size + 1 < w6.heap.size := (by omega); have n7 : O < w6.heap.size := (by omega))
          simp [bodyPost, results, Try.results21, go_sem, H2.out, *]
          (repeat' (first | (with_reducible exact Below.refl _ _) | (with_reducible assumption) | (with_reducible refine Below.drew ?_) | (with_reducible refine below_drewN ?_ _) | (with_reducible refine Below.setCell ?_ ?_ _) | (with_reducible refine Below.alloc ?_ ?_ _) | go_size | (exact Below.size (by assumption)) | (refine Below.trans ?_ (Below.mono (by assumption) ?_))))
        · have H2 : Hid (passedR ⟨set, fs⟩ ra rz = (zeroSp, 4)) := hid (by rw [H3.out]; rfl)
          go_wp2_with (go_at_call 66; refine (void_any _ _ _).mono ?_; rw [t1]; rintro e w6 ⟨rfl, hb6⟩; (first | replace hb6 := Below.un1 hb6 | replace hb6 := Below.un2 hb6 | skip); obtain ⟨hc6, hf6, hl6, hm6, hw6⟩ := bcell hb6; have hz6 := hb6.size; (try simp only [World.size_alloc, World.size_setCell] at hz6); have n6 : w.heap.size + 1 < w6.heap.size := (by omega))
          simp [bodyPost, results, Try.results21, go_sem, H2.out, zeroSp, *]
          (repeat' (first | (with_reducible exact Below.refl _ _) | (with_reducible assumption) | (with_reducible refine Below.drew ?_) | (with_reducible refine below_drewN ?_ _) | (with_reducible refine Below.setCell ?_ ?_ _) | (with_reducible refine Below.alloc ?_ ?_ _) | go_size | (exact Below.size (by assumption)) | (refine Below.trans ?_ (Below.mono (by assumption) ?_))))
  · have H1 : Hid (passedR ⟨set, fs⟩ ra rz = (zeroSp, askE ⟨set, fs⟩ (isReadingB ra && isReadingB rz))) := hid (by rw [HR.out, if_neg he])
    have ht : (askE ⟨set, fs⟩ (isReadingB ra && isReadingB rz) != 0) = true := by rw [bne_iff_ne]; exact he
    clear HR he
    go_wp2
    simp [bodyPost, results, Try.results21, go_sem, H1.out, zeroSp, *]
    (repeat' (first | (with_reducible exact Below.refl _ _) | (with_reducible assumption) | (with_reducible refine Below.drew ?_) | (with_reducible refine below_drewN ?_ _) | (with_reducible refine Below.setCell ?_ ?_ _) | (with_reducible refine Below.alloc ?_ ?_ _) | go_size | (exact Below.size (by assumption)) | (refine Below.trans ?_ (Below.mono (by assumption) ?_))))
end Go.Proofs.Ytjkajcpanhlbkaa
