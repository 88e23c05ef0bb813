/- What clavendierref01's course returns, for any truth and book. -/
import Derived.Test.YtmddbnjbliponaaE4
import Derived.Test.YtmddbnjbliponaaR4
import Derived.Test.YtmddbnjbliponaaZ
namespace Go.Proofs.Ytmddbnjbliponaa
set_option linter.unusedSimpArgs false
set_option linter.unusedVariables false
open Go.RowKit
attribute [local go_sem high] cell_set_wr
attribute [local go_sem low] cell_wr frozen_wr
attribute [local go_sem] wr_set wr_drew wr_drewN wr_alloc wr_new

theorem spans_snoc (l : List Sp) (s : Sp) : spans (l ++ [s]) = spans l ++ [.int .i64 s.lo, .int .i64 s.hi] := by simp [spans, Sp.cells]
theorem spans_set (X : List Sp) (j : Nat) (h : Int) (hj : j < X.length) : (spans X).set (j * 2 + 1) (.int .i64 h) = spans (X.set j ⟨X[j].lo, h⟩) := by
  induction X generalizing j with
  | nil => simp at hj
  | cons a X ih =>
    cases j with
    | zero => simp [spans, Sp.cells]
    | succ j =>
      have e := ih j (by simpa using hj)
      simp only [spans, List.flatMap_cons, Sp.cells] at e ⊢
      simp only [List.set_cons_succ, List.flatMap_cons, List.getElem_cons_succ, Sp.cells]
      rw [← e, show (j + 1) * 2 + 1 = j * 2 + 1 + 1 + 1 by omega]
      rfl
/-- what course returns -/
def CourseRet (w : World) (r : Option (List Sp)) (e : Ending) (w' : World) : Prop :=
  (match r with
    | none => e = .returned (.tuple #[.slice none 0 0, .bool false])
    | some s => ∃ O oc, e = .returned (.tuple #[.slice O s.length oc, .bool true]) ∧ oc ≤ maxLen ∧ w'.ownsRow w.heap.size 27 2 (.slice O s.length oc) s.length (spans s)) ∧ Below w.heap.size w w'

/-- what the steps of `s.Low = max(s.Low, out[i-1].Low)` leave -/
def maxF (P b o k j oc : Nat) (m prev sl : Int) : Nat → Value → World → Prop
  | 0, v, _ => v = .pointer (some ⟨P, 0, none⟩)
  | 1, v, _ => v = .int .i64 m
  | 2, v, _ => v = .slice (some ⟨b, o, none⟩) k oc
  | 3, v, _ => v = .int .i64 k
  | 4, v, _ => v = .int .i64 j
  | 5, v, _ => v = .pointer (some ⟨b, o + j * 2, none⟩)
  | 6, v, _ => v = .pointer (some ⟨b, o + j * 2, none⟩)
  | 7, v, _ => v = .int .i64 prev
  | 8, v, _ => v = .int .i64 sl
  | 9, v, _ => v = .pointer (some ⟨P, 0, none⟩)
  | _, _, _ => True
theorem maxF_stable (P b o k j oc : Nat) (m prev sl : Int) : ∀ i v w w', Below w.heap.size w w' → maxF P b o k j oc m prev sl i v w → maxF P b o k j oc m prev sl i v w' := by
  intro i v w w' _ h
  unfold maxF at *
  split at h
  all_goals exact h

/-- what the steps of `out[i].High = min(out[i].High, out[i+1].High)` leave -/
def minF (b j m n oc : Nat) (h h1 : Int) : Nat → Value → World → Prop
  | 0, v, _ => v = .slice (some ⟨b, 0, none⟩) n oc
  | 1, v, _ => v = .int .i64 j
  | 2, v, _ => v = .slice (some ⟨b, 0, none⟩) n oc
  | 3, v, _ => v = .int .i64 j
  | 4, v, _ => v = .pointer (some ⟨b, j * 2, none⟩)
  | 5, v, _ => v = .pointer (some ⟨b, j * 2 + 1, none⟩)
  | 6, v, _ => v = .int .i64 h
  | 7, v, _ => v = .slice (some ⟨b, 0, none⟩) n oc
  | 8, v, _ => v = .int .i64 j
  | 9, v, _ => v = .int .i64 m
  | 10, v, _ => v = .pointer (some ⟨b, m * 2, none⟩)
  | 11, v, _ => v = .pointer (some ⟨b, m * 2 + 1, none⟩)
  | 12, v, _ => v = .int .i64 h1
  | 13, v, _ => v = .int .i64 (min h h1)
  | 14, v, _ => v = .pointer (some ⟨b, j * 2, none⟩)
  | 15, v, _ => v = .pointer (some ⟨b, j * 2 + 1, none⟩)
  | _, _, _ => True
theorem minF_stable (b j m n oc : Nat) (h h1 : Int) : ∀ i v w w', Below w.heap.size w w' → minF b j m n oc h h1 i v w → minF b j m n oc h h1 i v w' := by
  intro i v w w' _ h
  unfold minF at *
  split at h
  all_goals exact h

set_option maxRecDepth 100000 in
set_option maxHeartbeats 4000000 in
theorem course_any (set : Int) (A : Option Addr) (n cap : Nat) (fs : List Fr) (T : Option Addr) (tcap : Nat) (tr : List When) (L : Option Addr) (lcap : Nat) (ls : List Ln) (w : World) (hT : Arr w w.heap.size T (spans tr)) (hL : Arr w w.heap.size L (lines ls))
    (hTr : OkTr tr) (hv : ∀ l ∈ ls, lineB l = true) (h6 : ls.length ≤ 6) (hs : 0 ≤ set ∧ set ≤ 4319) :
    Calls Try.prog 76 #[.agg #[.int .i64 set, .slice A n cap], .slice T tr.length tcap, .slice L ls.length lcap] w (CourseRet w (courseT ⟨set, fs⟩ ls tr)) := by
  have HC : Hid (courseT ⟨set, fs⟩ ls tr = (fwdT ⟨set, fs⟩ tr 0 ls).map bwd) := hid rfl
  have hl6 : (ls.length : Int) ≤ 6 := by omega
  go_enter Try.func76, Try.ntmps76
  go_wp2_with fail
  go_loopw [8, 9] (fun ov iv wr => ∃ (k : Nat) (O : Option Addr) (oc : Nat) (F : List Sp) (prev : Int), k ≤ ls.length ∧ iv = .int .i64 k ∧ ov = .slice O k oc ∧ F.length = k ∧ wr.ownsRow (w.heap.size + 1) 27 2 (.slice O k oc) k (spans F) ∧
      Hid (fwdT ⟨set, fs⟩ tr 0 ls = (fwdT ⟨set, fs⟩ tr prev (ls.drop k)).map (F ++ ·)) ∧ 0 ≤ prev ∧ Hid ((k = 0 ∧ prev = 0) ∨ ∃ j, k = j + 1 ∧ ∀ h, (F[j]'h).lo = prev) ∧ wr.cell? ⟨w.heap.size, 0, none⟩ = some (.int .i64 set) ∧ wr.cell? ⟨w.heap.size, 1, none⟩ = some (.slice A n cap) ∧ w.heap.size < wr.heap.size ∧ Below w.heap.size w wr) (fun _ iv _ => ls.length - (intOf iv).toNat)
  case atStart =>
    refine ⟨0, none, 0, [], 0, Nat.zero_le _, rfl, rfl, rfl, own_nil _ _ _ _, hid ?_, Int.le_refl _, hid (.inl ⟨rfl, rfl⟩), ?_, ?_, ?_, ?_⟩
    · simp
    · (first | (simp [go_sem, wr_set, wr_drew, wr_drewN, wr_alloc, wr_new]; done) | (simp [go_sem, wr_set, wr_drew, wr_drewN, wr_alloc, wr_new, *]; done) | (simp (disch := go_size) [go_sem, wr_set, wr_drew, wr_drewN, wr_alloc, wr_new, *]; done))
    · (first | (simp [go_sem, wr_set, wr_drew, wr_drewN, wr_alloc, wr_new]; done) | (simp [go_sem, wr_set, wr_drew, wr_drewN, wr_alloc, wr_new, *]; done) | (simp (disch := go_size) [go_sem, wr_set, wr_drew, wr_drewN, wr_alloc, wr_new, *]; done))
    · simp
    · (repeat' (first | (with_reducible exact Below.refl _ _) | (with_reducible assumption) | (with_reducible refine Below.drew ?_) | (with_reducible refine below_drewN ?_ _) | (with_reducible refine Below.setCell ?_ ?_ _) | (with_reducible refine Below.alloc ?_ ?_ _) | go_size | (exact Below.size (by assumption)) | (refine Below.trans ?_ (Below.mono (by assumption) ?_))))
  case round =>
    obtain ⟨k, O, oc, F, prev, hk, rfl, rfl, hF, hown, HK, hp, HJ, c0, c1, hz, hB⟩ := hrel
    by_cases hlt : k < ls.length
    · have hkI : (k : Int) < ls.length := by omega
      obtain ⟨lb, lo, rfl, hlb, l0, l1, l2⟩ := (hL.below hB).ln hlt
      have hTr' := (hT.below hB).more hB.size
      have hx := hv _ (List.getElem_mem hlt)
      have HD := hid (List.drop_eq_getElem_cons hlt)
      have hk1 : k + 1 ≤ ls.length := hlt
      have hlr : lb < wr.heap.size := by have := hB.size; omega
      generalize ls[k] = x at *
      simp only [lineB, isReadingB, minutesB, Bool.and_eq_true, decide_eq_true_eq] at hx
      obtain ⟨⟨x1, x2⟩, x3, x4, x5⟩ := hx
      obtain ⟨M, hM⟩ : ∃ M, meansT ⟨set, fs⟩ tr x.r = M := ⟨_, rfl⟩
      have HM := hid hM
      clear hM
      go_wp2_with fail
      go_cut [10] (fun p wx => ∃ P : Nat, p = .pointer (some ⟨P, 0, none⟩) ∧ wr.heap.size ≤ P ∧ P < wx.heap.size ∧ wx.cell? ⟨P, 0, none⟩ = some (.int .i64 (max M.lo x.k.lo)) ∧ wx.cell? ⟨P, 1, none⟩ = some (.int .i64 (min M.hi x.k.hi)) ∧ Wr wx P 0 ∧ Wr wx P 1 ∧ Below wr.heap.size wr wx)
      case first =>
        clear hown
        go_region_held3 (fun w' => (w'.cell? ⟨w.heap.size, 0, none⟩ = some (.int .i64 set) ∧ w'.cell? ⟨w.heap.size, 1, none⟩ = some (.slice A n cap) ∧ w'.cell? ⟨lb, lo + k * 3, none⟩ = some (.int .i64 x.r) ∧ w'.cell? ⟨lb, lo + k * 3 + 1, none⟩ = some (.int .i64 x.k.lo) ∧ w'.cell? ⟨lb, lo + k * 3 + 2, none⟩ = some (.int .i64 x.k.hi)) ∧ Below wr.heap.size wr w') (((refine ⟨?_, ?_⟩; (focus (first | (simp [go_sem, wr_set, wr_drew, wr_drewN, wr_alloc, wr_new]; done) | (simp [go_sem, wr_set, wr_drew, wr_drewN, wr_alloc, wr_new, *]; done) | (simp (disch := go_size) [go_sem, wr_set, wr_drew, wr_drewN, wr_alloc, wr_new, *]; done))); (repeat' (first | (with_reducible exact Below.refl _ _) | (with_reducible assumption) | (with_reducible refine Below.drew ?_) | (with_reducible refine below_drewN ?_ _) | (with_reducible refine Below.setCell ?_ ?_ _) | (with_reducible refine Below.alloc ?_ ?_ _) | go_size | (exact Below.size (by assumption)) | (refine Below.trans ?_ (Below.mono (by assumption) ?_)))))))
          (first
            | (go_at_call 65; refine (means_any set _ _ _ fs T tcap tr x.r _ ?_ (Nat.le_refl _) hTr ⟨x1, x2⟩ hs).mono ?_; (focus (refine (hTr'.below ?_).more ?_; (repeat' (first | (with_reducible exact Below.refl _ _) | (with_reducible assumption) | (with_reducible refine Below.drew ?_) | (with_reducible refine below_drewN ?_ _) | (with_reducible refine Below.setCell ?_ ?_ _) | (with_reducible refine Below.alloc ?_ ?_ _) | go_size | (exact Below.size (by assumption)) | (refine Below.trans ?_ (Below.mono (by assumption) ?_)))))); rw [HM.out]; rintro e w1 ⟨rfl, hb1⟩; (first | replace hb1 := Below.un1 hb1 | replace hb1 := Below.un2 hb1 | skip); obtain ⟨hc1, hf1, hl1, hm1, hw1⟩ := bcell hb1; have hz1 := hb1.size; (try simp only [World.size_alloc, World.size_setCell] at hz1); have n1 : w.heap.size < w1.heap.size := (by omega); have n2 : lb < w1.heap.size := (by omega))
            | (go_at_call 88; refine (common_any _ _ _ _ _).mono ?_; rintro e w2 ⟨rfl, hb2⟩; (first | replace hb2 := Below.un1 hb2 | replace hb2 := Below.un2 hb2 | skip); obtain ⟨hc2, hf2, hl2, hm2, hw2⟩ := bcell hb2; have hz2 := hb2.size; (try simp only [World.size_alloc, World.size_setCell] at hz2); have n3 : w.heap.size < w2.heap.size := (by omega); have n4 : lb < w2.heap.size := (by omega)))
        all_goals
          rename_i hHeld
          go_wp2_with fail
          go_meet
          refine ⟨_, rfl, by first | exact Nat.le_refl _ | omega, by first | omega | (simp; done) | (simp; omega), ?_, ?_, ?_, ?_, hHeld.2⟩
          · first
              | (clear hHeld; (first | (simp [go_sem, wr_set, wr_drew, wr_drewN, wr_alloc, wr_new]; done) | (simp [go_sem, wr_set, wr_drew, wr_drewN, wr_alloc, wr_new, *]; done) | (simp (disch := go_size) [go_sem, wr_set, wr_drew, wr_drewN, wr_alloc, wr_new, *]; done)); done)
              | (have q0 : Wr w2 wr.heap.size 0 := by (clear hHeld; (first | (simp [go_sem, wr_set, wr_drew, wr_drewN, wr_alloc, wr_new]; done) | (simp [go_sem, wr_set, wr_drew, wr_drewN, wr_alloc, wr_new, *]; done) | (simp (disch := go_size) [go_sem, wr_set, wr_drew, wr_drewN, wr_alloc, wr_new, *]; done)))
                 rw [World.cell?_setCell_other _ _ _ _ (by simp)]; exact cell_set_wr q0)
          · first
              | (clear hHeld; (first | (simp [go_sem, wr_set, wr_drew, wr_drewN, wr_alloc, wr_new]; done) | (simp [go_sem, wr_set, wr_drew, wr_drewN, wr_alloc, wr_new, *]; done) | (simp (disch := go_size) [go_sem, wr_set, wr_drew, wr_drewN, wr_alloc, wr_new, *]; done)); done)
              | (have q1 : Wr w2 wr.heap.size 1 := by (clear hHeld; (first | (simp [go_sem, wr_set, wr_drew, wr_drewN, wr_alloc, wr_new]; done) | (simp [go_sem, wr_set, wr_drew, wr_drewN, wr_alloc, wr_new, *]; done) | (simp (disch := go_size) [go_sem, wr_set, wr_drew, wr_drewN, wr_alloc, wr_new, *]; done)))
                 exact cell_set_wr (wr_set' q1))
          · (first | (simp [go_sem, wr_set, wr_drew, wr_drewN, wr_alloc, wr_new]; done) | (simp [go_sem, wr_set, wr_drew, wr_drewN, wr_alloc, wr_new, *]; done) | (simp (disch := go_size) [go_sem, wr_set, wr_drew, wr_drewN, wr_alloc, wr_new, *]; done))
          · (first | (simp [go_sem, wr_set, wr_drew, wr_drewN, wr_alloc, wr_new]; done) | (simp [go_sem, wr_set, wr_drew, wr_drewN, wr_alloc, wr_new, *]; done) | (simp (disch := go_size) [go_sem, wr_set, wr_drew, wr_drewN, wr_alloc, wr_new, *]; done))
      case rest =>
        obtain ⟨P, rfl, hP1, hP2, p0, p1, q0, q1, hbP⟩ := hcut
        obtain ⟨s, hsE⟩ : ∃ s, lineT ⟨set, fs⟩ tr prev x = s := ⟨_, rfl⟩
        have Hlo : s.lo = max (max M.lo x.k.lo) prev := by rw [← hsE, lineT, HM.out]; rfl
        have Hhi : min M.hi x.k.hi = s.hi := by rw [← hsE, lineT, HM.out]; rfl
        have HS := hid hsE
        rename_i hKK
        refine hKK _ _ ?_
        clear hKK
        rw [Hhi] at p1
        have HH := hid Hlo
        have HO := hid hown
        clear l0 l1 l2 hown Hhi Hlo hsE hTr'
        have Hk : Hid (k = 0 → max M.lo x.k.lo = s.lo) := hid (fun h0 => by
          obtain ⟨_, hp0⟩ | ⟨j, hj, _⟩ := HJ.out
          · rw [HH.out, hp0]; omega
          · omega)
        rcases Nat.eq_zero_or_pos k with h0 | h0
        case' inl =>
          rw [Hk.out h0] at p0
          have hP3 : P < wc.heap.size := hP2
          have hown' := own_below HO.out hbP
          have d0 : wc.cell? ⟨w.heap.size, 0, none⟩ = some (.int .i64 set) := (hbP.cell (by simp only; omega)).trans c0
          have d1 : wc.cell? ⟨w.heap.size, 1, none⟩ = some (.slice A n cap) := (hbP.cell (by simp only; omega)).trans c1
          have hBc : Below w.heap.size w wc := hB.trans (hbP.mono (by omega))
          have hzc := hbP.size
          clear c0 c1 hbP hB q0 q1 HO
          have hnk : ¬ (0 : Int) < k := by omega
          have H0 := hid h0
          clear h0
        case' inr =>
          obtain ⟨j, hj, hjF⟩ : ∃ j, k = j + 1 ∧ ∀ h, (F[j]'h).lo = prev := by
            rcases HJ.out with ⟨hx0, _⟩ | hx0
            · omega
            · exact hx0
          have hjl : j < F.length := by omega
          obtain ⟨O', oc', e', _, hocm, hOA⟩ := own_form (own_below HO.out hbP)
          simp only [Value.slice.injEq] at e'
          obtain ⟨rfl, _, rfl⟩ := e'
          obtain ⟨b, o, rfl, hbz, v0, v1⟩ := hOA.sp hjl
          rw [hjF hjl] at v0
          have hkj : (k : Int) - 1 = j := by omega
          have rj : IntKind.i64.wrap (j : Int) = j := IntWalk.i64_in _ (by omega)
          have hjk : (j : Int) < k := by omega
          have hk0 : (0 : Int) < k := by omega
          have e : max (max M.lo x.k.lo) prev = s.lo := HH.out.symm
          have HJk := hid hj
          clear hOA v1 hjF hj
          go_wp2_with fail
          go_cut [] (fun wx => wx.cell? ⟨P, 0, none⟩ = some (.int .i64 s.lo) ∧ wx.cell? ⟨P, 1, none⟩ = some (.int .i64 s.hi) ∧ P < wx.heap.size ∧ Below wr.heap.size wr wx)
          case first =>
            clear c0 c1 hB
            refine wp_region_any (by kernel_rfl) ?_
            have T0 : Below wc.heap.size wc wc.drew := (Below.refl _ _).drew
            refine lin_any [10] 74 (maxF P b o k j oc (max M.lo x.k.lo) prev s.lo) (fun w' => Below wc.heap.size wc w') (fun w1 w2 => Below w1.heap.size w1 w2)
              [0, 1, 2, 3, 4, 5, 6, 7, 8, 9, 10, 11, 44, 45, 46, 47, 48, 49, 50, 51, 52, 53, 54, 55, 56, 57, 58, 59, 60, 61, 62, 63, 64, 65, 66, 67, 68, 69, 70, 71, 72, 73] #[true, true, true, true, true, true, true, true, true, true, false] [0, 1, 2, 3, 4, 5, 6, 7, 8, 9] (by kernel_rfl) (by kernel_rfl) (by kernel_rfl) (by kernel_rfl) (by kernel_rfl) (by kernel_rfl) (by kernel_rfl) (by kernel_rfl) (by kernel_rfl) (by kernel_rfl)
              (maxF_stable _ _ _ _ _ _ _ _ _) (by rfl) T0 ?_ ?_
            · intro a' w' hd hsz hkn hT
              obtain ⟨xs, D⟩ := a'; obtain ⟨l0⟩ := xs; dsimp only at hd hsz hkn; subst hd; have hs0 := hsz; clear hsz; simp only [List.size_toArray] at hs0; obtain ⟨x0, x1, x2, x3, x4, x5, x6, x7, x8, x9, l1, rfl, hs1⟩ := len_ten hs0; clear hs0; obtain ⟨x10, x11, x12, x13, x14, x15, x16, x17, x18, x19, l2, rfl, hs2⟩ := len_ten hs1; clear hs1; obtain ⟨x20, x21, x22, x23, x24, x25, x26, x27, x28, x29, l3, rfl, hs3⟩ := len_ten hs2; clear hs2; obtain ⟨x30, x31, x32, x33, x34, x35, x36, x37, x38, x39, l4, rfl, hs4⟩ := len_ten hs3; clear hs3; obtain ⟨x40, x41, x42, x43, x44, x45, x46, x47, x48, x49, l5, rfl, hs5⟩ := len_ten hs4; clear hs4; obtain ⟨x50, x51, x52, x53, x54, x55, x56, x57, x58, x59, l6, rfl, hs6⟩ := len_ten hs5; clear hs5; obtain ⟨x60, x61, x62, x63, x64, x65, x66, x67, x68, x69, l7, rfl, hs7⟩ := len_ten hs6; clear hs6; obtain ⟨x70, l8, rfl, hs8⟩ := len_succ hs7; clear hs7; obtain ⟨x71, l9, rfl, hs9⟩ := len_succ hs8; clear hs8; obtain ⟨x72, l10, rfl, hs10⟩ := len_succ hs9; clear hs9; obtain ⟨x73, l11, rfl, hs11⟩ := len_succ hs10; clear hs10; obtain rfl := List.length_eq_zero_iff.1 hs11; clear hs11; have kn := known_list hkn; clear hkn; simp only [List.map_cons, List.map_nil, List.getElem?_toArray, List.getElem?_cons_succ, List.getElem?_cons_zero, Array.getD_eq_getD_getElem?, Option.getD_some, List.cons.injEq, Option.some.injEq, and_true] at kn; obtain ⟨rfl, rfl, rfl, rfl, rfl, rfl, rfl, rfl, rfl, rfl, rfl, rfl, rfl, rfl, rfl, rfl, rfl, rfl, rfl, rfl, rfl, rfl, rfl, rfl, rfl, rfl, rfl, rfl, rfl, rfl, rfl, rfl, rfl, rfl, rfl, rfl, rfl, rfl, rfl, rfl, rfl, rfl⟩ := kn
              have e0 : w'.cell? ⟨P, 0, none⟩ = some (.int .i64 (max M.lo x.k.lo)) := (hT.cell (by simp only; omega)).trans p0
              have e1 : w'.cell? ⟨b, o + j * 2, none⟩ = some (.int .i64 prev) := (hT.cell (by simp only; omega)).trans v0
              refine LinOps.cons (by simp only [List.getElem?_toArray, List.getElem?_cons_succ, List.getElem?_cons_zero]; rfl) (fun hk K hK => ?_) ?_
              · go_simp
                exact hK.out _ _ _ rfl rfl hT (Below.refl _ _)
              refine LinOps.cons (by simp only [List.getElem?_toArray, List.getElem?_cons_succ, List.getElem?_cons_zero]; rfl) (fun hk K hK => ?_) ?_
              · (obtain ⟨v, hv, hf⟩ := Known.get (hk 0 (by kernel_rfl) (by simp)) (d := 34) (by kernel_rfl); simp only [List.getElem?_toArray, List.getElem?_cons_succ, List.getElem?_cons_zero, Option.some.injEq] at hv; subst hv; simp only [maxF] at hf; (try subst hf))
                go_simp
                exact hK.out _ _ _ rfl rfl hT (Below.refl _ _)
              refine LinOps.cons (by simp only [List.getElem?_toArray, List.getElem?_cons_succ, List.getElem?_cons_zero]; rfl) (fun hk K hK => ?_) ?_
              · go_simp
                exact hK.out _ _ _ rfl rfl hT (Below.refl _ _)
              refine LinOps.cons (by simp only [List.getElem?_toArray, List.getElem?_cons_succ, List.getElem?_cons_zero]; rfl) (fun hk K hK => ?_) ?_
              · go_simp
                exact hK.out _ _ _ rfl rfl hT (Below.refl _ _)
              refine LinOps.cons (by simp only [List.getElem?_toArray, List.getElem?_cons_succ, List.getElem?_cons_zero]; rfl) (fun hk K hK => ?_) ?_
              · (obtain ⟨v, hv, hf⟩ := Known.get (hk 3 (by kernel_rfl) (by simp)) (d := 37) (by kernel_rfl); simp only [List.getElem?_toArray, List.getElem?_cons_succ, List.getElem?_cons_zero, Option.some.injEq] at hv; subst hv; simp only [maxF] at hf; (try subst hf))
                go_simp
                exact hK.out _ _ _ rfl (by simp only [maxF, hkj, rj]) hT (Below.refl _ _)
              refine LinOps.cons (by simp only [List.getElem?_toArray, List.getElem?_cons_succ, List.getElem?_cons_zero]; rfl) (fun hk K hK => ?_) ?_
              · (obtain ⟨v, hv, hf⟩ := Known.get (hk 2 (by kernel_rfl) (by simp)) (d := 36) (by kernel_rfl); simp only [List.getElem?_toArray, List.getElem?_cons_succ, List.getElem?_cons_zero, Option.some.injEq] at hv; subst hv; simp only [maxF] at hf; (try subst hf)); (obtain ⟨v, hv, hf⟩ := Known.get (hk 4 (by kernel_rfl) (by simp)) (d := 38) (by kernel_rfl); simp only [List.getElem?_toArray, List.getElem?_cons_succ, List.getElem?_cons_zero, Option.some.injEq] at hv; subst hv; simp only [maxF] at hf; (try subst hf))
                go_simp
                exact hK.out _ _ _ rfl rfl hT (Below.refl _ _)
              refine LinOps.cons (by simp only [List.getElem?_toArray, List.getElem?_cons_succ, List.getElem?_cons_zero]; rfl) (fun hk K hK => ?_) ?_
              · (obtain ⟨v, hv, hf⟩ := Known.get (hk 5 (by kernel_rfl) (by simp)) (d := 39) (by kernel_rfl); simp only [List.getElem?_toArray, List.getElem?_cons_succ, List.getElem?_cons_zero, Option.some.injEq] at hv; subst hv; simp only [maxF] at hf; (try subst hf))
                go_simp
                exact hK.out _ _ _ rfl rfl hT (Below.refl _ _)
              refine LinOps.cons (by simp only [List.getElem?_toArray, List.getElem?_cons_succ, List.getElem?_cons_zero]; rfl) (fun hk K hK => ?_) ?_
              · (obtain ⟨v, hv, hf⟩ := Known.get (hk 6 (by kernel_rfl) (by simp)) (d := 40) (by kernel_rfl); simp only [List.getElem?_toArray, List.getElem?_cons_succ, List.getElem?_cons_zero, Option.some.injEq] at hv; subst hv; simp only [maxF] at hf; (try subst hf))
                go_simp
                exact hK.out _ _ _ rfl rfl hT (Below.refl _ _)
              refine LinOps.cons (by simp only [List.getElem?_toArray, List.getElem?_cons_succ, List.getElem?_cons_zero]; rfl) (fun hk K hK => ?_) ?_
              · (obtain ⟨v, hv, hf⟩ := Known.get (hk 1 (by kernel_rfl) (by simp)) (d := 35) (by kernel_rfl); simp only [List.getElem?_toArray, List.getElem?_cons_succ, List.getElem?_cons_zero, Option.some.injEq] at hv; subst hv; simp only [maxF] at hf; (try subst hf)); (obtain ⟨v, hv, hf⟩ := Known.get (hk 7 (by kernel_rfl) (by simp)) (d := 41) (by kernel_rfl); simp only [List.getElem?_toArray, List.getElem?_cons_succ, List.getElem?_cons_zero, Option.some.injEq] at hv; subst hv; simp only [maxF] at hf; (try subst hf))
                go_simp
                have e8 : (if max M.lo x.k.lo < prev then prev else max M.lo x.k.lo) = s.lo := by rw [← e]; split <;> omega
                exact hK.out _ _ _ rfl (by simp only [maxF, e8]) hT (Below.refl _ _)
              refine LinOps.cons (by simp only [List.getElem?_toArray, List.getElem?_cons_succ, List.getElem?_cons_zero]; rfl) (fun hk K hK => ?_) ?_
              · go_simp
                exact hK.out _ _ _ rfl rfl hT (Below.refl _ _)
              exact LinOps.nil
            · intro a' w' hd hsz hkn hT hall
              obtain ⟨xs, D⟩ := a'; obtain ⟨l0⟩ := xs; dsimp only at hd hsz hkn; subst hd; have hs0 := hsz; clear hsz; simp only [List.size_toArray] at hs0; obtain ⟨x0, x1, x2, x3, x4, x5, x6, x7, x8, x9, l1, rfl, hs1⟩ := len_ten hs0; clear hs0; obtain ⟨x10, x11, x12, x13, x14, x15, x16, x17, x18, x19, l2, rfl, hs2⟩ := len_ten hs1; clear hs1; obtain ⟨x20, x21, x22, x23, x24, x25, x26, x27, x28, x29, l3, rfl, hs3⟩ := len_ten hs2; clear hs2; obtain ⟨x30, x31, x32, x33, x34, x35, x36, x37, x38, x39, l4, rfl, hs4⟩ := len_ten hs3; clear hs3; obtain ⟨x40, x41, x42, x43, x44, x45, x46, x47, x48, x49, l5, rfl, hs5⟩ := len_ten hs4; clear hs4; obtain ⟨x50, x51, x52, x53, x54, x55, x56, x57, x58, x59, l6, rfl, hs6⟩ := len_ten hs5; clear hs5; obtain ⟨x60, x61, x62, x63, x64, x65, x66, x67, x68, x69, l7, rfl, hs7⟩ := len_ten hs6; clear hs6; obtain ⟨x70, l8, rfl, hs8⟩ := len_succ hs7; clear hs7; obtain ⟨x71, l9, rfl, hs9⟩ := len_succ hs8; clear hs8; obtain ⟨x72, l10, rfl, hs10⟩ := len_succ hs9; clear hs9; obtain ⟨x73, l11, rfl, hs11⟩ := len_succ hs10; clear hs10; obtain rfl := List.length_eq_zero_iff.1 hs11; clear hs11; have kn := known_list hkn; clear hkn; simp only [List.map_cons, List.map_nil, List.getElem?_toArray, List.getElem?_cons_succ, List.getElem?_cons_zero, Array.getD_eq_getD_getElem?, Option.getD_some, List.cons.injEq, Option.some.injEq, and_true] at kn; obtain ⟨rfl, rfl, rfl, rfl, rfl, rfl, rfl, rfl, rfl, rfl, rfl, rfl, rfl, rfl, rfl, rfl, rfl, rfl, rfl, rfl, rfl, rfl, rfl, rfl, rfl, rfl, rfl, rfl, rfl, rfl, rfl, rfl, rfl, rfl, rfl, rfl, rfl, rfl, rfl, rfl, rfl, rfl⟩ := kn
              (obtain ⟨v, hv, hf⟩ := Known.get (hall 8 (by kernel_rfl) ) (d := 42) (by kernel_rfl); simp only [List.getElem?_toArray, List.getElem?_cons_succ, List.getElem?_cons_zero, Option.some.injEq] at hv; subst hv; simp only [maxF] at hf; (try subst hf))
              (obtain ⟨v, hv, hf⟩ := Known.get (hall 9 (by kernel_rfl) ) (d := 43) (by kernel_rfl); simp only [List.getElem?_toArray, List.getElem?_cons_succ, List.getElem?_cons_zero, Option.some.injEq] at hv; subst hv; simp only [maxF] at hf; (try subst hf))
              clear hall
              have q0' : Wr w' P 0 := wr_below q0 hT hP2
              have q1' : Wr w' P 1 := wr_below q1 hT hP2
              have e1 : w'.cell? ⟨P, 1, none⟩ = some (.int .i64 s.hi) := (hT.cell (by simp only; omega)).trans p1
              have hzT := hT.size
              refine wpAny_ready (rs := [10]) (by kernel_rfl) (by simp) ?_; refine AllReady.cons (by simp only [List.getElem?_toArray, List.getElem?_cons_succ, List.getElem?_cons_zero]; rfl) (fun K hK => ?_) AllReady.nil
              go_simp
              refine hK _ _ ?_
              (try simp only [Act.put, List.setIfInBounds_toArray, List.set_cons_zero, List.set_cons_succ])
              clear hK K
              refine wpAny_done (by kernel_rfl) ?_ _
              go_wp2_with fail
              go_meet
              refine ⟨?_, ?_, ?_, ?_⟩
              · exact cell_set_wr q0'
              · rw [World.cell?_setCell_other _ _ _ _ (by simp)]; exact e1
              · simp; omega
              · exact (hbP.trans (hT.mono hbP.size)).setCell hP1 _
          case' rest =>
            obtain ⟨p0', p1', hP3, hbQ⟩ := hcut
            have hown' := own_below HO.out hbQ
            have d0 : wc.cell? ⟨w.heap.size, 0, none⟩ = some (.int .i64 set) := (hbQ.cell (by simp only; omega)).trans c0
            have d1 : wc.cell? ⟨w.heap.size, 1, none⟩ = some (.slice A n cap) := (hbQ.cell (by simp only; omega)).trans c1
            have hBc : Below w.heap.size w wc := hB.trans (hbQ.mono (by omega))
            have hzc := hbQ.size
            clear c0 c1 hbP hbQ hB q0 q1 HO p0 p1 v0
            rename_i hKK
            refine hKK _ _ ?_
            clear hKK
            have p0 := p0'
            have p1 := p1'
            clear p0' p1'
        all_goals
          have hs0 : 0 ≤ s.lo := by have := HH.out; omega
          by_cases hv : s.hi < s.lo
          · have t1 : decide (s.hi < s.lo) = true := decide_eq_true hv
            have HN : Hid (courseT ⟨set, fs⟩ ls tr = none) := hid (by rw [HC.out, HK.out, HD.out, fwdT_cons, HS.out, if_pos hv]; rfl)
            clear hv hown'
            go_wp2_with (go_at_call 66; refine (void_any _ _ _).mono ?_; rw [t1]; rintro e w1 ⟨rfl, hb1⟩; (first | replace hb1 := Below.un1 hb1 | replace hb1 := Below.un2 hb1 | skip); obtain ⟨hc1, hf1, hl1, hm1, hw1⟩ := bcell hb1; have hz1 := hb1.size; (try simp only [World.size_alloc, World.size_setCell] at hz1))
            simp [bodyPost, results, Try.results76, go_sem, *]
            rw [HN.out]
            exact ⟨rfl, by (repeat' (first | (with_reducible exact Below.refl _ _) | (with_reducible assumption) | (with_reducible refine Below.drew ?_) | (with_reducible refine below_drewN ?_ _) | (with_reducible refine Below.setCell ?_ ?_ _) | (with_reducible refine Below.alloc ?_ ?_ _) | go_size | (exact Below.size (by assumption)) | (refine Below.trans ?_ (Below.mono (by assumption) ?_))))⟩
          · have t1 : decide (s.hi < s.lo) = false := decide_eq_false hv
            have HK2 : Hid (fwdT ⟨set, fs⟩ tr 0 ls = (fwdT ⟨set, fs⟩ tr s.lo (ls.drop (k + 1))).map ((F ++ [s]) ++ ·)) := hid (by
              rw [HK.out, HD.out, fwdT_cons, HS.out, if_neg hv, Option.map_map]
              congr 1
              funext q
              simp)
            have HJ2 : Hid (k + 1 = 0 ∧ s.lo = 0 ∨ ∃ j, k + 1 = j + 1 ∧ ∀ h, ((F ++ [s])[j]'h).lo = s.lo) := hid (.inr ⟨k, rfl, fun h => by
              rw [List.getElem_append_right (by omega)]; simp [hF]⟩)
            clear hv HK HJ Hk
            go_wp2_with (first
              | (go_at_call 66; refine (void_any _ _ _).mono ?_; rw [t1]; rintro e w1 ⟨rfl, hb1⟩; (first | replace hb1 := Below.un1 hb1 | replace hb1 := Below.un2 hb1 | skip); obtain ⟨hc1, hf1, hl1, hm1, hw1⟩ := bcell hb1; have hz1 := hb1.size; (try simp only [World.size_alloc, World.size_setCell] at hz1); have ho1 := own_below hown' hb1; have n1 : w.heap.size < w1.heap.size := (by omega); have n2 : P < w1.heap.size := (by omega))
              | (at_builtin; go_loud (refine wpList_app1 rfl _ _ 42 rfl (w.heap.size + 1) 27 _ 2 16 Try.underlying42 info_span rfl (by omega) _ _ _ rfl ho1 _ rfl rfl (by simp [Value.oneCell']) (by unfold maxLen; omega) (by omega) (by first | omega | (simp; omega)) ?_; intro A1 cap1 w5 hcap1 hcap1' hown5 hb5' hg5; have v0 : w5.cell? ⟨w.heap.size, 0, none⟩ = some (.int .i64 set) := ((hb5'.cell (by simp only; omega)).trans ((hb1.cell (by simp only; omega)).trans d0)); have v1 : w5.cell? ⟨w.heap.size, 1, none⟩ = some (.slice A n cap) := ((hb5'.cell (by simp only; omega)).trans ((hb1.cell (by simp only; omega)).trans d1)); have vB : Below w.heap.size w w5 := (hBc.trans (hb1.mono (by omega))).trans (hb5'.mono (by omega)); have vz := hb5'.size)))
            refine ⟨⟨k + 1, A1, cap1, F ++ [s], s.lo, hk1, by go_num, rfl, by simp [hF], ?_, HK2, hs0, HJ2, v0, v1, by omega, vB⟩, by simp [intOf]; omega⟩
            rw [spans_snoc]
            exact hown5
    · obtain rfl : k = ls.length := by omega
      have HF : Hid (courseT ⟨set, fs⟩ ls tr = some (bwd F)) := hid (by rw [HC.out, HK.out, List.drop_length]; simp [fwdT])
      clear HK HJ HC hT hL
      go_wp2_with fail
      go_loopw [11] (fun iv wx => ∃ (d : Int) (X : List Sp), iv = .int .i64 d ∧ -2 ≤ d ∧ d + 2 ≤ ls.length ∧ X.length = ls.length ∧ Hid (X = F.take (d + 1).toNat ++ bwd (F.drop (d + 1).toNat)) ∧
          wx.ownsRow (w.heap.size + 1) 27 2 (.slice O ls.length oc) ls.length (spans X) ∧ Below w.heap.size w wx) (fun iv _ => (intOf iv + 2).toNat)
      case atStart =>
        refine ⟨(ls.length : Int) - 2, F, ?_, by omega, by omega, hF, hid (bwd_start F ls.length hF).symm, hown, hB⟩
        go_num
      case round =>
        obtain ⟨d, X, rfl, hd0, hd1, hX, HX, hownX, hBX⟩ := hrel
        by_cases hlt : 0 ≤ d
        · obtain ⟨j, rfl⟩ : ∃ j : Nat, d = j := ⟨d.toNat, by omega⟩
          have hj1 : j + 1 < X.length := by omega
          have hj0 : j < X.length := by omega
          obtain ⟨O', oc', e', _, hocm, hOA⟩ := own_form hownX
          simp only [Value.slice.injEq] at e'
          obtain ⟨rfl, _, rfl⟩ := e'
          obtain ⟨b, o, rfl, hbz, _, v0⟩ := hOA.sp (k := j) (by omega)
          obtain ⟨b', o', e', _, _, v1⟩ := hOA.sp (k := j + 1) hj1
          simp only [Option.some.injEq, Addr.mk.injEq, and_true] at e'
          obtain ⟨rfl, rfl⟩ := e'
          have ho0 : o = 0 := by
            rcases hownX.2 with ⟨h, _⟩ | ⟨g, cap, cur, h, _⟩
            · simp at h
            · simp only [Value.slice.injEq, Option.some.injEq, Addr.mk.injEq] at h
              exact h.1.2.1
          subst ho0
          have hjI : (j : Int) < ls.length := by omega
          obtain ⟨m, hm'⟩ : ∃ m : Nat, m = j + 1 := ⟨_, rfl⟩
          have hm : (j : Int) + 1 = m := by omega
          have rm : IntKind.i64.wrap (m : Int) = m := IntWalk.i64_in _ (by omega)
          have hmI : (m : Int) < ls.length := by omega
          rw [Nat.zero_add] at v0 v1
          have HM' := hid hm'
          obtain ⟨h, hh⟩ : ∃ h, (X[j]'hj0).hi = h := ⟨_, rfl⟩
          obtain ⟨h1, hh1⟩ : ∃ h1, (X[j + 1]'hj1).hi = h1 := ⟨_, rfl⟩
          rw [hh] at v0
          rw [hh1, ← hm'] at v1
          have Hh := hid hh
          have Hh1 := hid hh1
          clear hh hh1 hm' hOA
          have hbw : w.heap.size + 1 ≤ b := by
            rcases hownX.2 with ⟨h, _⟩ | ⟨g, cap, cur, h, hb, _⟩
            · simp at h
            · simp only [Value.slice.injEq, Option.some.injEq, Addr.mk.injEq] at h
              rw [h.1.1]; exact hb
          have HO := hid hownX
          clear hownX hown
          go_wp2_with fail
          refine wp_region_any (by kernel_rfl) ?_
          have T0 : Below wr.heap.size wr wr.drew := (Below.refl _ _).drew
          refine lin_any [16] 74 (minF b j m ls.length oc h h1) (fun w' => Below wr.heap.size wr w') (fun w1 w2 => Below w1.heap.size w1 w2)
            [0, 1, 2, 3, 4, 5, 6, 7, 8, 9, 10, 11, 12, 13, 14, 15, 16, 17, 18, 19, 20, 21, 22, 23, 24, 25, 26, 27, 28, 29, 30, 31, 32, 33, 34, 35, 36, 37, 38, 39, 40, 41, 42, 43, 44, 45, 46, 47, 48, 49, 50, 51, 52, 53, 54, 55, 56, 73] #[true, true, true, true, true, true, true, true, true, true, true, true, true, true, true, true, false] [0, 1, 2, 3, 4, 5, 6, 7, 8, 9, 10, 11, 12, 13, 14, 15] (by kernel_rfl) (by kernel_rfl) (by kernel_rfl) (by kernel_rfl) (by kernel_rfl) (by kernel_rfl) (by kernel_rfl) (by kernel_rfl) (by kernel_rfl) (by kernel_rfl)
            (minF_stable _ _ _ _ _ _ _) (by rfl) T0 ?_ ?_
          · intro a' w' hd hsz hkn hT
            obtain ⟨xs, D⟩ := a'; obtain ⟨l0⟩ := xs; dsimp only at hd hsz hkn; subst hd; have hs0 := hsz; clear hsz; simp only [List.size_toArray] at hs0; obtain ⟨x0, x1, x2, x3, x4, x5, x6, x7, x8, x9, l1, rfl, hs1⟩ := len_ten hs0; clear hs0; obtain ⟨x10, x11, x12, x13, x14, x15, x16, x17, x18, x19, l2, rfl, hs2⟩ := len_ten hs1; clear hs1; obtain ⟨x20, x21, x22, x23, x24, x25, x26, x27, x28, x29, l3, rfl, hs3⟩ := len_ten hs2; clear hs2; obtain ⟨x30, x31, x32, x33, x34, x35, x36, x37, x38, x39, l4, rfl, hs4⟩ := len_ten hs3; clear hs3; obtain ⟨x40, x41, x42, x43, x44, x45, x46, x47, x48, x49, l5, rfl, hs5⟩ := len_ten hs4; clear hs4; obtain ⟨x50, x51, x52, x53, x54, x55, x56, x57, x58, x59, l6, rfl, hs6⟩ := len_ten hs5; clear hs5; obtain ⟨x60, x61, x62, x63, x64, x65, x66, x67, x68, x69, l7, rfl, hs7⟩ := len_ten hs6; clear hs6; obtain ⟨x70, l8, rfl, hs8⟩ := len_succ hs7; clear hs7; obtain ⟨x71, l9, rfl, hs9⟩ := len_succ hs8; clear hs8; obtain ⟨x72, l10, rfl, hs10⟩ := len_succ hs9; clear hs9; obtain ⟨x73, l11, rfl, hs11⟩ := len_succ hs10; clear hs10; obtain rfl := List.length_eq_zero_iff.1 hs11; clear hs11; have kn := known_list hkn; clear hkn; simp only [List.map_cons, List.map_nil, List.getElem?_toArray, List.getElem?_cons_succ, List.getElem?_cons_zero, Array.getD_eq_getD_getElem?, Option.getD_some, List.cons.injEq, Option.some.injEq, and_true] at kn; obtain ⟨rfl, rfl, rfl, rfl, rfl, rfl, rfl, rfl, rfl, rfl, rfl, rfl, rfl, rfl, rfl, rfl, rfl, rfl, rfl, rfl, rfl, rfl, rfl, rfl, rfl, rfl, rfl, rfl, rfl, rfl, rfl, rfl, rfl, rfl, rfl, rfl, rfl, rfl, rfl, rfl, rfl, rfl, rfl, rfl, rfl, rfl, rfl, rfl, rfl, rfl, rfl, rfl, rfl, rfl, rfl, rfl, rfl, rfl⟩ := kn
            have e0 : w'.cell? ⟨b, j * 2 + 1, none⟩ = some (.int .i64 h) := (hT.cell (by simp only; omega)).trans v0
            have e1 : w'.cell? ⟨b, m * 2 + 1, none⟩ = some (.int .i64 h1) := (hT.cell (by simp only; omega)).trans v1
            refine LinOps.cons (by simp only [List.getElem?_toArray, List.getElem?_cons_succ, List.getElem?_cons_zero]; rfl) (fun hk K hK => ?_) ?_
            · go_simp
              exact hK.out _ _ _ rfl rfl hT (Below.refl _ _)
            refine LinOps.cons (by simp only [List.getElem?_toArray, List.getElem?_cons_succ, List.getElem?_cons_zero]; rfl) (fun hk K hK => ?_) ?_
            · go_simp
              exact hK.out _ _ _ rfl rfl hT (Below.refl _ _)
            refine LinOps.cons (by simp only [List.getElem?_toArray, List.getElem?_cons_succ, List.getElem?_cons_zero]; rfl) (fun hk K hK => ?_) ?_
            · go_simp
              exact hK.out _ _ _ rfl rfl hT (Below.refl _ _)
            refine LinOps.cons (by simp only [List.getElem?_toArray, List.getElem?_cons_succ, List.getElem?_cons_zero]; rfl) (fun hk K hK => ?_) ?_
            · go_simp
              exact hK.out _ _ _ rfl rfl hT (Below.refl _ _)
            refine LinOps.cons (by simp only [List.getElem?_toArray, List.getElem?_cons_succ, List.getElem?_cons_zero]; rfl) (fun hk K hK => ?_) ?_
            · (obtain ⟨v, hv, hf⟩ := Known.get (hk 2 (by kernel_rfl) (by simp)) (d := 59) (by kernel_rfl); simp only [List.getElem?_toArray, List.getElem?_cons_succ, List.getElem?_cons_zero, Option.some.injEq] at hv; subst hv; simp only [minF] at hf; (try subst hf)); (obtain ⟨v, hv, hf⟩ := Known.get (hk 3 (by kernel_rfl) (by simp)) (d := 60) (by kernel_rfl); simp only [List.getElem?_toArray, List.getElem?_cons_succ, List.getElem?_cons_zero, Option.some.injEq] at hv; subst hv; simp only [minF] at hf; (try subst hf))
              go_simp
              exact hK.out _ _ _ rfl rfl hT (Below.refl _ _)
            refine LinOps.cons (by simp only [List.getElem?_toArray, List.getElem?_cons_succ, List.getElem?_cons_zero]; rfl) (fun hk K hK => ?_) ?_
            · (obtain ⟨v, hv, hf⟩ := Known.get (hk 4 (by kernel_rfl) (by simp)) (d := 61) (by kernel_rfl); simp only [List.getElem?_toArray, List.getElem?_cons_succ, List.getElem?_cons_zero, Option.some.injEq] at hv; subst hv; simp only [minF] at hf; (try subst hf))
              go_simp
              exact hK.out _ _ _ rfl rfl hT (Below.refl _ _)
            refine LinOps.cons (by simp only [List.getElem?_toArray, List.getElem?_cons_succ, List.getElem?_cons_zero]; rfl) (fun hk K hK => ?_) ?_
            · (obtain ⟨v, hv, hf⟩ := Known.get (hk 5 (by kernel_rfl) (by simp)) (d := 62) (by kernel_rfl); simp only [List.getElem?_toArray, List.getElem?_cons_succ, List.getElem?_cons_zero, Option.some.injEq] at hv; subst hv; simp only [minF] at hf; (try subst hf))
              go_simp
              exact hK.out _ _ _ rfl rfl hT (Below.refl _ _)
            refine LinOps.cons (by simp only [List.getElem?_toArray, List.getElem?_cons_succ, List.getElem?_cons_zero]; rfl) (fun hk K hK => ?_) ?_
            · go_simp
              exact hK.out _ _ _ rfl rfl hT (Below.refl _ _)
            refine LinOps.cons (by simp only [List.getElem?_toArray, List.getElem?_cons_succ, List.getElem?_cons_zero]; rfl) (fun hk K hK => ?_) ?_
            · go_simp
              exact hK.out _ _ _ rfl rfl hT (Below.refl _ _)
            refine LinOps.cons (by simp only [List.getElem?_toArray, List.getElem?_cons_succ, List.getElem?_cons_zero]; rfl) (fun hk K hK => ?_) ?_
            · (obtain ⟨v, hv, hf⟩ := Known.get (hk 8 (by kernel_rfl) (by simp)) (d := 65) (by kernel_rfl); simp only [List.getElem?_toArray, List.getElem?_cons_succ, List.getElem?_cons_zero, Option.some.injEq] at hv; subst hv; simp only [minF] at hf; (try subst hf))
              go_simp
              exact hK.out _ _ _ rfl (by simp only [minF, hm, rm]) hT (Below.refl _ _)
            refine LinOps.cons (by simp only [List.getElem?_toArray, List.getElem?_cons_succ, List.getElem?_cons_zero]; rfl) (fun hk K hK => ?_) ?_
            · (obtain ⟨v, hv, hf⟩ := Known.get (hk 7 (by kernel_rfl) (by simp)) (d := 64) (by kernel_rfl); simp only [List.getElem?_toArray, List.getElem?_cons_succ, List.getElem?_cons_zero, Option.some.injEq] at hv; subst hv; simp only [minF] at hf; (try subst hf)); (obtain ⟨v, hv, hf⟩ := Known.get (hk 9 (by kernel_rfl) (by simp)) (d := 66) (by kernel_rfl); simp only [List.getElem?_toArray, List.getElem?_cons_succ, List.getElem?_cons_zero, Option.some.injEq] at hv; subst hv; simp only [minF] at hf; (try subst hf))
              go_simp
              exact hK.out _ _ _ rfl rfl hT (Below.refl _ _)
            refine LinOps.cons (by simp only [List.getElem?_toArray, List.getElem?_cons_succ, List.getElem?_cons_zero]; rfl) (fun hk K hK => ?_) ?_
            · (obtain ⟨v, hv, hf⟩ := Known.get (hk 10 (by kernel_rfl) (by simp)) (d := 67) (by kernel_rfl); simp only [List.getElem?_toArray, List.getElem?_cons_succ, List.getElem?_cons_zero, Option.some.injEq] at hv; subst hv; simp only [minF] at hf; (try subst hf))
              go_simp
              exact hK.out _ _ _ rfl rfl hT (Below.refl _ _)
            refine LinOps.cons (by simp only [List.getElem?_toArray, List.getElem?_cons_succ, List.getElem?_cons_zero]; rfl) (fun hk K hK => ?_) ?_
            · (obtain ⟨v, hv, hf⟩ := Known.get (hk 11 (by kernel_rfl) (by simp)) (d := 68) (by kernel_rfl); simp only [List.getElem?_toArray, List.getElem?_cons_succ, List.getElem?_cons_zero, Option.some.injEq] at hv; subst hv; simp only [minF] at hf; (try subst hf))
              go_simp
              exact hK.out _ _ _ rfl rfl hT (Below.refl _ _)
            refine LinOps.cons (by simp only [List.getElem?_toArray, List.getElem?_cons_succ, List.getElem?_cons_zero]; rfl) (fun hk K hK => ?_) ?_
            · (obtain ⟨v, hv, hf⟩ := Known.get (hk 6 (by kernel_rfl) (by simp)) (d := 63) (by kernel_rfl); simp only [List.getElem?_toArray, List.getElem?_cons_succ, List.getElem?_cons_zero, Option.some.injEq] at hv; subst hv; simp only [minF] at hf; (try subst hf)); (obtain ⟨v, hv, hf⟩ := Known.get (hk 12 (by kernel_rfl) (by simp)) (d := 69) (by kernel_rfl); simp only [List.getElem?_toArray, List.getElem?_cons_succ, List.getElem?_cons_zero, Option.some.injEq] at hv; subst hv; simp only [minF] at hf; (try subst hf))
              go_simp
              exact hK.out _ _ _ rfl (by simp only [minF]; congr 1; first | (split <;> omega) | omega) hT (Below.refl _ _)
            refine LinOps.cons (by simp only [List.getElem?_toArray, List.getElem?_cons_succ, List.getElem?_cons_zero]; rfl) (fun hk K hK => ?_) ?_
            · (obtain ⟨v, hv, hf⟩ := Known.get (hk 0 (by kernel_rfl) (by simp)) (d := 57) (by kernel_rfl); simp only [List.getElem?_toArray, List.getElem?_cons_succ, List.getElem?_cons_zero, Option.some.injEq] at hv; subst hv; simp only [minF] at hf; (try subst hf)); (obtain ⟨v, hv, hf⟩ := Known.get (hk 1 (by kernel_rfl) (by simp)) (d := 58) (by kernel_rfl); simp only [List.getElem?_toArray, List.getElem?_cons_succ, List.getElem?_cons_zero, Option.some.injEq] at hv; subst hv; simp only [minF] at hf; (try subst hf))
              go_simp
              exact hK.out _ _ _ rfl rfl hT (Below.refl _ _)
            refine LinOps.cons (by simp only [List.getElem?_toArray, List.getElem?_cons_succ, List.getElem?_cons_zero]; rfl) (fun hk K hK => ?_) ?_
            · (obtain ⟨v, hv, hf⟩ := Known.get (hk 14 (by kernel_rfl) (by simp)) (d := 71) (by kernel_rfl); simp only [List.getElem?_toArray, List.getElem?_cons_succ, List.getElem?_cons_zero, Option.some.injEq] at hv; subst hv; simp only [minF] at hf; (try subst hf))
              go_simp
              exact hK.out _ _ _ rfl rfl hT (Below.refl _ _)
            exact LinOps.nil
          · intro a' w' hd hsz hkn hT hall
            obtain ⟨xs, D⟩ := a'; obtain ⟨l0⟩ := xs; dsimp only at hd hsz hkn; subst hd; have hs0 := hsz; clear hsz; simp only [List.size_toArray] at hs0; obtain ⟨x0, x1, x2, x3, x4, x5, x6, x7, x8, x9, l1, rfl, hs1⟩ := len_ten hs0; clear hs0; obtain ⟨x10, x11, x12, x13, x14, x15, x16, x17, x18, x19, l2, rfl, hs2⟩ := len_ten hs1; clear hs1; obtain ⟨x20, x21, x22, x23, x24, x25, x26, x27, x28, x29, l3, rfl, hs3⟩ := len_ten hs2; clear hs2; obtain ⟨x30, x31, x32, x33, x34, x35, x36, x37, x38, x39, l4, rfl, hs4⟩ := len_ten hs3; clear hs3; obtain ⟨x40, x41, x42, x43, x44, x45, x46, x47, x48, x49, l5, rfl, hs5⟩ := len_ten hs4; clear hs4; obtain ⟨x50, x51, x52, x53, x54, x55, x56, x57, x58, x59, l6, rfl, hs6⟩ := len_ten hs5; clear hs5; obtain ⟨x60, x61, x62, x63, x64, x65, x66, x67, x68, x69, l7, rfl, hs7⟩ := len_ten hs6; clear hs6; obtain ⟨x70, l8, rfl, hs8⟩ := len_succ hs7; clear hs7; obtain ⟨x71, l9, rfl, hs9⟩ := len_succ hs8; clear hs8; obtain ⟨x72, l10, rfl, hs10⟩ := len_succ hs9; clear hs9; obtain ⟨x73, l11, rfl, hs11⟩ := len_succ hs10; clear hs10; obtain rfl := List.length_eq_zero_iff.1 hs11; clear hs11; have kn := known_list hkn; clear hkn; simp only [List.map_cons, List.map_nil, List.getElem?_toArray, List.getElem?_cons_succ, List.getElem?_cons_zero, Array.getD_eq_getD_getElem?, Option.getD_some, List.cons.injEq, Option.some.injEq, and_true] at kn; obtain ⟨rfl, rfl, rfl, rfl, rfl, rfl, rfl, rfl, rfl, rfl, rfl, rfl, rfl, rfl, rfl, rfl, rfl, rfl, rfl, rfl, rfl, rfl, rfl, rfl, rfl, rfl, rfl, rfl, rfl, rfl, rfl, rfl, rfl, rfl, rfl, rfl, rfl, rfl, rfl, rfl, rfl, rfl, rfl, rfl, rfl, rfl, rfl, rfl, rfl, rfl, rfl, rfl, rfl, rfl, rfl, rfl, rfl, rfl⟩ := kn
            (obtain ⟨v, hv, hf⟩ := Known.get (hall 13 (by kernel_rfl) ) (d := 70) (by kernel_rfl); simp only [List.getElem?_toArray, List.getElem?_cons_succ, List.getElem?_cons_zero, Option.some.injEq] at hv; subst hv; simp only [minF] at hf; (try subst hf))
            (obtain ⟨v, hv, hf⟩ := Known.get (hall 15 (by kernel_rfl) ) (d := 72) (by kernel_rfl); simp only [List.getElem?_toArray, List.getElem?_cons_succ, List.getElem?_cons_zero, Option.some.injEq] at hv; subst hv; simp only [minF] at hf; (try subst hf))
            clear hall
            have hown' := own_below HO.out hT
            have wj : Wr w' b (j * 2 + 1) := Wr.of ((hT.cell (by simp only; omega)).trans v0) (hown'.frozenAt _)
            refine wpAny_ready (rs := [16]) (by kernel_rfl) (by simp) ?_; refine AllReady.cons (by simp only [List.getElem?_toArray, List.getElem?_cons_succ, List.getElem?_cons_zero]; rfl) (fun K hK => ?_) AllReady.nil
            go_simp
            refine hK _ _ ?_
            (try simp only [Act.put, List.setIfInBounds_toArray, List.set_cons_zero, List.set_cons_succ])
            clear hK K
            refine wpAny_done (by kernel_rfl) ?_ _
            go_wp2_with fail
            refine ⟨⟨(j : Int) - 1, X.set j ⟨X[j].lo, min h h1⟩, by go_num, by omega, by omega, by simp [hX], hid ?_, ?_, (hBX.trans (hT.mono hBX.size)).setCell (by simp only; omega) _⟩, by simp [intOf]; omega⟩
            · rw [show ((j : Int) - 1 + 1).toNat = j by omega, ← bwd_round F j (by omega) X (by have h := HX.out; rwa [show ((j : Int) + 1).toNat = j + 1 by omega] at h) ⟨0, 0⟩]
              have g0 : X.getD j ⟨0, 0⟩ = X[j] := by simp [List.getD, List.getElem?_eq_getElem hj0]
              have g1 : X.getD (j + 1) ⟨0, 0⟩ = X[j + 1] := by simp [List.getD, List.getElem?_eq_getElem hj1]
              rw [g0, g1, Hh.out, Hh1.out]
            · rw [← spans_set X j _ hj0]
              exact (hown'.stored (j * 2 + 1) (.int .i64 (min h h1))).1
        · obtain rfl : X = bwd F := by
            have h := HX.out
            rw [show (d + 1).toNat = 0 by omega] at h
            simpa using h
          obtain ⟨O', oc', e', _, hocm, _⟩ := own_form hownX
          simp only [Value.slice.injEq] at e'
          obtain ⟨rfl, _, rfl⟩ := e'
          clear HX
          go_wp2_with fail
          simp [bodyPost, results, Try.results76, go_sem, *]
          rw [HF.out]
          refine ⟨⟨O, oc, ?_, hocm, ?_⟩, hBX⟩
          · rw [hX]
          · rw [hX]; exact own_mono hownX (by omega)
end Go.Proofs.Ytmddbnjbliponaa
