/- What clavendierref01's Without and Wrong return, for any clock and book. -/
import Derived.Test.YtmddbnjbliponaaR9
import Derived.Test.YtmddbnjbliponaaP14
namespace Go.Proofs.Ytmddbnjbliponaa
set_option linter.unusedSimpArgs false
set_option linter.unusedVariables false
open Go.RowKit
attribute [local go_sem high] cell_set_wr
attribute [local go_sem low] cell_wr frozen_wr
attribute [local go_sem] wr_set wr_drew wr_drewN wr_alloc wr_new

set_option maxRecDepth 100000 in
set_option maxHeartbeats 4000000 in
theorem rWithout_any (s : Nat) (L : Option Addr) (lcap : Nat) (ls : List Ln) (w : World) (hL : Arr w w.heap.size L (lines ls)) (h6 : ls.length ≤ 6) (hs : s < 4611686018427387904) :
    Calls Try.prog 80 #[.slice L ls.length lcap, .int .i64 s] w (Ret w (without ls fun i => !hasB s i).length (lines (without ls fun i => !hasB s i))) := by
  go_enter Try.func80, Try.ntmps80
  go_wp2
  go_loopw [5, 6] (fun out i wr => ∃ k : Nat, k ≤ ls.length ∧ i = .int .i64 k ∧ wr.ownsRow w.heap.size 67 3 out (without (ls.take k) fun i => !hasB s i).length (lines (without (ls.take k) fun i => !hasB s i)) ∧ Below w.heap.size w wr) (fun _ i _ => ls.length - (intOf i).toNat)
  case atStart => exact ⟨0, Nat.zero_le _, rfl, own_nil _ _ _ _, Below.refl _ _⟩
  case round =>
    obtain ⟨k, hk, rfl, hown, hB⟩ := hrel
    by_cases hlt : k < ls.length
    · have hi1 : k + 1 ≤ ls.length := hlt
      obtain ⟨lb, lo, rfl, hlb, l0, l1, l2⟩ := (hL.below hB).ln hlt
      have HW := hid (without_snoc ls (fun i => !hasB s i) k hlt)
      have hwl : (without (ls.take k) fun i => !hasB s i).length ≤ k := Nat.le_trans (without_le _ _) (by rw [List.length_take]; omega)
      have hzr := hB.size
      have hlr : lb < wr.heap.size := by omega
      generalize (without (ls.take k) fun i => !hasB s i) = L0 at *
      generalize ls[k] = x at *
      cases hh : hasB s k
      · have HM : Hid ((without (ls.take (k + 1)) fun i => !hasB s i) = L0 ++ [x]) := hid (by rw [HW.out, hh]; rfl)
        clear HW
        go_wp2_with (first
          | (go_at_call 84; refine (has_any s k _ (by omega) hs).mono ?_; rintro e w1 ⟨rfl, rfl⟩)
          | (at_builtin; refine wpList_app1 rfl _ _ 39 rfl w.heap.size 67 _ 3 24 Try.underlying39 info_line rfl (by omega) _ _ _ rfl hown _ rfl rfl (by simp [Value.oneCell']) (by unfold maxLen; omega) (by omega) hzr ?_; intro A1 cap1 w1 hcap1 hcap1' hown1 hb1 hg1))
        refine ⟨⟨k + 1, hi1, by go_num, ?_, hB.trans hb1⟩, by simp [intOf]; omega⟩
        have e : (L0 ++ [x]).length = L0.length + 1 := by simp
        have e2 : lines (L0 ++ [x]) = lines L0 ++ [.int .i64 x.r, .int .i64 x.k.lo, .int .i64 x.k.hi] := by simp [lines, Ln.cells]
        rw [HM.out, e, e2]
        exact hown1
      · have HM : Hid ((without (ls.take (k + 1)) fun i => !hasB s i) = L0) := hid (by rw [HW.out, hh]; simp)
        clear HW
        go_wp2_with (go_at_call 84; refine (has_any s k _ (by omega) hs).mono ?_; rintro e w1 ⟨rfl, rfl⟩)
        refine ⟨⟨k + 1, hi1, by go_num, ?_, hB⟩, by simp [intOf]; omega⟩
        rw [HM.out]
        exact hown
    · obtain rfl : k = ls.length := by omega
      rw [List.take_length] at hown
      go_wp2
      go_ret
      obtain ⟨A, cap, rfl, _, hcm, ha⟩ := own_form hown
      exact ⟨A, cap, rfl, hcm, ha, hB⟩

theorem pow_two (k : Nat) (hk : k ≤ 6) : ∃ N : Nat, (2 : Nat) ^ k = N ∧ wrap64 ((2 : Int) ^ k) = N ∧ wrap64 ((N : Int) - 1) = ((N - 1 : Nat) : Int) ∧ 1 ≤ N ∧ N ≤ 64 := by
  have : k = 0 ∨ k = 1 ∨ k = 2 ∨ k = 3 ∨ k = 4 ∨ k = 5 ∨ k = 6 := by omega
  rcases this with e | e | e | e | e | e | e <;> subst e <;> refine ⟨_, rfl, ?_, ?_, ?_, ?_⟩ <;> simp [wrap64]
/-- what the steps of the test in Wrong's loop leave -/
def wrF (set : Int) (A : Option Addr) (n cap : Nat) (L : Option Addr) (ln lcap : Nat) (LA : Option Addr) (nl lc : Nat) (BA : Option Addr) (nb bc : Nat) (k : Nat) (b1 b2 b3 z q : Bool) (wo : List Ln) : Nat → Value → World → Prop
  | 0, v, _ => v = .slice LA nl lc
  | 1, v, _ => v = .int .i64 nl
  | 2, v, _ => v = .slice BA nb bc
  | 3, v, _ => v = .int .i64 nb
  | 4, v, _ => v = .bool b1
  | 5, v, _ => v = .bool b1
  | 6, v, _ => v = if b1 then undef else .slice LA nl lc
  | 7, v, _ => v = if b1 then undef else .int .i64 nl
  | 8, v, _ => v = if b1 then undef else .slice BA nb bc
  | 9, v, _ => v = if b1 then undef else .int .i64 nb
  | 10, v, _ => v = if b1 then undef else .bool b2
  | 11, v, _ => v = if b1 then undef else .bool b2
  | 12, v, _ => v = if !b1 && b2 then .slice LA nl lc else undef
  | 13, v, _ => v = if !b1 && b2 then .slice BA nb bc else undef
  | 14, v, _ => v = if !b1 && b2 then .bool b3 else undef
  | 15, v, _ => v = if b1 then undef else .bool (b2 && b3)
  | 16, v, _ => v = .bool z
  | 17, v, _ => v = .bool z
  | 18, v, _ => v = if z then .agg #[.int .i64 set, .slice A n cap] else undef
  | 19, v, _ => v = if z then .slice L ln lcap else undef
  | 20, v, _ => v = if z then .int .i64 k else undef
  | 21, v, w => if z then ∃ WA wc, v = .slice WA wo.length wc ∧ Arr w w.heap.size WA (lines wo) else v = undef
  | 22, v, _ => v = if z then .bool q else undef
  | _, _, _ => True
theorem wrF_stable (set : Int) (A : Option Addr) (n cap : Nat) (L : Option Addr) (ln lcap : Nat) (LA : Option Addr) (nl lc : Nat) (BA : Option Addr) (nb bc : Nat) (k : Nat) (b1 b2 b3 z q : Bool) (wo : List Ln) : ∀ i v w w', Below w.heap.size w w' → wrF set A n cap L ln lcap LA nl lc BA nb bc k b1 b2 b3 z q wo i v w → wrF set A n cap L ln lcap LA nl lc BA nb bc k b1 b2 b3 z q wo i v w' := by
  intro i v w w' hb h
  unfold wrF at *
  split at h
  case h_22 =>
    by_cases hz : z = true
    · rw [if_pos hz] at h ⊢
      obtain ⟨WA, wc, h1, h2⟩ := h
      exact ⟨WA, wc, h1, (h2.below hb).more hb.size⟩
    · rw [if_neg hz] at h ⊢
      exact h
  all_goals exact h
theorem range_drop (n k : Nat) (hk : k < n) : (List.range n).drop k = k :: (List.range n).drop (k + 1) := by
  rw [List.drop_eq_getElem_cons (by simpa using hk), List.getElem_range]

set_option maxRecDepth 100000 in
set_option maxHeartbeats 4000000 in
theorem rWrong_any (set : Int) (A L : Option Addr) (cap lcap : Nat) (fs : List Fr) (ls : List Ln) (w : World) (hA : Arr w w.heap.size A (frosts fs)) (hL : Arr w w.heap.size L (lines ls)) :
    Calls Try.prog 33 #[.agg #[.int .i64 set, .slice A fs.length cap], .slice L ls.length lcap] w fun e w' =>
      ∃ O oc, e = .returned (.tuple #[.slice O (wrongR ⟨set, fs⟩ ls).1.length oc, .int .i64 (wrongR ⟨set, fs⟩ ls).2]) ∧ Arr w' w'.heap.size O (ints (wrongR ⟨set, fs⟩ ls).1) ∧ Below w.heap.size w w' := by
  have HR : Hid (wrongR ⟨set, fs⟩ ls = if askE ⟨set, fs⟩ (bookB ls) = 0 then (wrongL ⟨set, fs⟩ ls, 0) else ([], askE ⟨set, fs⟩ (bookB ls))) := hid rfl
  go_enter Try.func33, Try.ntmps33
  go_wp2
  go_region_held3 (fun w' => (w'.cell? ⟨w.heap.size, 0, none⟩ = some (.int .i64 set) ∧ w'.cell? ⟨w.heap.size, 1, none⟩ = some (.slice A fs.length cap)) ∧ Below w.heap.size w w') (((refine ⟨?_, ?_⟩; (focus (first | (simp [go_sem, wr_set, wr_drew, wr_drewN, wr_alloc, wr_new]; done) | (simp [go_sem, wr_set, wr_drew, wr_drewN, wr_alloc, wr_new, *]; done) | (simp (disch := go_size) [go_sem, wr_set, wr_drew, wr_drewN, wr_alloc, wr_new, *]; done))); (repeat' (first | (with_reducible exact Below.refl _ _) | (with_reducible assumption) | (with_reducible refine Below.drew ?_) | (with_reducible refine below_drewN ?_ _) | (with_reducible refine Below.setCell ?_ ?_ _) | (with_reducible refine Below.alloc ?_ ?_ _) | go_size | (exact Below.size (by assumption)) | (refine Below.trans ?_ (Below.mono (by assumption) ?_)))))))
    (first
      | (go_at_call 72; refine (isBook_any L lcap ls _ ?_).mono ?_; (focus (refine (hL.below ?_).more ?_; (repeat' (first | (with_reducible exact Below.refl _ _) | (with_reducible assumption) | (with_reducible refine Below.drew ?_) | (with_reducible refine below_drewN ?_ _) | (with_reducible refine Below.setCell ?_ ?_ _) | (with_reducible refine Below.alloc ?_ ?_ _) | go_size | (exact Below.size (by assumption)) | (refine Below.trans ?_ (Below.mono (by assumption) ?_)))))); rintro e w1 ⟨rfl, hb1⟩; (first | replace hb1 := Below.un1 hb1 | replace hb1 := Below.un2 hb1 | skip); obtain ⟨hc1, hf1, hl1, hm1, hw1⟩ := bcell hb1; have hz1 := hb1.size; (try simp only [World.size_alloc, World.size_setCell] at hz1); have n1 : w.heap.size < w1.heap.size := (by omega))
      | (go_at_call 58; refine (asked_any set A cap fs _ _ ?_).mono ?_; (focus (refine (hA.below ?_).more ?_; (repeat' (first | (with_reducible exact Below.refl _ _) | (with_reducible assumption) | (with_reducible refine Below.drew ?_) | (with_reducible refine below_drewN ?_ _) | (with_reducible refine Below.setCell ?_ ?_ _) | (with_reducible refine Below.alloc ?_ ?_ _) | go_size | (exact Below.size (by assumption)) | (refine Below.trans ?_ (Below.mono (by assumption) ?_)))))); rintro e w2 ⟨rfl, hb2⟩; (first | replace hb2 := Below.un1 hb2 | replace hb2 := Below.un2 hb2 | skip); obtain ⟨hc2, hf2, hl2, hm2, hw2⟩ := bcell hb2; have hz2 := hb2.size; (try simp only [World.size_alloc, World.size_setCell] at hz2)))
  rename_i hHeld
  obtain ⟨⟨s0, s1⟩, hB⟩ := hHeld
  clear hc2 hf2 hl2 hm2 hw2
  by_cases he : askE ⟨set, fs⟩ (bookB ls) = 0
  · obtain ⟨h1, h2⟩ := ask_two he
    obtain ⟨hO, hs1, hs2⟩ := okFs_of h1
    obtain ⟨h6, hv⟩ := book_two h2
    have H1 : Hid (wrongR ⟨set, fs⟩ ls = (wrongL ⟨set, fs⟩ ls, 0)) := hid (by rw [HR.out, if_pos he])
    obtain ⟨N, hN1, hN2, hN3, hN4, hN5⟩ := pow_two ls.length h6
    have HN2 := hid hN2
    have HN3 := hid hN3
    have HL : Hid (wrongL ⟨set, fs⟩ ls = (List.range N).foldl (wrongStep ⟨set, fs⟩ ls) (onesL (N - 1) ls.length)) := hid (by unfold wrongL; rw [hN1])
    have HV := hid hv
    have n2 : w.heap.size < w2.heap.size := by omega
    have ho6 := onesL_len (N - 1) ls.length
    clear HR h1 h2 hN1 hN2 hN3 hv
    go_wp2_with (go_at_call 51; rw [HN2.out, HN3.out]; refine (ones_any (N - 1) ls.length _ (by omega) (by omega)).mono ?_; rintro e w3 ⟨B3, bc3, rfl, hbc3, hB3, hb3⟩; obtain ⟨hc3, hf3, hl3, hm3, hw3⟩ := bcell hb3)
    have q0 : w3.cell? ⟨w.heap.size, 0, none⟩ = some (.int .i64 set) := (hc3 _ _ n2).trans s0
    have q1 : w3.cell? ⟨w.heap.size, 1, none⟩ = some (.slice A fs.length cap) := (hc3 _ _ n2).trans s1
    have hz3 := hb3.size
    have hBw : Below w.heap.size w w3 := hB.trans (hb3.mono hB.size)
    have n3 : w.heap.size < w3.heap.size := by omega
    have hA3 := (hA.below hBw).more (show w.heap.size ≤ w3.heap.size by omega)
    have hL3 := (hL.below hBw).more (show w.heap.size ≤ w3.heap.size by omega)
    clear hc3 hf3 hl3 hm3 hw3 hb3 s0 s1 hB hb2 hz2 n2 hc1 hf1 hl1 hm1 hw1 hb1 hz1 n1
    go_loopw [8, 9] (fun bv iv wr => ∃ (k : Nat) (bl : List Int) (BA : Option Addr) (bc : Nat), k ≤ N ∧ iv = .int .i64 k ∧ bv = .slice BA bl.length bc ∧ bl.length ≤ 6 ∧ Arr wr wr.heap.size BA (ints bl) ∧
        Hid ((List.range N).foldl (wrongStep ⟨set, fs⟩ ls) (onesL (N - 1) ls.length) = ((List.range N).drop k).foldl (wrongStep ⟨set, fs⟩ ls) bl) ∧ Below w3.heap.size w3 wr) (fun _ iv _ => N - (intOf iv).toNat)
    case atStart => exact ⟨0, onesL (N - 1) ls.length, B3, bc3, Nat.zero_le _, rfl, rfl, by omega, hB3, hid (by rw [List.drop_zero]), Below.refl _ _⟩
    case round =>
      clear hB3
      obtain ⟨k, bl, BA, bc, hk, rfl, rfl, hb6, hBA, HK, hBr⟩ := hrel
      obtain ⟨wo', rfl⟩ : ∃ wo' : World, wo' = wr := ⟨_, rfl⟩
      have hzr := hBr.size
      by_cases hlt : k < N
      · have t1 : decide ((k : Int) < wrap64 (2 ^ ls.length)) = true := by rw [HN2.out]; simpa using hlt
        have hk1 : k + 1 ≤ N := hlt
        have HM := hid (range_drop N k hlt)
        have hl6 := onesL_len k ls.length
        obtain ⟨l, hl⟩ : ∃ l, onesL k ls.length = l := ⟨_, rfl⟩
        obtain ⟨wo, hwo⟩ : ∃ wo, (without ls fun i => !hasB k i) = wo := ⟨_, rfl⟩
        obtain ⟨b1, hb1⟩ : ∃ b, decide (l.length < bl.length) = b := ⟨_, rfl⟩
        obtain ⟨b2, hb2⟩ : ∃ b, (l.length == bl.length) = b := ⟨_, rfl⟩
        obtain ⟨b3, hb3⟩ : ∃ b, lessB l bl = b := ⟨_, rfl⟩
        obtain ⟨q, hq⟩ : ∃ b, rightB ⟨set, fs⟩ wo = b := ⟨_, rfl⟩
        obtain ⟨z, hz⟩ : ∃ b, (b1 || (b2 && b3)) = b := ⟨_, rfl⟩
        have HST : Hid (wrongStep ⟨set, fs⟩ ls bl k = if z && q then l else bl) := hid (by unfold wrongStep; rw [hl, hwo, hb1, hb2, hb3, hq, hz])
        have hw6 : wo.length ≤ 6 := by rw [← hwo]; exact Nat.le_trans (without_le _ _) h6
        have HWv : Hid (∀ x ∈ wo, lineB x = true) := hid fun x hx => HV.out x (by rw [← hwo] at hx; exact without_mem _ _ _ hx)
        rw [hl] at hl6
        have HLl := hid hl
        have HWo := hid hwo
        have HB1 := hid hb1
        have HB2 := hid hb2
        have HB3 := hid hb3
        have HQ := hid hq
        have HZ := hid hz
        clear hl hwo hb1 hb2 hb3 hq hz
        have e0 := (hBr.cell (p := ⟨w.heap.size, 0, none⟩) n3).trans q0
        have e1 := (hBr.cell (p := ⟨w.heap.size, 1, none⟩) n3).trans q1
        have hA4 := (hA3.below hBr).more hzr
        have hL4 := (hL3.below hBr).more hzr
        have nr : w.heap.size < wo'.heap.size := by omega
        clear q0 q1
        go_wp2_with (go_at_call 51; refine (ones_any k ls.length _ (by omega) (by omega)).mono ?_; rw [HLl.out]; rintro e w5 ⟨LA, lc, rfl, hlc5, hLA, hb5⟩; obtain ⟨hc5, hf5, hl5, hm5, hw5⟩ := bcell hb5)
        have f0 : w5.cell? ⟨w.heap.size, 0, none⟩ = some (.int .i64 set) := (hc5 _ _ nr).trans e0
        have f1 : w5.cell? ⟨w.heap.size, 1, none⟩ = some (.slice A fs.length cap) := (hc5 _ _ nr).trans e1
        have hz5 := hb5.size
        have n5 : w.heap.size < w5.heap.size := by omega
        have hA5 := (hA4.below hb5).more hz5
        have hL5 := (hL4.below hb5).more hz5
        have hBA5 := (hBA.below hb5).more hz5
        have hB5 := hBr.trans (hb5.mono hzr)
        clear hc5 hf5 hl5 hm5 hw5 e0 e1 hA4 hL4 hBA hb5
        have hBA := hBA5
        clear hBA5
        go_cut [57] (fun v wx => v = .bool (z && q) ∧ Below w5.heap.size w5 wx)
        case first =>
          refine wp_region_any (by kernel_rfl) ?_
          have T0 : Below w5.heap.size w5 w5.drew := (Below.refl _ _).drew
          refine lin_any [23] 60 (wrF set A fs.length cap L ls.length lcap LA l.length lc BA bl.length bc k b1 b2 b3 z q wo) (fun w' => Below w5.heap.size w5 w') (fun w1 w2 => Below w1.heap.size w1 w2)
            [0, 1, 2, 3, 4, 5, 6, 7, 8, 9, 10, 11, 12, 13, 14, 15, 16, 17, 18, 19, 20, 21, 22, 23, 24, 25, 26, 27, 28, 29, 30, 31, 32, 33, 58, 59] #[true, true, true, true, true, true, true, true, true, true, true, true, true, true, true, true, true, true, true, true, true, true, true, false] [0, 1, 2, 3, 4, 5, 6, 7, 8, 9, 10, 11, 12, 13, 14, 15, 16, 17, 18, 19, 20, 21, 22] (by kernel_rfl) (by kernel_rfl) (by kernel_rfl) (by kernel_rfl) (by kernel_rfl) (by kernel_rfl) (by kernel_rfl) (by kernel_rfl) (by kernel_rfl) (by kernel_rfl)
            (wrF_stable _ _ _ _ _ _ _ _ _ _ _ _ _ _ _ _ _ _ _ _) (by rfl) T0 ?_ ?_
          · intro a' w' hd hsz hkn hT
            obtain ⟨xs, D⟩ := a'; obtain ⟨l0⟩ := xs; dsimp only at hd hsz hkn; subst hd; have hs0 := hsz; clear hsz; simp only [List.size_toArray] at hs0; obtain ⟨x0, x1, x2, x3, x4, x5, x6, x7, x8, x9, l1, rfl, hs1⟩ := len_ten hs0; clear hs0; obtain ⟨x10, x11, x12, x13, x14, x15, x16, x17, x18, x19, l2, rfl, hs2⟩ := len_ten hs1; clear hs1; obtain ⟨x20, x21, x22, x23, x24, x25, x26, x27, x28, x29, l3, rfl, hs3⟩ := len_ten hs2; clear hs2; obtain ⟨x30, x31, x32, x33, x34, x35, x36, x37, x38, x39, l4, rfl, hs4⟩ := len_ten hs3; clear hs3; obtain ⟨x40, x41, x42, x43, x44, x45, x46, x47, x48, x49, l5, rfl, hs5⟩ := len_ten hs4; clear hs4; obtain ⟨x50, x51, x52, x53, x54, x55, x56, x57, x58, x59, l6, rfl, hs6⟩ := len_ten hs5; clear hs5; obtain rfl := List.length_eq_zero_iff.1 hs6; clear hs6; have kn := known_list hkn; clear hkn; simp only [List.map_cons, List.map_nil, List.getElem?_toArray, List.getElem?_cons_succ, List.getElem?_cons_zero, Array.getD_eq_getD_getElem?, Option.getD_some, List.cons.injEq, Option.some.injEq, and_true] at kn; obtain ⟨rfl, rfl, rfl, rfl, rfl, rfl, rfl, rfl, rfl, rfl, rfl, rfl, rfl, rfl, rfl, rfl, rfl, rfl, rfl, rfl, rfl, rfl, rfl, rfl, rfl, rfl, rfl, rfl, rfl, rfl, rfl, rfl, rfl, rfl, rfl, rfl⟩ := kn
            have g0 : w'.cell? ⟨w.heap.size, 0, none⟩ = some (.int .i64 set) := (hT.cell (by simp only; omega)).trans f0
            have g1 : w'.cell? ⟨w.heap.size, 1, none⟩ = some (.slice A fs.length cap) := (hT.cell (by simp only; omega)).trans f1
            refine LinOps.cons (by simp only [List.getElem?_toArray, List.getElem?_cons_succ, List.getElem?_cons_zero]; rfl) (fun hk K hK => ?_) ?_
            · go_simp
              exact hK.out _ _ _ rfl rfl hT (Below.refl _ _)
            refine LinOps.cons (by simp only [List.getElem?_toArray, List.getElem?_cons_succ, List.getElem?_cons_zero]; rfl) (fun hk K hK => ?_) ?_
            · (obtain ⟨v, hv, hf⟩ := Known.get (hk 0 (by kernel_rfl) (by simp)) (d := 34) (by kernel_rfl); simp only [List.getElem?_toArray, List.getElem?_cons_succ, List.getElem?_cons_zero, Option.some.injEq] at hv; subst hv; simp only [wrF] at hf; (try subst hf))
              go_simp
              exact hK.out _ _ _ rfl rfl hT (Below.refl _ _)
            refine LinOps.cons (by simp only [List.getElem?_toArray, List.getElem?_cons_succ, List.getElem?_cons_zero]; rfl) (fun hk K hK => ?_) ?_
            · go_simp
              exact hK.out _ _ _ rfl rfl hT (Below.refl _ _)
            refine LinOps.cons (by simp only [List.getElem?_toArray, List.getElem?_cons_succ, List.getElem?_cons_zero]; rfl) (fun hk K hK => ?_) ?_
            · (obtain ⟨v, hv, hf⟩ := Known.get (hk 2 (by kernel_rfl) (by simp)) (d := 36) (by kernel_rfl); simp only [List.getElem?_toArray, List.getElem?_cons_succ, List.getElem?_cons_zero, Option.some.injEq] at hv; subst hv; simp only [wrF] at hf; (try subst hf))
              go_simp
              exact hK.out _ _ _ rfl rfl hT (Below.refl _ _)
            refine LinOps.cons (by simp only [List.getElem?_toArray, List.getElem?_cons_succ, List.getElem?_cons_zero]; rfl) (fun hk K hK => ?_) ?_
            · (obtain ⟨v, hv, hf⟩ := Known.get (hk 1 (by kernel_rfl) (by simp)) (d := 35) (by kernel_rfl); simp only [List.getElem?_toArray, List.getElem?_cons_succ, List.getElem?_cons_zero, Option.some.injEq] at hv; subst hv; simp only [wrF] at hf; (try subst hf)); (obtain ⟨v, hv, hf⟩ := Known.get (hk 3 (by kernel_rfl) (by simp)) (d := 37) (by kernel_rfl); simp only [List.getElem?_toArray, List.getElem?_cons_succ, List.getElem?_cons_zero, Option.some.injEq] at hv; subst hv; simp only [wrF] at hf; (try subst hf))
              go_simp
              exact hK.out _ _ _ rfl (by show _ = Value.bool b1; rw [← HB1.out]) hT (Below.refl _ _)
            refine LinOps.cons (by simp only [List.getElem?_toArray, List.getElem?_cons_succ, List.getElem?_cons_zero]; rfl) (fun hk K hK => ?_) ?_
            · (obtain ⟨v, hv, hf⟩ := Known.get (hk 4 (by kernel_rfl) (by simp)) (d := 38) (by kernel_rfl); simp only [List.getElem?_toArray, List.getElem?_cons_succ, List.getElem?_cons_zero, Option.some.injEq] at hv; subst hv; simp only [wrF] at hf; (try subst hf))
              go_simp
              exact hK.out _ _ _ rfl rfl hT (Below.refl _ _)
            refine LinOps.cons (by simp only [List.getElem?_toArray, List.getElem?_cons_succ, List.getElem?_cons_zero]; rfl) (fun hk K hK => ?_) ?_
            · (obtain ⟨v, hv, hf⟩ := Known.get (hk 5 (by kernel_rfl) (by simp)) (d := 39) (by kernel_rfl); simp only [List.getElem?_toArray, List.getElem?_cons_succ, List.getElem?_cons_zero, Option.some.injEq] at hv; subst hv; simp only [wrF] at hf; (try subst hf))
              cases b1
              · go_simp
                exact hK.out _ _ _ rfl rfl hT (Below.refl _ _)
              · go_simp
                exact hK.out _ _ _ rfl rfl hT (Below.refl _ _)
            refine LinOps.cons (by simp only [List.getElem?_toArray, List.getElem?_cons_succ, List.getElem?_cons_zero]; rfl) (fun hk K hK => ?_) ?_
            · (obtain ⟨v, hv, hf⟩ := Known.get (hk 5 (by kernel_rfl) (by simp)) (d := 39) (by kernel_rfl); simp only [List.getElem?_toArray, List.getElem?_cons_succ, List.getElem?_cons_zero, Option.some.injEq] at hv; subst hv; simp only [wrF] at hf; (try subst hf)); (obtain ⟨v, hv, hf⟩ := Known.get (hk 6 (by kernel_rfl) (by simp)) (d := 40) (by kernel_rfl); simp only [List.getElem?_toArray, List.getElem?_cons_succ, List.getElem?_cons_zero, Option.some.injEq] at hv; subst hv; simp only [wrF] at hf; (try subst hf))
              cases b1
              · go_simp
                exact hK.out _ _ _ rfl rfl hT (Below.refl _ _)
              · go_simp
                exact hK.out _ _ _ rfl rfl hT (Below.refl _ _)
            refine LinOps.cons (by simp only [List.getElem?_toArray, List.getElem?_cons_succ, List.getElem?_cons_zero]; rfl) (fun hk K hK => ?_) ?_
            · (obtain ⟨v, hv, hf⟩ := Known.get (hk 5 (by kernel_rfl) (by simp)) (d := 39) (by kernel_rfl); simp only [List.getElem?_toArray, List.getElem?_cons_succ, List.getElem?_cons_zero, Option.some.injEq] at hv; subst hv; simp only [wrF] at hf; (try subst hf))
              cases b1
              · go_simp
                exact hK.out _ _ _ rfl rfl hT (Below.refl _ _)
              · go_simp
                exact hK.out _ _ _ rfl rfl hT (Below.refl _ _)
            refine LinOps.cons (by simp only [List.getElem?_toArray, List.getElem?_cons_succ, List.getElem?_cons_zero]; rfl) (fun hk K hK => ?_) ?_
            · (obtain ⟨v, hv, hf⟩ := Known.get (hk 5 (by kernel_rfl) (by simp)) (d := 39) (by kernel_rfl); simp only [List.getElem?_toArray, List.getElem?_cons_succ, List.getElem?_cons_zero, Option.some.injEq] at hv; subst hv; simp only [wrF] at hf; (try subst hf)); (obtain ⟨v, hv, hf⟩ := Known.get (hk 8 (by kernel_rfl) (by simp)) (d := 42) (by kernel_rfl); simp only [List.getElem?_toArray, List.getElem?_cons_succ, List.getElem?_cons_zero, Option.some.injEq] at hv; subst hv; simp only [wrF] at hf; (try subst hf))
              cases b1
              · go_simp
                exact hK.out _ _ _ rfl rfl hT (Below.refl _ _)
              · go_simp
                exact hK.out _ _ _ rfl rfl hT (Below.refl _ _)
            refine LinOps.cons (by simp only [List.getElem?_toArray, List.getElem?_cons_succ, List.getElem?_cons_zero]; rfl) (fun hk K hK => ?_) ?_
            · (obtain ⟨v, hv, hf⟩ := Known.get (hk 5 (by kernel_rfl) (by simp)) (d := 39) (by kernel_rfl); simp only [List.getElem?_toArray, List.getElem?_cons_succ, List.getElem?_cons_zero, Option.some.injEq] at hv; subst hv; simp only [wrF] at hf; (try subst hf)); (obtain ⟨v, hv, hf⟩ := Known.get (hk 7 (by kernel_rfl) (by simp)) (d := 41) (by kernel_rfl); simp only [List.getElem?_toArray, List.getElem?_cons_succ, List.getElem?_cons_zero, Option.some.injEq] at hv; subst hv; simp only [wrF] at hf; (try subst hf)); (obtain ⟨v, hv, hf⟩ := Known.get (hk 9 (by kernel_rfl) (by simp)) (d := 43) (by kernel_rfl); simp only [List.getElem?_toArray, List.getElem?_cons_succ, List.getElem?_cons_zero, Option.some.injEq] at hv; subst hv; simp only [wrF] at hf; (try subst hf))
              cases b1
              · go_simp
                exact hK.out _ _ _ rfl (by show _ = Value.bool b2; rw [← HB2.out]; congr 1; rw [Bool.eq_iff_iff, beq_iff_eq, beq_iff_eq]; omega) hT (Below.refl _ _)
              · go_simp
                exact hK.out _ _ _ rfl rfl hT (Below.refl _ _)
            refine LinOps.cons (by simp only [List.getElem?_toArray, List.getElem?_cons_succ, List.getElem?_cons_zero]; rfl) (fun hk K hK => ?_) ?_
            · (obtain ⟨v, hv, hf⟩ := Known.get (hk 5 (by kernel_rfl) (by simp)) (d := 39) (by kernel_rfl); simp only [List.getElem?_toArray, List.getElem?_cons_succ, List.getElem?_cons_zero, Option.some.injEq] at hv; subst hv; simp only [wrF] at hf; (try subst hf)); (obtain ⟨v, hv, hf⟩ := Known.get (hk 10 (by kernel_rfl) (by simp)) (d := 44) (by kernel_rfl); simp only [List.getElem?_toArray, List.getElem?_cons_succ, List.getElem?_cons_zero, Option.some.injEq] at hv; subst hv; simp only [wrF] at hf; (try subst hf))
              cases b1
              · go_simp
                exact hK.out _ _ _ rfl rfl hT (Below.refl _ _)
              · go_simp
                exact hK.out _ _ _ rfl rfl hT (Below.refl _ _)
            refine LinOps.cons (by simp only [List.getElem?_toArray, List.getElem?_cons_succ, List.getElem?_cons_zero]; rfl) (fun hk K hK => ?_) ?_
            · (obtain ⟨v, hv, hf⟩ := Known.get (hk 11 (by kernel_rfl) (by simp)) (d := 45) (by kernel_rfl); simp only [List.getElem?_toArray, List.getElem?_cons_succ, List.getElem?_cons_zero, Option.some.injEq] at hv; subst hv; simp only [wrF] at hf; (try subst hf))
              cases b1 <;> cases b2
              all_goals
                go_simp
                exact hK.out _ _ _ rfl rfl hT (Below.refl _ _)
            refine LinOps.cons (by simp only [List.getElem?_toArray, List.getElem?_cons_succ, List.getElem?_cons_zero]; rfl) (fun hk K hK => ?_) ?_
            · (obtain ⟨v, hv, hf⟩ := Known.get (hk 11 (by kernel_rfl) (by simp)) (d := 45) (by kernel_rfl); simp only [List.getElem?_toArray, List.getElem?_cons_succ, List.getElem?_cons_zero, Option.some.injEq] at hv; subst hv; simp only [wrF] at hf; (try subst hf))
              cases b1 <;> cases b2
              all_goals
                go_simp
                exact hK.out _ _ _ rfl rfl hT (Below.refl _ _)
            refine LinOps.cons (by simp only [List.getElem?_toArray, List.getElem?_cons_succ, List.getElem?_cons_zero]; rfl) (fun hk K hK => ?_) ?_
            · (obtain ⟨v, hv, hf⟩ := Known.get (hk 11 (by kernel_rfl) (by simp)) (d := 45) (by kernel_rfl); simp only [List.getElem?_toArray, List.getElem?_cons_succ, List.getElem?_cons_zero, Option.some.injEq] at hv; subst hv; simp only [wrF] at hf; (try subst hf)); (obtain ⟨v, hv, hf⟩ := Known.get (hk 12 (by kernel_rfl) (by simp)) (d := 46) (by kernel_rfl); simp only [List.getElem?_toArray, List.getElem?_cons_succ, List.getElem?_cons_zero, Option.some.injEq] at hv; subst hv; simp only [wrF] at hf; (try subst hf)); (obtain ⟨v, hv, hf⟩ := Known.get (hk 13 (by kernel_rfl) (by simp)) (d := 47) (by kernel_rfl); simp only [List.getElem?_toArray, List.getElem?_cons_succ, List.getElem?_cons_zero, Option.some.injEq] at hv; subst hv; simp only [wrF] at hf; (try subst hf))
              cases b1 <;> cases b2
              · go_simp
                exact hK.out _ _ _ rfl rfl hT (Below.refl _ _)
              · go_simp
                go_at_call 52; refine (less_any LA BA lc bc _ _ _ ((hLA.below hT).more hT.size) ((hBA.below hT).more hT.size) (by omega) (by omega)).mono ?_
                rintro e w1 ⟨rfl, h1⟩
                exact hK.out _ _ _ rfl (by show _ = Value.bool b3; rw [← HB3.out]) (hT.trans (h1.mono hT.size)) h1
              · go_simp
                exact hK.out _ _ _ rfl rfl hT (Below.refl _ _)
              · go_simp
                exact hK.out _ _ _ rfl rfl hT (Below.refl _ _)
            refine LinOps.cons (by simp only [List.getElem?_toArray, List.getElem?_cons_succ, List.getElem?_cons_zero]; rfl) (fun hk K hK => ?_) ?_
            · (obtain ⟨v, hv, hf⟩ := Known.get (hk 5 (by kernel_rfl) (by simp)) (d := 39) (by kernel_rfl); simp only [List.getElem?_toArray, List.getElem?_cons_succ, List.getElem?_cons_zero, Option.some.injEq] at hv; subst hv; simp only [wrF] at hf; (try subst hf)); (obtain ⟨v, hv, hf⟩ := Known.get (hk 11 (by kernel_rfl) (by simp)) (d := 45) (by kernel_rfl); simp only [List.getElem?_toArray, List.getElem?_cons_succ, List.getElem?_cons_zero, Option.some.injEq] at hv; subst hv; simp only [wrF] at hf; (try subst hf)); (obtain ⟨v, hv, hf⟩ := Known.get (hk 14 (by kernel_rfl) (by simp)) (d := 48) (by kernel_rfl); simp only [List.getElem?_toArray, List.getElem?_cons_succ, List.getElem?_cons_zero, Option.some.injEq] at hv; subst hv; simp only [wrF] at hf; (try subst hf))
              cases b1 <;> cases b2 <;> cases b3
              all_goals
                go_simp
                exact hK.out _ _ _ rfl rfl hT (Below.refl _ _)
            refine LinOps.cons (by simp only [List.getElem?_toArray, List.getElem?_cons_succ, List.getElem?_cons_zero]; rfl) (fun hk K hK => ?_) ?_
            · (obtain ⟨v, hv, hf⟩ := Known.get (hk 5 (by kernel_rfl) (by simp)) (d := 39) (by kernel_rfl); simp only [List.getElem?_toArray, List.getElem?_cons_succ, List.getElem?_cons_zero, Option.some.injEq] at hv; subst hv; simp only [wrF] at hf; (try subst hf)); (obtain ⟨v, hv, hf⟩ := Known.get (hk 15 (by kernel_rfl) (by simp)) (d := 49) (by kernel_rfl); simp only [List.getElem?_toArray, List.getElem?_cons_succ, List.getElem?_cons_zero, Option.some.injEq] at hv; subst hv; simp only [wrF] at hf; (try subst hf))
              cases b1 <;> cases b2 <;> cases b3
              all_goals
                go_simp
                exact hK.out _ _ _ rfl (by show _ = Value.bool z; rw [← HZ.out]; rfl) hT (Below.refl _ _)
            refine LinOps.cons (by simp only [List.getElem?_toArray, List.getElem?_cons_succ, List.getElem?_cons_zero]; rfl) (fun hk K hK => ?_) ?_
            · (obtain ⟨v, hv, hf⟩ := Known.get (hk 16 (by kernel_rfl) (by simp)) (d := 50) (by kernel_rfl); simp only [List.getElem?_toArray, List.getElem?_cons_succ, List.getElem?_cons_zero, Option.some.injEq] at hv; subst hv; simp only [wrF] at hf; (try subst hf))
              go_simp
              exact hK.out _ _ _ rfl rfl hT (Below.refl _ _)
            refine LinOps.cons (by simp only [List.getElem?_toArray, List.getElem?_cons_succ, List.getElem?_cons_zero]; rfl) (fun hk K hK => ?_) ?_
            · (obtain ⟨v, hv, hf⟩ := Known.get (hk 17 (by kernel_rfl) (by simp)) (d := 51) (by kernel_rfl); simp only [List.getElem?_toArray, List.getElem?_cons_succ, List.getElem?_cons_zero, Option.some.injEq] at hv; subst hv; simp only [wrF] at hf; (try subst hf))
              cases z
              · go_simp
                exact hK.out _ _ _ rfl rfl hT (Below.refl _ _)
              · go_simp
                exact hK.out _ _ _ rfl rfl hT (Below.refl _ _)
            refine LinOps.cons (by simp only [List.getElem?_toArray, List.getElem?_cons_succ, List.getElem?_cons_zero]; rfl) (fun hk K hK => ?_) ?_
            · (obtain ⟨v, hv, hf⟩ := Known.get (hk 17 (by kernel_rfl) (by simp)) (d := 51) (by kernel_rfl); simp only [List.getElem?_toArray, List.getElem?_cons_succ, List.getElem?_cons_zero, Option.some.injEq] at hv; subst hv; simp only [wrF] at hf; (try subst hf))
              cases z
              · go_simp
                exact hK.out _ _ _ rfl rfl hT (Below.refl _ _)
              · go_simp
                exact hK.out _ _ _ rfl rfl hT (Below.refl _ _)
            refine LinOps.cons (by simp only [List.getElem?_toArray, List.getElem?_cons_succ, List.getElem?_cons_zero]; rfl) (fun hk K hK => ?_) ?_
            · (obtain ⟨v, hv, hf⟩ := Known.get (hk 17 (by kernel_rfl) (by simp)) (d := 51) (by kernel_rfl); simp only [List.getElem?_toArray, List.getElem?_cons_succ, List.getElem?_cons_zero, Option.some.injEq] at hv; subst hv; simp only [wrF] at hf; (try subst hf))
              cases z
              · go_simp
                exact hK.out _ _ _ rfl rfl hT (Below.refl _ _)
              · go_simp
                exact hK.out _ _ _ rfl rfl hT (Below.refl _ _)
            refine LinOps.cons (by simp only [List.getElem?_toArray, List.getElem?_cons_succ, List.getElem?_cons_zero]; rfl) (fun hk K hK => ?_) ?_
            · (obtain ⟨v, hv, hf⟩ := Known.get (hk 17 (by kernel_rfl) (by simp)) (d := 51) (by kernel_rfl); simp only [List.getElem?_toArray, List.getElem?_cons_succ, List.getElem?_cons_zero, Option.some.injEq] at hv; subst hv; simp only [wrF] at hf; (try subst hf)); (obtain ⟨v, hv, hf⟩ := Known.get (hk 19 (by kernel_rfl) (by simp)) (d := 53) (by kernel_rfl); simp only [List.getElem?_toArray, List.getElem?_cons_succ, List.getElem?_cons_zero, Option.some.injEq] at hv; subst hv; simp only [wrF] at hf; (try subst hf)); (obtain ⟨v, hv, hf⟩ := Known.get (hk 20 (by kernel_rfl) (by simp)) (d := 54) (by kernel_rfl); simp only [List.getElem?_toArray, List.getElem?_cons_succ, List.getElem?_cons_zero, Option.some.injEq] at hv; subst hv; simp only [wrF] at hf; (try subst hf))
              cases z
              · go_simp
                exact hK.out _ _ _ rfl rfl hT (Below.refl _ _)
              · go_simp
                go_at_call 80; refine (rWithout_any k L lcap ls _ ((hL5.below hT).more hT.size) h6 (by omega)).mono ?_
                rintro e w1 ⟨WA, wc, rfl, hwc, hWA, h1⟩
                exact hK.out _ _ _ rfl (by simp only [wrF, if_true]; rw [HWo.out] at hWA ⊢; exact ⟨WA, wc, rfl, hWA⟩) (hT.trans (h1.mono hT.size)) h1
            refine LinOps.cons (by simp only [List.getElem?_toArray, List.getElem?_cons_succ, List.getElem?_cons_zero]; rfl) (fun hk K hK => ?_) ?_
            · (obtain ⟨v, hv, hf⟩ := Known.get (hk 17 (by kernel_rfl) (by simp)) (d := 51) (by kernel_rfl); simp only [List.getElem?_toArray, List.getElem?_cons_succ, List.getElem?_cons_zero, Option.some.injEq] at hv; subst hv; simp only [wrF] at hf; (try subst hf)); (obtain ⟨v, hv, hf⟩ := Known.get (hk 18 (by kernel_rfl) (by simp)) (d := 52) (by kernel_rfl); simp only [List.getElem?_toArray, List.getElem?_cons_succ, List.getElem?_cons_zero, Option.some.injEq] at hv; subst hv; simp only [wrF] at hf; (try subst hf)); (obtain ⟨v, hv, hf⟩ := Known.get (hk 21 (by kernel_rfl) (by simp)) (d := 55) (by kernel_rfl); simp only [List.getElem?_toArray, List.getElem?_cons_succ, List.getElem?_cons_zero, Option.some.injEq] at hv; subst hv; simp only [wrF] at hf; (try subst hf))
              cases z
              · simp only [Bool.false_eq_true, if_false] at hf
                subst hf
                go_simp
                exact hK.out _ _ _ rfl rfl hT (Below.refl _ _)
              · simp only [if_true] at hf
                obtain ⟨WA, wc, rfl, hWA⟩ := hf
                go_simp
                go_at_call 73; refine (right_any set A WA cap wc fs wo _ ((hA5.below hT).more hT.size) hWA hO HWv.out hw6 ⟨hs1, hs2⟩).mono ?_
                rintro e w1 ⟨rfl, h1⟩
                exact hK.out _ _ _ rfl (by show _ = Value.bool q; rw [← HQ.out]) (hT.trans (h1.mono hT.size)) h1
            exact LinOps.nil
          · intro a' w' hd hsz hkn hT hall
            obtain ⟨xs, D⟩ := a'; obtain ⟨l0⟩ := xs; dsimp only at hd hsz hkn; subst hd; have hs0 := hsz; clear hsz; simp only [List.size_toArray] at hs0; obtain ⟨x0, x1, x2, x3, x4, x5, x6, x7, x8, x9, l1, rfl, hs1⟩ := len_ten hs0; clear hs0; obtain ⟨x10, x11, x12, x13, x14, x15, x16, x17, x18, x19, l2, rfl, hs2⟩ := len_ten hs1; clear hs1; obtain ⟨x20, x21, x22, x23, x24, x25, x26, x27, x28, x29, l3, rfl, hs3⟩ := len_ten hs2; clear hs2; obtain ⟨x30, x31, x32, x33, x34, x35, x36, x37, x38, x39, l4, rfl, hs4⟩ := len_ten hs3; clear hs3; obtain ⟨x40, x41, x42, x43, x44, x45, x46, x47, x48, x49, l5, rfl, hs5⟩ := len_ten hs4; clear hs4; obtain ⟨x50, x51, x52, x53, x54, x55, x56, x57, x58, x59, l6, rfl, hs6⟩ := len_ten hs5; clear hs5; obtain rfl := List.length_eq_zero_iff.1 hs6; clear hs6; have kn := known_list hkn; clear hkn; simp only [List.map_cons, List.map_nil, List.getElem?_toArray, List.getElem?_cons_succ, List.getElem?_cons_zero, Array.getD_eq_getD_getElem?, Option.getD_some, List.cons.injEq, Option.some.injEq, and_true] at kn; obtain ⟨rfl, rfl, rfl, rfl, rfl, rfl, rfl, rfl, rfl, rfl, rfl, rfl, rfl, rfl, rfl, rfl, rfl, rfl, rfl, rfl, rfl, rfl, rfl, rfl, rfl, rfl, rfl, rfl, rfl, rfl, rfl, rfl, rfl, rfl, rfl, rfl⟩ := kn
            (obtain ⟨v, hv, hf⟩ := Known.get (hall 17 (by kernel_rfl) ) (d := 51) (by kernel_rfl); simp only [List.getElem?_toArray, List.getElem?_cons_succ, List.getElem?_cons_zero, Option.some.injEq] at hv; subst hv; simp only [wrF] at hf; (try subst hf))
            (obtain ⟨v, hv, hf⟩ := Known.get (hall 22 (by kernel_rfl) ) (d := 56) (by kernel_rfl); simp only [List.getElem?_toArray, List.getElem?_cons_succ, List.getElem?_cons_zero, Option.some.injEq] at hv; subst hv; simp only [wrF] at hf; (try subst hf))
            clear hall
            cases z
            all_goals
              refine wpAny_ready (rs := [23]) (by kernel_rfl) (by simp) ?_; refine AllReady.cons (by simp only [List.getElem?_toArray, List.getElem?_cons_succ, List.getElem?_cons_zero]; rfl) (fun K hK => ?_) AllReady.nil
              go_simp
              refine hK _ _ ?_
              (try simp only [Act.put, List.setIfInBounds_toArray, List.set_cons_zero, List.set_cons_succ])
              clear hK K
              refine wpAny_done (by kernel_rfl) ?_ _
              go_wp2_with fail
              go_meet
              exact ⟨rfl, hT⟩
        case rest =>
          obtain ⟨rfl, hbc⟩ := hcut
          have hBc := hB5.trans (hbc.mono hB5.size)
          have hLc := (hLA.below hbc).more hbc.size
          have hBAc := (hBA.below hbc).more hbc.size
          clear f0 f1 hA5 hL5 hLA hBA hbc hB5 hBr
          have HK2 : Hid ((List.range N).foldl (wrongStep ⟨set, fs⟩ ls) (onesL (N - 1) ls.length) = ((List.range N).drop (k + 1)).foldl (wrongStep ⟨set, fs⟩ ls) (if z && q then l else bl)) := hid (by rw [HK.out, HM.out, List.foldl_cons, HST.out])
          clear HK HM HST HZ HQ
          generalize (z && q) = zq at *
          cases zq
          · go_wp2_with fail
            exact ⟨⟨k + 1, bl, BA, bc, hk1, by go_num, rfl, hb6, hBAc, hid (HK2.out), hBc⟩, by simp [intOf]; omega⟩
          · go_wp2_with fail
            exact ⟨⟨k + 1, l, LA, lc, hk1, by go_num, rfl, by omega, hLc, hid (HK2.out), hBc⟩, by simp [intOf]; omega⟩
      · obtain rfl : k = N := by omega
        have t1 : decide ((k : Int) < wrap64 (2 ^ ls.length)) = false := by rw [HN2.out]; simp
        have HF : Hid (wrongR ⟨set, fs⟩ ls = (bl, 0)) := hid (by rw [H1.out, HL.out, HK.out, List.drop_of_length_le (by simp)]; rfl)
        go_wp2
        refine bodyPost_ret (v := .tuple #[.slice BA bl.length bc, .int .i64 0]) (by simp [results, Try.results33, go_sem]) rfl ?_
        rw [HF.out]
        exact ⟨BA, bc, rfl, hBA, hBw.trans (hBr.mono (by omega))⟩
  · have H1 : Hid (wrongR ⟨set, fs⟩ ls = ([], askE ⟨set, fs⟩ (bookB ls))) := hid (by rw [HR.out, if_neg he])
    have ht : (askE ⟨set, fs⟩ (bookB ls) != 0) = true := by rw [bne_iff_ne]; exact he
    clear HR he
    go_wp2
    refine bodyPost_ret (v := .tuple #[.slice none 0 0, .int .i64 (askE ⟨set, fs⟩ (bookB ls))]) (by simp [results, Try.results33, go_sem]) rfl ?_
    rw [H1.out]
    exact ⟨none, 0, rfl, Arr.nil _ _ _, by (repeat' (first | (with_reducible exact Below.refl _ _) | (with_reducible assumption) | (with_reducible refine Below.drew ?_) | (with_reducible refine below_drewN ?_ _) | (with_reducible refine Below.setCell ?_ ?_ _) | (with_reducible refine Below.alloc ?_ ?_ _) | go_size | (exact Below.size (by assumption)) | (refine Below.trans ?_ (Below.mono (by assumption) ?_))))⟩
end Go.Proofs.Ytmddbnjbliponaa
