/- Name: the reference's Pair, and the law's joins. -/
import Derived.Test.YtbimkcjdodgojaaGreatKANcc
import Derived.Test.YtbimkcjdodgojaaGreatKANo
import Derived.Test.YtbimkcjdodgojaaGreatKANj
import Derived.Test.YtbimkcjdodgojaaGreatKANp
import Derived.Test.YtbimkcjdodgojaaGreatKANbd
import Derived.Test.YtbimkcjdodgojaaGreatKANax
import Derived.Test.YtbimkcjdodgojaaGreatKANdb
import Derived.Test.YtbimkcjdodgojaaGreatKANaa

namespace Go.Proofs.YtbimkcjdodgojaaGreat
set_option linter.unusedSimpArgs false
set_option linter.unusedVariables false
open Go Go.RowKit
theorem OkP.len {cs : List (List Nat)} : ∀ {k m : Nat} {u s : Prs}, OkP cs k m u s → k + s.length ≤ m ∨ s = []
 | _, _, _, [], _ => .inr rfl
 | k, m, u, p :: s, ⟨h1, h2, _, _, h5⟩ => .inl (by
  rcases h5.len with h | h
  ·simp only [List.length_cons]; omega
  ·subst h; simp only [List.length_singleton]; omega)
end Go.Proofs.YtbimkcjdodgojaaGreat
namespace Go.Proofs.YtbimkcjdodgojaaGreat
set_option linter.unusedSimpArgs false
set_option linter.unusedVariables false
open Go Go.RowKit
/-- what is heard of two names so far -/
def HeardL (l : List ByteArray) (xs ys : List UInt8) (sl : Int) : Prop := xs.length = ys.length ∧ allB l xs ys = true ∧ (diffN xs ys xs.length : Int) ≤ sl
theorem diff_pre (xs ys : List UInt8) (a b : UInt8) : ∀ k, k ≤ xs.length → k ≤ ys.length → diffN (xs ++ [a]) (ys ++ [b]) k = diffN xs ys k
 | 0, _, _ => rfl
 | k + 1, h1, h2 => by
  unfold diffN
  rw [diff_pre xs ys a b k (by omega) (by omega)]
  have e1 : (xs ++ [a]).getD k 0 = xs.getD k 0 := by rw [List.getD_eq_getElem?_getD, List.getD_eq_getElem?_getD, List.getElem?_append_left (by omega)]
  have e2 : (ys ++ [b]).getD k 0 = ys.getD k 0 := by rw [List.getD_eq_getElem?_getD, List.getD_eq_getElem?_getD, List.getElem?_append_left (by omega)]
  rw [e1, e2]
theorem HeardL.snoc {l : List ByteArray} {xs ys : List UInt8} {sl sl' : Int} {a b : UInt8} (h : HeardL l xs ys sl) (hab : alikeB l a b = true) (hs : sl + (if a = b then 0 else 1) ≤ sl') : HeardL l (xs ++ [a]) (ys ++ [b]) sl' := by
 obtain ⟨h1, h2, h3⟩ := h
 have ea : (xs ++ [a]).getD xs.length 0 = a := by rw [List.getD_eq_getElem?_getD]; simp
 have eb : (ys ++ [b]).getD xs.length 0 = b := by rw [List.getD_eq_getElem?_getD, h1]; simp
 refine ⟨by simp [h1], ?_, ?_⟩
 ·unfold allB at h2 ⊢
  rw [List.length_append, List.length_singleton, List.range_succ, List.all_append, Bool.and_eq_true]
  refine ⟨?_, by simp only [List.all_cons, List.all_nil, Bool.and_true]; rw [ea, eb]; exact hab⟩
  rw [List.all_eq_true] at h2 ⊢
  intro i hi
  have hi' := List.mem_range.1 hi
  have e1 : (xs ++ [a]).getD i 0 = xs.getD i 0 := by rw [List.getD_eq_getElem?_getD, List.getD_eq_getElem?_getD, List.getElem?_append_left (by omega)]
  have e2 : (ys ++ [b]).getD i 0 = ys.getD i 0 := by rw [List.getD_eq_getElem?_getD, List.getD_eq_getElem?_getD, List.getElem?_append_left (by omega)]
  rw [e1, e2]
  exact h2 i hi
 ·rw [List.length_append, List.length_singleton]
  unfold diffN
  rw [diff_pre xs ys a b _ (Nat.le_refl _) (by omega), ea, eb]
  by_cases e : a = b
  ·rw [if_pos e] at hs; rw [if_pos (by simpa using e)]; omega
  ·rw [if_neg e] at hs; rw [if_neg (by simpa using e)]; omega
theorem HeardL.ap {l : List ByteArray} {xs ys : List UInt8} {sl lim : Int} (h : HeardL l xs ys sl) (hs : sl ≤ lim) : (apR l lim xs ys).2 = true := by
 obtain ⟨h1, h2, h3⟩ := h
 unfold apR
 rw [if_pos ⟨h1, h2, by omega⟩]
theorem ap_range (l : List ByteArray) {sl : Int} (hs : 0 ≤ sl) (x y : List UInt8) : 0 ≤ (apR l sl x y).1 ∧ (apR l sl x y).1 ≤ sl := by
 unfold apR
 split
 ·rename_i h; exact ⟨by simp, h.2.2⟩
 ·exact ⟨by simp, hs⟩
theorem HeardL.mono {l : List ByteArray} {xs ys : List UInt8} {sl sl' : Int} (h : HeardL l xs ys sl) (hs : sl ≤ sl') : HeardL l xs ys sl' := ⟨h.1, h.2.1, by have := h.2.2; omega⟩
end Go.Proofs.YtbimkcjdodgojaaGreat
namespace Go.Proofs.YtbimkcjdodgojaaGreat
set_option linter.unusedSimpArgs false
set_option linter.unusedVariables false
open Go Go.RowKit
/-- strictly increasing firsts, no second twice, each pair allowed -/
def Good (cs : List (List Nat)) (k m : Nat) (t : Prs) : Prop := (t.map (·.1)).Pairwise (· < ·) ∧ (t.map (·.2)).Nodup ∧ ∀ p ∈ t, k ≤ p.1 ∧ p.1 < m ∧ p.2 ∈ cs.getD p.1 []
theorem okP_good {cs : List (List Nat)} {m : Nat} : ∀ {k : Nat} {u t : Prs}, OkP cs k m u t ↔ Good cs k m t ∧ ∀ p ∈ t, usedP u p.2 = false
 | k, u, [] => ⟨fun _ => ⟨⟨List.Pairwise.nil, List.nodup_nil, fun _ h => absurd h List.not_mem_nil⟩, fun _ h => absurd h List.not_mem_nil⟩, fun _ => trivial⟩
 | k, u, p :: s => by
  constructor
  ·rintro ⟨h1, h2, h3, h4, h5⟩
   obtain ⟨⟨g1, g2, g3⟩, g4⟩ := okP_good.1 h5
   refine ⟨⟨?_, ?_, fun q hq => ?_⟩, fun q hq => ?_⟩
   ·rw [List.map_cons, List.pairwise_cons]
    refine ⟨fun x hx => ?_, g1⟩
    obtain ⟨q, hq, rfl⟩ := List.mem_map.1 hx
    have := (g3 q hq).1
    omega
   ·rw [List.map_cons, List.nodup_cons]
    refine ⟨fun hx => ?_, g2⟩
    obtain ⟨q, hq, e⟩ := List.mem_map.1 hx
    have := g4 q hq
    unfold usedP at this
    rw [List.any_append, Bool.or_eq_false_iff] at this
    simp [e] at this
   ·rcases List.mem_cons.1 hq with rfl | hq
    ·exact ⟨h1, h2, h3⟩
    ·obtain ⟨a, b, c⟩ := g3 q hq
     exact ⟨by omega, b, c⟩
   ·rcases List.mem_cons.1 hq with rfl | hq
    ·exact h4
    ·have := g4 q hq
     unfold usedP at this ⊢
     rw [List.any_append, Bool.or_eq_false_iff] at this
     exact this.1
  ·rintro ⟨⟨g1, g2, g3⟩, g4⟩
   rw [List.map_cons, List.pairwise_cons] at g1
   rw [List.map_cons, List.nodup_cons] at g2
   obtain ⟨a, b, c⟩ := g3 p (List.mem_cons_self ..)
   refine ⟨a, b, c, g4 p (List.mem_cons_self ..), okP_good.2 ⟨⟨g1.2, g2.2, fun q hq => ?_⟩, fun q hq => ?_⟩⟩
   ·obtain ⟨_, d, e⟩ := g3 q (List.mem_cons_of_mem _ hq)
    exact ⟨g1.1 _ (List.mem_map_of_mem (f := (·.1)) hq), d, e⟩
   ·unfold usedP
    rw [List.any_append, Bool.or_eq_false_iff]
    refine ⟨g4 q (List.mem_cons_of_mem _ hq), ?_⟩
    have hne : ¬ p.2 = q.2 := fun e => g2.1 (e ▸ List.mem_map_of_mem (f := (·.2)) hq)
    simp [hne]
theorem ok_good {cs : List (List Nat)} {m : Nat} {t : Prs} : OkP cs 0 m [] t ↔ Good cs 0 m t := by
 rw [okP_good]
 exact ⟨fun h => h.1, fun h => ⟨h, fun _ _ => rfl⟩⟩
theorem coulds_nodup (b : Bk) (k : Nat) : ((couldsP b).getD k []).Nodup := by
 rw [coulds_at]
 split
 ·unfold couldP
  exact List.Pairwise.filter _ List.nodup_range
 ·exact List.nodup_nil
theorem mem_tsG (b : Bk) (t : Prs) : t ∈ b.ts ↔ Good (couldsP b) 0 b.lines.length t ∧ (b.lines.length : Int) - 2 * t.length ≤ b.lost := by
 unfold Bk.ts
 rw [mem_ts (sides_bk b), ok_good]
theorem good_below {b : Bk} {t : Prs} (h : Good (couldsP b) 0 b.lines.length t) : ∀ p ∈ t, p.1 < b.lines.length ∧ p.2 < b.lines.length := fun p hp => by
 obtain ⟨_, a, c⟩ := h.2.2 p hp
 exact ⟨a, ((mem_coulds _ _ _).1 c).2.1⟩
theorem pair_iff {b : Bk} {t : Prs} (ht : t ∈ b.ts) {x y : Nat} (hy : y ∈ (couldsP b).getD x []) : (matchP t x = y ↔ (x, y) ∈ t) ∧ (matchP t y = x ↔ (x, y) ∈ t) := by
 have hok := ok_good.2 ((mem_tsG b t).1 ht).1
 have h1 := match_ok (sides_bk b) hok
 have hs := sides_bk b _ _ hy
 have hno : (y, x) ∉ t := fun h => by
  have := (sides_bk b _ _ (hok.firsts _ h).2.2.1).2.2.1
  simp only at this
  rw [this] at hs
  exact absurd hs.2.2.2 (by simp)
 refine ⟨⟨fun h => ?_, fun h => (h1 _ h).1⟩, ⟨fun h => ?_, fun h => (h1 _ h).2⟩⟩
 ·exact (match_mem h).resolve_right hno
 ·exact (match_mem h).resolve_left hno
theorem cnt_eq {n : Nat} {ts : List Prs} {i : Nat} (hi : i < n) (o : Int) : cntP n ts i o = ((ts.filter fun t => matchP t i == o).length : Int) := by
 unfold cntP
 rw [if_pos ⟨by omega, by omega⟩, Int.toNat_natCast]
/-- the greatest of the first counts -/
def MaxTo (c : Int → Int) (k : Nat) (r : Int) : Prop := 0 ≤ r ∧ (r = 0 ∨ ∃ j : Nat, j < k ∧ r = c j) ∧ ∀ j : Nat, j < k → c j ≤ r
theorem MaxTo.zero (c : Int → Int) : MaxTo c 0 0 := ⟨Int.le_refl _, .inl rfl, fun j h => by omega⟩
theorem MaxTo.succ {c : Int → Int} {k : Nat} {r : Int} (h : MaxTo c k r) : MaxTo c (k + 1) (max r (c k)) := by
 obtain ⟨h1, h2, h3⟩ := h
 refine ⟨by omega, ?_, fun j hj => ?_⟩
 ·by_cases e : c k ≤ r
  ·rw [Int.max_eq_left e]
   rcases h2 with h2 | ⟨j, hj, e2⟩
   ·exact .inl h2
   ·exact .inr ⟨j, by omega, e2⟩
  ·exact .inr ⟨k, by omega, by omega⟩
 ·by_cases e : j = k
  ·subst e; omega
  ·have := h3 j (by omega); omega
theorem MaxTo.skip {c : Int → Int} {k : Nat} {r : Int} (h : MaxTo c k r) (h0 : c k = 0) : MaxTo c (k + 1) r := by
 have := h.succ
 rw [h0, Int.max_eq_left h.1] at this
 exact this
end Go.Proofs.YtbimkcjdodgojaaGreat
namespace Go.Proofs.YtbimkcjdodgojaaGreat
set_option linter.unusedSimpArgs false
set_option linter.unusedVariables false
open Go Go.RowKit
attribute [local go_sem high] cell_set_wr
attribute [local go_sem low] cell_wr frozen_wr
attribute [local go_sem] wr_set wr_drew wr_drewN wr_alloc wr_new Rho.c Rho.n Rho.g
/-- the truths that begin with the pairs t, of the lines from k on, of which there are r, as the reference lists them -/
def fromR (n : Nat) (lost : Int) (cs : List (List Nat)) : Nat → Nat → Prs → List Prs
 | 0, _, t => if (n : Int) - 2 * t.length ≤ lost then [t] else []
 | r + 1, k, t => fromR n lost cs r (k + 1) t ++ ((cs.getD k []).filter fun o => decide (matchP t o < 0)).flatMap fun o => fromR n lost cs r (k + 1) (t ++ [(k, o)])
def truthsR (b : Bk) : List Prs := fromR b.lines.length b.lost (couldsP b) b.lines.length 0 []
theorem used_match {cs : List (List Nat)} {n : Nat} {z : Nat → Bool} (hc : Sides n z cs) {k : Nat} {u : Prs} (h : OkP cs 0 k [] u) {o : Nat} (ho : o ∈ cs.getD k []) : decide (matchP u o < 0) = !usedP u o := by
 have hz := hc k o ho
 cases hu : usedP u o
 ·have h1 : matchP u o = -1 := matchP_no fun p hp => by
   have h2 := h.firsts p hp
   have h3 := hc p.1 p.2 h2.2.2.1
   refine ⟨fun e => ?_, fun e => ?_⟩
   ·rw [e] at h3
    rw [hz.2.2.2] at h3
    exact absurd h3.2.2.1 (by decide)
   ·have : usedP u o = true := by
     unfold usedP
     exact List.any_eq_true.2 ⟨p, hp, by rw [e]; simp⟩
    rw [hu] at this
    exact absurd this (by decide)
  rw [h1]
  rfl
 ·unfold usedP at hu
  obtain ⟨p, hp, he⟩ := List.any_eq_true.1 hu
  have e : p.2 = o := by simpa using he
  have h1 := (match_ok hc h p hp).2
  rw [e] at h1
  rw [h1]
  simp
theorem perm_from {cs : List (List Nat)} {n : Nat} {z : Nat → Bool} (hc : Sides n z cs) (lost : Int) : ∀ (r k : Nat) (u : Prs), OkP cs 0 k [] u → (fromR n lost cs r k u).Perm (fromP n lost cs r k u) := by
 intro r
 induction r with
 | zero =>
  intro k u h
  have h1 := lost_ok hc h
  unfold fromR fromP
  by_cases h2 : (n : Int) - 2 * u.length ≤ lost
  ·rw [if_pos h2, if_pos (by omega)]
  ·rw [if_neg h2, if_neg (by omega)]
 | succ r ih =>
  intro k u h
  unfold fromR fromP
  refine List.perm_append_comm.trans (List.Perm.append ?_ (ih _ _ (h.high (Nat.le_succ k))))
  have e : (cs.getD k []).filter (fun o => decide (matchP u o < 0)) = (cs.getD k []).filter fun o => !usedP u o := List.filter_congr fun o ho => used_match hc h ho
  rw [e]
  have key : ∀ l : List Nat, (∀ o ∈ l, o ∈ cs.getD k [] ∧ usedP u o = false) → (l.flatMap fun o => fromR n lost cs r (k + 1) (u ++ [(k, o)])).Perm (l.flatMap fun o => fromP n lost cs r (k + 1) (u ++ [(k, o)])) := by
   intro l
   induction l with
   | nil => intro _; exact List.Perm.refl _
   | cons o l ihl =>
    intro hl
    obtain ⟨h1, h2⟩ := hl o (List.mem_cons_self ..)
    rw [List.flatMap_cons, List.flatMap_cons]
    exact List.Perm.append (ih _ _ (OkP.snoc (Nat.lt_succ_self k) h1 (Nat.zero_le _) h (by simpa using h2))) (ihl fun x hx => hl x (List.mem_cons_of_mem _ hx))
  exact key _ fun o ho => by
   have := List.mem_filter.1 ho
   exact ⟨this.1, by simpa using this.2⟩
theorem perm_truths (b : Bk) : (truthsR b).Perm b.ts := perm_from (sides_bk b) b.lost b.lines.length 0 [] trivial
theorem truthsR_len (b : Bk) : (truthsR b).length = b.ts.length := (perm_truths b).length_eq
theorem mem_truthsR (b : Bk) (t : Prs) : t ∈ truthsR b ↔ t ∈ b.ts := (perm_truths b).mem_iff
theorem truthsR_cnt (b : Bk) (f : Prs → Bool) : ((truthsR b).filter f).length = (b.ts.filter f).length := ((perm_truths b).filter f).length_eq
end Go.Proofs.YtbimkcjdodgojaaGreat
namespace Go.Proofs.YtbimkcjdodgojaaGreat
set_option linter.unusedSimpArgs false
set_option linter.unusedVariables false
open Go Go.RowKit
attribute [local go_sem high] cell_set_wr
attribute [local go_sem low] cell_wr frozen_wr
attribute [local go_sem] wr_set wr_drew wr_drewN wr_alloc wr_new Rho.c Rho.n Rho.g
/-! Kind -/
def kindR (x n : Int) : Int := if x = 0 then 0 else if x = n then 2 else 1
theorem kindR_eq {x n : Int} (h : n ≠ 0) : kindR x n = kindP x n := by
 unfold kindR kindP
 by_cases h0 : x = 0
 ·rw [if_pos h0, if_neg (by omega), if_pos h0]
 ·rw [if_neg h0, if_neg h0]
/-! Joined -/
theorem inc_unique : ∀ {l m : Prs}, l.Pairwise (fun p q => p.1 < q.1) → m.Pairwise (fun p q => p.1 < q.1) → (∀ p, p ∈ l ↔ p ∈ m) → l = m
 | [], [], _, _, _ => rfl
 | [], q :: m, _, _, h => absurd ((h q).2 (List.mem_cons_self ..)) List.not_mem_nil
 | p :: l, [], _, _, h => absurd ((h p).1 (List.mem_cons_self ..)) List.not_mem_nil
 | p :: l, q :: m, hl, hm, h => by
  have h1 := List.pairwise_cons.1 hl
  have h2 := List.pairwise_cons.1 hm
  have e : p = q := by
   rcases List.mem_cons.1 ((h p).1 (List.mem_cons_self ..)) with e | e
   ·exact e
   ·rcases List.mem_cons.1 ((h q).2 (List.mem_cons_self ..)) with e' | e'
    ·exact e'.symm
    ·have := h1.1 q e'
     have := h2.1 p e
     omega
  subst e
  rw [inc_unique h1.2 h2.2 fun x => ?_]
  constructor
  ·intro hx
   rcases List.mem_cons.1 ((h x).1 (List.mem_cons_of_mem _ hx)) with rfl | hx'
   ·exact absurd (h1.1 x hx) (by omega)
   ·exact hx'
  ·intro hx
   rcases List.mem_cons.1 ((h x).2 (List.mem_cons_of_mem _ hx)) with rfl | hx'
   ·exact absurd (h2.1 x hx) (by omega)
   ·exact hx'
theorem joinK_inc {p : Nat → Nat → Bool} {cs : List (List Nat)} (h1 : ∀ i, ((cs.getD i []).filter (p i)).length ≤ 1) : ∀ m, (joinK p cs m).Pairwise (fun p q => p.1 < q.1)
 | 0 => by unfold joinK; simp
 | m + 1 => by
  rw [joinK_succ]
  refine List.pairwise_append.2 ⟨joinK_inc h1 m, ?_, fun x hx y hy => ?_⟩
  ·unfold joinR
   have := h1 m
   generalize (cs.getD m []).filter (p m) = l at this
   match l, this with
   | [], _ => simp
   | [a], _ => simp
  ·have hx' := (mem_joinK.1 (show (x.1, x.2) ∈ joinK p cs m from hx)).1
   unfold joinR at hy
   obtain ⟨o, _, rfl⟩ := List.mem_map.1 hy
   exact hx'
theorem one_le' {l : List Nat} (hn : l.Nodup) (h : ∀ x ∈ l, ∀ y ∈ l, x = y) : l.length ≤ 1 := by
 match l, hn, h with
 | [], _, _ => simp
 | [a], _, _ => simp
 | a :: c :: t, hn, h =>
  have := h a (by simp) c (by simp)
  rw [List.nodup_cons] at hn
  exact absurd (by rw [this]; simp) hn.1
theorem joined_eq {b : Bk} (h9 : b.lines.length ≤ 9) {t : Prs} (ht : t ∈ b.ts) : t.filter (fun p => kindP (cntP b.lines.length b.ts p.1 p.2) b.ts.length == 2) = joinK (fun i o => kindP (cntP b.lines.length b.ts i o) b.ts.length == 2) (couldsP b) 9 := by
 have hg := (mem_tsG b t).1 ht
 refine inc_unique ?_ (joinK_inc (fun i => one_le' ((coulds_nodup b i).filter _) fun x hx y hy => ?_) 9) fun p => ?_
 ·refine List.Pairwise.filter _ ?_
  have := hg.1.1
  rw [List.pairwise_map] at this
  exact this
 ·have hx' := List.mem_filter.1 hx
  have hy' := List.mem_filter.1 hy
  have h1 := hx'.2
  have h2 := hy'.2
  rw [kind_two, decide_eq_true_eq] at h1 h2
  have hi := (mem_coulds b i x).1 hx'.1
  have e1 := (cnt_all hi.1).1 h1 t ht
  have e2 := (cnt_all hi.1).1 h2 t ht
  omega
 ·obtain ⟨i, o⟩ := p
  rw [List.mem_filter, join_law (sides_bk b)]
  constructor
  ·rintro ⟨h1, h2⟩
   have hb := good_below hg.1 _ h1
   have hc := (hg.1.2.2 _ h1).2.2
   rw [kind_two, decide_eq_true_eq] at h2
   exact ⟨by have := hb.1; omega, hc, (cnt_all hb.1).1 h2⟩
  ·rintro ⟨h1, h2, h3⟩
   have hi := (mem_coulds b i o).1 h2
   refine ⟨((pair_iff ht h2).1).1 (h3 t ht), ?_⟩
   rw [kind_two, decide_eq_true_eq]
   exact (cnt_all hi.1).2 h3
/-! IsTruth -/
/-! People: the reference begins with the number of lines, and 0 -/
theorem min_from {n : Int} {l m : List Int} (hm : ∀ y, y ∈ l ↔ y ∈ m) (h : l ≠ []) (hn : ∀ y ∈ l, y ≤ n) : minL n l = minL (m.headD 0) m.tail := by
 obtain ⟨a1, a2, a3⟩ := minL_le l n
 have hne : m ≠ [] := by
  intro e
  cases l with
  | nil => exact h rfl
  | cons x l => exact absurd ((hm x).1 (List.mem_cons_self ..)) (by rw [e]; exact List.not_mem_nil)
 obtain ⟨e1, e2, _⟩ := ends_law hne
 have h1 := a2 _ ((hm _).2 e2)
 have h2 : minL (m.headD 0) m.tail ≤ minL n l := by
  rcases a3 with a3 | a3
  ·cases l with
   | nil => exact absurd rfl h
   | cons x l =>
    have := (e1 x ((hm x).1 (List.mem_cons_self ..))).1
    have := hn x (List.mem_cons_self ..)
    omega
  ·exact (e1 _ ((hm _).1 a3)).1
 omega
theorem max_from {n : Int} {l m : List Int} (hm : ∀ y, y ∈ l ↔ y ∈ m) (h : l ≠ []) (hn : ∀ y ∈ l, n ≤ y) : maxL n l = maxL (m.headD 0) m.tail := by
 obtain ⟨a1, a2, a3⟩ := maxL_ge l n
 have hne : m ≠ [] := by
  intro e
  cases l with
  | nil => exact h rfl
  | cons x l => exact absurd ((hm x).1 (List.mem_cons_self ..)) (by rw [e]; exact List.not_mem_nil)
 obtain ⟨e1, _, e3⟩ := ends_law hne
 have h1 := a2 _ ((hm _).2 e3)
 have h2 : maxL n l ≤ maxL (m.headD 0) m.tail := by
  rcases a3 with a3 | a3
  ·cases l with
   | nil => exact absurd rfl h
   | cons x l =>
    have := (e1 x ((hm x).1 (List.mem_cons_self ..))).2
    have := hn x (List.mem_cons_self ..)
    omega
  ·exact (e1 _ ((hm _).1 a3)).2
 omega
theorem people_mem (b : Bk) (y : Int) : y ∈ peopleP b.lines.length (truthsR b) ↔ y ∈ peopleP b.lines.length b.ts := by
 unfold peopleP
 rw [List.mem_map, List.mem_map]
 constructor
 ·rintro ⟨t, h1, h2⟩
  exact ⟨t, (mem_truthsR b t).1 h1, h2⟩
 ·rintro ⟨t, h1, h2⟩
  exact ⟨t, (mem_truthsR b t).2 h1, h2⟩
/-! Ask -/
theorem cnt_perm (b : Bk) {i : Nat} (hi : i < b.lines.length) (o : Int) : (((truthsR b).filter fun t => matchP t i == o).length : Int) = cntP b.lines.length b.ts i o := by
 rw [cnt_eq hi, truthsR_cnt]
/-! Wrong -/
end Go.Proofs.YtbimkcjdodgojaaGreat
namespace Go.Proofs.YtbimkcjdodgojaaGreat
set_option linter.unusedSimpArgs false
set_option linter.unusedVariables false
open Go Go.RowKit
attribute [local go_sem high] cell_set_wr
attribute [local go_sem low] cell_wr frozen_wr
attribute [local go_sem] wr_set wr_drew wr_drewN wr_alloc wr_new Rho.c Rho.n Rho.g
/-- a list of lists of pairs lies in memory -/
def TruAt (w : World) (B : Nat) (O : Option Addr) (l : List Prs) : Prop := ∃ vs : List Value, vs.length = l.length ∧ Arr w B O vs ∧ ∀ i (h : i < l.length), ∃ T c, vs[i]? = some (.slice T l[i].length c) ∧ Arr w B T (pairsV l[i])
theorem TruAt.get {w : World} {B : Nat} {O : Option Addr} {l : List Prs} (h : TruAt w B O l) {k : Nat} (hk : k < l.length) :
    ∃ b o T c, O = some ⟨b, o, none⟩ ∧ b < B ∧ w.cell? ⟨b, o + k, none⟩ = some (.slice T l[k].length c) ∧ Arr w B T (pairsV l[k]) := by
 obtain ⟨vs, hl, hA, hv⟩ := h
 obtain ⟨T, c, h1, h2⟩ := hv k hk
 obtain ⟨b, o, hO, hlt, hc⟩ := hA (fun e => by rw [e] at hl; simp at hl; omega)
 exact ⟨b, o, T, c, hO, hlt, hc k _ h1, h2⟩
theorem TruAt.below {w w' : World} {O : Option Addr} {l : List Prs} (h : TruAt w w.heap.size O l) (hb : Below w.heap.size w w') : TruAt w' w'.heap.size O l := by
 obtain ⟨vs, hl, hA, hv⟩ := h
 refine ⟨vs, hl, (hA.below hb).more hb.size, fun i hi => ?_⟩
 obtain ⟨T, c, h1, h2⟩ := hv i hi
 exact ⟨T, c, h1, (h2.below hb).more hb.size⟩
theorem truthsR_few {b : Bk} (h9 : b.lines.length ≤ 9) : (truthsR b).length ≤ 1000000000 := by
 rw [truthsR_len]
 have h := fromP_len b.lines.length b.lost (couldsP b) (couldsP_nine h9) b.lines.length 0 []
 have h2 : 10 ^ b.lines.length ≤ 10 ^ 9 := Nat.pow_le_pow_right (by decide) h9
 unfold Bk.ts
 omega
theorem truthsR_short {b : Bk} (h9 : b.lines.length ≤ 9) {t : Prs} (ht : t ∈ truthsR b) : t.length ≤ 9 := by
 have h := fromP_tlen b.lines.length b.lost (couldsP b) b.lines.length 0 [] t ((mem_truthsR b t).1 ht)
 simp at h
 omega
section
variable (A : Option Addr) (cap : Nat) (L : Option Addr) (lcap : Nat) (b : Bk)
end
end Go.Proofs.YtbimkcjdodgojaaGreat
namespace Go.Proofs.YtbimkcjdodgojaaGreat
set_option linter.unusedSimpArgs false
set_option linter.unusedVariables false
open Go Go.RowKit
attribute [local go_sem high] cell_set_wr
attribute [local go_sem low] cell_wr frozen_wr
attribute [local go_sem] wr_set wr_drew wr_drewN wr_alloc wr_new Rho.c Rho.n Rho.g
set_option maxRecDepth 100000 in
set_option maxHeartbeats 1000000 in
theorem rpair_any (A : Option Addr) (c : Nat) (t : Prs) (l : Nat) (w : World) (hA : Arr w w.heap.size A (pairsV t)) (ht : t.length ≤ 9223372036854775807) : Calls Tryz.prog 64 #[.slice A t.length c, .int .i64 l] w fun e w' => e = .returned (.int .i64 (matchP t l)) ∧ Below w.heap.size w w' := by
 refine enterE Tryz.func64 rfl Tryz.ntmps64 (by simp) (fun a hE => ?_); simp only [envOf, Nat.zero_add, Nat.reduceAdd] at hE
 refine Ks ?_
 refine Rs 1 fun Q' K hK => ?_
 refine M0 fun K' J ρ => ?_; go_simp;
 refine Ln hE J fun _ Eb => ?_; clear J K' hE a
 refine Ld [0, 1, 4] Eb hK fun a hE => ?_; clear hK K Q' Eb
 refine Ks ?_
 refine Rs 1 fun Q' K hK => ?_
 refine M0 fun K' J ρ => ?_; go_simp;
 refine Ln hE J fun _ Eb => ?_; clear J K' hE a
 refine Ld [0, 1, 5] Eb hK fun a hE => ?_; clear hK K Q' Eb
 refine Ks ?_
 refine loop_st (fun (k : Nat) a w' => k ≤ t.length ∧ Fits 36 [(0, .slice A t.length c), (1, .int .i64 l), (5, .int .i64 k)] a ∧ w = w' ∧ matchP (t.drop k) l = matchP t l) (fun k => t.length - k) 0 ?_ (fun k a w' hI => ?_)
 ·exact ⟨Nat.zero_le _, by simpa using hE, rfl, rfl⟩
 clear hE
 obtain ⟨hk, hE, rfl, hM⟩ := hI
 have HM := hid hM
 clear hM
 refine Ks ?_
 refine Rs 4 fun Q' K hK => ?_
 refine M1 hE 5 fun K' J ρ q5 => ?_; go_simp
 refine Ln hE J fun _ Eb => ?_; clear J K' hE a q5
 refine M1 Eb 0 fun K' J ρ q0 => ?_; go_simp
 refine Ln Eb J fun _ Ea => ?_; clear J K' Eb q0
 refine M1 Ea 7 fun K' J ρ q7 => ?_; go_simp; (try go_bits)
 refine Ln Ea J fun _ Eb => ?_; clear J K' Ea q7
 refine M2 Eb 6 8 fun K' J ρ q6 q8 => ?_; go_simp; (try go_bits)
 refine Ln Eb J fun _ Ea => ?_; clear J K' Eb q6 q8
 refine Ld [0, 1, 5, 9] Ea hK fun a hE => ?_; clear hK K Q' Ea
 refine Ks ?_
 refine cond_part hE (t := 9) rfl (fun h => ?_) (fun h => ?_)
 ·have hlt : k < t.length := by have := of_decide_eq_true h; omega
  clear h
  have hltI : (k : Int) < t.length := by omega
  have hd := matchP_drop t k hlt l
  have HD := hid hd
  clear hd
  obtain ⟨b, o, rfl, hb, c0, c1⟩ := hA.pr hlt
  obtain ⟨p, hp⟩ : ∃ p, t[k] = p := ⟨_, rfl⟩
  rw [hp] at c0 c1
  have HP := hid hp
  clear hp
  refine Ks ?_
  refine Rs 7 fun Q' K hK => ?_
  refine M1 hE 0 fun K' J ρ q0 => ?_; go_simp
  refine Ln hE J fun _ Eb => ?_; clear J K' hE a q0
  refine M1 Eb 5 fun K' J ρ q5 => ?_; go_simp
  refine Ln Eb J fun _ Ea => ?_; clear J K' Eb q5
  refine M2 Ea 12 13 fun K' J ρ q12 q13 => ?_; go_simp; (try go_bits)
  refine Ln Ea J fun _ Eb => ?_; clear J K' Ea q12 q13
  refine M1 Eb 14 fun K' J ρ q14 => ?_; go_simp
  refine Ln Eb J fun _ Ea => ?_; clear J K' Eb q14
  refine M1 Ea 15 fun K' J ρ q15 => ?_; go_simp
  refine Ln Ea J fun _ Eb => ?_; clear J K' Ea q15
  refine M1 Eb 1 fun K' J ρ q1 => ?_; go_simp
  refine Ln Eb J fun _ Ea => ?_; clear J K' Eb q1
  refine M2 Ea 16 17 fun K' J ρ q16 q17 => ?_; go_simp; (try go_bits)
  refine Ln Ea J fun _ Eb => ?_; clear J K' Ea q16 q17
  refine Ld [0, 1, 5, 18] Eb hK fun a hE => ?_; clear hK K Q' Eb
  refine Ks ?_
  refine cond_part hE (t := 18) rfl (fun h => ?_) (fun h => ?_)
  ·have hh : l = p.1 := by (have h' : ((p.1 : Int) = l) := (by simpa using h)); omega
   refine Ks ?_
   refine Rs 6 fun Q' K hK => ?_
   refine M1 hE 0 fun K' J ρ q0 => ?_; go_simp
   refine Ln hE J fun _ Eb => ?_; clear J K' hE a q0
   refine M1 Eb 5 fun K' J ρ q5 => ?_; go_simp
   refine Ln Eb J fun _ Ea => ?_; clear J K' Eb q5
   refine M2 Ea 19 20 fun K' J ρ q19 q20 => ?_; go_simp; (try go_bits)
   refine Ln Ea J fun _ Eb => ?_; clear J K' Ea q19 q20
   refine M1 Eb 21 fun K' J ρ q21 => ?_; go_simp
   refine Ln Eb J fun _ Ea => ?_; clear J K' Eb q21
   refine M1 Ea 22 fun K' J ρ q22 => ?_; go_simp
   refine Ln Ea J fun _ Eb => ?_; clear J K' Ea q22
   refine M1 Eb 23 fun K' J ρ q23 => ?_; go_simp
   refine Ln Eb J fun _ Ea => ?_; clear J K' Eb q23
   refine Ld [4] Ea hK fun a hE => ?_; clear hK K Q' Ea
   refine Ks ?_
   exact ret_one hE rfl rfl ⟨by rw [← HM.out, HD.out, HP.out, if_pos hh], Below.refl _ _⟩
  ·have hh : ¬ l = p.1 := by (have h' : ¬ ((p.1 : Int) = l) := (by simpa using h)); omega
   have HH := hid hh
   clear h hh
   refine Ks ?_
   refine Rs 7 fun Q' K hK => ?_
   refine M1 hE 0 fun K' J ρ q0 => ?_; go_simp
   refine Ln hE J fun _ Eb => ?_; clear J K' hE a q0
   refine M1 Eb 5 fun K' J ρ q5 => ?_; go_simp
   refine Ln Eb J fun _ Ea => ?_; clear J K' Eb q5
   refine M2 Ea 24 25 fun K' J ρ q24 q25 => ?_; go_simp; (try go_bits)
   refine Ln Ea J fun _ Eb => ?_; clear J K' Ea q24 q25
   refine M1 Eb 26 fun K' J ρ q26 => ?_; go_simp
   refine Ln Eb J fun _ Ea => ?_; clear J K' Eb q26
   refine M1 Ea 27 fun K' J ρ q27 => ?_; go_simp
   refine Ln Ea J fun _ Eb => ?_; clear J K' Ea q27
   refine M1 Eb 1 fun K' J ρ q1 => ?_; go_simp
   refine Ln Eb J fun _ Ea => ?_; clear J K' Eb q1
   refine M2 Ea 28 29 fun K' J ρ q28 q29 => ?_; go_simp; (try go_bits)
   refine Ln Ea J fun _ Eb => ?_; clear J K' Ea q28 q29
   refine Ld [0, 1, 5, 30] Eb hK fun a hE => ?_; clear hK K Q' Eb
   refine Ks ?_
   refine cond_part hE (t := 30) rfl (fun h => ?_) (fun h => ?_)
   ·have hh : l = p.2 := by (have h' : ((p.2 : Int) = l) := (by simpa using h)); omega
    refine Ks ?_
    refine Rs 6 fun Q' K hK => ?_
    refine M1 hE 0 fun K' J ρ q0 => ?_; go_simp
    refine Ln hE J fun _ Eb => ?_; clear J K' hE a q0
    refine M1 Eb 5 fun K' J ρ q5 => ?_; go_simp
    refine Ln Eb J fun _ Ea => ?_; clear J K' Eb q5
    refine M2 Ea 31 32 fun K' J ρ q31 q32 => ?_; go_simp; (try go_bits)
    refine Ln Ea J fun _ Eb => ?_; clear J K' Ea q31 q32
    refine M1 Eb 33 fun K' J ρ q33 => ?_; go_simp
    refine Ln Eb J fun _ Ea => ?_; clear J K' Eb q33
    refine M1 Ea 34 fun K' J ρ q34 => ?_; go_simp
    refine Ln Ea J fun _ Eb => ?_; clear J K' Ea q34
    refine M1 Eb 35 fun K' J ρ q35 => ?_; go_simp
    refine Ln Eb J fun _ Ea => ?_; clear J K' Eb q35
    refine Ld [4] Ea hK fun a hE => ?_; clear hK K Q' Ea
    refine Ks ?_
    exact ret_one hE rfl rfl ⟨by rw [← HM.out, HD.out, HP.out, if_neg HH.out, if_pos hh], Below.refl _ _⟩
   ·have hh : ¬ l = p.2 := by (have h' : ¬ ((p.2 : Int) = l) := (by simpa using h)); omega
    refine Ks ?_
    refine Rs 3 fun Q' K hK => ?_
    refine M1 hE 5 fun K' J ρ q5 => ?_; go_simp
    refine Ln hE J fun _ Eb => ?_; clear J K' hE a q5
    refine M1 Eb 10 fun K' J ρ q10 => ?_; go_simp; (try go_bits); (try simp (disch := omega) only [IntWalk.i64_in])
    refine Ln Eb J fun _ Ea => ?_; clear J K' Eb q10
    refine M1 Ea 11 fun K' J ρ q11 => ?_; go_simp
    refine Ln Ea J fun _ Eb => ?_; clear J K' Ea q11
    refine Ld [0, 1, 5] Eb hK fun a hE => ?_; clear hK K Q' Eb
    refine Ks ?_
    refine ⟨k + 1, ⟨hlt, by simpa using hE, rfl, ?_⟩, by omega⟩
    rw [← HM.out, HD.out, HP.out, if_neg HH.out, if_neg hh]
 ·have hkk : k = t.length := by have := of_decide_eq_false h; omega
  clear h
  refine Ks ?_
  refine Rs 1 fun Q' K hK => ?_
  refine M0 fun K' J ρ => ?_; go_simp;
  refine Ln hE J fun _ Eb => ?_; clear J K' hE a
  refine Ld [4] Eb hK fun a hE => ?_; clear hK K Q' Eb
  refine Ks ?_
  exact ret_one hE rfl rfl ⟨by rw [← HM.out, hkk, List.drop_length]; rfl, Below.refl _ _⟩
end Go.Proofs.YtbimkcjdodgojaaGreat
