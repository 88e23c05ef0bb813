/- Name: the reference's from: what a copy of pairs and one more pair leave in memory. -/
import Derived.Test.YtbimkcjdodgojaaGreatKBNdi
import Derived.Test.YtbimkcjdodgojaaGreatKBNdg
import Derived.Test.YtbimkcjdodgojaaGreatKBYa

namespace Go.Proofs.YtbimkcjdodgojaaGreat
set_option linter.unusedSimpArgs false
set_option linter.unusedVariables false
open Go Go.RowKit
attribute [local go_sem high] cell_set_wr
attribute [local go_sem low] cell_wr frozen_wr
attribute [local go_sem] wr_set wr_drew wr_drewN wr_alloc wr_new Rho.c Rho.n Rho.g
/-! ### the pairs that are tried, one after the other -/
def tryR (b : Bk) (k : Nat) (t : Prs) (o : Nat) : Bool := ((b.lines.getD k zeroLn).book == 0 && canL b (b.lines.getD k zeroLn) (b.lines.getD o zeroLn)) && decide (matchP t o < 0)
def outR (b : Bk) (r k : Nat) (t : Prs) (m : Nat) : List Prs := fromR b.lines.length b.lost (couldsP b) r (k + 1) t ++ ((List.range m).filter (tryR b k t)).flatMap fun o => fromR b.lines.length b.lost (couldsP b) r (k + 1) (t ++ [(k, o)])
theorem outR_done {b : Bk} {r k : Nat} {t : Prs} (hk : k < b.lines.length) : fromR b.lines.length b.lost (couldsP b) (r + 1) k t = outR b r k t b.lines.length := by
 conv => lhs; unfold fromR
 unfold outR
 rw [coulds_at, if_pos hk]
 unfold couldP
 rw [List.filter_filter]
 congr 3
 funext o
 unfold tryR
 rw [Bool.and_comm]
theorem outR_yes {b : Bk} {r k : Nat} {t : Prs} {m : Nat} (h : tryR b k t m = true) : outR b r k t (m + 1) = outR b r k t m ++ fromR b.lines.length b.lost (couldsP b) r (k + 1) (t ++ [(k, m)]) := by
 unfold outR
 rw [List.range_succ, List.filter_append, List.flatMap_append, List.append_assoc]
 congr 2
 simp [List.filter_cons, h]
theorem outR_no {b : Bk} {r k : Nat} {t : Prs} {m : Nat} (h : tryR b k t m = false) : outR b r k t (m + 1) = outR b r k t m := by
 unfold outR
 rw [List.range_succ, List.filter_append, List.flatMap_append]
 simp [List.filter_cons, h]
theorem outR_out {b : Bk} {r k : Nat} {t : Prs} (h : ((b.lines.getD k zeroLn).book == 0) = false) (m : Nat) : outR b r k t m = outR b r k t 0 := by
 unfold outR
 congr 2
 rw [List.filter_eq_nil_iff.2 (fun o _ => by unfold tryR; rw [h]; simp)]
 rfl
theorem fromR_len (n : Nat) (lost : Int) (cs : List (List Nat)) (hcs : ∀ k, (cs.getD k []).length ≤ 9) : ∀ (r k : Nat) (t : Prs), (fromR n lost cs r k t).length ≤ 10 ^ r
 | 0, k, t => by unfold fromR; split <;> simp
 | r + 1, k, t => by
  unfold fromR
  rw [List.length_append, List.length_flatMap]
  have h1 := fromR_len n lost cs hcs r (k + 1) t
  have key : ∀ l : List Nat, ((l.map fun o => (fromR n lost cs r (k + 1) (t ++ [(k, o)])).length).sum) ≤ l.length * 10 ^ r := by
   intro l
   induction l with
   | nil => simp
   | cons o l ih =>
    have := fromR_len n lost cs hcs r (k + 1) (t ++ [(k, o)])
    simp only [List.map_cons, List.sum_cons, List.length_cons, Nat.add_mul, Nat.one_mul]
    omega
  have h2 := key ((cs.getD k []).filter fun o => decide (matchP t o < 0))
  have h3 : ((cs.getD k []).filter fun o => decide (matchP t o < 0)).length ≤ 9 := Nat.le_trans (List.length_filter_le _ _) (hcs k)
  have h4 := Nat.mul_le_mul_right (10 ^ r) h3
  rw [Nat.pow_succ]
  omega
theorem outR_len {b : Bk} (h9 : b.lines.length ≤ 9) (r k : Nat) (t : Prs) {m : Nat} (hm : m ≤ 9) : (outR b r k t m).length ≤ 10 ^ (r + 1) := by
 unfold outR
 rw [List.length_append, List.length_flatMap]
 have h1 := fromR_len b.lines.length b.lost (couldsP b) (couldsP_nine h9) r (k + 1) t
 have key : ∀ l : List Nat, ((l.map fun o => (fromR b.lines.length b.lost (couldsP b) r (k + 1) (t ++ [(k, o)])).length).sum) ≤ l.length * 10 ^ r := by
  intro l
  induction l with
  | nil => simp
  | cons o l ih =>
   have := fromR_len b.lines.length b.lost (couldsP b) (couldsP_nine h9) r (k + 1) (t ++ [(k, o)])
   simp only [List.map_cons, List.sum_cons, List.length_cons, Nat.add_mul, Nat.one_mul]
   omega
 have h2 := key ((List.range m).filter (tryR b k t))
 have h3 : ((List.range m).filter (tryR b k t)).length ≤ 9 := Nat.le_trans (List.length_filter_le _ _) (by simpa using hm)
 have h4 := Nat.mul_le_mul_right (10 ^ r) h3
 rw [Nat.pow_succ]
 omega
/-! ### a copy of pairs, and one more -/
def EmpF (N : Nat) (v : Value) (wt : World) : Prop := ∃ g, v = .slice (some ⟨g, 0, none⟩) 0 0 ∧ N ≤ g ∧ wt.heap[g]? = some (.cells #[] 82 (0, 0))
def CopF (N : Nat) (t : Prs) (v : Value) (wt : World) : Prop := ∃ g cap cur, v = .slice (some ⟨g, 0, none⟩) t.length cap ∧ N ≤ g ∧ wt.heap[g]? = some (.cells cur 82 (0, 0)) ∧ t.length ≤ cap ∧ cap ≤ maxLen ∧ cur.size = cap * 2 ∧ cur.toList.take (t.length * 2) = pairsV t ∧ (t.length = 0 → cap = 0)
def OneF (N : Nat) (p : Nat × Nat) (v : Value) (wt : World) : Prop := ∃ g, v = .slice (some ⟨g, 0, none⟩) 1 1 ∧ N ≤ g ∧ wt.heap[g]? = some (.cells #[.int .i64 p.1, .int .i64 p.2] 82 (0, 0))
/-- what the second append does: a new block, or one pair more in a block where there is room for it -/
def Room0 (N n : Nat) (w w' : World) : Prop := Below w.heap.size w w' ∨ (1 ≤ n ∧ ∃ g cur news, N ≤ g ∧ w.heap[g]? = some (.cells cur 82 (0, 0)) ∧ (n + 1) * 2 ≤ cur.size ∧ news.length = 2 ∧ w' = w.setRow g (cur.toList.take (n * 2) ++ news ++ cur.toList.drop (n * 2 + 2)).toArray)
theorem heap_lt {w : World} {g : Nat} {x : Obj} (h : w.heap[g]? = some x) : g < w.heap.size := (Array.getElem?_eq_some_iff.1 h).1
theorem heap_kept {w w' : World} {g : Nat} {x : Obj} (h : w.heap[g]? = some x) (hb : Below w.heap.size w w') : w'.heap[g]? = some x := (hb.block g (heap_lt h)).trans h
theorem EmpF.below {N : Nat} {v : Value} {w w' : World} (h : EmpF N v w) (hb : Below w.heap.size w w') : EmpF N v w' := by
 obtain ⟨g, h1, h2, h3⟩ := h
 exact ⟨g, h1, h2, heap_kept h3 hb⟩
theorem CopF.below {N : Nat} {t : Prs} {v : Value} {w w' : World} (h : CopF N t v w) (hb : Below w.heap.size w w') : CopF N t v w' := by
 obtain ⟨g, cap, cur, h1, h2, h3, h4⟩ := h
 exact ⟨g, cap, cur, h1, h2, heap_kept h3 hb, h4⟩
theorem OneF.below {N : Nat} {p : Nat × Nat} {v : Value} {w w' : World} (h : OneF N p v w) (hb : Below w.heap.size w w') : OneF N p v w' := by
 obtain ⟨g, h1, h2, h3⟩ := h
 exact ⟨g, h1, h2, heap_kept h3 hb⟩
theorem EmpF.room {N n : Nat} {v : Value} {w w' : World} (h : EmpF N v w) (hb : Room0 N n w w') : EmpF N v w' := by
 rcases hb with hb | ⟨_, g', cur', news, _, e2, e3, _, rfl⟩
 ·exact h.below hb
 ·obtain ⟨g, h1, h2, h3⟩ := h
  refine ⟨g, h1, h2, ?_⟩
  rw [setRow_other _ _ _ _ (fun e => ?_)]
  ·exact h3
  ·subst e
   rw [h3] at e2
   cases e2
   simp at e3
theorem OneF.room {N n : Nat} {p : Nat × Nat} {v : Value} {w w' : World} (h : OneF N p v w) (hb : Room0 N n w w') : OneF N p v w' := by
 rcases hb with hb | ⟨e0, g', cur', news, _, e2, e3, _, rfl⟩
 ·exact h.below hb
 ·obtain ⟨g, h1, h2, h3⟩ := h
  refine ⟨g, h1, h2, ?_⟩
  rw [setRow_other _ _ _ _ (fun e => ?_)]
  ·exact h3
  ·subst e
   rw [h3] at e2
   cases e2
   simp at e3
   omega
theorem CopF.room {N : Nat} {t : Prs} {v : Value} {w w' : World} (h : CopF N t v w) (hb : Room0 N t.length w w') : CopF N t v w' := by
 rcases hb with hb | ⟨e0, g', cur', news, _, e2, e3, e4, rfl⟩
 ·exact h.below hb
 ·obtain ⟨g, cap, cur, h1, h2, h3, h4, h5, h6, h7, h8⟩ := h
  by_cases e : g = g'
  ·subst e
   rw [h3] at e2
   cases e2
   refine ⟨g, cap, _, h1, h2, setRow_heap _ _ _ _ _ _ h3, h4, h5, ?_, ?_, h8⟩
   ·simp only [List.size_toArray, List.length_append, List.length_take, List.length_drop, Array.length_toList]
    omega
   ·simp only [List.append_assoc]
    rw [List.take_append_of_le_length (by simp only [List.length_take, Array.length_toList]; omega), List.take_take, Nat.min_self]
    exact h7
  ·exact ⟨g, cap, cur, h1, h2, by rw [setRow_other _ _ _ _ e]; exact h3, h4, h5, h6, h7, h8⟩
theorem Room0.below {N n : Nat} {W w w' : World} (h : Room0 N n w w') (hb : Below N W w) (hN : N ≤ w.heap.size) : Below N W w' := by
 rcases h with h | ⟨_, g, cur, news, e1, e2, _, _, rfl⟩
 ·exact hb.trans (h.mono hN)
 ·refine hb.trans ⟨rfl, rfl, rfl, by simp [World.setRow], fun k hk => setRow_other _ _ _ _ (by omega)⟩
section
variable {P : Program} {Q : Exit → Act → World → Prop} {a : Act} {w : World}
theorem wp_app_run {o : Oper} {K : Act → World → Prop} (s x : Operand) (t : TypeId) (ho : o.op = .call { callee := .builtin .append, args := #[s, x], argTypes := #[t, t] }) {vs vx v' : Value} {w' : World} (hs : a.eval s = vs) (hx : a.eval x = vx)
    (hr : (Builtin.append_ #[t, t] o.type #[vs, vx]).run P w = .ok v' w') (h : K (a.put o.dst v') w') : o.wp P a w K Q := by
 unfold Oper.wp execOp
 simp only [ho, resolve, invoke, builtin, Sem.run_bind, Sem.run_pure, Result.andThen_ok, List.map_toArray, List.map_cons, List.map_nil, hs, hx, hr]
 exact h
/-- a copy of pairs -/
theorem run_copy {N : Nat} {v : Value} {t : Prs} {S : Option Addr} {c ty : Nat} (tl : TypeId) (ht : P.underlying tl = some (.slice 82)) (hi : (P.info? 82).map (fun i => (i.zero, i.size, i.bytes)) = some (some (.agg #[.int .i64 0, .int .i64 0]), 2, 16)) (hN : N ≤ w.heap.size) (hE : EmpF N v w) (ho : w.ownsRow 0 82 2 (.slice S t.length c) t.length (pairsV t)) (h9 : t.length ≤ 9) :
    ∃ v' w', (Builtin.append_ #[tl, tl] ty #[v, .slice S t.length c]).run P w = .ok v' w' ∧ CopF N t v' w' ∧ Below w.heap.size w w' := by
 obtain ⟨i0, hi0, hz0, hz1, hz2⟩ := info_parts hi
 obtain ⟨g, rfl, h2, h3⟩ := hE
 rcases Nat.eq_zero_or_pos t.length with h0 | h0
 ·have ht0 : t = [] := List.eq_nil_of_length_eq_zero h0
  subst ht0
  have hr := run_app_nil (P := P) (w := w) N tl ty 82 2 ht i0 hi0 (.slice (some ⟨g, 0, none⟩) 0 0) 0 [] ⟨by simp, .inr ⟨g, 0, #[], rfl, h2, h3, Nat.le_refl _, by simp [maxLen], rfl, rfl⟩⟩ c
  rcases ho.2 with ⟨e, _⟩ | ⟨gs, cs, cur, e, _, hg, _⟩
  ·cases e
   exact ⟨_, _, hr, ⟨g, 0, #[], rfl, h2, h3, Nat.le_refl _, by simp [maxLen], rfl, rfl, fun _ => rfl⟩, Below.refl _ _⟩
  ·cases e
   have hf := run_append_room (P := P) w tl ty 82 i0 ht hi0 g 0 0 #[] h3 ⟨gs, 0, none⟩ 0 c [] (by simp) (fun j u hu => by simp at hu) (fun u hu => by simp at hu) (Nat.le_refl _) (by simp)
   refine ⟨_, _, hf, ⟨g, 0, #[], rfl, h2, ?_, Nat.le_refl _, by simp [maxLen], rfl, rfl, fun _ => rfl⟩, ⟨rfl, rfl, rfl, by simp [World.setRow], fun k hk => ?_⟩⟩
   ·have := setRow_heap w g #[] (((#[] : Array Value).toList.take (0 * i0.size)) ++ [] ++ ((#[] : Array Value).toList.drop (0 * i0.size + ([] : List Value).length))).toArray _ _ h3
    simpa using this
   ·by_cases e : k = g
    ·subst e
     have := setRow_heap w k #[] (((#[] : Array Value).toList.take (0 * i0.size)) ++ [] ++ ((#[] : Array Value).toList.drop (0 * i0.size + ([] : List Value).length))).toArray _ _ h3
     rw [this, h3]
     simp
    ·exact setRow_other _ _ _ _ e
 ·obtain ⟨_, h | ⟨gs, cs, cur, e, _, hg, hn1, hn2, hn3, hn4⟩⟩ := ho
  ·omega
  ·cases e
   have hl : (pairsV t).length = t.length * i0.size := by rw [pairsV_length, hz1]
   have hc : ∀ j u, (pairsV t)[j]? = some u → w.cell? ((⟨gs, 0, none⟩ : Addr).add j) = some u := fun j u hu => by
    have hadd : Addr.add ⟨gs, 0, none⟩ j = ⟨gs, j, none⟩ := by unfold Addr.add; split <;> simp_all
    rw [hadd]
    simp only [World.cell?, hg]
    rw [← hn4] at hu
    have hj : j < t.length * 2 := by
     have := (List.getElem?_eq_some_iff.1 hu).1
     simp only [List.length_take] at this; omega
    rw [List.getElem?_take_of_lt hj] at hu
    simpa using hu
   have hr := run_append_grow (P := P) w tl ty 82 i0 _ ht hi0 hz0 ⟨g, 0, none⟩ 0 0 [] (by simp) (fun j u hu => by simp at hu) ⟨gs, 0, none⟩ t.length c (pairsV t) hl hc (by omega) (by omega) (growslice_fits (by omega) (by rw [hz2]; omega))
   have hge := grownCap_ge w (0 + t.length) 0 82
   have hle := grownCap_le_maxLen w (0 + t.length) 0 82 (by simp only [maxLen]; omega)
   refine ⟨_, _, hr, ⟨w.heap.size, _, _, by rw [Nat.zero_add], hN, heap_alloc_new w.drew _, by omega, hle, ?_, ?_, fun h => by omega⟩, ((Below.refl _ _).drew).alloc (Nat.le_refl _) _⟩
   ·simp only [Array.size_append, List.size_toArray, size_zeroCells, List.length_nil, pairsV_length]
    rw [show (Value.agg #[.int .i64 0, .int .i64 0]).cells.size = 2 from rfl]
    omega
   ·simp only [Array.toList_append, List.append_assoc, List.nil_append]
    rw [← pairsV_length]
    exact List.take_left
/-- one pair more -/
theorem run_more {N : Nat} {v vx : Value} {t : Prs} {p : Nat × Nat} {ty : Nat} (tl : TypeId) (ht : P.underlying tl = some (.slice 82)) (hi : (P.info? 82).map (fun i => (i.zero, i.size, i.bytes)) = some (some (.agg #[.int .i64 0, .int .i64 0]), 2, 16)) (hN : N ≤ w.heap.size) (hC : CopF N t v w) (hO : OneF N p vx w) (h9 : t.length ≤ 9) :
    ∃ v' w', (Builtin.append_ #[tl, tl] ty #[v, vx]).run P w = .ok v' w' ∧ w'.ownsRow N 82 2 v' (t ++ [p]).length (pairsV (t ++ [p])) ∧ Room0 N t.length w w' := by
 obtain ⟨i0, hi0, hz0, hz1, hz2⟩ := info_parts hi
 obtain ⟨g, cap, cur, rfl, h2, h3, h4, h5, h6, h7, h8⟩ := hC
 obtain ⟨gs, rfl, k2, k3⟩ := hO
 have hc : ∀ j u, (pcells p)[j]? = some u → w.cell? ((⟨gs, 0, none⟩ : Addr).add j) = some u := fun j u hu => by
  have hadd : Addr.add ⟨gs, 0, none⟩ j = ⟨gs, j, none⟩ := by unfold Addr.add; split <;> simp_all
  rw [hadd]
  simp only [World.cell?, k3]
  simpa [pcells] using hu
 have h1 : ∀ u ∈ pcells p, u.oneCell' = true := fun u hu => by
  simp [pcells] at hu
  rcases hu with rfl | rfl <;> rfl
 have el : (t ++ [p]).length = t.length + 1 := by simp
 have ev : pairsV (t ++ [p]) = pairsV t ++ pcells p := by simp [pairsV]
 rw [el, ev]
 have hlen : (pairsV t ++ pcells p).length = (t.length + 1) * 2 := by rw [List.length_append, pairsV_length, pcells_length]; omega
 by_cases hroom : t.length + 1 ≤ cap
 ·have hr := run_append_room (P := P) w tl ty 82 i0 ht hi0 g t.length cap cur h3 ⟨gs, 0, none⟩ 1 1 (pcells p) (by rw [pcells_length, hz1]) hc h1 hroom (by rw [hz1, pcells_length, h6]; omega)
  rw [hz1, pcells_length] at hr
  refine ⟨_, _, hr, ⟨hlen, .inr ⟨g, cap, _, rfl, h2, setRow_heap _ _ _ _ _ _ h3, hroom, h5, ?_, ?_⟩⟩, .inr ⟨?_, g, cur, pcells p, h2, h3, by omega, pcells_length p, rfl⟩⟩
  ·simp only [List.size_toArray, List.length_append, List.length_take, List.length_drop, Array.length_toList, pcells_length]
   omega
  ·rw [h7, ← hlen]
   exact List.take_left
  ·rcases Nat.eq_zero_or_pos t.length with h0 | h0
   ·have := h8 h0; omega
   ·exact h0
 ·have holds : ∀ j u, (pairsV t)[j]? = some u → w.cell? ((⟨g, 0, none⟩ : Addr).add j) = some u := fun j u hu => by
   have hadd : Addr.add ⟨g, 0, none⟩ j = ⟨g, j, none⟩ := by unfold Addr.add; split <;> simp_all
   rw [hadd]
   simp only [World.cell?, h3]
   rw [← h7] at hu
   have hj : j < t.length * 2 := by
    have := (List.getElem?_eq_some_iff.1 hu).1
    simp only [List.length_take] at this; omega
   rw [List.getElem?_take_of_lt hj] at hu
   simpa using hu
  have hr := run_append_grow (P := P) w tl ty 82 i0 _ ht hi0 hz0 ⟨g, 0, none⟩ t.length cap (pairsV t) (by rw [pairsV_length, hz1]) holds ⟨gs, 0, none⟩ 1 1 (pcells p) (by rw [pcells_length, hz1]) hc (by omega) (by omega) (growslice_fits (by omega) (by rw [hz2]; omega))
  have hge := grownCap_ge w (t.length + 1) cap 82
  have hle := grownCap_le_maxLen w (t.length + 1) cap 82 (by simp only [maxLen]; omega)
  refine ⟨_, _, hr, ⟨hlen, .inr ⟨w.heap.size, _, _, rfl, hN, heap_alloc_new w.drew _, hge, hle, ?_, ?_⟩⟩, .inl (((Below.refl _ _).drew).alloc (Nat.le_refl _) _)⟩
  ·simp only [Array.size_append, List.size_toArray, size_zeroCells, pairsV_length, pcells_length]
   rw [show (Value.agg #[.int .i64 0, .int .i64 0]).cells.size = 2 from rfl]
   omega
  ·simp only [Array.toList_append, List.append_assoc]
   rw [← List.append_assoc, ← hlen]
   exact List.take_left
end
/-- a new list of lists of pairs -/
def RetF (N : Nat) (l : List Prs) (v : Value) (wt : World) : Prop := ∃ vs, wt.ownsRow N 31 1 v l.length vs ∧ Rows2 pcells wt 0 82 2 vs l
theorem RetF.below {N : Nat} {l : List Prs} {v : Value} {w w' : World} (h : RetF N l v w) (hb : Below w.heap.size w w') : RetF N l v w' := by
 obtain ⟨vs, h1, h2⟩ := h
 exact ⟨vs, own_below h1 hb, h2.map fun v n xs h => own_below h hb⟩
theorem RetF.more {N N' : Nat} {l : List Prs} {v : Value} {w : World} (h : RetF N l v w) (hN : N' ≤ N) : RetF N' l v w := by
 obtain ⟨vs, h1, h2⟩ := h
 exact ⟨vs, own_mono h1 hN, h2⟩
/-- a new list of pairs -/
def MoreF (N : Nat) (u : Prs) (v : Value) (wt : World) : Prop := ∃ T d, v = .slice T u.length d ∧ wt.ownsRow N 82 2 (.slice T u.length d) u.length (pairsV u)
theorem MoreF.of {N : Nat} {u : Prs} {v : Value} {w : World} (h : w.ownsRow N 82 2 v u.length (pairsV u)) : MoreF N u v w := by
 obtain ⟨T, d, rfl, _⟩ := own_form h
 exact ⟨T, d, rfl, h⟩
theorem MoreF.below {N : Nat} {u : Prs} {v : Value} {w w' : World} (h : MoreF N u v w) (hb : Below w.heap.size w w') : MoreF N u v w' := by
 obtain ⟨T, d, h1, h2⟩ := h
 exact ⟨T, d, h1, own_below h2 hb⟩
theorem Rows2.one {w : World} {vs : List Value} {l : List Prs} (h : Rows2 pcells w 0 82 2 vs l) : ∀ u ∈ vs, u.oneCell' = true := fun u hu => by
 obtain ⟨i, hi, rfl⟩ := List.getElem_of_mem hu
 obtain ⟨T, d, e, _⟩ := own_form (h.2 i vs[i] (l[i]'(by rw [← h.1]; exact hi)) (List.getElem?_eq_getElem hi) (List.getElem?_eq_getElem (by rw [← h.1]; exact hi)))
 rw [e]; rfl
theorem RetF.tru {N : Nat} {l : List Prs} {v : Value} {w : World} (h : RetF N l v w) : ∃ O c, v = .slice O l.length c ∧ TruAt w w.heap.size O l := by
 obtain ⟨vs, h1, h2⟩ := h
 obtain ⟨O, c, rfl, _, _, ha⟩ := own_form h1
 refine ⟨O, c, rfl, vs, h2.1, ha, fun i hi => ?_⟩
 have hiv : i < vs.length := by rw [h2.1]; exact hi
 have hv : vs[i]? = some vs[i] := List.getElem?_eq_getElem hiv
 obtain ⟨T, c', e, _, _, k⟩ := own_form (h2.2 i vs[i] l[i] hv (List.getElem?_eq_getElem hi))
 exact ⟨T, c', by rw [hv, e], k⟩
theorem Rows2.append {w : World} {base : Nat} {e : TypeId} {size : Nat} {vs us : List Value} {l m : List Prs} (h : Rows2 pcells w base e size vs l) (k : Rows2 pcells w base e size us m) : Rows2 pcells w base e size (vs ++ us) (l ++ m) := by
 refine ⟨by simp [h.1, k.1], fun i v x hv hx => ?_⟩
 rcases Nat.lt_or_ge i vs.length with hi | hi
 ·rw [List.getElem?_append_left hi] at hv
  rw [List.getElem?_append_left (by rw [← h.1]; exact hi)] at hx
  exact h.2 i v x hv hx
 ·rw [List.getElem?_append_right hi] at hv
  rw [List.getElem?_append_right (by rw [← h.1]; exact hi), ← h.1] at hx
  exact k.2 _ v x hv hx
end Go.Proofs.YtbimkcjdodgojaaGreat
