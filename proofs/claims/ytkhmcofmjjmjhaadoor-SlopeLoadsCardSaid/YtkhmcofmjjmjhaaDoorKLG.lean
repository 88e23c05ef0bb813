/- Words for memory, for any seat's walks: a slice that holds a list of cells, and what stays when a call makes new blocks. -/
import Derived.Below
import Derived.OwnWalk
import Derived.Deep.Draws
import Derived.WalkKit
import Derived.Laws.OwnMore
import Derived.Laws.AppendOwn
import Derived.Maps.AppendAt
import Derived.RegionTactic
import Derived.Test.YtkhmcofmjjmjhaaDoorProg
namespace Go.Proofs.YtkhmcofmjjmjhaaDoor
set_option linter.unusedSimpArgs false
set_option linter.unusedVariables false
open Go.RowKit
/-- the slice address A holds the cells xs, in a block before B -/
def Arr (w : World) (B : Nat) (A : Option Addr) (xs : List Value) : Prop :=
  xs ≠ [] → ∃ b o, A = some ⟨b, o, none⟩ ∧ b < B ∧ ∀ j u, xs[j]? = some u → w.cell? ⟨b, o + j, none⟩ = some u
theorem Arr.nil (w : World) (B : Nat) (A : Option Addr) : Arr w B A [] := fun h => absurd rfl h
theorem Arr.below {w w' : World} {B : Nat} {A : Option Addr} {xs : List Value} (h : Arr w B A xs) (hb : Below B w w') : Arr w' B A xs := fun hx => by
  obtain ⟨b, o, hA, hlt, hc⟩ := h hx; exact ⟨b, o, hA, hlt, fun j u hu => (hb.cell (p := ⟨b, o + j, none⟩) hlt).trans (hc j u hu)⟩
theorem Arr.more {w : World} {B B' : Nat} {A : Option Addr} {xs : List Value} (h : Arr w B A xs) (hB : B ≤ B') : Arr w B' A xs := fun hx => by
  obtain ⟨b, o, hA, hlt, hc⟩ := h hx; exact ⟨b, o, hA, by omega, hc⟩
/-- a draw turns no block: what is below the world with draws is below the world without -/
theorem Below.un1 {w w' : World} (h : Below w.drew.heap.size w.drew w') : Below w.heap.size w w' := ⟨h.os, h.tape, h.output, h.size, h.block⟩
theorem Below.un2 {w w' : World} {n : Nat} (h : Below (w.drewN n).heap.size (w.drewN n) w') : Below w.heap.size w w' := ⟨h.os, h.tape, h.output, h.size, h.block⟩
/-- the cell o of block b is there and can be written -/
def Wr (w : World) (b o : Nat) : Prop := (w.cell? ⟨b, o, none⟩).isSome = true ∧ w.frozen? ⟨b, o, none⟩ = false
theorem Wr.of {w : World} {b o : Nat} {v : Value} (h : w.cell? ⟨b, o, none⟩ = some v) (hf : w.frozen? ⟨b, o, none⟩ = false) : Wr w b o := ⟨by rw [h]; rfl, hf⟩
/-- what a cell holds of which it is known only that it can be written -/
def valAt (w : World) (b o : Nat) : Value := (w.cell? ⟨b, o, none⟩).getD undef
theorem cell_wr {w : World} {b o : Nat} (h : Wr w b o) : w.cell? ⟨b, o, none⟩ = some (valAt w b o) := by
  obtain ⟨u, hu⟩ := Option.isSome_iff_exists.1 h.1; simp [valAt, hu]
theorem frozen_wr {w : World} {b o : Nat} (h : Wr w b o) : w.frozen? ⟨b, o, none⟩ = false := h.2
theorem cell_set_wr {w : World} {b o : Nat} {v : Value} (h : Wr w b o) : (w.setCell ⟨b, o, none⟩ v).cell? ⟨b, o, none⟩ = some v := World.cell?_setCell_same' _ _ _ h.1
theorem wr_set (w : World) (p : Addr) (v : Value) (b o : Nat) : Wr (w.setCell p v) b o = Wr w b o := by
  unfold Wr
  rw [World.frozen?_setCell]
  by_cases hp : p = ⟨b, o, none⟩
  · subst hp
    cases hc : w.cell? ⟨b, o, none⟩ with
    | none =>
      have : (w.setCell ⟨b, o, none⟩ v).cell? ⟨b, o, none⟩ = none := by
        simp only [World.cell?, World.setCell, Array.getElem?_modify] at hc ⊢
        revert hc
        cases w.heap[b]? with
        | none => simp
        | some x => cases x <;> simp +contextual
      rw [this]
    | some u => rw [World.cell?_setCell_same' _ _ _ (by rw [hc]; rfl)]; rfl
  · rw [World.cell?_setCell_other w p ⟨b, o, none⟩ v hp]
theorem wr_drew (w : World) (b o : Nat) : Wr w.drew b o = Wr w b o := rfl
theorem wr_drewN (w : World) (n b o : Nat) : Wr (w.drewN n) b o = Wr w b o := rfl
theorem Wr.lt {w : World} {b o : Nat} (h : Wr w b o) : b < w.heap.size := by
  obtain ⟨h1, _⟩ := h; refine Nat.lt_of_not_le fun hge => ?_; simp [World.cell?, Array.getElem?_eq_none hge] at h1
theorem wr_new {w : World} {b o : Nat} {cs : Array Value} {t : TypeId} (hb : b = w.heap.size) (ho : o < cs.size) : Wr (w.alloc (.cells cs t)) b o := by
  subst hb; have hn : (w.alloc (.cells cs t)).heap[w.heap.size]? = some (.cells cs t) := by show (w.heap.push _)[w.heap.size]? = _; simp
  refine ⟨?_, ?_⟩
  · unfold World.cell?
    simp only [hn]; simp [ho]
  · unfold World.frozen?
    simp only [hn]
    simp
theorem wr_alloc {w : World} {b o : Nat} (x : Obj) (h : Wr w b o) : Wr (w.alloc x) b o := by
  obtain ⟨h1, h2⟩ := h; have hlt := Wr.lt ⟨h1, h2⟩; have hb := (Below.refl (b + 1) w).alloc (by omega) x; exact ⟨by rw [hb.cell (p := ⟨b, o, none⟩) (by simp)]; exact h1, (hb.frozen (p := ⟨b, o, none⟩) (by simp)).trans h2⟩
/-- what a walk uses of a call that left all before block B as it was -/
theorem bcell {W w1 : World} {B : Nat} (hb : Below B W w1) : (∀ b o, b < B → w1.cell? ⟨b, o, none⟩ = W.cell? ⟨b, o, none⟩) ∧ (∀ b o, b < B → w1.frozen? ⟨b, o, none⟩ = W.frozen? ⟨b, o, none⟩) ∧
    (∀ b, b < W.heap.size → b < w1.heap.size) ∧ (∀ b, b < W.heap.size → b ≤ w1.heap.size) ∧ (∀ b o, b < B → Wr w1 b o = Wr W b o) :=
  ⟨fun b o h => hb.cell (p := ⟨b, o, none⟩) h, fun b o h => hb.frozen (p := ⟨b, o, none⟩) h, fun _ h => Nat.lt_of_lt_of_le h hb.size, fun _ h => Nat.le_of_lt (Nat.lt_of_lt_of_le h hb.size),
    fun b o h => by unfold Wr; rw [hb.cell (p := ⟨b, o, none⟩) h, hb.frozen (p := ⟨b, o, none⟩) h]⟩
theorem bT {W w1 : World} {B : Nat} (hb : Below B W w1) : (∀ b o, b < B → w1.cell? ⟨b, o, none⟩ = W.cell? ⟨b, o, none⟩) ∧ (∀ b o, b < B → w1.frozen? ⟨b, o, none⟩ = W.frozen? ⟨b, o, none⟩) ∧
    (∀ b, b < W.heap.size → b < w1.heap.size) ∧ (∀ b, b < W.heap.size → b ≤ w1.heap.size) ∧ (∀ b o, b < B → Wr w1 b o = Wr W b o) ∧ W.heap.size ≤ w1.heap.size := by
  obtain ⟨h1, h2, h3, h4, h5⟩ := bcell hb; exact ⟨h1, h2, h3, h4, h5, hb.size⟩
theorem flat_length {α : Type} (f : α → List Value) (m : Nat) (hf : ∀ x, (f x).length = m) (l : List α) : (l.flatMap f).length = l.length * m := by
  induction l with
  | nil => simp
  | cons x l ih => simp [List.flatMap_cons, hf, ih, Nat.add_mul]; omega
theorem flat_at {α : Type} (f : α → List Value) (m : Nat) (hf : ∀ x, (f x).length = m) : ∀ (l : List α) (k i : Nat) (hk : k < l.length), i < m → (l.flatMap f)[k * m + i]? = (f l[k])[i]?
  | [], k, _, hk, _ => absurd hk (by simp)
  | x :: l, 0, i, _, hi => by
    simp only [List.flatMap_cons, Nat.zero_mul, Nat.zero_add, List.getElem_cons_zero]; rw [List.getElem?_append_left (by rw [hf]; exact hi)]
  | x :: l, k + 1, i, hk, hi => by
    simp only [List.flatMap_cons, List.getElem_cons_succ]; rw [List.getElem?_append_right (by rw [hf, Nat.add_mul]; omega)]; have e : (k + 1) * m + i - (f x).length = k * m + i := by rw [hf, Nat.add_mul]; omega
    rw [e]; exact flat_at f m hf l k i (by simpa using hk) hi
/-- the cells of one element of a list in memory -/
theorem Arr.elem {α : Type} {f : α → List Value} {m : Nat} (hf : ∀ x, (f x).length = m) (hm : 0 < m) {w : World} {B : Nat} {A : Option Addr} {l : List α} (h : Arr w B A (l.flatMap f)) {k : Nat} (hk : k < l.length) :
    ∃ b o, A = some ⟨b, o, none⟩ ∧ b < B ∧ ∀ i u, i < m → (f l[k])[i]? = some u → w.cell? ⟨b, o + k * m + i, none⟩ = some u := by
  have hne : l.flatMap f ≠ [] := fun e => by
    have := flat_length f m hf l; rw [e] at this; have h1 : 0 < l.length * m := Nat.mul_pos (by omega) hm; simp at this; omega
  obtain ⟨b, o, hA, hlt, hc⟩ := h hne; exact ⟨b, o, hA, hlt, fun i u hi hu => by rw [Nat.add_assoc]; exact hc _ _ ((flat_at f m hf l k i hk hi).trans hu)⟩
theorem below_drewN {B : Nat} {a w : World} (h : Below B a w) (n : Nat) : Below B a (w.drewN n) := ⟨h.os, h.tape, h.output, h.size, h.block⟩
def ints (l : List Int) : List Value := l.map (Value.int .i64)
theorem ints_length (l : List Int) : (ints l).length = l.length := by simp [ints]
theorem Arr.int {w : World} {B : Nat} {A : Option Addr} {l : List Int} (h : Arr w B A (ints l)) {k : Nat} (hk : k < l.length) :
    ∃ b o, A = some ⟨b, o, none⟩ ∧ b < B ∧ w.cell? ⟨b, o + k, none⟩ = some (.int .i64 l[k]) := by
  obtain ⟨b, o, hA, hlt, hc⟩ := h (fun e => by have := ints_length l; rw [e] at this; simp at this; omega); exact ⟨b, o, hA, hlt, hc k _ (by simp [ints, hk])⟩
/-- what is known of a row of the call's own: its value is a slice of so many, and it holds the cells -/
theorem own_form {w : World} {base : Nat} {e : TypeId} {size : Nat} {v : Value} {n : Nat} {xs : List Value} (h : w.ownsRow base e size v n xs) :
    ∃ A cap, v = .slice A n cap ∧ n ≤ cap ∧ cap ≤ maxLen ∧ Arr w w.heap.size A xs := by
  obtain ⟨hl, h | ⟨g, cap, cur, hv, _, hh, hn, hm, hc, ht⟩⟩ := h
  · obtain ⟨rfl, rfl⟩ := h
    refine ⟨none, 0, rfl, Nat.le_refl _, by simp [maxLen], fun hx => absurd (List.eq_nil_of_length_eq_zero (by simpa using hl)) hx⟩
  · refine ⟨some ⟨g, 0, none⟩, cap, hv, hn, hm, fun _ => ⟨g, 0, rfl, (Array.getElem?_eq_some_iff.1 hh).1, fun j u hu => ?_⟩⟩
    simp only [World.cell?, hh]; rw [← ht] at hu
    have hj : j < n * size := by
      have := (List.getElem?_eq_some_iff.1 hu).1; simp only [List.length_take] at this; omega
    rw [List.getElem?_take_of_lt hj] at hu
    simpa using hu
/-- the row as nothing has been added to it -/
theorem own_nil (w : World) (base : Nat) (e : TypeId) (size : Nat) : w.ownsRow base e size (.slice none 0 0) 0 [] := ⟨by simp, .inl ⟨rfl, rfl⟩⟩
theorem ownBlock_le {w : World} {base : Nat} {e : TypeId} {size : Nat} {v : Value} {n : Nat} {xs : List Value} (h : w.ownsRow base e size v n xs) : ∀ k, v.ownBlock = some k → base ≤ k := fun k hk => by
  obtain ⟨_, h | ⟨g, cap, cur, hv, hg, _⟩⟩ := h
  · rw [h.1] at hk; simp [Value.ownBlock] at hk
  · rw [hv] at hk; simp [Value.ownBlock] at hk; omega
theorem arr_new (w : World) (cs : Array Value) (ty : TypeId) : Arr (w.alloc (.cells cs ty)) (w.heap.size + 1) (some ⟨w.heap.size, 0, none⟩) cs.toList := fun _ => ⟨w.heap.size, 0, rfl, by omega, fun j u hu => by
  have hn : (w.alloc (.cells cs ty)).heap[w.heap.size]? = some (.cells cs ty) := by show (w.heap.push _)[w.heap.size]? = _; simp
  simp only [World.cell?, hn]
  simpa using hu⟩
/-! what a statement whose order is open leaves of the world in which it began: all blocks before N but one -/
section
variable {N rb : Nat} {W w' w'' : World}
theorem wr_below {B b o : Nat} (h : Wr w' b o) (hb : Below B w' w'') (hB : b < B) : Wr w'' b o := by
  unfold Wr at h ⊢
  rw [hb.cell (p := ⟨b, o, none⟩) hB, hb.frozen (p := ⟨b, o, none⟩) hB]; exact h
end
theorem own_mono {w : World} {base base' : Nat} {e : TypeId} {size : Nat} {v : Value} {n : Nat} {xs : List Value} (h : w.ownsRow base e size v n xs) (hb : base' ≤ base) : w.ownsRow base' e size v n xs := by
  obtain ⟨hl, h | ⟨g, cap, cur, hv, hg, r⟩⟩ := h
  · exact ⟨hl, .inl h⟩
  · exact ⟨hl, .inr ⟨g, cap, cur, hv, by omega, r⟩⟩
theorem own_lt {w : World} {base : Nat} {e : TypeId} {size : Nat} {v : Value} {n : Nat} {xs : List Value} (h : w.ownsRow base e size v n xs) : ∀ k, v.ownBlock = some k → k < w.heap.size := fun k hk => by
  obtain ⟨_, h | ⟨g, cap, cur, hv, _, hh, _⟩⟩ := h
  · rw [h.1] at hk; simp [Value.ownBlock] at hk
  · rw [hv] at hk; simp [Value.ownBlock] at hk; subst hk; exact (Array.getElem?_eq_some_iff.1 hh).1
section
variable {P : Program} {w : World}
theorem run_app_nil (base : Nat) (t ty e : TypeId) (size : Nat) (ht : P.underlying t = some (.slice e)) (i : TypeInfo) (hi : P.info? e = some i)
    (v : Value) (n : Nat) (xs : List Value) (hown : w.ownsRow base e size v n xs) (c : Nat) : (Builtin.append_ #[t, t] ty #[v, .slice none 0 c]).run P w = .ok v w := by
  rcases hown.2 with ⟨rfl, rfl⟩ | ⟨g, cap, cur, rfl, _, _, hnc, _⟩
  · simp [Builtin.append_, run_underlying ht, sizeOf, typeInfo, hi, Builtin.lenOf, Builtin.firstCells]
  · simp [Builtin.append_, run_underlying ht, sizeOf, typeInfo, hi, Builtin.lenOf, Builtin.firstCells, hnc, storeCells]
/-- append of whatever list onto a row of the call's own -/
theorem run_appN (base : Nat) (t ty e : TypeId) (z : Value) (size bytes : Nat) (ht : P.underlying t = some (.slice e)) (hi : (P.info? e).map (fun i => (i.zero, i.size, i.bytes)) = some (some z, size, bytes))
    (hzs : z.cells.size = size) (hsz : 0 < size) (v : Value) (n : Nat) (xs : List Value) (hown : w.ownsRow base e size v n xs)
    (B : Nat) (A : Option Addr) (m c : Nat) (news : List Value) (hA : Arr w B A news) (hl : news.length = m * size) (h1 : ∀ u ∈ news, u.oneCell' = true)
    (h63 : n + m ≤ maxLen) (hbytes : (n + m) * bytes ≤ 140737488355328) (hbase : base ≤ w.heap.size) :
    ∃ A' cap' w', (Builtin.append_ #[t, t] ty #[v, .slice A m c]).run P w = .ok (.slice A' (n + m) cap') w' ∧ n + m ≤ cap' ∧ cap' ≤ maxLen ∧ w'.ownsRow base e size (.slice A' (n + m) cap') (n + m) (xs ++ news) ∧ w.grownBy w' v.ownBlock ∧
      ∀ k, (Value.slice A' (n + m) cap').ownBlock = some k → v.ownBlock = some k ∨ w.heap.size ≤ k := by
  obtain ⟨i0, hi0, hz0, hz1, hz2⟩ := info_parts hi
  have fin : ∀ v' w', (Builtin.append_ #[t, t] ty #[v, .slice A m c]).run P w = .ok v' w' → w'.ownsRow base e size v' (n + m) (xs ++ news) → w.grownBy w' v.ownBlock → (v'.ownBlock = v.ownBlock ∨ v'.ownBlock = some w.heap.size) →
      ∃ A' cap' w', (Builtin.append_ #[t, t] ty #[v, .slice A m c]).run P w = .ok (.slice A' (n + m) cap') w' ∧ n + m ≤ cap' ∧ cap' ≤ maxLen ∧ w'.ownsRow base e size (.slice A' (n + m) cap') (n + m) (xs ++ news) ∧ w.grownBy w' v.ownBlock ∧
        ∀ k, (Value.slice A' (n + m) cap').ownBlock = some k → v.ownBlock = some k ∨ w.heap.size ≤ k := fun v' w' hr ho hg hb => by
    obtain ⟨A', cap', rfl, hc1, hc2, _⟩ := own_form ho; refine ⟨A', cap', w', hr, hc1, hc2, ho, hg, fun k hk => ?_⟩
    rcases hb with hb | hb
    · exact .inl (hb ▸ hk)
    · rw [hb] at hk; injection hk with hk; exact .inr (by omega)
  have some_ : ∀ ad : Addr, A = some ad → (∀ j u, news[j]? = some u → w.cell? (ad.add j) = some u) → ∃ v' w', (Builtin.append_ #[t, t] ty #[v, .slice A m c]).run P w = .ok v' w' ∧ w'.ownsRow base e size v' (n + m) (xs ++ news) ∧ w.grownBy w' v.ownBlock ∧ (v'.ownBlock = v.ownBlock ∨ v'.ownBlock = some w.heap.size) := fun ad hA' hc => by
    obtain ⟨v', w', hr, ho, hg, _, hb⟩ := run_append_own_at (P := P) w base t ty e i0 z size bytes ht hi0 hz0 hz1 hz2 hzs hsz v n xs hown ad m c news hl hc h1 h63 hbytes hbase; exact ⟨v', w', by rw [hA']; exact hr, ho, hg, hb⟩
  cases A with
  | none =>
    have hn : news = [] := by
      refine Classical.byContradiction fun hn => ?_; obtain ⟨_, _, h, _⟩ := hA hn
      cases h
    subst hn
    have hm : m = 0 := by
      rcases Nat.eq_zero_or_pos m with h | h
      · exact h
      · have := Nat.mul_pos h hsz
        simp at hl; omega
    subst hm; exact fin v w (run_app_nil base t ty e size ht i0 hi0 v n xs hown c) (by simpa using hown) (World.grownBy.refl w _) (.inl rfl)
  | some ad =>
    by_cases hn : news = []
    · subst hn
      obtain ⟨v', w', hr, ho, hg, hb⟩ := some_ ad rfl (fun j u hu => by simp at hu); exact fin v' w' hr ho hg hb
    · obtain ⟨b, o, hA', _, hc⟩ := hA hn
      injection hA' with hA'
      subst hA'
      obtain ⟨v', w', hr, ho, hg, hb⟩ := some_ _ rfl fun j u hu => by
        have hadd : Addr.add ⟨b, o, none⟩ j = ⟨b, o + j, none⟩ := by unfold Addr.add; split <;> simp_all
        rw [hadd]; exact hc j u hu
      exact fin v' w' hr ho hg hb
theorem wp_appN {o : Oper} {a : Act} {K : Act → World → Prop} {Q : Exit → Act → World → Prop} (s x : Operand) (t : TypeId)
    (ho : o.op = .call { callee := .builtin .append, args := #[s, x], argTypes := #[t, t] })
    (base : Nat) (e : TypeId) (z : Value) (size bytes : Nat) (ht : P.underlying t = some (.slice e)) (hi : (P.info? e).map (fun i => (i.zero, i.size, i.bytes)) = some (some z, size, bytes))
    (hzs : z.cells.size = size) (hsz : 0 < size) (v : Value) (n : Nat) (xs : List Value) (hs : a.eval s = v) (hown : w.ownsRow base e size v n xs)
    (B : Nat) (A : Option Addr) (m c : Nat) (news : List Value) (hx : a.eval x = .slice A m c) (hA : Arr w B A news) (hl : news.length = m * size) (h1 : ∀ u ∈ news, u.oneCell' = true)
    (h63 : n + m ≤ maxLen) (hbytes : (n + m) * bytes ≤ 140737488355328) (hbase : base ≤ w.heap.size)
    (h : ∀ A' cap' w', n + m ≤ cap' → cap' ≤ maxLen → w'.ownsRow base e size (.slice A' (n + m) cap') (n + m) (xs ++ news) → w.grownBy w' v.ownBlock → (∀ k, (Value.slice A' (n + m) cap').ownBlock = some k → v.ownBlock = some k ∨ w.heap.size ≤ k) → K (a.put o.dst (.slice A' (n + m) cap')) w') : o.wp P a w K Q := by
  obtain ⟨A', cap', w', hr, hc1, hc2, ho', hg, hb⟩ := run_appN (P := P) (w := w) base t o.type e z size bytes ht hi hzs hsz v n xs hown B A m c news hA hl h1 h63 hbytes hbase
  unfold Oper.wp execOp
  simp only [ho, resolve, invoke, builtin, Sem.run_bind, Sem.run_pure, Result.andThen_ok, List.map_toArray, List.map_cons, List.map_nil, hs, hx, hr]; exact h A' cap' w' hc1 hc2 ho' hg hb
end
theorem own_below {w w' : World} {base : Nat} {e : TypeId} {size : Nat} {v : Value} {n : Nat} {xs : List Value} (h : w.ownsRow base e size v n xs) (hb : Below w.heap.size w w') : w'.ownsRow base e size v n xs := by
  refine h.kept (row := none) ⟨hb.os, hb.tape, hb.output, hb.size, fun k hk _ => hb.block k hk⟩ ?_
  cases hv : v.ownBlock with
  | none => exact .inl rfl
  | some g => exact .inr (by simp)
/-- so many lists in memory, each a row of the call's own -/
def Rows2 {α : Type} (f : α → List Value) (w : World) (base : Nat) (e : TypeId) (size : Nat) (vs : List Value) (ll : List (List α)) : Prop :=
  vs.length = ll.length ∧ ∀ (i : Nat) (v : Value) (l : List α), vs[i]? = some v → ll[i]? = some l → w.ownsRow base e size v l.length (l.flatMap f)
theorem Rows2.nil {α : Type} (f : α → List Value) (w : World) (base : Nat) (e : TypeId) (size : Nat) : Rows2 f w base e size [] ([] : List (List α)) := ⟨rfl, fun i v l h => by simp at h⟩
theorem Rows2.map {α : Type} {f : α → List Value} {w w' : World} {base : Nat} {e : TypeId} {size : Nat} {vs : List Value} {ll : List (List α)} (h : Rows2 f w base e size vs ll)
    (hk : ∀ v n xs, w.ownsRow base e size v n xs → w'.ownsRow base e size v n xs) : Rows2 f w' base e size vs ll := ⟨h.1, fun i v l hv hl => hk _ _ _ (h.2 i v l hv hl)⟩
theorem Rows2.snoc {α : Type} {f : α → List Value} {w : World} {base : Nat} {e : TypeId} {size : Nat} {vs : List Value} {ll : List (List α)} (h : Rows2 f w base e size vs ll) {v : Value} {l : List α}
    (hv : w.ownsRow base e size v l.length (l.flatMap f)) : Rows2 f w base e size (vs ++ [v]) (ll ++ [l]) := by
  refine ⟨by simp [h.1], fun i u k hu hk => ?_⟩
  rcases Nat.lt_or_ge i vs.length with hi | hi
  · rw [List.getElem?_append_left hi] at hu
    rw [List.getElem?_append_left (by rw [← h.1]; exact hi)] at hk; exact h.2 i u k hu hk
  · rw [List.getElem?_append_right hi] at hu
    rw [List.getElem?_append_right (by rw [← h.1]; exact hi), ← h.1] at hk
    rcases hj : i - vs.length with _ | j
    · rw [hj] at hu hk; simp at hu hk; subst hu; subst hk; exact hv
    · rw [hj] at hu; simp at hu
/-- a list of lists in memory -/
def Arr2 {α : Type} (f : α → List Value) (w : World) (B : Nat) (A : Option Addr) (ll : List (List α)) : Prop :=
  ∃ vs : List Value, vs.length = ll.length ∧ Arr w B A vs ∧ ∀ (i : Nat) (v : Value) (l : List α), vs[i]? = some v → ll[i]? = some l → ∃ A' c, v = .slice A' l.length c ∧ Arr w B A' (l.flatMap f)
theorem Arr2.below {α : Type} {f : α → List Value} {w w' : World} {B : Nat} {A : Option Addr} {ll : List (List α)} (h : Arr2 f w B A ll) (hb : Below B w w') : Arr2 f w' B A ll := by
  obtain ⟨vs, h1, h2, h3⟩ := h; exact ⟨vs, h1, h2.below hb, fun i v l hv hl => let ⟨A', c, e, k⟩ := h3 i v l hv hl; ⟨A', c, e, k.below hb⟩⟩
theorem Arr2.more {α : Type} {f : α → List Value} {w : World} {B B' : Nat} {A : Option Addr} {ll : List (List α)} (h : Arr2 f w B A ll) (hB : B ≤ B') : Arr2 f w B' A ll := by
  obtain ⟨vs, h1, h2, h3⟩ := h; exact ⟨vs, h1, h2.more hB, fun i v l hv hl => let ⟨A', c, e, k⟩ := h3 i v l hv hl; ⟨A', c, e, k.more hB⟩⟩
/-- one of the lists -/
theorem Arr2.at_ {α : Type} {f : α → List Value} {w : World} {B : Nat} {A : Option Addr} {ll : List (List α)} (h : Arr2 f w B A ll) {k : Nat} (hk : k < ll.length) :
    ∃ b o A' c, A = some ⟨b, o, none⟩ ∧ b < B ∧ w.cell? ⟨b, o + k, none⟩ = some (.slice A' (ll[k]).length c) ∧ Arr w B A' ((ll[k]).flatMap f) := by
  obtain ⟨vs, h1, h2, h3⟩ := h; have hkv : k < vs.length := by omega
  obtain ⟨b, o, rfl, hb, hc⟩ := h2 (fun e => by rw [e] at hkv; simp at hkv); obtain ⟨A', c, hv, ha⟩ := h3 k vs[k] ll[k] (List.getElem?_eq_getElem hkv) (List.getElem?_eq_getElem hk); exact ⟨b, o, A', c, rfl, hb, by rw [hc k vs[k] (List.getElem?_eq_getElem hkv), hv], ha⟩
theorem hid {p : Prop} (h : p) : Hid p := h
theorem ret_bool {a b : Bool} (h : a = b) : Ending.returned (.bool a) = .returned (.bool b) := by rw [h]
end Go.Proofs.YtkhmcofmjjmjhaaDoor
