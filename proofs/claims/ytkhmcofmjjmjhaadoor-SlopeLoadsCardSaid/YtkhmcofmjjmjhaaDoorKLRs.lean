/- Ranges over functions: what any seat's consumers and iterators want. -/
import Derived.Test.YtkhmcofmjjmjhaaDoorKLBg
import Derived.ArgAppend
namespace Go.Proofs.YtkhmcofmjjmjhaaDoor
set_option linter.unusedSimpArgs false
set_option linter.unusedVariables false
open Go Go.RowKit
attribute [local go_sem high] cell_set_wr
attribute [local go_sem low] cell_wr frozen_wr
attribute [local go_sem] wr_set wr_drew wr_drewN wr_alloc wr_new Rho.c Rho.n Rho.g
theorem run_store_func {P : Program} {w : World} {a : Addr} {m : Mode} (f : Fn) (ts cs : Array Value) : (store a (.func f ts cs) m).run P w = stored P w a (.func f ts cs) m := run_store P w a _ m rfl
/-- what has been answered by an iterator's call -/
def OutR {α : Type} (J : List α → (Nat → Prop) → World → Prop) (Jx : List α → World → Prop) (XS : List α) (l : Nat) (pre add : List α) (M : Nat → Prop) (V : World) (x : Bool) (V' : World) : Prop :=
 (x = true ∧ ∃ M', J (pre ++ add) M' V' ∧ Grow M M' V ∧ KeepM M l V V') ∨ (x = false ∧ ∃ pre' y, pre' ++ [y] <+: XS ∧ Jx (pre' ++ [y]) V')
section
variable {P : Program} {o : Oper} {a : Act} {K : Act → World → Prop} {Q : Exit → Act → World → Prop} {w : World}
theorem wp_appFull (s x : Operand) (t : TypeId) (ho : o.op = .call { callee := .builtin .append, args := #[s, x], argTypes := #[t, t] })
    (e : TypeId) (z : Value) (size bytes : Nat) (ht : P.underlying t = some (.slice e)) (hi : (P.info? e).map (fun i => (i.zero, i.size, i.bytes)) = some (some z, size, bytes)) (hzs : z.cells.size = size) (hsz : 0 < size)
    (A : Option Addr) (n : Nat) (olds : List Value) (hs : a.eval s = .slice A n n) (hA : Arr w w.heap.size A olds) (hlo : olds.length = n * size)
    (X : Addr) (m c : Nat) (news : List Value) (hx : a.eval x = .slice (some X) m c) (hX : ∀ j u, news[j]? = some u → w.cell? (X.add j) = some u) (hm : 0 < m) (hl : news.length = m * size) (h1 : ∀ u ∈ news, u.oneCell' = true)
    (h63 : n + m ≤ maxLen) (hbytes : (n + m) * bytes ≤ 140737488355328)
    (h : ∀ g cap w', w.heap.size ≤ g → g < w'.heap.size → (∀ j u, (olds ++ news)[j]? = some u → w'.cell? ⟨g, j, none⟩ = some u) → n + m ≤ cap → Below w.heap.size w w' → (∃ cur, w'.heap[g]? = some (.cells cur e (0, 0))) → K (a.put o.dst (.slice (some ⟨g, 0, none⟩) (n + m) cap)) w') : o.wp P a w K Q := by
 obtain ⟨i0, hi0, hz0, hz1, hz2⟩ := info_parts hi
 have fin : ∀ v' w', (Builtin.append_ #[t, t] o.type #[.slice A n n, .slice (some X) m c]).run P w = .ok v' w' → w'.ownsRow w.heap.size e size v' (n + m) (olds ++ news) → w.grownBy w' none → o.wp P a w K Q := fun v' w' hr h2 h3 => by
  obtain ⟨g, cap, rfl, k1, k2, k3, _, k4, k5⟩ := own_new h2 (by omega)
  unfold Oper.wp execOp
  simp only [ho, resolve, invoke, builtin, Sem.run_bind, Sem.run_pure, Result.andThen_ok, List.map_toArray, List.map_cons, List.map_nil, hs, hx, hr]; exact h g cap w' k1 k2 k4 k3 ((Below.refl _ _).grown h3 (Nat.le_refl _) (fun k e => by cases e)) k5
 cases A with
 | none =>
  have hn : olds = [] := by
   refine Classical.byContradiction fun hn => ?_; obtain ⟨_, _, h, _⟩ := hA hn
   cases h
  subst hn
  have hn0 : n = 0 := by
   rcases Nat.eq_zero_or_pos n with h | h
   ·exact h
   ·have := Nat.mul_pos h hsz; simp at hlo; omega
  subst hn0; obtain ⟨v', w', hrun, r1, r2, _⟩ := run_append_own (P := P) w w.heap.size t o.type e i0 z size bytes ht hi0 hz0 hz1 hz2 hzs hsz (.slice none 0 0) 0 [] (World.ownsRow_nil w _ e size) X m c news hl hX h1 h63 hbytes (Nat.le_refl _); exact fin v' w' hrun r1 r2
 | some ad =>
  obtain ⟨v', w', hrun, r1, r2⟩ := run_append_arg_grows (P := P) w t o.type e i0 z size bytes ht hi0 hz0 hz1 hz2 hzs hsz ad n n olds hlo (fun j u hu => by
   by_cases hn : olds = []
   ·subst hn; simp at hu
   ·obtain ⟨b, o', e', _, hc⟩ := hA hn
    cases e'
    have hadd : Addr.add ⟨b, o', none⟩ j = ⟨b, o' + j, none⟩ := by unfold Addr.add; split <;> simp_all
    rw [hadd]; exact hc j u hu) X m c news hl hX (by omega) h63 hbytes
  exact fin v' w' hrun r1 r2
end
theorem OutR.false {α : Type} {J : List α → (Nat → Prop) → World → Prop} {Jx : List α → World → Prop} {XS : List α} {l : Nat} {pre add pre2 add2 : List α} {M M2 : Nat → Prop} {V V2 V' : World} {x : Bool} (h : OutR J Jx XS l pre add M V x V') (hx : x = false) : OutR J Jx XS l pre2 add2 M2 V2 false V' := by
 rcases h with ⟨rfl, _⟩ | ⟨_, h⟩
 ·cases hx
 ·exact .inr ⟨rfl, h⟩
theorem OutR.true {α : Type} {J : List α → (Nat → Prop) → World → Prop} {Jx : List α → World → Prop} {XS : List α} {l : Nat} {pre add : List α} {M : Nat → Prop} {V V' : World} {x : Bool} (h : OutR J Jx XS l pre add M V x V') (hx : x = true) : ∃ M', J (pre ++ add) M' V' ∧ Grow M M' V ∧ KeepM M l V V' := by
 rcases h with ⟨_, h⟩ | ⟨rfl, _⟩
 ·exact h
 ·cases hx
section
variable {P : Program} {Q : Exit → Act → World → Prop} {a : Act} {w : World} {m : Nat}
theorem fits_round {D : List Deferred} {n : Nat} {e : Env} (h : FitsD D n e a) (p : Nat) (v : Value) (hp : p < n) : Fits n ((p, v) :: e) { tmps := ((#[p] : Array Nat).zip #[v]).foldl (fun t (p, v) => t.setIfInBounds p v) a.tmps, defers := [] } := by
 have h1 := h.put v hp; refine ⟨rfl, ?_, fun t u hu => ?_⟩
 ·simpa [Act.put] using h1.2.1
 ·simpa [Act.put] using h1.2.2 t u hu
theorem ret_M {ds : List Nat} {n : Nat} {e : Env} {fn : Func} {R : Ending → World → Prop} {F : Fence} {v : Value} (hE : FitsD (rmarks ds) n e a) (hn : ds.Nodup) (hd : ∀ d ∈ ds, w.heap[d]? = some (.deferred (some []))) (hr : ∀ W, (∀ k, k ∉ ds → W.heap[k]? = w.heap[k]?) → (results fn a.tmps).run P W = .ok v W) (h : R (.returned v) (taken ds w)) : bodyPostM F m P fn R .ret a w := by
 show LeavesInM F m P fn a.tmps R a.defers .returning w
 rw [hE.1]; exact leaves_marks ds w hn hd ⟨_, hr _ (fun k hk => taken_block ds w k hk), h⟩
end
theorem Stay.cells {n R : Nat} {A C : World} {l : List Value} (h : Cells A R l) (hb : Below n A C) (hR : R < n) : Cells C R l := ⟨Nat.lt_of_lt_of_le h.1 hb.size, fun j u hu => (hb.cell (p := ⟨R, j, none⟩) hR).trans (h.2 j u hu)⟩
end Go.Proofs.YtkhmcofmjjmjhaaDoor
