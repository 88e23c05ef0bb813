/- A statement that draws its order and makes several blocks: the blocks are told apart. -/
import Derived.Test.YtkhmcofmjjmjhaaDoorKLYm

namespace Go.Proofs.YtkhmcofmjjmjhaaDoor
set_option linter.unusedSimpArgs false
set_option linter.unusedVariables false
open Go
/-- the block that a pointer or a slice names -/
def blkV : Value → Nat
 | .pointer (some p) => p.block
 | .slice (some p) _ _ => p.block
 | _ => 0
/-- the blocks of the operations N (with their slots) that have been taken are old, and apart -/
def ApartE (N : List (Nat × Nat)) (L : Array Bool) (a : Act) (w : World) : Prop :=
 (∀ p ∈ N, L.getD p.1 false = true → ∃ v, a.tmps[p.2]? = some v ∧ blkV v < w.heap.size) ∧
 ∀ p ∈ N, ∀ q ∈ N, p.1 ≠ q.1 → L.getD p.1 false = true → L.getD q.1 false = true → ∀ u v, a.tmps[p.2]? = some u → a.tmps[q.2]? = some v → blkV u ≠ blkV v
theorem ApartE.start {N : List (Nat × Nat)} {m : Nat} {a : Act} {w : World} : ApartE N (Array.replicate m false) a w := by
 have h : ∀ i, (Array.replicate m false).getD i false = false := fun i => by
  rw [Array.getD_eq_getD_getElem?]
  by_cases hi : i < m <;> simp [hi]
 exact ⟨fun p _ hp => (by rw [h] at hp; cases hp), fun p _ q _ _ hp => (by rw [h] at hp; cases hp)⟩
theorem put_ne {a : Act} {d : Option Nat} {v : Value} {t : Nat} (h : ∀ e, d = some e → t ≠ e) : (a.put d v).tmps[t]? = a.tmps[t]? := by
 cases d with
 | none => rfl
 | some e => simp only [Act.put]; exact Array.getElem?_setIfInBounds_ne (Ne.symm (h e rfl))
theorem ApartE.old {N : List (Nat × Nat)} {L : Array Bool} {a : Act} {w w' : World} {i : Nat} {d : Option Nat} {v : Value} (h : ApartE N L a w) (hi : ∀ p ∈ N, p.1 ≠ i) (hd : ∀ p ∈ N, ∀ e, d = some e → p.2 ≠ e) (hs : w.heap.size ≤ w'.heap.size) : ApartE N (L.setIfInBounds i true) (a.put d v) w' := by
 refine ⟨fun p hp hL => ?_, fun p hp q hq hne hL hL' x y hx hy => ?_⟩
 ·rw [getD_set_ne false (Ne.symm (hi p hp))] at hL; obtain ⟨u, hu, hb⟩ := h.1 p hp hL; exact ⟨u, by rw [put_ne (hd p hp)]; exact hu, Nat.lt_of_lt_of_le hb hs⟩
 ·rw [getD_set_ne false (Ne.symm (hi p hp))] at hL; rw [getD_set_ne false (Ne.symm (hi q hq))] at hL'; rw [put_ne (hd p hp)] at hx; rw [put_ne (hd q hq)] at hy; exact h.2 p hp q hq hne hL hL' x y hx hy
theorem ApartE.new {N : List (Nat × Nat)} {L : Array Bool} {a : Act} {w w' : World} {i d : Nat} {v : Value} (h : ApartE N L a w) (hi : ∀ p ∈ N, p.1 = i → p.2 = d) (hd : ∀ p ∈ N, p.1 ≠ i → p.2 ≠ d) (hsz : d < a.tmps.size) (hb : w.heap.size ≤ blkV v) (hb' : blkV v < w'.heap.size) : ApartE N (L.setIfInBounds i true) (a.put (some d) v) w' := by
 have hv : (a.put (some d) v).tmps[d]? = some v := by simp [Act.put, hsz]
 have hsize : w.heap.size ≤ w'.heap.size := by omega
 refine ⟨fun p hp hL => ?_, fun p hp q hq hne hL hL' x y hx hy => ?_⟩
 ·by_cases e : p.1 = i
  ·rw [hi p hp e]; exact ⟨v, hv, hb'⟩
  ·rw [getD_set_ne false (Ne.symm e)] at hL; obtain ⟨u, hu, hbu⟩ := h.1 p hp hL; exact ⟨u, by rw [put_ne (fun _ e' => by cases e'; exact hd p hp e)]; exact hu, by omega⟩
 ·by_cases e : p.1 = i
  ·have e' : q.1 ≠ i := fun x => hne (e.trans x.symm); rw [getD_set_ne false (Ne.symm e')] at hL'; rw [hi p hp e, hv] at hx; rw [put_ne (fun _ e'' => by cases e''; exact hd q hq e')] at hy; obtain ⟨u, hu, hbu⟩ := h.1 q hq hL'; rw [hu] at hy
   cases hx; cases hy
   omega
  ·rw [getD_set_ne false (Ne.symm e)] at hL; rw [put_ne (fun _ e'' => by cases e''; exact hd p hp e)] at hx; obtain ⟨u, hu, hbu⟩ := h.1 p hp hL; rw [hu] at hx
   by_cases e' : q.1 = i
   ·rw [hi q hq e', hv] at hy
    cases hx; cases hy
    omega
   ·rw [getD_set_ne false (Ne.symm e')] at hL'; rw [put_ne (fun _ e'' => by cases e''; exact hd q hq e')] at hy; exact h.2 p hp q hq hne hL hL' x y (by rw [hu]; exact hx) hy
section
variable {P : Program} {md : Region.Mode} {ops : Array Oper} {Q : Exit → Act → World → Prop}
variable (P md ops Q) in
/-- a step that makes a block -/
def StepNew (T : World → Prop) (R : World → World → Prop) (n : Nat) (us : List Nat) (a0 : Act) (acc : List (Nat × Option Nat × (Value → World → Prop))) (i : Nat) (F : Value → World → Prop) : Prop :=
 ∀ o, ops[i]? = some o → ∀ a w, SameBut n us a0 a → T w → (∀ k d G, (k, d, G) ∈ acc → depB md o k = true → Told k ops G a w) → ∀ K : Act → World → Prop, Hush (∀ a' v w', a' = a.put o.dst v → F v w' → T w' → R w w' → w.heap.size ≤ blkV v → blkV v < w'.heap.size → K a' w') →
  o.guard = none ∧ Oper.wp P o a w K Q
theorem StepNew.plain {T : World → Prop} {R : World → World → Prop} {n : Nat} {us : List Nat} {a0 : Act} {acc : List (Nat × Option Nat × (Value → World → Prop))} {i : Nat} {F : Value → World → Prop} {o : Oper} (ho : ops[i]? = some o) (hg : o.guard = none)
    (h : ∀ a w, SameBut n us a0 a → T w → (∀ k d G, (k, d, G) ∈ acc → depB md o k = true → Told k ops G a w) → ∀ K : Act → World → Prop, Hush (∀ a' v w', a' = a.put o.dst v → F v w' → T w' → R w w' → w.heap.size ≤ blkV v → blkV v < w'.heap.size → K a' w') → Oper.wp P o a w K Q) : StepNew P md ops Q T R n us a0 acc i F := fun o' ho' a w h1 h2 h3 K hK => by
 rw [ho] at ho'; cases ho'; exact ⟨hg, h a w h1 h2 h3 K hK⟩
abbrev MemL := List (Nat × Nat × (Value → World → Prop))
variable (P md ops Q) in
def SeqN (N : List (Nat × Nat)) (M : MemL) (T : World → Prop) (R : World → World → Prop) (n : Nat) (us : List Nat) (a0 : Act) (fin : List (Nat × Option Nat × (Value → World → Prop)) → Prop) : List (Nat × Option Nat) → List (Nat × Option Nat × (Value → World → Prop)) → Prop
 | [], acc => fin acc
 | (i, d) :: rs, acc => ∃ F, (∀ v w w', R w w' → F v w → F v w') ∧ ((StepOk P md ops Q T R n us a0 acc i F ∧ (N.all fun p => p.1 != i) = true ∧ (M.all fun p => p.1 != i) = true) ∨ (StepNew P md ops Q T R n us a0 acc i F ∧ (M.all fun p => p.1 != i) = true) ∨ (d = none ∧ ∃ d0 G, (i, d0, G) ∈ M ∧ (∀ v w, F v w) ∧ StepMem P md ops Q T R n us a0 acc i d0 G)) ∧ SeqN N M T R n us a0 fin rs ((i, d, F) :: acc)
variable {N : List (Nat × Nat)} {M : MemL} {T : World → Prop} {R : World → World → Prop} {n : Nat} {us : List Nat} {a0 : Act} {fin : List (Nat × Option Nat × (Value → World → Prop)) → Prop} {acc : List (Nat × Option Nat × (Value → World → Prop))} {rs : List (Nat × Option Nat)} {i : Nat} {d : Option Nat}
theorem SeqN.nil (h : fin acc) : SeqN P md ops Q N M T R n us a0 fin [] acc := h
theorem SeqN.say (F : Value → World → Prop) (hF : ∀ v w w', R w w' → F v w → F v w') (h : StepOk P md ops Q T R n us a0 acc i F) (hs : SeqN P md ops Q N M T R n us a0 fin rs ((i, d, F) :: acc)) (hn : (N.all fun p => p.1 != i) = true := by decide) (hm : (M.all fun p => p.1 != i) = true := by kernel_rfl) : SeqN P md ops Q N M T R n us a0 fin ((i, d) :: rs) acc := ⟨F, hF, .inl ⟨h, hn, hm⟩, hs⟩
theorem SeqN.val (x : Value) (h : StepOk P md ops Q T R n us a0 acc i (fun v _ => v = x)) (hs : SeqN P md ops Q N M T R n us a0 fin rs ((i, d, fun v _ => v = x) :: acc)) (hn : (N.all fun p => p.1 != i) = true := by decide) (hm : (M.all fun p => p.1 != i) = true := by kernel_rfl) : SeqN P md ops Q N M T R n us a0 fin ((i, d) :: rs) acc := ⟨_, fun _ _ _ _ h => h, .inl ⟨h, hn, hm⟩, hs⟩
theorem SeqN.new (F : Value → World → Prop) (hF : ∀ v w w', R w w' → F v w → F v w') (h : StepNew P md ops Q T R n us a0 acc i F) (hs : SeqN P md ops Q N M T R n us a0 fin rs ((i, d, F) :: acc)) (hm : (M.all fun p => p.1 != i) = true := by kernel_rfl) : SeqN P md ops Q N M T R n us a0 fin ((i, d) :: rs) acc := ⟨F, hF, .inr (.inl ⟨h, hm⟩), hs⟩
/-- what the stores in the middle have left -/
def MemE (M : MemL) (L : Array Bool) (a : Act) (w : World) : Prop := ∀ x ∈ M, L.getD x.1 false = true → ∃ v, a.tmps[x.2.1]? = some v ∧ x.2.2 v w
/-- the slot of such a store is written by what it waits for alone -/
def memsB (md : Region.Mode) (M : MemL) (ops : Array Oper) : Bool := decide ((M.map (·.1)).Nodup) && M.all fun x => (List.range ops.size).all fun i => match ops[i]?, ops[x.1]? with
 | some o, some b => o.dst != some x.2.1 || depB md b i
 | _, _ => false
theorem memsB_at {M : MemL} {i : Nat} {o b : Oper} (h : memsB md M ops = true) {x : Nat × Nat × (Value → World → Prop)} (hx : x ∈ M) (ho : ops[i]? = some o) (hb : ops[x.1]? = some b) : o.dst ≠ some x.2.1 ∨ depB md b i = true := by
 unfold memsB at h
 rw [Bool.and_eq_true] at h
 have hi : i < ops.size := by
  rcases Nat.lt_or_ge i ops.size with h | h
  ·exact h
  ·rw [Array.getElem?_eq_none h] at ho; cases ho
 have h2 := range_all (List.all_eq_true.1 h.2 x hx) hi; simp only [ho, hb, Bool.or_eq_true, bne_iff_ne, ne_eq] at h2; exact h2
theorem dep_not {L : Array Bool} {i j : Nat} {o : Oper} (hc : Closed md ops L) (ho : ops[j]? = some o) (hj : L.getD j false = true) (hi : L.getD i true = false) (hil : i < L.size) : depB md o i = false := by
 cases h : depB md o i with
 | false => rfl
 | true =>
  exfalso
  unfold depB at h
  rw [Array.any_eq_true] at h; obtain ⟨z, hz, hb⟩ := h; simp only [Bool.and_eq_true, beq_iff_eq] at hb; have := hc j o hj ho _ (Array.getElem_mem hz) hb.1; rw [hb.2, getD_lt hil false true, hi] at this
  cases this
theorem MemE.old {M : MemL} {L : Array Bool} {a : Act} {w w2 : World} {i : Nat} {o : Oper} {v : Value} (h : MemE M L a w) (hMB : memsB md M ops = true) (hCl : Closed md ops L) (hLi : L.getD i true = false) (hil : i < L.size) (ho : ops[i]? = some o) (hi : ∀ y ∈ M, y.1 ≠ i) (hst : ∀ y ∈ M, ∀ u, y.2.2 u w → y.2.2 u w2) (hsz : L.size = ops.size := by assumption) : MemE M (L.setIfInBounds i true) (a.put o.dst v) w2 := fun y hy hLy => by
 rw [getD_set_ne false (Ne.symm (hi y hy))] at hLy; obtain ⟨u, hu, hG⟩ := h y hy hLy; refine ⟨u, ?_, hst y hy u hG⟩; rw [put_ne (fun e1 he1 e2 => ?_)]
 ·exact hu
 ·cases hb : ops[y.1]? with
  | none =>
   have h1 : ops.size ≤ y.1 := by simpa using hb
   rw [Array.getD_eq_getD_getElem?, Array.getElem?_eq_none (by omega)] at hLy
   cases hLy
  | some b =>
   rcases memsB_at hMB hy ho hb with h | h
   ·exact h (by rw [he1, e2])
   ·rw [dep_not hCl hb hLy hLi hil] at h; cases h
theorem MemE.own {M : MemL} {L : Array Bool} {a : Act} {w w2 : World} {i d0 : Nat} {G : Value → World → Prop} {u v : Value} (h : MemE M L a w) (hone : ∀ x ∈ M, ∀ y ∈ M, x.1 = y.1 → x = y) (hx : (i, d0, G) ∈ M) (hv : a.tmps[d0]? = some v) (hG : G v w2) (hst : ∀ y ∈ M, ∀ u, y.2.2 u w → y.2.2 u w2) : MemE M (L.setIfInBounds i true) (a.put none u) w2 := fun y hy hLy => by
 by_cases e : y.1 = i
 ·have := hone y hy _ hx e; subst this; exact ⟨v, hv, hG⟩
 ·rw [getD_set_ne false (Ne.symm e)] at hLy; obtain ⟨u, hu, hG⟩ := h y hy hLy; exact ⟨u, hu, hst y hy u hG⟩
end
section
variable {D : List Deferred} {P : Program} {ops : Array Oper} {Q Q' : Exit → Act → World → Prop} {a : Act} {w : World}
end
end Go.Proofs.YtkhmcofmjjmjhaaDoor
