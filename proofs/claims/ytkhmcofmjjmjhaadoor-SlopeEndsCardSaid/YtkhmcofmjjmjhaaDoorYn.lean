/- A statement that draws its order and makes several blocks: the blocks are told apart. -/
import Derived.Test.YtkhmcofmjjmjhaaDoorYm
namespace Go.Proofs.YtkhmcofmjjmjhaaDoor
set_option linter.unusedSimpArgs false
set_option linter.unusedVariables false
open Go

/-- the block that a pointer or a slice names -/
def blkV : Value → Nat
 | .pointer (some p) => p.block
 | .slice (some p) _ _ => p.block
 | _ => 0
/-- the blocks of the operations N (with their slots) that have been taken are old, and apart -/
def ApartE (N : List (Nat × Nat)) (L : Array Bool) (a : Act) (w : World) : Prop :=
 (∀ p ∈ N, L.getD p.1 false = true → ∃ v, a.tmps[p.2]? = some v ∧ blkV v < w.heap.size) ∧
 ∀ p ∈ N, ∀ q ∈ N, p.1 ≠ q.1 → L.getD p.1 false = true → L.getD q.1 false = true → ∀ u v, a.tmps[p.2]? = some u → a.tmps[q.2]? = some v → blkV u ≠ blkV v
theorem ApartE.start {N : List (Nat × Nat)} {m : Nat} {a : Act} {w : World} : ApartE N (Array.replicate m false) a w := by
 have h : ∀ i, (Array.replicate m false).getD i false = false := fun i => by
  rw [Array.getD_eq_getD_getElem?]
  by_cases hi : i < m <;> simp [hi]
 exact ⟨fun p _ hp => (by rw [h] at hp; cases hp), fun p _ q _ _ hp => (by rw [h] at hp; cases hp)⟩
theorem put_ne {a : Act} {d : Option Nat} {v : Value} {t : Nat} (h : ∀ e, d = some e → t ≠ e) : (a.put d v).tmps[t]? = a.tmps[t]? := by
 cases d with
 | none => rfl
 | some e => simp only [Act.put]; exact Array.getElem?_setIfInBounds_ne (Ne.symm (h e rfl))
theorem ApartE.old {N : List (Nat × Nat)} {L : Array Bool} {a : Act} {w w' : World} {i : Nat} {d : Option Nat} {v : Value} (h : ApartE N L a w) (hi : ∀ p ∈ N, p.1 ≠ i) (hd : ∀ p ∈ N, ∀ e, d = some e → p.2 ≠ e) (hs : w.heap.size ≤ w'.heap.size) : ApartE N (L.setIfInBounds i true) (a.put d v) w' := by
 refine ⟨fun p hp hL => ?_, fun p hp q hq hne hL hL' x y hx hy => ?_⟩
 ·rw [getD_set_ne false (Ne.symm (hi p hp))] at hL
  obtain ⟨u, hu, hb⟩ := h.1 p hp hL
  exact ⟨u, by rw [put_ne (hd p hp)]; exact hu, Nat.lt_of_lt_of_le hb hs⟩
 ·rw [getD_set_ne false (Ne.symm (hi p hp))] at hL
  rw [getD_set_ne false (Ne.symm (hi q hq))] at hL'
  rw [put_ne (hd p hp)] at hx
  rw [put_ne (hd q hq)] at hy
  exact h.2 p hp q hq hne hL hL' x y hx hy
theorem ApartE.new {N : List (Nat × Nat)} {L : Array Bool} {a : Act} {w w' : World} {i d : Nat} {v : Value} (h : ApartE N L a w) (hi : ∀ p ∈ N, p.1 = i → p.2 = d) (hd : ∀ p ∈ N, p.1 ≠ i → p.2 ≠ d) (hsz : d < a.tmps.size) (hb : w.heap.size ≤ blkV v) (hb' : blkV v < w'.heap.size) : ApartE N (L.setIfInBounds i true) (a.put (some d) v) w' := by
 have hv : (a.put (some d) v).tmps[d]? = some v := by simp [Act.put, hsz]
 have hsize : w.heap.size ≤ w'.heap.size := by omega
 refine ⟨fun p hp hL => ?_, fun p hp q hq hne hL hL' x y hx hy => ?_⟩
 ·by_cases e : p.1 = i
  ·rw [hi p hp e]; exact ⟨v, hv, hb'⟩
  ·rw [getD_set_ne false (Ne.symm e)] at hL
   obtain ⟨u, hu, hbu⟩ := h.1 p hp hL
   exact ⟨u, by rw [put_ne (fun _ e' => by cases e'; exact hd p hp e)]; exact hu, by omega⟩
 ·by_cases e : p.1 = i
  ·have e' : q.1 ≠ i := fun x => hne (e.trans x.symm)
   rw [getD_set_ne false (Ne.symm e')] at hL'
   rw [hi p hp e, hv] at hx
   rw [put_ne (fun _ e'' => by cases e''; exact hd q hq e')] at hy
   obtain ⟨u, hu, hbu⟩ := h.1 q hq hL'
   rw [hu] at hy
   cases hx; cases hy
   omega
  ·rw [getD_set_ne false (Ne.symm e)] at hL
   rw [put_ne (fun _ e'' => by cases e''; exact hd p hp e)] at hx
   obtain ⟨u, hu, hbu⟩ := h.1 p hp hL
   rw [hu] at hx
   by_cases e' : q.1 = i
   ·rw [hi q hq e', hv] at hy
    cases hx; cases hy
    omega
   ·rw [getD_set_ne false (Ne.symm e')] at hL'
    rw [put_ne (fun _ e'' => by cases e''; exact hd q hq e')] at hy
    exact h.2 p hp q hq hne hL hL' x y (by rw [hu]; exact hx) hy
section
variable {P : Program} {md : Region.Mode} {ops : Array Oper} {Q : Exit → Act → World → Prop}
variable (P md ops Q) in
/-- a step that makes a block -/
def StepNew (T : World → Prop) (R : World → World → Prop) (n : Nat) (us : List Nat) (a0 : Act) (acc : List (Nat × Option Nat × (Value → World → Prop))) (i : Nat) (F : Value → World → Prop) : Prop :=
 ∀ o, ops[i]? = some o → ∀ a w, SameBut n us a0 a → T w → (∀ k d G, (k, d, G) ∈ acc → depB md o k = true → Told k ops G a w) → ∀ K : Act → World → Prop, Hush (∀ a' v w', a' = a.put o.dst v → F v w' → T w' → R w w' → w.heap.size ≤ blkV v → blkV v < w'.heap.size → K a' w') →
  o.guard = none ∧ Oper.wp P o a w K Q
theorem StepNew.plain {T : World → Prop} {R : World → World → Prop} {n : Nat} {us : List Nat} {a0 : Act} {acc : List (Nat × Option Nat × (Value → World → Prop))} {i : Nat} {F : Value → World → Prop} {o : Oper} (ho : ops[i]? = some o) (hg : o.guard = none)
    (h : ∀ a w, SameBut n us a0 a → T w → (∀ k d G, (k, d, G) ∈ acc → depB md o k = true → Told k ops G a w) → ∀ K : Act → World → Prop, Hush (∀ a' v w', a' = a.put o.dst v → F v w' → T w' → R w w' → w.heap.size ≤ blkV v → blkV v < w'.heap.size → K a' w') → Oper.wp P o a w K Q) : StepNew P md ops Q T R n us a0 acc i F := fun o' ho' a w h1 h2 h3 K hK => by
 rw [ho] at ho'; cases ho'
 exact ⟨hg, h a w h1 h2 h3 K hK⟩
abbrev MemL := List (Nat × Nat × (Value → World → Prop))
variable (P md ops Q) in
def SeqN (N : List (Nat × Nat)) (M : MemL) (T : World → Prop) (R : World → World → Prop) (n : Nat) (us : List Nat) (a0 : Act) (fin : List (Nat × Option Nat × (Value → World → Prop)) → Prop) : List (Nat × Option Nat) → List (Nat × Option Nat × (Value → World → Prop)) → Prop
 | [], acc => fin acc
 | (i, d) :: rs, acc => ∃ F, (∀ v w w', R w w' → F v w → F v w') ∧ ((StepOk P md ops Q T R n us a0 acc i F ∧ (N.all fun p => p.1 != i) = true ∧ (M.all fun p => p.1 != i) = true) ∨ (StepNew P md ops Q T R n us a0 acc i F ∧ (M.all fun p => p.1 != i) = true) ∨ (d = none ∧ ∃ d0 G, (i, d0, G) ∈ M ∧ (∀ v w, F v w) ∧ StepMem P md ops Q T R n us a0 acc i d0 G)) ∧ SeqN N M T R n us a0 fin rs ((i, d, F) :: acc)
variable {N : List (Nat × Nat)} {M : MemL} {T : World → Prop} {R : World → World → Prop} {n : Nat} {us : List Nat} {a0 : Act} {fin : List (Nat × Option Nat × (Value → World → Prop)) → Prop} {acc : List (Nat × Option Nat × (Value → World → Prop))} {rs : List (Nat × Option Nat)} {i : Nat} {d : Option Nat}
theorem SeqN.nil (h : fin acc) : SeqN P md ops Q N M T R n us a0 fin [] acc := h
theorem SeqN.say (F : Value → World → Prop) (hF : ∀ v w w', R w w' → F v w → F v w') (h : StepOk P md ops Q T R n us a0 acc i F) (hs : SeqN P md ops Q N M T R n us a0 fin rs ((i, d, F) :: acc)) (hn : (N.all fun p => p.1 != i) = true := by decide) (hm : (M.all fun p => p.1 != i) = true := by kernel_rfl) : SeqN P md ops Q N M T R n us a0 fin ((i, d) :: rs) acc := ⟨F, hF, .inl ⟨h, hn, hm⟩, hs⟩
theorem SeqN.val (x : Value) (h : StepOk P md ops Q T R n us a0 acc i (fun v _ => v = x)) (hs : SeqN P md ops Q N M T R n us a0 fin rs ((i, d, fun v _ => v = x) :: acc)) (hn : (N.all fun p => p.1 != i) = true := by decide) (hm : (M.all fun p => p.1 != i) = true := by kernel_rfl) : SeqN P md ops Q N M T R n us a0 fin ((i, d) :: rs) acc := ⟨_, fun _ _ _ _ h => h, .inl ⟨h, hn, hm⟩, hs⟩
theorem SeqN.new (F : Value → World → Prop) (hF : ∀ v w w', R w w' → F v w → F v w') (h : StepNew P md ops Q T R n us a0 acc i F) (hs : SeqN P md ops Q N M T R n us a0 fin rs ((i, d, F) :: acc)) (hm : (M.all fun p => p.1 != i) = true := by kernel_rfl) : SeqN P md ops Q N M T R n us a0 fin ((i, d) :: rs) acc := ⟨F, hF, .inr (.inl ⟨h, hm⟩), hs⟩
theorem SeqN.mem (d0 : Nat) (G : Value → World → Prop) (hm : (i, d0, G) ∈ M) (h : StepMem P md ops Q T R n us a0 acc i d0 G) (hs : SeqN P md ops Q N M T R n us a0 fin rs ((i, none, fun _ _ => True) :: acc)) : SeqN P md ops Q N M T R n us a0 fin ((i, none) :: rs) acc := ⟨_, fun _ _ _ _ h => h, .inr (.inr ⟨rfl, d0, G, hm, fun _ _ => trivial, h⟩), hs⟩
theorem seqN_gather : ∀ (rs : List (Nat × Option Nat)) (acc : List (Nat × Option Nat × (Value → World → Prop))), SeqN P md ops Q N M T R n us a0 fin rs acc →
    ∃ new : List (Nat × Option Nat × (Value → World → Prop)), new.map (fun x => (x.1, x.2.1)) = rs.reverse ∧ fin (new ++ acc) ∧ ∀ x ∈ new, (∀ v w w', R w w' → x.2.2 v w → x.2.2 v w') ∧ ∃ pre, (∀ y ∈ pre, y ∈ new ++ acc) ∧ ((StepOk P md ops Q T R n us a0 pre x.1 x.2.2 ∧ (N.all fun p => p.1 != x.1) = true ∧ (M.all fun p => p.1 != x.1) = true) ∨ (StepNew P md ops Q T R n us a0 pre x.1 x.2.2 ∧ (M.all fun p => p.1 != x.1) = true) ∨ (x.2.1 = none ∧ ∃ d0 G, (x.1, d0, G) ∈ M ∧ (∀ v w, x.2.2 v w) ∧ StepMem P md ops Q T R n us a0 pre x.1 d0 G))
 | [], acc, h => ⟨[], rfl, h, fun _ hx => by cases hx⟩
 | (i, d) :: rs, acc, h => by
  obtain ⟨F, hF, hst, hs⟩ := h
  obtain ⟨new, h1, h2, h3⟩ := seqN_gather rs _ hs
  refine ⟨new ++ [(i, d, F)], by simp [h1], by simpa using h2, fun x hx => ?_⟩
  rcases List.mem_append.1 hx with hx | hx
  ·obtain ⟨h4, pre, h5, h6⟩ := h3 x hx
   exact ⟨h4, pre, fun y hy => by simpa using h5 y hy, h6⟩
  ·obtain rfl := List.mem_singleton.1 hx
   exact ⟨hF, acc, fun y hy => List.mem_append_right _ hy, hst⟩
/-- the operations of N write their slots, and no other one does -/
def nwsB (N : List (Nat × Nat)) (ops : Array Oper) (n : Nat) : Bool := (N.all fun p => decide (p.2 < n) && N.all fun q => (p.1 == q.1) == (p.2 == q.2)) && (List.range ops.size).all fun i => match ops[i]? with
 | some o => (match o.dst with
  | some d => N.all fun p => if p.1 = i then p.2 == d else p.2 != d
  | none => N.all fun p => p.1 != i)
 | none => true
theorem nwsB_at {N : List (Nat × Nat)} {i : Nat} {o : Oper} (h : nwsB N ops n = true) (ho : ops[i]? = some o) : (∀ p ∈ N, p.1 = i → o.dst = some p.2 ∧ p.2 < n) ∧ ∀ p ∈ N, p.1 ≠ i → ∀ e, o.dst = some e → p.2 ≠ e := by
 unfold nwsB at h
 rw [Bool.and_eq_true] at h
 have hi : i < ops.size := by
  rcases Nat.lt_or_ge i ops.size with h | h
  ·exact h
  ·rw [Array.getElem?_eq_none h] at ho; cases ho
 have h2 := range_all h.2 hi
 simp only [ho] at h2
 have h1 : ∀ p ∈ N, p.2 < n := fun p hp => by
  have := List.all_eq_true.1 h.1 p hp
  rw [Bool.and_eq_true] at this
  exact of_decide_eq_true this.1
 cases hd : o.dst with
 | none =>
  rw [hd] at h2
  refine ⟨fun p hp e => ?_, fun _ _ _ e he => by cases he⟩
  have := List.all_eq_true.1 h2 p hp
  simp [e] at this
 | some d =>
  rw [hd] at h2
  refine ⟨fun p hp e => ?_, fun p hp e x hx => ?_⟩
  ·have := List.all_eq_true.1 h2 p hp
   simp only [if_pos e, beq_iff_eq] at this
   exact ⟨by rw [this], h1 p hp⟩
  ·have := List.all_eq_true.1 h2 p hp
   simp only [if_neg e, bne_iff_ne, ne_eq] at this
   cases hx
   exact this
/-- what the stores in the middle have left -/
def MemE (M : MemL) (L : Array Bool) (a : Act) (w : World) : Prop := ∀ x ∈ M, L.getD x.1 false = true → ∃ v, a.tmps[x.2.1]? = some v ∧ x.2.2 v w
/-- the slot of such a store is written by what it waits for alone -/
def memsB (md : Region.Mode) (M : MemL) (ops : Array Oper) : Bool := decide ((M.map (·.1)).Nodup) && M.all fun x => (List.range ops.size).all fun i => match ops[i]?, ops[x.1]? with
 | some o, some b => o.dst != some x.2.1 || depB md b i
 | _, _ => false
theorem memsB_at {M : MemL} {i : Nat} {o b : Oper} (h : memsB md M ops = true) {x : Nat × Nat × (Value → World → Prop)} (hx : x ∈ M) (ho : ops[i]? = some o) (hb : ops[x.1]? = some b) : o.dst ≠ some x.2.1 ∨ depB md b i = true := by
 unfold memsB at h
 rw [Bool.and_eq_true] at h
 have hi : i < ops.size := by
  rcases Nat.lt_or_ge i ops.size with h | h
  ·exact h
  ·rw [Array.getElem?_eq_none h] at ho; cases ho
 have h2 := range_all (List.all_eq_true.1 h.2 x hx) hi
 simp only [ho, hb, Bool.or_eq_true, bne_iff_ne, ne_eq] at h2
 exact h2
theorem memsB_one {M : MemL} (h : memsB md M ops = true) : ∀ x ∈ M, ∀ y ∈ M, x.1 = y.1 → x = y := by
 unfold memsB at h
 rw [Bool.and_eq_true] at h
 have hn : (M.map (·.1)).Nodup := of_decide_eq_true h.1
 clear h
 induction M with
 | nil => intro x hx; cases hx
 | cons z M ih =>
  rw [List.map_cons, List.nodup_cons] at hn
  intro x hx y hy e
  rcases List.mem_cons.1 hx with hx | hx <;> rcases List.mem_cons.1 hy with hy | hy
  ·rw [hx, hy]
  ·exact absurd (by rw [← hx, e]; exact List.mem_map_of_mem (f := (·.1)) hy) hn.1
  ·exact absurd (by rw [← hy, ← e]; exact List.mem_map_of_mem (f := (·.1)) hx) hn.1
  ·exact ih hn.2 x hx y hy e
theorem dep_not {L : Array Bool} {i j : Nat} {o : Oper} (hc : Closed md ops L) (ho : ops[j]? = some o) (hj : L.getD j false = true) (hi : L.getD i true = false) (hil : i < L.size) : depB md o i = false := by
 cases h : depB md o i with
 | false => rfl
 | true =>
  exfalso
  unfold depB at h
  rw [Array.any_eq_true] at h
  obtain ⟨z, hz, hb⟩ := h
  simp only [Bool.and_eq_true, beq_iff_eq] at hb
  have := hc j o hj ho _ (Array.getElem_mem hz) hb.1
  rw [hb.2, getD_lt hil false true, hi] at this
  cases this
theorem MemE.old {M : MemL} {L : Array Bool} {a : Act} {w w2 : World} {i : Nat} {o : Oper} {v : Value} (h : MemE M L a w) (hMB : memsB md M ops = true) (hCl : Closed md ops L) (hLi : L.getD i true = false) (hil : i < L.size) (ho : ops[i]? = some o) (hi : ∀ y ∈ M, y.1 ≠ i) (hst : ∀ y ∈ M, ∀ u, y.2.2 u w → y.2.2 u w2) (hsz : L.size = ops.size := by assumption) : MemE M (L.setIfInBounds i true) (a.put o.dst v) w2 := fun y hy hLy => by
 rw [getD_set_ne false (Ne.symm (hi y hy))] at hLy
 obtain ⟨u, hu, hG⟩ := h y hy hLy
 refine ⟨u, ?_, hst y hy u hG⟩
 rw [put_ne (fun e1 he1 e2 => ?_)]
 ·exact hu
 ·cases hb : ops[y.1]? with
  | none =>
   have h1 : ops.size ≤ y.1 := by simpa using hb
   rw [Array.getD_eq_getD_getElem?, Array.getElem?_eq_none (by omega)] at hLy
   cases hLy
  | some b =>
   rcases memsB_at hMB hy ho hb with h | h
   ·exact h (by rw [he1, e2])
   ·rw [dep_not hCl hb hLy hLi hil] at h; cases h
theorem MemE.own {M : MemL} {L : Array Bool} {a : Act} {w w2 : World} {i d0 : Nat} {G : Value → World → Prop} {u v : Value} (h : MemE M L a w) (hone : ∀ x ∈ M, ∀ y ∈ M, x.1 = y.1 → x = y) (hx : (i, d0, G) ∈ M) (hv : a.tmps[d0]? = some v) (hG : G v w2) (hst : ∀ y ∈ M, ∀ u, y.2.2 u w → y.2.2 u w2) : MemE M (L.setIfInBounds i true) (a.put none u) w2 := fun y hy hLy => by
 by_cases e : y.1 = i
 ·have := hone y hy _ hx e
  subst this
  exact ⟨v, hv, hG⟩
 ·rw [getD_set_ne false (Ne.symm e)] at hLy
  obtain ⟨u, hu, hG⟩ := h y hy hLy
  exact ⟨u, hu, hst y hy u hG⟩
def EndsN (N : List (Nat × Nat)) (M : MemL) (K : Act → World → Prop) (a : Act) (w : World) : Prop := (∀ p ∈ N, ∀ q ∈ N, p.1 ≠ q.1 → ∀ u v, a.tmps[p.2]? = some u → a.tmps[q.2]? = some v → blkV u ≠ blkV v) → (∀ x ∈ M, ∃ v, a.tmps[x.2.1]? = some v ∧ x.2.2 v w) → K a w
theorem seq_anyN {X : Nat → Array Bool → Act → World → Prop} (hX : AnyLike P md ops Q X) (late : List Nat) (n : Nat) (N : List (Nat × Nat)) (M : MemL) (T : World → Prop) (R : World → World → Prop) (rs : List (Nat × Option Nat)) (us : List Nat) (Lz : Array Bool) {m : Nat} {a : Act} {w : World}
    (hN : nwsB N ops n = true) (hMB : memsB md M ops = true) (hMz : (M.all fun p => Lz.getD p.1 false) = true) (hMG : ∀ y ∈ M, ∀ v w w', R w w' → y.2.2 v w → y.2.2 v w') (hNz : (N.all fun p => Lz.getD p.1 false) = true) (hRs : ∀ w w', R w w' → w.heap.size ≤ w'.heap.size)
    (hback : backB md ops = true) (hlate : lateB md ops (Array.replicate ops.size false) late = true) (hlate0 : (late.all fun k => !(Array.replicate ops.size false).getD k false) = true) (hclosed : closedB md ops (Array.replicate ops.size false) = true) (hseq : seqB n ops rs = true) (hus : rs.filterMap (·.2) = us) (hap : apartB ops (rs.map (·.1)) = true)
    (hLz : ((List.range ops.size).map fun i => !late.contains i).toArray = Lz) (hrs : (List.range ops.size).filter (fun i => !late.contains i && !(Array.replicate ops.size false).getD i true) = rs.map (·.1)) (hsz : rs.length + late.length = m)
    (hsize : a.tmps.size = n) (hT : T w)
    (h : SeqN P md ops Q N M T R n us a (fun acc => ∀ w', T w' → Ends (EndsN N M (X late.length Lz)) a.defers w' acc.reverse a.tmps) rs []) :
    X m (Array.replicate ops.size false) a w := by
 obtain ⟨new, h1, h2, h3⟩ := seqN_gather rs [] h
 rw [List.append_nil] at h2
 have hmap : new.map (·.1) = (rs.map (·.1)).reverse := by
  have := congrArg (List.map Prod.fst) h1
  simpa [List.map_map, Function.comp_def, List.map_reverse] using this
 have hnd : (new.map (·.1)).Nodup := by
  rw [hmap]
  unfold List.Nodup
  rw [List.pairwise_reverse]
  simp only [ne_comm (α := Nat)]
  show (rs.map (·.1)).Nodup
  rw [← hrs]
  exact List.Pairwise.filter _ List.nodup_range
 have hdst : ∀ x ∈ new, ∃ o, ops[x.1]? = some o ∧ o.dst = x.2.1 ∧ ∀ d, x.2.1 = some d → d < n := fun x hx => by
  have hm : (x.1, x.2.1) ∈ rs := by
   have : (x.1, x.2.1) ∈ new.map (fun x => (x.1, x.2.1)) := List.mem_map_of_mem (f := fun x => (x.1, x.2.1)) hx
   rw [h1] at this
   exact List.mem_reverse.1 this
  have h0 := List.all_eq_true.1 hseq _ hm
  rw [Bool.and_eq_true] at h0
  obtain ⟨h01, h02⟩ := h0
  cases ho : ops[x.1]? with
  | none => simp [ho] at h01
  | some o =>
   refine ⟨o, rfl, by simpa [ho] using h01, fun d hd => ?_⟩
   simp only [hd] at h02
   exact of_decide_eq_true h02
 have hus' : ∀ x ∈ new, ∀ d, x.2.1 = some d → d ∈ us := fun x hx d hd => by
  have hm : (x.1, x.2.1) ∈ rs := by
   have : (x.1, x.2.1) ∈ new.map (fun x => (x.1, x.2.1)) := List.mem_map_of_mem (f := fun x => (x.1, x.2.1)) hx
   rw [h1] at this
   exact List.mem_reverse.1 this
  rw [← hus, List.mem_filterMap]
  exact ⟨_, hm, hd⟩
 have husn : ∀ t, us.contains t = true → ∃ x ∈ new, x.2.1 = some t := fun t ht => by
  have ht' : t ∈ us := by simpa using ht
  rw [← hus, List.mem_filterMap] at ht'
  obtain ⟨p, hp, hd⟩ := ht'
  have : p ∈ new.map (fun x => (x.1, x.2.1)) := by rw [h1]; exact List.mem_reverse.2 hp
  obtain ⟨x, hx, rfl⟩ := List.mem_map.1 this
  exact ⟨x, hx, hd⟩
 have hsame : ∀ a' : Act, a'.defers = a.defers → a'.tmps.size = n → (∀ t, ((List.range n).filter fun t => !us.contains t).contains t = true → a'.tmps[t]? = some (a.tmps.getD t undef)) → SameBut n us a a' := fun a' hd hs hk => ⟨hd, hs, fun t ht => by
  by_cases hlt : t < n
  ·rw [hk t (by simp only [List.contains_iff_mem, List.mem_filter, List.mem_range, ht, hlt]; decide)]
   have : t < a.tmps.size := by omega
   simp [this]
  ·rw [Array.getElem?_eq_none (by omega), Array.getElem?_eq_none (by omega)]⟩
 have hall : ∀ i, i ∈ rs.map (·.1) → ∃ x ∈ new, x.1 = i := fun i hi => by
  have : i ∈ new.map (·.1) := by rw [hmap]; exact List.mem_reverse.2 hi
  obtain ⟨x, hx, e⟩ := List.mem_map.1 this
  exact ⟨x, hx, e⟩
 refine linE_anyC hX late n (lookF new) T R (fun L a w => ApartE N L a w ∧ MemE M L a w) ((List.range n).filter fun t => !us.contains t) Lz (rs.map (·.1)) hback hlate hlate0 hclosed ?_ ?_ hap hLz hrs (by simpa using hsz) (lookF_stable fun x hx => (h3 x hx).1) hsize hT ⟨ApartE.start, fun x _ hx => (by
  have h : (Array.replicate ops.size false).getD x.1 false = false := by
   rw [Array.getD_eq_getD_getElem?]
   by_cases hi : x.1 < ops.size <;> simp [hi]
  rw [h] at hx; cases hx)⟩ ?_ ?_
 ·refine List.all_eq_true.2 fun t ht => ?_
  rw [List.mem_filter, List.mem_range] at ht
  exact decide_eq_true ht.1
 ·refine List.all_eq_true.2 fun j hj => ?_
  obtain ⟨x, hx, rfl⟩ := hall j hj
  obtain ⟨o, ho, hd, hn⟩ := hdst x hx
  simp only [ho]
  cases hod : o.dst with
  | none => rfl
  | some d =>
   have hx2 : x.2.1 = some d := by rw [← hd, hod]
   have := hn d hx2
   have hu := hus' x hx d hx2
   simp [this, hu]
 ·intro a' w' L hLs hCl hd hs hk hT' hEL' hknown i hi o ho hLi hdeps K hK
  obtain ⟨hEL, hML⟩ := hEL'
  obtain ⟨x, hx, rfl⟩ := hall i hi
  obtain ⟨_, pre, hpre, hst⟩ := h3 x hx
  rw [← lookF_mem hnd x hx] at hst
  have htold : ∀ k d G, (k, d, G) ∈ pre → depB md o k = true → Told k ops G a' w' := fun k d G hkG hdep => by
   have hm := hpre _ hkG
   rw [List.append_nil] at hm
   have hk' : k ∈ rs.map (·.1) := by
    have : k ∈ new.map (·.1) := List.mem_map_of_mem (f := (·.1)) hm
    rw [hmap] at this
    exact List.mem_reverse.1 this
   have hkn := hdeps k hdep hk'
   intro d' hd'
   obtain ⟨v, hv, hF⟩ := hkn.get hd'
   have e : lookF new k = G := lookF_mem hnd _ hm
   rw [e] at hF
   exact ⟨v, hv, hF⟩
  obtain ⟨hn1, hn2⟩ := nwsB_at hN ho
  have hil : x.1 < L.size := by
   rw [hLs]
   rcases Nat.lt_or_ge x.1 ops.size with h | h
   ·exact h
   ·rw [Array.getElem?_eq_none h] at ho; cases ho
  rcases hst with ⟨hst, hno, hmo⟩ | ⟨hst, hmo⟩ | ⟨hd0, d0, G, hxM, hFx, hst⟩
  ·refine hst o ho a' w' (hsame a' hd hs hk) hT' htold K (fun a2 v w2 e1 e2 e3 e4 => hK.out a2 v w2 e1 e2 e3 e4 ⟨?_, ?_⟩)
   ·have hno' : ∀ p ∈ N, p.1 ≠ x.1 := fun p hp => by simpa using List.all_eq_true.1 hno p hp
    exact hEL.old hno' (fun p hp e he => hn2 p hp (hno' p hp) e he) (hRs _ _ e4)
   ·exact hML.old hMB hCl hLi hil ho (fun y hy => by simpa using List.all_eq_true.1 hmo y hy) (fun y hy u hu => hMG y hy u _ _ e4 hu)
  ·have hg := (hst o ho a' w' (hsame a' hd hs hk) hT' htold (fun _ _ => True) (fun _ _ _ _ _ _ _ _ _ => trivial)).1
   rw [if_pos (wanted_none hg)]
   refine (hst o ho a' w' (hsame a' hd hs hk) hT' htold K (fun a2 v w2 e1 e2 e3 e4 e5 e6 => hK.out a2 v w2 e1 e2 e3 e4 ⟨?_, hML.old hMB hCl hLi hil ho (fun y hy => by simpa using List.all_eq_true.1 hmo y hy) (fun y hy u hu => hMG y hy u _ _ e4 hu)⟩)).2
   cases hod : o.dst with
   | none =>
    refine hEL.old (fun p hp e => ?_) (fun p hp e he => by cases he) (hRs _ _ e4)
    have := (hn1 p hp e).1
    rw [hod] at this; cases this
   | some d =>
    by_cases hin : ∃ p ∈ N, p.1 = x.1
    ·obtain ⟨p, hp, he⟩ := hin
     have hpd := hn1 p hp he
     rw [hod] at hpd
     have hdp : p.2 = d := (Option.some.inj hpd.1).symm
     refine hEL.new (fun q hq e => ?_) (fun q hq e => hn2 q hq e d hod) (by rw [hs, ← hdp]; exact hpd.2) e5 e6
     have := (hn1 q hq e).1
     rw [hod] at this
     exact (Option.some.inj this).symm
    ·refine hEL.old (fun p hp e => hin ⟨p, hp, e⟩) (fun p hp e he => hn2 p hp (fun e' => hin ⟨p, hp, e'⟩) e (by rw [hod]; exact he)) (hRs _ _ e4)
  ·have hod : o.dst = none := by
    obtain ⟨o', ho', hd', _⟩ := hdst x hx
    rw [ho] at ho'; cases ho'
    rw [hd', hd0]
   refine hst o ho a' w' (hsame a' hd hs hk) hT' htold K (fun a2 v w2 e1 e2 e3 e4 e5 => hK.out a2 undef w2 e1 ?_ e4 e5 ⟨?_, ?_⟩)
   ·exact hFx _ _
   ·rw [hod]
    refine hEL.old (fun p hp e => ?_) (fun p hp e he => by cases he) (hRs _ _ e5)
    have := (hn1 p hp e).1
    rw [hod] at this; cases this
   ·rw [hod]
    exact hML.own (memsB_one hMB) hxM e2 e3 (fun y hy u hu => hMG y hy u _ _ e5 hu)
 ·intro a' w' hd hs hk hT' hEz hall'
  have hfin : EndsN N M (X late.length Lz) a' w' := by
   refine ends_use (K := EndsN N M (X late.length Lz)) hd new.reverse a.tmps (h2 w' hT') (fun i d F hm => ?_) (by omega) fun t ht => ?_
   ·have hm' := List.mem_reverse.1 hm
    have hi : i ∈ rs.map (·.1) := by
     have : i ∈ new.map (·.1) := List.mem_map_of_mem (f := (·.1)) hm'
     rw [hmap] at this
     exact List.mem_reverse.1 this
    obtain ⟨o, ho, hod, _⟩ := hdst _ hm'
    obtain ⟨v, hv, hF⟩ := hall' i (by simpa using hi) o d ho hod
    have e : lookF new i = F := lookF_mem hnd _ hm'
    rw [e] at hF
    exact ⟨v, hv, hF⟩
   ·have hc : us.contains t = false := by
     cases hc : us.contains t with
     | false => rfl
     | true =>
      obtain ⟨x, hx, he⟩ := husn t hc
      obtain ⟨i, d, F⟩ := x
      subst he
      exact absurd (List.mem_reverse.2 hx) (ht i F)
    exact ((hsame a' hd hs hk).2.2 t hc).symm
  refine hfin (fun p hp q hq hne u v hu hv => hEz.1.2 p hp q hq hne ?_ ?_ u v hu hv) (fun x hx => hEz.2 x hx (List.all_eq_true.1 hMz x hx))
  ·exact List.all_eq_true.1 hNz p hp
  ·exact List.all_eq_true.1 hNz q hq
end
section
variable {D : List Deferred} {P : Program} {ops : Array Oper} {Q Q' : Exit → Act → World → Prop} {a : Act} {w : World}
def EndsEN (N : List (Nat × Nat)) (M : MemL) (K : Act → World → Prop) (D : List Deferred) (n : Nat) (w : World) : List (Nat × Option Nat × (Value → World → Prop)) → Env → Prop
 | [], e => ∀ a, FitsD D n e a → (∀ p ∈ N, ∀ q ∈ N, p.1 ≠ q.1 → ∀ u v, a.tmps[p.2]? = some u → a.tmps[q.2]? = some v → blkV u ≠ blkV v) → (∀ x ∈ M, ∃ v, a.tmps[x.2.1]? = some v ∧ x.2.2 v w) → K a w
 | (_, some d, F) :: l, e => ∀ v, F v w → EndsEN N M K D n w l ((d, v) :: e)
 | (_, none, _) :: l, e => EndsEN N M K D n w l e
theorem endsEN_ends {N : List (Nat × Nat)} {M : MemL} {K : Act → World → Prop} {n : Nat} {w : World} : ∀ (l : List (Nat × Option Nat × (Value → World → Prop))) (e : Env) (xs : Array Value), EndsEN N M K D n w l e → FitsD D n e ⟨xs, D⟩ → (∀ i d F, (i, some d, F) ∈ l → d < n) → Ends (EndsN N M K) D w l xs
 | [], e, xs, h, hf, _ => fun hp hm => h _ hf hp hm
 | (i, none, F) :: l, e, xs, h, hf, hd => endsEN_ends l e xs h hf (fun i d F hm => hd i d F (List.mem_cons_of_mem _ hm))
 | (i, some d, F) :: l, e, xs, h, hf, hd => fun v hv => endsEN_ends l _ _ (h v hv) (hf.put v (hd i d F (List.mem_cons_self ..))) (fun i d F hm => hd i d F (List.mem_cons_of_mem _ hm))
theorem ek_N {N : List (Nat × Nat)} {M : MemL} {K : Act → World → Prop} {n i d : Nat} {w : World} {x : Value} {l : List (Nat × Option Nat × (Value → World → Prop))} {e : Env} (h : EndsEN N M K D n w l ((d, x) :: e)) : EndsEN N M K D n w ((i, some d, fun v _ => v = x) :: l) e := fun _ hv => hv ▸ h
/-- a statement that draws its order and makes the blocks of the operations N -/
theorem region_drawn_new (late : List Nat) (N : List (Nat × Nat)) (M : MemL) (T : World → Prop) (R : World → World → Prop) (rs : List (Nat × Option Nat)) (us : List Nat) (Lz : Array Bool) (ks : List Nat) {id n : Nat} {e : Env} (hE : FitsD D n e a) (hT : T w.drew) (hRs : ∀ w w', R w w' → w.heap.size ≤ w'.heap.size) (hMG : ∀ y ∈ M, ∀ v w w', R w w' → y.2.2 v w → y.2.2 v w')
    (h : ∀ Q' K, Hush (∀ a w, Q .normal a w → K a w) → SeqN P .any ops Q' N M T R n us a (fun acc => ∀ w', T w' → EndsEN N M (Late true P ops Q' K late) D n w' acc.reverse (pick ks e)) rs [])
    (hm : P.follows .mixedOrders = true := by kernel_rfl) (hN : nwsB N ops n = true := by kernel_rfl) (hMB : memsB .any M ops = true := by kernel_rfl) (hMz : (M.all fun p => Lz.getD p.1 false) = true := by kernel_rfl) (hNz : (N.all fun p => Lz.getD p.1 false) = true := by kernel_rfl)
    (hback : backB .any ops = true := by kernel_rfl) (hlate : lateB .any ops (Array.replicate ops.size false) late = true := by kernel_rfl) (hclosed : closedB .any ops (Array.replicate ops.size false) = true := by kernel_rfl) (hseq : seqB n ops rs = true := by kernel_rfl) (hus : rs.filterMap (·.2) = us := by kernel_rfl) (hap : apartB ops (rs.map (·.1)) = true := by kernel_rfl)
    (hLz : ((List.range ops.size).map fun i => !late.contains i).toArray = Lz := by kernel_rfl) (hrs : (List.range ops.size).filter (fun i => !late.contains i && !(Array.replicate ops.size false).getD i true) = rs.map (·.1) := by kernel_rfl) (hsz : rs.length + late.length = ops.size := by kernel_rfl) (hord : lateOrdB .any ops Lz late = true := by kernel_rfl)
    (hlo : (late.all fun k => !(Array.replicate ops.size false).getD k false) = true := by kernel_rfl) (hks : (ks.all fun t => !us.contains t) = true := by decide) : (Code.region id ops true).wp P Q a w := by
 refine (wpIn_wide (n := 5)).1 (wpIn_mono (Go.wpIn_region_any hm ?_) cutQ_out)
 have h0 := h (cutQ Q) (Q .normal) (fun _ _ h => h)
 refine seq_anyN (Q := cutQ Q) (anyLike_in cutQ_not) late n N M T R rs us Lz hN hMB hMz hMG hNz hRs hback hlate hlo hclosed hseq hus hap hLz hrs hsz hE.2.1 hT ?_
 have hmono : ∀ (rs' : List (Nat × Option Nat)) (acc : List (Nat × Option Nat × (Value → World → Prop))), (∀ p ∈ rs', ∀ d, p.2 = some d → d < n) → (∀ x ∈ acc, ∀ d, x.2.1 = some d → d < n) →
     SeqN P .any ops (cutQ Q) N M T R n us a (fun acc => ∀ w', T w' → EndsEN N M (Late true P ops (cutQ Q) (Q .normal) late) D n w' acc.reverse (pick ks e)) rs' acc →
     SeqN P .any ops (cutQ Q) N M T R n us a (fun acc => ∀ w', T w' → Ends (EndsN N M (wpAnyIn Fence.wide 5 P .any ops (cutQ Q) late.length Lz)) a.defers w' acc.reverse a.tmps) rs' acc := by
  intro rs'
  induction rs' with
  | nil =>
   intro acc _ hacc h w' hT'
   have h1 := h w' hT'
   rw [hE.1]
   refine endsEN_ends acc.reverse (pick ks e) a.tmps ?_ ?_ (fun i d F hm => hacc _ (List.mem_reverse.1 hm) d rfl)
   ·have hk : ∀ (l : List (Nat × Option Nat × (Value → World → Prop))) (e' : Env), EndsEN N M (Late true P ops (cutQ Q) (Q .normal) late) D n w' l e' → EndsEN N M (wpAnyIn Fence.wide 5 P .any ops (cutQ Q) late.length Lz) D n w' l e' := by
     intro l
     induction l with
     | nil => intro e' h a' hf hp hm; exact late_anyIn cutQ_not (fun _ _ h => h) late Lz a' w' hord (h a' hf hp hm)
     | cons x l ih =>
      obtain ⟨i, d, F⟩ := x
      cases d with
      | none => intro e' h; exact ih _ h
      | some d => intro e' h v hv; exact ih _ (h v hv)
    exact hk _ _ h1
   ·have := hE.keep ks
    exact ⟨rfl, this.2.1, this.2.2⟩
  | cons p rs' ih =>
   obtain ⟨i, d⟩ := p
   intro acc hr hacc h
   obtain ⟨F, hF, hst, hs⟩ := h
   exact ⟨F, hF, hst, ih _ (fun p hp => hr p (List.mem_cons_of_mem _ hp)) (fun x hx => by
    rcases List.mem_cons.1 hx with rfl | hx
    ·exact hr (i, d) (List.mem_cons_self ..)
    ·exact hacc x hx) hs⟩
 refine hmono rs [] (fun p hp d hd => ?_) (fun _ hx => by cases hx) h0
 have h0 := List.all_eq_true.1 hseq _ hp
 rw [Bool.and_eq_true] at h0
 have h2 := h0.2
 rw [hd] at h2
 exact of_decide_eq_true h2
end
end Go.Proofs.YtkhmcofmjjmjhaaDoor
