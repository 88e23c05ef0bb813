/- A statement that draws its order, walked operation by operation in the text's order: each is walked once, and what it leaves is told where it is walked. -/
import Derived.Test.YtkhmcofmjjmjhaaDoorKLZ

namespace Go.Proofs.YtkhmcofmjjmjhaaDoor
set_option linter.unusedSimpArgs false
set_option linter.unusedVariables false
open Go
theorem eval_of {a : Act} {t : Nat} {v : Value} (h : a.tmps[t]? = some v) : a.eval (.tmp t) = v := by
  simp only [Act.eval, Array.getD_eq_getD_getElem?, h, Option.getD_some]
theorem wanted_none {o : Oper} {y : Nat → Option Bool} (h : o.guard = none) : Region.wanted o y = true := by
  unfold Region.wanted; rw [h]
theorem wanted_yes {ops : Array Oper} {xs : Array Value} {o : Oper} {j d : Nat} {b : Bool} (h : o.guard = some (j, b)) (hd : (ops[j]?).bind (·.dst) = some d) (hv : xs[d]? = some (.bool b)) : Region.wanted o (yielded ops xs) = true := by
  unfold Region.wanted yielded; rw [h]; simp only [hd, Option.bind_some, hv, beq_self_eq_true]
theorem wanted_no {ops : Array Oper} {xs : Array Value} {o : Oper} {j d : Nat} {b c : Bool} (h : o.guard = some (j, b)) (hd : (ops[j]?).bind (·.dst) = some d) (hv : xs[d]? = some (.bool c)) (hc : c = !b) : ¬ Region.wanted o (yielded ops xs) = true := by
  subst hc
  unfold Region.wanted yielded; rw [h]; simp only [hd, Option.bind_some, hv]; cases b <;> simp
theorem wanted_un {ops : Array Oper} {xs : Array Value} {o : Oper} {j d : Nat} {b : Bool} (h : o.guard = some (j, b)) (hd : (ops[j]?).bind (·.dst) = some d) (hv : xs[d]? = some undef) : ¬ Region.wanted o (yielded ops xs) = true := by
  unfold Region.wanted yielded; rw [h]; simp only [hd, Option.bind_some, hv, undef]; simp
section
variable {P : Program} {md : Region.Mode} {ops : Array Oper} {Q : Exit → Act → World → Prop}
/-- what is told of an operation's slot -/
def Told (k : Nat) (ops : Array Oper) (G : Value → World → Prop) (a : Act) (w : World) : Prop := ∀ d, (ops[k]?).bind (·.dst) = some d → ∃ v, a.tmps[d]? = some v ∧ G v w
/-- what a step is given: a frame of a size, in which the other slots are as they were -/
def SameBut (n : Nat) (us : List Nat) (a0 a : Act) : Prop := a.defers = a0.defers ∧ a.tmps.size = n ∧ ∀ t, us.contains t = false → a.tmps[t]? = a0.tmps[t]?
theorem SameBut.at {n : Nat} {us : List Nat} {a0 a : Act} (h : SameBut n us a0 a) (t : Nat) {v : Value} (hu : us.contains t = false) (hv : a0.tmps[t]? = some v) : a.tmps[t]? = some v := (h.2.2 t hu).trans hv
variable (P md ops Q) in
def StepOk (T : World → Prop) (R : World → World → Prop) (n : Nat) (us : List Nat) (a0 : Act) (acc : List (Nat × Option Nat × (Value → World → Prop))) (i : Nat) (F : Value → World → Prop) : Prop :=
  ∀ o, ops[i]? = some o → ∀ a w, SameBut n us a0 a → T w → (∀ k d G, (k, d, G) ∈ acc → depB md o k = true → Told k ops G a w) → ∀ K : Act → World → Prop, Hush (∀ a' v w', a' = a.put o.dst v → F v w' → T w' → R w w' → K a' w') →
    if Region.wanted o (yielded ops a.tmps) = true then Oper.wp P o a w K Q else K (a.put o.dst undef) w
variable (P md ops Q) in
def SeqOps (T : World → Prop) (R : World → World → Prop) (n : Nat) (us : List Nat) (a0 : Act) (fin : List (Nat × Option Nat × (Value → World → Prop)) → Prop) : List (Nat × Option Nat) → List (Nat × Option Nat × (Value → World → Prop)) → Prop
  | [], acc => fin acc
  | (i, d) :: rs, acc => ∃ F, (∀ v w w', R w w' → F v w → F v w') ∧ StepOk P md ops Q T R n us a0 acc i F ∧ SeqOps T R n us a0 fin rs ((i, d, F) :: acc)
/-- what is left at the end -/
def Ends (K : Act → World → Prop) (D : List Deferred) (w : World) : List (Nat × Option Nat × (Value → World → Prop)) → Array Value → Prop
  | [], xs => K ⟨xs, D⟩ w
  | (_, some d, F) :: l, xs => ∀ v, F v w → Ends K D w l (xs.setIfInBounds d v)
  | (_, none, _) :: l, xs => Ends K D w l xs
variable {T : World → Prop} {R : World → World → Prop} {n : Nat} {us : List Nat} {a0 : Act} {fin : List (Nat × Option Nat × (Value → World → Prop)) → Prop} {acc : List (Nat × Option Nat × (Value → World → Prop))} {rs : List (Nat × Option Nat)} {i : Nat} {d : Option Nat}
theorem SeqOps.nil (h : fin acc) : SeqOps P md ops Q T R n us a0 fin [] acc := h
theorem SeqOps.say (F : Value → World → Prop) (hF : ∀ v w w', R w w' → F v w → F v w') (h : StepOk P md ops Q T R n us a0 acc i F) (hs : SeqOps P md ops Q T R n us a0 fin rs ((i, d, F) :: acc)) : SeqOps P md ops Q T R n us a0 fin ((i, d) :: rs) acc := ⟨F, hF, h, hs⟩
theorem SeqOps.val (x : Value) (h : StepOk P md ops Q T R n us a0 acc i (fun v _ => v = x)) (hs : SeqOps P md ops Q T R n us a0 fin rs ((i, d, fun v _ => v = x) :: acc)) : SeqOps P md ops Q T R n us a0 fin ((i, d) :: rs) acc := ⟨_, fun _ _ _ _ h => h, h, hs⟩
theorem StepOk.plain {F : Value → World → Prop} {o : Oper} (ho : ops[i]? = some o) (hg : o.guard = none)
    (h : ∀ a w, SameBut n us a0 a → T w → (∀ k d G, (k, d, G) ∈ acc → depB md o k = true → Told k ops G a w) → ∀ K : Act → World → Prop, Hush (∀ a' v w', a' = a.put o.dst v → F v w' → T w' → R w w' → K a' w') → Oper.wp P o a w K Q) : StepOk P md ops Q T R n us a0 acc i F := fun o' ho' a w h1 h2 h3 K hK => by
  rw [ho] at ho'; cases ho'
  rw [if_pos (wanted_none hg)]
  exact h a w h1 h2 h3 K hK
theorem StepOk.yes {F : Value → World → Prop} {o : Oper} (ho : ops[i]? = some o) {j e : Nat} {b : Bool} (hg : o.guard = some (j, b)) (p : Nat) {d' : Option Nat} (hj : acc[p]? = some (j, d', fun v _ => v = .bool b)) (hd : (ops[j]?).bind (·.dst) = some e) (hdep : depB md o j = true)
    (h : ∀ a w, SameBut n us a0 a → T w → (∀ k d G, (k, d, G) ∈ acc → depB md o k = true → Told k ops G a w) → ∀ K : Act → World → Prop, Hush (∀ a' v w', a' = a.put o.dst v → F v w' → T w' → R w w' → K a' w') → Oper.wp P o a w K Q) : StepOk P md ops Q T R n us a0 acc i F := fun o' ho' a w h1 h2 h3 K hK => by
  rw [ho] at ho'; cases ho'
  obtain ⟨v, hv, rfl⟩ := h3 j d' _ (List.mem_of_getElem? hj) hdep e hd
  rw [if_pos (wanted_yes hg hd hv)]
  exact h a w h1 h2 h3 K hK
theorem StepOk.no {o : Oper} (ho : ops[i]? = some o) {j e : Nat} {b c : Bool} (hg : o.guard = some (j, b)) (p : Nat) {d' : Option Nat} (hj : acc[p]? = some (j, d', fun v _ => v = .bool c)) (hc : c = !b) (hd : (ops[j]?).bind (·.dst) = some e) (hdep : depB md o j = true) (hR : ∀ w, R w w) : StepOk P md ops Q T R n us a0 acc i (fun v _ => v = undef) := fun o' ho' a w h1 h2 h3 K hK => by
  rw [ho] at ho'; cases ho'
  obtain ⟨v, hv, rfl⟩ := h3 j d' _ (List.mem_of_getElem? hj) hdep e hd
  rw [if_neg (wanted_no hg hd hv hc)]
  exact hK.out _ _ _ rfl rfl h2 (hR w)
theorem StepOk.un {o : Oper} (ho : ops[i]? = some o) {j e : Nat} {b : Bool} (hg : o.guard = some (j, b)) (p : Nat) {d' : Option Nat} (hj : acc[p]? = some (j, d', fun v _ => v = undef)) (hd : (ops[j]?).bind (·.dst) = some e) (hdep : depB md o j = true) (hR : ∀ w, R w w) : StepOk P md ops Q T R n us a0 acc i (fun v _ => v = undef) := fun o' ho' a w h1 h2 h3 K hK => by
  rw [ho] at ho'; cases ho'
  obtain ⟨v, hv, rfl⟩ := h3 j d' _ (List.mem_of_getElem? hj) hdep e hd
  rw [if_neg (wanted_un hg hd hv)]
  exact hK.out _ _ _ rfl rfl h2 (hR w)
/-- what is told of an operation for which one waits -/
theorem told_get {o : Oper} {a : Act} {w : World} (h : ∀ k d G, (k, d, G) ∈ acc → depB md o k = true → Told k ops G a w) (p : Nat) {k e : Nat} {d' : Option Nat} {G : Value → World → Prop} (hp : acc[p]? = some (k, d', G)) (hd : (ops[k]?).bind (·.dst) = some e) (hdep : depB md o k = true) : ∃ v, a.tmps[e]? = some v ∧ G v w :=
  h k d' G (List.mem_of_getElem? hp) hdep e hd
theorem told_val {o : Oper} {a : Act} {w : World} (h : ∀ k d G, (k, d, G) ∈ acc → depB md o k = true → Told k ops G a w) (p : Nat) {k e : Nat} {d' : Option Nat} {x : Value} (hp : acc[p]? = some (k, d', fun v _ => v = x)) (hd : (ops[k]?).bind (·.dst) = some e) (hdep : depB md o k = true) : a.tmps[e]? = some x := by
  obtain ⟨v, hv, rfl⟩ := told_get h p hp hd hdep
  exact hv
theorem seq_gather : ∀ (rs : List (Nat × Option Nat)) (acc : List (Nat × Option Nat × (Value → World → Prop))), SeqOps P md ops Q T R n us a0 fin rs acc →
    ∃ new : List (Nat × Option Nat × (Value → World → Prop)), new.map (fun x => (x.1, x.2.1)) = rs.reverse ∧ fin (new ++ acc) ∧ ∀ x ∈ new, (∀ v w w', R w w' → x.2.2 v w → x.2.2 v w') ∧ ∃ pre, (∀ y ∈ pre, y ∈ new ++ acc) ∧ StepOk P md ops Q T R n us a0 pre x.1 x.2.2
  | [], acc, h => ⟨[], rfl, h, fun _ hx => by cases hx⟩
  | (i, d) :: rs, acc, h => by
    obtain ⟨F, hF, hst, hs⟩ := h
    obtain ⟨new, h1, h2, h3⟩ := seq_gather rs _ hs
    refine ⟨new ++ [(i, d, F)], by simp [h1], by simpa using h2, fun x hx => ?_⟩
    rcases List.mem_append.1 hx with hx | hx
    · obtain ⟨h4, pre, h5, h6⟩ := h3 x hx
      exact ⟨h4, pre, fun y hy => by simpa using h5 y hy, h6⟩
    · obtain rfl := List.mem_singleton.1 hx
      exact ⟨hF, acc, fun y hy => List.mem_append_right _ hy, hst⟩
def lookF : List (Nat × Option Nat × (Value → World → Prop)) → Nat → Value → World → Prop
  | [], _ => fun _ _ => True
  | (k, _, F) :: l, j => if j = k then F else lookF l j
theorem lookF_mem : ∀ {l : List (Nat × Option Nat × (Value → World → Prop))}, (l.map (·.1)).Nodup → ∀ x ∈ l, lookF l x.1 = x.2.2
  | (k, d, F) :: l, hn, x, hx => by
    rw [List.map_cons, List.nodup_cons] at hn
    rcases List.mem_cons.1 hx with rfl | hx
    · simp [lookF]
    · have hne : x.1 ≠ k := fun e => hn.1 (by rw [← e]; exact List.mem_map_of_mem (f := (·.1)) hx)
      simp only [lookF, if_neg hne]
      exact lookF_mem hn.2 x hx
theorem lookF_stable {l : List (Nat × Option Nat × (Value → World → Prop))} (h : ∀ x ∈ l, ∀ v w w', R w w' → x.2.2 v w → x.2.2 v w') : ∀ j v w w', R w w' → lookF l j v w → lookF l j v w' := by
  induction l with
  | nil => intro _ _ _ _ _ h; exact h
  | cons x l ih =>
    obtain ⟨k, d, F⟩ := x
    intro j v w w' hr hv
    by_cases e : j = k
    · simp only [lookF, if_pos e] at hv ⊢; exact h _ (List.mem_cons_self ..) v w w' hr hv
    · simp only [lookF, if_neg e] at hv ⊢; exact ih (fun x hx => h x (List.mem_cons_of_mem _ hx)) j v w w' hr hv
theorem ends_use {K : Act → World → Prop} {D : List Deferred} {w : World} {a : Act} (hD : a.defers = D) : ∀ (l : List (Nat × Option Nat × (Value → World → Prop))) (xs : Array Value), Ends K D w l xs → (∀ i d F, (i, some d, F) ∈ l → ∃ v, a.tmps[d]? = some v ∧ F v w) →
    xs.size = a.tmps.size → (∀ t, (∀ i F, (i, some t, F) ∉ l) → xs[t]? = a.tmps[t]?) → K a w
  | [], xs, h, _, hs, ht => by
    have e : xs = a.tmps := Array.ext hs fun t h1 h2 => by
      have := ht t (fun _ _ h => by cases h)
      rw [Array.getElem?_eq_getElem h1, Array.getElem?_eq_getElem h2] at this
      exact Option.some.inj this
    subst e hD
    exact h
  | (i, none, F) :: l, xs, h, hv, hs, ht => ends_use hD l xs h (fun i d F hm => hv i d F (List.mem_cons_of_mem _ hm)) hs (fun t hn => ht t fun i' F' hm => by
      rcases List.mem_cons.1 hm with e | hm
      · cases e
      · exact hn i' F' hm)
  | (i, some d, F) :: l, xs, h, hv, hs, ht => by
    obtain ⟨v, h1, h2⟩ := hv i d F (List.mem_cons_self ..)
    refine ends_use hD l _ (h v h2) (fun i d F hm => hv i d F (List.mem_cons_of_mem _ hm)) (by simpa using hs) fun t hn => ?_
    by_cases e : d = t
    · subst e
      have hlt : d < xs.size := by rw [hs]; exact (Array.getElem?_eq_some_iff.1 h1).1
      rw [h1]; simp [hlt]
    · rw [Array.getElem?_setIfInBounds_ne e]
      exact ht t fun i' F' hm => by
        rcases List.mem_cons.1 hm with e' | hm
        · cases e'; exact e rfl
        · exact hn i' F' hm
def seqB (n : Nat) (ops : Array Oper) (rs : List (Nat × Option Nat)) : Bool := rs.all fun p => (match ops[p.1]? with
  | some o => o.dst == p.2
  | none => false) && (match p.2 with | some d => decide (d < n) | none => true)
theorem seq_anyX {X : Nat → Array Bool → Act → World → Prop} (hX : AnyLike P md ops Q X) {L0 : Array Bool} (late : List Nat) (n : Nat) (T : World → Prop) (R : World → World → Prop) (rs : List (Nat × Option Nat)) (us : List Nat) (Lz : Array Bool) {m : Nat} {a : Act} {w : World}
    (hback : backB md ops = true) (hlate : lateB md ops L0 late = true) (hlate0 : (late.all fun k => !L0.getD k false) = true) (hclosed : closedB md ops L0 = true) (hseq : seqB n ops rs = true) (hus : rs.filterMap (·.2) = us) (hap : apartB ops (rs.map (·.1)) = true)
    (hLz : ((List.range ops.size).map fun i => !late.contains i).toArray = Lz) (hrs : (List.range ops.size).filter (fun i => !late.contains i && !L0.getD i true) = rs.map (·.1)) (hsz : rs.length + late.length = m)
    (hsize : a.tmps.size = n) (hT : T w)
    (h : SeqOps P md ops Q T R n us a (fun acc => ∀ w', T w' → Ends (X late.length Lz) a.defers w' acc.reverse a.tmps) rs []) :
    X m L0 a w := by
  obtain ⟨new, h1, h2, h3⟩ := seq_gather rs [] h
  rw [List.append_nil] at h2
  have hmap : new.map (·.1) = (rs.map (·.1)).reverse := by
    have := congrArg (List.map Prod.fst) h1
    simpa [List.map_map, Function.comp_def, List.map_reverse] using this
  have hnd : (new.map (·.1)).Nodup := by
    rw [hmap]
    unfold List.Nodup
    rw [List.pairwise_reverse]
    simp only [ne_comm (α := Nat)]
    show (rs.map (·.1)).Nodup
    rw [← hrs]
    exact List.Pairwise.filter _ List.nodup_range
  have hdst : ∀ x ∈ new, ∃ o, ops[x.1]? = some o ∧ o.dst = x.2.1 ∧ ∀ d, x.2.1 = some d → d < n := fun x hx => by
    have hm : (x.1, x.2.1) ∈ rs := by
      have : (x.1, x.2.1) ∈ new.map (fun x => (x.1, x.2.1)) := List.mem_map_of_mem (f := fun x => (x.1, x.2.1)) hx
      rw [h1] at this
      exact List.mem_reverse.1 this
    have h0 := List.all_eq_true.1 hseq _ hm
    rw [Bool.and_eq_true] at h0
    obtain ⟨h01, h02⟩ := h0
    cases ho : ops[x.1]? with
    | none => simp [ho] at h01
    | some o =>
      refine ⟨o, rfl, by simpa [ho] using h01, fun d hd => ?_⟩
      simp only [hd] at h02
      exact of_decide_eq_true h02
  have hus' : ∀ x ∈ new, ∀ d, x.2.1 = some d → d ∈ us := fun x hx d hd => by
    have hm : (x.1, x.2.1) ∈ rs := by
      have : (x.1, x.2.1) ∈ new.map (fun x => (x.1, x.2.1)) := List.mem_map_of_mem (f := fun x => (x.1, x.2.1)) hx
      rw [h1] at this
      exact List.mem_reverse.1 this
    rw [← hus, List.mem_filterMap]
    exact ⟨_, hm, hd⟩
  have husn : ∀ t, us.contains t = true → ∃ x ∈ new, x.2.1 = some t := fun t ht => by
    have ht' : t ∈ us := by simpa using ht
    rw [← hus, List.mem_filterMap] at ht'
    obtain ⟨p, hp, hd⟩ := ht'
    have : p ∈ new.map (fun x => (x.1, x.2.1)) := by rw [h1]; exact List.mem_reverse.2 hp
    obtain ⟨x, hx, rfl⟩ := List.mem_map.1 this
    exact ⟨x, hx, hd⟩
  have hsame : ∀ a' : Act, a'.defers = a.defers → a'.tmps.size = n → (∀ t, ((List.range n).filter fun t => !us.contains t).contains t = true → a'.tmps[t]? = some (a.tmps.getD t undef)) → SameBut n us a a' := fun a' hd hs hk => ⟨hd, hs, fun t ht => by
    by_cases hlt : t < n
    · rw [hk t (by simp only [List.contains_iff_mem, List.mem_filter, List.mem_range, ht, hlt]; decide)]
      have : t < a.tmps.size := by omega
      simp [this]
    · rw [Array.getElem?_eq_none (by omega), Array.getElem?_eq_none (by omega)]⟩
  have hall : ∀ i, i ∈ rs.map (·.1) → ∃ x ∈ new, x.1 = i := fun i hi => by
    have : i ∈ new.map (·.1) := by rw [hmap]; exact List.mem_reverse.2 hi
    obtain ⟨x, hx, e⟩ := List.mem_map.1 this
    exact ⟨x, hx, e⟩
  refine lin_anyX hX late n (lookF new) T R ((List.range n).filter fun t => !us.contains t) Lz (rs.map (·.1)) hback hlate hlate0 hclosed ?_ ?_ hap hLz hrs (by simpa using hsz) (lookF_stable fun x hx => (h3 x hx).1) hsize hT ?_ ?_
  · refine List.all_eq_true.2 fun t ht => ?_
    rw [List.mem_filter, List.mem_range] at ht
    exact decide_eq_true ht.1
  · refine List.all_eq_true.2 fun j hj => ?_
    obtain ⟨x, hx, rfl⟩ := hall j hj
    obtain ⟨o, ho, hd, hn⟩ := hdst x hx
    simp only [ho]
    cases hod : o.dst with
    | none => rfl
    | some d =>
      have hx2 : x.2.1 = some d := by rw [← hd, hod]
      have := hn d hx2
      have hu := hus' x hx d hx2
      simp [this, hu]
  · intro a' w' hd hs hk hT' i hi o ho hdeps K hK
    obtain ⟨x, hx, rfl⟩ := hall i hi
    obtain ⟨_, pre, hpre, hst⟩ := h3 x hx
    rw [← lookF_mem hnd x hx] at hst
    refine hst o ho a' w' (hsame a' hd hs hk) hT' (fun k d G hkG hdep => ?_) K hK
    have hm := hpre _ hkG
    rw [List.append_nil] at hm
    have hk' : k ∈ rs.map (·.1) := by
      have : k ∈ new.map (·.1) := List.mem_map_of_mem (f := (·.1)) hm
      rw [hmap] at this
      exact List.mem_reverse.1 this
    have hkn := hdeps k hdep hk'
    intro d' hd'
    obtain ⟨v, hv, hF⟩ := hkn.get hd'
    have e : lookF new k = G := lookF_mem hnd _ hm
    rw [e] at hF
    exact ⟨v, hv, hF⟩
  · intro a' w' hd hs hk hT' hall'
    refine ends_use (K := X late.length Lz) hd new.reverse a.tmps (h2 w' hT') (fun i d F hm => ?_) (by omega) fun t ht => ?_
    · have hm' := List.mem_reverse.1 hm
      have hi : i ∈ rs.map (·.1) := by
        have : i ∈ new.map (·.1) := List.mem_map_of_mem (f := (·.1)) hm'
        rw [hmap] at this
        exact List.mem_reverse.1 this
      obtain ⟨o, ho, hod, _⟩ := hdst _ hm'
      obtain ⟨v, hv, hF⟩ := hall' i (by simpa using hi) o d ho hod
      have e : lookF new i = F := lookF_mem hnd _ hm'
      rw [e] at hF
      exact ⟨v, hv, hF⟩
    · have hc : us.contains t = false := by
        cases hc : us.contains t with
        | false => rfl
        | true =>
          obtain ⟨x, hx, he⟩ := husn t hc
          obtain ⟨i, d, F⟩ := x
          subst he
          exact absurd (List.mem_reverse.2 hx) (ht i F)
      exact ((hsame a' hd hs hk).2.2 t hc).symm
end
end Go.Proofs.YtkhmcofmjjmjhaaDoor
