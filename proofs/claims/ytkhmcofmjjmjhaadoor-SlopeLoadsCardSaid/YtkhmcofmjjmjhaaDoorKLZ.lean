/- A statement that draws its order, walked operation by operation: each is walked once, whatever the others have done so far. -/
import Derived.Deep.RegionHeld
namespace Go.Proofs.YtkhmcofmjjmjhaaDoor
set_option linter.unusedSimpArgs false
set_option linter.unusedVariables false
open Go
section
variable {P : Program} {md : Region.Mode} {ops : Array Oper} {Q : Exit → Act → World → Prop}
/-- what is listed has all listed that it waits for -/
def Closed (md : Region.Mode) (ops : Array Oper) (L : Array Bool) : Prop :=
  ∀ (j : Nat) (o : Oper), L.getD j false = true → ops[j]? = some o → ∀ e ∈ o.after, Region.binds md e = true → L.getD e.on false = true
/-- some operations, and all for which they wait -/
def marks (md : Region.Mode) (ops : Array Oper) : List Nat → List Nat → List Nat
  | [], m => m
  | j :: js, m => marks md ops js (if m.contains j then (match ops[j]? with
    | some o => (o.after.toList.filter (Region.binds md)).map (·.on) ++ m
    | none => m) else m)
theorem marks_sound {L : Array Bool} (hc : Closed md ops L) : ∀ (js m : List Nat), (∀ k ∈ m, L.getD k false = true) → ∀ k ∈ marks md ops js m, L.getD k false = true
  | [], m, h, k, hk => h k hk
  | j :: js, m, h, k, hk => by
    refine marks_sound hc js _ ?_ k hk
    intro k hk
    split at hk
    · rename_i hj
      have hj' : j ∈ m := by simpa using hj
      cases ho : ops[j]? with
      | none => rw [ho] at hk; exact h k hk
      | some o =>
        rw [ho] at hk
        simp only [List.mem_append, List.mem_map, List.mem_filter] at hk
        rcases hk with ⟨e, ⟨he, hb⟩, rfl⟩ | hk
        · exact hc j o (h j hj') ho e (by simpa using he) hb
        · exact h k hk
    · exact h k hk
def backB (md : Region.Mode) (ops : Array Oper) : Bool := (List.range ops.size).all fun j => match ops[j]? with
  | some o => o.after.all fun e => !Region.binds md e || decide (e.on < j)
  | none => true
def lateB (md : Region.Mode) (ops : Array Oper) (L0 : Array Bool) (late : List Nat) : Bool := late.all fun k => decide (k < ops.size) &&
  (let m := marks md ops (List.range ops.size).reverse [k]; (List.range ops.size).all fun i => (late.contains i || m.contains i) || L0.getD i true)
def dstB (n : Nat) (ks : List Nat) (ops : Array Oper) (rs : List Nat) : Bool := rs.all fun j => match ops[j]? with
  | some o => (match o.dst with
    | some d => decide (d < n) && !ks.contains d
    | none => true)
  | none => true
def apartB (ops : Array Oper) (rs : List Nat) : Bool := rs.all fun i => rs.all fun j => (i == j) || (match ops[i]?, ops[j]? with
  | some a, some b => a.dst.isNone || a.dst != b.dst
  | _, _ => true)
def closedB (md : Region.Mode) (ops : Array Oper) (L : Array Bool) : Bool := decide (L.size = ops.size) && ((List.range ops.size).all fun j => !L.getD j false || (match ops[j]? with
  | some o => o.after.all fun e => !Region.binds md e || L.getD e.on false
  | none => true))
theorem closedB_sound {md : Region.Mode} {ops : Array Oper} {L : Array Bool} (h : closedB md ops L = true) : L.size = ops.size ∧ Closed md ops L := by
  unfold closedB at h
  rw [Bool.and_eq_true] at h
  refine ⟨of_decide_eq_true h.1, fun j o hj ho e he hb => ?_⟩
  have hlt : j < ops.size := (Array.getElem?_eq_some_iff.1 ho).1
  have h1 := List.all_eq_true.1 h.2 j (List.mem_range.2 hlt)
  simp only [hj, ho, Bool.not_true, Bool.false_or, Array.all_eq_true_iff_forall_mem] at h1
  have h2 := h1 e he
  simpa [hb] using h2
def depB (md : Region.Mode) (o : Oper) (k : Nat) : Bool := o.after.any fun e => Region.binds md e && e.on == k
variable (ops) in
/-- what is known of what an operation has left -/
def Known (F : Nat → Value → World → Prop) (j : Nat) (a : Act) (w : World) : Prop := ∀ o d, ops[j]? = some o → o.dst = some d → ∃ v, a.tmps[d]? = some v ∧ F j v w
theorem Known.get {F : Nat → Value → World → Prop} {k : Nat} {a : Act} {w : World} (h : Known ops F k a w) {d : Nat} (hd : (ops[k]?).bind (·.dst) = some d) : ∃ v, a.tmps[d]? = some v ∧ F k v w := by
  cases ho : ops[k]? with
  | none => rw [ho] at hd; cases hd
  | some o => rw [ho] at hd; exact h o d ho hd
/-- the temporaries: so many, some of them known -/
def Tm (n : Nat) (known : List (Nat × Value)) (xs : Array Value) : Prop := xs.size = n ∧ ∀ p ∈ known, xs[p.1]? = some p.2
def Hush (p : Prop) : Prop := p
theorem Hush.out {p : Prop} (h : Hush p) : p := h
/-- each of some operations, walked once -/
def LinOps (P : Program) (md : Region.Mode) (ops : Array Oper) (all : List Nat) (Q : Exit → Act → World → Prop) (F : Nat → Value → World → Prop) (T : World → Prop) (R : World → World → Prop) (a : Act) (w : World) (rs : List Nat) : Prop :=
  ∀ i ∈ rs, ∀ o, ops[i]? = some o → (∀ k, depB md o k = true → k ∈ all → Known ops F k a w) → ∀ K : Act → World → Prop, Hush (∀ a' v w', a' = a.put o.dst v → F i v w' → T w' → R w w' → K a' w') →
    if Region.wanted o (yielded ops a.tmps) = true then Oper.wp P o a w K Q else K (a.put o.dst undef) w
theorem LinOps.nil {all : List Nat} {F : Nat → Value → World → Prop} {T : World → Prop} {R : World → World → Prop} {a : Act} {w : World} : LinOps P md ops all Q F T R a w [] := fun _ h => by cases h
theorem LinOps.cons {all : List Nat} {F : Nat → Value → World → Prop} {T : World → Prop} {R : World → World → Prop} {a : Act} {w : World} {i : Nat} {o : Oper} {rs : List Nat} (ho : ops[i]? = some o)
    (h : (∀ k, depB md o k = true → k ∈ all → Known ops F k a w) → ∀ K : Act → World → Prop, Hush (∀ a' v w', a' = a.put o.dst v → F i v w' → T w' → R w w' → K a' w') →
      if Region.wanted o (yielded ops a.tmps) = true then Oper.wp P o a w K Q else K (a.put o.dst undef) w)
    (hs : LinOps P md ops all Q F T R a w rs) : LinOps P md ops all Q F T R a w (i :: rs) := fun j hj o' ho' => by
  rcases List.mem_cons.1 hj with rfl | hj
  · rw [ho] at ho'; cases ho'; exact h
  · exact hs j hj o' ho'
/-- each of some operations, walked once; E is what is so of what is listed and what was left together -/
def LinE (P : Program) (md : Region.Mode) (ops : Array Oper) (all : List Nat) (Q : Exit → Act → World → Prop) (F : Nat → Value → World → Prop) (T : World → Prop) (R : World → World → Prop) (E : Array Bool → Act → World → Prop) (L : Array Bool) (a : Act) (w : World) (rs : List Nat) : Prop :=
  ∀ i ∈ rs, ∀ o, ops[i]? = some o → L.getD i true = false → (∀ k, depB md o k = true → k ∈ all → Known ops F k a w) → ∀ K : Act → World → Prop, Hush (∀ a' v w', a' = a.put o.dst v → F i v w' → T w' → R w w' → E (L.setIfInBounds i true) (a.put o.dst v) w' → K a' w') →
    if Region.wanted o (yielded ops a.tmps) = true then Oper.wp P o a w K Q else K (a.put o.dst undef) w
theorem LinE.nil {all : List Nat} {F : Nat → Value → World → Prop} {T : World → Prop} {R : World → World → Prop} {E : Array Bool → Act → World → Prop} {L : Array Bool} {a : Act} {w : World} : LinE P md ops all Q F T R E L a w [] := fun _ h => by cases h
theorem LinE.cons {all : List Nat} {F : Nat → Value → World → Prop} {T : World → Prop} {R : World → World → Prop} {E : Array Bool → Act → World → Prop} {L : Array Bool} {a : Act} {w : World} {i : Nat} {o : Oper} {rs : List Nat} (ho : ops[i]? = some o)
    (h : L.getD i true = false → (∀ k, depB md o k = true → k ∈ all → Known ops F k a w) → ∀ K : Act → World → Prop, Hush (∀ a' v w', a' = a.put o.dst v → F i v w' → T w' → R w w' → E (L.setIfInBounds i true) (a.put o.dst v) w' → K a' w') →
      if Region.wanted o (yielded ops a.tmps) = true then Oper.wp P o a w K Q else K (a.put o.dst undef) w)
    (hs : LinE P md ops all Q F T R E L a w rs) : LinE P md ops all Q F T R E L a w (i :: rs) := fun j hj o' ho' => by
  rcases List.mem_cons.1 hj with rfl | hj
  · rw [ho] at ho'; cases ho'; exact h
  · exact hs j hj o' ho'
theorem getD_lt {L : Array Bool} {i : Nat} (h : i < L.size) (d d' : Bool) : L.getD i d = L.getD i d' := by simp [h]
theorem getD_set_same {L : Array Bool} {i : Nat} (h : i < L.size) (d : Bool) : (L.setIfInBounds i true).getD i d = true := by simp [h]
theorem range_all {n : Nat} {p : Nat → Bool} (h : (List.range n).all p = true) {i : Nat} (hi : i < n) : p i = true := List.all_eq_true.1 h i (List.mem_range.2 hi)
def left (ops : Array Oper) (late : List Nat) (L : Array Bool) : List Nat := (List.range ops.size).filter fun i => !late.contains i && !L.getD i true
theorem filter_drop {l : List Nat} {p q : Nat → Bool} {i : Nat} (hn : l.Nodup) (hi : i ∈ l) (hp : p i = true) (hq : q i = false) (h : ∀ j, j ≠ i → q j = p j) : (l.filter p).length = (l.filter q).length + 1 := by
  induction l with
  | nil => simp at hi
  | cons x l ih =>
    obtain ⟨hx, hn'⟩ := List.nodup_cons.1 hn
    by_cases hxi : x = i
    · subst hxi
      have e : l.filter p = l.filter q := List.filter_congr fun y hy => (h y (fun e => hx (e ▸ hy))).symm
      simp [hp, hq, e]
    · have hi' : i ∈ l := by exact (List.mem_cons.1 hi).resolve_left (fun e => hxi e.symm)
      have := ih hn' hi'
      simp only [List.filter_cons, h x hxi]
      split
      · simp only [List.length_cons, this]
      · exact this
variable {F : Nat → Value → World → Prop} {T : World → Prop} {R : World → World → Prop} {late : List Nat} {n : Nat} {known : List (Nat × Value)} {ks : List Nat} {D : List Deferred} {L0 Lz : Array Bool} {rs : List Nat}
variable {E : Array Bool → Act → World → Prop}
/-- a way to say what becomes of a statement whose order is open -/
def AnyLike (P : Program) (md : Region.Mode) (ops : Array Oper) (Q : Exit → Act → World → Prop) (X : Nat → Array Bool → Act → World → Prop) : Prop :=
  ∀ (m : Nat) (L : Array Bool) (a : Act) (w : World), Region.ready md ops L ≠ [] → (∀ i ∈ Region.ready md ops L, ∀ o, ops[i]? = some o → ∀ K : Act → World → Prop, (∀ a w, X m (L.setIfInBounds i true) a w → K a w) →
    if Region.wanted o (yielded ops a.tmps) = true then Oper.wp P o a w K Q else K (a.put o.dst undef) w) → X (m + 1) L a w
variable {X : Nat → Array Bool → Act → World → Prop}
theorem lin_goX (hX : AnyLike P md ops Q X) (hback : backB md ops = true) (hlate : lateB md ops L0 late = true) (hks : known.map Prod.fst = ks) (hdst : dstB n ks ops rs = true) (hap : apartB ops rs = true)
    (hLz : ((List.range ops.size).map fun i => !late.contains i).toArray = Lz) (hrs : (List.range ops.size).filter (fun i => !late.contains i && !L0.getD i true) = rs)
    (hF : ∀ j v w w', R w w' → F j v w → F j v w')
    (hop : ∀ a w L, L.size = ops.size → a.defers = D → Tm n known a.tmps → T w → E L a w → (∀ j, j ∈ rs → L.getD j false = true → Known ops F j a w) → LinE P md ops rs Q F T R E L a w rs)
    (hend : ∀ a w, a.defers = D → Tm n known a.tmps → T w → E Lz a w → (∀ j, rs.contains j = true → Known ops F j a w) → X late.length Lz a w) :
    ∀ (m : Nat) (L : Array Bool) (a : Act) (w : World), L.size = ops.size → Closed md ops L → (∀ k ∈ late, L.getD k false = false) → (∀ i, i ∉ rs → i ∉ late → i < ops.size → L.getD i false = true) → (left ops late L).length = m →
      a.defers = D → Tm n known a.tmps → T w → E L a w → (∀ j, j ∈ rs → L.getD j false = true → Known ops F j a w) → X (m + late.length) L a w := by
  intro m
  induction m with
  | zero =>
    intro L a w hs hc hl hp hm hd ht hT hE hK
    have hall : ∀ i, i < ops.size → i ∉ late → L.getD i true = true := fun i hi hn => by
      cases hL : L.getD i true with
      | true => rfl
      | false =>
        have : i ∈ left ops late L := by
          unfold left
          rw [List.mem_filter]
          exact ⟨List.mem_range.2 hi, by simp only [hL, Bool.not_false, Bool.and_true, Bool.not_eq_true']; simpa using hn⟩
        rw [List.length_eq_zero_iff.1 hm] at this
        cases this
    have hEq : L = Lz := by
      rw [← hLz]
      refine Array.ext (by simp [hs]) fun i h1 h2 => ?_
      have hi : i < ops.size := by omega
      have e1 : L[i] = L.getD i true := by simp [h1]
      have e2 : L[i] = L.getD i false := by simp [h1]
      simp only [List.getElem_toArray, List.getElem_map, List.getElem_range]
      by_cases hmem : i ∈ late
      · rw [e2, hl i hmem]; simp [hmem]
      · rw [e1, hall i hi hmem]; simp [hmem]
    rw [Nat.zero_add, hEq]
    refine hend a w hd ht hT (hEq ▸ hE) fun j hj => ?_
    have hj' : j ∈ rs := by simpa using hj
    have hj2 := hj'
    rw [← hrs, List.mem_filter, List.mem_range, Bool.and_eq_true] at hj2
    have hjl : j < L.size := by omega
    refine hK j hj' ?_
    rw [getD_lt hjl false true]
    exact hall j hj2.1 (by simpa using hj2.2.1)
  | succ m ih =>
    intro L a w hs hc hl hp hm hd ht hT hE hK
    have hidx : m + 1 + late.length = (m + late.length) + 1 := by omega
    rw [hidx]
    have hex : ∃ i, i < ops.size ∧ i ∉ late ∧ L.getD i true = false := by
      cases hle : left ops late L with
      | nil => rw [hle] at hm; simp at hm
      | cons i l =>
        have hi : i ∈ left ops late L := by rw [hle]; exact List.mem_cons_self ..
        unfold left at hi
        rw [List.mem_filter, List.mem_range] at hi
        exact ⟨i, hi.1, by simpa using (by simpa using hi.2 : ¬ i ∈ late ∧ _).1, by simpa using (by simpa using hi.2 : ¬ i ∈ late ∧ _).2⟩
    have hback' : ∀ (j : Nat) (o : Oper), ops[j]? = some o → ∀ e ∈ o.after, Region.binds md e = true → e.on < j := fun j o ho e he hb => by
      have hj : j < ops.size := (Array.getElem?_eq_some_iff.1 ho).1
      have := range_all hback hj
      simp only [ho, Array.all_eq_true_iff_forall_mem] at this
      have h := this e he
      rw [hb] at h
      exact of_decide_eq_true (by simpa using h)
    -- the least one that is not listed may come up
    have hready : Region.ready md ops L ≠ [] := by
      obtain ⟨i, hi, _, hLi⟩ := hex
      have hmin : ∀ k, k < ops.size → L.getD k true = false → ∃ j, j ∈ Region.ready md ops L := by
        intro k
        induction k using Nat.strongRecOn with
        | ind k ihk =>
          intro hk hLk
          by_cases hr : k ∈ Region.ready md ops L
          · exact ⟨k, hr⟩
          · have ho : ops[k]? = some ops[k] := Array.getElem?_eq_getElem hk
            have hnot : ¬ ∀ e ∈ ops[k].after, Region.binds md e = true → L.getD e.on false = true := fun hall => hr (mem_ready.2 ⟨hLk, _, ho, hall⟩)
            simp only [Classical.not_forall] at hnot
            obtain ⟨e, he, hb, hne⟩ := hnot
            have hlt := hback' k _ ho e he hb
            refine ihk e.on hlt (by omega) ?_
            have hel : e.on < L.size := by omega
            rw [getD_lt hel true false]
            simpa using hne
      obtain ⟨j, hj⟩ := hmin i hi hLi
      intro h0
      rw [h0] at hj
      cases hj
    refine hX _ _ _ _ hready (fun i hi o ho K' hK' => ?_)
    obtain ⟨hLi, o', ho', hdeps⟩ := mem_ready.1 hi
    rw [ho] at ho'; cases ho'
    have hio : i < ops.size := (Array.getElem?_eq_some_iff.1 ho).1
    have hil : i < L.size := by omega
    have hc' : Closed md ops (L.setIfInBounds i true) := fun j o' hj ho' e he hb => by
      by_cases hji : j = i
      · subst hji; rw [ho] at ho'; cases ho'; exact getD_set_true (hdeps e he hb)
      · rw [getD_set_ne false (Ne.symm hji)] at hj
        exact getD_set_true (hc j o' hj ho' e he hb)
    have hnl : i ∉ late := fun hmem => by
      obtain ⟨k, hk, hkn, hLk⟩ := hex
      have h1 := List.all_eq_true.1 hlate i hmem
      simp only [Bool.and_eq_true] at h1
      have h2 := range_all h1.2 hk
      simp only [Bool.or_eq_true] at h2
      have hki : i ≠ k := fun e => hkn (e ▸ hmem)
      have hkl : k < L.size := by omega
      rcases h2 with h2 | h2
      · have h3 : k ∈ marks md ops (List.range ops.size).reverse [i] := by
          rcases h2 with h2 | h2
          · exact absurd (by simpa using h2) hkn
          · simpa using h2
        have h4 := marks_sound hc' _ [i] (fun x hx => by rw [List.mem_singleton.1 hx]; exact getD_set_same hil false) k h3
        rw [getD_set_ne false hki] at h4
        rw [getD_lt hkl true false, h4] at hLk
        cases hLk
      · have h4 : k ∉ rs := by
          rw [← hrs, List.mem_filter, Bool.and_eq_true]
          intro h5
          rw [h2] at h5
          simp at h5
        have h6 := hp k h4 hkn hk
        rw [getD_lt hkl true false, h6] at hLk
        cases hLk
    have hirs : i ∈ rs := Classical.byContradiction fun hn => by
      have h6 := hp i hn hnl hio
      rw [getD_lt hil true false, h6] at hLi
      cases hLi
    have hstep := hop a w L hs hd ht hT hE hK i hirs o ho hLi (fun k hk hkr => by
      unfold depB at hk
      rw [Array.any_eq_true] at hk
      obtain ⟨x, hx, hb⟩ := hk
      simp only [Bool.and_eq_true, beq_iff_eq] at hb
      rw [← hb.2] at hkr ⊢
      exact hK _ hkr (hdeps _ (Array.getElem_mem hx) hb.1))
    refine hstep K' ?_
    intro a' v w' ha' hFv hT' hR hE'
    refine hK' a' w' ?_
    subst ha'
    have hdo : ∀ d, o.dst = some d → d < n ∧ ks.contains d = false := fun d hdd => by
      have := List.all_eq_true.1 hdst i hirs
      simp only [ho, hdd, Bool.and_eq_true, decide_eq_true_eq, Bool.not_eq_true'] at this
      exact this
    have hput : ∀ t, (∀ d, o.dst = some d → d ≠ t) → (a.put o.dst v).tmps[t]? = a.tmps[t]? := fun t hne => by
      cases hdd : o.dst with
      | none => rfl
      | some d => simp [Act.put, Array.getElem?_setIfInBounds_ne (hne d hdd)]
    refine ih (L.setIfInBounds i true) (a.put o.dst v) w' (by simp [hs]) hc' ?_ (fun j hj hjn hjo => getD_set_true (hp j hj hjn hjo)) ?_ ?_ ?_ hT' hE' ?_
    · intro k hk
      rw [getD_set_ne false (show i ≠ k from fun e => hnl (e ▸ hk))]
      exact hl k hk
    · have := filter_drop (l := List.range ops.size) (p := fun j => !late.contains j && !L.getD j true) (q := fun j => !late.contains j && !(L.setIfInBounds i true).getD j true) (i := i) List.nodup_range (List.mem_range.2 hio)
        (by rw [hLi]; simpa using hnl) (by rw [getD_set_same hil]; simp) (fun j hj => by rw [getD_set_ne true (Ne.symm hj)])
      unfold left at hm ⊢
      omega
    · cases o.dst <;> exact hd
    · refine ⟨?_, fun p hp => ?_⟩
      · cases o.dst with
        | none => exact ht.1
        | some d => simp [Act.put, ht.1]
      · rw [hput p.1 fun d hdd e => ?_]
        · exact ht.2 p hp
        · have h1 := (hdo d hdd).2
          have h2 : d ∈ ks := by rw [← hks, e]; exact List.mem_map_of_mem hp
          simp [h2] at h1
    · intro j hjr hj o' d ho' hd'
      by_cases hji : j = i
      · subst hji
        rw [ho] at ho'
        cases ho'
        refine ⟨v, ?_, hFv⟩
        have hdn : d < a.tmps.size := by rw [ht.1]; exact (hdo d hd').1
        rw [hd']
        simp [Act.put, hdn]
      · rw [getD_set_ne false (Ne.symm hji)] at hj
        obtain ⟨u, hu, hFu⟩ := hK j hjr hj o' d ho' hd'
        refine ⟨u, ?_, hF _ _ _ _ hR hFu⟩
        rw [hput d fun d' hdd e => ?_]
        · exact hu
        · subst e
          have := List.all_eq_true.1 (List.all_eq_true.1 hap i hirs) j hjr
          simp only [ho, ho', hdd, hd', Bool.or_eq_true, beq_iff_eq, Option.isNone_some, bne_iff_ne, ne_eq, not_true_eq_false, or_false, Bool.false_eq_true] at this
          exact hji this.symm
theorem linE_anyX (hX : AnyLike P md ops Q X) (late : List Nat) (n : Nat) (F : Nat → Value → World → Prop) (T : World → Prop) (R : World → World → Prop) (E : Array Bool → Act → World → Prop) (ks : List Nat) (Lz : Array Bool) (rs : List Nat) {m : Nat} {a : Act} {w : World}
    (hback : backB md ops = true) (hlate : lateB md ops L0 late = true) (hlate0 : (late.all fun k => !L0.getD k false) = true) (hclosed : closedB md ops L0 = true) (hkn : (ks.all fun t => decide (t < n)) = true) (hdst : dstB n ks ops rs = true) (hap : apartB ops rs = true)
    (hLz : ((List.range ops.size).map fun i => !late.contains i).toArray = Lz) (hrs : (List.range ops.size).filter (fun i => !late.contains i && !L0.getD i true) = rs) (hsz : rs.length + late.length = m)
    (hF : ∀ j v w w', R w w' → F j v w → F j v w')
    (hsize : a.tmps.size = n) (hT : T w) (hE : E L0 a w)
    (hop : ∀ a' w' L, L.size = ops.size → a'.defers = a.defers → a'.tmps.size = n → (∀ t, ks.contains t = true → a'.tmps[t]? = some (a.tmps.getD t undef)) → T w' → E L a' w' → (∀ j, j ∈ rs → L.getD j false = true → Known ops F j a' w') → LinE P md ops rs Q F T R E L a' w' rs)
    (hend : ∀ a' w', a'.defers = a.defers → a'.tmps.size = n → (∀ t, ks.contains t = true → a'.tmps[t]? = some (a.tmps.getD t undef)) → T w' → E Lz a' w' → (∀ j, rs.contains j = true → Known ops F j a' w') → X late.length Lz a' w') :
    X m L0 a w := by
  have hks : (ks.map fun t => (t, a.tmps.getD t undef)).map Prod.fst = ks := by
    rw [List.map_map]; exact List.map_id'' (fun _ => rfl) _
  have hun : ∀ xs : Array Value, Tm n (ks.map fun t => (t, a.tmps.getD t undef)) xs → ∀ t, ks.contains t = true → xs[t]? = some (a.tmps.getD t undef) := fun xs h t ht =>
    h.2 (t, a.tmps.getD t undef) (List.mem_map.2 ⟨t, by simpa using ht, rfl⟩)
  have ht : Tm n (ks.map fun t => (t, a.tmps.getD t undef)) a.tmps := ⟨hsize, fun p hp => by
    obtain ⟨t, ht, rfl⟩ := List.mem_map.1 hp
    have hlt : t < a.tmps.size := by rw [hsize]; exact of_decide_eq_true (List.all_eq_true.1 hkn t ht)
    simp [hlt]⟩
  have hz : (left ops late L0).length = rs.length := by rw [← hrs]; rfl
  obtain ⟨hs, hc⟩ := closedB_sound hclosed
  have h := lin_goX hX (P := P) (md := md) (Q := Q) (F := F) (T := T) (R := R) (E := E) (D := a.defers) hback hlate hks hdst hap hLz hrs hF (fun a' w' L h0 h1 h2 h3 h4 h5 => hop a' w' L h0 h1 h2.1 (hun _ h2) h3 h4 h5) (fun a' w' h1 h2 h3 h4 h5 => hend a' w' h1 h2.1 (hun _ h2) h3 h4 h5) rs.length L0 a w hs hc
    (fun k hk => by simpa using List.all_eq_true.1 hlate0 k hk)
    (fun i hi hin hio => by
      have hil : i < L0.size := by omega
      rw [getD_lt hil false true]
      cases hL : L0.getD i true with
      | true => rfl
      | false => exact absurd (by rw [← hrs, List.mem_filter]; exact ⟨List.mem_range.2 hio, by rw [hL]; simpa using hin⟩) hi)
    hz rfl ht hT hE (fun j hj hj1 => by
      rw [← hrs, List.mem_filter, List.mem_range, Bool.and_eq_true] at hj
      have hjl : j < L0.size := by omega
      have h0 := hj.2.2
      rw [getD_lt hjl true false, hj1] at h0
      cases h0)
  rw [hsz] at h
  exact h
theorem lin_anyX (hX : AnyLike P md ops Q X) (late : List Nat) (n : Nat) (F : Nat → Value → World → Prop) (T : World → Prop) (R : World → World → Prop) (ks : List Nat) (Lz : Array Bool) (rs : List Nat) {m : Nat} {a : Act} {w : World}
    (hback : backB md ops = true) (hlate : lateB md ops L0 late = true) (hlate0 : (late.all fun k => !L0.getD k false) = true) (hclosed : closedB md ops L0 = true) (hkn : (ks.all fun t => decide (t < n)) = true) (hdst : dstB n ks ops rs = true) (hap : apartB ops rs = true)
    (hLz : ((List.range ops.size).map fun i => !late.contains i).toArray = Lz) (hrs : (List.range ops.size).filter (fun i => !late.contains i && !L0.getD i true) = rs) (hsz : rs.length + late.length = m)
    (hF : ∀ j v w w', R w w' → F j v w → F j v w')
    (hsize : a.tmps.size = n) (hT : T w)
    (hop : ∀ a' w', a'.defers = a.defers → a'.tmps.size = n → (∀ t, ks.contains t = true → a'.tmps[t]? = some (a.tmps.getD t undef)) → T w' → LinOps P md ops rs Q F T R a' w' rs)
    (hend : ∀ a' w', a'.defers = a.defers → a'.tmps.size = n → (∀ t, ks.contains t = true → a'.tmps[t]? = some (a.tmps.getD t undef)) → T w' → (∀ j, rs.contains j = true → Known ops F j a' w') → X late.length Lz a' w') :
    X m L0 a w :=
  linE_anyX hX late n F T R (fun _ _ _ => True) ks Lz rs hback hlate hlate0 hclosed hkn hdst hap hLz hrs hsz hF hsize hT trivial
    (fun a' w' _ _ h1 h2 h3 h4 _ _ i hi o ho _ hd K hK => hop a' w' h1 h2 h3 h4 i hi o ho hd K (fun a v w h1 h2 h3 h4 => hK a v w h1 h2 h3 h4 trivial))
    (fun a' w' h1 h2 h3 h4 _ h5 => hend a' w' h1 h2 h3 h4 h5)
end
end Go.Proofs.YtkhmcofmjjmjhaaDoor
