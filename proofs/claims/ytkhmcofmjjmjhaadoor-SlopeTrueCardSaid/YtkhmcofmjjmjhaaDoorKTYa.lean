/- A statement that draws its order, with one append in the middle: only the append changes what is there, and only once. -/
import Derived.Test.YtkhmcofmjjmjhaaDoorKTYm
import Derived.Test.YtkhmcofmjjmjhaaDoorKTG

namespace Go.Proofs.YtkhmcofmjjmjhaaDoor
set_option linter.unusedSimpArgs false
set_option linter.unusedVariables false
open Go Go.RowKit
/-- each of some operations, walked once; E is what is so of what is listed and what was left together; what an operation waits for is listed -/
def LinD (P : Program) (md : Region.Mode) (ops : Array Oper) (all : List Nat) (Q : Exit → Act → World → Prop) (F : Nat → Value → World → Prop) (T : World → Prop) (R : Nat → World → World → Prop) (E : Array Bool → Act → World → Prop) (L : Array Bool) (a : Act) (w : World) (rs : List Nat) : Prop :=
 ∀ i ∈ rs, ∀ o, ops[i]? = some o → L.getD i true = false → (∀ k, depB md o k = true → k ∈ all → L.getD k false = true ∧ Known ops F k a w) → ∀ K : Act → World → Prop, Hush (∀ a' v w', a' = a.put o.dst v → F i v w' → T w' → R i w w' → E (L.setIfInBounds i true) (a.put o.dst v) w' → K a' w') →
  if Region.wanted o (yielded ops a.tmps) = true then Oper.wp P o a w K Q else K (a.put o.dst undef) w
section
variable {P : Program} {md : Region.Mode} {ops : Array Oper} {Q : Exit → Act → World → Prop}
variable {F : Nat → Value → World → Prop} {T : World → Prop} {R : Nat → World → World → Prop} {late : List Nat} {n : Nat} {known : List (Nat × Value)} {ks : List Nat} {D : List Deferred} {L0 Lz : Array Bool} {rs : List Nat}
variable {E : Array Bool → Act → World → Prop}
variable {X : Nat → Array Bool → Act → World → Prop}
theorem dep_no {L : Array Bool} {i j : Nat} {o : Oper} (hc : Closed md ops L) (ho : ops[j]? = some o) (hj : L.getD j false = true) (hi : L.getD i true = false) (hil : i < L.size) : depB md o i = false := by
 cases h : depB md o i with
 | false => rfl
 | true =>
  exfalso
  unfold depB at h
  rw [Array.any_eq_true] at h
  obtain ⟨z, hz, hb⟩ := h
  simp only [Bool.and_eq_true, beq_iff_eq] at hb
  have := hc j o hj ho _ (Array.getElem_mem hz) hb.1
  rw [hb.2, getD_lt hil false true, hi] at this
  cases this
theorem lin_goD (hX : AnyLike P md ops Q X) (hback : backB md ops = true) (hlate : lateB md ops L0 late = true) (hks : known.map Prod.fst = ks) (hdst : dstB n ks ops rs = true) (hap : apartB ops rs = true)
    (hLz : ((List.range ops.size).map fun i => !late.contains i).toArray = Lz) (hrs : (List.range ops.size).filter (fun i => !late.contains i && !L0.getD i true) = rs)
    (hF : ∀ i j v w w', (∀ o, ops[j]? = some o → depB md o i = false) → R i w w' → F j v w → F j v w')
    (hop : ∀ a w L, L.size = ops.size → Closed md ops L → a.defers = D → Tm n known a.tmps → T w → E L a w → (∀ j, j ∈ rs → L.getD j false = true → Known ops F j a w) → LinD P md ops rs Q F T R E L a w rs)
    (hend : ∀ a w, a.defers = D → Tm n known a.tmps → T w → E Lz a w → (∀ j, rs.contains j = true → Known ops F j a w) → X late.length Lz a w) :
    ∀ (m : Nat) (L : Array Bool) (a : Act) (w : World), L.size = ops.size → Closed md ops L → (∀ k ∈ late, L.getD k false = false) → (∀ i, i ∉ rs → i ∉ late → i < ops.size → L.getD i false = true) → (left ops late L).length = m →
     a.defers = D → Tm n known a.tmps → T w → E L a w → (∀ j, j ∈ rs → L.getD j false = true → Known ops F j a w) → X (m + late.length) L a w := by
 intro m
 induction m with
 | zero =>
  intro L a w hs hc hl hp hm hd ht hT hE hK
  have hall : ∀ i, i < ops.size → i ∉ late → L.getD i true = true := fun i hi hn => by
   cases hL : L.getD i true with
   | true => rfl
   | false =>
    have : i ∈ left ops late L := by
     unfold left
     rw [List.mem_filter]
     exact ⟨List.mem_range.2 hi, by simp only [hL, Bool.not_false, Bool.and_true, Bool.not_eq_true']; simpa using hn⟩
    rw [List.length_eq_zero_iff.1 hm] at this
    cases this
  have hEq : L = Lz := by
   rw [← hLz]
   refine Array.ext (by simp [hs]) fun i h1 h2 => ?_
   have hi : i < ops.size := by omega
   have e1 : L[i] = L.getD i true := by simp [h1]
   have e2 : L[i] = L.getD i false := by simp [h1]
   simp only [List.getElem_toArray, List.getElem_map, List.getElem_range]
   by_cases hmem : i ∈ late
   ·rw [e2, hl i hmem]; simp [hmem]
   ·rw [e1, hall i hi hmem]; simp [hmem]
  rw [Nat.zero_add, hEq]
  refine hend a w hd ht hT (hEq ▸ hE) fun j hj => ?_
  have hj' : j ∈ rs := by simpa using hj
  have hj2 := hj'
  rw [← hrs, List.mem_filter, List.mem_range, Bool.and_eq_true] at hj2
  have hjl : j < L.size := by omega
  refine hK j hj' ?_
  rw [getD_lt hjl false true]
  exact hall j hj2.1 (by simpa using hj2.2.1)
 | succ m ih =>
  intro L a w hs hc hl hp hm hd ht hT hE hK
  have hidx : m + 1 + late.length = (m + late.length) + 1 := by omega
  rw [hidx]
  have hex : ∃ i, i < ops.size ∧ i ∉ late ∧ L.getD i true = false := by
   cases hle : left ops late L with
   | nil => rw [hle] at hm; simp at hm
   | cons i l =>
    have hi : i ∈ left ops late L := by rw [hle]; exact List.mem_cons_self ..
    unfold left at hi
    rw [List.mem_filter, List.mem_range] at hi
    exact ⟨i, hi.1, by simpa using (by simpa using hi.2 : ¬ i ∈ late ∧ _).1, by simpa using (by simpa using hi.2 : ¬ i ∈ late ∧ _).2⟩
  have hback' : ∀ (j : Nat) (o : Oper), ops[j]? = some o → ∀ e ∈ o.after, Region.binds md e = true → e.on < j := fun j o ho e he hb => by
   have hj : j < ops.size := (Array.getElem?_eq_some_iff.1 ho).1
   have := range_all hback hj
   simp only [ho, Array.all_eq_true_iff_forall_mem] at this
   have h := this e he
   rw [hb] at h
   exact of_decide_eq_true (by simpa using h)
  -- the least one that is not listed may come up
  have hready : Region.ready md ops L ≠ [] := by
   obtain ⟨i, hi, _, hLi⟩ := hex
   have hmin : ∀ k, k < ops.size → L.getD k true = false → ∃ j, j ∈ Region.ready md ops L := by
    intro k
    induction k using Nat.strongRecOn with
    | ind k ihk =>
     intro hk hLk
     by_cases hr : k ∈ Region.ready md ops L
     ·exact ⟨k, hr⟩
     ·have ho : ops[k]? = some ops[k] := Array.getElem?_eq_getElem hk
      have hnot : ¬ ∀ e ∈ ops[k].after, Region.binds md e = true → L.getD e.on false = true := fun hall => hr (mem_ready.2 ⟨hLk, _, ho, hall⟩)
      simp only [Classical.not_forall] at hnot
      obtain ⟨e, he, hb, hne⟩ := hnot
      have hlt := hback' k _ ho e he hb
      refine ihk e.on hlt (by omega) ?_
      have hel : e.on < L.size := by omega
      rw [getD_lt hel true false]
      simpa using hne
   obtain ⟨j, hj⟩ := hmin i hi hLi
   intro h0
   rw [h0] at hj
   cases hj
  refine hX _ _ _ _ hready (fun i hi o ho K' J => ?_)
  obtain ⟨hLi, o', ho', hdeps⟩ := mem_ready.1 hi
  rw [ho] at ho'; cases ho'
  have hio : i < ops.size := (Array.getElem?_eq_some_iff.1 ho).1
  have hil : i < L.size := by omega
  have hc' : Closed md ops (L.setIfInBounds i true) := fun j o' hj ho' e he hb => by
   by_cases hji : j = i
   ·subst hji; rw [ho] at ho'; cases ho'; exact getD_set_true (hdeps e he hb)
   ·rw [getD_set_ne false (Ne.symm hji)] at hj
    exact getD_set_true (hc j o' hj ho' e he hb)
  have hnl : i ∉ late := fun hmem => by
   obtain ⟨k, hk, hkn, hLk⟩ := hex
   have h1 := List.all_eq_true.1 hlate i hmem
   simp only [Bool.and_eq_true] at h1
   have h2 := range_all h1.2 hk
   simp only [Bool.or_eq_true] at h2
   have hki : i ≠ k := fun e => hkn (e ▸ hmem)
   have hkl : k < L.size := by omega
   rcases h2 with h2 | h2
   ·have h3 : k ∈ marks md ops (List.range ops.size).reverse [i] := by
     rcases h2 with h2 | h2
     ·exact absurd (by simpa using h2) hkn
     ·simpa using h2
    have h4 := marks_sound hc' _ [i] (fun x hx => by rw [List.mem_singleton.1 hx]; exact getD_set_same hil false) k h3
    rw [getD_set_ne false hki] at h4
    rw [getD_lt hkl true false, h4] at hLk
    cases hLk
   ·have h4 : k ∉ rs := by
     rw [← hrs, List.mem_filter, Bool.and_eq_true]
     intro h5
     rw [h2] at h5
     simp at h5
    have h6 := hp k h4 hkn hk
    rw [getD_lt hkl true false, h6] at hLk
    cases hLk
  have hirs : i ∈ rs := Classical.byContradiction fun hn => by
   have h6 := hp i hn hnl hio
   rw [getD_lt hil true false, h6] at hLi
   cases hLi
  have hstep := hop a w L hs hc hd ht hT hE hK i hirs o ho hLi (fun k hk hkr => by
   unfold depB at hk
   rw [Array.any_eq_true] at hk
   obtain ⟨x, hx, hb⟩ := hk
   simp only [Bool.and_eq_true, beq_iff_eq] at hb
   rw [← hb.2] at hkr ⊢
   exact ⟨hdeps _ (Array.getElem_mem hx) hb.1, hK _ hkr (hdeps _ (Array.getElem_mem hx) hb.1)⟩)
  refine hstep K' ?_
  intro a' v w' ha' hFv hT' hR hE'
  refine J a' w' ?_
  subst ha'
  have hdo : ∀ d, o.dst = some d → d < n ∧ ks.contains d = false := fun d hdd => by
   have := List.all_eq_true.1 hdst i hirs
   simp only [ho, hdd, Bool.and_eq_true, decide_eq_true_eq, Bool.not_eq_true'] at this
   exact this
  have hput : ∀ t, (∀ d, o.dst = some d → d ≠ t) → (a.put o.dst v).tmps[t]? = a.tmps[t]? := fun t hne => by
   cases hdd : o.dst with
   | none => rfl
   | some d => simp [Act.put, Array.getElem?_setIfInBounds_ne (hne d hdd)]
  refine ih (L.setIfInBounds i true) (a.put o.dst v) w' (by simp [hs]) hc' ?_ (fun j hj hjn hjo => getD_set_true (hp j hj hjn hjo)) ?_ ?_ ?_ hT' hE' ?_
  ·intro k hk
   rw [getD_set_ne false (show i ≠ k from fun e => hnl (e ▸ hk))]
   exact hl k hk
  ·have := filter_drop (l := List.range ops.size) (p := fun j => !late.contains j && !L.getD j true) (q := fun j => !late.contains j && !(L.setIfInBounds i true).getD j true) (i := i) List.nodup_range (List.mem_range.2 hio)
    (by rw [hLi]; simpa using hnl) (by rw [getD_set_same hil]; simp) (fun j hj => by rw [getD_set_ne true (Ne.symm hj)])
   unfold left at hm ⊢
   omega
  ·cases o.dst <;> exact hd
  ·refine ⟨?_, fun p hp => ?_⟩
   ·cases o.dst with
    | none => exact ht.1
    | some d => simp [Act.put, ht.1]
   ·rw [hput p.1 fun d hdd e => ?_]
    ·exact ht.2 p hp
    ·have h1 := (hdo d hdd).2
     have h2 : d ∈ ks := by rw [← hks, e]; exact List.mem_map_of_mem hp
     simp [h2] at h1
  ·intro j hjr hj o' d ho' hd'
   by_cases hji : j = i
   ·subst hji
    rw [ho] at ho'
    cases ho'
    refine ⟨v, ?_, hFv⟩
    have hdn : d < a.tmps.size := by rw [ht.1]; exact (hdo d hd').1
    rw [hd']
    simp [Act.put, hdn]
   ·rw [getD_set_ne false (Ne.symm hji)] at hj
    obtain ⟨u, hu, hFu⟩ := hK j hjr hj o' d ho' hd'
    refine ⟨u, ?_, hF i j _ _ _ (fun oj hoj => dep_no hc hoj hj hLi hil) hR hFu⟩
    rw [hput d fun d' hdd e => ?_]
    ·exact hu
    ·subst e
     have := List.all_eq_true.1 (List.all_eq_true.1 hap i hirs) j hjr
     simp only [ho, ho', hdd, hd', Bool.or_eq_true, beq_iff_eq, Option.isNone_some, bne_iff_ne, ne_eq, not_true_eq_false, or_false, Bool.false_eq_true] at this
     exact hji this.symm
theorem linE_anyD (hX : AnyLike P md ops Q X) (late : List Nat) (n : Nat) (F : Nat → Value → World → Prop) (T : World → Prop) (R : Nat → World → World → Prop) (E : Array Bool → Act → World → Prop) (ks : List Nat) (Lz : Array Bool) (rs : List Nat) {m : Nat} {a : Act} {w : World}
    (hback : backB md ops = true) (hlate : lateB md ops L0 late = true) (hlate0 : (late.all fun k => !L0.getD k false) = true) (hclosed : closedB md ops L0 = true) (hkn : (ks.all fun t => decide (t < n)) = true) (hdst : dstB n ks ops rs = true) (hap : apartB ops rs = true)
    (hLz : ((List.range ops.size).map fun i => !late.contains i).toArray = Lz) (hrs : (List.range ops.size).filter (fun i => !late.contains i && !L0.getD i true) = rs) (hsz : rs.length + late.length = m)
    (hF : ∀ i j v w w', (∀ o, ops[j]? = some o → depB md o i = false) → R i w w' → F j v w → F j v w')
    (hsize : a.tmps.size = n) (hT : T w) (hE : E L0 a w)
    (hop : ∀ a' w' L, L.size = ops.size → Closed md ops L → a'.defers = a.defers → a'.tmps.size = n → (∀ t, ks.contains t = true → a'.tmps[t]? = some (a.tmps.getD t undef)) → T w' → E L a' w' → (∀ j, j ∈ rs → L.getD j false = true → Known ops F j a' w') → LinD P md ops rs Q F T R E L a' w' rs)
    (hend : ∀ a' w', a'.defers = a.defers → a'.tmps.size = n → (∀ t, ks.contains t = true → a'.tmps[t]? = some (a.tmps.getD t undef)) → T w' → E Lz a' w' → (∀ j, rs.contains j = true → Known ops F j a' w') → X late.length Lz a' w') :
    X m L0 a w := by
 have hks : (ks.map fun t => (t, a.tmps.getD t undef)).map Prod.fst = ks := by
  rw [List.map_map]; exact List.map_id'' (fun _ => rfl) _
 have hun : ∀ xs : Array Value, Tm n (ks.map fun t => (t, a.tmps.getD t undef)) xs → ∀ t, ks.contains t = true → xs[t]? = some (a.tmps.getD t undef) := fun xs h t ht =>
  h.2 (t, a.tmps.getD t undef) (List.mem_map.2 ⟨t, by simpa using ht, rfl⟩)
 have ht : Tm n (ks.map fun t => (t, a.tmps.getD t undef)) a.tmps := ⟨hsize, fun p hp => by
  obtain ⟨t, ht, rfl⟩ := List.mem_map.1 hp
  have hlt : t < a.tmps.size := by rw [hsize]; exact of_decide_eq_true (List.all_eq_true.1 hkn t ht)
  simp [hlt]⟩
 have hz : (left ops late L0).length = rs.length := by rw [← hrs]; rfl
 obtain ⟨hs, hc⟩ := closedB_sound hclosed
 have h := lin_goD hX (P := P) (md := md) (Q := Q) (F := F) (T := T) (R := R) (E := E) (D := a.defers) hback hlate hks hdst hap hLz hrs hF (fun a' w' L h0 hcl h1 h2 h3 h4 h5 => hop a' w' L h0 hcl h1 h2.1 (hun _ h2) h3 h4 h5) (fun a' w' h1 h2 h3 h4 h5 => hend a' w' h1 h2.1 (hun _ h2) h3 h4 h5) rs.length L0 a w hs hc
  (fun k hk => by simpa using List.all_eq_true.1 hlate0 k hk)
  (fun i hi hin hio => by
   have hil : i < L0.size := by omega
   rw [getD_lt hil false true]
   cases hL : L0.getD i true with
   | true => rfl
   | false => exact absurd (by rw [← hrs, List.mem_filter]; exact ⟨List.mem_range.2 hio, by rw [hL]; simpa using hin⟩) hi)
  hz rfl ht hT hE (fun j hj hj1 => by
   rw [← hrs, List.mem_filter, List.mem_range, Bool.and_eq_true] at hj
   have hjl : j < L0.size := by omega
   have h0 := hj.2.2
   rw [getD_lt hjl true false, hj1] at h0
   cases h0)
 rw [hsz] at h
 exact h
end
section
variable {P : Program} {md : Region.Mode} {ops : Array Oper} {Q : Exit → Act → World → Prop}
variable (P md ops Q) in
/-- the append's step: it may use what holds as long as it has not come up -/
def StepApp (T Pre : World → Prop) (R : World → World → Prop) (n : Nat) (us : List Nat) (a0 : Act) (acc : List (Nat × Option Nat × (Value → World → Prop))) (i : Nat) (F : Value → World → Prop) : Prop :=
 ∀ o, ops[i]? = some o → ∀ a w, SameBut n us a0 a → T w → Pre w → (∀ k d G, (k, d, G) ∈ acc → depB md o k = true → Told k ops G a w) → ∀ K : Act → World → Prop, Hush (∀ a' v w', a' = a.put o.dst v → F v w' → T w' → R w w' → K a' w') →
  if Region.wanted o (yielded ops a.tmps) = true then Oper.wp P o a w K Q else K (a.put o.dst undef) w
theorem StepApp.plain {T Pre : World → Prop} {R : World → World → Prop} {n : Nat} {us : List Nat} {a0 : Act} {acc : List (Nat × Option Nat × (Value → World → Prop))} {i : Nat} {F : Value → World → Prop} {o : Oper} (ho : ops[i]? = some o) (hg : o.guard = none)
    (h : ∀ a w, SameBut n us a0 a → T w → Pre w → (∀ k d G, (k, d, G) ∈ acc → depB md o k = true → Told k ops G a w) → ∀ K : Act → World → Prop, Hush (∀ a' v w', a' = a.put o.dst v → F v w' → T w' → R w w' → K a' w') → Oper.wp P o a w K Q) : StepApp P md ops Q T Pre R n us a0 acc i F := fun o' ho' a w h1 h2 h3 h4 K hK => by
 rw [ho] at ho'; cases ho'
 rw [if_pos (wanted_none hg)]
 exact h a w h1 h2 h3 h4 K hK
/-- the slots that an operation finds changed: all that are written, but for that of an operation that waits for it -/
def usOf (md : Region.Mode) (ops : Array Oper) (us : List Nat) (j1 d1 i : Nat) : List Nat := if (match ops[j1]? with | some o => depB md o i | none => false) = true then us.filter (fun t => t != d1) else us
variable (P md ops Q) in
def SeqA (T : World → Prop) (R : World → World → Prop) (n : Nat) (us : Nat → List Nat) (a0 : Act) (fin : List (Nat × Option Nat × (Value → World → Prop)) → Prop) : List (Nat × Option Nat) → List (Nat × Option Nat × (Value → World → Prop)) → Prop
 | [], acc => fin acc
 | (i, d) :: rs, acc => ∃ F, (∀ v w w', R w w' → F v w → F v w') ∧ StepOk P md ops Q T R n (us i) a0 acc i F ∧ SeqA T R n us a0 fin rs ((i, d, F) :: acc)
section
variable {T : World → Prop} {R : World → World → Prop} {n : Nat} {us : Nat → List Nat} {a0 : Act} {fin : List (Nat × Option Nat × (Value → World → Prop)) → Prop} {acc : List (Nat × Option Nat × (Value → World → Prop))} {rs : List (Nat × Option Nat)} {i : Nat} {d : Option Nat}
theorem SeqA.nil (h : fin acc) : SeqA P md ops Q T R n us a0 fin [] acc := h
theorem SeqA.say (F : Value → World → Prop) (hF : ∀ v w w', R w w' → F v w → F v w') (h : StepOk P md ops Q T R n (us i) a0 acc i F) (hs : SeqA P md ops Q T R n us a0 fin rs ((i, d, F) :: acc)) : SeqA P md ops Q T R n us a0 fin ((i, d) :: rs) acc := ⟨F, hF, h, hs⟩
theorem SeqA.val (x : Value) (h : StepOk P md ops Q T R n (us i) a0 acc i (fun v _ => v = x)) (hs : SeqA P md ops Q T R n us a0 fin rs ((i, d, fun v _ => v = x) :: acc)) : SeqA P md ops Q T R n us a0 fin ((i, d) :: rs) acc := ⟨_, fun _ _ _ _ h => h, h, hs⟩
theorem seqA_gather : ∀ (rs : List (Nat × Option Nat)) (acc : List (Nat × Option Nat × (Value → World → Prop))), SeqA P md ops Q T R n us a0 fin rs acc →
    ∃ new : List (Nat × Option Nat × (Value → World → Prop)), new.map (fun x => (x.1, x.2.1)) = rs.reverse ∧ fin (new ++ acc) ∧ ∀ x ∈ new, (∀ v w w', R w w' → x.2.2 v w → x.2.2 v w') ∧ ∃ pre, (∀ y ∈ pre, y ∈ new ++ acc) ∧ StepOk P md ops Q T R n (us x.1) a0 pre x.1 x.2.2
 | [], acc, h => ⟨[], rfl, h, fun _ hx => by cases hx⟩
 | (i, d) :: rs, acc, h => by
  obtain ⟨F, hF, hst, hs⟩ := h
  obtain ⟨new, h1, h2, h3⟩ := seqA_gather rs _ hs
  refine ⟨new ++ [(i, d, F)], by simp [h1], by simpa using h2, fun x hx => ?_⟩
  rcases List.mem_append.1 hx with hx | hx
  ·obtain ⟨h4, pre, h5, h6⟩ := h3 x hx
   exact ⟨h4, pre, fun y hy => by simpa using h5 y hy, h6⟩
  ·obtain rfl := List.mem_singleton.1 hx
   exact ⟨hF, acc, fun y hy => List.mem_append_right _ hy, hst⟩
end
theorem look_none : ∀ {l : List (Nat × Option Nat × (Value → World → Prop))} {j : Nat}, (∀ x ∈ l, x.1 ≠ j) → ∀ v w, lookF l j v w
 | [], _, _ => fun _ _ => trivial
 | (k, d, F) :: l, j, h => fun v w => by
  have hne : ¬ j = k := fun e => h (k, d, F) (List.mem_cons_self ..) e.symm
  simp only [lookF, if_neg hne]
  exact look_none (fun x hx => h x (List.mem_cons_of_mem _ hx)) v w
theorem seq_anyA {X : Nat → Array Bool → Act → World → Prop} (hX : AnyLike P md ops Q X) {L0 : Array Bool} (late : List Nat) (n : Nat) (T Pre : World → Prop) (R R0 : World → World → Prop) (rs : List (Nat × Option Nat)) (all : List Nat) (us : List Nat) (i0 d0 j1 d1 : Nat) (G : Value → World → Prop) (hG : ∀ v w w', R w w' → G v w → G v w') (hPre : ∀ w w', R w w' → Pre w → Pre w') (Lz : Array Bool) {m : Nat} {a : Act} {w : World}
    (hback : backB md ops = true) (hlate : lateB md ops L0 late = true) (hlate0 : (late.all fun k => !L0.getD k false) = true) (hclosed : closedB md ops L0 = true) (hseq : seqB n ops rs = true) (hus : rs.filterMap (·.2) ++ [d0] = us) (hap : apartB ops all = true) (hperm : (all.all (rs.map (·.1) ++ [i0]).contains && (rs.map (·.1) ++ [i0]).all all.contains) = true) (hnd0 : decide (rs.map (·.1) ++ [i0]).Nodup = true)
    (hLz : ((List.range ops.size).map fun i => !late.contains i).toArray = Lz) (hrs : (List.range ops.size).filter (fun i => !late.contains i && !L0.getD i true) = all) (hsz : all.length + late.length = m)
    (hdst0 : ((ops[i0]?).map (·.dst)) = some (some d0)) (hdn : d0 < n) (hdst1 : ((ops[j1]?).map (·.dst)) = some (some d1)) (hj1 : all.contains j1 = true)
    (hsize : a.tmps.size = n) (hT : T w) (hP : Pre w)
    (h : SeqA P md ops Q T R n (usOf md ops us j1 d1) a (fun acc => (∀ x ∈ acc, x.1 = i0 ∨ (∃ o, ops[x.1]? = some o ∧ depB md o i0 = true) ∨ ∀ v w w', R0 w w' → x.2.2 v w → x.2.2 v w') ∧ StepApp P md ops Q T Pre R0 n us a acc.dropLast i0 G ∧ ∀ w', T w' → Ends (fun a' w' => X late.length Lz a' w') a.defers w' acc.reverse a.tmps) rs [(i0, some d0, G)]) :
    X m L0 a w := by
 obtain ⟨new, h1, h2, h3⟩ := seqA_gather rs [(i0, some d0, G)] h
 obtain ⟨hR0', hM, h2⟩ := h2
 rw [List.dropLast_concat] at hM
 rw [List.reverse_append, List.reverse_singleton] at h2
 obtain ⟨om, hom, homd⟩ : ∃ o, ops[i0]? = some o ∧ o.dst = some d0 := by
  cases ho : ops[i0]? with
  | none => rw [ho] at hdst0; cases hdst0
  | some o => rw [ho] at hdst0; exact ⟨o, rfl, by simpa using hdst0⟩
 have hmap : new.map (·.1) = (rs.map (·.1)).reverse := by
  have := congrArg (List.map Prod.fst) h1
  simpa [List.map_map, Function.comp_def, List.map_reverse] using this
 have hndA : (rs.map (·.1) ++ [i0]).Nodup := of_decide_eq_true hnd0
 rw [Bool.and_eq_true, List.all_eq_true, List.all_eq_true] at hperm
 have hin : ∀ j, j ∈ all → j ∈ rs.map (·.1) ++ [i0] := fun j hj => by simpa only [List.contains_iff_mem] using hperm.1 j hj
 have hout : ∀ j, j ∈ rs.map (·.1) ++ [i0] → j ∈ all := fun j hj => by simpa only [List.contains_iff_mem] using hperm.2 j hj
 have hi0 : i0 ∉ rs.map (·.1) := fun hm => by
  have := (List.nodup_append.1 hndA).2.2 i0 hm i0 (by simp)
  exact this rfl
 have hR0 : ∀ x ∈ new, (∃ o, ops[x.1]? = some o ∧ depB md o i0 = true) ∨ ∀ v w w', R0 w w' → x.2.2 v w → x.2.2 v w' := fun x hx => (hR0' x (List.mem_append_left _ hx)).resolve_left fun e => by
  have : i0 ∈ new.map (·.1) := e ▸ List.mem_map_of_mem (f := (·.1)) hx
  rw [hmap, List.mem_reverse] at this
  exact hi0 this
 have hnd : (new.map (·.1)).Nodup := by
  rw [hmap]
  unfold List.Nodup
  rw [List.pairwise_reverse]
  simp only [ne_comm (α := Nat)]
  exact (List.nodup_append.1 hndA).1
 have hdst : ∀ x ∈ new, ∃ o, ops[x.1]? = some o ∧ o.dst = x.2.1 ∧ ∀ d, x.2.1 = some d → d < n := fun x hx => by
  have hm : (x.1, x.2.1) ∈ rs := by
   have : (x.1, x.2.1) ∈ new.map (fun x => (x.1, x.2.1)) := List.mem_map_of_mem (f := fun x => (x.1, x.2.1)) hx
   rw [h1] at this
   exact List.mem_reverse.1 this
  have h0 := List.all_eq_true.1 hseq _ hm
  rw [Bool.and_eq_true] at h0
  obtain ⟨h01, h02⟩ := h0
  cases ho : ops[x.1]? with
  | none => simp [ho] at h01
  | some o =>
   refine ⟨o, rfl, by simpa [ho] using h01, fun d hd => ?_⟩
   simp only [hd] at h02
   exact of_decide_eq_true h02
 have hus' : ∀ x ∈ new, ∀ d, x.2.1 = some d → d ∈ us := fun x hx d hd => by
  have hm : (x.1, x.2.1) ∈ rs := by
   have : (x.1, x.2.1) ∈ new.map (fun x => (x.1, x.2.1)) := List.mem_map_of_mem (f := fun x => (x.1, x.2.1)) hx
   rw [h1] at this
   exact List.mem_reverse.1 this
  rw [← hus, List.mem_append, List.mem_filterMap]
  exact .inl ⟨_, hm, hd⟩
 have hd0u : us.contains d0 = true := by rw [← hus]; simp
 have hd0m : d0 ∈ us := by simpa using hd0u
 have husn : ∀ t, us.contains t = true → t ≠ d0 → ∃ x ∈ new, x.2.1 = some t := fun t ht hne => by
  have ht' : t ∈ us := by simpa using ht
  rw [← hus, List.mem_append, List.mem_filterMap] at ht'
  obtain ⟨p, hp, hd⟩ := ht'.resolve_right (fun h => hne (List.mem_singleton.1 h))
  have : p ∈ new.map (fun x => (x.1, x.2.1)) := by rw [h1]; exact List.mem_reverse.2 hp
  obtain ⟨x, hx, rfl⟩ := List.mem_map.1 this
  exact ⟨x, hx, hd⟩
 have hsame : ∀ a' : Act, a'.defers = a.defers → a'.tmps.size = n → (∀ t, ((List.range n).filter fun t => !us.contains t).contains t = true → a'.tmps[t]? = some (a.tmps.getD t undef)) → SameBut n us a a' := fun a' hd hs hk => ⟨hd, hs, fun t ht => by
  by_cases hlt : t < n
  ·rw [hk t (by simp only [List.contains_iff_mem, List.mem_filter, List.mem_range, ht, hlt]; decide)]
   have : t < a.tmps.size := by omega
   simp [this]
  ·rw [Array.getElem?_eq_none (by omega), Array.getElem?_eq_none (by omega)]⟩
 have hall : ∀ i, i ∈ rs.map (·.1) → ∃ x ∈ new, x.1 = i := fun i hi => by
  have : i ∈ new.map (·.1) := by rw [hmap]; exact List.mem_reverse.2 hi
  obtain ⟨x, hx, e⟩ := List.mem_map.1 this
  exact ⟨x, hx, e⟩
 have hknown : ∀ (pre : List (Nat × Option Nat × (Value → World → Prop))) (o : Oper) (a' : Act) (w' : World), (∀ y ∈ pre, y ∈ new) → (∀ k, depB md o k = true → k ∈ rs.map (·.1) ++ [i0] → Known ops (lookF new) k a' w') → ∀ k d F, (k, d, F) ∈ pre → depB md o k = true → Told k ops F a' w' := fun pre o a' w' hpre hdeps k d F hkF hdep => by
  have hm := hpre _ hkF
  have hk' : k ∈ rs.map (·.1) := by
   have : k ∈ new.map (·.1) := List.mem_map_of_mem (f := (·.1)) hm
   rw [hmap] at this
   exact List.mem_reverse.1 this
  have hkn := hdeps k hdep (List.mem_append_left _ hk')
  intro d' hd'
  obtain ⟨v, hv, hF⟩ := hkn.get hd'
  have e : lookF new k = F := lookF_mem hnd _ hm
  rw [e] at hF
  exact ⟨v, hv, hF⟩
 have hlook0 : ∀ v w, lookF new i0 v w := fun v w => by
  have : ∀ l : List (Nat × Option Nat × (Value → World → Prop)), i0 ∉ l.map (·.1) → lookF l i0 v w := by
   intro l
   induction l with
   | nil => intro _; trivial
   | cons x l ih =>
    obtain ⟨k, d, F⟩ := x
    intro hn
    simp only [List.map_cons, List.mem_cons, not_or] at hn
    simp only [lookF, if_neg hn.1]
    exact ih hn.2
  refine this new ?_
  rw [hmap, List.mem_reverse]
  exact hi0
 obtain ⟨o1, ho1, hod1⟩ : ∃ o, ops[j1]? = some o ∧ o.dst = some d1 := by
  cases ho : ops[j1]? with
  | none => rw [ho] at hdst1; cases hdst1
  | some o => rw [ho] at hdst1; exact ⟨o, rfl, by simpa using hdst1⟩
 have hj1' : j1 ∈ all := by simpa using hj1
 have hj1s : j1 < ops.size := (Array.getElem?_eq_some_iff.1 ho1).1
 have hsame1 : ∀ (i : Nat) (a' : Act) (L : Array Bool), Closed md ops L → i < L.size → L.getD i true = false → L.size = ops.size → SameBut n us a a' → (L.getD j1 true = false → a'.tmps[d1]? = a.tmps[d1]?) → SameBut n (usOf md ops us j1 d1 i) a a' := fun i a' L hc hil hLi hLs h h3 => by
  have hus1 : usOf md ops us j1 d1 i = if depB md o1 i = true then us.filter (fun t => t != d1) else us := by unfold usOf; rw [ho1]
  rw [hus1]
  cases hdep : depB md o1 i with
  | false => rw [if_neg (by simp)]; exact h
  | true =>
   refine ⟨h.1, h.2.1, fun t ht => ?_⟩
   rw [if_pos rfl] at ht
   by_cases htd : t = d1
   ·subst htd
    refine h3 ?_
    cases hL1 : L.getD j1 true with
    | false => rfl
    | true =>
     exfalso
     have := dep_no hc ho1 (by rw [getD_lt (by omega) false true]; exact hL1) hLi hil
     rw [hdep] at this; cases this
   ·refine h.2.2 t ?_
    cases hu : us.contains t with
    | false => rfl
    | true =>
     exfalso
     have hm : t ∈ us.filter (fun t => t != d1) := List.mem_filter.2 ⟨by simpa using hu, by simpa using htd⟩
     have : (us.filter (fun t => t != d1)).contains t = true := by simpa only [List.contains_iff_mem] using hm
     rw [this] at ht; cases ht
 have hkeep3 : ∀ (i : Nat) (o : Oper), i ∈ all → ops[i]? = some o → ∀ (L : Array Bool), L.size = ops.size → ∀ (a' : Act) (v : Value), (L.getD j1 true = false → a'.tmps[d1]? = a.tmps[d1]?) → (L.setIfInBounds i true).getD j1 true = false → (a'.put o.dst v).tmps[d1]? = a.tmps[d1]? := fun i o hi ho L hLs a' v h3 hL => by
  have hij : i ≠ j1 := fun e => by
   subst e
   rw [getD_set_same (by omega)] at hL
   cases hL
  rw [getD_set_ne true hij] at hL
  rw [← h3 hL]
  cases hod : o.dst with
  | none => rfl
  | some d =>
   by_cases e : d = d1
   ·subst e
    exfalso
    have := List.all_eq_true.1 (List.all_eq_true.1 hap i hi) j1 hj1'
    simp only [ho, ho1, hod, hod1, Bool.or_eq_true, beq_iff_eq, Option.isNone_some, bne_iff_ne, ne_eq, not_true_eq_false, or_false, Bool.false_eq_true] at this
    exact hij this
   ·simp only [Act.put, Array.getElem?_setIfInBounds_ne e]
 refine linE_anyD hX late n (lookF new) T (fun i w w' => if i = i0 then R0 w w' else R w w') (fun L a' w => (L.getD i0 true = false → Pre w) ∧ (L.getD i0 false = true → ∃ v, a'.tmps[d0]? = some v ∧ G v w) ∧ (L.getD j1 true = false → a'.tmps[d1]? = a.tmps[d1]?)) ((List.range n).filter fun t => !us.contains t) Lz all hback hlate hlate0 hclosed ?_ ?_ hap hLz hrs hsz (fun i j v w w' hdn hr hv => by
  by_cases hii : i = i0
  ·rw [if_pos hii] at hr
   subst hii
   by_cases hjn : ∃ x ∈ new, x.1 = j
   ·obtain ⟨x, hx, rfl⟩ := hjn
    rw [lookF_mem hnd x hx] at hv ⊢
    rcases hR0 x hx with ⟨o, ho, hd⟩ | h
    ·rw [hdn o ho] at hd; cases hd
    ·exact h v w w' hr hv
   ·exact look_none (fun x hx e => hjn ⟨x, hx, e⟩) v w'
  ·rw [if_neg hii] at hr
   exact lookF_stable (fun x hx => (h3 x hx).1) j v w w' hr hv) hsize hT ?_ ?_ ?_
 ·refine List.all_eq_true.2 fun t ht => ?_
  rw [List.mem_filter, List.mem_range] at ht
  exact decide_eq_true ht.1
 ·refine List.all_eq_true.2 fun j hj => ?_
  rcases List.mem_append.1 (hin j hj) with hj | hj
  ·obtain ⟨x, hx, rfl⟩ := hall j hj
   obtain ⟨o, ho, hd, hn⟩ := hdst x hx
   simp only [ho]
   cases hod : o.dst with
   | none => rfl
   | some d =>
    have hx2 : x.2.1 = some d := by rw [← hd, hod]
    have := hn d hx2
    have hu := hus' x hx d hx2
    simp [this, hu]
  ·obtain rfl := List.mem_singleton.1 hj
   simp [hom, homd, hdn, hd0m]
 ·refine ⟨fun _ => hP, fun hL => ?_, fun _ => rfl⟩
  have hm : i0 ∈ (List.range ops.size).filter (fun i => !late.contains i && !L0.getD i true) := by rw [hrs]; exact hout i0 (by simp)
  rw [List.mem_filter, Bool.and_eq_true] at hm
  have hlt : i0 < L0.size := by
   by_cases hlt : i0 < L0.size
   ·exact hlt
   ·rw [Array.getD_eq_getD_getElem?, Array.getElem?_eq_none (by omega)] at hL
    cases hL
  rw [getD_lt hlt false true] at hL
  rw [hL] at hm
  simp at hm
 ·intro a' w' L hLs hcl hd hs hk hT' hE hK i hi o ho hLi hdeps K hKK
  rcases List.mem_append.1 (hin i hi) with hi | hi
  ·obtain ⟨x, hx, rfl⟩ := hall i hi
   obtain ⟨_, pre, hpre, hst⟩ := h3 x hx
   rw [← lookF_mem hnd x hx] at hst
   refine hst o ho a' w' (hsame1 x.1 a' L hcl (by rw [hLs]; exact (Array.getElem?_eq_some_iff.1 ho).1) hLi hLs (hsame a' hd hs hk) hE.2.2) hT' (fun k d F hkF hdep => by
    rcases List.mem_append.1 (hpre _ hkF) with hm | hm
    ·exact hknown new o a' w' (fun y hy => hy) (fun k hk hm => (hdeps k hk (hout k hm)).2) k d F hm hdep
    ·cases List.mem_singleton.1 hm
     obtain ⟨v0, hv0, hG0⟩ := hE.2.1 (hdeps i0 hdep (hout _ (List.mem_append_right _ (List.mem_singleton.2 rfl)))).1
     intro d' hd'
     rw [hom] at hd'
     have e : d0 = d' := by simpa [homd] using hd'
     exact ⟨v0, e ▸ hv0, hG0⟩) K (fun a2 v w2 e1 e2 e3 e4 => hKK a2 v w2 e1 e2 e3 (by show (if x.1 = i0 then R0 w' w2 else R w' w2); rw [if_neg (fun (e : x.1 = i0) => hi0 (e ▸ hi))]; exact e4) ⟨fun hL => ?_, fun hL => ?_, fun hL => ?_⟩)
   rotate_left 2
   ·exact hkeep3 x.1 o (hout _ (List.mem_append_left _ hi)) ho L hLs a' v hE.2.2 hL
   ·have hne : x.1 ≠ i0 := fun e => hi0 (e ▸ hi)
    rw [getD_set_ne true hne] at hL
    exact hPre _ _ e4 (hE.1 hL)
   have hne : x.1 ≠ i0 := fun e => hi0 (e ▸ hi)
   rw [getD_set_ne false hne] at hL
   obtain ⟨v0, hv0, hG0⟩ := hE.2.1 hL
   refine ⟨v0, ?_, hG _ _ _ e4 hG0⟩
   cases hod : o.dst with
   | none => exact hv0
   | some d =>
    by_cases e : d = d0
    ·subst e
     exfalso
     have := List.all_eq_true.1 (List.all_eq_true.1 hap x.1 (hout _ (List.mem_append_left _ hi))) i0 (hout _ (List.mem_append_right _ (List.mem_singleton.2 rfl)))
     simp only [ho, hom, hod, homd, Bool.or_eq_true, beq_iff_eq, Option.isNone_some, bne_iff_ne, ne_eq, not_true_eq_false, or_false, Bool.false_eq_true] at this
     exact hne this
    ·simp only [Act.put, Array.getElem?_setIfInBounds_ne e]
     exact hv0
  ·obtain rfl := List.mem_singleton.1 hi
   rw [hom] at ho
   cases ho
   refine hM om hom a' w' (hsame a' hd hs hk) hT' (hE.1 hLi) (hknown new om a' w' (fun y hy => hy) (fun k hk hm => (hdeps k hk (hout k hm)).2)) K (fun a2 v w2 e1 e2 e3 e4 => hKK a2 v w2 e1 (hlook0 _ _) e3 (by show (if i = i then R0 w' w2 else R w' w2); rw [if_pos rfl]; exact e4) ⟨fun hL => ?_, fun _ => ⟨v, ?_, e2⟩, fun hL => hkeep3 i om (hout _ (List.mem_append_right _ (List.mem_singleton.2 rfl))) hom L hLs a' v hE.2.2 hL⟩)
   ·have hil : i < L.size := by rw [hLs]; exact (Array.getElem?_eq_some_iff.1 hom).1
    rw [getD_set_same hil] at hL
    cases hL
   rw [homd]
   have : d0 < a'.tmps.size := by omega
   simp [Act.put, this]
 ·intro a' w' hd hs hk hT' hE hall'
  have hLz0 : Lz.getD i0 false = true := by
   have hm : i0 ∈ (List.range ops.size).filter (fun i => !late.contains i && !L0.getD i true) := by rw [hrs]; exact hout i0 (by simp)
   rw [List.mem_filter, List.mem_range, Bool.and_eq_true] at hm
   rw [← hLz, Array.getD_eq_getD_getElem?]
   simp only [List.getElem?_toArray, List.getElem?_map, List.getElem?_range hm.1, Option.map_some, Option.getD_some]
   exact hm.2.1
  obtain ⟨v, hv, hGv⟩ := hE.2.1 hLz0
  refine ends_use (K := fun a' w' => X late.length Lz a' w') hd ((i0, some d0, G) :: new.reverse) a.tmps (h2 w' hT') (fun i d F hm => ?_) (by omega) (fun t ht => ?_)
  ·rcases List.mem_cons.1 hm with hm' | hm'
   ·cases hm'
    exact ⟨v, hv, hGv⟩
   replace hm' := List.mem_reverse.1 hm'
   have hi : i ∈ rs.map (·.1) := by
    have : i ∈ new.map (·.1) := List.mem_map_of_mem (f := (·.1)) hm'
    rw [hmap] at this
    exact List.mem_reverse.1 this
   obtain ⟨o, ho, hod, _⟩ := hdst _ hm'
   obtain ⟨v, hv, hF⟩ := hall' i (by simp only [List.contains_iff_mem]; exact hout _ (List.mem_append_left _ hi)) o d ho hod
   have e : lookF new i = F := lookF_mem hnd _ hm'
   rw [e] at hF
   exact ⟨v, hv, hF⟩
  ·have hc : us.contains t = false := by
    cases hc : us.contains t with
    | false => rfl
    | true =>
     by_cases htd : t = d0
     ·subst htd
      exact absurd (List.mem_cons_self ..) (ht i0 G)
     ·obtain ⟨x, hx, he⟩ := husn t hc htd
      obtain ⟨i, d, F⟩ := x
      subst he
      exact absurd (List.mem_cons_of_mem _ (List.mem_reverse.2 hx)) (ht i F)
   exact ((hsame a' hd hs hk).2.2 t hc).symm
end
section
variable {D : List Deferred} {P : Program} {ops : Array Oper} {Q Q' : Exit → Act → World → Prop} {a : Act} {w : World}
variable {yl : Bool}
theorem region_drawnAX {X : Nat → Array Bool → Act → World → Prop} (hX : AnyLike P .any ops Q X) (hlx : ∀ K l Lz a w, (∀ a w, K a w → Q .normal a w) → lateOrdB .any ops Lz l = true → Late yl P ops Q K l a w → X l.length Lz a w) (late : List Nat) (T Pre : World → Prop) (R R0 : World → World → Prop) (rs : List (Nat × Option Nat)) (all : List Nat) (us : List Nat) (i0 d0 j1 d1 : Nat) (G : Value → World → Prop) (hG : ∀ v w w', R w w' → G v w → G v w') (hPre : ∀ w w', R w w' → Pre w → Pre w') (Lz : Array Bool) (ks : List Nat) {n : Nat} {e : Env} (hE : FitsD D n e a)
    (hback : backB .any ops = true) (hlate : lateB .any ops (Array.replicate ops.size false) late = true) (hclosed : closedB .any ops (Array.replicate ops.size false) = true) (hseq : seqB n ops rs = true) (hus : rs.filterMap (·.2) ++ [d0] = us) (hap : apartB ops all = true) (hperm : (all.all (rs.map (·.1) ++ [i0]).contains && (rs.map (·.1) ++ [i0]).all all.contains) = true) (hnd0 : decide (rs.map (·.1) ++ [i0]).Nodup = true)
    (hLz : ((List.range ops.size).map fun i => !late.contains i).toArray = Lz) (hrs : (List.range ops.size).filter (fun i => !late.contains i && !(Array.replicate ops.size false).getD i true) = all) (hsz : all.length + late.length = ops.size) (hord : lateOrdB .any ops Lz late = true)
    (hlo : (late.all fun k => !(Array.replicate ops.size false).getD k false) = true) (hdst0 : ((ops[i0]?).map (·.dst)) = some (some d0)) (hdn : d0 < n) (hdst1 : ((ops[j1]?).map (·.dst)) = some (some d1)) (hj1 : all.contains j1 = true)
    (hT : T w.drew) (hP : Pre w.drew)
    {K : Act → World → Prop} (hK : ∀ a w, K a w → Q .normal a w)
    (h : SeqA P .any ops Q T R n (usOf .any ops us j1 d1) a (fun acc => (∀ x ∈ acc, x.1 = i0 ∨ (∃ o, ops[x.1]? = some o ∧ depB .any o i0 = true) ∨ ∀ v w w', R0 w w' → x.2.2 v w → x.2.2 v w') ∧ StepApp P .any ops Q T Pre R0 n us a acc.dropLast i0 G ∧ ∀ w', T w' → EndsE (Late yl P ops Q K late) D n w' acc.reverse (pick ks e)) rs [(i0, some d0, G)]) : X ops.size (Array.replicate ops.size false) a w.drew := by
 have hs := h
 refine seq_anyA hX late n T Pre R R0 rs all us i0 d0 j1 d1 G hG hPre Lz hback hlate hlo hclosed hseq hus hap hperm hnd0 hLz hrs hsz hdst0 hdn hdst1 hj1 hE.2.1 hT hP ?_
 have hmono : ∀ (rs' : List (Nat × Option Nat)) (acc : List (Nat × Option Nat × (Value → World → Prop))), (∀ p ∈ rs', ∀ d, p.2 = some d → d < n) → (∀ x ∈ acc, ∀ d, x.2.1 = some d → d < n) →
     SeqA P .any ops Q T R n (usOf .any ops us j1 d1) a (fun acc => (∀ x ∈ acc, x.1 = i0 ∨ (∃ o, ops[x.1]? = some o ∧ depB .any o i0 = true) ∨ ∀ v w w', R0 w w' → x.2.2 v w → x.2.2 v w') ∧ StepApp P .any ops Q T Pre R0 n us a acc.dropLast i0 G ∧ ∀ w', T w' → EndsE (Late yl P ops Q K late) D n w' acc.reverse (pick ks e)) rs' acc →
     SeqA P .any ops Q T R n (usOf .any ops us j1 d1) a (fun acc => (∀ x ∈ acc, x.1 = i0 ∨ (∃ o, ops[x.1]? = some o ∧ depB .any o i0 = true) ∨ ∀ v w w', R0 w w' → x.2.2 v w → x.2.2 v w') ∧ StepApp P .any ops Q T Pre R0 n us a acc.dropLast i0 G ∧ ∀ w', T w' → Ends (fun a' w' => X late.length Lz a' w') a.defers w' acc.reverse a.tmps) rs' acc := by
  intro rs'
  induction rs' with
  | nil =>
   intro acc _ hacc h
   refine ⟨h.1, h.2.1, fun w' hT' => ?_⟩
   have h1 := h.2.2 w' hT'
   rw [hE.1]
   refine endsE_ends acc.reverse (pick ks e) a.tmps ?_ ?_ (fun i d F hm => hacc _ (List.mem_reverse.1 hm) d rfl)
   ·have hk : ∀ (l : List (Nat × Option Nat × (Value → World → Prop))) (e' : Env), EndsE (Late yl P ops Q K late) D n w' l e' → EndsE (fun a' w' => X late.length Lz a' w') D n w' l e' := by
     intro l
     induction l with
     | nil => intro e' h a' hf; exact hlx K late Lz a' w' hK hord (h a' hf)
     | cons x l ih =>
      obtain ⟨i, d, F⟩ := x
      cases d with
      | none => intro e' h; exact ih _ h
      | some d => intro e' h v hv; exact ih _ (h v hv)
    exact hk _ _ h1
   ·have := hE.keep ks
    exact ⟨rfl, this.2.1, this.2.2⟩
  | cons p rs' ih =>
   obtain ⟨i, d⟩ := p
   intro acc hr hacc h
   obtain ⟨F, hF, hst, hs⟩ := h
   exact ⟨F, hF, hst, ih _ (fun p hp => hr p (List.mem_cons_of_mem _ hp)) (fun x hx => by
    rcases List.mem_cons.1 hx with rfl | hx
    ·exact hr (i, d) (List.mem_cons_self ..)
    ·exact hacc x hx) hs⟩
 refine hmono rs [(i0, some d0, G)] (fun p hp d hd => ?_) (fun x hx d hd => by cases List.mem_singleton.1 hx; cases hd; exact hdn) hs
 have h0 := List.all_eq_true.1 hseq _ hp
 rw [Bool.and_eq_true] at h0
 have h2 := h0.2
 rw [hd] at h2
 exact of_decide_eq_true h2
/-- a statement that draws its order, with one append in the middle -/
theorem region_drawn_app (late : List Nat) (T Pre : World → Prop) (R R0 : World → World → Prop) (rs : List (Nat × Option Nat)) (all : List Nat) (us : List Nat) (i0 d0 j1 d1 : Nat) (G : Value → World → Prop) (Lz : Array Bool) (ks : List Nat) {id n : Nat} {e : Env} (hE : FitsD D n e a) (hG : ∀ v w w', R w w' → G v w → G v w') (hPre : ∀ w w', R w w' → Pre w → Pre w') (hm : P.follows .mixedOrders = true)
    (hback : backB .any ops = true) (hlate : lateB .any ops (Array.replicate ops.size false) late = true) (hclosed : closedB .any ops (Array.replicate ops.size false) = true) (hseq : seqB n ops rs = true) (hus : rs.filterMap (·.2) ++ [d0] = us) (hap : apartB ops all = true) (hperm : (all.all (rs.map (·.1) ++ [i0]).contains && (rs.map (·.1) ++ [i0]).all all.contains) = true) (hnd0 : decide (rs.map (·.1) ++ [i0]).Nodup = true)
    (hLz : ((List.range ops.size).map fun i => !late.contains i).toArray = Lz) (hrs : (List.range ops.size).filter (fun i => !late.contains i && !(Array.replicate ops.size false).getD i true) = all) (hsz : all.length + late.length = ops.size) (hord : lateOrdB .any ops Lz late = true)
    (hlo : (late.all fun k => !(Array.replicate ops.size false).getD k false) = true) (hdst0 : ((ops[i0]?).map (·.dst)) = some (some d0)) (hdn : d0 < n) (hdst1 : ((ops[j1]?).map (·.dst)) = some (some d1)) (hj1 : all.contains j1 = true)
    (hT : T w.drew) (hP : Pre w.drew)
    (h : ∀ Q' K, Hush (∀ a w, Q .normal a w → K a w) → SeqA P .any ops Q' T R n (usOf .any ops us j1 d1) a (fun acc => (∀ x ∈ acc, x.1 = i0 ∨ (∃ o, ops[x.1]? = some o ∧ depB .any o i0 = true) ∨ ∀ v w w', R0 w w' → x.2.2 v w → x.2.2 v w') ∧ StepApp P .any ops Q' T Pre R0 n us a acc.dropLast i0 G ∧ ∀ w', T w' → EndsE (Late true P ops Q' K late) D n w' acc.reverse (pick ks e)) rs [(i0, some d0, G)]) : (Code.region id ops true).wp P Q a w := by
 refine (wpIn_wide (n := 5)).1 (wpIn_mono (Go.wpIn_region_any hm ?_) cutQ_out)
 exact region_drawnAX (Q := cutQ Q) (anyLike_in cutQ_not) (fun K l Lz a w hK hO h => late_anyIn cutQ_not hK l Lz a w hO h) late T Pre R R0 rs all us i0 d0 j1 d1 G hG hPre Lz ks hE hback hlate hclosed hseq hus hap hperm hnd0 hLz hrs hsz hord hlo hdst0 hdn hdst1 hj1 hT hP (K := Q .normal) (fun _ _ h => h) (h (cutQ Q) (Q .normal) (fun _ _ h => h))
end
/-- an append leaves all rows as they were, as far as they agree with what it makes -/
theorem run_app_keeps {P : Program} {w w' : World} {v' : Value} (base : Nat) (t ty e : TypeId) (i : TypeInfo) (z : Value) (size bytes : Nat) (ht : P.underlying t = some (.slice e)) (hi : P.info? e = some i) (hz : i.zero = some z)
    (hsize : i.size = size) (hby : i.bytes = bytes) (hsz : 0 < size)
    (v : Value) (n : Nat) (xs : List Value) (hown : w.ownsRow base e size v n xs)
    (a : Addr) (m c : Nat) (news : List Value) (hl : news.length = m * size) (hnews : ∀ j u, news[j]? = some u → w.cell? (a.add j) = some u) (h1 : ∀ u ∈ news, u.oneCell' = true)
    (h63 : n + m ≤ maxLen) (hbytes : (n + m) * bytes ≤ 140737488355328)
    (hr : (Builtin.append_ #[t, t] ty #[v, .slice (some a) m c]).run P w = .ok v' w') {base2 p : Nat} {v2 : Value} {ys : List Value} (h2 : w.ownsRow base2 e size v2 p ys) (hp : ys <+: xs ++ news) : w'.ownsRow base2 e size v2 p ys := by
 subst hsize
 subst hby
 have hsmall : n + m ≤ 9223372036854775807 := by simp only [maxLen] at h63; omega
 rcases hown.2 with ⟨rfl, rfl⟩ | ⟨g, cap, cur, rfl, hbg, hg, hnc, hcm, hcs, htake⟩
 ·by_cases hm : m = 0
  ·subst hm
   have hn : news = [] := List.eq_nil_of_length_eq_zero (by simpa using hl)
   subst hn
   have h : (Builtin.append_ #[t, t] ty #[.slice none 0 0, .slice (some a) 0 c]).run P w = .ok (.slice none 0 0) w := by
    simp [Builtin.append_, run_underlying ht, sizeOf, typeInfo, hi, Builtin.lenOf, Builtin.firstCells, loadCells, loadCellsFrom]
   rw [hr] at h
   injection h with _ hw
   subst hw
   exact h2
  ·have h := run_append_nil (P := P) w t ty e i z ht hi hz a m c news hl hnews (by omega) (by omega) (by have hb := hbytes; simp only [Nat.zero_add] at hb; omega)
   rw [hr] at h
   injection h with _ hw
   subst hw
   exact h2.alloc (w := w.drew) _
 ·by_cases hroom : n + m ≤ cap
  ·have hfit : n * i.size + news.length ≤ cur.size := by rw [hl, hcs, ← Nat.add_mul]; exact Nat.mul_le_mul_right _ hroom
   have h := run_append_room (P := P) w t ty e i ht hi g n cap cur hg a m c news hl hnews h1 hroom hfit
   rw [hr] at h
   injection h with _ hw
   subst hw
   refine ⟨h2.1, ?_⟩
   rcases h2.2 with h2n | ⟨g', cap', cur', rfl, hb', hg', hn', hm', hc', ht'⟩
   ·exact .inl h2n
   ·by_cases e' : g' = g
    ·subst e'
     rw [hg] at hg'
     cases hg'
     refine .inr ⟨g', cap', _, rfl, hb', setRow_heap w g' cur _ e _ hg, hn', hm', ?_, ?_⟩
     ·simp only [List.size_toArray, List.length_append, List.length_take, List.length_drop, Array.length_toList]
      omega
     ·rw [htake, ← h2.1]
      obtain ⟨zs, hzs⟩ := hp
      simp only
      rw [← hzs, List.append_assoc]
      exact List.take_left
    ·exact .inr ⟨g', cap', cur', rfl, hb', (setRow_other w g g' _ e').trans hg', hn', hm', hc', ht'⟩
  ·have holds : ∀ j u, xs[j]? = some u → w.cell? ((⟨g, 0, none⟩ : Addr).add j) = some u := hown.cells (g := g) rfl
   have h := run_append_grow (P := P) w t ty e i z ht hi hz ⟨g, 0, none⟩ n cap xs hown.1 holds a m c news hl hnews (by omega) (by omega) (growslice_fits (by omega) hbytes)
   rw [hr] at h
   injection h with _ hw
   subst hw
   exact h2.alloc (w := w.drew) _
theorem wp_appK {P : Program} {w : World} {o : Oper} {a : Act} {K : Act → World → Prop} {Q : Exit → Act → World → Prop} (s x : Operand) (t : TypeId)
    (ho : o.op = .call { callee := .builtin .append, args := #[s, x], argTypes := #[t, t] })
    (base : Nat) (e : TypeId) (z : Value) (size bytes : Nat) (ht : P.underlying t = some (.slice e)) (hi : (P.info? e).map (fun i => (i.zero, i.size, i.bytes)) = some (some z, size, bytes))
    (hzs : z.cells.size = size) (hsz : 0 < size) (v : Value) (n : Nat) (xs : List Value) (hs : a.eval s = v) (hown : w.ownsRow base e size v n xs)
    (B : Nat) (A : Option Addr) (m c : Nat) (news : List Value) (hx : a.eval x = .slice A m c) (hA : Arr w B A news) (hl : news.length = m * size) (h1 : ∀ u ∈ news, u.oneCell' = true)
    (h63 : n + m ≤ maxLen) (hbytes : (n + m) * bytes ≤ 140737488355328) (hbase : base ≤ w.heap.size)
    (h : ∀ A' cap' w', n + m ≤ cap' → cap' ≤ maxLen → w'.ownsRow base e size (.slice A' (n + m) cap') (n + m) (xs ++ news) → w.grownBy w' v.ownBlock → (∀ k, (Value.slice A' (n + m) cap').ownBlock = some k → v.ownBlock = some k ∨ w.heap.size ≤ k) → (∀ (b2 p : Nat) (v2 : Value) (ys : List Value), w.ownsRow b2 e size v2 p ys → ys <+: xs ++ news → w'.ownsRow b2 e size v2 p ys) → K (a.put o.dst (.slice A' (n + m) cap')) w') : o.wp P a w K Q := by
 obtain ⟨A', cap', w', hr, hc1, hc2, ho', hg, hb⟩ := run_appN (P := P) (w := w) base t o.type e z size bytes ht hi hzs hsz v n xs hown B A m c news hA hl h1 h63 hbytes hbase
 obtain ⟨i0, hi0, hz0, hz1, hz2⟩ := info_parts hi
 have hk : ∀ (b2 p : Nat) (v2 : Value) (ys : List Value), w.ownsRow b2 e size v2 p ys → ys <+: xs ++ news → w'.ownsRow b2 e size v2 p ys := fun b2 p v2 ys h2 hp => by
  by_cases hn : news = []
  ·subst hn
   cases A with
   | none =>
    have hm : m = 0 := by
     rcases Nat.eq_zero_or_pos m with h | h
     ·exact h
     ·have := Nat.mul_pos h hsz
      simp at hl; omega
    subst hm
    have h3 := run_app_nil (P := P) base t o.type e size ht i0 hi0 v n xs hown c
    rw [hr] at h3
    injection h3 with _ hw
    subst hw
    exact h2
   | some ad => exact run_app_keeps base t o.type e i0 z size bytes ht hi0 hz0 hz1 hz2 hsz v n xs hown ad m c [] hl (fun j u hu => by simp at hu) h1 h63 hbytes hr h2 hp
  ·obtain ⟨b, q, rfl, _, hc⟩ := hA hn
   refine run_app_keeps base t o.type e i0 z size bytes ht hi0 hz0 hz1 hz2 hsz v n xs hown _ m c news hl (fun j u hu => ?_) h1 h63 hbytes hr h2 hp
   have hadd : Addr.add ⟨b, q, none⟩ j = ⟨b, q + j, none⟩ := by unfold Addr.add; split <;> simp_all
   rw [hadd]; exact hc j u hu
 unfold Oper.wp execOp
 simp only [ho, resolve, invoke, builtin, Sem.run_bind, Sem.run_pure, Result.andThen_ok, List.map_toArray, List.map_cons, List.map_nil, hs, hx, hr]
 exact h A' cap' w' hc1 hc2 ho' hg hb hk
end Go.Proofs.YtkhmcofmjjmjhaaDoor
