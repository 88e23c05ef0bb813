/- A statement that draws its order, with one store in the middle: what the store leaves is told of the slot that points there. -/
import Derived.Test.YtkhmcofmjjmjhaaDoorKLF

namespace Go.Proofs.YtkhmcofmjjmjhaaDoor
set_option linter.unusedSimpArgs false
set_option linter.unusedVariables false
open Go Go.RowKit
section
variable {P : Program} {md : Region.Mode} {ops : Array Oper} {Q : Exit → Act → World → Prop}
variable {F : Nat → Value → World → Prop} {T : World → Prop} {R : World → World → Prop} {late : List Nat} {n : Nat} {known : List (Nat × Value)} {ks : List Nat} {D : List Deferred} {L0 Lz : Array Bool} {rs : List Nat}
variable {E : Array Bool → Act → World → Prop}
variable {X : Nat → Array Bool → Act → World → Prop}
theorem lin_goC (hX : AnyLike P md ops Q X) (hback : backB md ops = true) (hlate : lateB md ops L0 late = true) (hks : known.map Prod.fst = ks) (hdst : dstB n ks ops rs = true) (hap : apartB ops rs = true)
    (hLz : ((List.range ops.size).map fun i => !late.contains i).toArray = Lz) (hrs : (List.range ops.size).filter (fun i => !late.contains i && !L0.getD i true) = rs)
    (hF : ∀ j v w w', R w w' → F j v w → F j v w')
    (hop : ∀ a w L, L.size = ops.size → Closed md ops L → a.defers = D → Tm n known a.tmps → T w → E L a w → (∀ j, j ∈ rs → L.getD j false = true → Known ops F j a w) → LinE P md ops rs Q F T R E L a w rs)
    (hend : ∀ a w, a.defers = D → Tm n known a.tmps → T w → E Lz a w → (∀ j, rs.contains j = true → Known ops F j a w) → X late.length Lz a w) :
    ∀ (m : Nat) (L : Array Bool) (a : Act) (w : World), L.size = ops.size → Closed md ops L → (∀ k ∈ late, L.getD k false = false) → (∀ i, i ∉ rs → i ∉ late → i < ops.size → L.getD i false = true) → (left ops late L).length = m →
      a.defers = D → Tm n known a.tmps → T w → E L a w → (∀ j, j ∈ rs → L.getD j false = true → Known ops F j a w) → X (m + late.length) L a w := by
  intro m
  induction m with
  | zero =>
    intro L a w hs hc hl hp hm hd ht hT hE hK
    have hall : ∀ i, i < ops.size → i ∉ late → L.getD i true = true := fun i hi hn => by
      cases hL : L.getD i true with
      | true => rfl
      | false =>
        have : i ∈ left ops late L := by
          unfold left
          rw [List.mem_filter]; exact ⟨List.mem_range.2 hi, by simp only [hL, Bool.not_false, Bool.and_true, Bool.not_eq_true']; simpa using hn⟩
        rw [List.length_eq_zero_iff.1 hm] at this
        cases this
    have hEq : L = Lz := by
      rw [← hLz]; refine Array.ext (by simp [hs]) fun i h1 h2 => ?_; have hi : i < ops.size := by omega
      have e1 : L[i] = L.getD i true := by simp [h1]
      have e2 : L[i] = L.getD i false := by simp [h1]
      simp only [List.getElem_toArray, List.getElem_map, List.getElem_range]
      by_cases hmem : i ∈ late
      · rw [e2, hl i hmem]; simp [hmem]
      · rw [e1, hall i hi hmem]; simp [hmem]
    rw [Nat.zero_add, hEq]; refine hend a w hd ht hT (hEq ▸ hE) fun j hj => ?_; have hj' : j ∈ rs := by simpa using hj
    have hj2 := hj'; rw [← hrs, List.mem_filter, List.mem_range, Bool.and_eq_true] at hj2; have hjl : j < L.size := by omega
    refine hK j hj' ?_; rw [getD_lt hjl false true]; exact hall j hj2.1 (by simpa using hj2.2.1)
  | succ m ih =>
    intro L a w hs hc hl hp hm hd ht hT hE hK
    have hidx : m + 1 + late.length = (m + late.length) + 1 := by omega
    rw [hidx]
    have hex : ∃ i, i < ops.size ∧ i ∉ late ∧ L.getD i true = false := by
      cases hle : left ops late L with
      | nil => rw [hle] at hm; simp at hm
      | cons i l =>
        have hi : i ∈ left ops late L := by rw [hle]; exact List.mem_cons_self ..
        unfold left at hi
        rw [List.mem_filter, List.mem_range] at hi; exact ⟨i, hi.1, by simpa using (by simpa using hi.2 : ¬ i ∈ late ∧ _).1, by simpa using (by simpa using hi.2 : ¬ i ∈ late ∧ _).2⟩
    have hback' : ∀ (j : Nat) (o : Oper), ops[j]? = some o → ∀ e ∈ o.after, Region.binds md e = true → e.on < j := fun j o ho e he hb => by
      have hj : j < ops.size := (Array.getElem?_eq_some_iff.1 ho).1; have := range_all hback hj; simp only [ho, Array.all_eq_true_iff_forall_mem] at this; have h := this e he; rw [hb] at h; exact of_decide_eq_true (by simpa using h)
    -- the least one that is not listed may come up
    have hready : Region.ready md ops L ≠ [] := by
      obtain ⟨i, hi, _, hLi⟩ := hex
      have hmin : ∀ k, k < ops.size → L.getD k true = false → ∃ j, j ∈ Region.ready md ops L := by
        intro k
        induction k using Nat.strongRecOn with
        | ind k ihk =>
          intro hk hLk
          by_cases hr : k ∈ Region.ready md ops L
          · exact ⟨k, hr⟩
          · have ho : ops[k]? = some ops[k] := Array.getElem?_eq_getElem hk
            have hnot : ¬ ∀ e ∈ ops[k].after, Region.binds md e = true → L.getD e.on false = true := fun hall => hr (mem_ready.2 ⟨hLk, _, ho, hall⟩); simp only [Classical.not_forall] at hnot; obtain ⟨e, he, hb, hne⟩ := hnot; have hlt := hback' k _ ho e he hb; refine ihk e.on hlt (by omega) ?_; have hel : e.on < L.size := by omega
            rw [getD_lt hel true false]
            simpa using hne
      obtain ⟨j, hj⟩ := hmin i hi hLi
      intro h0
      rw [h0] at hj
      cases hj
    refine hX _ _ _ _ hready (fun i hi o ho K' hK' => ?_); obtain ⟨hLi, o', ho', hdeps⟩ := mem_ready.1 hi; rw [ho] at ho'; cases ho'; have hio : i < ops.size := (Array.getElem?_eq_some_iff.1 ho).1; have hil : i < L.size := by omega
    have hc' : Closed md ops (L.setIfInBounds i true) := fun j o' hj ho' e he hb => by
      by_cases hji : j = i
      · subst hji; rw [ho] at ho'; cases ho'; exact getD_set_true (hdeps e he hb)
      · rw [getD_set_ne false (Ne.symm hji)] at hj
        exact getD_set_true (hc j o' hj ho' e he hb)
    have hnl : i ∉ late := fun hmem => by
      obtain ⟨k, hk, hkn, hLk⟩ := hex; have h1 := List.all_eq_true.1 hlate i hmem; simp only [Bool.and_eq_true] at h1; have h2 := range_all h1.2 hk; simp only [Bool.or_eq_true] at h2; have hki : i ≠ k := fun e => hkn (e ▸ hmem); have hkl : k < L.size := by omega
      rcases h2 with h2 | h2
      · have h3 : k ∈ marks md ops (List.range ops.size).reverse [i] := by
          rcases h2 with h2 | h2
          · exact absurd (by simpa using h2) hkn
          · simpa using h2
        have h4 := marks_sound hc' _ [i] (fun x hx => by rw [List.mem_singleton.1 hx]; exact getD_set_same hil false) k h3; rw [getD_set_ne false hki] at h4; rw [getD_lt hkl true false, h4] at hLk
        cases hLk
      · have h4 : k ∉ rs := by
          rw [← hrs, List.mem_filter, Bool.and_eq_true]
          intro h5
          rw [h2] at h5; simp at h5
        have h6 := hp k h4 hkn hk; rw [getD_lt hkl true false, h6] at hLk
        cases hLk
    have hirs : i ∈ rs := Classical.byContradiction fun hn => by
      have h6 := hp i hn hnl hio; rw [getD_lt hil true false, h6] at hLi
      cases hLi
    have hstep := hop a w L hs hc hd ht hT hE hK i hirs o ho hLi (fun k hk hkr => by
      unfold depB at hk
      rw [Array.any_eq_true] at hk; obtain ⟨x, hx, hb⟩ := hk; simp only [Bool.and_eq_true, beq_iff_eq] at hb; rw [← hb.2] at hkr ⊢; exact hK _ hkr (hdeps _ (Array.getElem_mem hx) hb.1))
    refine hstep K' ?_
    intro a' v w' ha' hFv hT' hR hE'
    refine hK' a' w' ?_; subst ha'
    have hdo : ∀ d, o.dst = some d → d < n ∧ ks.contains d = false := fun d hdd => by
      have := List.all_eq_true.1 hdst i hirs; simp only [ho, hdd, Bool.and_eq_true, decide_eq_true_eq, Bool.not_eq_true'] at this; exact this
    have hput : ∀ t, (∀ d, o.dst = some d → d ≠ t) → (a.put o.dst v).tmps[t]? = a.tmps[t]? := fun t hne => by
      cases hdd : o.dst with
      | none => rfl
      | some d => simp [Act.put, Array.getElem?_setIfInBounds_ne (hne d hdd)]
    refine ih (L.setIfInBounds i true) (a.put o.dst v) w' (by simp [hs]) hc' ?_ (fun j hj hjn hjo => getD_set_true (hp j hj hjn hjo)) ?_ ?_ ?_ hT' hE' ?_
    · intro k hk
      rw [getD_set_ne false (show i ≠ k from fun e => hnl (e ▸ hk))]; exact hl k hk
    · have := filter_drop (l := List.range ops.size) (p := fun j => !late.contains j && !L.getD j true) (q := fun j => !late.contains j && !(L.setIfInBounds i true).getD j true) (i := i) List.nodup_range (List.mem_range.2 hio)
        (by rw [hLi]; simpa using hnl) (by rw [getD_set_same hil]; simp) (fun j hj => by rw [getD_set_ne true (Ne.symm hj)])
      unfold left at hm ⊢
      omega
    · cases o.dst <;> exact hd
    · refine ⟨?_, fun p hp => ?_⟩
      · cases o.dst with
        | none => exact ht.1
        | some d => simp [Act.put, ht.1]
      · rw [hput p.1 fun d hdd e => ?_]
        · exact ht.2 p hp
        · have h1 := (hdo d hdd).2
          have h2 : d ∈ ks := by rw [← hks, e]; exact List.mem_map_of_mem hp
          simp [h2] at h1
    · intro j hjr hj o' d ho' hd'
      by_cases hji : j = i
      · subst hji
        rw [ho] at ho'
        cases ho'
        refine ⟨v, ?_, hFv⟩; have hdn : d < a.tmps.size := by rw [ht.1]; exact (hdo d hd').1
        rw [hd']; simp [Act.put, hdn]
      · rw [getD_set_ne false (Ne.symm hji)] at hj
        obtain ⟨u, hu, hFu⟩ := hK j hjr hj o' d ho' hd'; refine ⟨u, ?_, hF _ _ _ _ hR hFu⟩; rw [hput d fun d' hdd e => ?_]
        · exact hu
        · subst e
          have := List.all_eq_true.1 (List.all_eq_true.1 hap i hirs) j hjr; simp only [ho, ho', hdd, hd', Bool.or_eq_true, beq_iff_eq, Option.isNone_some, bne_iff_ne, ne_eq, not_true_eq_false, or_false, Bool.false_eq_true] at this; exact hji this.symm
theorem linE_anyC (hX : AnyLike P md ops Q X) (late : List Nat) (n : Nat) (F : Nat → Value → World → Prop) (T : World → Prop) (R : World → World → Prop) (E : Array Bool → Act → World → Prop) (ks : List Nat) (Lz : Array Bool) (rs : List Nat) {m : Nat} {a : Act} {w : World}
    (hback : backB md ops = true) (hlate : lateB md ops L0 late = true) (hlate0 : (late.all fun k => !L0.getD k false) = true) (hclosed : closedB md ops L0 = true) (hkn : (ks.all fun t => decide (t < n)) = true) (hdst : dstB n ks ops rs = true) (hap : apartB ops rs = true)
    (hLz : ((List.range ops.size).map fun i => !late.contains i).toArray = Lz) (hrs : (List.range ops.size).filter (fun i => !late.contains i && !L0.getD i true) = rs) (hsz : rs.length + late.length = m)
    (hF : ∀ j v w w', R w w' → F j v w → F j v w')
    (hsize : a.tmps.size = n) (hT : T w) (hE : E L0 a w)
    (hop : ∀ a' w' L, L.size = ops.size → Closed md ops L → a'.defers = a.defers → a'.tmps.size = n → (∀ t, ks.contains t = true → a'.tmps[t]? = some (a.tmps.getD t undef)) → T w' → E L a' w' → (∀ j, j ∈ rs → L.getD j false = true → Known ops F j a' w') → LinE P md ops rs Q F T R E L a' w' rs)
    (hend : ∀ a' w', a'.defers = a.defers → a'.tmps.size = n → (∀ t, ks.contains t = true → a'.tmps[t]? = some (a.tmps.getD t undef)) → T w' → E Lz a' w' → (∀ j, rs.contains j = true → Known ops F j a' w') → X late.length Lz a' w') :
    X m L0 a w := by
  have hks : (ks.map fun t => (t, a.tmps.getD t undef)).map Prod.fst = ks := by
    rw [List.map_map]; exact List.map_id'' (fun _ => rfl) _
  have hun : ∀ xs : Array Value, Tm n (ks.map fun t => (t, a.tmps.getD t undef)) xs → ∀ t, ks.contains t = true → xs[t]? = some (a.tmps.getD t undef) := fun xs h t ht =>
    h.2 (t, a.tmps.getD t undef) (List.mem_map.2 ⟨t, by simpa using ht, rfl⟩)
  have ht : Tm n (ks.map fun t => (t, a.tmps.getD t undef)) a.tmps := ⟨hsize, fun p hp => by
    obtain ⟨t, ht, rfl⟩ := List.mem_map.1 hp; have hlt : t < a.tmps.size := by rw [hsize]; exact of_decide_eq_true (List.all_eq_true.1 hkn t ht)
    simp [hlt]⟩
  have hz : (left ops late L0).length = rs.length := by rw [← hrs]; rfl
  obtain ⟨hs, hc⟩ := closedB_sound hclosed
  have h := lin_goC hX (P := P) (md := md) (Q := Q) (F := F) (T := T) (R := R) (E := E) (D := a.defers) hback hlate hks hdst hap hLz hrs hF (fun a' w' L h0 hcl h1 h2 h3 h4 h5 => hop a' w' L h0 hcl h1 h2.1 (hun _ h2) h3 h4 h5) (fun a' w' h1 h2 h3 h4 h5 => hend a' w' h1 h2.1 (hun _ h2) h3 h4 h5) rs.length L0 a w hs hc
    (fun k hk => by simpa using List.all_eq_true.1 hlate0 k hk)
    (fun i hi hin hio => by
      have hil : i < L0.size := by omega
      rw [getD_lt hil false true]
      cases hL : L0.getD i true with
      | true => rfl
      | false => exact absurd (by rw [← hrs, List.mem_filter]; exact ⟨List.mem_range.2 hio, by rw [hL]; simpa using hin⟩) hi)
    hz rfl ht hT hE (fun j hj hj1 => by
      rw [← hrs, List.mem_filter, List.mem_range, Bool.and_eq_true] at hj; have hjl : j < L0.size := by omega
      have h0 := hj.2.2; rw [getD_lt hjl true false, hj1] at h0
      cases h0)
  rw [hsz] at h; exact h
end
section
variable {P : Program} {md : Region.Mode} {ops : Array Oper} {Q : Exit → Act → World → Prop}
variable {T : World → Prop} {R : World → World → Prop} {n : Nat} {us : List Nat} {a0 : Act}
variable (P md ops Q) in
/-- the store's step: what it leaves is told of the slot d0 -/
def StepMem (T : World → Prop) (R : World → World → Prop) (n : Nat) (us : List Nat) (a0 : Act) (acc : List (Nat × Option Nat × (Value → World → Prop))) (i d0 : Nat) (G : Value → World → Prop) : Prop :=
  ∀ o, ops[i]? = some o → ∀ a w, SameBut n us a0 a → T w → (∀ k d F, (k, d, F) ∈ acc → depB md o k = true → Told k ops F a w) → ∀ K : Act → World → Prop, Hush (∀ a' v w', a' = a.put o.dst undef → a.tmps[d0]? = some v → G v w' → T w' → R w w' → K a' w') →
    if Region.wanted o (yielded ops a.tmps) = true then Oper.wp P o a w K Q else K (a.put o.dst undef) w
theorem StepMem.plain {acc : List (Nat × Option Nat × (Value → World → Prop))} {i d0 : Nat} {G : Value → World → Prop} {o : Oper} (ho : ops[i]? = some o) (hg : o.guard = none)
    (h : ∀ a w, SameBut n us a0 a → T w → (∀ k d F, (k, d, F) ∈ acc → depB md o k = true → Told k ops F a w) → ∀ K : Act → World → Prop, Hush (∀ a' v w', a' = a.put o.dst undef → a.tmps[d0]? = some v → G v w' → T w' → R w w' → K a' w') → Oper.wp P o a w K Q) : StepMem P md ops Q T R n us a0 acc i d0 G := fun o' ho' a w h1 h2 h3 K hK => by
  rw [ho] at ho'; cases ho'; rw [if_pos (wanted_none hg)]; exact h a w h1 h2 h3 K hK
/-- all that write the slot d0 come before the operation i0 -/
def memB (md : Region.Mode) (ops : Array Oper) (rs : List Nat) (i0 d0 : Nat) : Bool := rs.all fun i => match ops[i]?, ops[i0]? with
  | some o, some b => o.dst != some d0 || depB md b i
  | _, _ => false
theorem seq_anyM {X : Nat → Array Bool → Act → World → Prop} (hX : AnyLike P md ops Q X) {L0 : Array Bool} (late : List Nat) (n : Nat) (T : World → Prop) (R : World → World → Prop) (rs : List (Nat × Option Nat)) (us : List Nat) (i0 d0 : Nat) (G : Value → World → Prop) (hG : ∀ v w w', R w w' → G v w → G v w') (Lz : Array Bool) {m : Nat} {a : Act} {w : World}
    (hback : backB md ops = true) (hlate : lateB md ops L0 late = true) (hlate0 : (late.all fun k => !L0.getD k false) = true) (hclosed : closedB md ops L0 = true) (hseq : seqB n ops rs = true) (hus : rs.filterMap (·.2) = us) (hap : apartB ops (rs.map (·.1) ++ [i0]) = true)
    (hLz : ((List.range ops.size).map fun i => !late.contains i).toArray = Lz) (hrs : (List.range ops.size).filter (fun i => !late.contains i && !L0.getD i true) = rs.map (·.1) ++ [i0]) (hsz : rs.length + 1 + late.length = m)
    (hmem : memB md ops (rs.map (·.1)) i0 d0 = true) (hnone : ((ops[i0]?).map (·.dst)) = some none)
    (hsize : a.tmps.size = n) (hT : T w)
    (h : SeqOps P md ops Q T R n us a (fun acc => StepMem P md ops Q T R n us a acc i0 d0 G ∧ ∀ w', T w' → Ends (fun a' w' => ∀ v, a'.tmps[d0]? = some v → G v w' → X late.length Lz a' w') a.defers w' acc.reverse a.tmps) rs []) :
    X m L0 a w := by
  obtain ⟨new, h1, h2, h3⟩ := seq_gather rs [] h; rw [List.append_nil] at h2; obtain ⟨hM, h2⟩ := h2
  obtain ⟨om, hom, homd⟩ : ∃ o, ops[i0]? = some o ∧ o.dst = none := by
    cases ho : ops[i0]? with
    | none => rw [ho] at hnone; cases hnone
    | some o => rw [ho] at hnone; exact ⟨o, rfl, by simpa using hnone⟩
  have hmap : new.map (·.1) = (rs.map (·.1)).reverse := by
    have := congrArg (List.map Prod.fst) h1
    simpa [List.map_map, Function.comp_def, List.map_reverse] using this
  have hndA : (rs.map (·.1) ++ [i0]).Nodup := by
    rw [← hrs]; exact List.Pairwise.filter _ List.nodup_range
  have hi0 : i0 ∉ rs.map (·.1) := fun hm => by
    have := (List.nodup_append.1 hndA).2.2 i0 hm i0 (by simp); exact this rfl
  have hnd : (new.map (·.1)).Nodup := by
    rw [hmap]
    unfold List.Nodup
    rw [List.pairwise_reverse]; simp only [ne_comm (α := Nat)]; exact (List.nodup_append.1 hndA).1
  have hdst : ∀ x ∈ new, ∃ o, ops[x.1]? = some o ∧ o.dst = x.2.1 ∧ ∀ d, x.2.1 = some d → d < n := fun x hx => by
    have hm : (x.1, x.2.1) ∈ rs := by
      have : (x.1, x.2.1) ∈ new.map (fun x => (x.1, x.2.1)) := List.mem_map_of_mem (f := fun x => (x.1, x.2.1)) hx; rw [h1] at this; exact List.mem_reverse.1 this
    have h0 := List.all_eq_true.1 hseq _ hm; rw [Bool.and_eq_true] at h0; obtain ⟨h01, h02⟩ := h0
    cases ho : ops[x.1]? with
    | none => simp [ho] at h01
    | some o =>
      refine ⟨o, rfl, by simpa [ho] using h01, fun d hd => ?_⟩; simp only [hd] at h02; exact of_decide_eq_true h02
  have hus' : ∀ x ∈ new, ∀ d, x.2.1 = some d → d ∈ us := fun x hx d hd => by
    have hm : (x.1, x.2.1) ∈ rs := by
      have : (x.1, x.2.1) ∈ new.map (fun x => (x.1, x.2.1)) := List.mem_map_of_mem (f := fun x => (x.1, x.2.1)) hx; rw [h1] at this; exact List.mem_reverse.1 this
    rw [← hus, List.mem_filterMap]; exact ⟨_, hm, hd⟩
  have husn : ∀ t, us.contains t = true → ∃ x ∈ new, x.2.1 = some t := fun t ht => by
    have ht' : t ∈ us := by simpa using ht
    rw [← hus, List.mem_filterMap] at ht'; obtain ⟨p, hp, hd⟩ := ht'; have : p ∈ new.map (fun x => (x.1, x.2.1)) := by rw [h1]; exact List.mem_reverse.2 hp
    obtain ⟨x, hx, rfl⟩ := List.mem_map.1 this; exact ⟨x, hx, hd⟩
  have hsame : ∀ a' : Act, a'.defers = a.defers → a'.tmps.size = n → (∀ t, ((List.range n).filter fun t => !us.contains t).contains t = true → a'.tmps[t]? = some (a.tmps.getD t undef)) → SameBut n us a a' := fun a' hd hs hk => ⟨hd, hs, fun t ht => by
    by_cases hlt : t < n
    · rw [hk t (by simp only [List.contains_iff_mem, List.mem_filter, List.mem_range, ht, hlt]; decide)]
      have : t < a.tmps.size := by omega
      simp [this]
    · rw [Array.getElem?_eq_none (by omega), Array.getElem?_eq_none (by omega)]⟩
  have hall : ∀ i, i ∈ rs.map (·.1) → ∃ x ∈ new, x.1 = i := fun i hi => by
    have : i ∈ new.map (·.1) := by rw [hmap]; exact List.mem_reverse.2 hi
    obtain ⟨x, hx, e⟩ := List.mem_map.1 this; exact ⟨x, hx, e⟩
  have hknown : ∀ (pre : List (Nat × Option Nat × (Value → World → Prop))) (o : Oper) (a' : Act) (w' : World), (∀ y ∈ pre, y ∈ new) → (∀ k, depB md o k = true → k ∈ rs.map (·.1) ++ [i0] → Known ops (lookF new) k a' w') → ∀ k d F, (k, d, F) ∈ pre → depB md o k = true → Told k ops F a' w' := fun pre o a' w' hpre hdeps k d F hkF hdep => by
    have hm := hpre _ hkF
    have hk' : k ∈ rs.map (·.1) := by
      have : k ∈ new.map (·.1) := List.mem_map_of_mem (f := (·.1)) hm; rw [hmap] at this; exact List.mem_reverse.1 this
    have hkn := hdeps k hdep (List.mem_append_left _ hk')
    intro d' hd'
    obtain ⟨v, hv, hF⟩ := hkn.get hd'; have e : lookF new k = F := lookF_mem hnd _ hm; rw [e] at hF; exact ⟨v, hv, hF⟩
  have hlook0 : ∀ v w, lookF new i0 v w := fun v w => by
    have : ∀ l : List (Nat × Option Nat × (Value → World → Prop)), i0 ∉ l.map (·.1) → lookF l i0 v w := by
      intro l
      induction l with
      | nil => intro _; trivial
      | cons x l ih =>
        obtain ⟨k, d, F⟩ := x
        intro hn
        simp only [List.map_cons, List.mem_cons, not_or] at hn; simp only [lookF, if_neg hn.1]; exact ih hn.2
    refine this new ?_; rw [hmap, List.mem_reverse]; exact hi0
  refine linE_anyC hX late n (lookF new) T R (fun L a w => L.getD i0 false = true → ∃ v, a.tmps[d0]? = some v ∧ G v w) ((List.range n).filter fun t => !us.contains t) Lz (rs.map (·.1) ++ [i0]) hback hlate hlate0 hclosed ?_ ?_ hap hLz hrs (by simpa [Nat.add_assoc] using hsz) (lookF_stable fun x hx => (h3 x hx).1) hsize hT ?_ ?_ ?_
  · refine List.all_eq_true.2 fun t ht => ?_
    rw [List.mem_filter, List.mem_range] at ht; exact decide_eq_true ht.1
  · refine List.all_eq_true.2 fun j hj => ?_
    rcases List.mem_append.1 hj with hj | hj
    · obtain ⟨x, hx, rfl⟩ := hall j hj
      obtain ⟨o, ho, hd, hn⟩ := hdst x hx; simp only [ho]
      cases hod : o.dst with
      | none => rfl
      | some d =>
        have hx2 : x.2.1 = some d := by rw [← hd, hod]
        have := hn d hx2; have hu := hus' x hx d hx2; simp [this, hu]
    · obtain rfl := List.mem_singleton.1 hj
      simp only [hom, homd]
  · intro hL
    have hm : i0 ∈ (List.range ops.size).filter (fun i => !late.contains i && !L0.getD i true) := by rw [hrs]; simp
    rw [List.mem_filter, Bool.and_eq_true] at hm
    have hlt : i0 < L0.size := by
      by_cases hlt : i0 < L0.size
      · exact hlt
      · rw [Array.getD_eq_getD_getElem?, Array.getElem?_eq_none (by omega)] at hL
        cases hL
    rw [getD_lt hlt false true] at hL; rw [hL] at hm; simp at hm
  · intro a' w' L hLs hcl hd hs hk hT' hE hK i hi o ho hLi hdeps K hKK
    rcases List.mem_append.1 hi with hi | hi
    · obtain ⟨x, hx, rfl⟩ := hall i hi
      obtain ⟨_, pre, hpre, hst⟩ := h3 x hx; rw [← lookF_mem hnd x hx] at hst; refine hst o ho a' w' (hsame a' hd hs hk) hT' (hknown pre o a' w' (fun y hy => by have := hpre y hy; rwa [List.append_nil] at this) hdeps) K (fun a2 v w2 e1 e2 e3 e4 => hKK a2 v w2 e1 e2 e3 e4 fun hL => ?_); have hne : x.1 ≠ i0 := fun e => hi0 (e ▸ hi); rw [getD_set_ne false hne] at hL; obtain ⟨v0, hv0, hG0⟩ := hE hL; refine ⟨v0, ?_, hG _ _ _ e4 hG0⟩
      cases hod : o.dst with
      | none => exact hv0
      | some d =>
        by_cases e : d = d0
        · subst e
          exfalso
          have hb := List.all_eq_true.1 hmem x.1 hi; simp only [ho, hom, hod, bne_self_eq_false, Bool.false_or] at hb
          unfold depB at hb
          rw [Array.any_eq_true] at hb; obtain ⟨z, hz, hb⟩ := hb; simp only [Bool.and_eq_true, beq_iff_eq] at hb; have := hcl i0 om hL hom _ (Array.getElem_mem hz) hb.1; rw [hb.2] at this; have hxl : x.1 < L.size := by rw [hLs]; exact (Array.getElem?_eq_some_iff.1 ho).1
          rw [getD_lt hxl false true, hLi] at this
          cases this
        · simp only [Act.put, Array.getElem?_setIfInBounds_ne e]
          exact hv0
    · obtain rfl := List.mem_singleton.1 hi
      rw [hom] at ho
      cases ho
      refine hM om hom a' w' (hsame a' hd hs hk) hT' (hknown new om a' w' (fun y hy => hy) hdeps) K (fun a2 v w2 e1 e2 e3 e4 e5 => hKK a2 undef w2 e1 (hlook0 _ _) e4 e5 fun _ => ⟨v, ?_, e3⟩); rw [homd]; exact e2
  · intro a' w' hd hs hk hT' hE hall'
    have hLz0 : Lz.getD i0 false = true := by
      have hm : i0 ∈ (List.range ops.size).filter (fun i => !late.contains i && !L0.getD i true) := by rw [hrs]; simp
      rw [List.mem_filter, List.mem_range, Bool.and_eq_true] at hm; rw [← hLz, Array.getD_eq_getD_getElem?]; simp only [List.getElem?_toArray, List.getElem?_map, List.getElem?_range hm.1, Option.map_some, Option.getD_some]; exact hm.2.1
    obtain ⟨v, hv, hGv⟩ := hE hLz0; have hend := ends_use (K := fun a' w' => ∀ v, a'.tmps[d0]? = some v → G v w' → X late.length Lz a' w') hd new.reverse a.tmps (h2 w' hT') (fun i d F hm => ?_) (by omega) (fun t ht => ?_)
    · exact hend v hv hGv
    · have hm' := List.mem_reverse.1 hm
      have hi : i ∈ rs.map (·.1) := by
        have : i ∈ new.map (·.1) := List.mem_map_of_mem (f := (·.1)) hm'; rw [hmap] at this; exact List.mem_reverse.1 this
      obtain ⟨o, ho, hod, _⟩ := hdst _ hm'; obtain ⟨v, hv, hF⟩ := hall' i (by simp only [List.contains_iff_mem]; exact List.mem_append_left _ hi) o d ho hod; have e : lookF new i = F := lookF_mem hnd _ hm'; rw [e] at hF; exact ⟨v, hv, hF⟩
    · have hc : us.contains t = false := by
        cases hc : us.contains t with
        | false => rfl
        | true =>
          obtain ⟨x, hx, he⟩ := husn t hc; obtain ⟨i, d, F⟩ := x; subst he; exact absurd (List.mem_reverse.2 hx) (ht i F)
      exact ((hsame a' hd hs hk).2.2 t hc).symm
end
section
variable {D : List Deferred} {P : Program} {ops : Array Oper} {Q Q' : Exit → Act → World → Prop} {a : Act} {w : World}
variable {yl : Bool}
/-- the store has been told of -/
def Mem (d0 : Nat) (G : Value → World → Prop) (K : Act → World → Prop) (a : Act) (w : World) : Prop := ∀ v, a.tmps[d0]? = some v → G v w → K a w
theorem region_drawnMX {X : Nat → Array Bool → Act → World → Prop} (hX : AnyLike P .any ops Q X) (hlx : ∀ K l Lz a w, (∀ a w, K a w → Q .normal a w) → lateOrdB .any ops Lz l = true → Late yl P ops Q K l a w → X l.length Lz a w) (late : List Nat) (T : World → Prop) (R : World → World → Prop) (rs : List (Nat × Option Nat)) (us : List Nat) (i0 d0 : Nat) (G : Value → World → Prop) (hG : ∀ v w w', R w w' → G v w → G v w') (Lz : Array Bool) (ks : List Nat) {n : Nat} {e : Env} (hE : FitsD D n e a)
    (hback : backB .any ops = true) (hlate : lateB .any ops (Array.replicate ops.size false) late = true) (hclosed : closedB .any ops (Array.replicate ops.size false) = true) (hseq : seqB n ops rs = true) (hus : rs.filterMap (·.2) = us) (hap : apartB ops (rs.map (·.1) ++ [i0]) = true)
    (hLz : ((List.range ops.size).map fun i => !late.contains i).toArray = Lz) (hrs : (List.range ops.size).filter (fun i => !late.contains i && !(Array.replicate ops.size false).getD i true) = rs.map (·.1) ++ [i0]) (hsz : rs.length + 1 + late.length = ops.size) (hord : lateOrdB .any ops Lz late = true)
    (hlo : (late.all fun k => !(Array.replicate ops.size false).getD k false) = true) (hmem : memB .any ops (rs.map (·.1)) i0 d0 = true) (hnone : ((ops[i0]?).map (·.dst)) = some none)
    (hT : T w.drew)
    {K : Act → World → Prop} (hK : ∀ a w, K a w → Q .normal a w)
    (h : SeqOps P .any ops Q T R n us a (fun acc => StepMem P .any ops Q T R n us a acc i0 d0 G ∧ ∀ w', T w' → EndsE (Mem d0 G (Late yl P ops Q K late)) D n w' acc.reverse (pick ks e)) rs []) : X ops.size (Array.replicate ops.size false) a w.drew := by
  have hs := h; refine seq_anyM hX late n T R rs us i0 d0 G hG Lz hback hlate hlo hclosed hseq hus hap hLz hrs hsz hmem hnone hE.2.1 hT ?_
  have hmono : ∀ (rs' : List (Nat × Option Nat)) (acc : List (Nat × Option Nat × (Value → World → Prop))), (∀ p ∈ rs', ∀ d, p.2 = some d → d < n) → (∀ x ∈ acc, ∀ d, x.2.1 = some d → d < n) →
      SeqOps P .any ops Q T R n us a (fun acc => StepMem P .any ops Q T R n us a acc i0 d0 G ∧ ∀ w', T w' → EndsE (Mem d0 G (Late yl P ops Q K late)) D n w' acc.reverse (pick ks e)) rs' acc →
      SeqOps P .any ops Q T R n us a (fun acc => StepMem P .any ops Q T R n us a acc i0 d0 G ∧ ∀ w', T w' → Ends (fun a' w' => ∀ v, a'.tmps[d0]? = some v → G v w' → X late.length Lz a' w') a.defers w' acc.reverse a.tmps) rs' acc := by
    intro rs'
    induction rs' with
    | nil =>
      intro acc _ hacc h
      refine ⟨h.1, fun w' hT' => ?_⟩; have h1 := h.2 w' hT'; rw [hE.1]; refine endsE_ends acc.reverse (pick ks e) a.tmps ?_ ?_ (fun i d F hm => hacc _ (List.mem_reverse.1 hm) d rfl)
      · have hk : ∀ (l : List (Nat × Option Nat × (Value → World → Prop))) (e' : Env), EndsE (Mem d0 G (Late yl P ops Q K late)) D n w' l e' → EndsE (fun a' w' => ∀ v, a'.tmps[d0]? = some v → G v w' → X late.length Lz a' w') D n w' l e' := by
          intro l
          induction l with
          | nil => intro e' h a' hf v hv hGv; exact hlx K late Lz a' w' hK hord (h a' hf v hv hGv)
          | cons x l ih =>
            obtain ⟨i, d, F⟩ := x
            cases d with
            | none => intro e' h; exact ih _ h
            | some d => intro e' h v hv; exact ih _ (h v hv)
        exact hk _ _ h1
      · have := hE.keep ks
        exact ⟨rfl, this.2.1, this.2.2⟩
    | cons p rs' ih =>
      obtain ⟨i, d⟩ := p
      intro acc hr hacc h
      obtain ⟨F, hF, hst, hs⟩ := h
      exact ⟨F, hF, hst, ih _ (fun p hp => hr p (List.mem_cons_of_mem _ hp)) (fun x hx => by
        rcases List.mem_cons.1 hx with rfl | hx
        · exact hr (i, d) (List.mem_cons_self ..)
        · exact hacc x hx) hs⟩
  refine hmono rs [] (fun p hp d hd => ?_) (fun _ hx => by cases hx) hs; have h0 := List.all_eq_true.1 hseq _ hp; rw [Bool.and_eq_true] at h0; have h2 := h0.2; rw [hd] at h2; exact of_decide_eq_true h2
/-- a statement that draws its order, with one store in the middle -/
theorem region_drawn_mem (late : List Nat) (T : World → Prop) (R : World → World → Prop) (rs : List (Nat × Option Nat)) (us : List Nat) (i0 d0 : Nat) (G : Value → World → Prop) (Lz : Array Bool) (ks : List Nat) {id n : Nat} {e : Env} (hE : FitsD D n e a) (hG : ∀ v w w', R w w' → G v w → G v w') (hm : P.follows .mixedOrders = true)
    (hback : backB .any ops = true) (hlate : lateB .any ops (Array.replicate ops.size false) late = true) (hclosed : closedB .any ops (Array.replicate ops.size false) = true) (hseq : seqB n ops rs = true) (hus : rs.filterMap (·.2) = us) (hap : apartB ops (rs.map (·.1) ++ [i0]) = true)
    (hLz : ((List.range ops.size).map fun i => !late.contains i).toArray = Lz) (hrs : (List.range ops.size).filter (fun i => !late.contains i && !(Array.replicate ops.size false).getD i true) = rs.map (·.1) ++ [i0]) (hsz : rs.length + 1 + late.length = ops.size) (hord : lateOrdB .any ops Lz late = true)
    (hlo : (late.all fun k => !(Array.replicate ops.size false).getD k false) = true) (hmem : memB .any ops (rs.map (·.1)) i0 d0 = true) (hnone : ((ops[i0]?).map (·.dst)) = some none)
    (hT : T w.drew)
    (h : ∀ Q' K, Hush (∀ a w, Q .normal a w → K a w) → SeqOps P .any ops Q' T R n us a (fun acc => StepMem P .any ops Q' T R n us a acc i0 d0 G ∧ ∀ w', T w' → EndsE (Mem d0 G (Late true P ops Q' K late)) D n w' acc.reverse (pick ks e)) rs []) : (Code.region id ops true).wp P Q a w := by
  refine (wpIn_wide (n := 5)).1 (wpIn_mono (Go.wpIn_region_any hm ?_) cutQ_out); exact region_drawnMX (Q := cutQ Q) (anyLike_in cutQ_not) (fun K l Lz a w hK hO h => late_anyIn cutQ_not hK l Lz a w hO h) late T R rs us i0 d0 G hG Lz ks hE hback hlate hclosed hseq hus hap hLz hrs hsz hord hlo hmem hnone hT (K := Q .normal) (fun _ _ h => h) (h (cutQ Q) (Q .normal) (fun _ _ h => h))
end
end Go.Proofs.YtkhmcofmjjmjhaaDoor
