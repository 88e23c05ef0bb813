/- A walk over frames of which only some slots are told. -/
import Derived.Test.YtkhmcofmjjmjhaaDoorKLY
import Derived.Below
import Derived.OrdersIn
import Derived.RangeFuncLeaves
namespace Go.Proofs.YtkhmcofmjjmjhaaDoor
set_option linter.unusedSimpArgs false
set_option linter.unusedVariables false
open Go Go.RowKit
abbrev Env := List (Nat × Value)
def lk (t : Nat) : Env → Option Value
  | [] => none
  | (k, v) :: l => if k = t then some v else lk t l
def pick : List Nat → Env → Env
  | [], _ => []
  | t :: ts, e => match lk t e with
    | some v => (t, v) :: pick ts e
    | none => pick ts e
/-- a frame of n slots, some of which hold what an environment tells -/
def FitsD (D : List Deferred) (n : Nat) (e : Env) (a : Act) : Prop := a.defers = D ∧ a.tmps.size = n ∧ ∀ t v, lk t e = some v → a.tmps[t]? = some v
abbrev Fits := FitsD []
section
variable {D : List Deferred} {n : Nat} {e : Env} {a : Act}
theorem FitsD.at (h : FitsD D n e a) (t : Nat) {v : Value} (hl : lk t e = some v) : a.tmps[t]? = some v := h.2.2 t v hl
theorem lk_pick : ∀ (ts : List Nat) (e : Env) (t : Nat) (v : Value), lk t (pick ts e) = some v → lk t e = some v
  | [], _, _, _, h => by cases h
  | x :: ts, e, t, v, h => by
    unfold pick at h
    cases hx : lk x e with
    | none => rw [hx] at h; exact lk_pick ts e t v h
    | some u =>
      rw [hx] at h
      simp only [lk] at h
      by_cases hxt : x = t
      · subst hxt; rw [if_pos rfl] at h; rw [hx]; exact h
      · rw [if_neg hxt] at h; exact lk_pick ts e t v h
theorem FitsD.keep (h : FitsD D n e a) (ts : List Nat) : FitsD D n (pick ts e) a := ⟨h.1, h.2.1, fun t v hl => h.2.2 t v (lk_pick ts e t v hl)⟩
theorem FitsD.put (h : FitsD D n e a) {d : Nat} (v : Value) (hd : d < n) : FitsD D n ((d, v) :: e) (a.put (some d) v) := ⟨h.1, by simp [Act.put, h.2.1], fun t u hl => by
  simp only [lk] at hl
  by_cases hdt : d = t
  · subst hdt
    rw [if_pos rfl] at hl; cases hl
    have : d < a.tmps.size := by rw [h.2.1]; exact hd
    simp [Act.put, this]
  · rw [if_neg hdt] at hl
    simp only [Act.put, Array.getElem?_setIfInBounds_ne hdt]
    exact h.2.2 t u hl⟩
theorem FitsD.same {a' : Act} {us : List Nat} {e' : Env} (h : FitsD D n e a) (hs : SameBut n us a a') (he : ∀ t v, lk t e' = some v → us.contains t = false ∧ lk t e = some v) : FitsD D n e' a' :=
  ⟨hs.1.trans h.1, hs.2.1, fun t v hl => by
    obtain ⟨h1, h2⟩ := he t v hl
    exact hs.at t h1 (h.at t h2)⟩
theorem FitsD.getD (h : FitsD D n e a) (t : Nat) {v : Value} (hl : lk t e = some v) : a.tmps.getD t undef = v := by rw [Array.getD_eq_getD_getElem?, h.at t hl]; rfl
/-- a slot's value, said otherwise -/
theorem FitsD.turn (h : FitsD D n e a) (t : Nat) {v v' : Value} (hl : lk t e = some v) (hv : v = v') : FitsD D n ((t, v') :: e) a := ⟨h.1, h.2.1, fun t' u hu => by
  simp only [lk] at hu
  by_cases e' : t = t'
  · subst e'; rw [if_pos rfl] at hu; cases hu; rw [← hv]; exact h.2.2 t v hl
  · rw [if_neg e'] at hu; exact h.2.2 t' u hu⟩
theorem FitsD.eval (h : FitsD D n e a) (t : Nat) {v : Value} (hl : lk t e = some v) : a.eval (.tmp t) = v := eval_of (h.at t hl)
end
section
variable {D : List Deferred} {P : Program} {ops : Array Oper} {Q Q' : Exit → Act → World → Prop} {a : Act} {w : World}
/-- nothing is outgrown -/
def cutQ (Q : Exit → Act → World → Prop) : Exit → Act → World → Prop
  | .outgrown, _, _ => False
  | e, a, w => Q e a w
theorem cutQ_not : ¬ LetsOut (cutQ Q) := fun ⟨_, _, h⟩ => h
theorem cutQ_out : ∀ e a w, cutQ Q e a w → Q e a w := fun e a w h => by cases e <;> first | exact h | exact h.elim
/-- an operation outside rounds, as it stands in a fence that lets all in -/
theorem op_wide {m : Nat} {o : Oper} {next next' : Act → World → Prop} (hL : ¬ LetsOut Q) (hn : ∀ a w, next a w → next' a w) (h : o.wp P a w next Q) : o.wpIn Fence.wide m P a w next' Q := by
  unfold Oper.wp at h
  refine ⟨fun _ _ => trivial, ?_⟩
  rw [show Fence.wide.round = none from rfl, Oper.semAt_none]
  generalize (execOp a.eval o).run P w = r at *
  unfold Oper.upon at h
  unfold Oper.uponIn
  split at h
  · exact hn _ _ h
  · exact hn _ _ h
  · exact hn _ _ h
  · refine ⟨fun e => by simp [Fence.wide] at e, callsIn_wide.2 (Calls.mono h ?_)⟩
    intro e w'' he
    cases e with
    | returned v => exact hn _ _ he
    | panicked c => exact he
    | outgrown => exact he
  · refine ⟨fun e => by simp [Fence.wide] at e, fun c cs _ => ?_⟩
    obtain ⟨v, w', hv, hst⟩ := h c cs
    exact ⟨v, w', hn _ _ hv, stepsIn_wide.2 hst⟩
  · exact h
  · exact h.elim
/-- operations one after the other; y: calls of yield may be among them -/
def Late (yl : Bool) (P : Program) (ops : Array Oper) (Q : Exit → Act → World → Prop) (K : Act → World → Prop) : List Nat → Act → World → Prop
  | [], a, w => K a w
  | i :: l, a, w => ∀ o, ops[i]? = some o → if Region.wanted o (yielded ops a.tmps) = true then (Oper.wp P o a w (Late yl P ops Q K l) Q ∨ (yl = true ∧ o.wpIn Fence.wide 5 P a w (Late yl P ops Q K l) Q)) else Late yl P ops Q K l (a.put o.dst undef) w
variable {yl : Bool}
theorem Late.nil {K : Act → World → Prop} (h : K a w) : Late yl P ops Q K [] a w := h
theorem Late.plain {K : Act → World → Prop} {i : Nat} {l : List Nat} {o : Oper} (ho : ops[i]? = some o) (hg : o.guard = none)
    (h : ∀ K' : Act → World → Prop, Hush (∀ a' w', Late yl P ops Q K l a' w' → K' a' w') → Oper.wp P o a w K' Q) : Late yl P ops Q K (i :: l) a w := fun o' ho' => by
  rw [ho] at ho'; cases ho'
  rw [if_pos (wanted_none hg)]
  exact .inl (h _ (fun _ _ h => h))
theorem Late.yes {n : Nat} {e : Env} (hE : FitsD D n e a) {K : Act → World → Prop} {i j d : Nat} {b : Bool} {l : List Nat} {o : Oper} (ho : ops[i]? = some o) (hg : o.guard = some (j, b)) (hd : (ops[j]?).bind (·.dst) = some d) (hv : lk d e = some (.bool b))
    (h : ∀ K' : Act → World → Prop, Hush (∀ a' w', Late yl P ops Q K l a' w' → K' a' w') → Oper.wp P o a w K' Q) : Late yl P ops Q K (i :: l) a w := fun o' ho' => by
  rw [ho] at ho'; cases ho'
  rw [if_pos (wanted_yes hg hd (hE.at d hv))]
  exact .inl (h _ (fun _ _ h => h))
/-- a call of yield -/
theorem Late.yield {K : Act → World → Prop} {i : Nat} {l : List Nat} {o : Oper} (ho : ops[i]? = some o) (hg : o.guard = none)
    (h : ∀ K' : Act → World → Prop, Hush (∀ a' w', Late true P ops Q K l a' w' → K' a' w') → o.wpIn Fence.wide 5 P a w K' Q) : Late true P ops Q K (i :: l) a w := fun o' ho' => by
  rw [ho] at ho'; cases ho'
  rw [if_pos (wanted_none hg)]
  exact .inr ⟨rfl, h _ (fun _ _ h => h)⟩
theorem Late.no {n : Nat} {e : Env} (hE : FitsD D n e a) {K : Act → World → Prop} {i j d : Nat} {b c : Bool} {l : List Nat} {o : Oper} (ho : ops[i]? = some o) (hg : o.guard = some (j, b)) (hd : (ops[j]?).bind (·.dst) = some d) (hv : lk d e = some (.bool c)) (hc : c = !b)
    (h : Late yl P ops Q K l (a.put o.dst undef) w) : Late yl P ops Q K (i :: l) a w := fun o' ho' => by
  rw [ho] at ho'; cases ho'
  rw [if_neg (wanted_no hg hd (hE.at d hv) hc)]
  exact h
theorem Late.un {n : Nat} {e : Env} (hE : FitsD D n e a) {K : Act → World → Prop} {i j d : Nat} {b : Bool} {l : List Nat} {o : Oper} (ho : ops[i]? = some o) (hg : o.guard = some (j, b)) (hd : (ops[j]?).bind (·.dst) = some d) (hv : lk d e = some undef)
    (h : Late yl P ops Q K l (a.put o.dst undef) w) : Late yl P ops Q K (i :: l) a w := fun o' ho' => by
  rw [ho] at ho'; cases ho'
  rw [if_neg (wanted_un hg hd (hE.at d hv))]
  exact h
/-- a value of which it is open whether it is made -/
def may (c : Bool) (v : Value) : Value := bif c then v else undef
@[simp] theorem may_true (v : Value) : may true v = v := rfl
@[simp] theorem may_false (v : Value) : may false v = undef := rfl
@[simp] theorem ite_may_t {x : Bool} {v u : Value} : (if x = true then may (x == true) v else u) = if x = true then v else u := by cases x <;> rfl
@[simp] theorem ite_may_f {x : Bool} {v u : Value} : (if x = true then u else may (x == false) v) = if x = true then u else v := by cases x <;> rfl
@[simp] theorem ite_may_s {x : Bool} {v u : Value} : (if x = true then may x v else u) = if x = true then v else u := by cases x <;> rfl
@[simp] theorem ite_may_n {x : Bool} {v u : Value} : (if x = true then u else may (!x) v) = if x = true then u else v := by cases x <;> rfl
theorem put_eq {K : Act → World → Prop} {d : Option Nat} {v x : Value} (h : Hush (K (a.put d v) w)) (e : x = v) : K (a.put d x) w := e ▸ h
theorem Late.may {n d d' : Nat} {e : Env} {x b : Bool} {K : Act → World → Prop} {i j : Nat} {l : List Nat} {o : Oper} (hE : FitsD D n e a) (hn : d' < n) (ho : ops[i]? = some o) (ho' : o.dst = some d') (hg : o.guard = some (j, b)) (hd : (ops[j]?).bind (·.dst) = some d) (hv : lk d e = some (.bool x)) (v : Value)
    (h1 : (x == b) = true → ∀ K' : Act → World → Prop, Hush (K' (a.put (some d') v) w) → Oper.wp P o a w K' Q) (h2 : ∀ a', FitsD D n ((d', Go.Proofs.YtkhmcofmjjmjhaaDoor.may (x == b) v) :: e) a' → Late yl P ops Q K l a' w) : Late yl P ops Q K (i :: l) a w := fun o' ho'' => by
  rw [ho] at ho''; cases ho''
  cases hx : (x == b) with
  | true =>
    have hxb : x = b := by simpa using hx
    subst hxb
    rw [if_pos (wanted_yes hg hd (hE.at d hv))]
    refine .inl (h1 hx _ ?_)
    show Late yl P ops Q K l (a.put (some d') v) w
    refine h2 _ ?_
    rw [hx]
    exact hE.put v hn
  | false =>
    have hxb : x = !b := by revert hx; cases x <;> cases b <;> decide
    rw [if_neg (wanted_no hg hd (hE.at d hv) hxb)]
    rw [ho']
    refine h2 _ ?_
    rw [hx]
    exact hE.put undef hn
/-- a guarded operation that may make memory -/
theorem Late.mayw {n d d' : Nat} {e : Env} {x b : Bool} {K : Act → World → Prop} {i j : Nat} {l : List Nat} {o : Oper} (hE : FitsD D n e a) (hn : d' < n) (ho : ops[i]? = some o) (ho' : o.dst = some d') (hg : o.guard = some (j, b)) (hd : (ops[j]?).bind (·.dst) = some d) (hv : lk d e = some (.bool x)) (v : Value)
    (h1 : (x == b) = true → ∀ K' : Act → World → Prop, Hush (∀ w', Below w.heap.size w w' → K' (a.put (some d') v) w') → Oper.wp P o a w K' Q) (h2 : ∀ a' w', Below w.heap.size w w' → FitsD D n ((d', Go.Proofs.YtkhmcofmjjmjhaaDoor.may (x == b) v) :: e) a' → Late yl P ops Q K l a' w') : Late yl P ops Q K (i :: l) a w := fun o' ho'' => by
  rw [ho] at ho''; cases ho''
  cases hx : (x == b) with
  | true =>
    have hxb : x = b := by simpa using hx
    subst hxb
    rw [if_pos (wanted_yes hg hd (hE.at d hv))]
    refine .inl (h1 hx _ (fun w' hb => ?_))
    show Late yl P ops Q K l (a.put (some d') v) w'
    refine h2 _ w' hb ?_
    rw [hx]
    exact hE.put v hn
  | false =>
    have hxb : x = !b := by revert hx; cases x <;> cases b <;> decide
    rw [if_neg (wanted_no hg hd (hE.at d hv) hxb)]
    rw [ho']
    refine h2 _ w (Below.refl _ _) ?_
    rw [hx]
    exact hE.put undef hn
theorem put_eqw {K : Act → World → Prop} {d : Option Nat} {v x : Value} {w' : World} (h : Hush (∀ w', Below w.heap.size w w' → K (a.put d v) w')) (hb : Below w.heap.size w w') (e : x = v) : K (a.put d x) w' := e ▸ h.out w' hb
theorem late_wpOps {K : Act → World → Prop} : ∀ (l : List Nat) (a : Act) (w : World), (∀ i ∈ l, i < ops.size) → (∀ a w, K a w → Q .normal a w) → Late false P ops Q K l a w → wpOps P ops Q l a w
  | [], a, w, _, hK, h => hK _ _ h
  | i :: l, a, w, hi, hK, h => by
    have hlt := hi i (List.mem_cons_self ..)
    have ho : ops[i]? = some ops[i] := Array.getElem?_eq_getElem hlt
    rw [wpOps_cons]
    unfold wpOp
    simp only [ho]
    have h1 := h _ ho
    split
    · rename_i hw
      rw [if_pos hw] at h1
      rcases h1 with h1 | ⟨h1, _⟩
      · exact .inl (Oper.wp_mono (fun a w h => late_wpOps l a w (fun i hm => hi i (List.mem_cons_of_mem _ hm)) hK h) h1)
      · cases h1
    · rename_i hw
      rw [if_neg hw] at h1
      exact late_wpOps l _ w (fun i hm => hi i (List.mem_cons_of_mem _ hm)) hK h1
theorem late_wpOpsIn {K : Act → World → Prop} (hL : ¬ LetsOut Q) : ∀ (l : List Nat) (a : Act) (w : World), (∀ i ∈ l, i < ops.size) → (∀ a w, K a w → Q .normal a w) → Late true P ops Q K l a w → wpOpsIn Fence.wide 5 P ops Q l a w
  | [], a, w, _, hK, h => hK _ _ h
  | i :: l, a, w, hi, hK, h => by
    have hlt := hi i (List.mem_cons_self ..)
    have ho : ops[i]? = some ops[i] := Array.getElem?_eq_getElem hlt
    have rest : ∀ a w, Late true P ops Q K l a w → wpOpsIn Fence.wide 5 P ops Q l a w := fun a w h => late_wpOpsIn hL l a w (fun i hm => hi i (List.mem_cons_of_mem _ hm)) hK h
    unfold wpOpsIn
    simp only [ho]
    have h1 := h _ ho
    split
    · rename_i hw
      rw [if_pos hw] at h1
      rcases h1 with h1 | ⟨_, h1⟩
      · exact op_wide hL rest h1
      · exact Oper.wpIn_mono rest h1
    · rename_i hw
      rw [if_neg hw] at h1
      exact ⟨fun _ _ => trivial, rest _ _ h1⟩
/-- a statement whose order is the text's -/
theorem region_straight {id m : Nat} (hm : ops.size = m) (h : ∀ Q' K, Hush (∀ a w, Q .normal a w → K a w) → Late true P ops Q' K (List.range m) a w) : (Code.region id ops false).wp P Q a w := by
  subst hm
  refine (wpIn_wide (n := 5)).1 (wpIn_mono (wpIn_region ?_) cutQ_out)
  exact late_wpOpsIn cutQ_not _ a w (fun i hi => List.mem_range.1 hi) (fun _ _ h => h) (h (cutQ Q) (Q .normal) (fun _ _ h => h))
def lateOrdB (md : Region.Mode) (ops : Array Oper) : Array Bool → List Nat → Bool
  | L, [] => Region.ready md ops L == []
  | L, i :: l => Region.ready md ops L == [i] && lateOrdB md ops (L.setIfInBounds i true) l
theorem late_anyIn (hO : ¬ LetsOut Q) {md : Region.Mode} {K : Act → World → Prop} (hK : ∀ a w, K a w → Q .normal a w) : ∀ (l : List Nat) (L : Array Bool) (a : Act) (w : World), lateOrdB md ops L l = true → Late true P ops Q K l a w → wpAnyIn Fence.wide 5 P md ops Q l.length L a w
  | [], L, a, w, hL, h => ⟨by simpa [lateOrdB] using hL, hK _ _ h⟩
  | i :: l, L, a, w, hL, h => by
    unfold lateOrdB at hL
    rw [Bool.and_eq_true, beq_iff_eq] at hL
    refine ⟨fun h0 => (by rw [hL.1] at h0; cases h0), fun j hj => ?_⟩
    rw [hL.1, List.mem_singleton] at hj
    subst hj
    have hr : j ∈ Region.ready md ops L := by rw [hL.1]; exact List.mem_singleton.2 rfl
    obtain ⟨_, o, ho, _⟩ := mem_ready.1 hr
    have h1 := h o ho
    unfold wpOpIn
    simp only [ho]
    split
    · rename_i hw
      rw [if_pos hw] at h1
      rcases h1 with h1 | ⟨_, h1⟩
      · exact op_wide hO (fun a w h => late_anyIn hO hK l _ a w hL.2 h) h1
      · exact Oper.wpIn_mono (fun a w h => late_anyIn hO hK l _ a w hL.2 h) h1
    · rename_i hw
      rw [if_neg hw] at h1
      exact ⟨fun _ _ => trivial, late_anyIn hO hK l _ _ w hL.2 h1⟩
/-- what is left at the end of a drawn statement, as an environment -/
def EndsE (K : Act → World → Prop) (D : List Deferred) (n : Nat) (w : World) : List (Nat × Option Nat × (Value → World → Prop)) → Env → Prop
  | [], e => ∀ a, FitsD D n e a → K a w
  | (_, some d, F) :: l, e => ∀ v, F v w → EndsE K D n w l ((d, v) :: e)
  | (_, none, _) :: l, e => EndsE K D n w l e
theorem endsE_ends {K : Act → World → Prop} {n : Nat} {w : World} : ∀ (l : List (Nat × Option Nat × (Value → World → Prop))) (e : Env) (xs : Array Value), EndsE K D n w l e → FitsD D n e ⟨xs, D⟩ → (∀ i d F, (i, some d, F) ∈ l → d < n) → Ends K D w l xs
  | [], e, xs, h, hf, _ => h _ hf
  | (i, none, F) :: l, e, xs, h, hf, hd => endsE_ends l e xs h hf (fun i d F hm => hd i d F (List.mem_cons_of_mem _ hm))
  | (i, some d, F) :: l, e, xs, h, hf, hd => fun v hv => endsE_ends l _ _ (h v hv) (hf.put v (hd i d F (List.mem_cons_self ..))) (fun i d F hm => hd i d F (List.mem_cons_of_mem _ hm))
/-- a statement that draws its order, by whatever is said of it -/
theorem region_drawnX {X : Nat → Array Bool → Act → World → Prop} (hX : AnyLike P .any ops Q X) (hlx : ∀ K l Lz a w, (∀ a w, K a w → Q .normal a w) → lateOrdB .any ops Lz l = true → Late yl P ops Q K l a w → X l.length Lz a w) (late : List Nat) (T : World → Prop) (R : World → World → Prop) (rs : List (Nat × Option Nat)) (us : List Nat) (Lz : Array Bool) (ks : List Nat) {n : Nat} {e : Env} (hE : FitsD D n e a) 
    (hback : backB .any ops = true) (hlate : lateB .any ops (Array.replicate ops.size false) late = true) (hclosed : closedB .any ops (Array.replicate ops.size false) = true) (hseq : seqB n ops rs = true) (hus : rs.filterMap (·.2) = us) (hap : apartB ops (rs.map (·.1)) = true)
    (hLz : ((List.range ops.size).map fun i => !late.contains i).toArray = Lz) (hrs : (List.range ops.size).filter (fun i => !late.contains i && !(Array.replicate ops.size false).getD i true) = rs.map (·.1)) (hsz : rs.length + late.length = ops.size) (hord : lateOrdB .any ops Lz late = true)
    (hlo : (late.all fun k => !(Array.replicate ops.size false).getD k false) = true) (hks : (ks.all fun t => !us.contains t) = true)
    (hT : T w.drew)
    {K : Act → World → Prop} (hK : ∀ a w, K a w → Q .normal a w)
    (h : SeqOps P .any ops Q T R n us a (fun acc => ∀ w', T w' → EndsE (Late yl P ops Q K late) D n w' acc.reverse (pick ks e)) rs []) : X ops.size (Array.replicate ops.size false) a w.drew := by
  have hs := h
  refine seq_anyX hX late n T R rs us Lz hback hlate hlo hclosed hseq hus hap hLz hrs hsz hE.2.1 hT ?_
  have hmono : ∀ (rs' : List (Nat × Option Nat)) (acc : List (Nat × Option Nat × (Value → World → Prop))), (∀ p ∈ rs', ∀ d, p.2 = some d → d < n) → (∀ x ∈ acc, ∀ d, x.2.1 = some d → d < n) →
      SeqOps P .any ops Q T R n us a (fun acc => ∀ w', T w' → EndsE (Late yl P ops Q K late) D n w' acc.reverse (pick ks e)) rs' acc →
      SeqOps P .any ops Q T R n us a (fun acc => ∀ w', T w' → Ends (X late.length Lz) a.defers w' acc.reverse a.tmps) rs' acc := by
    intro rs'
    induction rs' with
    | nil =>
      intro acc _ hacc h w' hT'
      have h1 := h w' hT'
      rw [hE.1]
      refine endsE_ends acc.reverse (pick ks e) a.tmps ?_ ?_ (fun i d F hm => hacc _ (List.mem_reverse.1 hm) d rfl)
      · have hk : ∀ (l : List (Nat × Option Nat × (Value → World → Prop))) (e' : Env), EndsE (Late yl P ops Q K late) D n w' l e' → EndsE (X late.length Lz) D n w' l e' := by
          intro l
          induction l with
          | nil => intro e' h a' hf; exact hlx K late Lz a' w' hK hord (h a' hf)
          | cons x l ih =>
            obtain ⟨i, d, F⟩ := x
            cases d with
            | none => intro e' h; exact ih _ h
            | some d => intro e' h v hv; exact ih _ (h v hv)
        exact hk _ _ h1
      · have := hE.keep ks
        exact ⟨rfl, this.2.1, this.2.2⟩
    | cons p rs' ih =>
      obtain ⟨i, d⟩ := p
      intro acc hr hacc h
      obtain ⟨F, hF, hst, hs⟩ := h
      exact ⟨F, hF, hst, ih _ (fun p hp => hr p (List.mem_cons_of_mem _ hp)) (fun x hx => by
        rcases List.mem_cons.1 hx with rfl | hx
        · exact hr (i, d) (List.mem_cons_self ..)
        · exact hacc x hx) hs⟩
  refine hmono rs [] (fun p hp d hd => ?_) (fun _ hx => by cases hx) hs
  have h0 := List.all_eq_true.1 hseq _ hp
  rw [Bool.and_eq_true] at h0
  have h2 := h0.2
  rw [hd] at h2
  exact of_decide_eq_true h2
theorem anyLike_in {md : Region.Mode} (hO : ¬ LetsOut Q) : AnyLike P md ops Q (wpAnyIn Fence.wide 5 P md ops Q) := fun m L a w hr h => ⟨fun h0 => absurd h0 hr, fun i hi => by
  obtain ⟨_, o, ho, _⟩ := mem_ready.1 hi
  unfold wpOpIn
  simp only [ho]
  have h1 := h i hi o ho _ (fun _ _ h => h)
  split
  · rename_i hw
    rw [if_pos hw] at h1
    exact op_wide hO (fun _ _ h => h) h1
  · rename_i hw
    rw [if_neg hw] at h1
    exact ⟨fun _ _ => trivial, h1⟩⟩
/-- a statement that draws its order -/
theorem region_drawn (late : List Nat) (T : World → Prop) (R : World → World → Prop) (rs : List (Nat × Option Nat)) (us : List Nat) (Lz : Array Bool) (ks : List Nat) {id n : Nat} {e : Env} (hE : FitsD D n e a) (hm : P.follows .mixedOrders = true)
    (hback : backB .any ops = true) (hlate : lateB .any ops (Array.replicate ops.size false) late = true) (hclosed : closedB .any ops (Array.replicate ops.size false) = true) (hseq : seqB n ops rs = true) (hus : rs.filterMap (·.2) = us) (hap : apartB ops (rs.map (·.1)) = true)
    (hLz : ((List.range ops.size).map fun i => !late.contains i).toArray = Lz) (hrs : (List.range ops.size).filter (fun i => !late.contains i && !(Array.replicate ops.size false).getD i true) = rs.map (·.1)) (hsz : rs.length + late.length = ops.size) (hord : lateOrdB .any ops Lz late = true)
    (hlo : (late.all fun k => !(Array.replicate ops.size false).getD k false) = true) (hks : (ks.all fun t => !us.contains t) = true)
    (hT : T w.drew)
    (h : ∀ Q' K, Hush (∀ a w, Q .normal a w → K a w) → SeqOps P .any ops Q' T R n us a (fun acc => ∀ w', T w' → EndsE (Late true P ops Q' K late) D n w' acc.reverse (pick ks e)) rs []) : (Code.region id ops true).wp P Q a w := by
  refine (wpIn_wide (n := 5)).1 (wpIn_mono (Go.wpIn_region_any hm ?_) cutQ_out)
  exact region_drawnX (Q := cutQ Q) (anyLike_in cutQ_not) (fun K l Lz a w hK hO h => late_anyIn cutQ_not hK l Lz a w hO h) late T R rs us Lz ks hE hback hlate hclosed hseq hus hap hLz hrs hsz hord hlo hks hT (K := Q .normal) (fun _ _ h => h) (h (cutQ Q) (Q .normal) (fun _ _ h => h))
theorem late_next {n d : Nat} {e : Env} {v : Value} {l : List Nat} {K K' : Act → World → Prop} (hE : FitsD D n e a) (hd : d < n) (hK : Hush (∀ a' w', Late yl P ops Q K l a' w' → K' a' w')) (h : ∀ a', FitsD D n ((d, v) :: e) a' → Late yl P ops Q K l a' w) : K' (a.put (some d) v) w := hK.out _ _ (h _ (hE.put v hd))
theorem late_skip {n : Nat} {e : Env} {l : List Nat} {K K' : Act → World → Prop} (hE : FitsD D n e a) (hK : Hush (∀ a' w', Late yl P ops Q K l a' w' → K' a' w')) (h : ∀ a', FitsD D n e a' → Late yl P ops Q K l a' w) : K' a w := hK.out _ _ (h _ hE)
theorem late_undef {n d : Nat} {e : Env} {l : List Nat} {K : Act → World → Prop} (hE : FitsD D n e a) (hd : d < n) (h : ∀ a', FitsD D n ((d, undef) :: e) a' → Late yl P ops Q K l a' w) : Late yl P ops Q K l (a.put (some d) undef) w := h _ (hE.put _ hd)
theorem late_done {n : Nat} {e : Env} {K : Act → World → Prop} (ks : List Nat) (hE : FitsD D n e a) (hK : Hush (∀ a' w', Q .normal a' w' → K a' w')) (h : ∀ a', FitsD D n (pick ks e) a' → Q .normal a' w) : Late yl P ops Q' K [] a w := hK.out _ _ (h _ (hE.keep ks))
/-- an operation is run against what its operands hold -/
theorem op_run {o : Oper} {K : Act → World → Prop} (h : ∀ ρ : Operand → Value, (∀ t, a.eval (.tmp t) = ρ (.tmp t)) → (∀ v, ρ (.const v) = v) → (∀ f, ρ (.func f) = .func (.func f) #[] #[]) → (∀ g, ρ (.global g) = .pointer (some ⟨g, 0, none⟩)) → o.upon P a K Q ((execOp ρ o).run P w)) : Oper.wp P o a w K Q :=
  h a.eval (fun _ => rfl) (fun _ => rfl) (fun _ => rfl) (fun _ => rfl)
theorem rho {ρ : Operand → Value} {t : Nat} {v : Value} (hρ : ∀ t, a.eval (.tmp t) = ρ (.tmp t)) (h : a.tmps[t]? = some v) : ρ (.tmp t) = v := (hρ t).symm.trans (eval_of h)
theorem world_cut {e : Exit} (S : World → Prop) (hS : S w) (h : ∀ w', S w' → Q e a w') : Q e a w := h w hS
theorem StepOk.may {P : Program} {md : Region.Mode} {ops : Array Oper} {Q : Exit → Act → World → Prop} {T : World → Prop} {R : World → World → Prop} {n : Nat} {us : List Nat} {a0 : Act} {acc : List (Nat × Option Nat × (Value → World → Prop))} {i : Nat} {o : Oper} (hR : ∀ w, R w w) (ho : ops[i]? = some o) {j e : Nat} {b x : Bool} (hg : o.guard = some (j, b)) (p : Nat) {d' : Option Nat} (hj : acc[p]? = some (j, d', fun v _ => v = .bool x)) (hd : (ops[j]?).bind (·.dst) = some e) (hdep : depB md o j = true) (v : Value)
    (h : (x == b) = true → ∀ a w, SameBut n us a0 a → T w → (∀ k d G, (k, d, G) ∈ acc → depB md o k = true → Told k ops G a w) → ∀ K : Act → World → Prop, Hush (K (a.put o.dst v) w) → Oper.wp P o a w K Q) : StepOk P md ops Q T R n us a0 acc i (fun u _ => u = Go.Proofs.YtkhmcofmjjmjhaaDoor.may (x == b) v) := fun o' ho' a w h1 h2 h3 K hK => by
  rw [ho] at ho'; cases ho'
  obtain ⟨u, hu, rfl⟩ := h3 j d' _ (List.mem_of_getElem? hj) hdep e hd
  cases hx : (x == b) with
  | true =>
    have hxb : x = b := by simpa using hx
    subst hxb
    rw [if_pos (wanted_yes hg hd hu)]
    exact h hx a w h1 h2 h3 K (hK.out _ v _ rfl (by rw [hx]; rfl) h2 (hR w))
  | false =>
    have hxb : x = !b := by revert hx; cases x <;> cases b <;> decide
    rw [if_neg (wanted_no hg hd hu hxb)]
    exact hK.out _ _ _ rfl (by rw [hx]; rfl) h2 (hR w)
/-- a block's first cells -/
def Cells (w : World) (B : Nat) (l : List Value) : Prop := B < w.heap.size ∧ ∀ j u, l[j]? = some u → w.cell? ⟨B, j, none⟩ = some u
theorem Cells.below {w w' : World} {B : Nat} {l : List Value} (h : Cells w B l) (hb : Below w.heap.size w w') : Cells w' B l := ⟨Nat.lt_of_lt_of_le h.1 hb.size, fun j u hu => (hb.cell (p := ⟨B, j, none⟩) h.1).trans (h.2 j u hu)⟩
theorem cells_new (w : World) (cs : Array Value) (t : TypeId) : Cells (w.alloc (.cells cs t)) w.heap.size cs.toList := ⟨by simp, fun j u hu => by
  have hn : (w.alloc (.cells cs t)).heap[w.heap.size]? = some (.cells cs t) := by show (w.heap.push _)[w.heap.size]? = _; simp
  simp only [World.cell?, hn]
  simpa using hu⟩
/-- what is left of a text behind some of its statements -/
def cr : Nat → Code → Code
  | 0, c => c
  | n + 1, .seq _ b => cr n b
  | _ + 1, c => c
def bodyOf (f : Func) : Code := f.body.getD .skip
/-! control -/
theorem then_n {next : Act → World → Prop} (h : next a w) : Exit.then next Q .normal a w := h
theorem then_ret {next : Act → World → Prop} (h : Q .ret a w) : Exit.then next Q .ret a w := h
theorem then_exit {next : Act → World → Prop} {i : Nat} (h : Q (.exit i) a w) : Exit.then next Q (.exit i) a w := h
theorem inBlock_n {i : Nat} (h : Q .normal a w) : Exit.inBlock i Q .normal a w := h
theorem inBlock_ret {i : Nat} (h : Q .ret a w) : Exit.inBlock i Q .ret a w := h
theorem inBlock_hit {i : Nat} (h : Q .normal a w) : Exit.inBlock i Q (.exit i) a w := by simpa [Exit.inBlock] using h
theorem inBlock_miss {i j : Nat} (hne : (j == i) = false) (h : Q (.exit j) a w) : Exit.inBlock i Q (.exit j) a w := by
  have : ¬ j = i := by simpa using hne
  simpa [Exit.inBlock, this] using h
theorem cond_yes {n : Nat} {e : Env} (hE : FitsD D n e a) {t : Nat} {x y : Code} (hv : lk t e = some (.bool true)) (h : x.wp P Q a w) : (Code.cond (.tmp t) x y).wp P Q a w := wp_cond_true (hE.eval t hv) h
theorem cond_no {n : Nat} {e : Env} (hE : FitsD D n e a) {t : Nat} {x y : Code} (hv : lk t e = some (.bool false)) (h : y.wp P Q a w) : (Code.cond (.tmp t) x y).wp P Q a w := wp_cond_false (hE.eval t hv) h
theorem cond_part {n : Nat} {e : Env} (hE : FitsD D n e a) {t : Nat} {x y : Code} {b : Bool} (hv : lk t e = some (.bool b)) (h1 : b = true → x.wp P Q a w) (h2 : b = false → y.wp P Q a w) : (Code.cond (.tmp t) x y).wp P Q a w := wp_cond_split (hE.eval t hv) h1 h2
open Classical in
theorem loop_st {c : Code} {σ : Type} (I : σ → Act → World → Prop) (μ : σ → Nat) (s0 : σ) (h0 : I s0 a w)
    (round : ∀ s a w, I s a w → c.wp P (Exit.then (fun a' w' => ∃ s', I s' a' w' ∧ μ s' < μ s) Q) a w) : (Code.loop c).wp P Q a w := by
  have hle : ∀ (a : Act) (w : World) (s : σ), I s a w → ∃ m, (∃ s, I s a w ∧ μ s = m) ∧ ∀ s, I s a w → m ≤ μ s := fun a w s hs => by
    generalize hm : μ s = m
    induction m using Nat.strongRecOn generalizing s with
    | ind m ih =>
      by_cases h : ∃ s', I s' a w ∧ μ s' < m
      · obtain ⟨s', h1, h2⟩ := h
        exact ih (μ s') h2 s' h1 rfl
      · refine ⟨m, ⟨s, hs, hm⟩, fun s' hs' => ?_⟩
        rcases Nat.lt_or_ge (μ s') m with h3 | h3
        · exact absurd ⟨s', hs', h3⟩ h
        · exact h3
  let ν : Act → World → Nat := fun a w => if h : ∃ s, I s a w then Classical.choose (hle a w (Classical.choose h) (Classical.choose_spec h)) else 0
  have hν : ∀ a w, (∃ s, I s a w) → (∃ s, I s a w ∧ μ s = ν a w) ∧ ∀ s, I s a w → ν a w ≤ μ s := fun a w h => by
    have := Classical.choose_spec (hle a w (Classical.choose h) (Classical.choose_spec h))
    simp only [ν, dif_pos h]
    exact this
  refine wp_loop (fun a w => ∃ s, I s a w) ν ⟨s0, h0⟩ fun a w hI => ?_
  obtain ⟨⟨s, hs, hm⟩, _⟩ := hν a w hI
  refine wp_mono (round s a w hs) fun e a' w' h => ?_
  cases e with
  | normal =>
    obtain ⟨s', h1, h2⟩ := h
    exact ⟨⟨s', h1⟩, by have := (hν a' w' ⟨s', h1⟩).2 s' h1; omega⟩
  | _ => exact h
theorem fits_start {n k : Nat} {args : Array Value} (hk : args.size = k) (hn : k ≤ n) : ∀ e, (∀ t v, lk t e = some v → args[t]? = some v) → Fits n e { tmps := args ++ Array.replicate (n - args.size) undef, defers := [] } := fun e he =>
  ⟨rfl, by simp; omega, fun t v hl => by
    have h := he t v hl
    have hlt : t < args.size := (Array.getElem?_eq_some_iff.1 h).1
    rw [Array.getElem?_append_left hlt]
    exact h⟩
def envOf : Nat → List Value → Env
  | _, [] => []
  | k, v :: l => (k, v) :: envOf (k + 1) l
theorem lk_envOf : ∀ (l : List Value) (k t : Nat) (v : Value), lk t (envOf k l) = some v → k ≤ t ∧ l[t - k]? = some v
  | [], _, _, _, h => by cases h
  | x :: l, k, t, v, h => by
    simp only [envOf, lk] at h
    by_cases hkt : k = t
    · subst hkt; rw [if_pos rfl] at h; cases h; exact ⟨Nat.le_refl _, by simp⟩
    · rw [if_neg hkt] at h
      obtain ⟨h1, h2⟩ := lk_envOf l (k + 1) t v h
      refine ⟨by omega, ?_⟩
      rw [show t - k = (t - (k + 1)) + 1 by omega, List.getElem?_cons_succ]
      exact h2
theorem enterE {f : FuncId} {fn : Func} {c : Code} {args : List Value} {R : Ending → World → Prop} {n : Nat} (hf : P.funcs[f]? = some fn) (hb : fn.body = some c) (hn : fn.ntmps = n) (hk : args.length ≤ n)
    (h : ∀ a, Fits n (envOf 0 args) a → c.wp P (bodyPost P fn R) a w) : Calls P f args.toArray w R := by
  refine calls_of_wp hf hb ?_
  rw [hn]
  exact h _ (fits_start (k := args.length) rfl hk _ fun t v hl => by simpa using (lk_envOf args 0 t v hl).2)
theorem ret_one {n : Nat} {e : Env} {fn : Func} {R : Ending → World → Prop} (hE : Fits n e a) {t : Nat} {v : Value} (hf : fn.results = #[.tmp t]) (hv : lk t e = some v) (h : R (.returned v) w) : bodyPost P fn R .ret a w := by
  refine bodyPost_ret (results_tmp hf _ _ _) hE.1 ?_
  rw [Array.getD_eq_getD_getElem?, hE.at t hv]
  exact h
theorem ret_two {n : Nat} {e : Env} {fn : Func} {R : Ending → World → Prop} (hE : Fits n e a) {t u : Nat} {v x : Value} (hf : fn.results = #[.tmp t, .tmp u]) (hv : lk t e = some v) (hx : lk u e = some x) (h : R (.returned (.tuple #[v, x])) w) : bodyPost P fn R .ret a w := by
  refine bodyPost_ret (results_tmp2 hf _ _ _) hE.1 ?_
  rw [Array.getD_eq_getD_getElem?, Array.getD_eq_getD_getElem?, hE.at t hv, hE.at u hx]
  exact h
end
/-! ### steps of control, found by their shape -/
class Ctl (g : Prop) (x : outParam Prop) : Prop where
  go : x → g
class CtlI (g : Prop) (x : outParam Prop) : Prop where
  go : x → g
class CtlE (g : Prop) (x : outParam Prop) : Prop where
  go : x → g
section
variable {P : Program} {Q : Exit → Act → World → Prop} {a : Act} {w : World}
instance {x y : Code} : Ctl (Code.wp P (x.seq y) Q a w) (Code.wp P x (Exit.then (Code.wp P y Q) Q) a w) := ⟨wp_seq⟩
instance {id : Nat} {c : Code} : Ctl (Code.wp P (Code.block id c) Q a w) (Code.wp P c (Exit.inBlock id Q) a w) := ⟨wp_block⟩
instance {l : Nat} : Ctl (Code.wp P (Code.label l) Q a w) (Q Exit.normal a w) := ⟨wp_label⟩
instance : Ctl (Code.wp P Code.ret Q a w) (Q Exit.ret a w) := ⟨wp_ret⟩
instance {id : Nat} : Ctl (Code.wp P (Code.exit id) Q a w) (Q (Exit.exit id) a w) := ⟨wp_exit⟩
instance : Ctl (Code.wp P Code.skip Q a w) (Q Exit.normal a w) := ⟨wp_skip⟩
instance {next : Act → World → Prop} : Ctl (Exit.then next Q Exit.normal a w) (next a w) := ⟨then_n⟩
instance {next : Act → World → Prop} : Ctl (Exit.then next Q Exit.ret a w) (Q Exit.ret a w) := ⟨then_ret⟩
instance {next : Act → World → Prop} {i : Nat} : Ctl (Exit.then next Q (Exit.exit i) a w) (Q (Exit.exit i) a w) := ⟨then_exit⟩
instance {i : Nat} : Ctl (Exit.inBlock i Q Exit.normal a w) (Q Exit.normal a w) := ⟨inBlock_n⟩
instance {i : Nat} : Ctl (Exit.inBlock i Q Exit.ret a w) (Q Exit.ret a w) := ⟨inBlock_ret⟩
instance {i : Nat} : Ctl (Exit.inBlock i Q (Exit.exit i) a w) (Q Exit.normal a w) := ⟨inBlock_hit⟩
instance {F : Fence} {n : Nat} {x y : Code} : CtlI (Code.wpIn F n P (x.seq y) Q a w) (Code.wpIn F n P x (Exit.then (Code.wpIn F n P y Q) Q) a w) := ⟨wpIn_seq⟩
instance {F : Fence} {n id : Nat} {c : Code} : CtlI (Code.wpIn F n P (Code.block id c) Q a w) (Code.wpIn F n P c (Exit.inBlock id Q) a w) := ⟨wpIn_block⟩
instance {F : Fence} {n : Nat} : CtlI (Code.wpIn F n P Code.ret Q a w) (Q Exit.ret a w) := ⟨wpIn_ret⟩
instance {F : Fence} {n id : Nat} : CtlI (Code.wpIn F n P (Code.exit id) Q a w) (Q (Exit.exit id) a w) := ⟨wpIn_exit⟩
instance {F : Fence} {n : Nat} : CtlI (Code.wpIn F n P Code.skip Q a w) (Q Exit.normal a w) := ⟨wpIn_skip⟩
instance {next : Act → World → Prop} : CtlI (Exit.then next Q Exit.normal a w) (next a w) := ⟨then_n⟩
instance {next : Act → World → Prop} : CtlI (Exit.then next Q Exit.ret a w) (Q Exit.ret a w) := ⟨then_ret⟩
instance {next : Act → World → Prop} {i : Nat} : CtlI (Exit.then next Q (Exit.exit i) a w) (Q (Exit.exit i) a w) := ⟨then_exit⟩
instance {i : Nat} : CtlI (Exit.inBlock i Q Exit.normal a w) (Q Exit.normal a w) := ⟨inBlock_n⟩
instance {i : Nat} : CtlI (Exit.inBlock i Q Exit.ret a w) (Q Exit.ret a w) := ⟨inBlock_ret⟩
instance {i : Nat} : CtlI (Exit.inBlock i Q (Exit.exit i) a w) (Q Exit.normal a w) := ⟨inBlock_hit⟩
instance {next : Act → World → Prop} : CtlE (Exit.then next Q Exit.normal a w) (next a w) := ⟨then_n⟩
instance {next : Act → World → Prop} {i : Nat} : CtlE (Exit.then next Q (Exit.exit i) a w) (Q (Exit.exit i) a w) := ⟨then_exit⟩
instance {i : Nat} : CtlE (Exit.inBlock i Q Exit.normal a w) (Q Exit.normal a w) := ⟨inBlock_n⟩
instance {i : Nat} : CtlE (Exit.inBlock i Q (Exit.exit i) a w) (Q Exit.normal a w) := ⟨inBlock_hit⟩
instance {id : Nat} : CtlE (Code.wp P (Code.exit id) Q a w) (Q (Exit.exit id) a w) := ⟨wp_exit⟩
theorem miss {i j : Nat} (h : Q (Exit.exit j) a w) (hne : (j == i) = false := by decide) : Exit.inBlock i Q (Exit.exit j) a w := inBlock_miss hne h
class IsT (b : Bool) : Prop where
  h : b = true
instance : IsT true := ⟨rfl⟩
class Cs (g : Prop) (x : outParam Prop) : Prop where
  go : x → g
instance (priority := low) {g : Prop} : Cs g g := ⟨id⟩
instance {g y x : Prop} [h : Ctl g y] [k : Cs y x] : Cs g x := ⟨fun p => h.go (k.go p)⟩
instance {i j : Nat} {x : Prop} [h : IsT (!(Nat.beq j i))] [k : Cs (Q (Exit.exit j) a w) x] : Cs (Exit.inBlock i Q (Exit.exit j) a w) x := ⟨fun p => miss (k.go p) (by have := h.h; cases hb : Nat.beq j i with | false => exact beq_eq_false_iff_ne.2 (Nat.ne_of_beq_eq_false hb) | true => rw [hb] at this; cases this)⟩
theorem Ks {g x : Prop} [h : Cs g x] (p : x) : g := h.go p
class CsI (g : Prop) (x : outParam Prop) : Prop where
  go : x → g
instance (priority := low) {g : Prop} : CsI g g := ⟨id⟩
instance {g y x : Prop} [h : CtlI g y] [k : CsI y x] : CsI g x := ⟨fun p => h.go (k.go p)⟩
instance {i j : Nat} {x : Prop} [h : IsT (!(Nat.beq j i))] [k : CsI (Q (Exit.exit j) a w) x] : CsI (Exit.inBlock i Q (Exit.exit j) a w) x := ⟨fun p => miss (k.go p) (by have := h.h; cases hb : Nat.beq j i with | false => exact beq_eq_false_iff_ne.2 (Nat.ne_of_beq_eq_false hb) | true => rw [hb] at this; cases this)⟩
theorem KsI {g x : Prop} [h : CsI g x] (p : x) : g := h.go p
class CsE (g : Prop) (x : outParam Prop) : Prop where
  go : x → g
instance (priority := low) {g : Prop} : CsE g g := ⟨id⟩
instance {g y x : Prop} [h : CtlE g y] [k : CsE y x] : CsE g x := ⟨fun p => h.go (k.go p)⟩
instance {i j : Nat} {x : Prop} [h : IsT (!(Nat.beq j i))] [k : CsE (Q (Exit.exit j) a w) x] : CsE (Exit.inBlock i Q (Exit.exit j) a w) x := ⟨fun p => miss (k.go p) (by have := h.h; cases hb : Nat.beq j i with | false => exact beq_eq_false_iff_ne.2 (Nat.ne_of_beq_eq_false hb) | true => rw [hb] at this; cases this)⟩
theorem KsE {g x : Prop} [h : CsE g x] (p : x) : g := h.go p
end
/-! ### the same laws in short words -/
section
variable {D : List Deferred} {P : Program} {ops : Array Oper} {Q : Exit → Act → World → Prop} {a : Act} {w : World} {yl : Bool}
theorem Rs (m : Nat) {id : Nat} (h : ∀ Q' K, Hush (∀ a w, Q .normal a w → K a w) → Late true P ops Q' K (List.range m) a w) (hm : ops.size = m := by rfl) : (Code.region id ops false).wp P Q a w := region_straight hm h
theorem Ly {n : Nat} {e : Env} (hE : FitsD D n e a) (d : Nat) {K : Act → World → Prop} {i j : Nat} {b : Bool} {l : List Nat} {o : Oper} (h : ∀ K' : Act → World → Prop, Hush (∀ a' w', Late yl P ops Q K l a' w' → K' a' w') → Oper.wp P o a w K' Q)
    (ho : ops[i]? = some o := by first | (simp only [List.getElem?_toArray, List.getElem?_cons_succ, List.getElem?_cons_zero]; rfl) | rfl) (hg : o.guard = some (j, b) := by rfl) (hd : (ops[j]?).bind (·.dst) = some d := by kernel_rfl) (hv : lk d e = some (.bool b) := by rfl) : Late yl P ops Q K (i :: l) a w := Late.yes hE ho hg hd hv h
theorem Lno {n : Nat} {e : Env} (hE : FitsD D n e a) (d : Nat) {K : Act → World → Prop} {i j : Nat} {b c : Bool} {l : List Nat} {o : Oper} (h : Late yl P ops Q K l (a.put o.dst undef) w)
    (ho : ops[i]? = some o := by first | (simp only [List.getElem?_toArray, List.getElem?_cons_succ, List.getElem?_cons_zero]; rfl) | rfl) (hg : o.guard = some (j, b) := by rfl) (hd : (ops[j]?).bind (·.dst) = some d := by kernel_rfl) (hv : lk d e = some (.bool c) := by rfl) (hc : c = !b := by rfl) : Late yl P ops Q K (i :: l) a w := Late.no hE ho hg hd hv hc h
theorem Lun {n : Nat} {e : Env} (hE : FitsD D n e a) (d : Nat) {K : Act → World → Prop} {i j : Nat} {b : Bool} {l : List Nat} {o : Oper} (h : Late yl P ops Q K l (a.put o.dst undef) w)
    (ho : ops[i]? = some o := by first | (simp only [List.getElem?_toArray, List.getElem?_cons_succ, List.getElem?_cons_zero]; rfl) | rfl) (hg : o.guard = some (j, b) := by rfl) (hd : (ops[j]?).bind (·.dst) = some d := by kernel_rfl) (hv : lk d e = some undef := by rfl) : Late yl P ops Q K (i :: l) a w := Late.un hE ho hg hd hv h
theorem Lu {n d : Nat} {e : Env} {l : List Nat} {K : Act → World → Prop} (hE : FitsD D n e a) (h : ∀ a', FitsD D n ((d, undef) :: e) a' → Late yl P ops Q K l a' w) (hd : d < n := by decide) : Late yl P ops Q K l (a.put (some d) undef) w := late_undef hE hd h
theorem Rd (late : List Nat) (T : World → Prop) (R : World → World → Prop) (rs : List (Nat × Option Nat)) (us : List Nat) (Lz : Array Bool) (ks : List Nat) {id n : Nat} {e : Env} (hE : FitsD D n e a) (hT : T w.drew)
    (h : ∀ Q' K, Hush (∀ a w, Q .normal a w → K a w) → SeqOps P .any ops Q' T R n us a (fun acc => ∀ w', T w' → EndsE (Late true P ops Q' K late) D n w' acc.reverse (pick ks e)) rs [])
    (hm : P.follows .mixedOrders = true := by kernel_rfl)
    (hback : backB .any ops = true := by kernel_rfl) (hlate : lateB .any ops (Array.replicate ops.size false) late = true := by kernel_rfl) (hclosed : closedB .any ops (Array.replicate ops.size false) = true := by kernel_rfl) (hseq : seqB n ops rs = true := by kernel_rfl) (hus : rs.filterMap (·.2) = us := by kernel_rfl) (hap : apartB ops (rs.map (·.1)) = true := by kernel_rfl)
    (hLz : ((List.range ops.size).map fun i => !late.contains i).toArray = Lz := by kernel_rfl) (hrs : (List.range ops.size).filter (fun i => !late.contains i && !(Array.replicate ops.size false).getD i true) = rs.map (·.1) := by kernel_rfl) (hsz : rs.length + late.length = ops.size := by kernel_rfl) (hord : lateOrdB .any ops Lz late = true := by kernel_rfl)
    (hlo : (late.all fun k => !(Array.replicate ops.size false).getD k false) = true := by kernel_rfl) (hks : (ks.all fun t => !us.contains t) = true := by decide) : (Code.region id ops true).wp P Q a w :=
  region_drawn late T R rs us Lz ks hE hm hback hlate hclosed hseq hus hap hLz hrs hsz hord hlo hks hT h
theorem Lp {K : Act → World → Prop} {i : Nat} {l : List Nat} {o : Oper} (h : ∀ K' : Act → World → Prop, Hush (∀ a' w', Late yl P ops Q K l a' w' → K' a' w') → Oper.wp P o a w K' Q)
    (ho : ops[i]? = some o := by first | (simp only [List.getElem?_toArray, List.getElem?_cons_succ, List.getElem?_cons_zero]; rfl) | rfl) (hg : o.guard = none := by rfl) : Late yl P ops Q K (i :: l) a w := Late.plain ho hg h
theorem Ln {n d : Nat} {e : Env} {v : Value} {l : List Nat} {K K' : Act → World → Prop} (hE : FitsD D n e a) (hK : Hush (∀ a' w', Late yl P ops Q K l a' w' → K' a' w')) (h : ∀ a', FitsD D n ((d, v) :: e) a' → Late yl P ops Q K l a' w) (hd : d < n := by decide) : K' (a.put (some d) v) w := late_next hE hd hK h
/-- what operands hold -/
structure Rho where
  f : Operand → Value
  c : ∀ v, f (.const v) = v
  n : ∀ g, f (.func g) = .func (.func g) #[] #[]
  g : ∀ b, f (.global b) = .pointer (some ⟨b, 0, none⟩)
theorem o0 {o : Oper} {K : Act → World → Prop} (h : ∀ ρ : Rho, o.upon P a K Q ((execOp ρ.f o).run P w)) : Oper.wp P o a w K Q := op_run fun r _ c f g => h ⟨r, c, f, g⟩
theorem o1 {o : Oper} {K : Act → World → Prop} {t1 : Nat} {v1 : Value} (r1 : a.tmps[t1]? = some v1) (h : ∀ ρ : Rho, ρ.f (.tmp t1) = v1 → o.upon P a K Q ((execOp ρ.f o).run P w)) : Oper.wp P o a w K Q := op_run fun r hr c f g => h ⟨r, c, f, g⟩ (rho hr r1)
theorem o2 {o : Oper} {K : Act → World → Prop} {t1 t2 : Nat} {v1 v2 : Value} (r1 : a.tmps[t1]? = some v1) (r2 : a.tmps[t2]? = some v2) (h : ∀ ρ : Rho, ρ.f (.tmp t1) = v1 → ρ.f (.tmp t2) = v2 → o.upon P a K Q ((execOp ρ.f o).run P w)) : Oper.wp P o a w K Q := op_run fun r hr c f g => h ⟨r, c, f, g⟩ (rho hr r1) (rho hr r2)
theorem o3 {o : Oper} {K : Act → World → Prop} {t1 t2 t3 : Nat} {v1 v2 v3 : Value} (r1 : a.tmps[t1]? = some v1) (r2 : a.tmps[t2]? = some v2) (r3 : a.tmps[t3]? = some v3) (h : ∀ ρ : Rho, ρ.f (.tmp t1) = v1 → ρ.f (.tmp t2) = v2 → ρ.f (.tmp t3) = v3 → o.upon P a K Q ((execOp ρ.f o).run P w)) : Oper.wp P o a w K Q := op_run fun r hr c f g => h ⟨r, c, f, g⟩ (rho hr r1) (rho hr r2) (rho hr r3)
theorem M0 {K : Act → World → Prop} {i : Nat} {l : List Nat} {o : Oper} (h : ∀ K' : Act → World → Prop, Hush (∀ a' w', Late yl P ops Q K l a' w' → K' a' w') → ∀ ρ : Rho, o.upon P a K' Q ((execOp ρ.f o).run P w))  (ho : ops[i]? = some o := by first | (simp only [List.getElem?_toArray, List.getElem?_cons_succ, List.getElem?_cons_zero]; rfl) | rfl) (hg : o.guard = none := by rfl) : Late yl P ops Q K (i :: l) a w :=
  Late.plain ho hg fun K' J => o0 (h K' J)
theorem M1 {n : Nat} {e : Env} (hE : FitsD D n e a) (t1 : Nat) {v1 : Value} {K : Act → World → Prop} {i : Nat} {l : List Nat} {o : Oper} (h : ∀ K' : Act → World → Prop, Hush (∀ a' w', Late yl P ops Q K l a' w' → K' a' w') → ∀ ρ : Rho, ρ.f (.tmp t1) = v1 → o.upon P a K' Q ((execOp ρ.f o).run P w)) (h1 : lk t1 e = some v1 := by rfl) (ho : ops[i]? = some o := by first | (simp only [List.getElem?_toArray, List.getElem?_cons_succ, List.getElem?_cons_zero]; rfl) | rfl) (hg : o.guard = none := by rfl) : Late yl P ops Q K (i :: l) a w :=
  Late.plain ho hg fun K' J => o1 (hE.at t1 h1) (h K' J)
theorem N1 {n : Nat} {e : Env} (hE : FitsD D n e a) (d t1 : Nat) {v1 : Value} {K : Act → World → Prop} {i j : Nat} {b : Bool} {l : List Nat} {o : Oper} (h : ∀ K' : Act → World → Prop, Hush (∀ a' w', Late yl P ops Q K l a' w' → K' a' w') → ∀ ρ : Rho, ρ.f (.tmp t1) = v1 → o.upon P a K' Q ((execOp ρ.f o).run P w)) (h1 : lk t1 e = some v1 := by rfl) (ho : ops[i]? = some o := by first | (simp only [List.getElem?_toArray, List.getElem?_cons_succ, List.getElem?_cons_zero]; rfl) | rfl) (hg : o.guard = some (j, b) := by rfl) (hd : (ops[j]?).bind (·.dst) = some d := by kernel_rfl) (hv : lk d e = some (.bool b) := by rfl) : Late yl P ops Q K (i :: l) a w :=
  Late.yes hE ho hg hd hv fun K' J => o1 (hE.at t1 h1) (h K' J)
theorem M2 {n : Nat} {e : Env} (hE : FitsD D n e a) (t1 t2 : Nat) {v1 v2 : Value} {K : Act → World → Prop} {i : Nat} {l : List Nat} {o : Oper} (h : ∀ K' : Act → World → Prop, Hush (∀ a' w', Late yl P ops Q K l a' w' → K' a' w') → ∀ ρ : Rho, ρ.f (.tmp t1) = v1 → ρ.f (.tmp t2) = v2 → o.upon P a K' Q ((execOp ρ.f o).run P w)) (h1 : lk t1 e = some v1 := by rfl) (h2 : lk t2 e = some v2 := by rfl) (ho : ops[i]? = some o := by first | (simp only [List.getElem?_toArray, List.getElem?_cons_succ, List.getElem?_cons_zero]; rfl) | rfl) (hg : o.guard = none := by rfl) : Late yl P ops Q K (i :: l) a w :=
  Late.plain ho hg fun K' J => o2 (hE.at t1 h1) (hE.at t2 h2) (h K' J)
theorem N2 {n : Nat} {e : Env} (hE : FitsD D n e a) (d t1 t2 : Nat) {v1 v2 : Value} {K : Act → World → Prop} {i j : Nat} {b : Bool} {l : List Nat} {o : Oper} (h : ∀ K' : Act → World → Prop, Hush (∀ a' w', Late yl P ops Q K l a' w' → K' a' w') → ∀ ρ : Rho, ρ.f (.tmp t1) = v1 → ρ.f (.tmp t2) = v2 → o.upon P a K' Q ((execOp ρ.f o).run P w)) (h1 : lk t1 e = some v1 := by rfl) (h2 : lk t2 e = some v2 := by rfl) (ho : ops[i]? = some o := by first | (simp only [List.getElem?_toArray, List.getElem?_cons_succ, List.getElem?_cons_zero]; rfl) | rfl) (hg : o.guard = some (j, b) := by rfl) (hd : (ops[j]?).bind (·.dst) = some d := by kernel_rfl) (hv : lk d e = some (.bool b) := by rfl) : Late yl P ops Q K (i :: l) a w :=
  Late.yes hE ho hg hd hv fun K' J => o2 (hE.at t1 h1) (hE.at t2 h2) (h K' J)
theorem M3 {n : Nat} {e : Env} (hE : FitsD D n e a) (t1 t2 t3 : Nat) {v1 v2 v3 : Value} {K : Act → World → Prop} {i : Nat} {l : List Nat} {o : Oper} (h : ∀ K' : Act → World → Prop, Hush (∀ a' w', Late yl P ops Q K l a' w' → K' a' w') → ∀ ρ : Rho, ρ.f (.tmp t1) = v1 → ρ.f (.tmp t2) = v2 → ρ.f (.tmp t3) = v3 → o.upon P a K' Q ((execOp ρ.f o).run P w)) (h1 : lk t1 e = some v1 := by rfl) (h2 : lk t2 e = some v2 := by rfl) (h3 : lk t3 e = some v3 := by rfl) (ho : ops[i]? = some o := by first | (simp only [List.getElem?_toArray, List.getElem?_cons_succ, List.getElem?_cons_zero]; rfl) | rfl) (hg : o.guard = none := by rfl) : Late yl P ops Q K (i :: l) a w :=
  Late.plain ho hg fun K' J => o3 (hE.at t1 h1) (hE.at t2 h2) (hE.at t3 h3) (h K' J)
end
section
variable {P : Program} {md : Region.Mode} {ops : Array Oper} {Q : Exit → Act → World → Prop} {T : World → Prop} {R : World → World → Prop} {n : Nat} {us : List Nat} {a0 : Act} {acc : List (Nat × Option Nat × (Value → World → Prop))} {i : Nat}
theorem Jo {T : World → Prop} {R : World → World → Prop} {K : Act → World → Prop} {a : Act} {w : World} {d : Option Nat} {x : Value} (J : Hush (∀ a' v w', a' = a.put d v → v = x → T w' → R w w' → K a' w')) (hT : T w) (hR : R w w := by exact Below.refl _ _) : K (a.put d x) w := J.out _ _ _ rfl rfl hT hR
theorem Ek {K : Act → World → Prop} {D : List Deferred} {n i d : Nat} {w : World} {x : Value} {l : List (Nat × Option Nat × (Value → World → Prop))} {e : Env} (h : EndsE K D n w l ((d, x) :: e)) : EndsE K D n w ((i, some d, fun v _ => v = x) :: l) e := fun _ hv => hv ▸ h
theorem Sp {F : Value → World → Prop} {o : Oper} (h : ∀ a w, SameBut n us a0 a → T w → (∀ k d G, (k, d, G) ∈ acc → depB md o k = true → Told k ops G a w) → ∀ K : Act → World → Prop, Hush (∀ a' v w', a' = a.put o.dst v → F v w' → T w' → R w w' → K a' w') → Oper.wp P o a w K Q)
    (ho : ops[i]? = some o := by first | (simp only [List.getElem?_toArray, List.getElem?_cons_succ, List.getElem?_cons_zero]; rfl) | rfl) (hg : o.guard = none := by rfl) : StepOk P md ops Q T R n us a0 acc i F := StepOk.plain ho hg h
theorem Sy {F : Value → World → Prop} {o : Oper} (p e : Nat) {j : Nat} {b : Bool} {d' : Option Nat} (h : ∀ a w, SameBut n us a0 a → T w → (∀ k d G, (k, d, G) ∈ acc → depB md o k = true → Told k ops G a w) → ∀ K : Act → World → Prop, Hush (∀ a' v w', a' = a.put o.dst v → F v w' → T w' → R w w' → K a' w') → Oper.wp P o a w K Q)
    (ho : ops[i]? = some o := by first | (simp only [List.getElem?_toArray, List.getElem?_cons_succ, List.getElem?_cons_zero]; rfl) | rfl) (hg : o.guard = some (j, b) := by rfl) (hj : acc[p]? = some (j, d', fun v _ => v = .bool b) := by rfl) (hd : (ops[j]?).bind (·.dst) = some e := by kernel_rfl) (hdep : depB md o j = true := by kernel_rfl) : StepOk P md ops Q T R n us a0 acc i F := StepOk.yes ho hg p hj hd hdep h
theorem Tg {o : Oper} {a : Act} {w : World} (h : ∀ k d G, (k, d, G) ∈ acc → depB md o k = true → Told k ops G a w) (p k e : Nat) {d' : Option Nat} {G : Value → World → Prop} (hp : acc[p]? = some (k, d', G) := by rfl) (hd : (ops[k]?).bind (·.dst) = some e := by kernel_rfl) (hdep : depB md o k = true := by kernel_rfl) : ∃ v, a.tmps[e]? = some v ∧ G v w := told_get h p hp hd hdep
theorem Tv {o : Oper} {a : Act} {w : World} (h : ∀ k d G, (k, d, G) ∈ acc → depB md o k = true → Told k ops G a w) (p k e : Nat) {d' : Option Nat} {x : Value} (hp : acc[p]? = some (k, d', fun v _ => v = x) := by rfl) (hd : (ops[k]?).bind (·.dst) = some e := by kernel_rfl) (hdep : depB md o k = true := by kernel_rfl) : a.tmps[e]? = some x := told_val h p hp hd hdep
end
section
variable {D : List Deferred} {P : Program} {ops : Array Oper} {Q Q' : Exit → Act → World → Prop} {a : Act} {w : World} {yl : Bool}
theorem Ld {n : Nat} {e e' : Env} {K : Act → World → Prop} (ks : List Nat) (hE : FitsD D n e a) (hK : Hush (∀ a' w', Q .normal a' w' → K a' w')) (h : ∀ a', FitsD D n e' a' → Q .normal a' w) (he : pick ks e = e' := by (simp only [lk, pick, Nat.reduceEqDiff, ↓reduceIte]; exact rfl)) : Late yl P ops Q' K [] a w := late_done ks hE hK (he ▸ h)
theorem Lm {n : Nat} {e : Env} (hE : FitsD D n e a) (d' d : Nat) {x b : Bool} {K : Act → World → Prop} {i j : Nat} {l : List Nat} {o : Oper} (v : Value)
    (h1 : (x == b) = true → ∀ K' : Act → World → Prop, Hush (K' (a.put (some d') v) w) → Oper.wp P o a w K' Q) (h2 : ∀ a', FitsD D n ((d', may (x == b) v) :: e) a' → Late yl P ops Q K l a' w) (hn : d' < n := by decide) (ho : ops[i]? = some o := by first | (simp only [List.getElem?_toArray, List.getElem?_cons_succ, List.getElem?_cons_zero]; rfl) | rfl) (ho' : o.dst = some d' := by rfl) (hg : o.guard = some (j, b) := by rfl) (hd : (ops[j]?).bind (·.dst) = some d := by kernel_rfl) (hv : lk d e = some (.bool x) := by rfl) : Late yl P ops Q K (i :: l) a w := Late.may hE hn ho ho' hg hd hv v h1 h2
end
theorem Ta {n : Nat} {us : List Nat} {D : List Deferred} {e : Env} {a a' : Act} (hS : SameBut n us a a') (hE : FitsD D n e a) (t : Nat) {v : Value} (hu : us.contains t = false := by decide) (hl : lk t e = some v := by rfl) : a'.tmps[t]? = some v := hS.at t hu (hE.at t hl)
theorem Sn {P : Program} {md : Region.Mode} {ops : Array Oper} {Q : Exit → Act → World → Prop} {T : World → Prop} {R : World → World → Prop} {n : Nat} {us : List Nat} {a0 : Act} {acc : List (Nat × Option Nat × (Value → World → Prop))} {i : Nat} {o : Oper} (p e : Nat) {j : Nat} {b c : Bool} {d' : Option Nat}
    (ho : ops[i]? = some o := by first | (simp only [List.getElem?_toArray, List.getElem?_cons_succ, List.getElem?_cons_zero]; rfl) | rfl) (hg : o.guard = some (j, b) := by rfl) (hj : acc[p]? = some (j, d', fun v _ => v = .bool c) := by rfl) (hc : c = !b := by rfl) (hd : (ops[j]?).bind (·.dst) = some e := by kernel_rfl) (hdep : depB md o j = true := by kernel_rfl) (hR : ∀ w, R w w := by exact fun w => Below.refl _ _) : StepOk P md ops Q T R n us a0 acc i (fun v _ => v = undef) := StepOk.no ho hg p hj hc hd hdep hR
theorem En {P : Program} {w : World} {f : FuncId} {fn : Func} {c : Code} {args : List Value} {R : Ending → World → Prop} {n : Nat} {e : Env} (hf : P.funcs[f]? = some fn) (hn : fn.ntmps = n) (h : ∀ a, Fits n e a → c.wp P (bodyPost P fn R) a w)
    (hb : fn.body = some c := by rfl) (hk : args.length ≤ n := by simp) (he : envOf 0 args = e := by (simp only [envOf, Nat.zero_add, Nat.reduceAdd]; exact rfl)) : Calls P f args.toArray w R := enterE hf hb hn hk (he ▸ h)
theorem Cells.c1 {w : World} {B : Nat} {v0 : Value} {l : List Value} (h : Cells w B (v0 :: l)) : B < w.heap.size ∧ w.cell? ⟨B, 0, none⟩ = some v0 := ⟨h.1, h.2 0 _ rfl⟩
theorem Cells.c2 {w : World} {B : Nat} {v0 v1 : Value} {l : List Value} (h : Cells w B (v0 :: v1 :: l)) : B < w.heap.size ∧ w.cell? ⟨B, 0, none⟩ = some v0 ∧ w.cell? ⟨B, 1, none⟩ = some v1 := ⟨h.1, h.2 0 _ rfl, h.2 1 _ rfl⟩
theorem Cells.c3 {w : World} {B : Nat} {v0 v1 v2 : Value} {l : List Value} (h : Cells w B (v0 :: v1 :: v2 :: l)) : B < w.heap.size ∧ w.cell? ⟨B, 0, none⟩ = some v0 ∧ w.cell? ⟨B, 1, none⟩ = some v1 ∧ w.cell? ⟨B, 2, none⟩ = some v2 := ⟨h.1, h.2 0 _ rfl, h.2 1 _ rfl, h.2 2 _ rfl⟩
theorem Cells.c4 {w : World} {B : Nat} {v0 v1 v2 v3 : Value} {l : List Value} (h : Cells w B (v0 :: v1 :: v2 :: v3 :: l)) : B < w.heap.size ∧ w.cell? ⟨B, 0, none⟩ = some v0 ∧ w.cell? ⟨B, 1, none⟩ = some v1 ∧ w.cell? ⟨B, 2, none⟩ = some v2 ∧ w.cell? ⟨B, 3, none⟩ = some v3 := ⟨h.1, h.2 0 _ rfl, h.2 1 _ rfl, h.2 2 _ rfl, h.2 3 _ rfl⟩
theorem Cells.c5 {w : World} {B : Nat} {v0 v1 v2 v3 v4 : Value} {l : List Value} (h : Cells w B (v0 :: v1 :: v2 :: v3 :: v4 :: l)) : B < w.heap.size ∧ w.cell? ⟨B, 0, none⟩ = some v0 ∧ w.cell? ⟨B, 1, none⟩ = some v1 ∧ w.cell? ⟨B, 2, none⟩ = some v2 ∧ w.cell? ⟨B, 3, none⟩ = some v3 ∧ w.cell? ⟨B, 4, none⟩ = some v4 := ⟨h.1, h.2 0 _ rfl, h.2 1 _ rfl, h.2 2 _ rfl, h.2 3 _ rfl, h.2 4 _ rfl⟩
theorem Cells.c6 {w : World} {B : Nat} {v0 v1 v2 v3 v4 v5 : Value} {l : List Value} (h : Cells w B (v0 :: v1 :: v2 :: v3 :: v4 :: v5 :: l)) : B < w.heap.size ∧ w.cell? ⟨B, 0, none⟩ = some v0 ∧ w.cell? ⟨B, 1, none⟩ = some v1 ∧ w.cell? ⟨B, 2, none⟩ = some v2 ∧ w.cell? ⟨B, 3, none⟩ = some v3 ∧ w.cell? ⟨B, 4, none⟩ = some v4 ∧ w.cell? ⟨B, 5, none⟩ = some v5 := ⟨h.1, h.2 0 _ rfl, h.2 1 _ rfl, h.2 2 _ rfl, h.2 3 _ rfl, h.2 4 _ rfl, h.2 5 _ rfl⟩
theorem Cells.c7 {w : World} {B : Nat} {v0 v1 v2 v3 v4 v5 v6 : Value} {l : List Value} (h : Cells w B (v0 :: v1 :: v2 :: v3 :: v4 :: v5 :: v6 :: l)) : B < w.heap.size ∧ w.cell? ⟨B, 0, none⟩ = some v0 ∧ w.cell? ⟨B, 1, none⟩ = some v1 ∧ w.cell? ⟨B, 2, none⟩ = some v2 ∧ w.cell? ⟨B, 3, none⟩ = some v3 ∧ w.cell? ⟨B, 4, none⟩ = some v4 ∧ w.cell? ⟨B, 5, none⟩ = some v5 ∧ w.cell? ⟨B, 6, none⟩ = some v6 := ⟨h.1, h.2 0 _ rfl, h.2 1 _ rfl, h.2 2 _ rfl, h.2 3 _ rfl, h.2 4 _ rfl, h.2 5 _ rfl, h.2 6 _ rfl⟩
theorem Cells.c8 {w : World} {B : Nat} {v0 v1 v2 v3 v4 v5 v6 v7 : Value} {l : List Value} (h : Cells w B (v0 :: v1 :: v2 :: v3 :: v4 :: v5 :: v6 :: v7 :: l)) : B < w.heap.size ∧ w.cell? ⟨B, 0, none⟩ = some v0 ∧ w.cell? ⟨B, 1, none⟩ = some v1 ∧ w.cell? ⟨B, 2, none⟩ = some v2 ∧ w.cell? ⟨B, 3, none⟩ = some v3 ∧ w.cell? ⟨B, 4, none⟩ = some v4 ∧ w.cell? ⟨B, 5, none⟩ = some v5 ∧ w.cell? ⟨B, 6, none⟩ = some v6 ∧ w.cell? ⟨B, 7, none⟩ = some v7 := ⟨h.1, h.2 0 _ rfl, h.2 1 _ rfl, h.2 2 _ rfl, h.2 3 _ rfl, h.2 4 _ rfl, h.2 5 _ rfl, h.2 6 _ rfl, h.2 7 _ rfl⟩
theorem Cells.c9 {w : World} {B : Nat} {v0 v1 v2 v3 v4 v5 v6 v7 v8 : Value} {l : List Value} (h : Cells w B (v0 :: v1 :: v2 :: v3 :: v4 :: v5 :: v6 :: v7 :: v8 :: l)) : B < w.heap.size ∧ w.cell? ⟨B, 0, none⟩ = some v0 ∧ w.cell? ⟨B, 1, none⟩ = some v1 ∧ w.cell? ⟨B, 2, none⟩ = some v2 ∧ w.cell? ⟨B, 3, none⟩ = some v3 ∧ w.cell? ⟨B, 4, none⟩ = some v4 ∧ w.cell? ⟨B, 5, none⟩ = some v5 ∧ w.cell? ⟨B, 6, none⟩ = some v6 ∧ w.cell? ⟨B, 7, none⟩ = some v7 ∧ w.cell? ⟨B, 8, none⟩ = some v8 := ⟨h.1, h.2 0 _ rfl, h.2 1 _ rfl, h.2 2 _ rfl, h.2 3 _ rfl, h.2 4 _ rfl, h.2 5 _ rfl, h.2 6 _ rfl, h.2 7 _ rfl, h.2 8 _ rfl⟩
end Go.Proofs.YtkhmcofmjjmjhaaDoor
