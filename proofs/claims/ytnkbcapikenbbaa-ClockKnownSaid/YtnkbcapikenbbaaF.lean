/- A walk over frames of which only some slots are told. -/
import Derived.Test.YtnkbcapikenbbaaY
namespace Go.Proofs.Ytnkbcapikenbbaa
set_option linter.unusedSimpArgs false
set_option linter.unusedVariables false
open Go

abbrev Env := List (Nat × Value)
def lk (t : Nat) : Env → Option Value
  | [] => none
  | (k, v) :: l => if k = t then some v else lk t l
def pick : List Nat → Env → Env
  | [], _ => []
  | t :: ts, e => match lk t e with
    | some v => (t, v) :: pick ts e
    | none => pick ts e
/-- a frame of n slots, some of which hold what an environment tells -/
def Fits (n : Nat) (e : Env) (a : Act) : Prop := a.defers = [] ∧ a.tmps.size = n ∧ ∀ t v, lk t e = some v → a.tmps[t]? = some v
section
variable {n : Nat} {e : Env} {a : Act}
theorem Fits.at (h : Fits n e a) (t : Nat) {v : Value} (hl : lk t e = some v) : a.tmps[t]? = some v := h.2.2 t v hl
theorem lk_pick : ∀ (ts : List Nat) (e : Env) (t : Nat) (v : Value), lk t (pick ts e) = some v → lk t e = some v
  | [], _, _, _, h => by cases h
  | x :: ts, e, t, v, h => by
    unfold pick at h
    cases hx : lk x e with
    | none => rw [hx] at h; exact lk_pick ts e t v h
    | some u =>
      rw [hx] at h
      simp only [lk] at h
      by_cases hxt : x = t
      · subst hxt; rw [if_pos rfl] at h; rw [hx]; exact h
      · rw [if_neg hxt] at h; exact lk_pick ts e t v h
theorem Fits.keep (h : Fits n e a) (ts : List Nat) : Fits n (pick ts e) a := ⟨h.1, h.2.1, fun t v hl => h.2.2 t v (lk_pick ts e t v hl)⟩
theorem Fits.put (h : Fits n e a) {d : Nat} (v : Value) (hd : d < n) : Fits n ((d, v) :: e) (a.put (some d) v) := ⟨h.1, by simp [Act.put, h.2.1], fun t u hl => by
  simp only [lk] at hl
  by_cases hdt : d = t
  · subst hdt
    rw [if_pos rfl] at hl; cases hl
    have : d < a.tmps.size := by rw [h.2.1]; exact hd
    simp [Act.put, this]
  · rw [if_neg hdt] at hl
    simp only [Act.put, Array.getElem?_setIfInBounds_ne hdt]
    exact h.2.2 t u hl⟩
theorem Fits.put_none (h : Fits n e a) (v : Value) : Fits n e (a.put none v) := h
theorem Fits.same {a' : Act} {us : List Nat} {e' : Env} (h : Fits n e a) (hs : SameBut n us a a') (he : ∀ t v, lk t e' = some v → us.contains t = false ∧ lk t e = some v) : Fits n e' a' :=
  ⟨hs.1.trans h.1, hs.2.1, fun t v hl => by
    obtain ⟨h1, h2⟩ := he t v hl
    exact hs.at t h1 (h.at t h2)⟩
theorem Fits.eval (h : Fits n e a) (t : Nat) {v : Value} (hl : lk t e = some v) : a.eval (.tmp t) = v := eval_of (h.at t hl)
end

section
variable {P : Program} {ops : Array Oper} {Q Q' : Exit → Act → World → Prop} {a : Act} {w : World}
/-- operations one after the other -/
def Late (P : Program) (ops : Array Oper) (Q : Exit → Act → World → Prop) (K : Act → World → Prop) : List Nat → Act → World → Prop
  | [], a, w => K a w
  | i :: l, a, w => ∀ o, ops[i]? = some o → if Region.wanted o (yielded ops a.tmps) = true then Oper.wp P o a w (Late P ops Q K l) Q else Late P ops Q K l (a.put o.dst undef) w
theorem Late.nil {K : Act → World → Prop} (h : K a w) : Late P ops Q K [] a w := h
theorem Late.plain {K : Act → World → Prop} {i : Nat} {l : List Nat} {o : Oper} (ho : ops[i]? = some o) (hg : o.guard = none)
    (h : ∀ K' : Act → World → Prop, Hush (∀ a' w', Late P ops Q K l a' w' → K' a' w') → Oper.wp P o a w K' Q) : Late P ops Q K (i :: l) a w := fun o' ho' => by
  rw [ho] at ho'; cases ho'
  rw [if_pos (wanted_none hg)]
  exact h _ (fun _ _ h => h)
theorem Late.yes {n : Nat} {e : Env} (hE : Fits n e a) {K : Act → World → Prop} {i j d : Nat} {b : Bool} {l : List Nat} {o : Oper} (ho : ops[i]? = some o) (hg : o.guard = some (j, b)) (hd : (ops[j]?).bind (·.dst) = some d) (hv : lk d e = some (.bool b))
    (h : ∀ K' : Act → World → Prop, Hush (∀ a' w', Late P ops Q K l a' w' → K' a' w') → Oper.wp P o a w K' Q) : Late P ops Q K (i :: l) a w := fun o' ho' => by
  rw [ho] at ho'; cases ho'
  rw [if_pos (wanted_yes hg hd (hE.at d hv))]
  exact h _ (fun _ _ h => h)
theorem Late.no {n : Nat} {e : Env} (hE : Fits n e a) {K : Act → World → Prop} {i j d : Nat} {b c : Bool} {l : List Nat} {o : Oper} (ho : ops[i]? = some o) (hg : o.guard = some (j, b)) (hd : (ops[j]?).bind (·.dst) = some d) (hv : lk d e = some (.bool c)) (hc : c = !b)
    (h : Late P ops Q K l (a.put o.dst undef) w) : Late P ops Q K (i :: l) a w := fun o' ho' => by
  rw [ho] at ho'; cases ho'
  rw [if_neg (wanted_no hg hd (hE.at d hv) hc)]
  exact h
theorem Late.un {n : Nat} {e : Env} (hE : Fits n e a) {K : Act → World → Prop} {i j d : Nat} {b : Bool} {l : List Nat} {o : Oper} (ho : ops[i]? = some o) (hg : o.guard = some (j, b)) (hd : (ops[j]?).bind (·.dst) = some d) (hv : lk d e = some undef)
    (h : Late P ops Q K l (a.put o.dst undef) w) : Late P ops Q K (i :: l) a w := fun o' ho' => by
  rw [ho] at ho'; cases ho'
  rw [if_neg (wanted_un hg hd (hE.at d hv))]
  exact h
theorem late_wpOps {K : Act → World → Prop} : ∀ (l : List Nat) (a : Act) (w : World), (∀ i ∈ l, i < ops.size) → (∀ a w, K a w → Q .normal a w) → Late P ops Q K l a w → wpOps P ops Q l a w
  | [], a, w, _, hK, h => hK _ _ h
  | i :: l, a, w, hi, hK, h => by
    have hlt := hi i (List.mem_cons_self ..)
    have ho : ops[i]? = some ops[i] := Array.getElem?_eq_getElem hlt
    rw [wpOps_cons]
    unfold wpOp
    simp only [ho]
    have h1 := h _ ho
    split
    · rename_i hw
      rw [if_pos hw] at h1
      exact .inl (Oper.wp_mono (fun a w h => late_wpOps l a w (fun i hm => hi i (List.mem_cons_of_mem _ hm)) hK h) h1)
    · rename_i hw
      rw [if_neg hw] at h1
      exact late_wpOps l _ w (fun i hm => hi i (List.mem_cons_of_mem _ hm)) hK h1
/-- a statement whose order is the text's -/
theorem region_straight {id m : Nat} (hm : ops.size = m) (h : ∀ Q' K, Hush (∀ a w, Q .normal a w → K a w) → Late P ops Q' K (List.range m) a w) : (Code.region id ops false).wp P Q a w := by
  subst hm
  exact wp_region (late_wpOps _ a w (fun i hi => List.mem_range.1 hi) (fun _ _ h => h) (h Q (Q .normal) (fun _ _ h => h)))
def lateOrdB (md : Region.Mode) (ops : Array Oper) : Array Bool → List Nat → Bool
  | L, [] => Region.ready md ops L == []
  | L, i :: l => Region.ready md ops L == [i] && lateOrdB md ops (L.setIfInBounds i true) l
theorem late_any {md : Region.Mode} {K : Act → World → Prop} (hK : ∀ a w, K a w → Q .normal a w) : ∀ (l : List Nat) (L : Array Bool) (a : Act) (w : World), lateOrdB md ops L l = true → Late P ops Q K l a w → wpAny P md ops Q l.length L a w
  | [], L, a, w, hL, h => ⟨by simpa [lateOrdB] using hL, hK _ _ h⟩
  | i :: l, L, a, w, hL, h => by
    unfold lateOrdB at hL
    rw [Bool.and_eq_true, beq_iff_eq] at hL
    refine ⟨fun h0 => (by rw [hL.1] at h0; cases h0), fun j hj => ?_⟩
    rw [hL.1, List.mem_singleton] at hj
    subst hj
    have hr : j ∈ Region.ready md ops L := by rw [hL.1]; exact List.mem_singleton.2 rfl
    obtain ⟨_, o, ho, _⟩ := mem_ready.1 hr
    have h1 := h o ho
    unfold wpOp
    simp only [ho]
    split
    · rename_i hw
      rw [if_pos hw] at h1
      exact .inl (Oper.wp_mono (fun a w h => late_any hK l _ a w hL.2 h) h1)
    · rename_i hw
      rw [if_neg hw] at h1
      exact late_any hK l _ _ w hL.2 h1
/-- what is left at the end of a drawn statement, as an environment -/
def EndsE (K : Act → World → Prop) (n : Nat) (w : World) : List (Nat × Option Nat × (Value → World → Prop)) → Env → Prop
  | [], e => ∀ a, Fits n e a → K a w
  | (_, some d, F) :: l, e => ∀ v, F v w → EndsE K n w l ((d, v) :: e)
  | (_, none, _) :: l, e => EndsE K n w l e
theorem endsE_ends {K : Act → World → Prop} {n : Nat} {w : World} : ∀ (l : List (Nat × Option Nat × (Value → World → Prop))) (e : Env) (xs : Array Value), EndsE K n w l e → Fits n e ⟨xs, []⟩ → (∀ i d F, (i, some d, F) ∈ l → d < n) → Ends K [] w l xs
  | [], e, xs, h, hf, _ => h _ hf
  | (i, none, F) :: l, e, xs, h, hf, hd => endsE_ends l e xs h hf (fun i d F hm => hd i d F (List.mem_cons_of_mem _ hm))
  | (i, some d, F) :: l, e, xs, h, hf, hd => fun v hv => endsE_ends l _ _ (h v hv) (hf.put v (hd i d F (List.mem_cons_self ..))) (fun i d F hm => hd i d F (List.mem_cons_of_mem _ hm))
/-- a statement that draws its order -/
theorem region_drawn (late : List Nat) (T : World → Prop) (R : World → World → Prop) (rs : List (Nat × Option Nat)) (us : List Nat) (Lz : Array Bool) (ks : List Nat) {id n : Nat} {e : Env} (hE : Fits n e a) (hm : P.follows .mixedOrders = true)
    (hback : backB .any ops = true) (hlate : lateB .any ops (Array.replicate ops.size false) late = true) (hclosed : closedB .any ops (Array.replicate ops.size false) = true) (hseq : seqB n ops rs = true) (hus : rs.filterMap (·.2) = us) (hap : apartB ops (rs.map (·.1)) = true)
    (hLz : ((List.range ops.size).map fun i => !late.contains i).toArray = Lz) (hrs : (List.range ops.size).filter (fun i => !late.contains i && !(Array.replicate ops.size false).getD i true) = rs.map (·.1)) (hsz : rs.length + late.length = ops.size) (hord : lateOrdB .any ops Lz late = true)
    (hlo : (late.all fun k => !(Array.replicate ops.size false).getD k false) = true) (hks : (ks.all fun t => !us.contains t) = true)
    (hT : T w.drew)
    (h : ∀ Q' K, Hush (∀ a w, Q .normal a w → K a w) → SeqOps P .any ops Q' T R n us a (fun acc => ∀ w', T w' → EndsE (Late P ops Q' K late) n w' acc.reverse (pick ks e)) rs []) : (Code.region id ops true).wp P Q a w := by
  refine wp_region_any hm ?_
  have hs := h Q (Q .normal) (fun _ _ h => h)
  refine seq_any late n T R rs us Lz hback hlate hlo hclosed hseq hus hap hLz hrs hsz hE.2.1 hT ?_
  have hmono : ∀ (rs' : List (Nat × Option Nat)) (acc : List (Nat × Option Nat × (Value → World → Prop))), (∀ p ∈ rs', ∀ d, p.2 = some d → d < n) → (∀ x ∈ acc, ∀ d, x.2.1 = some d → d < n) →
      SeqOps P .any ops Q T R n us a (fun acc => ∀ w', T w' → EndsE (Late P ops Q (Q .normal) late) n w' acc.reverse (pick ks e)) rs' acc →
      SeqOps P .any ops Q T R n us a (fun acc => ∀ w', T w' → Ends (wpAny P .any ops Q late.length Lz) a.defers w' acc.reverse a.tmps) rs' acc := by
    intro rs'
    induction rs' with
    | nil =>
      intro acc _ hacc h w' hT'
      have h1 := h w' hT'
      rw [hE.1]
      refine endsE_ends acc.reverse (pick ks e) a.tmps ?_ ?_ (fun i d F hm => hacc _ (List.mem_reverse.1 hm) d rfl)
      · have hk : ∀ (l : List (Nat × Option Nat × (Value → World → Prop))) (e' : Env), EndsE (Late P ops Q (Q .normal) late) n w' l e' → EndsE (wpAny P .any ops Q late.length Lz) n w' l e' := by
          intro l
          induction l with
          | nil => intro e' h a' hf; exact late_any (fun _ _ h => h) late Lz a' w' hord (h a' hf)
          | cons x l ih =>
            obtain ⟨i, d, F⟩ := x
            cases d with
            | none => intro e' h; exact ih _ h
            | some d => intro e' h v hv; exact ih _ (h v hv)
        exact hk _ _ h1
      · have := hE.keep ks
        exact ⟨rfl, this.2.1, this.2.2⟩
    | cons p rs' ih =>
      obtain ⟨i, d⟩ := p
      intro acc hr hacc h
      obtain ⟨F, hF, hst, hs⟩ := h
      exact ⟨F, hF, hst, ih _ (fun p hp => hr p (List.mem_cons_of_mem _ hp)) (fun x hx => by
        rcases List.mem_cons.1 hx with rfl | hx
        · exact hr (i, d) (List.mem_cons_self ..)
        · exact hacc x hx) hs⟩
  refine hmono rs [] (fun p hp d hd => ?_) (fun _ hx => by cases hx) hs
  have h0 := List.all_eq_true.1 hseq _ hp
  rw [Bool.and_eq_true] at h0
  have h2 := h0.2
  rw [hd] at h2
  exact of_decide_eq_true h2

theorem late_next {n d : Nat} {e : Env} {v : Value} {l : List Nat} {K K' : Act → World → Prop} (hE : Fits n e a) (hd : d < n) (hK : Hush (∀ a' w', Late P ops Q K l a' w' → K' a' w')) (h : ∀ a', Fits n ((d, v) :: e) a' → Late P ops Q K l a' w) : K' (a.put (some d) v) w := hK.out _ _ (h _ (hE.put v hd))
theorem late_skip {n : Nat} {e : Env} {l : List Nat} {K K' : Act → World → Prop} (hE : Fits n e a) (hK : Hush (∀ a' w', Late P ops Q K l a' w' → K' a' w')) (h : ∀ a', Fits n e a' → Late P ops Q K l a' w) : K' a w := hK.out _ _ (h _ hE)
theorem late_undef {n d : Nat} {e : Env} {l : List Nat} {K : Act → World → Prop} (hE : Fits n e a) (hd : d < n) (h : ∀ a', Fits n ((d, undef) :: e) a' → Late P ops Q K l a' w) : Late P ops Q K l (a.put (some d) undef) w := h _ (hE.put _ hd)
theorem late_done {n : Nat} {e : Env} {K : Act → World → Prop} (ks : List Nat) (hE : Fits n e a) (hK : Hush (∀ a' w', Q .normal a' w' → K a' w')) (h : ∀ a', Fits n (pick ks e) a' → Q .normal a' w) : Late P ops Q' K [] a w := hK.out _ _ (h _ (hE.keep ks))
/-- an operation is run against what its operands hold -/
theorem op_run {o : Oper} {K : Act → World → Prop} (h : ∀ ρ : Operand → Value, (∀ t, a.eval (.tmp t) = ρ (.tmp t)) → (∀ v, ρ (.const v) = v) → (∀ f, ρ (.func f) = .func (.func f) #[] #[]) → (∀ g, ρ (.global g) = .pointer (some ⟨g, 0, none⟩)) → o.upon P a K Q ((execOp ρ o).run P w)) : Oper.wp P o a w K Q :=
  h a.eval (fun _ => rfl) (fun _ => rfl) (fun _ => rfl) (fun _ => rfl)
theorem rho {ρ : Operand → Value} {t : Nat} {v : Value} (hρ : ∀ t, a.eval (.tmp t) = ρ (.tmp t)) (h : a.tmps[t]? = some v) : ρ (.tmp t) = v := (hρ t).symm.trans (eval_of h)

theorem world_cut {e : Exit} (S : World → Prop) (hS : S w) (h : ∀ w', S w' → Q e a w') : Q e a w := h w hS
theorem code_cut {c : Code} (S : World → Prop) (hS : S w) (h : ∀ w', S w' → c.wp P Q a w') : c.wp P Q a w := h w hS

/-- what is left of a text behind some of its statements -/
def cr : Nat → Code → Code
  | 0, c => c
  | n + 1, .seq _ b => cr n b
  | _ + 1, c => c
def bodyOf (f : Func) : Code := f.body.getD .skip

/-! control -/
theorem then_n {next : Act → World → Prop} (h : next a w) : Exit.then next Q .normal a w := h
theorem then_ret {next : Act → World → Prop} (h : Q .ret a w) : Exit.then next Q .ret a w := h
theorem then_exit {next : Act → World → Prop} {i : Nat} (h : Q (.exit i) a w) : Exit.then next Q (.exit i) a w := h
theorem inBlock_n {i : Nat} (h : Q .normal a w) : Exit.inBlock i Q .normal a w := h
theorem inBlock_ret {i : Nat} (h : Q .ret a w) : Exit.inBlock i Q .ret a w := h
theorem inBlock_hit {i : Nat} (h : Q .normal a w) : Exit.inBlock i Q (.exit i) a w := by simpa [Exit.inBlock] using h
theorem inBlock_miss {i j : Nat} (hne : (j == i) = false) (h : Q (.exit j) a w) : Exit.inBlock i Q (.exit j) a w := by
  have : ¬ j = i := by simpa using hne
  simpa [Exit.inBlock, this] using h
theorem cond_yes {n : Nat} {e : Env} (hE : Fits n e a) {t : Nat} {x y : Code} (hv : lk t e = some (.bool true)) (h : x.wp P Q a w) : (Code.cond (.tmp t) x y).wp P Q a w := wp_cond_true (hE.eval t hv) h
theorem cond_no {n : Nat} {e : Env} (hE : Fits n e a) {t : Nat} {x y : Code} (hv : lk t e = some (.bool false)) (h : y.wp P Q a w) : (Code.cond (.tmp t) x y).wp P Q a w := wp_cond_false (hE.eval t hv) h
theorem cond_part {n : Nat} {e : Env} (hE : Fits n e a) {t : Nat} {x y : Code} {b : Bool} (hv : lk t e = some (.bool b)) (h1 : b = true → x.wp P Q a w) (h2 : b = false → y.wp P Q a w) : (Code.cond (.tmp t) x y).wp P Q a w := wp_cond_split (hE.eval t hv) h1 h2
open Classical in
theorem loop_st {c : Code} {σ : Type} (I : σ → Act → World → Prop) (μ : σ → Nat) (s0 : σ) (h0 : I s0 a w)
    (round : ∀ s a w, I s a w → c.wp P (Exit.then (fun a' w' => ∃ s', I s' a' w' ∧ μ s' < μ s) Q) a w) : (Code.loop c).wp P Q a w := by
  have hle : ∀ (a : Act) (w : World) (s : σ), I s a w → ∃ m, (∃ s, I s a w ∧ μ s = m) ∧ ∀ s, I s a w → m ≤ μ s := fun a w s hs => by
    generalize hm : μ s = m
    induction m using Nat.strongRecOn generalizing s with
    | ind m ih =>
      by_cases h : ∃ s', I s' a w ∧ μ s' < m
      · obtain ⟨s', h1, h2⟩ := h
        exact ih (μ s') h2 s' h1 rfl
      · refine ⟨m, ⟨s, hs, hm⟩, fun s' hs' => ?_⟩
        rcases Nat.lt_or_ge (μ s') m with h3 | h3
        · exact absurd ⟨s', hs', h3⟩ h
        · exact h3
  let ν : Act → World → Nat := fun a w => if h : ∃ s, I s a w then Classical.choose (hle a w (Classical.choose h) (Classical.choose_spec h)) else 0
  have hν : ∀ a w, (∃ s, I s a w) → (∃ s, I s a w ∧ μ s = ν a w) ∧ ∀ s, I s a w → ν a w ≤ μ s := fun a w h => by
    have := Classical.choose_spec (hle a w (Classical.choose h) (Classical.choose_spec h))
    simp only [ν, dif_pos h]
    exact this
  refine wp_loop (fun a w => ∃ s, I s a w) ν ⟨s0, h0⟩ fun a w hI => ?_
  obtain ⟨⟨s, hs, hm⟩, _⟩ := hν a w hI
  refine wp_mono (round s a w hs) fun e a' w' h => ?_
  cases e with
  | normal =>
    obtain ⟨s', h1, h2⟩ := h
    exact ⟨⟨s', h1⟩, by have := (hν a' w' ⟨s', h1⟩).2 s' h1; omega⟩
  | _ => exact h
theorem fits_start {n k : Nat} {args : Array Value} (hk : args.size = k) (hn : k ≤ n) : ∀ e, (∀ t v, lk t e = some v → args[t]? = some v) → Fits n e { tmps := args ++ Array.replicate (n - args.size) undef, defers := [] } := fun e he =>
  ⟨rfl, by simp; omega, fun t v hl => by
    have h := he t v hl
    have hlt : t < args.size := (Array.getElem?_eq_some_iff.1 h).1
    rw [Array.getElem?_append_left hlt]
    exact h⟩
def envOf : Nat → List Value → Env
  | _, [] => []
  | k, v :: l => (k, v) :: envOf (k + 1) l
theorem lk_envOf : ∀ (l : List Value) (k t : Nat) (v : Value), lk t (envOf k l) = some v → k ≤ t ∧ l[t - k]? = some v
  | [], _, _, _, h => by cases h
  | x :: l, k, t, v, h => by
    simp only [envOf, lk] at h
    by_cases hkt : k = t
    · subst hkt; rw [if_pos rfl] at h; cases h; exact ⟨Nat.le_refl _, by simp⟩
    · rw [if_neg hkt] at h
      obtain ⟨h1, h2⟩ := lk_envOf l (k + 1) t v h
      refine ⟨by omega, ?_⟩
      rw [show t - k = (t - (k + 1)) + 1 by omega, List.getElem?_cons_succ]
      exact h2
theorem enterE {f : FuncId} {fn : Func} {c : Code} {args : List Value} {R : Ending → World → Prop} {n : Nat} (hf : P.funcs[f]? = some fn) (hb : fn.body = some c) (hn : fn.ntmps = n) (hk : args.length ≤ n)
    (h : ∀ a, Fits n (envOf 0 args) a → c.wp P (bodyPost P fn R) a w) : Calls P f args.toArray w R := by
  refine calls_of_wp hf hb ?_
  rw [hn]
  exact h _ (fits_start (k := args.length) rfl hk _ fun t v hl => by simpa using (lk_envOf args 0 t v hl).2)
/-- as enterE, with slots of which it is told that nothing stands in them yet -/
theorem enterU (us : List Nat) {f : FuncId} {fn : Func} {c : Code} {args : List Value} {R : Ending → World → Prop} {n : Nat} (hf : P.funcs[f]? = some fn) (hb : fn.body = some c) (hn : fn.ntmps = n) (hk : args.length ≤ n) (hu : (us.all fun t => decide (args.length ≤ t) && decide (t < n)) = true)
    (h : ∀ a, Fits n (us.map (fun t => (t, undef)) ++ envOf 0 args) a → c.wp P (bodyPost P fn R) a w) : Calls P f args.toArray w R := by
  refine calls_of_wp hf hb ?_
  rw [hn]
  have h0 := fits_start (k := args.length) (n := n) (args := args.toArray) rfl hk (envOf 0 args) fun t v hl => by simpa using (lk_envOf args 0 t v hl).2
  have key : ∀ us : List Nat, (us.all fun t => decide (args.length ≤ t) && decide (t < n)) = true → ∀ t v, lk t (us.map (fun t => (t, undef)) ++ envOf 0 args) = some v → (args.toArray ++ Array.replicate (n - args.toArray.size) undef)[t]? = some v := by
    intro us
    induction us with
    | nil => intro _ t v hl; exact h0.2.2 t v hl
    | cons u us ih =>
      intro hu t v hl
      simp only [List.all_cons, Bool.and_eq_true, decide_eq_true_eq] at hu
      simp only [List.map_cons, List.cons_append, lk] at hl
      by_cases e : u = t
      · subst e
        rw [if_pos rfl] at hl; cases hl
        rw [Array.getElem?_append_right (by simpa using hu.1.1)]
        have : u - args.length < n - args.length := by omega
        simp [this]
      · rw [if_neg e] at hl
        exact ih (by simpa using hu.2) t v hl
  exact h _ ⟨h0.1, h0.2.1, key us hu⟩
theorem ret_one {n : Nat} {e : Env} {fn : Func} {R : Ending → World → Prop} (hE : Fits n e a) {t : Nat} {v : Value} (hf : fn.results = #[.tmp t]) (hv : lk t e = some v) (h : R (.returned v) w) : bodyPost P fn R .ret a w := by
  refine bodyPost_ret (results_tmp hf _ _ _) hE.1 ?_
  rw [Array.getD_eq_getD_getElem?, hE.at t hv]
  exact h
theorem ret_two {n : Nat} {e : Env} {fn : Func} {R : Ending → World → Prop} (hE : Fits n e a) {t u : Nat} {v x : Value} (hf : fn.results = #[.tmp t, .tmp u]) (hv : lk t e = some v) (hx : lk u e = some x) (h : R (.returned (.tuple #[v, x])) w) : bodyPost P fn R .ret a w := by
  refine bodyPost_ret (results_tmp2 hf _ _ _) hE.1 ?_
  rw [Array.getD_eq_getD_getElem?, Array.getD_eq_getD_getElem?, hE.at t hv, hE.at u hx]
  exact h
end
end Go.Proofs.Ytnkbcapikenbbaa
