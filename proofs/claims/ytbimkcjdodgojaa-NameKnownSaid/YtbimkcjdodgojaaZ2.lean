/- A statement that draws its order, in a great frame: the frame stays a letter, what is read of it is told slot by slot. -/
import Derived.Test.YtbimkcjdodgojaaZ
namespace Go.Proofs.Ytbimkcjdodgojaa
set_option linter.unusedSimpArgs false
set_option linter.unusedVariables false
open Go

theorem eval_of {a : Act} {t : Nat} {v : Value} (h : a.tmps[t]? = some v) : a.eval (.tmp t) = v := by
  simp only [Act.eval, Array.getD_eq_getD_getElem?, h, Option.getD_some]
theorem abs_op {P : Program} {o : Oper} {a : Act} {w : World} {K : Act → World → Prop} {Q : Exit → Act → World → Prop} (ρ : Operand → Value) (hρ : a.eval = ρ) (h : o.upon P a K Q ((execOp ρ o).run P w)) : Oper.wp P o a w K Q := by
  subst hρ
  exact h
theorem wanted_none {o : Oper} {y : Nat → Option Bool} (h : o.guard = none) : Region.wanted o y = true := by
  unfold Region.wanted; rw [h]
theorem wanted_yes {ops : Array Oper} {xs : Array Value} {o : Oper} {j d : Nat} {b : Bool} (h : o.guard = some (j, b)) (hd : (ops[j]?).bind (·.dst) = some d) (hv : xs[d]? = some (.bool b)) : Region.wanted o (yielded ops xs) = true := by
  unfold Region.wanted yielded; rw [h]; simp only [hd, Option.bind_some, hv, beq_self_eq_true]
theorem wanted_no {ops : Array Oper} {xs : Array Value} {o : Oper} {j d : Nat} {b c : Bool} (h : o.guard = some (j, b)) (hd : (ops[j]?).bind (·.dst) = some d) (hv : xs[d]? = some (.bool c)) (hc : c = !b) : ¬ Region.wanted o (yielded ops xs) = true := by
  subst hc
  unfold Region.wanted yielded; rw [h]; simp only [hd, Option.bind_some, hv]; cases b <;> simp
theorem wanted_un {ops : Array Oper} {xs : Array Value} {o : Oper} {j d : Nat} {b : Bool} (h : o.guard = some (j, b)) (hd : (ops[j]?).bind (·.dst) = some d) (hv : xs[d]? = some undef) : ¬ Region.wanted o (yielded ops xs) = true := by
  unfold Region.wanted yielded; rw [h]; simp only [hd, Option.bind_some, hv, undef]; simp
/-- a frame, written out: the slots that are known as they were, the others as they are -/
def buildL (ks : List Nat) (xs ys : Array Value) : Nat → Nat → List Value
  | _, 0 => []
  | i, m + 1 => (bif ks.contains i then xs.getD i undef else ys.getD i undef) :: buildL ks xs ys (i + 1) m
def build (n : Nat) (ks : List Nat) (xs ys : Array Value) : Array Value := (buildL ks xs ys 0 n).toArray
theorem buildL_length (ks : List Nat) (xs ys : Array Value) : ∀ m i, (buildL ks xs ys i m).length = m
  | 0, _ => rfl
  | m + 1, i => by simp [buildL, buildL_length ks xs ys m (i + 1)]
theorem buildL_at (ks : List Nat) (xs ys : Array Value) : ∀ m i j (h : j < (buildL ks xs ys i m).length), (buildL ks xs ys i m)[j] = bif ks.contains (i + j) then xs.getD (i + j) undef else ys.getD (i + j) undef
  | 0, _, j, h => by simp [buildL] at h
  | m + 1, i, j, h => by
    cases j with
    | zero => rfl
    | succ j =>
      have := buildL_at ks xs ys m (i + 1) j (by simpa [buildL] using h)
      simp only [buildL, List.getElem_cons_succ]
      rw [this, show i + 1 + j = i + (j + 1) by omega]
theorem frame_lit {n : Nat} {ks : List Nat} {xs ys : Array Value} (hsz : ys.size = n) (hkn : ∀ t, ks.contains t = true → ys[t]? = some (xs.getD t undef)) : ys = build n ks xs ys := by
  unfold build
  refine Array.ext (by simp [hsz, buildL_length]) fun i h1 h2 => ?_
  simp only [List.getElem_toArray, buildL_at, Nat.zero_add]
  cases hc : ks.contains i
  · simp [h1]
  · have := hkn i hc
    rw [Array.getElem?_eq_getElem h1] at this
    simpa using this
theorem act_lit {a : Act} {D : List Deferred} {n : Nat} {ks : List Nat} {xs : Array Value} (hd : a.defers = D) (hsz : a.tmps.size = n) (hkn : ∀ t, ks.contains t = true → a.tmps[t]? = some (xs.getD t undef)) : a = ⟨build n ks xs a.tmps, D⟩ := by
  obtain ⟨ys, D'⟩ := a
  simp only at hd hsz hkn
  subst hd
  congr 1
  exact frame_lit hsz hkn
theorem put_lit {a a' : Act} {t : Nat} {v : Value} (h : a = a') : (⟨a.tmps.setIfInBounds t v, a.defers⟩ : Act) = ⟨a'.tmps.setIfInBounds t v, a'.defers⟩ := by rw [h]
end Go.Proofs.Ytbimkcjdodgojaa
