/- Courses of a book by one dial, and the lists that fewest tries, in plain words. No Go here. -/
import Derived.Test.YtnkbcapikenbbaaD
namespace Go.Proofs.Ytnkbcapikenbbaa
set_option linter.unusedSimpArgs false
set_option linter.unusedVariables false

/-- the minutes that one more line can have behind a minute -/
def lineD (set : Int) (x : List Sp) (prev : Int) (l : Ln) : Sp := tellD set x 1 l.r ⟨max l.k.lo prev, l.k.hi⟩
def fwdD (set : Int) (x : List Sp) : Int → List Ln → Option (List Sp)
  | _, [] => some []
  | prev, l :: ls => if (lineD set x prev l).hi < (lineD set x prev l).lo then none else (fwdD set x (lineD set x prev l).lo ls).map (lineD set x prev l :: ·)
def courseD (set : Int) (x : List Sp) (ls : List Ln) : Option (List Sp) := (fwdD set x 0 ls).map bwd
/-- all dials by which a book has a course, each with the minutes of the lines -/
def coursesL (set : Int) (fs : List Fr) (m : Int) (ls : List Ln) : List (List Sp × List Sp) := (dialsOf fs m).filterMap fun x => (courseD set x ls).map fun s => (x, s)
theorem fwdD_drop (set : Int) (x : List Sp) (prev : Int) (ls : List Ln) (k : Nat) (hk : k < ls.length) :
    fwdD set x prev (ls.drop k) = if (lineD set x prev ls[k]).hi < (lineD set x prev ls[k]).lo then none else (fwdD set x (lineD set x prev ls[k]).lo (ls.drop (k + 1))).map (lineD set x prev ls[k] :: ·) := by
  rw [List.drop_eq_getElem_cons hk]; rfl
theorem fwdD_length (set : Int) (x : List Sp) (prev : Int) (ls : List Ln) (s : List Sp) (h : fwdD set x prev ls = some s) : s.length = ls.length := by
  induction ls generalizing prev s with
  | nil => simp only [fwdD, Option.some.injEq] at h; subst h; rfl
  | cons l ls ih =>
    unfold fwdD at h
    split at h
    · cases h
    · obtain ⟨r, hr, rfl⟩ := Option.map_eq_some_iff.1 h
      simp [ih _ _ hr]
theorem bwd_length (s : List Sp) : (bwd s).length = s.length := by
  induction s with
  | nil => rfl
  | cons a s ih =>
    unfold bwd
    split
    · rename_i h; rw [h] at ih; simp at ih; simp [← ih]
    · rename_i h; rw [h] at ih; simp at ih; simp [← ih]
/-- the list behind one step from the right -/
theorem bwd_step (a t : Sp) (r u : List Sp) (h : bwd (t :: r) = u) : ∀ b u', u = b :: u' → bwd (a :: t :: r) = ⟨a.lo, min a.hi b.hi⟩ :: u := by
  intro b u' e
  unfold bwd
  rw [h, e]
theorem bwd_one (a : Sp) : bwd [a] = [a] := rfl
theorem bwd_ne (a : Sp) (s : List Sp) : ∃ b u, bwd (a :: s) = b :: u := by
  have := bwd_length (a :: s)
  cases h : bwd (a :: s) with
  | nil => rw [h] at this; simp at this
  | cons b u => exact ⟨b, u, rfl⟩

theorem bwd_start (S : List Sp) (n : Nat) (h : S.length = n) : S.take ((n : Int) - 2 + 1).toNat ++ bwd (S.drop ((n : Int) - 2 + 1).toNat) = S := by
  rcases Nat.eq_zero_or_pos n with h0 | h0
  · subst h0; rw [List.length_eq_zero_iff.1 h]; rfl
  · have e : ((n : Int) - 2 + 1).toNat = n - 1 := by omega
    rw [e]
    have hl : n - 1 < S.length := by omega
    have hd : S.drop (n - 1) = [S[n - 1]] := by
      rw [List.drop_eq_getElem_cons hl, List.drop_of_length_le (by omega)]
    rw [hd, bwd_one, ← hd, List.take_append_drop]
theorem bwd_round (S : List Sp) (j : Nat) (h : j + 1 < S.length) (X : List Sp) (hX : X = S.take (j + 1) ++ bwd (S.drop (j + 1))) (z : Sp) :
    X.set j ⟨(X.getD j z).lo, min (X.getD j z).hi (X.getD (j + 1) z).hi⟩ = S.take j ++ bwd (S.drop j) := by
  have hd : S.drop j = S[j] :: S.drop (j + 1) := List.drop_eq_getElem_cons (by omega)
  have hd2 : S.drop (j + 1) = S[j + 1] :: S.drop (j + 1 + 1) := List.drop_eq_getElem_cons h
  obtain ⟨b, u, hb⟩ := bwd_ne S[j + 1] (S.drop (j + 1 + 1))
  have hn : bwd (S.drop j) = ⟨S[j].lo, min S[j].hi b.hi⟩ :: bwd (S.drop (j + 1)) := by
    rw [hd, hd2]; exact bwd_step _ _ _ _ rfl b u hb
  have htk : S.take (j + 1) = S.take j ++ [S[j]] := List.take_succ_eq_append_getElem (by omega)
  have hl : (S.take j).length = j := by rw [List.length_take]; omega
  have e0 : X.getD j z = S[j] := by
    rw [hX, htk, List.getD_eq_getElem?_getD, List.getElem?_append_left (by simp; omega), List.getElem?_append_right (by omega), hl]; simp
  have e1 : X.getD (j + 1) z = b := by
    rw [hX, List.getD_eq_getElem?_getD, List.getElem?_append_right (by rw [List.length_take]; omega), List.length_take, hd2, hb, show j + 1 - min (j + 1) S.length = 0 from by omega]; rfl
  rw [e0, e1, hn, hX, htk, List.append_assoc, List.set_append_right _ _ (by omega), hl, Nat.sub_self]
  rfl

/-! ### fewest -/
/-- the first number from one on, of so many, for which there is something -/
def firstOf {α : Type} (g : Nat → Option α) : Nat → Nat → Option α
  | _, 0 => none
  | i, n + 1 => match g i with
    | some a => some a
    | none => firstOf g (i + 1) n
/-- the first list that will do of those that begin with a list, and go on with so many numbers from one on -/
def pickL (count : Nat) (p : List Int → Bool) : Nat → List Int → Nat → Option (List Int)
  | 0, l, _ => if p l then some l else none
  | more + 1, l, start => firstOf (fun i => pickL count p more (l ++ [(i : Int)]) (i + 1)) start (count - start)
def fewestL (count : Nat) (p : List Int → Bool) : Option (List Int) := firstOf (fun more => pickL count p more [] 0) 0 (count + 1)
theorem firstOf_some {α : Type} {g : Nat → Option α} {i n : Nat} {a : α} (h : g i = some a) : firstOf g i (n + 1) = some a := by
  unfold firstOf; rw [h]
theorem firstOf_none {α : Type} {g : Nat → Option α} {i n : Nat} (h : g i = none) : firstOf g i (n + 1) = firstOf g (i + 1) n := by
  rw [firstOf]; rw [h]
end Go.Proofs.Ytnkbcapikenbbaa
