/- What the law's own clock shows, minute by minute, in plain words. No Go here. -/
import Derived.Test.YtjkajcpanhlbkaaM
namespace Go.Proofs.Ytjkajcpanhlbkaa
set_option linter.unusedSimpArgs false
set_option linter.unusedVariables false

/-- does a clock stand still in a minute, if its frosts begin and end when they can at the soonest? -/
def standsB (fs : List Fr) (m : Int) : Bool := fs.any fun f => decide (f.b.lo ≤ m) && decide (m < f.e.lo)
/-- what it shows in the minute m -/
def faceAt (set : Int) (fs : List Fr) : Nat → Int
  | 0 => set
  | m + 1 => if standsB fs m then faceAt set fs m else faceAt set fs m + 1
def facesL (set : Int) (fs : List Fr) (n : Nat) : List Int := (List.range n).map (faceAt set fs)
theorem facesL_snoc (set : Int) (fs : List Fr) (n : Nat) : facesL set fs (n + 1) = facesL set fs n ++ [faceAt set fs n] := by
  simp [facesL, List.range_succ]
theorem facesL_length (set : Int) (fs : List Fr) (n : Nat) : (facesL set fs n).length = n := by simp [facesL]
theorem facesL_get (set : Int) (fs : List Fr) (n k : Nat) (h : k < (facesL set fs n).length) : (facesL set fs n)[k] = faceAt set fs k := by simp [facesL]
theorem faceAt_bd (set : Int) (fs : List Fr) (m : Nat) : set ≤ faceAt set fs m ∧ faceAt set fs m ≤ set + m := by
  induction m with
  | zero => simp [faceAt]
  | succ m ih => unfold faceAt; split <;> omega
/-- a truth as the frosts of a clock of which all is known -/
def one (n : Int) : Sp := ⟨n, n⟩
def exactF (tr : List When) : List Fr := tr.map fun t => ⟨one t.lo, one t.hi⟩
/-- frosts that follow one another -/
def Ord : Int → List When → Prop
  | _, [] => True
  | ov, t :: ts => ov ≤ t.lo ∧ t.lo ≤ t.hi ∧ Ord t.hi ts
theorem ord_of (fs : List Fr) (ov : Int) (hc : chk ov fs = true) (tr : List When) (ht : InT fs tr) : Ord ov tr := by
  induction fs generalizing ov tr with
  | nil => cases tr with
    | nil => trivial
    | cons t ts => exact ht.elim
  | cons f fs ih => cases tr with
    | nil => exact ht.elim
    | cons t ts =>
      obtain ⟨⟨h1, h2, h3, h4⟩, hts⟩ := ht
      simp only [chk, okFr, nearB, minutesB, Bool.and_eq_true, decide_eq_true_eq] at hc
      obtain ⟨⟨hb, he, h5, h6⟩, hr⟩ := hc
      have hi := ih f.e.hi hr ts hts
      refine ⟨by omega, by omega, ?_⟩
      cases ts with
      | nil => trivial
      | cons u us => exact ⟨by have := hi.1; omega, hi.2⟩
theorem ord_mono {tr : List When} {a b : Int} (h : Ord b tr) (hab : a ≤ b) : Ord a tr := by
  cases tr with
  | nil => trivial
  | cons t ts => exact ⟨by have := h.1; omega, h.2⟩
/-- one more minute: the clock stood still in it, or not -/
theorem still_succ (tr : List When) (ov : Int) (h : Ord ov tr) (m : Int) : still tr (m + 1) = still tr m + (if standsB (exactF tr) m then 1 else 0) ∧ (m < ov → still tr (m + 1) = 0) ∧ (m < ov → standsB (exactF tr) m = false) := by
  induction tr generalizing ov with
  | nil => simp [still, standsB, exactF]
  | cons t ts ih =>
    obtain ⟨h1, h2, h3⟩ := h
    obtain ⟨i1, i2, i3⟩ := ih t.hi h3
    have e : standsB (exactF (t :: ts)) m = ((decide (t.lo ≤ m) && decide (m < t.hi)) || standsB (exactF ts) m) := by simp [standsB, exactF, one]
    simp only [still, e]
    by_cases c : m < t.hi
    · have j2 := i2 c
      have j3 := i3 c
      rw [j3] at i1 ⊢
      simp only [Bool.or_false, Bool.false_eq_true, if_false] at i1 ⊢
      by_cases d : t.lo ≤ m
      · simp only [d, c, decide_true, Bool.and_self, if_true]
        refine ⟨by omega, fun hh => by omega, fun hh => by omega⟩
      · simp only [d, decide_false, Bool.false_and, Bool.false_eq_true, if_false]
        refine ⟨by omega, fun hh => by omega, fun _ => trivial⟩
    · simp only [c, decide_false, Bool.and_false, Bool.false_or]
      refine ⟨by omega, fun hh => by omega, fun hh => by omega⟩
/-- the law's clock shows what the specification's does -/
theorem face_shows (set : Int) (fs : List Fr) (tr : List When) (h : Ord 0 tr) (m : Nat) : faceAt set (exactF tr) m = showsT ⟨set, fs⟩ tr m := by
  induction m with
  | zero =>
    have h0 : still tr 0 = 0 := by
      have := (still_succ tr 0 h (-1)).2.1 (by omega)
      simpa using this
    simp [faceAt, showsT, h0]
  | succ m ih =>
    have h1 := (still_succ tr 0 h (m : Int)).1
    unfold faceAt
    rw [ih]
    simp only [showsT, Int.natCast_add, Int.natCast_one]
    rw [h1]
    split <;> omega
end Go.Proofs.Ytjkajcpanhlbkaa
