/- The program's own way to reckon with clocks, in plain words: frosts cut at a minute, dials, what a dial tells. No Go here. -/
import Derived.Test.YtnkbcapikenbbaaM
namespace Go.Proofs.Ytnkbcapikenbbaa
set_option linter.unusedSimpArgs false
set_option linter.unusedVariables false


/-- does a clock stand still in a minute, if its frosts begin and end when they can at the soonest? -/
def standsB (fs : List Fr) (m : Int) : Bool := fs.any fun f => decide (f.b.lo ≤ m) && decide (m < f.e.lo)
/-- what it shows in the minute m -/
def faceAt (set : Int) (fs : List Fr) : Nat → Int
  | 0 => set
  | m + 1 => if standsB fs m then faceAt set fs m else faceAt set fs m + 1
def facesL (set : Int) (fs : List Fr) (n : Nat) : List Int := (List.range n).map (faceAt set fs)
theorem facesL_snoc (set : Int) (fs : List Fr) (n : Nat) : facesL set fs (n + 1) = facesL set fs n ++ [faceAt set fs n] := by
  simp [facesL, List.range_succ]
theorem facesL_length (set : Int) (fs : List Fr) (n : Nat) : (facesL set fs n).length = n := by simp [facesL]
theorem facesL_get (set : Int) (fs : List Fr) (n k : Nat) (h : k < (facesL set fs n).length) : (facesL set fs n)[k] = faceAt set fs k := by simp [facesL]
theorem faceAt_bd (set : Int) (fs : List Fr) (m : Nat) : set ≤ faceAt set fs m ∧ faceAt set fs m ≤ set + m := by
  induction m with
  | zero => simp [faceAt]
  | succ m ih => unfold faceAt; split <;> omega
/-- a truth as the frosts of a clock of which all is known -/
def one (n : Int) : Sp := ⟨n, n⟩
def exactF (tr : List When) : List Fr := tr.map fun t => ⟨one t.lo, one t.hi⟩
/-- frosts that follow one another -/
def Ord : Int → List When → Prop
  | _, [] => True
  | ov, t :: ts => ov ≤ t.lo ∧ t.lo ≤ t.hi ∧ Ord t.hi ts
theorem ord_of (fs : List Fr) (ov : Int) (hc : chk ov fs = true) (tr : List When) (ht : InT fs tr) : Ord ov tr := by
  induction fs generalizing ov tr with
  | nil => cases tr with
    | nil => trivial
    | cons t ts => exact ht.elim
  | cons f fs ih => cases tr with
    | nil => exact ht.elim
    | cons t ts =>
      obtain ⟨⟨h1, h2, h3, h4⟩, hts⟩ := ht
      simp only [chk, okFr, nearB, minutesB, Bool.and_eq_true, decide_eq_true_eq] at hc
      obtain ⟨⟨hb, he, h5, h6⟩, hr⟩ := hc
      have hi := ih f.e.hi hr ts hts
      refine ⟨by omega, by omega, ?_⟩
      cases ts with
      | nil => trivial
      | cons u us => exact ⟨by have := hi.1; omega, hi.2⟩
theorem ord_mono {tr : List When} {a b : Int} (h : Ord b tr) (hab : a ≤ b) : Ord a tr := by
  cases tr with
  | nil => trivial
  | cons t ts => exact ⟨by have := h.1; omega, h.2⟩
/-- one more minute: the clock stood still in it, or not -/
theorem still_succ (tr : List When) (ov : Int) (h : Ord ov tr) (m : Int) : still tr (m + 1) = still tr m + (if standsB (exactF tr) m then 1 else 0) ∧ (m < ov → still tr (m + 1) = 0) ∧ (m < ov → standsB (exactF tr) m = false) := by
  induction tr generalizing ov with
  | nil => simp [still, standsB, exactF]
  | cons t ts ih =>
    obtain ⟨h1, h2, h3⟩ := h
    obtain ⟨i1, i2, i3⟩ := ih t.hi h3
    have e : standsB (exactF (t :: ts)) m = ((decide (t.lo ≤ m) && decide (m < t.hi)) || standsB (exactF ts) m) := by simp [standsB, exactF, one]
    simp only [still, e]
    by_cases c : m < t.hi
    · have j2 := i2 c
      have j3 := i3 c
      rw [j3] at i1 ⊢
      simp only [Bool.or_false, Bool.false_eq_true, if_false] at i1 ⊢
      by_cases d : t.lo ≤ m
      · simp only [d, c, decide_true, Bool.and_self, if_true]
        refine ⟨by omega, fun hh => by omega, fun hh => by omega⟩
      · simp only [d, decide_false, Bool.false_and, Bool.false_eq_true, if_false]
        refine ⟨by omega, fun hh => by omega, fun _ => trivial⟩
    · simp only [c, decide_false, Bool.and_false, Bool.false_or]
      refine ⟨by omega, fun hh => by omega, fun hh => by omega⟩
/-- the law's clock shows what the specification's does -/
theorem face_shows (set : Int) (fs : List Fr) (tr : List When) (h : Ord 0 tr) (m : Nat) : faceAt set (exactF tr) m = showsT ⟨set, fs⟩ tr m := by
  induction m with
  | zero =>
    have h0 : still tr 0 = 0 := by
      have := (still_succ tr 0 h (-1)).2.1 (by omega)
      simpa using this
    simp [faceAt, showsT, h0]
  | succ m ih =>
    have h1 := (still_succ tr 0 h (m : Int)).1
    unfold faceAt
    rw [ih]
    simp only [showsT, Int.natCast_add, Int.natCast_one]
    rw [h1]
    split <;> omega

def cutF (f : Sp) (m : Int) : Sp := if min f.lo m = min f.hi m then ⟨0, 0⟩ else ⟨min f.lo m, min f.hi m⟩
def stopD (fs : List Sp) (m : Int) : Int := match fs with
  | [] => 0
  | f :: r => ((cutF f m).hi - (cutF f m).lo) + stopD r m
def shownD (set : Int) (fs : List Sp) (m : Int) : Int := set + m - stopD fs m
def lastStep (m : Int) (f : Sp) : Int := if f = ⟨0, 0⟩ ∨ m < f.lo then m else m + (f.hi - f.lo)
def lastD (set : Int) (fs : List Sp) (r : Int) : Int := fs.foldl lastStep (r - set)
def firstD (set : Int) (fs : List Sp) (r : Int) : Int := lastD set fs (r - 1) + 1
/-- what a dial holds of its three frosts -/
def OkD (fs : List Sp) : Prop := fs.length = 3 ∧ ∀ f ∈ fs, 0 ≤ f.lo ∧ f.lo ≤ f.hi ∧ f.hi ≤ 4320
theorem stopD_drop (fs : List Sp) (m : Int) (k : Nat) (hk : k < fs.length) : stopD (fs.drop k) m = ((cutF fs[k] m).hi - (cutF fs[k] m).lo) + stopD (fs.drop (k + 1)) m := by
  rw [List.drop_eq_getElem_cons hk]; rfl
theorem cutF_bd (f : Sp) (m : Int) (h : 0 ≤ f.lo ∧ f.lo ≤ f.hi ∧ f.hi ≤ 4320) (hm : 0 ≤ m) : 0 ≤ (cutF f m).lo ∧ (cutF f m).lo ≤ (cutF f m).hi ∧ (cutF f m).hi ≤ 4320 := by
  unfold cutF; split <;> simp only <;> omega
theorem stopD_bd (fs : List Sp) (m : Int) (h : ∀ f ∈ fs, 0 ≤ f.lo ∧ f.lo ≤ f.hi ∧ f.hi ≤ 4320) (hm : 0 ≤ m) : 0 ≤ stopD fs m ∧ stopD fs m ≤ 4320 * fs.length := by
  induction fs with
  | nil => simp [stopD]
  | cons f r ih =>
    have h1 := cutF_bd f m (h f (List.mem_cons_self ..)) hm
    have h2 := ih fun g hg => h g (List.mem_cons_of_mem _ hg)
    unfold stopD
    simp only [List.length_cons]
    omega
theorem lastStep_bd (m : Int) (f : Sp) (h : 0 ≤ f.lo ∧ f.lo ≤ f.hi ∧ f.hi ≤ 4320) : m ≤ lastStep m f ∧ lastStep m f ≤ m + 4320 := by
  unfold lastStep; split <;> omega
theorem last_drop (fs : List Sp) (m : Int) (k : Nat) (hk : k < fs.length) : (fs.drop k).foldl lastStep m = (fs.drop (k + 1)).foldl lastStep (lastStep m fs[k]) := by
  rw [List.drop_eq_getElem_cons hk]; rfl
theorem last_bd (fs : List Sp) (m : Int) (h : ∀ f ∈ fs, 0 ≤ f.lo ∧ f.lo ≤ f.hi ∧ f.hi ≤ 4320) : m ≤ fs.foldl lastStep m ∧ fs.foldl lastStep m ≤ m + 4320 * fs.length := by
  induction fs generalizing m with
  | nil => simp
  | cons f r ih =>
    have h1 := lastStep_bd m f (h f (List.mem_cons_self ..))
    have h2 := ih (lastStep m f) fun g hg => h g (List.mem_cons_of_mem _ hg)
    simp only [List.foldl_cons, List.length_cons]
    omega
/-- the low and the high end of what a dial tells: 0 what it shows in a minute, 1 in which minutes it shows a reading, 2 for how many minutes before one it stood still -/
def lowD (set : Int) (fs : List Sp) (kind ask : Int) : Int := if kind = 0 then shownD set fs ask else if kind = 1 then firstD set fs ask else stopD fs ask
def highD (set : Int) (fs : List Sp) (kind ask : Int) : Int := if kind = 0 then shownD set fs ask else if kind = 1 then lastD set fs ask else stopD fs ask
def tellD (set : Int) (fs : List Sp) (kind ask : Int) (known : Sp) : Sp := ⟨max (lowD set fs kind ask) known.lo, min (highD set fs kind ask) known.hi⟩
/-- are all frosts such as stop nothing? -/
def zeroB (a b c d e f : Int) : Bool := decide (a = 0) && (decide (b = 0) && (decide (c = 0) && (decide (d = 0) && (decide (e = 0) && decide (f = 0)))))
theorem stopD_zero (f0 f1 f2 : Sp) (m : Int) (h : zeroB f0.lo f0.hi f1.lo f1.hi f2.lo f2.hi = true) : stopD [f0, f1, f2] m = 0 := by
  simp only [zeroB, Bool.and_eq_true, decide_eq_true_eq] at h
  obtain ⟨h1, h2, h3, h4, h5, h6⟩ := h
  have z : ∀ f : Sp, f.lo = 0 → f.hi = 0 → (cutF f m).hi - (cutF f m).lo = 0 := fun f h h' => by unfold cutF; rw [h, h']; simp
  simp [stopD, z f0 h1 h2, z f1 h3 h4, z f2 h5 h6]
def isZ (a b : Int) : Bool := decide (a = 0) && decide (b = 0)
end Go.Proofs.Ytnkbcapikenbbaa
