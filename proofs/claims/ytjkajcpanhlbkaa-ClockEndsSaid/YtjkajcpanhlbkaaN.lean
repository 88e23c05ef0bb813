/- The program's own way to reckon with clocks, in plain words: frosts cut at a minute, dials, what a dial tells. No Go here. -/
import Derived.Test.YtjkajcpanhlbkaaM
namespace Go.Proofs.Ytjkajcpanhlbkaa
set_option linter.unusedSimpArgs false
set_option linter.unusedVariables false

def cutF (f : Sp) (m : Int) : Sp := if min f.lo m = min f.hi m then ⟨0, 0⟩ else ⟨min f.lo m, min f.hi m⟩
def stopD (fs : List Sp) (m : Int) : Int := match fs with
  | [] => 0
  | f :: r => ((cutF f m).hi - (cutF f m).lo) + stopD r m
def shownD (set : Int) (fs : List Sp) (m : Int) : Int := set + m - stopD fs m
def lastStep (m : Int) (f : Sp) : Int := if f = ⟨0, 0⟩ ∨ m < f.lo then m else m + (f.hi - f.lo)
def lastD (set : Int) (fs : List Sp) (r : Int) : Int := fs.foldl lastStep (r - set)
def firstD (set : Int) (fs : List Sp) (r : Int) : Int := lastD set fs (r - 1) + 1
/-- what a dial holds of its three frosts -/
def OkD (fs : List Sp) : Prop := fs.length = 3 ∧ ∀ f ∈ fs, 0 ≤ f.lo ∧ f.lo ≤ f.hi ∧ f.hi ≤ 4320
theorem stopD_drop (fs : List Sp) (m : Int) (k : Nat) (hk : k < fs.length) : stopD (fs.drop k) m = ((cutF fs[k] m).hi - (cutF fs[k] m).lo) + stopD (fs.drop (k + 1)) m := by
  rw [List.drop_eq_getElem_cons hk]; rfl
theorem cutF_bd (f : Sp) (m : Int) (h : 0 ≤ f.lo ∧ f.lo ≤ f.hi ∧ f.hi ≤ 4320) (hm : 0 ≤ m) : 0 ≤ (cutF f m).lo ∧ (cutF f m).lo ≤ (cutF f m).hi ∧ (cutF f m).hi ≤ 4320 := by
  unfold cutF; split <;> simp only <;> omega
theorem stopD_bd (fs : List Sp) (m : Int) (h : ∀ f ∈ fs, 0 ≤ f.lo ∧ f.lo ≤ f.hi ∧ f.hi ≤ 4320) (hm : 0 ≤ m) : 0 ≤ stopD fs m ∧ stopD fs m ≤ 4320 * fs.length := by
  induction fs with
  | nil => simp [stopD]
  | cons f r ih =>
    have h1 := cutF_bd f m (h f (List.mem_cons_self ..)) hm
    have h2 := ih fun g hg => h g (List.mem_cons_of_mem _ hg)
    unfold stopD
    simp only [List.length_cons]
    omega
theorem lastStep_bd (m : Int) (f : Sp) (h : 0 ≤ f.lo ∧ f.lo ≤ f.hi ∧ f.hi ≤ 4320) : m ≤ lastStep m f ∧ lastStep m f ≤ m + 4320 := by
  unfold lastStep; split <;> omega
theorem last_drop (fs : List Sp) (m : Int) (k : Nat) (hk : k < fs.length) : (fs.drop k).foldl lastStep m = (fs.drop (k + 1)).foldl lastStep (lastStep m fs[k]) := by
  rw [List.drop_eq_getElem_cons hk]; rfl
theorem last_bd (fs : List Sp) (m : Int) (h : ∀ f ∈ fs, 0 ≤ f.lo ∧ f.lo ≤ f.hi ∧ f.hi ≤ 4320) : m ≤ fs.foldl lastStep m ∧ fs.foldl lastStep m ≤ m + 4320 * fs.length := by
  induction fs generalizing m with
  | nil => simp
  | cons f r ih =>
    have h1 := lastStep_bd m f (h f (List.mem_cons_self ..))
    have h2 := ih (lastStep m f) fun g hg => h g (List.mem_cons_of_mem _ hg)
    simp only [List.foldl_cons, List.length_cons]
    omega
/-- the low and the high end of what a dial tells: 0 what it shows in a minute, 1 in which minutes it shows a reading, 2 for how many minutes before one it stood still -/
def lowD (set : Int) (fs : List Sp) (kind ask : Int) : Int := if kind = 0 then shownD set fs ask else if kind = 1 then firstD set fs ask else stopD fs ask
def highD (set : Int) (fs : List Sp) (kind ask : Int) : Int := if kind = 0 then shownD set fs ask else if kind = 1 then lastD set fs ask else stopD fs ask
def tellD (set : Int) (fs : List Sp) (kind ask : Int) (known : Sp) : Sp := ⟨max (lowD set fs kind ask) known.lo, min (highD set fs kind ask) known.hi⟩
/-- are all frosts such as stop nothing? -/
def zeroB (a b c d e f : Int) : Bool := decide (a = 0) && (decide (b = 0) && (decide (c = 0) && (decide (d = 0) && (decide (e = 0) && decide (f = 0)))))
theorem stopD_zero (f0 f1 f2 : Sp) (m : Int) (h : zeroB f0.lo f0.hi f1.lo f1.hi f2.lo f2.hi = true) : stopD [f0, f1, f2] m = 0 := by
  simp only [zeroB, Bool.and_eq_true, decide_eq_true_eq] at h
  obtain ⟨h1, h2, h3, h4, h5, h6⟩ := h
  have z : ∀ f : Sp, f.lo = 0 → f.hi = 0 → (cutF f m).hi - (cutF f m).lo = 0 := fun f h h' => by unfold cutF; rw [h, h']; simp
  simp [stopD, z f0 h1 h2, z f1 h3 h4, z f2 h5 h6]
def isZ (a b : Int) : Bool := decide (a = 0) && decide (b = 0)
end Go.Proofs.Ytjkajcpanhlbkaa
