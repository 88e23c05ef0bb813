/- The layer of clocks in plain words: clocks, truths, readings, courses; what each function is to return. No Go here. -/
import Init
namespace Go.Proofs.Ytnkbcapikenbbaa
set_option linter.unusedSimpArgs false
set_option linter.unusedVariables false

structure Sp where
  lo : Int
  hi : Int
  deriving DecidableEq, Repr
structure Fr where
  b : Sp
  e : Sp
  deriving DecidableEq, Repr
structure Ck where
  set : Int
  frs : List Fr
structure Ln where
  r : Int
  k : Sp
  deriving DecidableEq, Repr

def Sp.void (s : Sp) : Bool := decide (s.hi < s.lo)
def Sp.common (a b : Sp) : Sp := ⟨max a.lo b.lo, min a.hi b.hi⟩
def minutesB (s : Sp) : Bool := decide (0 ≤ s.lo) && (decide (s.lo ≤ s.hi) && decide (s.hi ≤ 4319))
def nearB (s : Sp) : Bool := minutesB s && decide (s.hi - s.lo ≤ 3)
def okFr (ov : Int) (f : Fr) : Bool := nearB f.b && (nearB f.e && (decide (ov ≤ f.b.lo) && decide (f.b.hi ≤ f.e.lo)))
def chk : Int → List Fr → Bool
  | _, [] => true
  | ov, f :: fs => okFr ov f && chk f.e.hi fs
def Ck.ok (c : Ck) : Bool := decide (0 ≤ c.set) && (decide (c.set ≤ 4319) && (decide (c.frs.length ≤ 3) && chk 0 c.frs))
def checkE (c : Ck) : Int := if c.ok then 0 else 10
def isReadingB (n : Int) : Bool := decide (0 ≤ n) && decide (n ≤ 8638)
def minuteB (n : Int) : Bool := decide (0 ≤ n) && decide (n ≤ 4319)
def lineB (l : Ln) : Bool := isReadingB l.r && minutesB l.k
def bookB (l : List Ln) : Bool := decide (l.length ≤ 6) && l.all lineB

/-- all numbers of a span -/
def Sp.list (s : Sp) : List Int := (List.range (s.hi - s.lo + 1).toNat).map fun (i : Nat) => s.lo + (i : Int)
/-- when a frost began, and when it was over -/
abbrev When := Sp
def truths : List Fr → List (List When)
  | [] => [[]]
  | f :: fs => f.b.list.flatMap fun b => f.e.list.flatMap fun e => (truths fs).map fun r => ⟨b, e⟩ :: r
/-- what the frosts of a valid clock are -/
def OkFs (fs : List Fr) : Prop := fs.length ≤ 3 ∧ ∀ f ∈ fs, 0 ≤ f.b.lo ∧ f.b.lo ≤ f.b.hi ∧ f.b.hi - f.b.lo ≤ 3 ∧ f.b.hi ≤ f.e.lo ∧ f.e.lo ≤ f.e.hi ∧ f.e.hi - f.e.lo ≤ 3 ∧ f.e.hi ≤ 4319
theorem list_length (s : Sp) : s.list.length = (s.hi - s.lo + 1).toNat := by simp [Sp.list]
theorem list_at (s : Sp) (j : Nat) (h : j < s.list.length) : s.list[j] = s.lo + j := by simp [Sp.list]
theorem flatMap_length_le {α β : Type} (l : List α) (g : α → List β) (n : Nat) (h : ∀ x ∈ l, (g x).length ≤ n) : (l.flatMap g).length ≤ l.length * n := by
  induction l with
  | nil => simp
  | cons x l ih =>
    have h1 := h x (List.mem_cons_self ..)
    have h2 := ih fun y hy => h y (List.mem_cons_of_mem _ hy)
    simp only [List.flatMap_cons, List.length_append, List.length_cons, Nat.add_mul, Nat.one_mul]
    omega
theorem truths_length (fs : List Fr) (h : ∀ f ∈ fs, 0 ≤ f.b.lo ∧ f.b.lo ≤ f.b.hi ∧ f.b.hi - f.b.lo ≤ 3 ∧ f.b.hi ≤ f.e.lo ∧ f.e.lo ≤ f.e.hi ∧ f.e.hi - f.e.lo ≤ 3 ∧ f.e.hi ≤ 4319) : (truths fs).length ≤ 16 ^ fs.length := by
  induction fs with
  | nil => simp [truths]
  | cons f fs ih =>
    have h1 := ih fun y hy => h y (List.mem_cons_of_mem _ hy)
    obtain ⟨_, _, h2, _, _, h3, _⟩ := h f (List.mem_cons_self ..)
    have hb : f.b.list.length ≤ 4 := by rw [list_length]; omega
    have he : f.e.list.length ≤ 4 := by rw [list_length]; omega
    have e1 := flatMap_length_le f.b.list (fun b => f.e.list.flatMap fun e => (truths fs).map fun r => ⟨b, e⟩ :: r) (4 * 16 ^ fs.length) fun b _ =>
      Nat.le_trans (flatMap_length_le f.e.list _ (16 ^ fs.length) fun e _ => by simpa using h1) (Nat.mul_le_mul_right _ he)
    have e2 := Nat.mul_le_mul_right (4 * 16 ^ fs.length) hb
    simp only [List.length_cons, Nat.pow_succ]
    show (truths (f :: fs)).length ≤ _
    unfold truths
    omega
theorem truths_small (fs : List Fr) (h : OkFs fs) (k : Nat) : (truths (fs.drop k)).length ≤ 4096 := by
  have h1 := truths_length (fs.drop k) fun f hf => h.2 f (List.mem_of_mem_drop hf)
  have h2 : (fs.drop k).length ≤ 3 := by rw [List.length_drop]; have := h.1; omega
  exact Nat.le_trans h1 (Nat.le_trans (Nat.pow_le_pow_right (by omega) h2) (by decide))
/-- when all frosts truly were -/
def InT : List Fr → List When → Prop
  | [], [] => True
  | f :: fs, t :: ts => (f.b.lo ≤ t.lo ∧ t.lo ≤ f.b.hi ∧ f.e.lo ≤ t.hi ∧ t.hi ≤ f.e.hi) ∧ InT fs ts
  | _, _ => False
theorem mem_list (s : Sp) (x : Int) : x ∈ s.list ↔ s.lo ≤ x ∧ x ≤ s.hi := by
  unfold Sp.list
  rw [List.mem_map]
  constructor
  · rintro ⟨i, hi, rfl⟩; rw [List.mem_range] at hi; omega
  · rintro ⟨h1, h2⟩; exact ⟨(x - s.lo).toNat, by rw [List.mem_range]; omega, by omega⟩
theorem mem_truths : ∀ (fs : List Fr) (tr : List When), tr ∈ truths fs ↔ InT fs tr
  | [], [] => by simp [truths, InT]
  | [], t :: ts => by simp [truths, InT]
  | f :: fs, [] => by simp [truths, InT]
  | f :: fs, t :: ts => by
    unfold truths InT
    simp only [List.mem_flatMap, List.mem_map, mem_list]
    constructor
    · rintro ⟨b, hb, e, he, r, hr, h⟩
      simp only [List.cons.injEq] at h
      obtain ⟨rfl, rfl⟩ := h
      exact ⟨⟨hb.1, hb.2, he.1, he.2⟩, (mem_truths fs r).1 hr⟩
    · rintro ⟨⟨h1, h2, h3, h4⟩, h⟩
      exact ⟨t.lo, ⟨h1, h2⟩, t.hi, ⟨h3, h4⟩, ts, (mem_truths fs ts).2 h, rfl⟩
theorem inT_length : ∀ (fs : List Fr) (tr : List When), InT fs tr → tr.length = fs.length
  | [], [], _ => rfl
  | [], _ :: _, h => h.elim
  | _ :: _, [], h => h.elim
  | f :: fs, t :: ts, h => by simp [inT_length fs ts h.2]
def still (tr : List When) (m : Int) : Int := match tr with
  | [] => 0
  | t :: ts => max 0 (min m t.hi - t.lo) + still ts m
def showsT (c : Ck) (tr : List When) (m : Int) : Int := c.set + m - still tr m
def meanStep (s : Sp) (t : When) : Sp := ⟨if t.lo < s.lo then s.lo + (t.hi - t.lo) else s.lo, if t.lo ≤ s.hi then s.hi + (t.hi - t.lo) else s.hi⟩
def meansT (c : Ck) (tr : List When) (r : Int) : Sp :=
  if r < c.set then ⟨1, 0⟩ else (tr.foldl meanStep ⟨r - c.set, r - c.set⟩).common ⟨0, 4319⟩

/-- what holds of each truth of a valid clock -/
def OkTr (tr : List When) : Prop := tr.length ≤ 3 ∧ ∀ t ∈ tr, 0 ≤ t.lo ∧ t.lo ≤ t.hi ∧ t.hi ≤ 4319
theorem okTr_of : ∀ (fs : List Fr) (tr : List When), InT fs tr → (∀ f ∈ fs, 0 ≤ f.b.lo ∧ f.b.lo ≤ f.b.hi ∧ f.b.hi - f.b.lo ≤ 3 ∧ f.b.hi ≤ f.e.lo ∧ f.e.lo ≤ f.e.hi ∧ f.e.hi - f.e.lo ≤ 3 ∧ f.e.hi ≤ 4319) → ∀ t ∈ tr, 0 ≤ t.lo ∧ t.lo ≤ t.hi ∧ t.hi ≤ 4319
  | [], [], _, _ => fun t ht => by simp at ht
  | [], _ :: _, h, _ => h.elim
  | _ :: _, [], h, _ => h.elim
  | f :: fs, t :: ts, h, ho => fun u hu => by
    have h1 := ho f (List.mem_cons_self ..)
    obtain ⟨⟨a1, a2, a3, a4⟩, hr⟩ := h
    rcases List.mem_cons.1 hu with rfl | hu
    · omega
    · exact okTr_of fs ts hr (fun f hf => ho f (List.mem_cons_of_mem _ hf)) u hu
theorem okTr_mem {fs : List Fr} (ho : OkFs fs) {tr : List When} (h : tr ∈ truths fs) : OkTr tr :=
  ⟨by rw [inT_length fs tr ((mem_truths fs tr).1 h)]; exact ho.1, okTr_of fs tr ((mem_truths fs tr).1 h) ho.2⟩
theorem still_drop (tr : List When) (m : Int) (k : Nat) (hk : k < tr.length) : still (tr.drop k) m = max 0 (min m tr[k].hi - tr[k].lo) + still (tr.drop (k + 1)) m := by
  rw [List.drop_eq_getElem_cons hk]; rfl
theorem still_nonneg (tr : List When) (m : Int) : 0 ≤ still tr m := by
  induction tr with
  | nil => simp [still]
  | cons t r ih => unfold still; omega
theorem still_le (tr : List When) (m : Int) (h : ∀ t ∈ tr, 0 ≤ t.lo ∧ t.lo ≤ t.hi ∧ t.hi ≤ 4319) : still tr m ≤ 4319 * tr.length := by
  induction tr with
  | nil => simp [still]
  | cons t r ih =>
    have h1 := ih fun t ht => h t (List.mem_cons_of_mem _ ht)
    have h2 := h t (List.mem_cons_self ..)
    unfold still
    simp only [List.length_cons]
    omega

/-- the least span that holds all spans that are not void -/
def addS (acc : Option Sp) (s : Sp) : Option Sp := if s.hi < s.lo then acc else match acc with
  | none => some s
  | some a => some ⟨min a.lo s.lo, max a.hi s.hi⟩
def hull (l : List Sp) : Option Sp := l.foldl addS none

theorem hull_cons (s : Sp) (l : List Sp) (h : s.lo ≤ s.hi) : hull (s :: l) = l.foldl addS (some s) := by
  unfold hull
  rw [List.foldl_cons]
  unfold addS
  rw [if_neg (by omega)]
theorem addS_some (a s : Sp) (h : s.lo ≤ s.hi) : addS (some a) s = some ⟨min a.lo s.lo, max a.hi s.hi⟩ := by
  unfold addS; rw [if_neg (by omega)]
def zeroSp : Sp := ⟨0, 0⟩
def askE (c : Ck) (q : Bool) : Int := if c.ok then (if q then 0 else 11) else 10
def showS (c : Ck) (m : Int) (tr : List When) : Sp := ⟨showsT c tr m, showsT c tr m⟩
def showsH (c : Ck) (m : Int) : Option Sp := hull ((truths c.frs).map (showS c m))
def showsR (c : Ck) (m : Int) : Sp × Int := if askE c (minuteB m) = 0 then ((showsH c m).getD zeroSp, 0) else (zeroSp, askE c (minuteB m))
def meansH (c : Ck) (r : Int) : Option Sp := hull ((truths c.frs).map fun tr => meansT c tr r)
def orNone (h : Option Sp) : Sp × Int := match h with
  | none => (zeroSp, 4)
  | some s => (s, 0)
def meansR (c : Ck) (r : Int) : Sp × Int := if askE c (isReadingB r) = 0 then orNone (meansH c r) else (zeroSp, askE c (isReadingB r))
def passT (c : Ck) (a z : Int) (tr : List When) : Sp :=
  if (meansT c tr a).void || (meansT c tr z).void || decide ((meansT c tr z).hi < (meansT c tr a).lo) then ⟨1, 0⟩
  else ⟨max 0 ((meansT c tr z).lo - (meansT c tr a).hi), (meansT c tr z).hi - (meansT c tr a).lo⟩
def passedH (c : Ck) (a z : Int) : Option Sp := hull ((truths c.frs).map (passT c a z))
def passedR (c : Ck) (a z : Int) : Sp × Int := if askE c (isReadingB a && isReadingB z) = 0 then orNone (passedH c a z) else (zeroSp, askE c (isReadingB a && isReadingB z))

/-! ### books -/
def fwdT (c : Ck) (tr : List When) : Int → List Ln → Option (List Sp)
  | _, [] => some []
  | prev, l :: ls =>
    if ((meansT c tr l.r).common l.k).hi < max ((meansT c tr l.r).common l.k).lo prev then none
    else (fwdT c tr (max ((meansT c tr l.r).common l.k).lo prev) ls).map (⟨max ((meansT c tr l.r).common l.k).lo prev, ((meansT c tr l.r).common l.k).hi⟩ :: ·)
def bwd : List Sp → List Sp
  | [] => []
  | s :: r => match bwd r with
    | [] => [s]
    | t :: r' => ⟨s.lo, min s.hi t.hi⟩ :: t :: r'
def courseT (c : Ck) (book : List Ln) (tr : List When) : Option (List Sp) := (fwdT c tr 0 book).map bwd
def rightB (c : Ck) (book : List Ln) : Bool := (truths c.frs).any fun tr => (courseT c book tr).isSome
def addL (acc l : Option (List Sp)) : Option (List Sp) := match l with
  | none => acc
  | some l => match acc with
    | none => some l
    | some a => some (List.zipWith (fun x s => ⟨min x.lo s.lo, max x.hi s.hi⟩) a l)
def timesH (c : Ck) (book : List Ln) : Option (List Sp) := ((truths c.frs).map (courseT c book)).foldl addL none
def stillS (tr : List When) (m : Int) : Sp := ⟨still tr m, still tr m⟩
def stoppedH (c : Ck) (book : List Ln) : Option Sp := hull (((truths c.frs).filter fun tr => (courseT c book tr).isSome).map fun tr => stillS tr 4320)
def rightR (c : Ck) (book : List Ln) : Bool × Int := if askE c (bookB book) = 0 then (rightB c book, 0) else (false, askE c (bookB book))
def timesR (c : Ck) (book : List Ln) : List Sp × Int := if askE c (bookB book) = 0 then (match timesH c book with | none => ([], 12) | some l => (l, 0)) else ([], askE c (bookB book))
def stoppedR (c : Ck) (book : List Ln) : Sp × Int := if askE c (bookB book) = 0 then (match stoppedH c book with | none => (zeroSp, 12) | some s => (s, 0)) else (zeroSp, askE c (bookB book))
/-- a book without the lines of a set -/
def without (book : List Ln) (keep : Nat → Bool) : List Ln := (book.zipIdx.filter fun p => keep p.2).map (·.1)

/-! ### what clavendierref00 reckons -/
def nthI (l : List Int) (n : Int) : Int := if l.length = 0 then 0 else l.getD (n % l.length).toNat 0
def atI (l : List Int) (n : Int) : Int := match l with
  | [] => -1
  | x :: r => if x = n then 0 else if atI r n < 0 then -1 else atI r n + 1
def lessB : List Int → List Int → Bool
  | [], [] => false
  | [], _ :: _ => true
  | _ :: _, [] => false
  | x :: a, y :: b => if x < y then true else if y < x then false else lessB a b
def hasB (set n : Nat) : Bool := set / 2 ^ n % 2 == 1
def onesL (set : Nat) (below : Nat) : List Int := ((List.range below).filter fun n => hasB set n).map fun (n : Nat) => (n : Int)

def wrongStep (c : Ck) (book : List Ln) (best : List Int) (set : Nat) : List Int :=
  if ((onesL set book.length).length < best.length || ((onesL set book.length).length == best.length && lessB (onesL set book.length) best)) && rightB c (without book fun i => !hasB set i) then onesL set book.length else best
def wrongL (c : Ck) (book : List Ln) : List Int := (List.range (2 ^ book.length)).foldl (wrongStep c book) (onesL (2 ^ book.length - 1) book.length)
def wrongR (c : Ck) (book : List Ln) : List Int × Int := if askE c (bookB book) = 0 then (wrongL c book, 0) else ([], askE c (bookB book))
def beforeR (c : Ck) (r : Int) (d : Ck) (o : Int) : Int × Int :=
  if c.ok then (if askE d (isReadingB r && isReadingB o) = 0 then (match meansH c r, meansH d o with
    | some a, some z => if a.hi < z.lo then (2, 0) else if a.lo < z.hi then (1, 0) else (0, 0)
    | _, _ => (0, 4)) else (0, askE d (isReadingB r && isReadingB o))) else (0, 10)
end Go.Proofs.Ytnkbcapikenbbaa
