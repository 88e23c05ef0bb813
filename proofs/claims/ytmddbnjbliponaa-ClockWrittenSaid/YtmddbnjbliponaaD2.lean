/- The dials of the program and the truths of the specification: what both show. No Go here. -/
import Derived.Test.YtmddbnjbliponaaD
import Derived.Test.YtmddbnjbliponaaP6
namespace Go.Proofs.Ytmddbnjbliponaa
set_option linter.unusedSimpArgs false
set_option linter.unusedVariables false

def Rc.opt (r : Rc) : Option Sp := if r.any = true then some ⟨r.lo, r.hi⟩ else none
theorem opt_add (r : Rc) (s : Sp) : (r.add s).opt = addS r.opt s := by
  unfold Rc.add addS Rc.opt
  by_cases h : s.hi < s.lo
  · simp [h]
  · cases ha : r.any <;> simp [h]
theorem opt_fold {α : Type} (f : α → Sp) (l : List α) (r : Rc) : (l.foldl (fun r x => r.add (f x)) r).opt = (l.map f).foldl addS r.opt := by
  induction l generalizing r with
  | nil => rfl
  | cons x l ih => rw [List.foldl_cons, ih, opt_add]; rfl

/-- the least span that holds all spans of a list that are not empty -/
theorem hull_fold (l : List Sp) (acc : Option Sp) (h : Sp) (hh : l.foldl addS acc = some h) :
    (∀ s ∈ l, s.lo ≤ s.hi → h.lo ≤ s.lo ∧ s.hi ≤ h.hi) ∧ (∀ a, acc = some a → h.lo ≤ a.lo ∧ a.hi ≤ h.hi) ∧
    ((∃ a, acc = some a ∧ h.lo = a.lo) ∨ ∃ s ∈ l, s.lo ≤ s.hi ∧ h.lo = s.lo) ∧ ((∃ a, acc = some a ∧ h.hi = a.hi) ∨ ∃ s ∈ l, s.lo ≤ s.hi ∧ h.hi = s.hi) := by
  induction l generalizing acc with
  | nil =>
    simp only [List.foldl_nil] at hh
    subst hh
    exact ⟨by simp, fun a e => by cases e; omega, .inl ⟨_, rfl, rfl⟩, .inl ⟨_, rfl, rfl⟩⟩
  | cons s l ih =>
    rw [List.foldl_cons] at hh
    obtain ⟨i1, i2, i3, i4⟩ := ih _ hh
    by_cases he : s.hi < s.lo
    · have hs : addS acc s = acc := by unfold addS; rw [if_pos he]
      rw [hs] at i2 i3 i4
      refine ⟨fun t ht hle => ?_, i2, ?_, ?_⟩
      · rcases List.mem_cons.1 ht with rfl | ht
        · omega
        · exact i1 t ht hle
      · rcases i3 with h | ⟨t, ht, h⟩
        · exact .inl h
        · exact .inr ⟨t, List.mem_cons_of_mem _ ht, h⟩
      · rcases i4 with h | ⟨t, ht, h⟩
        · exact .inl h
        · exact .inr ⟨t, List.mem_cons_of_mem _ ht, h⟩
    · have hle : s.lo ≤ s.hi := by omega
      cases acc with
      | none =>
        have hs : addS none s = some s := by unfold addS; rw [if_neg he]
        rw [hs] at i2 i3 i4
        have h2 := i2 s rfl
        refine ⟨fun t ht hl => ?_, (fun a e => by cases e), ?_, ?_⟩
        · rcases List.mem_cons.1 ht with rfl | ht
          · exact h2
          · exact i1 t ht hl
        · rcases i3 with ⟨a, e, h⟩ | ⟨t, ht, h⟩
          · cases e; exact .inr ⟨s, List.mem_cons_self .., hle, h⟩
          · exact .inr ⟨t, List.mem_cons_of_mem _ ht, h⟩
        · rcases i4 with ⟨a, e, h⟩ | ⟨t, ht, h⟩
          · cases e; exact .inr ⟨s, List.mem_cons_self .., hle, h⟩
          · exact .inr ⟨t, List.mem_cons_of_mem _ ht, h⟩
      | some a =>
        rw [addS_some a s hle] at i2 i3 i4
        have h2 := i2 _ rfl
        simp only at h2
        refine ⟨fun t ht hl => ?_, (fun b e => by cases e; omega), ?_, ?_⟩
        · rcases List.mem_cons.1 ht with rfl | ht
          · omega
          · exact i1 t ht hl
        · rcases i3 with ⟨b, e, h⟩ | ⟨t, ht, h⟩
          · cases e
            simp only at h
            by_cases hm : a.lo ≤ s.lo
            · exact .inl ⟨a, rfl, by omega⟩
            · exact .inr ⟨s, List.mem_cons_self .., hle, by omega⟩
          · exact .inr ⟨t, List.mem_cons_of_mem _ ht, h⟩
        · rcases i4 with ⟨b, e, h⟩ | ⟨t, ht, h⟩
          · cases e
            simp only at h
            by_cases hm : s.hi ≤ a.hi
            · exact .inl ⟨a, rfl, by omega⟩
            · exact .inr ⟨s, List.mem_cons_self .., hle, by omega⟩
          · exact .inr ⟨t, List.mem_cons_of_mem _ ht, h⟩
theorem hull_some {l : List Sp} {h : Sp} (hh : hull l = some h) : (∀ s ∈ l, s.lo ≤ s.hi → h.lo ≤ s.lo ∧ s.hi ≤ h.hi) ∧ (∃ s ∈ l, s.lo ≤ s.hi ∧ h.lo = s.lo) ∧ (∃ s ∈ l, s.lo ≤ s.hi ∧ h.hi = s.hi) := by
  obtain ⟨h1, _, h3, h4⟩ := hull_fold l none h hh
  refine ⟨h1, ?_, ?_⟩
  · rcases h3 with ⟨a, e, _⟩ | h3
    · cases e
    · exact h3
  · rcases h4 with ⟨a, e, _⟩ | h4
    · cases e
    · exact h4
theorem fold_isSome (l : List Sp) (a : Sp) : ∃ b, l.foldl addS (some a) = some b := by
  induction l generalizing a with
  | nil => exact ⟨a, rfl⟩
  | cons s l ih =>
    rw [List.foldl_cons]
    by_cases he : s.hi < s.lo
    · have hs : addS (some a) s = some a := by unfold addS; rw [if_pos he]
      rw [hs]; exact ih a
    · rw [addS_some a s (by omega)]; exact ih _
theorem hull_isNone (l : List Sp) : hull l = none ↔ ∀ s ∈ l, s.hi < s.lo := by
  unfold hull
  induction l with
  | nil => simp
  | cons s l ih =>
    rw [List.foldl_cons]
    by_cases he : s.hi < s.lo
    · have hs : addS none s = none := by unfold addS; rw [if_pos he]
      rw [hs, ih]
      simp [he]
    · have hs : addS none s = some s := by unfold addS; rw [if_neg he]
      rw [hs]
      obtain ⟨b, hb⟩ := fold_isSome l s
      rw [hb]
      simp [he]
/-- two lists that hold the same spans, but for empty ones, have the same least span -/
theorem hull_congr {l l' : List Sp} (h : ∀ s : Sp, s.lo ≤ s.hi → (s ∈ l ↔ s ∈ l')) : hull l = hull l' := by
  cases h1 : hull l with
  | none =>
    cases h2 : hull l' with
    | none => rfl
    | some b =>
      obtain ⟨_, ⟨s, hs, hle, _⟩, _⟩ := hull_some h2
      have := (hull_isNone l).1 h1 s ((h s hle).2 hs)
      omega
  | some a =>
    cases h2 : hull l' with
    | none =>
      obtain ⟨_, ⟨s, hs, hle, _⟩, _⟩ := hull_some h1
      have := (hull_isNone l').1 h2 s ((h s hle).1 hs)
      omega
    | some b =>
      obtain ⟨a1, ⟨s, hs, hsl, hs2⟩, ⟨t, ht, htl, ht2⟩⟩ := hull_some h1
      obtain ⟨b1, ⟨u, hu, hul, hu2⟩, ⟨v, hv, hvl, hv2⟩⟩ := hull_some h2
      have e1 := b1 s ((h s hsl).1 hs) hsl
      have e2 := b1 t ((h t htl).1 ht) htl
      have e3 := a1 u ((h u hul).2 hu) hul
      have e4 := a1 v ((h v hvl).2 hv) hvl
      cases a; cases b
      simp only [Option.some.injEq, Sp.mk.injEq]
      simp only at *
      omega

theorem toldR_hull (set : Int) (XS : List (List Sp)) (kind ask : Int) (known : Sp) : (XS.foldl (fun r x => Rc.add r (tellD set x kind ask known)) Rc.zero).opt = hull (XS.map fun x => tellD set x kind ask known) := by
  rw [opt_fold]; rfl

/-- the program's dials are the truths, each frost cut at the minute -/
theorem picks_iff (fs : List Fr) (m : Int) (y : List Sp) : Picks (fs.map fun f => frostsL f m) y ↔ ∃ tr, InT fs tr ∧ y = tr.map fun t => cutF t m := by
  induction fs generalizing y with
  | nil =>
    constructor
    · intro h; exact ⟨[], trivial, h⟩
    · rintro ⟨tr, h, rfl⟩
      cases tr with
      | nil => rfl
      | cons t ts => exact h.elim
  | cons f fs ih =>
    constructor
    · rintro ⟨g, r, rfl, hg, hr⟩
      obtain ⟨b, e, hb, he, rfl⟩ := (mem_frostsL f m g).1 hg
      obtain ⟨tr, ht, rfl⟩ := (ih r).1 hr
      exact ⟨⟨b, e⟩ :: tr, ⟨⟨hb.1, hb.2, he.1, he.2⟩, ht⟩, rfl⟩
    · rintro ⟨tr, h, rfl⟩
      cases tr with
      | nil => exact h.elim
      | cons t ts =>
        obtain ⟨⟨h1, h2, h3, h4⟩, ht⟩ := h
        exact ⟨cutF t m, _, rfl, (mem_frostsL f m _).2 ⟨t.lo, t.hi, ⟨h1, h2⟩, ⟨h3, h4⟩, rfl⟩, (ih _).2 ⟨ts, ht, rfl⟩⟩
theorem mem_dials (fs : List Fr) (m : Int) (x : List Sp) : x ∈ dialsOf fs m ↔ ∃ tr, InT fs tr ∧ x = pad (tr.map fun t => cutF t m) := by
  rw [mem_dialsOf]
  constructor
  · rintro ⟨y, hy, rfl⟩
    obtain ⟨tr, ht, rfl⟩ := (picks_iff fs m y).1 hy
    exact ⟨tr, ht, rfl⟩
  · rintro ⟨tr, ht, rfl⟩
    exact ⟨_, (picks_iff fs m _).2 ⟨tr, ht, rfl⟩, rfl⟩

theorem stopD_append (a b : List Sp) (m : Int) : stopD (a ++ b) m = stopD a m + stopD b m := by
  induction a with
  | nil => simp [stopD]
  | cons f r ih => simp only [List.cons_append, stopD, ih]; omega
theorem stopD_zeros (n : Nat) (m : Int) : stopD (List.replicate n zSp) m = 0 := by
  induction n with
  | zero => rfl
  | succ n ih =>
    rw [List.replicate_succ]
    simp only [stopD, ih]
    unfold cutF zSp
    simp
theorem cut_cut (t : Sp) (m : Int) (h : 0 ≤ t.lo ∧ t.lo ≤ t.hi) (hm : 0 ≤ m) : (cutF (cutF t m) m).hi - (cutF (cutF t m) m).lo = max 0 (min m t.hi - t.lo) := by
  unfold cutF
  by_cases h1 : min t.lo m = min t.hi m
  · rw [if_pos h1]
    simp only
    split <;> simp only <;> omega
  · rw [if_neg h1]
    simp only
    split <;> simp only <;> omega
/-- a dial stood still for as long as its truth says -/
theorem stop_still (tr : List When) (m : Int) (h : ∀ t ∈ tr, 0 ≤ t.lo ∧ t.lo ≤ t.hi) (hm : 0 ≤ m) : stopD (pad (tr.map fun t => cutF t m)) m = still tr m := by
  unfold pad
  rw [stopD_append, stopD_zeros, Int.add_zero]
  induction tr with
  | nil => rfl
  | cons t ts ih =>
    have h1 := cut_cut t m (h t (List.mem_cons_self ..)) hm
    have h2 := ih fun u hu => h u (List.mem_cons_of_mem _ hu)
    simp only [List.map_cons, stopD, still] at h2 ⊢
    omega

theorem last_append (a b : List Sp) (m : Int) : (a ++ b).foldl lastStep m = b.foldl lastStep (a.foldl lastStep m) := List.foldl_append
theorem last_zeros (n : Nat) (m : Int) : (List.replicate n zSp).foldl lastStep m = m := by
  induction n generalizing m with
  | zero => rfl
  | succ n ih =>
    rw [List.replicate_succ, List.foldl_cons]
    have : lastStep m zSp = m := by unfold lastStep zSp; simp
    rw [this, ih]
theorem lastStep_cut (t : Sp) (m : Int) (h : 0 ≤ t.lo ∧ t.lo ≤ t.hi ∧ t.hi ≤ 4319) : lastStep m (cutF t 4320) = if t.lo ≤ m then m + (t.hi - t.lo) else m := by
  have e1 : min t.lo 4320 = t.lo := by omega
  have e2 : min t.hi 4320 = t.hi := by omega
  unfold cutF
  rw [e1, e2]
  by_cases h1 : t.lo = t.hi
  · rw [if_pos h1]
    unfold lastStep
    simp only [true_or, if_true]
    split <;> omega
  · rw [if_neg h1]
    unfold lastStep
    by_cases h2 : t.lo ≤ m
    · rw [if_neg (by rintro (h | h); (have := congrArg Sp.lo h; have := congrArg Sp.hi h; simp only at *; omega); (simp only at h; omega)), if_pos h2]
    · rw [if_pos (.inr (by simp only; omega)), if_neg h2]
theorem meanStep_last (tr : List When) (h : ∀ t ∈ tr, 0 ≤ t.lo ∧ t.lo ≤ t.hi ∧ t.hi ≤ 4319) (a b : Int) :
    tr.foldl meanStep ⟨a, b⟩ = ⟨(tr.map fun t => cutF t 4320).foldl lastStep (a - 1) + 1, (tr.map fun t => cutF t 4320).foldl lastStep b⟩ := by
  induction tr generalizing a b with
  | nil => simp
  | cons t ts ih =>
    have h1 := h t (List.mem_cons_self ..)
    simp only [List.map_cons, List.foldl_cons]
    rw [lastStep_cut t _ h1, lastStep_cut t _ h1]
    have hms : meanStep ⟨a, b⟩ t = ⟨if t.lo < a then a + (t.hi - t.lo) else a, if t.lo ≤ b then b + (t.hi - t.lo) else b⟩ := rfl
    rw [hms, ih (fun u hu => h u (List.mem_cons_of_mem _ hu))]
    have e1 : (if t.lo < a then a + (t.hi - t.lo) else a) - 1 = if t.lo ≤ a - 1 then a - 1 + (t.hi - t.lo) else a - 1 := by
      split <;> split <;> omega
    rw [e1]
/-- the minutes in which a dial shows a reading are those of its truth -/
theorem dial_means (set : Int) (tr : List When) (r : Int) (h : ∀ t ∈ tr, 0 ≤ t.lo ∧ t.lo ≤ t.hi ∧ t.hi ≤ 4319) :
    (⟨firstD set (pad (tr.map fun t => cutF t 4320)) r, lastD set (pad (tr.map fun t => cutF t 4320)) r⟩ : Sp) = tr.foldl meanStep ⟨r - set, r - set⟩ := by
  rw [meanStep_last tr h]
  unfold firstD lastD pad
  rw [last_append, last_append, last_zeros, last_zeros]
  have : r - 1 - set = r - set - 1 := by omega
  rw [this]
theorem last_before (tr : List Sp) (h : ∀ t ∈ tr, 0 ≤ t.lo) (m : Int) (hm : m < 0) : tr.foldl lastStep m = m := by
  induction tr with
  | nil => rfl
  | cons t ts ih =>
    rw [List.foldl_cons]
    have h1 := h t (List.mem_cons_self ..)
    have : lastStep m t = m := by unfold lastStep; rw [if_pos (.inr (by omega))]
    rw [this, ih fun u hu => h u (List.mem_cons_of_mem _ hu)]
theorem cut_nonneg (tr : List When) (m : Int) (h : ∀ t ∈ tr, 0 ≤ t.lo) (hm : 0 ≤ m) : ∀ t ∈ pad (tr.map fun t => cutF t m), 0 ≤ t.lo := by
  intro t ht
  unfold pad at ht
  rcases List.mem_append.1 ht with ht | ht
  · obtain ⟨u, hu, rfl⟩ := List.mem_map.1 ht
    have := h u hu
    unfold cutF
    split <;> simp only <;> omega
  · rw [(List.mem_replicate.1 ht).2]; simp [zSp]
/-- what a dial tells of a reading is what its truth tells, unless both tell nothing -/
theorem tell_means (set : Int) (fs : List Fr) (tr : List When) (r : Int) (h : ∀ t ∈ tr, 0 ≤ t.lo ∧ t.lo ≤ t.hi ∧ t.hi ≤ 4319) :
    tellD set (pad (tr.map fun t => cutF t 4320)) 1 r ⟨0, 4319⟩ = meansT ⟨set, fs⟩ tr r ∨
      ((tellD set (pad (tr.map fun t => cutF t 4320)) 1 r ⟨0, 4319⟩).hi < (tellD set (pad (tr.map fun t => cutF t 4320)) 1 r ⟨0, 4319⟩).lo ∧ (meansT ⟨set, fs⟩ tr r).hi < (meansT ⟨set, fs⟩ tr r).lo) := by
  have h1 := dial_means set tr r h
  have ht : tellD set (pad (tr.map fun t => cutF t 4320)) 1 r ⟨0, 4319⟩ = ⟨max (firstD set (pad (tr.map fun t => cutF t 4320)) r) 0, min (lastD set (pad (tr.map fun t => cutF t 4320)) r) 4319⟩ := by
    simp [tellD, lowD, highD]
  by_cases hr : r < set
  · right
    have hl : lastD set (pad (tr.map fun t => cutF t 4320)) r = r - set := last_before _ (cut_nonneg tr 4320 (fun t ht => (h t ht).1) (by omega)) _ (by omega)
    rw [ht]
    unfold meansT
    rw [if_pos hr]
    simp only
    omega
  · left
    rw [ht]
    unfold meansT
    rw [if_neg hr, ← h1]
    rfl
/-- what the program tells of a reading is the least span of the truths' -/
theorem told_means (set : Int) (fs : List Fr) (r : Int) (hO : OkFs fs) : (((dialsOf fs 4320).foldl (fun q x => Rc.add q (tellD set x 1 r ⟨0, 4319⟩)) Rc.zero)).opt = meansH ⟨set, fs⟩ r := by
  rw [toldR_hull]
  unfold meansH
  refine hull_congr fun s hs => ?_
  have hk : ∀ tr, InT fs tr → ∀ t ∈ tr, 0 ≤ t.lo ∧ t.lo ≤ t.hi ∧ t.hi ≤ 4319 := fun tr ht => (okTr_mem hO ((mem_truths fs tr).2 ht)).2
  constructor
  · intro h
    obtain ⟨x, hx, rfl⟩ := List.mem_map.1 h
    obtain ⟨tr, ht, rfl⟩ := (mem_dials fs 4320 x).1 hx
    rcases tell_means set fs tr r (hk tr ht) with e | ⟨e, _⟩
    · exact List.mem_map.2 ⟨tr, (mem_truths fs tr).2 ht, e.symm⟩
    · omega
  · intro h
    obtain ⟨tr, ht, rfl⟩ := List.mem_map.1 h
    have ht' := (mem_truths fs tr).1 ht
    rcases tell_means set fs tr r (hk tr ht') with e | ⟨_, e⟩
    · exact List.mem_map.2 ⟨_, (mem_dials fs 4320 _).2 ⟨tr, ht', rfl⟩, e⟩
    · omega
end Go.Proofs.Ytmddbnjbliponaa
