/- Slope: what the exported functions return, and what it means (maths). -/
import Derived.Test.YtkhmcofmjjmjhaaDoorKTSn

namespace Go.Proofs.YtkhmcofmjjmjhaaDoor
set_option linter.unusedSimpArgs false
set_option linter.unusedVariables false
open Go Go.RowKit
def minB (f : Nat → Bool) : Nat := ((List.range 2000).find? f).getD 0
def maxB (f : Nat → Bool) : Nat := ((List.range 2000).reverse.find? f).getD 0
theorem find_range {f : Nat → Bool} : ∀ (n : Nat) (s k : Nat), (List.range' s n).find? f = some k → f k = true ∧ s ≤ k ∧ k < s + n ∧ ∀ j, s ≤ j → j < k → f j = false
 | 0, s, k, h => by simp at h
 | n + 1, s, k, h => by
  rw [List.range'_succ, List.find?_cons] at h
  cases hf : f s
  ·rw [hf] at h
   obtain ⟨h1, h2, h3, h4⟩ := find_range n (s + 1) k h
   refine ⟨h1, by omega, by omega, fun j hj hk => ?_⟩
   by_cases e : j = s
   ·subst e; exact hf
   ·exact h4 j (by omega) hk
  ·rw [hf] at h
   obtain rfl := Option.some.inj h
   exact ⟨hf, Nat.le_refl _, by omega, fun j h1 h2 => by omega⟩
theorem minB_is {f : Nat → Bool} {k : Nat} (hk : k < 2000) (h : f k = true) : f (minB f) = true ∧ minB f < 2000 ∧ ∀ j, j < minB f → f j = false := by
 unfold minB
 cases hf : (List.range 2000).find? f with
 | none => exact absurd h (List.find?_eq_none.1 hf k (List.mem_range.2 hk))
 | some m =>
  rw [List.range_eq_range'] at hf
  obtain ⟨h1, _, h3, h4⟩ := find_range _ _ _ hf
  exact ⟨h1, by simpa using h3, fun j hj => h4 j (by omega) hj⟩
theorem find_back {f : Nat → Bool} : ∀ (n : Nat) (k : Nat), (List.range n).reverse.find? f = some k → f k = true ∧ k < n ∧ ∀ j, k < j → j < n → f j = false
 | 0, k, h => by simp at h
 | n + 1, k, h => by
  rw [List.range_succ, List.reverse_append] at h
  simp only [List.reverse_cons, List.reverse_nil, List.nil_append, List.cons_append, List.find?_cons] at h
  cases hf : f n
  ·rw [hf] at h
   obtain ⟨h1, h2, h3⟩ := find_back n k h
   refine ⟨h1, by omega, fun j hj hk => ?_⟩
   by_cases e : j = n
   ·subst e; exact hf
   ·exact h3 j hj (by omega)
  ·rw [hf] at h
   obtain rfl := Option.some.inj h
   exact ⟨hf, by omega, fun j h1 h2 => by omega⟩
theorem maxB_is {f : Nat → Bool} {k : Nat} (hk : k < 2000) (h : f k = true) : f (maxB f) = true ∧ maxB f < 2000 ∧ ∀ j, maxB f < j → j < 2000 → f j = false := by
 unfold maxB
 cases hf : (List.range 2000).reverse.find? f with
 | none => exact absurd h (List.find?_eq_none.1 hf k (List.mem_reverse.2 (List.mem_range.2 hk)))
 | some m =>
  obtain ⟨h1, h3, h4⟩ := find_back _ _ hf
  exact ⟨h1, h3, fun j hj hk => h4 j hj hk⟩
/-- the two ends of what is so -/
structure EndP (p : Nat → Prop) (lo hi : Nat) : Prop where
 low : p lo
 high : p hi
 all : ∀ m, p m → lo ≤ m ∧ m ≤ hi
theorem EndP.unique {p : Nat → Prop} {lo hi lo' hi' : Nat} (h : EndP p lo hi) (h' : EndP p lo' hi') : lo = lo' ∧ hi = hi' := by
 have h1 := h.all _ h'.low
 have h2 := h.all _ h'.high
 have h3 := h'.all _ h.low
 have h4 := h'.all _ h.high
 omega
theorem ends_of {f : Nat → Bool} {p : Nat → Prop} (hp : ∀ m, f m = true ↔ p m) (hl : ∀ m, p m → m < 2000) (he : ∃ m, p m) : EndP p (minB f) (maxB f) := by
 obtain ⟨m, hm⟩ := he
 obtain ⟨h1, h2, h3⟩ := minB_is (hl m hm) ((hp m).2 hm)
 obtain ⟨g1, g2, g3⟩ := maxB_is (hl m hm) ((hp m).2 hm)
 refine ⟨(hp _).1 h1, (hp _).1 g1, fun k hk => ⟨?_, ?_⟩⟩
 ·refine Nat.le_of_not_lt fun hlt => ?_
  have := h3 k hlt
  rw [(hp k).2 hk] at this; cases this
 ·refine Nat.le_of_not_lt fun hlt => ?_
  have := g3 k hlt (hl k hk)
  rw [(hp k).2 hk] at this; cases this
/-- whether a book can be true -/
def rtB (b : Sb) : Bool := canF (hpsOf b) (f0 b)
/-- the loads of an hour -/
def outB (b : Sb) (h : Nat) (m : Nat) : Bool := match (hpsOf b).drop h with
 | x :: xs => ouF x xs (atF (hpsOf b) (f0 b) h) m
 | [] => false
def loH (b : Sb) (h : Nat) : Nat := minB (outB b h)
def hiH (b : Sb) (h : Nat) : Nat := maxB (outB b h)
def safB (b : Sb) (h : Nat) : Bool := decide ((hiH b h : Int) ≤ b.sl.hold)
/-- how often the slope lets go -/
def oftN (b : Sb) : Nat := match hpsOf b with
 | x :: xs => allF x xs (f0 b) 2000
 | [] => 0
def loO (b : Sb) : Nat := minB fun k => (oftN b).testBit k
def hiO (b : Sb) : Nat := maxB fun k => (oftN b).testBit k
def withoutB (b : Sb) (out : List Nat) : Sb := { b with sights := ((List.range b.sights.length).filter fun i => !out.contains i).map fun i => b.sights.getD i ⟨0, false, 0, 0⟩ }
def wroB (b : Sb) : List Nat := wroP (fun out => rtB (withoutB b out)) b.sights.length
theorem TruH.load_le : ∀ {xs : List Hp} {l c : Nat} {t : List (Nat × Bool)}, Small xs → l ≤ c → TruH xs l t → ∀ p ∈ t, p.1 ≤ c + 95 * xs.length
 | [], _, _, [], _, _, _, p, hp => absurd hp (by simp)
 | x :: xs, l, c, (m, f) :: t, hs, hl, ⟨⟨n, hn, he⟩, _, _, ht⟩, p, hp => by
  have h1 := (hs x (by simp)).1 n hn
  have h2 := (hs x (by simp)).2
  have hm : m ≤ c + 95 := by omega
  rcases List.mem_cons.1 hp with rfl | hp
  ·simp only [List.length_cons]; omega
  ·have := TruH.load_le (c := c + 95) hs.tail (by split <;> omega) ht p hp
   simp only [List.length_cons]; omega
 | [], _, _, _ :: _, _, _, h, _, _ => absurd h (by simp [TruH])
 | _ :: _, _, _, [], _, _, h, _, _ => absurd h (by simp [TruH])
theorem TrB.load_lt {b : Sb} (hb : OkB b) {t : List (Nat × Bool)} (h : TrB b t) : ∀ p ∈ t, p.1 < 1900 := fun p hp => by
 obtain ⟨l, h1, h2⟩ := (isT_iff hb).1 h
 have := TruH.load_le (small_of hb) (f0_fit hb l h1) h2 p hp
 have := hps_to hb
 omega
theorem rtB_iff {b : Sb} (hb : OkB b) : rtB b = true ↔ ∃ t, TrB b t := right_iff hb
theorem outB_iff {b : Sb} (hb : OkB b) {h : Nat} (hh : h < b.hours.length) {m : Nat} : outB b h m = true ↔ ∃ t, TrB b t ∧ (t[h]?).map (·.1) = some m := by
 have hh' : h < (hpsOf b).length := by rw [hpsOf_length]; exact hh
 rw [← outs_iff hb hh']
 unfold outB
 rw [List.drop_eq_getElem_cons hh']
theorem ends_load {b : Sb} (hb : OkB b) (hr : rtB b = true) {h : Nat} (hh : h < b.hours.length) : EndP (fun m => ∃ t, TrB b t ∧ (t[h]?).map (·.1) = some m) (loH b h) (hiH b h) := by
 refine ends_of (fun m => outB_iff hb hh) (fun m ⟨t, h1, h2⟩ => ?_) ?_
 ·cases hm : t[h]? with
  | none => rw [hm] at h2; cases h2
  | some p =>
   rw [hm] at h2
   have := h1.load_lt hb p (List.mem_of_getElem? hm)
   simp at h2; omega
 ·obtain ⟨t, ht⟩ := (rtB_iff hb).1 hr
  have : h < t.length := by rw [ht.length]; exact hh
  exact ⟨t[h].1, t, ht, by rw [List.getElem?_eq_getElem this]; rfl⟩
theorem falls_le (t : List (Nat × Bool)) : fallsN t ≤ t.length := List.countP_le_length
theorem oftN_iff {b : Sb} (hb : OkB b) {k : Nat} : (oftN b).testBit k = true ↔ ∃ t, TrB b t ∧ fallsN t = k := by
 unfold oftN
 cases hx : hpsOf b with
 | nil =>
  have := hpsOf_length b
  rw [hx] at this
  have := hb.hours
  simp at *; omega
 | cons x xs => exact often_iff hb hx
theorem ends_falls {b : Sb} (hb : OkB b) (hr : rtB b = true) : EndP (fun k => ∃ t, TrB b t ∧ fallsN t = k) (loO b) (hiO b) := by
 refine ends_of (fun m => oftN_iff hb) (fun m ⟨t, h1, h2⟩ => ?_) ?_
 ·have := falls_le t
  rw [h1.length] at this
  have := hb.hours
  omega
 ·obtain ⟨t, ht⟩ := (rtB_iff hb).1 hr
  exact ⟨_, t, ht, rfl⟩
theorem safB_iff {b : Sb} (hb : OkB b) (hr : rtB b = true) {h : Nat} (hh : h < b.hours.length) : safB b h = true ↔ ∀ t, TrB b t → ∀ p, t[h]? = some p → (p.1 : Int) ≤ b.sl.hold := by
 have he := ends_load hb hr hh
 unfold safB
 rw [decide_eq_true_eq]
 constructor
 ·intro h1 t ht p hp
  have := (he.all p.1 ⟨t, ht, by rw [hp]; rfl⟩).2
  omega
 ·intro h1
  obtain ⟨t, ht, h2⟩ := he.high
  cases hm : t[h]? with
  | none => rw [hm] at h2; cases h2
  | some p =>
   rw [hm] at h2
   have h3 := h1 t ht p hm
   have h4 : p.1 = hiH b h := by simpa using h2
   omega
/-- all truths, one after another -/
def enumH : List Hp → Nat → List (List (Nat × Bool))
 | [], _ => [[]]
 | x :: xs, l => x.brings.flatMap fun n => [false, true].flatMap fun f =>
  if (!f || decide (x.sl.hold < (loN x l n : Int))) && x.sights.all (fun s => (s.fell == f) && wB (loN x l n) s.lo s.hi) then (enumH xs (if f then 0 else loN x l n)).map ((loN x l n, f) :: ·) else []
def enumT (b : Sb) : List (List (Nat × Bool)) := (List.range (b.hi.toNat - b.lo.toNat + 1)).flatMap fun k => enumH (hpsOf b) (b.lo.toNat + k)
theorem mem_enumH : ∀ (xs : List Hp), Small xs → ∀ (l : Nat) (t : List (Nat × Bool)), t ∈ enumH xs l ↔ TruH xs l t
 | [], _, _, [] => by simp [enumH, TruH]
 | [], _, _, _ :: _ => by simp [enumH, TruH]
 | x :: xs, hs, l, t => by
  have ih := mem_enumH xs hs.tail
  unfold enumH
  simp only [List.mem_flatMap]
  constructor
  ·rintro ⟨n, hn, f, _, h⟩
   split at h
   ·rename_i hc
    obtain ⟨u, hu, rfl⟩ := List.mem_map.1 h
    simp only [Bool.and_eq_true, Bool.or_eq_true, Bool.not_eq_true', decide_eq_true_eq, List.all_eq_true, beq_iff_eq, wB_iff] at hc
    refine ⟨⟨n, hn, loN_eq hs hn⟩, fun hf => ?_, hc.2, (ih _ _).1 hu⟩
    rcases hc.1 with h1 | h1
    ·rw [hf] at h1; cases h1
    ·exact h1
   ·cases h
  ·intro h
   cases t with
   | nil => exact absurd h (by simp [TruH])
   | cons p t =>
    obtain ⟨m, f⟩ := p
    obtain ⟨⟨n, hn, he⟩, h2, h3, h4⟩ := h
    have hm : loN x l n = m := by have := loN_eq hs (l := l) hn; omega
    refine ⟨n, hn, f, by cases f <;> simp, ?_⟩
    rw [hm, if_pos, List.mem_map]
    ·exact ⟨t, (ih _ _).2 h4, rfl⟩
    ·simp only [Bool.and_eq_true, Bool.or_eq_true, Bool.not_eq_true', decide_eq_true_eq, List.all_eq_true, beq_iff_eq, wB_iff]
     refine ⟨?_, h3⟩
     cases f
     ·exact .inl rfl
     ·exact .inr (h2 rfl)
theorem mem_enumT {b : Sb} (hb : OkB b) {t : List (Nat × Bool)} : t ∈ enumT b ↔ TrB b t := by
 unfold enumT
 simp only [List.mem_flatMap, List.mem_range, mem_enumH _ (small_of hb), isT_iff hb, f0_iff hb]
 have := hb.start
 constructor
 ·rintro ⟨k, h1, h2⟩; exact ⟨_, by omega, h2⟩
 ·rintro ⟨l, h1, h2⟩; exact ⟨l - b.lo.toNat, by omega, by rw [show b.lo.toNat + (l - b.lo.toNat) = l by omega]; exact h2⟩
theorem enum_rt {b : Sb} (hb : b.ok = true) : rtB b = !(enumT b).isEmpty := by
 have hb := ok_iff.1 hb
 cases he : enumT b with
 | nil =>
  cases h : rtB b with
  | false => rfl
  | true =>
   obtain ⟨t, ht⟩ := (rtB_iff hb).1 h
   rw [← mem_enumT hb, he] at ht
   cases ht
 | cons t l => exact (rtB_iff hb).2 ⟨t, (mem_enumT hb).1 (by rw [he]; simp)⟩
def endsB (l : List Nat) (lo hi : Nat) : Bool := (l.contains lo && l.contains hi) && l.all fun m => decide (lo ≤ m) && decide (m ≤ hi)
theorem enum_ends {b : Sb} (hok : b.ok = true) {h lo hi : Nat} (hh : h < b.hours.length) (he : endsB ((enumT b).filterMap fun t => (t[h]?).map (·.1)) lo hi = true) : loH b h = lo ∧ hiH b h = hi := by
 have hb := ok_iff.1 hok
 unfold endsB at he
 simp only [Bool.and_eq_true, List.contains_iff_mem, List.mem_filterMap, List.all_eq_true, decide_eq_true_eq, mem_enumT hb] at he
 obtain ⟨⟨⟨t, h1, h2⟩, h3⟩, h4⟩ := he
 refine (ends_load hb ((rtB_iff hb).2 ⟨t, h1⟩) hh).unique ⟨⟨t, h1, h2⟩, h3, fun m ⟨t, h5, h6⟩ => h4 m ⟨t, h5, h6⟩⟩
theorem enum_falls {b : Sb} (hok : b.ok = true) {lo hi : Nat} (he : endsB ((enumT b).map fallsN) lo hi = true) : loO b = lo ∧ hiO b = hi := by
 have hb := ok_iff.1 hok
 unfold endsB at he
 simp only [Bool.and_eq_true, List.contains_iff_mem, List.mem_map, List.all_eq_true, decide_eq_true_eq, mem_enumT hb] at he
 obtain ⟨⟨⟨t, h1, h2⟩, h3⟩, h4⟩ := he
 refine (ends_falls hb ((rtB_iff hb).2 ⟨t, h1⟩)).unique ⟨⟨t, h1, h2⟩, h3, fun m ⟨t, h5, h6⟩ => h4 m ⟨t, h5, h6⟩⟩
end Go.Proofs.YtkhmcofmjjmjhaaDoor
