/- Slope: what the chapter's words tell of hours, from the last one on (maths). -/
import Derived.Test.YtkhmcofmjjmjhaaDoorKLSo

namespace Go.Proofs.YtkhmcofmjjmjhaaDoor
set_option linter.unusedSimpArgs false
set_option linter.unusedVariables false
open Go Go.RowKit
/-- whether a load fits the sights of an hour, if the slope lets go, or does not -/
def fiB (x : Hp) (m : Nat) (f : Bool) : Bool := (x.sights.all fun s => (s.fell == f) && wB m s.lo s.hi) && (!f || decide (x.sl.hold < (m : Int)))
def widO : Option (Nat × Nat) → Nat × Nat → Option (Nat × Nat)
 | none, p => some p
 | some q, p => some (min q.1 p.1, max q.2 p.2)
def stepA (x : Hp) (G : Nat → Option (Nat × Nat)) (acc : Option (Nat × Nat)) (m : Nat) : Option (Nat × Nat) := if fiB x m false then (match G m with | some p => widO acc p | none => acc) else acc
def stepB (x : Hp) (G : Nat → Option (Nat × Nat)) (acc : Option (Nat × Nat)) (m : Nat) : Option (Nat × Nat) := if fiB x m true then (match G 0 with | some p => widO acc (p.1 + 1, p.2 + 1) | none => acc) else acc
def stepG (x : Hp) (G : Nat → Option (Nat × Nat)) (acc : Option (Nat × Nat)) (m : Nat) : Option (Nat × Nat) := stepB x G (stepA x G acc m) m
/-- how often the slope lets go in the hours, at least and at most, if so much was left before them -/
def goalP : List Hp → Nat → Option (Nat × Nat)
 | [], _ => some (0, 0)
 | x :: xs, l => (x.brings.map (loN x l)).foldl (stepG x (goalP xs)) none
def OptE (o : Option (Nat × Nat)) (p : Nat → Prop) : Prop := match o with
 | none => ∀ k, ¬ p k
 | some q => EndP p q.1 q.2
theorem OptE.congr {o : Option (Nat × Nat)} {p q : Nat → Prop} (h : OptE o p) (e : ∀ k, p k ↔ q k) : OptE o q := by
 have : p = q := funext fun k => propext (e k); exact this ▸ h
theorem optE_wid {o : Option (Nat × Nat)} {p q : Nat → Prop} {a b : Nat} (h : OptE o p) (h2 : EndP q a b) : OptE (widO o (a, b)) fun k => p k ∨ q k := by
 cases o with
 | none => exact ⟨.inr h2.low, .inr h2.high, fun m hm => hm.elim (fun hp => absurd hp (h m)) (h2.all m)⟩
 | some r =>
  have h : EndP p r.1 r.2 := h; refine ⟨?_, ?_, fun m hm => ?_⟩
  ·show (p (min r.1 a) ∨ q (min r.1 a))
   rcases Nat.le_total r.1 a with e | e
   ·rw [Nat.min_eq_left e]; exact .inl h.low
   ·rw [Nat.min_eq_right e]; exact .inr h2.low
  ·show (p (max r.2 b) ∨ q (max r.2 b))
   rcases Nat.le_total r.2 b with e | e
   ·rw [Nat.max_eq_right e]; exact .inr h2.high
   ·rw [Nat.max_eq_left e]; exact .inl h.high
  ·show (min r.1 a ≤ m ∧ m ≤ max r.2 b)
   rcases hm with hm | hm
   ·have := h.all m hm; omega
   ·have := h2.all m hm; omega
theorem optE_A {x : Hp} {G : Nat → Option (Nat × Nat)} {P : Nat → Nat → Prop} (hG : ∀ l, OptE (G l) (P l)) {o : Option (Nat × Nat)} {p : Nat → Prop} (h : OptE o p) (m : Nat) : OptE (stepA x G o m) fun k => p k ∨ (fiB x m false = true ∧ P m k) := by
 unfold stepA
 by_cases hf : fiB x m false = true
 ·rw [if_pos hf]; have hg := hG m
  cases hm : G m with
  | none =>
   rw [hm] at hg; exact h.congr fun k => ⟨.inl, fun e => e.elim id fun e => absurd e.2 (hg k)⟩
  | some q =>
   rw [hm] at hg; exact (optE_wid h hg).congr fun k => by rw [and_iff_right hf]
 ·rw [if_neg hf]; exact h.congr fun k => ⟨.inl, fun e => e.elim id fun e => absurd e.1 hf⟩
theorem EndP.succ {p : Nat → Prop} {a b : Nat} (h : EndP p a b) : EndP (fun k => ∃ j, p j ∧ k = j + 1) (a + 1) (b + 1) :=
 ⟨⟨a, h.low, rfl⟩, ⟨b, h.high, rfl⟩, fun m ⟨j, hj, e⟩ => by have := h.all j hj; omega⟩
theorem optE_B {x : Hp} {G : Nat → Option (Nat × Nat)} {P : Nat → Nat → Prop} (hG : ∀ l, OptE (G l) (P l)) {o : Option (Nat × Nat)} {p : Nat → Prop} (h : OptE o p) (m : Nat) : OptE (stepB x G o m) fun k => p k ∨ (fiB x m true = true ∧ ∃ j, P 0 j ∧ k = j + 1) := by
 unfold stepB
 by_cases hf : fiB x m true = true
 ·rw [if_pos hf]; have hg := hG 0
  cases hm : G 0 with
  | none =>
   rw [hm] at hg; exact h.congr fun k => ⟨.inl, fun e => e.elim id fun ⟨_, j, e, _⟩ => absurd e (hg j)⟩
  | some q =>
   rw [hm] at hg; exact (optE_wid h (EndP.succ hg)).congr fun k => by rw [and_iff_right hf]
 ·rw [if_neg hf]; exact h.congr fun k => ⟨.inl, fun e => e.elim id fun e => absurd e.1 hf⟩
/-- what one load adds -/
def GoQ (x : Hp) (P : Nat → Nat → Prop) (m k : Nat) : Prop := (fiB x m false = true ∧ P m k) ∨ (fiB x m true = true ∧ ∃ j, P 0 j ∧ k = j + 1)
theorem optE_fold {x : Hp} {G : Nat → Option (Nat × Nat)} {P : Nat → Nat → Prop} (hG : ∀ l, OptE (G l) (P l)) : ∀ (L : List Nat) (o : Option (Nat × Nat)) (p : Nat → Prop), OptE o p → OptE (L.foldl (stepG x G) o) fun k => p k ∨ ∃ m ∈ L, GoQ x P m k
 | [], o, p, h => h.congr fun k => ⟨.inl, fun e => e.elim id fun ⟨_, h, _⟩ => absurd h (by simp)⟩
 | m :: L, o, p, h => by
  rw [List.foldl_cons]; refine (optE_fold hG L _ _ (optE_B hG (optE_A hG h m) m)).congr fun k => ?_
  unfold GoQ
  simp only [List.mem_cons, exists_eq_or_imp, or_assoc]
theorem fiB_iff {x : Hp} {m : Nat} {f : Bool} : fiB x m f = true ↔ (f = true → x.sl.hold < (m : Int)) ∧ ∀ s ∈ x.sights, s.fell = f ∧ s.lo ≤ (m : Int) ∧ (m : Int) ≤ s.hi := by
 unfold fiB
 simp only [Bool.and_eq_true, List.all_eq_true, beq_iff_eq, wB_iff, Bool.or_eq_true, Bool.not_eq_true', decide_eq_true_eq]
 constructor
 ·rintro ⟨h1, h2⟩; refine ⟨fun e => ?_, h1⟩
  rcases h2 with h2 | h2
  ·rw [e] at h2; cases h2
  ·exact h2
 ·rintro ⟨h1, h2⟩; refine ⟨h2, ?_⟩
  cases f
  ·exact .inl rfl
  ·exact .inr (h1 rfl)
theorem truH_cons {x : Hp} {xs : List Hp} {l : Nat} (hs : Small (x :: xs)) {m : Nat} {f : Bool} {t : List (Nat × Bool)} : TruH (x :: xs) l ((m, f) :: t) ↔ m ∈ x.brings.map (loN x l) ∧ fiB x m f = true ∧ TruH xs (if f then 0 else m) t := by
 show (_ ∧ _ ∧ _ ∧ _) ↔ _
 rw [fiB_iff, List.mem_map]
 constructor
 ·rintro ⟨⟨n, hn, e⟩, h2, h3, h4⟩; exact ⟨⟨n, hn, by have := loN_eq hs (l := l) hn; omega⟩, ⟨h2, h3⟩, h4⟩
 ·rintro ⟨⟨n, hn, e⟩, ⟨h2, h3⟩, h4⟩; exact ⟨⟨n, hn, by have := loN_eq hs (l := l) hn; omega⟩, h2, h3, h4⟩
theorem goalP_is : ∀ (xs : List Hp), Small xs → ∀ l, OptE (goalP xs l) fun k => ∃ t, TruH xs l t ∧ fallsN t = k
 | [], _, l => ⟨⟨[], trivial, rfl⟩, ⟨[], trivial, rfl⟩, fun k ⟨t, h, e⟩ => by
     cases t with
     | nil => have : k = 0 := e.symm; omega
     | cons _ _ => exact absurd h (by simp [TruH])⟩
 | x :: xs, hs, l => by
  unfold goalP
  refine (optE_fold (fun l => goalP_is xs hs.tail l) _ none (fun _ => False) (fun _ => id)).congr fun k => ?_; rw [false_or]
  constructor
  ·rintro ⟨m, hm, ⟨hf, t, ht, e⟩ | ⟨hf, j, ⟨t, ht, e⟩, e2⟩⟩
   ·exact ⟨(m, false) :: t, (truH_cons hs).2 ⟨hm, hf, ht⟩, by simpa [fallsN] using e⟩
   ·exact ⟨(m, true) :: t, (truH_cons hs).2 ⟨hm, hf, ht⟩, by rw [e2, ← e]; simp [fallsN]⟩
  ·rintro ⟨t, ht, e⟩
   cases t with
   | nil => exact absurd ht (by simp [TruH])
   | cons p t =>
    obtain ⟨m, f⟩ := p; obtain ⟨h1, h2, h3⟩ := (truH_cons hs).1 ht; refine ⟨m, h1, ?_⟩
    cases f
    ·exact .inl ⟨h2, t, h3, by simpa [fallsN] using e⟩
    ·exact .inr ⟨h2, _, ⟨t, h3, rfl⟩, by rw [← e]; simp [fallsN]⟩
theorem goalP_some {xs : List Hp} (hs : Small xs) {l : Nat} : (goalP xs l).isSome = true ↔ ∃ t, TruH xs l t := by
 have h := goalP_is xs hs l
 cases hg : goalP xs l with
 | none =>
  rw [hg] at h; exact ⟨fun e => (by cases e), fun ⟨t, ht⟩ => absurd ⟨t, ht, rfl⟩ (h (fallsN t))⟩
 | some q =>
  rw [hg] at h; obtain ⟨t, ht, _⟩ := h.low; exact ⟨fun _ => ⟨t, ht⟩, fun _ => rfl⟩
/-- the loads of an hour, and what is left behind it, if what follows can be -/
def styR (x : Hp) (xs : List Hp) (m : Nat) : Bool := fiB x m false && (goalP xs m).isSome
def flnR (x : Hp) (xs : List Hp) (m : Nat) : Bool := fiB x m true && (goalP xs 0).isSome
def updR (x : Hp) (xs : List Hp) (g : Nat → Bool) (m : Nat) : Nat → Bool := fun l => (g l || (styR x xs m && decide (l = m))) || (flnR x xs m && decide (l = 0))
def spR (x : Hp) (xs : List Hp) (s : Int × Int) (m : Nat) : Int × Int := if styR x xs m || flnR x xs m then (min s.1 m, max s.2 m) else s
/-- all loads that the hour can have, of what can be left below a number -/
def allR (x : Hp) (f : Nat → Bool) (n : Nat) : List Nat := ((List.range n).filter f).flatMap fun l => x.brings.map (loN x l)
def nxR (x : Hp) (xs : List Hp) (f : Nat → Bool) : Nat → Bool := (allR x f 1500).foldl (updR x xs) fun _ => false
def spanR (x : Hp) (xs : List Hp) (f : Nat → Bool) : Int × Int := (allR x f 1500).foldl (spR x xs) (1500, -1)
def spansR : List Hp → (Nat → Bool) → List (Int × Int)
 | [], _ => []
 | x :: xs, f => spanR x xs f :: spansR xs (nxR x xs f)
theorem spansR_length : ∀ (xs : List Hp) (f : Nat → Bool), (spansR xs f).length = xs.length
 | [], _ => rfl
 | x :: xs, f => by rw [spansR, List.length_cons, List.length_cons, spansR_length]
theorem upd_fold (x : Hp) (xs : List Hp) : ∀ (L : List Nat) (g : Nat → Bool) (l : Nat), L.foldl (updR x xs) g l = (g l || L.any fun m => (styR x xs m && decide (l = m)) || (flnR x xs m && decide (l = 0)))
 | [], g, l => by simp
 | m :: L, g, l => by rw [List.foldl_cons, upd_fold x xs L, List.any_cons, updR]; simp only [Bool.or_assoc]
theorem sp_fold (x : Hp) (xs : List Hp) : ∀ (L : List Nat) (a c : Int) (p : Nat → Prop), ((∀ m, ¬ p m) ∧ a = 1500 ∧ c = -1 ∨ ∃ lo hi : Nat, a = lo ∧ c = hi ∧ EndP p lo hi) → (∀ m ∈ L, m < 1500) →
    ((∀ m, ¬ (p m ∨ (m ∈ L ∧ (styR x xs m || flnR x xs m) = true))) ∧ L.foldl (spR x xs) (a, c) = (1500, -1)) ∨ ∃ lo hi : Nat, L.foldl (spR x xs) (a, c) = ((lo : Int), (hi : Int)) ∧ EndP (fun m => p m ∨ (m ∈ L ∧ (styR x xs m || flnR x xs m) = true)) lo hi
 | [], a, c, p, h, _ => by
  simp only [List.foldl_nil, List.not_mem_nil, false_and, or_false]
  rcases h with ⟨h1, rfl, rfl⟩ | ⟨lo, hi, rfl, rfl, h⟩
  ·exact .inl ⟨h1, rfl⟩
  ·exact .inr ⟨lo, hi, rfl, h⟩
 | m :: L, a, c, p, h, hL => by
  rw [List.foldl_cons]; have hm : m < 1500 := hL m (by simp)
  have e : ∀ k, ((p k ∨ (k = m ∧ (styR x xs m || flnR x xs m) = true)) ∨ (k ∈ L ∧ (styR x xs k || flnR x xs k) = true)) ↔ (p k ∨ (k ∈ m :: L ∧ (styR x xs k || flnR x xs k) = true)) := fun k => by
   rw [List.mem_cons]
   constructor
   ·rintro ((h | ⟨rfl, h⟩) | ⟨h1, h2⟩)
    ·exact .inl h
    ·exact .inr ⟨.inl rfl, h⟩
    ·exact .inr ⟨.inr h1, h2⟩
   ·rintro (h | ⟨rfl | h1, h2⟩)
    ·exact .inl (.inl h)
    ·exact .inl (.inr ⟨rfl, h2⟩)
    ·exact .inr ⟨h1, h2⟩
  have e' : (fun k => (p k ∨ (k = m ∧ (styR x xs m || flnR x xs m) = true)) ∨ (k ∈ L ∧ (styR x xs k || flnR x xs k) = true)) = fun k => (p k ∨ (k ∈ m :: L ∧ (styR x xs k || flnR x xs k) = true)) := funext fun k => propext (e k)
  cases hg : (styR x xs m || flnR x xs m) with
  | false =>
   have : spR x xs (a, c) m = (a, c) := by unfold spR; rw [hg]; rfl
   rw [this]; have e2 : (fun k => p k ∨ (k = m ∧ (styR x xs m || flnR x xs m) = true)) = p := funext fun k => propext ⟨fun h => h.elim id fun h => absurd h.2 (by rw [hg]; simp), .inl⟩; have := sp_fold x xs L a c p h (fun k hk => hL k (by simp [hk])); rw [← e2, e'] at this
   simpa only [← e] using this
  | true =>
   have he : spR x xs (a, c) m = (min a m, max c m) := by unfold spR; rw [hg]; rfl
   rw [he]; have := sp_fold x xs L (min a m) (max c m) (fun k => p k ∨ (k = m ∧ (styR x xs m || flnR x xs m) = true)) (.inr ?_) (fun k hk => hL k (by simp [hk]))
   ·rw [e'] at this
    simpa only [← e] using this
   ·rcases h with ⟨h1, rfl, rfl⟩ | ⟨lo, hi, rfl, rfl, h⟩
    ·exact ⟨m, m, by omega, by omega, .inr ⟨rfl, hg⟩, .inr ⟨rfl, hg⟩, fun k hk => by
      rcases hk with hk | ⟨rfl, _⟩
      ·exact absurd hk (h1 k)
      ·exact ⟨Nat.le_refl _, Nat.le_refl _⟩⟩
    ·refine ⟨min lo m, max hi m, by omega, by omega, ?_, ?_, fun k hk => ?_⟩
     ·rcases Nat.le_total lo m with q | q
      ·rw [Nat.min_eq_left q]; exact .inl h.low
      ·rw [Nat.min_eq_right q]; exact .inr ⟨rfl, hg⟩
     ·rcases Nat.le_total hi m with q | q
      ·rw [Nat.max_eq_right q]; exact .inr ⟨rfl, hg⟩
      ·rw [Nat.max_eq_left q]; exact .inl h.high
     ·rcases hk with hk | ⟨rfl, _⟩
      ·have := h.all k hk; omega
      ·omega
theorem mem_allR {x : Hp} {f : Nat → Bool} {n m : Nat} : m ∈ allR x f n ↔ ∃ l, l < n ∧ f l = true ∧ m ∈ x.brings.map (loN x l) := by
 unfold allR
 simp only [List.mem_flatMap, List.mem_filter, List.mem_range, and_assoc]
theorem nxR_iff {x : Hp} {xs : List Hp} {f : Nat → Bool} {l : Nat} : nxR x xs f l = true ↔ ∃ m ∈ allR x f 1500, (styR x xs m = true ∧ l = m) ∨ (flnR x xs m = true ∧ l = 0) := by
 unfold nxR
 rw [upd_fold]; simp [List.any_eq_true]
theorem loN_le {x : Hp} {xs : List Hp} (hs : Small (x :: xs)) {l m : Nat} (hm : m ∈ x.brings.map (loN x l)) : m ≤ l + 95 := by
 obtain ⟨n, hn, rfl⟩ := List.mem_map.1 hm; have h1 := (hs x (by simp)).1 n hn; have h2 := (hs x (by simp)).2; have := loN_eq hs (l := l) hn
 omega
theorem nxR_fit {x : Hp} {xs : List Hp} {f : Nat → Bool} {c : Nat} (hf : Fit f c) (hs : Small (x :: xs)) : Fit (nxR x xs f) (c + 95) := by
 intro k hk
 obtain ⟨m, hm, h⟩ := nxR_iff.1 hk; obtain ⟨l, _, hl, hm⟩ := mem_allR.1 hm; have := loN_le hs hm; have := hf l hl
 rcases h with ⟨_, rfl⟩ | ⟨_, rfl⟩ <;> omega
set_option maxRecDepth 100000 in
theorem spansR_is : ∀ (xs : List Hp) (f : Nat → Bool) (c : Nat), Fit f c → c + 95 * xs.length < 1500 → Small xs → (∃ l t, f l = true ∧ TruH xs l t) → ∀ (h : Nat) (hh : h < (spansR xs f).length),
    ∃ lo hi : Nat, (spansR xs f)[h] = ((lo : Int), (hi : Int)) ∧ EndP (fun m => ∃ l t, f l = true ∧ TruH xs l t ∧ (t[h]?).map (·.1) = some m) lo hi
 | [], _, _, _, _, _, _, h, hh => absurd hh (by simp [spansR])
 | x :: xs, f, c, hf, hc, hs, hex, h, hh => by
  simp only [List.length_cons] at hc
  have hgo : ∀ m, (styR x xs m || flnR x xs m) = true ↔ ∃ g t, fiB x m g = true ∧ TruH xs (if g then 0 else m) t := fun m => by
   unfold styR flnR
   simp only [Bool.or_eq_true, Bool.and_eq_true, goalP_some hs.tail]
   constructor
   ·rintro (⟨h1, t, h2⟩ | ⟨h1, t, h2⟩)
    ·exact ⟨false, t, h1, h2⟩
    ·exact ⟨true, t, h1, h2⟩
   ·rintro ⟨g, t, h1, h2⟩
    cases g
    ·exact .inl ⟨h1, t, h2⟩
    ·exact .inr ⟨h1, t, h2⟩
  have hall : ∀ m, (∃ l, f l = true ∧ m ∈ x.brings.map (loN x l)) ↔ m ∈ allR x f 1500 := fun m => by
   rw [mem_allR]; exact ⟨fun ⟨l, h1, h2⟩ => ⟨l, by have := hf l h1; omega, h1, h2⟩, fun ⟨l, _, h1, h2⟩ => ⟨l, h1, h2⟩⟩
  cases h with
  | zero =>
   have h0 := sp_fold x xs (allR x f 1500) 1500 (-1) (fun _ => False) (.inl ⟨fun _ => id, rfl, rfl⟩) (fun m hm => by
    obtain ⟨l, h1, h2⟩ := (hall m).2 hm; have := loN_le hs h2; have := hf l h1
    omega)
   have e : ∀ m, (False ∨ (m ∈ allR x f 1500 ∧ (styR x xs m || flnR x xs m) = true)) ↔ ∃ l t, f l = true ∧ TruH (x :: xs) l t ∧ (t[0]?).map (·.1) = some m := fun m => by
    rw [false_or, ← hall, hgo]
    constructor
    ·rintro ⟨⟨l, h1, h2⟩, g, t, h3, h4⟩; exact ⟨l, (m, g) :: t, h1, (truH_cons hs).2 ⟨h2, h3, h4⟩, rfl⟩
    ·rintro ⟨l, t, h1, h2, h3⟩
     cases t with
     | nil => cases h3
     | cons p t =>
      obtain ⟨m', g⟩ := p; obtain rfl : m' = m := by simpa using h3
      obtain ⟨q1, q2, q3⟩ := (truH_cons hs).1 h2; exact ⟨⟨l, h1, q1⟩, g, t, q2, q3⟩
   have e' := funext fun m => propext (e m)
   rcases h0 with ⟨h1, _⟩ | ⟨lo, hi, h1, h2⟩
   ·exfalso
    obtain ⟨l, t, h2, h3⟩ := hex
    cases t with
    | nil => exact absurd h3 (by simp [TruH])
    | cons p t => exact h1 p.1 ((e p.1).2 ⟨l, p :: t, h2, h3, rfl⟩)
   ·rw [e'] at h2; exact ⟨lo, hi, h1, h2⟩
  | succ h =>
   have hst : ∀ l' t', (nxR x xs f l' = true ∧ TruH xs l' t') ↔ ∃ l m g, f l = true ∧ TruH (x :: xs) l ((m, g) :: t') ∧ l' = (if g then 0 else m) := fun l' t' => by
    rw [nxR_iff]
    constructor
    ·rintro ⟨⟨m, hm, h⟩, ht⟩; obtain ⟨l, h1, h2⟩ := (hall m).2 hm
     rcases h with ⟨h3, rfl⟩ | ⟨h3, rfl⟩
     ·unfold styR at h3
      rw [Bool.and_eq_true] at h3; exact ⟨l, l', false, h1, (truH_cons hs).2 ⟨h2, h3.1, ht⟩, rfl⟩
     ·unfold flnR at h3
      rw [Bool.and_eq_true] at h3; exact ⟨l, m, true, h1, (truH_cons hs).2 ⟨h2, h3.1, ht⟩, rfl⟩
    ·rintro ⟨l, m, g, h1, h2, rfl⟩; obtain ⟨q1, q2, q3⟩ := (truH_cons hs).1 h2; refine ⟨⟨m, (hall m).1 ⟨l, h1, q1⟩, ?_⟩, q3⟩
     cases g
     ·refine .inl ⟨?_, rfl⟩
      unfold styR
      rw [q2, (goalP_some hs.tail (l := m)).2 ⟨t', by simpa using q3⟩]; rfl
     ·refine .inr ⟨?_, rfl⟩
      unfold flnR
      rw [q2, (goalP_some hs.tail (l := 0)).2 ⟨t', by simpa using q3⟩]; rfl
   have hh' : h < (spansR xs (nxR x xs f)).length := by rw [spansR, List.length_cons] at hh; omega
   obtain ⟨lo, hi, h1, h2⟩ := spansR_is xs (nxR x xs f) (c + 95) (nxR_fit hf hs) (by omega) hs.tail (by
    obtain ⟨l, t, h2, h3⟩ := hex
    cases t with
    | nil => exact absurd h3 (by simp [TruH])
    | cons p t => exact ⟨_, t, (hst _ t).2 ⟨l, p.1, p.2, h2, h3, rfl⟩⟩) h hh'
   refine ⟨lo, hi, by simpa only [spansR, List.getElem_cons_succ] using h1, ?_⟩
   have e : (fun m => ∃ l t, nxR x xs f l = true ∧ TruH xs l t ∧ (t[h]?).map (·.1) = some m) = fun m => ∃ l t, f l = true ∧ TruH (x :: xs) l t ∧ (t[h + 1]?).map (·.1) = some m := funext fun m => propext (by
    constructor
    ·rintro ⟨l', t', h3, h4, h5⟩; obtain ⟨l, m', g, q1, q2, _⟩ := (hst l' t').1 ⟨h3, h4⟩; exact ⟨l, (m', g) :: t', q1, q2, by simpa using h5⟩
    ·rintro ⟨l, t, h3, h4, h5⟩
     cases t with
     | nil => simp at h5
     | cons p t =>
      have := (hst _ t).2 ⟨l, p.1, p.2, h3, h4, rfl⟩; exact ⟨_, t, this.1, this.2, by simpa using h5⟩)
   rw [e] at h2; exact h2
theorem spans_is {b : Sb} (hb : OkB b) (hr : rtB b = true) {h : Nat} (hh : h < b.hours.length) : (spansR (hpsOf b) (f0 b))[h]'(by rw [spansR_length, hpsOf_length]; exact hh) = ((loH b h : Int), (hiH b h : Int)) := by
 have hl : h < (spansR (hpsOf b) (f0 b)).length := by rw [spansR_length, hpsOf_length]; exact hh
 have h12 := hb.hours
 obtain ⟨lo, hi, h1, h2⟩ := spansR_is (hpsOf b) (f0 b) 300 (f0_fit hb) (by rw [hpsOf_length]; omega) (small_of hb) (by
  obtain ⟨t, ht⟩ := (rtB_iff hb).1 hr; obtain ⟨l, h1, h2⟩ := (isT_iff hb).1 ht; exact ⟨l, t, h1, h2⟩) h hl
 have e : (fun m => ∃ l t, f0 b l = true ∧ TruH (hpsOf b) l t ∧ (t[h]?).map (·.1) = some m) = fun m => ∃ t, TrB b t ∧ (t[h]?).map (·.1) = some m := funext fun m => propext (by
  simp only [isT_iff hb]; exact ⟨fun ⟨l, t, h1, h2, h3⟩ => ⟨t, ⟨l, h1, h2⟩, h3⟩, fun ⟨t, ⟨l, h1, h2⟩, h3⟩ => ⟨l, t, h1, h2, h3⟩⟩)
 rw [e] at h2; obtain ⟨e1, e2⟩ := h2.unique (ends_load hb hr hh); rw [h1, e1, e2]
/-- what the first hour's goals say of the whole book -/
def begR (b : Sb) (n : Nat) : List (Option (Nat × Nat)) := (List.range n).map fun k => goalP (hpsOf b) (b.lo.toNat + k)
def begN (b : Sb) : Nat := (b.hi - b.lo + 1).toNat
theorem right_ref {b : Sb} (hb : OkB b) : (begR b (begN b)).any Option.isSome = rtB b := by
 rw [Bool.eq_iff_iff, rtB_iff hb]
 unfold begR begN
 simp only [List.any_eq_true, List.mem_map, List.mem_range]; have := hb.start
 constructor
 ·rintro ⟨_, ⟨k, h1, rfl⟩, h2⟩; obtain ⟨t, h2⟩ := (goalP_some (small_of hb)).1 h2; exact ⟨t, (isT_iff hb).2 ⟨_, (f0_iff hb).2 (by omega), h2⟩⟩
 ·rintro ⟨t, ht⟩; obtain ⟨l, h1, h2⟩ := (isT_iff hb).1 ht; have := (f0_iff hb).1 h1; exact ⟨_, ⟨l - b.lo.toNat, by omega, rfl⟩, (goalP_some (small_of hb)).2 ⟨t, by rw [show b.lo.toNat + (l - b.lo.toNat) = l by omega]; exact h2⟩⟩
theorem goalP_le {xs : List Hp} (hs : Small xs) {l : Nat} {q : Nat × Nat} (h : goalP xs l = some q) : q.1 ≤ q.2 ∧ q.2 ≤ xs.length := by
 have hg := goalP_is xs hs l; rw [h] at hg; have hg : EndP _ q.1 q.2 := hg; refine ⟨(hg.all _ hg.high).1, ?_⟩; obtain ⟨t, h1, h2⟩ := hg.high; have := falls_le t; rw [h1.length] at this
 omega
end Go.Proofs.YtkhmcofmjjmjhaaDoor
