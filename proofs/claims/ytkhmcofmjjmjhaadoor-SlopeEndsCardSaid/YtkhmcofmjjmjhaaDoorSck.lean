/- Slope: the maths of the laws SlopeCrossed, SlopeEnds and SlopeHolds. -/
import Derived.Test.YtkhmcofmjjmjhaaDoorScf
namespace Go.Proofs.YtkhmcofmjjmjhaaDoor
set_option linter.unusedSimpArgs false
set_option linter.unusedVariables false
open Go Go.RowKit

theorem lk_left : ∀ {e x : Env} {t : Nat} {u : Value}, lk t e = some u → lk t (e ++ x) = some u
 | [], _, _, _, h => by cases h
 | (k, v) :: e, x, t, u, h => by
  unfold lk at h
  rw [List.cons_append]
  unfold lk
  by_cases hk : k = t
  ·rw [if_pos hk] at h ⊢; exact h
  ·rw [if_neg hk] at h ⊢; exact lk_left h
/-- fewer slots -/
theorem fits_init {D : List Deferred} {n : Nat} {e : Env} (x : Env) {a : Act} (h : FitsD D n (e ++ x) a) : FitsD D n e a := ⟨h.1, h.2.1, fun t u hu => h.2.2 t u (lk_left hu)⟩
/-- whether a sight is right of an hour -/
def SatS (s : Si) (p : Nat × Bool) : Prop := s.fell = p.2 ∧ s.lo ≤ (p.1 : Int) ∧ (p.1 : Int) ≤ s.hi
def bare (b : Sb) : Sb := { b with sights := [] }
def withS (b : Sb) (x : Si) : Sb := { b with sights := b.sights ++ [x] }
def revB (b : Sb) : Sb := { b with sights := b.sights.reverse }
theorem tru_split (b : Sb) : ∀ (hs : List Hr) (i l : Nat) (t : List (Nat × Bool)), Tru b i hs l t ↔ Tru (bare b) i hs l t ∧ ∀ s ∈ b.sights, ∀ k p, t[k]? = some p → s.hour = ((i + k : Nat) : Int) → SatS s p
 | [], _, _, [] => by simp [Tru]
 | [], _, _, _ :: _ => by simp [Tru]
 | _ :: _, _, _, [] => by simp [Tru]
 | h :: hs, i, l, (m, f) :: t => by
  have ih := tru_split b hs (i + 1) (if f then 0 else m) t
  constructor
  ·rintro ⟨h1, h2, h3, h4⟩
   obtain ⟨h4, h5⟩ := ih.1 h4
   refine ⟨⟨h1, h2, fun s hs => absurd hs (by simp [bare]), h4⟩, fun s hs k p hk he => ?_⟩
   cases k with
   | zero =>
    obtain rfl := Option.some.inj hk
    exact h3 s hs (by simpa using he)
   | succ k => exact h5 s hs k p hk (by rw [he]; congr 1; omega)
  ·rintro ⟨⟨h1, h2, _, h4⟩, h5⟩
   exact ⟨h1, h2, fun s hs he => h5 s hs 0 (m, f) rfl (by simpa using he), ih.2 ⟨h4, fun s hs k p hk he => h5 s hs (k + 1) p hk (by rw [he]; congr 1; omega)⟩⟩
theorem tr_iff {b : Sb} {t : List (Nat × Bool)} : TrB b t ↔ TrB (bare b) t ∧ ∀ s ∈ b.sights, ∀ (k : Nat) p, t[k]? = some p → s.hour = (k : Int) → SatS s p := by
 constructor
 ·rintro ⟨l, h1, h2⟩
  obtain ⟨h3, h4⟩ := (tru_split b _ _ _ _).1 h2
  exact ⟨⟨l, h1, h3⟩, fun s hs k p hk he => h4 s hs k p hk (by simpa using he)⟩
 ·rintro ⟨⟨l, h1, h2⟩, h3⟩
  exact ⟨l, h1, (tru_split b _ _ _ _).2 ⟨h2, fun s hs k p hk he => h3 s hs k p hk (by simpa using he)⟩⟩
theorem tr_with {b : Sb} {x : Si} {t : List (Nat × Bool)} : TrB (withS b x) t ↔ TrB b t ∧ ∀ (k : Nat) p, t[k]? = some p → x.hour = (k : Int) → SatS x p := by
 have h1 := tr_iff (b := withS b x) (t := t)
 have h2 := tr_iff (b := b) (t := t)
 constructor
 ·intro h
  obtain ⟨a1, a2⟩ := h1.1 h
  exact ⟨h2.2 ⟨a1, fun s hs => a2 s (List.mem_append_left _ hs)⟩, a2 x (List.mem_append_right _ (List.mem_singleton.2 rfl))⟩
 ·rintro ⟨h, h3⟩
  obtain ⟨a1, a2⟩ := h2.1 h
  refine h1.2 ⟨a1, fun s hs => ?_⟩
  rcases List.mem_append.1 hs with hs | hs
  ·exact a2 s hs
  ·rw [List.mem_singleton.1 hs]; exact h3
theorem tr_rev {b : Sb} {t : List (Nat × Bool)} : TrB (revB b) t ↔ TrB b t := by
 have h1 := tr_iff (b := revB b) (t := t)
 have h2 := tr_iff (b := b) (t := t)
 rw [h1, h2]
 show (TrB (bare b) t ∧ _) ↔ _
 simp only [revB, List.mem_reverse]
theorem ok_with {b : Sb} (hb : OkB b) (h5 : b.sights.length ≤ 5) {x : Si} (hx : (0 ≤ x.hour ∧ x.hour ≤ (b.hours.length : Int) - 1) ∧ 0 ≤ x.lo ∧ x.lo ≤ x.hi ∧ x.hi ≤ 2000) : OkB (withS b x) :=
 ⟨hb.snow, hb.wind, hb.sun, hb.settle, hb.hold, hb.start, hb.hours, by simp [withS]; omega, hb.hour, fun s hs => by
  rcases List.mem_append.1 hs with hs | hs
  ·exact hb.sight s hs
  ·rw [List.mem_singleton.1 hs]; exact hx⟩
theorem ok_rev {b : Sb} (hb : OkB b) : OkB (revB b) :=
 ⟨hb.snow, hb.wind, hb.sun, hb.settle, hb.hold, hb.start, hb.hours, by simpa [revB] using hb.sights, hb.hour, fun s hs => hb.sight s (List.mem_reverse.1 hs)⟩
theorem rt_with {b : Sb} {x : Si} (hb : OkB (withS b x)) {h : Nat} (hx : x.hour = (h : Int)) (hh : h < b.hours.length) : rtB (withS b x) = true ↔ ∃ t p, TrB b t ∧ t[h]? = some p ∧ SatS x p := by
 rw [rtB_iff hb]
 constructor
 ·rintro ⟨t, ht⟩
  obtain ⟨h1, h2⟩ := tr_with.1 ht
  have hl : h < t.length := by rw [h1.length]; exact hh
  exact ⟨t, t[h], h1, List.getElem?_eq_getElem hl, h2 h _ (List.getElem?_eq_getElem hl) hx⟩
 ·rintro ⟨t, p, h1, h2, h3⟩
  refine ⟨t, tr_with.2 ⟨h1, fun k q hk he => ?_⟩⟩
  have : k = h := by omega
  subst this
  rw [h2] at hk
  obtain rfl := Option.some.inj hk
  exact h3
theorem tru_fell {b : Sb} : ∀ {hs : List Hr} {i l : Nat} {t : List (Nat × Bool)}, Tru b i hs l t → ∀ (k m : Nat), t[k]? = some (m, true) → b.sl.hold < (m : Int)
 | [], _, _, [], _, k, m, h => by simp at h
 | [], _, _, _ :: _, h, _, _, _ => absurd h (by simp [Tru])
 | _ :: _, _, _, [], h, _, _, _ => absurd h (by simp [Tru])
 | h :: hs, i, l, (m', f) :: t, ⟨_, h2, _, h4⟩, k, m, hk => by
  cases k with
  | zero =>
   have e := Option.some.inj hk
   cases e
   exact h2 rfl
  | succ k => exact tru_fell h4 k m hk
theorem tr_fell {b : Sb} {t : List (Nat × Bool)} (h : TrB b t) {k m : Nat} (hk : t[k]? = some (m, true)) : b.sl.hold < (m : Int) := by
 obtain ⟨l, _, h⟩ := h
 exact tru_fell h k m hk
section
variable {b : Sb} (hb : OkB b) (h5 : b.sights.length ≤ 5) (hr : rtB b = true) {h : Nat} (hh : h < b.hours.length)
include hb hh
theorem said_ok {f : Bool} {lo hi : Int} (h5 : b.sights.length ≤ 5) (h1 : 0 ≤ lo ∧ lo ≤ hi ∧ hi ≤ 2000) : OkB (withS b ⟨h, f, lo, hi⟩) := ok_with hb h5 ⟨⟨by show (0 : Int) ≤ h; omega, by show (h : Int) ≤ _; omega⟩, h1⟩
include hr
theorem said_to : loH b h ≤ hiH b h ∧ hiH b h < 2000 := by
 have h1 := ends_load hb hr hh
 have h2 := out_ends hb hr hh
 have h3 := (h1.all _ h1.high).1
 exact ⟨h3, h2.2.1⟩
include h5
theorem said_stays {m : Nat} (hm : m = loH b h ∨ m = hiH b h) : rtB (withS b (poS h m m)) = true ∨ rtB (withS b ⟨h, true, m, m⟩) = true := by
 have h1 := ends_load hb hr hh
 obtain ⟨h2, h3⟩ := said_to hb hr hh
 have hm2 : (0 : Int) ≤ m ∧ (m : Int) ≤ m ∧ (m : Int) ≤ 2000 := by omega
 have hm3 : ∃ t, TrB b t ∧ (t[h]?).map (·.1) = some m := by
  rcases hm with e | e
  ·rw [e]; exact h1.low
  ·rw [e]; exact h1.high
 obtain ⟨t, ht, he⟩ := hm3
 cases hp : t[h]? with
 | none => rw [hp] at he; cases he
 | some p =>
  obtain ⟨n, f⟩ := p
  rw [hp] at he
  obtain rfl := Option.some.inj he
  cases f with
  | false => exact .inl ((rt_with (said_ok hb hh h5 hm2) rfl hh).2 ⟨t, _, ht, hp, rfl, Int.le_refl _, Int.le_refl _⟩)
  | true => exact .inr ((rt_with (said_ok hb hh h5 hm2) rfl hh).2 ⟨t, _, ht, hp, rfl, Int.le_refl _, Int.le_refl _⟩)
omit hr in
theorem said_falls {m : Nat} (hm : m ≤ 2000) (hf : rtB (withS b ⟨h, true, m, m⟩) = true) : b.sl.hold < (m : Int) := by
 obtain ⟨t, ⟨n, f⟩, h1, h2, h3, h4, h4'⟩ := (rt_with (said_ok hb hh h5 ⟨by omega, by omega, by omega⟩) rfl hh).1 hf
 obtain rfl : true = f := h3
 have := tr_fell h1 h2
 have h4 : (m : Int) ≤ n := h4
 have h4' : (n : Int) ≤ m := h4'
 omega
theorem said_could (hf : rtB (withS b (feS h)) = true) : safB b h = false := by
 obtain ⟨t, ⟨n, f⟩, h1, h2, h3, h4, h4'⟩ := (rt_with (x := feS h) (said_ok hb hh h5 ⟨by omega, by omega, by omega⟩) rfl hh).1 hf
 obtain rfl : true = f := h3
 have h6 := tr_fell h1 h2
 cases hs : safB b h with
 | false => rfl
 | true =>
  have h7 : (n : Int) ≤ b.sl.hold := (safB_iff hb hr hh).1 hs t h1 _ h2
  omega
theorem said_more {lo hi : Int} (h1 : (hiH b h : Int) < lo) (h2 : lo ≤ hi ∧ hi ≤ 2000) : rtB (withS b (poS h lo hi)) = false := by
 cases hc : rtB (withS b (poS h lo hi)) with
 | false => rfl
 | true =>
  obtain ⟨t, ⟨n, f⟩, g1, g2, g3, g4, g5⟩ := (rt_with (x := poS h lo hi) (said_ok hb hh h5 ⟨by omega, h2⟩) rfl hh).1 hc
  have h4 : lo ≤ (n : Int) := g4
  have := ((ends_load hb hr hh).all n ⟨t, g1, by rw [g2]; rfl⟩).2
  omega
theorem said_less {lo hi : Int} (h1 : hi < (loH b h : Int)) (h2 : 0 ≤ lo ∧ lo ≤ hi) : rtB (withS b (poS h lo hi)) = false := by
 have h3 := said_to hb hr hh
 cases hc : rtB (withS b (poS h lo hi)) with
 | false => rfl
 | true =>
  obtain ⟨t, ⟨n, f⟩, g1, g2, g3, g4, g5⟩ := (rt_with (x := poS h lo hi) (said_ok hb hh h5 ⟨h2.1, h2.2, by omega⟩) rfl hh).1 hc
  have h4 : (n : Int) ≤ hi := g5
  have := ((ends_load hb hr hh).all n ⟨t, g1, by rw [g2]; rfl⟩).1
  omega
end
theorem EndP.sub {p q : Nat → Prop} {lo hi lo' hi' : Nat} (h : EndP p lo hi) (h' : EndP q lo' hi') (hq : ∀ m, q m → p m) : lo ≤ lo' ∧ lo' ≤ hi' ∧ hi' ≤ hi :=
 ⟨(h.all _ (hq _ h'.low)).1, (h'.all _ h'.high).1, (h.all _ (hq _ h'.high)).2⟩
/-- what holds of a book whose truths are among those of another one -/
theorem sub_rt {b c : Sb} (hb : OkB b) (hc : OkB c) (hs : ∀ t, TrB c t → TrB b t) (h : rtB c = true) : rtB b = true := by
 obtain ⟨t, ht⟩ := (rtB_iff hc).1 h
 exact (rtB_iff hb).2 ⟨t, hs t ht⟩
theorem sub_load {b c : Sb} (hb : OkB b) (hc : OkB c) (hs : ∀ t, TrB c t → TrB b t) (hr : rtB c = true) {h : Nat} (hh : h < b.hours.length) (hh' : h < c.hours.length) : loH b h ≤ loH c h ∧ loH c h ≤ hiH c h ∧ hiH c h ≤ hiH b h :=
 (ends_load hb (sub_rt hb hc hs hr) hh).sub (ends_load hc hr hh') fun _ ⟨t, h1, h2⟩ => ⟨t, hs t h1, h2⟩
theorem sub_falls {b c : Sb} (hb : OkB b) (hc : OkB c) (hs : ∀ t, TrB c t → TrB b t) (hr : rtB c = true) : loO b ≤ loO c ∧ loO c ≤ hiO c ∧ hiO c ≤ hiO b :=
 (ends_falls hb (sub_rt hb hc hs hr)).sub (ends_falls hc hr) fun _ ⟨t, h1, h2⟩ => ⟨t, hs t h1, h2⟩
theorem sub_safe {b c : Sb} (hb : OkB b) (hc : OkB c) (hl : c.sl.hold = b.sl.hold) (hs : ∀ t, TrB c t → TrB b t) (hr : rtB c = true) {h : Nat} (hh : h < b.hours.length) (hh' : h < c.hours.length) (h1 : safB b h = true) : safB c h = true := by
 refine (safB_iff hc hr hh').2 fun t ht p hp => ?_
 rw [hl]
 exact (safB_iff hb (sub_rt hb hc hs hr) hh).1 h1 t (hs t ht) p hp

theorem runN_spec (s : Nat → Bool) : ∀ (r h : Nat), (∀ j, j < runN s r h → s (h + j) = true) ∧ (runN s r h = r ∨ s (h + runN s r h) = false)
 | 0, h => ⟨fun j hj => absurd hj (Nat.not_lt_zero _), .inl rfl⟩
 | r + 1, h => by
  obtain ⟨h1, h2⟩ := runN_spec s r (h + 1)
  unfold runN
  by_cases hs : s h = true
  ·rw [if_pos hs]
   refine ⟨fun j hj => ?_, ?_⟩
   ·cases j with
    | zero => exact hs
    | succ j => rw [show h + (j + 1) = h + 1 + j by omega]; exact h1 j (by omega)
   ·rcases h2 with h2 | h2
    ·exact .inl (by omega)
    ·exact .inr (by rw [show h + (runN s r (h + 1) + 1) = h + 1 + runN s r (h + 1) by omega]; exact h2)
  ·rw [if_neg hs]
   exact ⟨fun j hj => absurd hj (Nat.not_lt_zero _), .inr (by simpa using hs)⟩
theorem run_facts (b : Sb) {h : Nat} (hh : h ≤ b.hours.length) : h + runB b h ≤ b.hours.length ∧ (∀ j, j < runB b h → safB b (h + j) = true) ∧ (h + runB b h = b.hours.length ∨ safB b (h + runB b h) = false) := by
 have h1 := runN_le (safB b) (b.hours.length - h) h
 obtain ⟨h2, h3⟩ := runN_spec (safB b) (b.hours.length - h) h
 unfold runB
 exact ⟨by omega, h2, h3.imp (by omega) id⟩
theorem run_ge (b : Sb) {h k : Nat} (hk : h + k ≤ b.hours.length) (hs : ∀ j, j < k → safB b (h + j) = true) : k ≤ runB b h := by
 obtain ⟨h1, h2, h3⟩ := run_facts b (h := h) (by omega)
 refine Nat.le_of_not_lt fun hlt => ?_
 rcases h3 with h3 | h3
 ·omega
 ·rw [hs _ hlt] at h3; cases h3
theorem run_pos (b : Sb) {h : Nat} (hh : h < b.hours.length) : decide (runB b h = 0) = !safB b h := by
 obtain ⟨h1, h2, h3⟩ := run_facts b (h := h) (by omega)
 cases hs : safB b h with
 | true =>
  have := run_ge b (h := h) (k := 1) (by omega) (fun j hj => by have : j = 0 := by omega
                                                                subst this; exact hs)
  simp; omega
 | false =>
  have : runB b h = 0 := by
   refine Nat.eq_zero_of_not_pos fun hp => ?_
   have := h2 0 hp
   rw [Nat.add_zero, hs] at this; cases this
  simp [this]
theorem mem_freK {b : Sb} {n k : Nat} : k ∈ freK b n ↔ k < n ∧ safB b k = true := by unfold freK; simp
/-- whether all hours from one on, so many, are safe -/
def whoB (b : Sb) (h k : Nat) : Bool := (List.range k).all fun j => decide (h + j < b.hours.length) && safB b (h + j)
theorem whoB_iff {b : Sb} {h k : Nat} : whoB b h k = true ↔ ∀ j, j < k → h + j < b.hours.length ∧ safB b (h + j) = true := by
 unfold whoB
 simp [List.all_eq_true]
theorem who_run {b : Sb} {h k : Nat} (hk : k ≤ runB b h) (hh : h ≤ b.hours.length) : whoB b h k = true := by
 obtain ⟨h1, h2, h3⟩ := run_facts b hh
 exact whoB_iff.2 fun j hj => ⟨by omega, h2 j (by omega)⟩
theorem who_not {b : Sb} {h k : Nat} (hk : ¬ k ≤ runB b h) (hh : h + k ≤ b.hours.length) : whoB b h k = false := by
 cases hw : whoB b h k with
 | false => rfl
 | true => exact absurd (run_ge b hh fun j hj => (whoB_iff.1 hw j hj).2) hk
theorem croN_some (P : Nat → Bool) : ∀ (r h g : Nat), croN P r h = some g → h ≤ g ∧ g < h + r ∧ P g = true ∧ ∀ j, h ≤ j → j < g → P j = false
 | 0, h, g, e => by cases e
 | r + 1, h, g, e => by
  unfold croN at e
  by_cases hp : P h = true
  ·rw [if_pos hp] at e
   obtain rfl := Option.some.inj e
   exact ⟨Nat.le_refl _, by omega, hp, fun j h1 h2 => by omega⟩
  ·rw [if_neg hp] at e
   obtain ⟨h1, h2, h3, h4⟩ := croN_some P r (h + 1) g e
   refine ⟨by omega, by omega, h3, fun j a1 a2 => ?_⟩
   by_cases ej : j = h
   ·subst ej; simpa using hp
   ·exact h4 j (by omega) a2
theorem croN_no (P : Nat → Bool) : ∀ (r h : Nat), croN P r h = none → ∀ j, h ≤ j → j < h + r → P j = false
 | 0, h, _, j, h1, h2 => by omega
 | r + 1, h, e, j, h1, h2 => by
  unfold croN at e
  by_cases hp : P h = true
  ·rw [if_pos hp] at e; cases e
  ·rw [if_neg hp] at e
   by_cases ej : j = h
   ·subst ej; simpa using hp
   ·exact croN_no P r (h + 1) e j (by omega) (by omega)
/-- the greatest load -/
def stepT (sl : Sl) (l : Int) (h : Hr) : Int := max 0 (l - sl.settle) + sl.snow * h.n2 + sl.wind * h.w2 + sl.sun * h.s2
def topI (b : Sb) (k : Nat) : Int := (b.hours.take k).foldl (stepT b.sl) b.hi
theorem topI_succ (b : Sb) {k : Nat} (hk : k < b.hours.length) : topI b (k + 1) = stepT b.sl (topI b k) b.hours[k] := by
 unfold topI
 rw [List.take_succ_eq_append_getElem hk, List.foldl_append]
 rfl
theorem brings_top {b : Sb} (hb : OkB b) {h : Hr} (hh : h ∈ b.hours) {n : Int} (hn : Brings b.sl h n) : n ≤ b.sl.snow * h.n2 + b.sl.wind * h.w2 + b.sl.sun * h.s2 := by
 obtain ⟨x, y, z, hx, hy, hz, rfl⟩ := hn
 have m1 := Int.mul_le_mul_of_nonneg_left hx.2 hb.snow.1
 have m2 := Int.mul_le_mul_of_nonneg_left hy.2 hb.wind.1
 have m3 := Int.mul_le_mul_of_nonneg_left hz.2 hb.sun.1
 omega
theorem top_brings {b : Sb} (hb : OkB b) {h : Hr} (hh : h ∈ b.hours) : Brings b.sl h (b.sl.snow * h.n2 + b.sl.wind * h.w2 + b.sl.sun * h.s2) := by
 obtain ⟨h1, h2, h3⟩ := hb.hour h hh
 exact ⟨h.n2, h.w2, h.s2, ⟨by omega, Int.le_refl _⟩, ⟨by omega, Int.le_refl _⟩, ⟨by omega, Int.le_refl _⟩, rfl⟩
theorem tru_top {b : Sb} (hb : OkB b) : ∀ (hs : List Hr) (i l : Nat) (t : List (Nat × Bool)) (top : Int), (∀ h ∈ hs, h ∈ b.hours) → (l : Int) ≤ top → 0 ≤ top → Tru b i hs l t → ∀ k p, t[k]? = some p → (p.1 : Int) ≤ (hs.take (k + 1)).foldl (stepT b.sl) top
 | [], _, _, [], _, _, _, _, _, k, p, hk => by simp at hk
 | [], _, _, _ :: _, _, _, _, _, h, _, _, _ => absurd h (by simp [Tru])
 | _ :: _, _, _, [], _, _, _, _, h, _, _, _ => absurd h (by simp [Tru])
 | h :: hs, i, l, (m, f) :: t, top, hm, hl, h0, ⟨⟨n, hn, he⟩, _, _, h4⟩, k, p, hk => by
  have hh := hm h (by simp)
  have h1 := brings_top hb hh hn
  have h2 := (brings_to hb hh hn).1
  have hst := hb.settle
  have h3 : (m : Int) ≤ stepT b.sl top h := by unfold stepT; omega
  cases k with
  | zero =>
   obtain rfl := Option.some.inj hk
   exact h3
  | succ k =>
   have := tru_top hb hs (i + 1) _ t (stepT b.sl top h) (fun x hx => hm x (by simp [hx])) (by split <;> omega) (by omega) h4 k p hk
   simpa using this
theorem top_tru {b : Sb} (hb : OkB b) (h0 : b.sights = []) : ∀ (hs : List Hr) (i l : Nat), (∀ h ∈ hs, h ∈ b.hours) → ∃ t, Tru b i hs l t ∧ ∀ k (h : k < hs.length), ∃ p, t[k]? = some p ∧ (p.1 : Int) = (hs.take (k + 1)).foldl (stepT b.sl) l
 | [], _, _, _ => ⟨[], trivial, fun k h => absurd h (by simp)⟩
 | h :: hs, i, l, hm => by
  have hh := hm h (by simp)
  have hB := top_brings hb hh
  have h4 := (brings_to hb hh hB).1
  have h5 : ((max ((l : Int) - b.sl.settle) 0 + (b.sl.snow * h.n2 + b.sl.wind * h.w2 + b.sl.sun * h.s2)).toNat : Int) = stepT b.sl l h := by unfold stepT; omega
  obtain ⟨m, hm5⟩ : ∃ m, (max ((l : Int) - b.sl.settle) 0 + (b.sl.snow * h.n2 + b.sl.wind * h.w2 + b.sl.sun * h.s2)).toNat = m := ⟨_, rfl⟩
  rw [hm5] at h5
  obtain ⟨t, ht, hk⟩ := top_tru hb h0 hs (i + 1) m (fun x hx => hm x (by simp [hx]))
  refine ⟨(m, false) :: t, ⟨⟨_, hB, by omega⟩, by simp, fun s hs => ?_, ht⟩, fun k hkl => ?_⟩
  ·rw [h0] at hs
   cases hs
  ·cases k with
   | zero => exact ⟨_, rfl, h5⟩
   | succ k =>
    obtain ⟨p, h6, h7⟩ := hk k (by simpa using hkl)
    refine ⟨p, h6, ?_⟩
    rw [h7, h5]
    rfl
theorem hi_none {b : Sb} (hb : OkB b) (h0 : b.sights = []) {h : Nat} (hh : h < b.hours.length) : (hiH b h : Int) = topI b (h + 1) := by
 have he := ends_load hb (rt_none hb h0) hh
 have hst := hb.start
 obtain ⟨t, ht, h1⟩ := top_tru hb h0 b.hours 0 b.hi.toNat (fun _ h => h)
 obtain ⟨p, h2, h3⟩ := h1 h hh
 have e1 : ((b.hi.toNat : Nat) : Int) = b.hi := by omega
 rw [e1] at h3
 have h4 : (p.1 : Int) = topI b (h + 1) := h3
 have h5 := (he.all p.1 ⟨t, ⟨b.hi.toNat, by omega, ht⟩, by rw [h2]; rfl⟩).2
 obtain ⟨u, ⟨l, hl, hu⟩, h6⟩ := he.high
 cases hq : u[h]? with
 | none => rw [hq] at h6; cases h6
 | some q =>
  rw [hq] at h6
  have h7 : q.1 = hiH b h := by simpa using h6
  have h8 : (q.1 : Int) ≤ topI b (h + 1) := tru_top hb b.hours 0 l u b.hi (fun _ h => h) hl.2 (by omega) hu h q hq
  omega
theorem ok_bare {b : Sb} (hb : OkB b) : OkB (bare b) :=
 ⟨hb.snow, hb.wind, hb.sun, hb.settle, hb.hold, hb.start, hb.hours, Nat.zero_le _, hb.hour, fun s hs => absurd hs (by simp [bare])⟩
/-- a book in which all is known -/
def exH (most : Bool) (h : Hr) : Hr := if most then ⟨h.n2, h.n2, h.w2, h.w2, h.s2, h.s2⟩ else ⟨h.n1, h.n1, h.w1, h.w1, h.s1, h.s1⟩
def extB (b : Sb) (most : Bool) : Sb := ⟨b.sl, if most then b.hi else b.lo, if most then b.hi else b.lo, b.hours.map (exH most), []⟩
theorem ok_ext {b : Sb} (hb : OkB b) (most : Bool) : OkB (extB b most) := by
 have hst := hb.start
 refine ⟨hb.snow, hb.wind, hb.sun, hb.settle, hb.hold, ?_, by simpa [extB] using hb.hours, Nat.zero_le _, fun h hh => ?_, fun s hs => absurd hs (by simp [extB])⟩
 ·cases most
  ·exact ⟨by simp [extB]; omega, by simp [extB], by simp [extB]; omega⟩
  ·exact ⟨by simp [extB]; omega, by simp [extB], by simp [extB]; omega⟩
 ·obtain ⟨x, hx, rfl⟩ := List.mem_map.1 (show h ∈ b.hours.map (exH most) from hh)
  obtain ⟨h1, h2, h3⟩ := hb.hour x hx
  cases most
  ·exact ⟨⟨⟨by simp [exH]; omega, by simp [exH], by simp [exH]; omega⟩, by simp [exH]⟩, ⟨⟨by simp [exH]; omega, by simp [exH], by simp [exH]; omega⟩, by simp [exH]⟩, ⟨⟨by simp [exH]; omega, by simp [exH], by simp [exH]; omega⟩, by simp [exH]⟩⟩
  ·exact ⟨⟨⟨by simp [exH]; omega, by simp [exH], by simp [exH]; omega⟩, by simp [exH]⟩, ⟨⟨by simp [exH]; omega, by simp [exH], by simp [exH]; omega⟩, by simp [exH]⟩, ⟨⟨by simp [exH]; omega, by simp [exH], by simp [exH]; omega⟩, by simp [exH]⟩⟩
theorem ext_brings {b : Sb} (hb : OkB b) (most : Bool) {h : Hr} (hh : h ∈ b.hours) {n : Int} (hn : Brings b.sl (exH most h) n) : Brings b.sl h n := by
 obtain ⟨h1, h2, h3⟩ := hb.hour h hh
 obtain ⟨x, y, z, hx, hy, hz, e⟩ := hn
 cases most
 ·simp only [exH, Bool.false_eq_true, if_false] at hx hy hz
  exact ⟨x, y, z, by omega, by omega, by omega, e⟩
 ·simp only [exH, if_true] at hx hy hz
  exact ⟨x, y, z, by omega, by omega, by omega, e⟩
theorem ext_tru {b : Sb} (hb : OkB b) (most : Bool) : ∀ (hs : List Hr) (i l : Nat) (t : List (Nat × Bool)), (∀ h ∈ hs, h ∈ b.hours) → Tru (extB b most) i (hs.map (exH most)) l t → Tru (bare b) i hs l t
 | [], _, _, [], _, _ => trivial
 | [], _, _, _ :: _, _, h => absurd h (by simp [Tru])
 | _ :: _, _, _, [], _, h => absurd h (by simp [Tru])
 | h :: hs, i, l, (m, f) :: t, hm, ⟨⟨n, hn, he⟩, h2, h3, h4⟩ =>
  ⟨⟨n, ext_brings hb most (hm h (by simp)) hn, he⟩, h2, fun s hs => absurd hs (by simp [bare]), ext_tru hb most hs (i + 1) _ t (fun x hx => hm x (by simp [hx])) h4⟩
theorem ext_sub {b : Sb} (hb : OkB b) (most : Bool) (t : List (Nat × Bool)) (h : TrB (extB b most) t) : TrB (bare b) t := by
 have hst := hb.start
 obtain ⟨l, hl, ht⟩ := h
 refine ⟨l, ?_, ext_tru hb most b.hours 0 l t (fun _ h => h) ht⟩
 show b.lo ≤ (l : Int) ∧ (l : Int) ≤ b.hi
 cases most
 ·simp only [extB, Bool.false_eq_true, if_false] at hl; omega
 ·simp only [extB, if_true] at hl; omega
/-- the load of a book in which all is known -/
def exI (b : Sb) (most : Bool) (k : Nat) : Int := topI (extB b most) k
theorem exI_zero (b : Sb) (most : Bool) : exI b most 0 = if most then b.hi else b.lo := rfl
theorem exI_succ (b : Sb) (most : Bool) {k : Nat} (hk : k < b.hours.length) : exI b most (k + 1) = stepT b.sl (exI b most k) (exH most b.hours[k]) := by
 unfold exI
 rw [topI_succ (extB b most) (by simpa [extB] using hk)]
 simp [extB]
theorem exI_top (b : Sb) : ∀ k, k ≤ b.hours.length → exI b true k = topI (bare b) k
 | 0, _ => rfl
 | k + 1, hk => by
  rw [exI_succ b true (by omega), topI_succ (bare b) (show k < b.hours.length by omega), exI_top b k (by omega)]
  simp [bare, exH, stepT]
/-- the ends of what nothing was seen of -/
theorem ends_law {b : Sb} (hb : OkB b) {h : Nat} (hh : h < b.hours.length) : (hiH (bare b) h : Int) = exI b true (h + 1) ∧ (hiH (extB b true) h : Int) = exI b true (h + 1) ∧ (hiH (extB b false) h : Int) = exI b false (h + 1) ∧ (loH (bare b) h : Int) ≤ exI b false (h + 1) ∧
    (loH (bare b) h ≤ loH (extB b true) h ∧ hiH (extB b true) h ≤ hiH (bare b) h) ∧ loH (bare b) h ≤ loH (extB b false) h ∧ hiH (extB b false) h ≤ hiH (bare b) h := by
 have hl : ∀ m, h < (extB b m).hours.length := fun m => by simpa [extB] using hh
 have h1 := hi_none (ok_bare hb) rfl (h := h) hh
 have h2 := hi_none (ok_ext hb true) rfl (hl true)
 have h3 := hi_none (ok_ext hb false) rfl (hl false)
 have h4 := sub_load (ok_bare hb) (ok_ext hb true) (ext_sub hb true) (rt_none (ok_ext hb true) rfl) (h := h) hh (hl true)
 have h5 := sub_load (ok_bare hb) (ok_ext hb false) (ext_sub hb false) (rt_none (ok_ext hb false) rfl) (h := h) hh (hl false)
 have h6 := exI_top b (h + 1) (by omega)
 refine ⟨by rw [h6, h1], h2, h3, ?_, ⟨h4.1, h4.2.2⟩, h5.1, h5.2.2⟩
 have : (hiH (extB b false) h : Int) = exI b false (h + 1) := h3
 omega
theorem saf_none {b : Sb} (hb : OkB b) (h0 : b.sights = []) {h : Nat} (hh : h < b.hours.length) : safB b h = decide (topI b (h + 1) ≤ b.sl.hold) := by
 unfold safB
 rw [hi_none hb h0 hh]
/-- a slope on which less lies, or that holds more, is safe in the same hours -/
theorem top_mono {b c : Sb} (hl : c.hours.length = b.hours.length) (h0 : c.hi ≤ b.hi) (hs : ∀ (k : Nat) (h1 : k < b.hours.length) (h2 : k < c.hours.length) (x y : Int), x ≤ y → stepT c.sl x c.hours[k] ≤ stepT b.sl y b.hours[k]) : ∀ k, k ≤ b.hours.length → topI c k ≤ topI b k
 | 0, _ => h0
 | k + 1, hk => by
  rw [topI_succ b (by omega), topI_succ c (by omega)]
  exact hs k (by omega) (by omega) _ _ (top_mono hl h0 hs k (by omega))
end Go.Proofs.YtkhmcofmjjmjhaaDoor
