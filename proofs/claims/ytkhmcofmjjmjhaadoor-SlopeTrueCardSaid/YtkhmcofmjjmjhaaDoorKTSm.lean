/- Slope: what a book brings, and what truths it has (maths). -/
import Derived.Test.YtkhmcofmjjmjhaaDoorKTSl

namespace Go.Proofs.YtkhmcofmjjmjhaaDoor
set_option linter.unusedSimpArgs false
set_option linter.unusedVariables false
open Go Go.RowKit
def bringP : List (Int × Int × Int) → List Int → List Int
 | [], parts => [parts.sum]
 | (w, lo, hi) :: bs, parts => (List.range (hi - lo + 1).toNat).flatMap fun (k : Nat) => bringP bs (parts ++ [w * (lo + k)])
def brAll (sl : Sl) (h : Hr) : List Int := bringP [(sl.snow, h.n1, h.n2), (sl.wind, h.w1, h.w2), (sl.sun, h.s1, h.s2)] []
def nubS (acc : List Int) (n : Int) : List Int := if acc.contains n then acc else acc ++ [n]
def nub (l : List Int) : List Int := l.foldl nubS []
def seenAt (l : List Si) (i : Nat) : List Si := l.filter fun s => s.hour == (i : Int)
def hpI (b : Sb) (i : Nat) (h : Hr) : Hp := ⟨h, b.sl, seenAt b.sights i, nub (brAll b.sl h)⟩
def hpsFrom (b : Sb) : Nat → List Hr → List Hp
 | _, [] => []
 | i, h :: hs => hpI b i h :: hpsFrom b (i + 1) hs
def hpsOf (b : Sb) : List Hp := hpsFrom b 0 b.hours
theorem hpsFrom_length (b : Sb) : ∀ (hs : List Hr) (i : Nat), (hpsFrom b i hs).length = hs.length
 | [], _ => rfl
 | h :: hs, i => by rw [hpsFrom, List.length_cons, List.length_cons, hpsFrom_length b hs]
theorem hpsOf_length (b : Sb) : (hpsOf b).length = b.hours.length := hpsFrom_length b _ _
theorem hpsFrom_at (b : Sb) : ∀ (hs : List Hr) (i k : Nat) (h : k < hs.length) (h' : k < (hpsFrom b i hs).length), (hpsFrom b i hs)[k] = hpI b (i + k) hs[k]
 | x :: hs, i, 0, _, _ => rfl
 | x :: hs, i, k + 1, h, h' => by
  simp only [hpsFrom, List.getElem_cons_succ]
  rw [hpsFrom_at b hs (i + 1) k (by simpa using h), show i + 1 + k = i + (k + 1) by omega]
theorem hpsOf_at (b : Sb) (k : Nat) (h : k < b.hours.length) (h' : k < (hpsOf b).length) : (hpsOf b)[k] = hpI b k b.hours[k] := by
 have := hpsFrom_at b b.hours 0 k h h'
 rwa [Nat.zero_add] at this
/-- what an hour can bring -/
def Brings (sl : Sl) (h : Hr) (n : Int) : Prop := ∃ a b c : Int, (h.n1 ≤ a ∧ a ≤ h.n2) ∧ (h.w1 ≤ b ∧ b ≤ h.w2) ∧ (h.s1 ≤ c ∧ c ≤ h.s2) ∧ n = sl.snow * a + sl.wind * b + sl.sun * c
theorem ex_range {lo hi : Int} {P : Int → Prop} : (∃ k, k < (hi - lo + 1).toNat ∧ P (lo + (k : Int))) ↔ ∃ a, (lo ≤ a ∧ a ≤ hi) ∧ P a := by
 constructor
 ·rintro ⟨k, h1, h2⟩; exact ⟨lo + k, ⟨by omega, by omega⟩, h2⟩
 ·rintro ⟨a, h1, h2⟩; exact ⟨(a - lo).toNat, by omega, by rw [show lo + ((a - lo).toNat : Int) = a by omega]; exact h2⟩
theorem mem_brAll {sl : Sl} {h : Hr} {n : Int} : n ∈ brAll sl h ↔ Brings sl h n := by
 unfold brAll Brings
 simp only [bringP, List.mem_flatMap, List.mem_range, List.nil_append, List.cons_append, List.mem_singleton, List.sum_cons, List.sum_nil]
 rw [ex_range (P := fun a => ∃ k, k < (h.w2 - h.w1 + 1).toNat ∧ ∃ j, j < (h.s2 - h.s1 + 1).toNat ∧ n = sl.snow * a + (sl.wind * (h.w1 + (k : Int)) + (sl.sun * (h.s1 + (j : Int)) + 0)))]
 constructor
 ·rintro ⟨a, ha, h2⟩
  rw [ex_range (P := fun b => ∃ j, j < (h.s2 - h.s1 + 1).toNat ∧ n = sl.snow * a + (sl.wind * b + (sl.sun * (h.s1 + (j : Int)) + 0)))] at h2
  obtain ⟨b, hb, h3⟩ := h2
  rw [ex_range (P := fun c => n = sl.snow * a + (sl.wind * b + (sl.sun * c + 0)))] at h3
  obtain ⟨c, hc, h4⟩ := h3
  exact ⟨a, b, c, ha, hb, hc, by omega⟩
 ·rintro ⟨a, b, c, ha, hb, hc, h4⟩
  refine ⟨a, ha, (ex_range (P := fun b => ∃ j, j < (h.s2 - h.s1 + 1).toNat ∧ n = sl.snow * a + (sl.wind * b + (sl.sun * (h.s1 + (j : Int)) + 0)))).2 ⟨b, hb, ?_⟩⟩
  exact (ex_range (P := fun c => n = sl.snow * a + (sl.wind * b + (sl.sun * c + 0)))).2 ⟨c, hc, by omega⟩
theorem mem_nubS {acc : List Int} {x n : Int} : n ∈ nubS acc x ↔ n ∈ acc ∨ n = x := by
 unfold nubS
 split
 ·rename_i h
  have h : x ∈ acc := by simpa using h
  exact ⟨.inl, fun e => e.elim id (fun e => e ▸ h)⟩
 ·simp
theorem mem_nub_acc {n : Int} : ∀ {l acc : List Int}, n ∈ l.foldl nubS acc ↔ n ∈ acc ∨ n ∈ l
 | [], acc => by simp
 | x :: l, acc => by rw [List.foldl_cons, mem_nub_acc, mem_nubS, List.mem_cons, or_assoc]
theorem mem_nub {l : List Int} {n : Int} : n ∈ nub l ↔ n ∈ l := by simp [nub, mem_nub_acc]
theorem nubS_len (acc : List Int) (n : Int) : (nubS acc n).length ≤ acc.length + 1 := by
 unfold nubS; split <;> simp
theorem nub_len_acc : ∀ (l acc : List Int), (l.foldl nubS acc).length ≤ acc.length + l.length
 | [], _ => by simp
 | n :: l, acc => by
  rw [List.foldl_cons]
  have := nub_len_acc l (nubS acc n)
  have := nubS_len acc n
  simp only [List.length_cons]; omega
theorem nub_len (l : List Int) : (nub l).length ≤ l.length := by have := nub_len_acc l []; simpa [nub] using this
/-- a truth of a book, from hour i on -/
def Tru (b : Sb) : Nat → List Hr → Nat → List (Nat × Bool) → Prop
 | _, [], _, [] => True
 | i, h :: hs, l, (m, f) :: t => (∃ n, Brings b.sl h n ∧ (m : Int) = max ((l : Int) - b.sl.settle) 0 + n) ∧ (f = true → b.sl.hold < (m : Int)) ∧ (∀ s ∈ b.sights, s.hour = (i : Int) → s.fell = f ∧ s.lo ≤ (m : Int) ∧ (m : Int) ≤ s.hi) ∧ Tru b (i + 1) hs (if f then 0 else m) t
 | _, [], _, _ :: _ => False
 | _, _ :: _, _, [] => False
def TrB (b : Sb) (t : List (Nat × Bool)) : Prop := ∃ l : Nat, (b.lo ≤ (l : Int) ∧ (l : Int) ≤ b.hi) ∧ Tru b 0 b.hours l t
theorem tru_iff (b : Sb) : ∀ (hs : List Hr) (i l : Nat) (t : List (Nat × Bool)), TruH (hpsFrom b i hs) l t ↔ Tru b i hs l t
 | [], _, _, [] => Iff.rfl
 | [], _, _, _ :: _ => Iff.rfl
 | _ :: _, _, _, [] => Iff.rfl
 | h :: hs, i, l, (m, f) :: t => by
  show (_ ∧ _ ∧ _ ∧ _) ↔ (_ ∧ _ ∧ _ ∧ _)
  rw [tru_iff b hs (i + 1)]
  refine and_congr ?_ (and_congr Iff.rfl (and_congr ?_ Iff.rfl))
  ·simp only [hpI, mem_nub, mem_brAll]
  ·simp only [hpI, seenAt, List.mem_filter, beq_iff_eq]
   exact ⟨fun h s h1 h2 => h s ⟨h1, h2⟩, fun h s ⟨h1, h2⟩ => h s h1 h2⟩
theorem Tru.length {b : Sb} {hs : List Hr} {i l : Nat} {t : List (Nat × Bool)} (h : Tru b i hs l t) : t.length = hs.length := by
 rw [TruH.length ((tru_iff b hs i l t).2 h), hpsFrom_length]
theorem TrB.length {b : Sb} {t : List (Nat × Bool)} (h : TrB b t) : t.length = b.hours.length := by
 obtain ⟨l, _, h⟩ := h
 exact h.length
theorem wB_iff {n lo hi : Int} : wB n lo hi = true ↔ lo ≤ n ∧ n ≤ hi := by unfold wB; simp
theorem spB_iff {lo hi most : Int} : spB lo hi most = true ↔ 0 ≤ lo ∧ lo ≤ hi ∧ hi ≤ most := by unfold spB; simp [and_assoc]
theorem naB_iff {lo hi most : Int} : naB lo hi most = true ↔ (0 ≤ lo ∧ lo ≤ hi ∧ hi ≤ most) ∧ hi - lo ≤ 3 := by unfold naB; rw [Bool.and_eq_true, spB_iff]; simp
structure OkB (b : Sb) : Prop where
 snow : 0 ≤ b.sl.snow ∧ b.sl.snow ≤ 5
 wind : 0 ≤ b.sl.wind ∧ b.sl.wind ≤ 5
 sun : 0 ≤ b.sl.sun ∧ b.sl.sun ≤ 5
 settle : 0 ≤ b.sl.settle ∧ b.sl.settle ≤ 30
 hold : 1 ≤ b.sl.hold ∧ b.sl.hold ≤ 300
 start : 0 ≤ b.lo ∧ b.lo ≤ b.hi ∧ b.hi ≤ 300
 hours : 1 ≤ b.hours.length ∧ b.hours.length ≤ 12
 sights : b.sights.length ≤ 6
 hour : ∀ h ∈ b.hours, ((0 ≤ h.n1 ∧ h.n1 ≤ h.n2 ∧ h.n2 ≤ 9) ∧ h.n2 - h.n1 ≤ 3) ∧ ((0 ≤ h.w1 ∧ h.w1 ≤ h.w2 ∧ h.w2 ≤ 5) ∧ h.w2 - h.w1 ≤ 3) ∧ ((0 ≤ h.s1 ∧ h.s1 ≤ h.s2 ∧ h.s2 ≤ 5) ∧ h.s2 - h.s1 ≤ 3)
 sight : ∀ s ∈ b.sights, (0 ≤ s.hour ∧ s.hour ≤ (b.hours.length : Int) - 1) ∧ 0 ≤ s.lo ∧ s.lo ≤ s.hi ∧ s.hi ≤ 2000
theorem ok_iff {b : Sb} : b.ok = true ↔ OkB b := by
 unfold Sb.ok Sb.head Sl.ok
 simp only [Bool.and_eq_true, wB_iff, spB_iff, decide_eq_true_eq, List.all_eq_true, Hr.ok, Si.ok, Sb.isHour, naB_iff]
 constructor
 ·rintro ⟨⟨⟨⟨⟨⟨h1, h2, h3⟩, h4, h5⟩, h6⟩, h7, h8⟩, h9⟩, h10⟩
  exact ⟨h1, h2, h3, h4, h5, h6, by omega, by omega, fun h hh => ⟨(h9 h hh).1.1, (h9 h hh).1.2, (h9 h hh).2⟩, fun s hs => h10 s hs⟩
 ·intro h
  exact ⟨⟨⟨⟨⟨⟨h.snow, h.wind, h.sun⟩, h.settle, h.hold⟩, h.start⟩, ⟨by have := h.hours; omega, by have := h.hours; omega⟩, by have := h.sights; omega⟩, fun x hx => ⟨⟨(h.hour x hx).1, (h.hour x hx).2.1⟩, (h.hour x hx).2.2⟩⟩, fun s hs => h.sight s hs⟩
theorem mul_to {a b c d : Int} (ha : 0 ≤ a ∧ a ≤ c) (hb : 0 ≤ b ∧ b ≤ d) : 0 ≤ a * b ∧ a * b ≤ c * d :=
 ⟨Int.mul_nonneg ha.1 hb.1, Int.mul_le_mul ha.2 hb.2 hb.1 (Int.le_trans ha.1 ha.2)⟩
theorem brings_to {b : Sb} (hb : OkB b) {h : Hr} (hh : h ∈ b.hours) {n : Int} (hn : Brings b.sl h n) : 0 ≤ n ∧ n ≤ 95 := by
 obtain ⟨x, y, z, hx, hy, hz, rfl⟩ := hn
 obtain ⟨h1, h2, h3⟩ := hb.hour h hh
 have m1 := mul_to hb.snow (b := x) (d := 9) ⟨by omega, by omega⟩
 have m2 := mul_to hb.wind (b := y) (d := 5) ⟨by omega, by omega⟩
 have m3 := mul_to hb.sun (b := z) (d := 5) ⟨by omega, by omega⟩
 omega
theorem small_from {b : Sb} (hb : OkB b) : ∀ (hs : List Hr) (i : Nat), (∀ h ∈ hs, h ∈ b.hours) → Small (hpsFrom b i hs)
 | [], _, _ => fun x hx => absurd hx (by simp [hpsFrom])
 | h :: hs, i, hh => fun x hx => by
  rw [hpsFrom, List.mem_cons] at hx
  rcases hx with rfl | hx
  ·exact ⟨fun n hn => brings_to hb (hh h (by simp)) (mem_brAll.1 (mem_nub.1 hn)), hb.settle.1⟩
  ·exact small_from hb hs (i + 1) (fun h hx => hh h (by simp [hx])) x hx
theorem small_of {b : Sb} (hb : OkB b) : Small (hpsOf b) := small_from hb _ _ fun _ h => h
/-- what can be left before the first hour -/
def f0 (b : Sb) : Nat → Bool := inF b.lo.toNat (b.hi.toNat - b.lo.toNat + 1)
theorem f0_iff {b : Sb} (hb : OkB b) {l : Nat} : f0 b l = true ↔ b.lo ≤ (l : Int) ∧ (l : Int) ≤ b.hi := by
 have := hb.start
 unfold f0 inF
 rw [decide_eq_true_eq]
 omega
theorem f0_fit {b : Sb} (hb : OkB b) : Fit (f0 b) 300 := fun k hk => by
 have := (f0_iff hb).1 hk
 have := hb.start
 omega
theorem f0_any {b : Sb} (hb : OkB b) : anyB (f0 b) = true := anyB_iff.2 ⟨b.lo.toNat, by have := hb.start; omega, (f0_iff hb).2 (by have := hb.start; omega)⟩
theorem hps_to {b : Sb} (hb : OkB b) : 300 + 95 * (hpsOf b).length < 1900 := by
 rw [hpsOf_length]; have := hb.hours; omega
theorem isT_iff {b : Sb} (hb : OkB b) {t : List (Nat × Bool)} : TrB b t ↔ ∃ l, f0 b l = true ∧ TruH (hpsOf b) l t := by
 unfold TrB hpsOf
 simp only [f0_iff hb, tru_iff]
theorem right_iff {b : Sb} (hb : OkB b) : canF (hpsOf b) (f0 b) = true ↔ ∃ t, TrB b t := by
 rw [can_iff _ _ 300 (f0_fit hb) (hps_to hb) (small_of hb) (f0_any hb)]
 simp only [isT_iff hb]
 exact ⟨fun ⟨l, t, h⟩ => ⟨t, l, h⟩, fun ⟨t, l, h⟩ => ⟨l, t, h⟩⟩
theorem outs_iff {b : Sb} (hb : OkB b) {i : Nat} (hi : i < (hpsOf b).length) {m : Nat} : ouF (hpsOf b)[i] ((hpsOf b).drop (i + 1)) (atF (hpsOf b) (f0 b) i) m = true ↔ ∃ t, TrB b t ∧ (t[i]?).map (·.1) = some m := by
 rw [at_iff i _ _ 300 hi (f0_fit hb) (hps_to hb) (small_of hb)]
 simp only [isT_iff hb]
 exact ⟨fun ⟨l, t, h1, h2, h3⟩ => ⟨t, ⟨l, h1, h2⟩, h3⟩, fun ⟨t, ⟨l, h1, h2⟩, h3⟩ => ⟨l, t, h1, h2, h3⟩⟩
theorem often_iff {b : Sb} (hb : OkB b) {x : Hp} {xs : List Hp} (hx : hpsOf b = x :: xs) {k : Nat} : (allF x xs (f0 b) 2000).testBit k = true ↔ ∃ t, TrB b t ∧ fallsN t = k := by
 have h1 := hps_to hb
 have h2 := small_of hb
 rw [hx] at h1 h2
 rw [all_iff (f0_fit hb) (by simpa using h1) h2]
 simp only [isT_iff hb, hx]
 exact ⟨fun ⟨l, t, h1, h2, h3⟩ => ⟨t, ⟨l, h1, h2⟩, h3⟩, fun ⟨t, ⟨l, h1, h2⟩, h3⟩ => ⟨l, t, h1, h2, h3⟩⟩
end Go.Proofs.YtkhmcofmjjmjhaaDoor
