/- Slope: what the exported functions return, and what it means (maths). -/
import Derived.Test.YtkhmcofmjjmjhaaDoorKLSl

namespace Go.Proofs.YtkhmcofmjjmjhaaDoor
set_option linter.unusedSimpArgs false
set_option linter.unusedVariables false
open Go Go.RowKit
def bringP : List (Int × Int × Int) → List Int → List Int
 | [], parts => [parts.sum]
 | (w, lo, hi) :: bs, parts => (List.range (hi - lo + 1).toNat).flatMap fun (k : Nat) => bringP bs (parts ++ [w * (lo + k)])
def brAll (sl : Sl) (h : Hr) : List Int := bringP [(sl.snow, h.n1, h.n2), (sl.wind, h.w1, h.w2), (sl.sun, h.s1, h.s2)] []
def nubS (acc : List Int) (n : Int) : List Int := if acc.contains n then acc else acc ++ [n]
def nub (l : List Int) : List Int := l.foldl nubS []
def seenAt (l : List Si) (i : Nat) : List Si := l.filter fun s => s.hour == (i : Int)
def hpI (b : Sb) (i : Nat) (h : Hr) : Hp := ⟨h, b.sl, seenAt b.sights i, nub (brAll b.sl h)⟩
def hpsFrom (b : Sb) : Nat → List Hr → List Hp
 | _, [] => []
 | i, h :: hs => hpI b i h :: hpsFrom b (i + 1) hs
def hpsOf (b : Sb) : List Hp := hpsFrom b 0 b.hours
theorem hpsFrom_length (b : Sb) : ∀ (hs : List Hr) (i : Nat), (hpsFrom b i hs).length = hs.length
 | [], _ => rfl
 | h :: hs, i => by rw [hpsFrom, List.length_cons, List.length_cons, hpsFrom_length b hs]
theorem hpsOf_length (b : Sb) : (hpsOf b).length = b.hours.length := hpsFrom_length b _ _
theorem hpsFrom_at (b : Sb) : ∀ (hs : List Hr) (i k : Nat) (h : k < hs.length) (h' : k < (hpsFrom b i hs).length), (hpsFrom b i hs)[k] = hpI b (i + k) hs[k]
 | x :: hs, i, 0, _, _ => rfl
 | x :: hs, i, k + 1, h, h' => by
  simp only [hpsFrom, List.getElem_cons_succ]; rw [hpsFrom_at b hs (i + 1) k (by simpa using h), show i + 1 + k = i + (k + 1) by omega]
theorem hpsOf_at (b : Sb) (k : Nat) (h : k < b.hours.length) (h' : k < (hpsOf b).length) : (hpsOf b)[k] = hpI b k b.hours[k] := by
 have := hpsFrom_at b b.hours 0 k h h'
 rwa [Nat.zero_add] at this
/-- what an hour can bring -/
def Brings (sl : Sl) (h : Hr) (n : Int) : Prop := ∃ a b c : Int, (h.n1 ≤ a ∧ a ≤ h.n2) ∧ (h.w1 ≤ b ∧ b ≤ h.w2) ∧ (h.s1 ≤ c ∧ c ≤ h.s2) ∧ n = sl.snow * a + sl.wind * b + sl.sun * c
theorem ex_range {lo hi : Int} {P : Int → Prop} : (∃ k, k < (hi - lo + 1).toNat ∧ P (lo + (k : Int))) ↔ ∃ a, (lo ≤ a ∧ a ≤ hi) ∧ P a := by
 constructor
 ·rintro ⟨k, h1, h2⟩; exact ⟨lo + k, ⟨by omega, by omega⟩, h2⟩
 ·rintro ⟨a, h1, h2⟩; exact ⟨(a - lo).toNat, by omega, by rw [show lo + ((a - lo).toNat : Int) = a by omega]; exact h2⟩
theorem mem_brAll {sl : Sl} {h : Hr} {n : Int} : n ∈ brAll sl h ↔ Brings sl h n := by
 unfold brAll Brings
 simp only [bringP, List.mem_flatMap, List.mem_range, List.nil_append, List.cons_append, List.mem_singleton, List.sum_cons, List.sum_nil]; rw [ex_range (P := fun a => ∃ k, k < (h.w2 - h.w1 + 1).toNat ∧ ∃ j, j < (h.s2 - h.s1 + 1).toNat ∧ n = sl.snow * a + (sl.wind * (h.w1 + (k : Int)) + (sl.sun * (h.s1 + (j : Int)) + 0)))]
 constructor
 ·rintro ⟨a, ha, h2⟩; rw [ex_range (P := fun b => ∃ j, j < (h.s2 - h.s1 + 1).toNat ∧ n = sl.snow * a + (sl.wind * b + (sl.sun * (h.s1 + (j : Int)) + 0)))] at h2; obtain ⟨b, hb, h3⟩ := h2; rw [ex_range (P := fun c => n = sl.snow * a + (sl.wind * b + (sl.sun * c + 0)))] at h3; obtain ⟨c, hc, h4⟩ := h3; exact ⟨a, b, c, ha, hb, hc, by omega⟩
 ·rintro ⟨a, b, c, ha, hb, hc, h4⟩; refine ⟨a, ha, (ex_range (P := fun b => ∃ j, j < (h.s2 - h.s1 + 1).toNat ∧ n = sl.snow * a + (sl.wind * b + (sl.sun * (h.s1 + (j : Int)) + 0)))).2 ⟨b, hb, ?_⟩⟩; exact (ex_range (P := fun c => n = sl.snow * a + (sl.wind * b + (sl.sun * c + 0)))).2 ⟨c, hc, by omega⟩
theorem mem_nubS {acc : List Int} {x n : Int} : n ∈ nubS acc x ↔ n ∈ acc ∨ n = x := by
 unfold nubS
 split
 ·rename_i h
  have h : x ∈ acc := by simpa using h
  exact ⟨.inl, fun e => e.elim id (fun e => e ▸ h)⟩
 ·simp
theorem mem_nub_acc {n : Int} : ∀ {l acc : List Int}, n ∈ l.foldl nubS acc ↔ n ∈ acc ∨ n ∈ l
 | [], acc => by simp
 | x :: l, acc => by rw [List.foldl_cons, mem_nub_acc, mem_nubS, List.mem_cons, or_assoc]
theorem mem_nub {l : List Int} {n : Int} : n ∈ nub l ↔ n ∈ l := by simp [nub, mem_nub_acc]
theorem nubS_len (acc : List Int) (n : Int) : (nubS acc n).length ≤ acc.length + 1 := by
 unfold nubS; split <;> simp
theorem nub_len_acc : ∀ (l acc : List Int), (l.foldl nubS acc).length ≤ acc.length + l.length
 | [], _ => by simp
 | n :: l, acc => by
  rw [List.foldl_cons]; have := nub_len_acc l (nubS acc n); have := nubS_len acc n; simp only [List.length_cons]; omega
theorem nub_len (l : List Int) : (nub l).length ≤ l.length := by have := nub_len_acc l []; simpa [nub] using this
/-- a truth of a book, from hour i on -/
def Tru (b : Sb) : Nat → List Hr → Nat → List (Nat × Bool) → Prop
 | _, [], _, [] => True
 | i, h :: hs, l, (m, f) :: t => (∃ n, Brings b.sl h n ∧ (m : Int) = max ((l : Int) - b.sl.settle) 0 + n) ∧ (f = true → b.sl.hold < (m : Int)) ∧ (∀ s ∈ b.sights, s.hour = (i : Int) → s.fell = f ∧ s.lo ≤ (m : Int) ∧ (m : Int) ≤ s.hi) ∧ Tru b (i + 1) hs (if f then 0 else m) t
 | _, [], _, _ :: _ => False
 | _, _ :: _, _, [] => False
def TrB (b : Sb) (t : List (Nat × Bool)) : Prop := ∃ l : Nat, (b.lo ≤ (l : Int) ∧ (l : Int) ≤ b.hi) ∧ Tru b 0 b.hours l t
theorem tru_iff (b : Sb) : ∀ (hs : List Hr) (i l : Nat) (t : List (Nat × Bool)), TruH (hpsFrom b i hs) l t ↔ Tru b i hs l t
 | [], _, _, [] => Iff.rfl
 | [], _, _, _ :: _ => Iff.rfl
 | _ :: _, _, _, [] => Iff.rfl
 | h :: hs, i, l, (m, f) :: t => by
  show (_ ∧ _ ∧ _ ∧ _) ↔ (_ ∧ _ ∧ _ ∧ _)
  rw [tru_iff b hs (i + 1)]; refine and_congr ?_ (and_congr Iff.rfl (and_congr ?_ Iff.rfl))
  ·simp only [hpI, mem_nub, mem_brAll]
  ·simp only [hpI, seenAt, List.mem_filter, beq_iff_eq]; exact ⟨fun h s h1 h2 => h s ⟨h1, h2⟩, fun h s ⟨h1, h2⟩ => h s h1 h2⟩
theorem Tru.length {b : Sb} {hs : List Hr} {i l : Nat} {t : List (Nat × Bool)} (h : Tru b i hs l t) : t.length = hs.length := by
 rw [TruH.length ((tru_iff b hs i l t).2 h), hpsFrom_length]
theorem TrB.length {b : Sb} {t : List (Nat × Bool)} (h : TrB b t) : t.length = b.hours.length := by
 obtain ⟨l, _, h⟩ := h; exact h.length
theorem wB_iff {n lo hi : Int} : wB n lo hi = true ↔ lo ≤ n ∧ n ≤ hi := by unfold wB; simp
theorem spB_iff {lo hi most : Int} : spB lo hi most = true ↔ 0 ≤ lo ∧ lo ≤ hi ∧ hi ≤ most := by unfold spB; simp [and_assoc]
theorem naB_iff {lo hi most : Int} : naB lo hi most = true ↔ (0 ≤ lo ∧ lo ≤ hi ∧ hi ≤ most) ∧ hi - lo ≤ 3 := by unfold naB; rw [Bool.and_eq_true, spB_iff]; simp
structure OkB (b : Sb) : Prop where
 snow : 0 ≤ b.sl.snow ∧ b.sl.snow ≤ 5
 wind : 0 ≤ b.sl.wind ∧ b.sl.wind ≤ 5
 sun : 0 ≤ b.sl.sun ∧ b.sl.sun ≤ 5
 settle : 0 ≤ b.sl.settle ∧ b.sl.settle ≤ 30
 hold : 1 ≤ b.sl.hold ∧ b.sl.hold ≤ 300
 start : 0 ≤ b.lo ∧ b.lo ≤ b.hi ∧ b.hi ≤ 300
 hours : 1 ≤ b.hours.length ∧ b.hours.length ≤ 12
 sights : b.sights.length ≤ 6
 hour : ∀ h ∈ b.hours, ((0 ≤ h.n1 ∧ h.n1 ≤ h.n2 ∧ h.n2 ≤ 9) ∧ h.n2 - h.n1 ≤ 3) ∧ ((0 ≤ h.w1 ∧ h.w1 ≤ h.w2 ∧ h.w2 ≤ 5) ∧ h.w2 - h.w1 ≤ 3) ∧ ((0 ≤ h.s1 ∧ h.s1 ≤ h.s2 ∧ h.s2 ≤ 5) ∧ h.s2 - h.s1 ≤ 3)
 sight : ∀ s ∈ b.sights, (0 ≤ s.hour ∧ s.hour ≤ (b.hours.length : Int) - 1) ∧ 0 ≤ s.lo ∧ s.lo ≤ s.hi ∧ s.hi ≤ 2000
theorem ok_iff {b : Sb} : b.ok = true ↔ OkB b := by
 unfold Sb.ok Sb.head Sl.ok
 simp only [Bool.and_eq_true, wB_iff, spB_iff, decide_eq_true_eq, List.all_eq_true, Hr.ok, Si.ok, Sb.isHour, naB_iff]
 constructor
 ·rintro ⟨⟨⟨⟨⟨⟨h1, h2, h3⟩, h4, h5⟩, h6⟩, h7, h8⟩, h9⟩, h10⟩; exact ⟨h1, h2, h3, h4, h5, h6, by omega, by omega, fun h hh => ⟨(h9 h hh).1.1, (h9 h hh).1.2, (h9 h hh).2⟩, fun s hs => h10 s hs⟩
 ·intro h
  exact ⟨⟨⟨⟨⟨⟨h.snow, h.wind, h.sun⟩, h.settle, h.hold⟩, h.start⟩, ⟨by have := h.hours; omega, by have := h.hours; omega⟩, by have := h.sights; omega⟩, fun x hx => ⟨⟨(h.hour x hx).1, (h.hour x hx).2.1⟩, (h.hour x hx).2.2⟩⟩, fun s hs => h.sight s hs⟩
theorem mul_to {a b c d : Int} (ha : 0 ≤ a ∧ a ≤ c) (hb : 0 ≤ b ∧ b ≤ d) : 0 ≤ a * b ∧ a * b ≤ c * d :=
 ⟨Int.mul_nonneg ha.1 hb.1, Int.mul_le_mul ha.2 hb.2 hb.1 (Int.le_trans ha.1 ha.2)⟩
theorem brings_to {b : Sb} (hb : OkB b) {h : Hr} (hh : h ∈ b.hours) {n : Int} (hn : Brings b.sl h n) : 0 ≤ n ∧ n ≤ 95 := by
 obtain ⟨x, y, z, hx, hy, hz, rfl⟩ := hn; obtain ⟨h1, h2, h3⟩ := hb.hour h hh; have m1 := mul_to hb.snow (b := x) (d := 9) ⟨by omega, by omega⟩; have m2 := mul_to hb.wind (b := y) (d := 5) ⟨by omega, by omega⟩; have m3 := mul_to hb.sun (b := z) (d := 5) ⟨by omega, by omega⟩
 omega
theorem small_from {b : Sb} (hb : OkB b) : ∀ (hs : List Hr) (i : Nat), (∀ h ∈ hs, h ∈ b.hours) → Small (hpsFrom b i hs)
 | [], _, _ => fun x hx => absurd hx (by simp [hpsFrom])
 | h :: hs, i, hh => fun x hx => by
  rw [hpsFrom, List.mem_cons] at hx
  rcases hx with rfl | hx
  ·exact ⟨fun n hn => brings_to hb (hh h (by simp)) (mem_brAll.1 (mem_nub.1 hn)), hb.settle.1⟩
  ·exact small_from hb hs (i + 1) (fun h hx => hh h (by simp [hx])) x hx
theorem small_of {b : Sb} (hb : OkB b) : Small (hpsOf b) := small_from hb _ _ fun _ h => h
/-- what can be left before the first hour -/
def f0 (b : Sb) : Nat → Bool := inF b.lo.toNat (b.hi.toNat - b.lo.toNat + 1)
theorem f0_iff {b : Sb} (hb : OkB b) {l : Nat} : f0 b l = true ↔ b.lo ≤ (l : Int) ∧ (l : Int) ≤ b.hi := by
 have := hb.start
 unfold f0 inF
 rw [decide_eq_true_eq]
 omega
theorem f0_fit {b : Sb} (hb : OkB b) : Fit (f0 b) 300 := fun k hk => by
 have := (f0_iff hb).1 hk; have := hb.start
 omega
theorem f0_any {b : Sb} (hb : OkB b) : anyB (f0 b) = true := anyB_iff.2 ⟨b.lo.toNat, by have := hb.start; omega, (f0_iff hb).2 (by have := hb.start; omega)⟩
theorem hps_to {b : Sb} (hb : OkB b) : 300 + 95 * (hpsOf b).length < 1900 := by
 rw [hpsOf_length]; have := hb.hours; omega
theorem isT_iff {b : Sb} (hb : OkB b) {t : List (Nat × Bool)} : TrB b t ↔ ∃ l, f0 b l = true ∧ TruH (hpsOf b) l t := by
 unfold TrB hpsOf
 simp only [f0_iff hb, tru_iff]
theorem right_iff {b : Sb} (hb : OkB b) : canF (hpsOf b) (f0 b) = true ↔ ∃ t, TrB b t := by
 rw [can_iff _ _ 300 (f0_fit hb) (hps_to hb) (small_of hb) (f0_any hb)]; simp only [isT_iff hb]; exact ⟨fun ⟨l, t, h⟩ => ⟨t, l, h⟩, fun ⟨t, l, h⟩ => ⟨l, t, h⟩⟩
theorem outs_iff {b : Sb} (hb : OkB b) {i : Nat} (hi : i < (hpsOf b).length) {m : Nat} : ouF (hpsOf b)[i] ((hpsOf b).drop (i + 1)) (atF (hpsOf b) (f0 b) i) m = true ↔ ∃ t, TrB b t ∧ (t[i]?).map (·.1) = some m := by
 rw [at_iff i _ _ 300 hi (f0_fit hb) (hps_to hb) (small_of hb)]; simp only [isT_iff hb]; exact ⟨fun ⟨l, t, h1, h2, h3⟩ => ⟨t, ⟨l, h1, h2⟩, h3⟩, fun ⟨t, ⟨l, h1, h2⟩, h3⟩ => ⟨l, t, h1, h2, h3⟩⟩
theorem often_iff {b : Sb} (hb : OkB b) {x : Hp} {xs : List Hp} (hx : hpsOf b = x :: xs) {k : Nat} : (allF x xs (f0 b) 2000).testBit k = true ↔ ∃ t, TrB b t ∧ fallsN t = k := by
 have h1 := hps_to hb; have h2 := small_of hb; rw [hx] at h1 h2; rw [all_iff (f0_fit hb) (by simpa using h1) h2]; simp only [isT_iff hb, hx]; exact ⟨fun ⟨l, t, h1, h2, h3⟩ => ⟨t, ⟨l, h1, h2⟩, h3⟩, fun ⟨t, ⟨l, h1, h2⟩, h3⟩ => ⟨l, t, h1, h2, h3⟩⟩
end Go.Proofs.YtkhmcofmjjmjhaaDoor
namespace Go.Proofs.YtkhmcofmjjmjhaaDoor
set_option linter.unusedSimpArgs false
set_option linter.unusedVariables false
open Go Go.RowKit
/-- strictly increasing numbers from one on, below another one -/
def IncN : Nat → Nat → List Nat → Prop
 | _, _, [] => True
 | s, n, x :: t => s ≤ x ∧ x < n ∧ IncN (x + 1) n t
def lessN : List Nat → List Nat → Bool
 | [], [] => false
 | [], _ :: _ => true
 | _ :: _, [] => false
 | x :: a, y :: b => if x < y then true else if y < x then false else lessN a b
theorem IncN.mono {s s' n : Nat} (h : s ≤ s') : ∀ {u : List Nat}, IncN s' n u → IncN s n u
 | [], _ => trivial
 | _ :: _, ⟨h1, h2, h3⟩ => ⟨by omega, h2, h3⟩
/-- the search for fewer: with a list so far, from a number on, and the best one so far -/
def leaP (C : List Nat → Bool) (n : Nat) : Nat → List Nat → Nat → List Nat → List Nat
 | 0, _, _, best => best
 | d + 1, out, k, best => if best.length ≤ out.length then best else if C out then out else (List.range' k (n - k)).foldl (fun best i => leaP C n d (out ++ [i]) (i + 1) best) best
def wroP (C : List Nat → Bool) (n : Nat) : List Nat := leaP C n (n + 1) [] 0 (List.range n)
/-- r is the first one of the shortest that go on from a list, if there is one shorter than the best one -/
def Fst (C : List Nat → Bool) (out best r : List Nat) (S : List Nat → Prop) : Prop :=
 (r = best ∧ ∀ u, S u → C (out ++ u) = true → best.length ≤ out.length + u.length) ∨
 (∃ t, r = out ++ t ∧ S t ∧ C r = true ∧ r.length < best.length ∧ ∀ u, S u → C (out ++ u) = true → r.length ≤ out.length + u.length ∧ (out.length + u.length = r.length → lessN u t = false))
theorem leaP_fst (C : List Nat → Bool) (n : Nat) : ∀ (d : Nat) (out : List Nat) (k : Nat) (best : List Nat), n - k < d → Fst C out best (leaP C n d out k best) (IncN k n)
 | 0, _, _, _, h => absurd h (by omega)
 | d + 1, out, k, best, hd => by
  unfold leaP
  by_cases h1 : best.length ≤ out.length
  ·rw [if_pos h1]; exact .inl ⟨rfl, fun u _ _ => by omega⟩
  ·rw [if_neg h1]
   by_cases h2 : C out = true
   ·rw [if_pos h2]; refine .inr ⟨[], by simp, trivial, h2, by omega, fun u _ _ => ⟨by omega, fun e => ?_⟩⟩; have : u = [] := List.eq_nil_of_length_eq_zero (by omega); subst this; rfl
   ·rw [if_neg h2]
    have key : ∀ (m i : Nat) (b : List Nat), k ≤ i → i + m = n → Fst C out b ((List.range' i m).foldl (fun best i => leaP C n d (out ++ [i]) (i + 1) best) b) (fun u => u ≠ [] ∧ IncN i n u) := by
     intro m
     induction m with
     | zero =>
      intro i b hi he
      refine .inl ⟨rfl, fun u hu _ => ?_⟩
      cases u with
      | nil => exact absurd rfl hu.1
      | cons x u => have := hu.2.1; have := hu.2.2.1; omega
     | succ m ih =>
      intro i b hi he
      rw [List.range'_succ, List.foldl_cons]; have h3 := leaP_fst C n d (out ++ [i]) (i + 1) b (by omega); have h4 := ih (i + 1) (leaP C n d (out ++ [i]) (i + 1) b) (by omega) (by omega); obtain ⟨b1, hb1⟩ : ∃ b1, leaP C n d (out ++ [i]) (i + 1) b = b1 := ⟨_, rfl⟩; rw [hb1] at h3 h4 ⊢; obtain ⟨r, hr⟩ : ∃ r, (List.range' (i + 1) m).foldl (fun best i => leaP C n d (out ++ [i]) (i + 1) best) b1 = r := ⟨_, rfl⟩; rw [hr] at h4 ⊢; clear hb1 hr
      -- those that begin with i
      have hat : ∀ u, u ≠ [] → IncN i n u → (∃ v, u = i :: v ∧ IncN (i + 1) n v) ∨ IncN (i + 1) n u := fun u hu h => by
       cases u with
       | nil => exact absurd rfl hu
       | cons x u =>
        by_cases e : x = i
        ·subst e; exact .inl ⟨u, rfl, h.2.2⟩
        ·exact .inr ⟨by have := h.1; omega, h.2.1, h.2.2⟩
      have hlen : ∀ v : List Nat, (out ++ [i]).length + v.length = out.length + (i :: v).length := fun v => by simp; omega
      have happ : ∀ v : List Nat, (out ++ [i]) ++ v = out ++ i :: v := fun v => by simp
      have hgt : ∀ (v : List Nat) (u : List Nat), u ≠ [] → IncN (i + 1) n u → lessN u (i :: v) = false := fun v u hu h => by
       cases u with
       | nil => exact absurd rfl hu
       | cons x u =>
        have := h.1; simp only [lessN]; rw [if_neg (by omega), if_pos (by omega)]
      rcases h4 with ⟨rfl, h4⟩ | ⟨t, rfl, ⟨ht0, ht⟩, h6, h7, h8⟩
      ·rcases h3 with ⟨rfl, h3⟩ | ⟨t, rfl, ht, h6, h7, h8⟩
       ·refine .inl ⟨rfl, fun u hu hC => ?_⟩
        rcases hat u hu.1 hu.2 with ⟨v, rfl, hv⟩ | hv
        ·have := h3 v hv (by rw [happ]; exact hC); rw [hlen] at this; exact this
        ·exact h4 u ⟨hu.1, hv⟩ hC
       ·refine .inr ⟨i :: t, happ t, ⟨by simp, Nat.le_refl _, by omega, ht⟩, h6, h7, fun u hu hC => ?_⟩
        rcases hat u hu.1 hu.2 with ⟨v, rfl, hv⟩ | hv
        ·have h9 := h8 v hv (by rw [happ]; exact hC); rw [hlen] at h9; refine ⟨h9.1, fun e => ?_⟩; have := h9.2 e; simp only [lessN]; rw [if_neg (by omega), if_neg (by omega)]; exact this
        ·exact ⟨h4 u ⟨hu.1, hv⟩ hC, fun _ => hgt _ _ hu.1 hv⟩
      ·refine .inr ⟨t, rfl, ⟨ht0, ht.mono (by omega)⟩, h6, ?_, fun u hu hC => ?_⟩
       ·rcases h3 with ⟨rfl, _⟩ | ⟨_, _, _, _, h9, _⟩
        ·exact h7
        ·omega
       ·rcases hat u hu.1 hu.2 with ⟨v, rfl, hv⟩ | hv
        ·have hb : b1.length ≤ out.length + (i :: v).length := by
          rcases h3 with ⟨rfl, h3⟩ | ⟨t', rfl, _, _, _, h8'⟩
          ·have := h3 v hv (by rw [happ]; exact hC); rw [hlen] at this; exact this
          ·have := (h8' v hv (by rw [happ]; exact hC)).1; rw [hlen] at this; exact this
         exact ⟨by omega, fun e => by omega⟩
        ·exact h8 u ⟨hu.1, hv⟩ hC
    by_cases hk : k ≤ n
    ·rcases key (n - k) k best (Nat.le_refl _) (by omega) with ⟨h3, h4⟩ | ⟨t, h3, h4, h5, h6, h7⟩
     ·refine .inl ⟨h3, fun u hu hC => ?_⟩
      by_cases e : u = []
      ·subst e; rw [List.append_nil] at hC; exact absurd hC h2
      ·exact h4 u ⟨e, hu⟩ hC
     ·refine .inr ⟨t, h3, h4.2, h5, h6, fun u hu hC => ?_⟩
      by_cases e : u = []
      ·subst e; rw [List.append_nil] at hC; exact absurd hC h2
      ·exact h7 u ⟨e, hu⟩ hC
    ·rw [show n - k = 0 by omega]; refine .inl ⟨rfl, fun u hu hC => ?_⟩
     cases u with
     | nil => rw [List.append_nil] at hC; exact absurd hC h2
     | cons x u => have := hu.1; have := hu.2.1; omega
theorem leaP_le (C : List Nat → Bool) (n : Nat) (d : Nat) (out : List Nat) (k : Nat) (best : List Nat) (h : n - k < d) : (leaP C n d out k best).length ≤ best.length := by
 rcases leaP_fst C n d out k best h with ⟨h1, _⟩ | ⟨t, _, _, _, h4, _⟩
 ·rw [h1]; exact Nat.le_refl _
 ·omega
end Go.Proofs.YtkhmcofmjjmjhaaDoor
namespace Go.Proofs.YtkhmcofmjjmjhaaDoor
set_option linter.unusedSimpArgs false
set_option linter.unusedVariables false
open Go Go.RowKit
def minB (f : Nat → Bool) : Nat := ((List.range 2000).find? f).getD 0
def maxB (f : Nat → Bool) : Nat := ((List.range 2000).reverse.find? f).getD 0
theorem find_range {f : Nat → Bool} : ∀ (n : Nat) (s k : Nat), (List.range' s n).find? f = some k → f k = true ∧ s ≤ k ∧ k < s + n ∧ ∀ j, s ≤ j → j < k → f j = false
 | 0, s, k, h => by simp at h
 | n + 1, s, k, h => by
  rw [List.range'_succ, List.find?_cons] at h
  cases hf : f s
  ·rw [hf] at h; obtain ⟨h1, h2, h3, h4⟩ := find_range n (s + 1) k h; refine ⟨h1, by omega, by omega, fun j hj hk => ?_⟩
   by_cases e : j = s
   ·subst e; exact hf
   ·exact h4 j (by omega) hk
  ·rw [hf] at h; obtain rfl := Option.some.inj h; exact ⟨hf, Nat.le_refl _, by omega, fun j h1 h2 => by omega⟩
theorem minB_is {f : Nat → Bool} {k : Nat} (hk : k < 2000) (h : f k = true) : f (minB f) = true ∧ minB f < 2000 ∧ ∀ j, j < minB f → f j = false := by
 unfold minB
 cases hf : (List.range 2000).find? f with
 | none => exact absurd h (List.find?_eq_none.1 hf k (List.mem_range.2 hk))
 | some m =>
  rw [List.range_eq_range'] at hf; obtain ⟨h1, _, h3, h4⟩ := find_range _ _ _ hf; exact ⟨h1, by simpa using h3, fun j hj => h4 j (by omega) hj⟩
theorem find_back {f : Nat → Bool} : ∀ (n : Nat) (k : Nat), (List.range n).reverse.find? f = some k → f k = true ∧ k < n ∧ ∀ j, k < j → j < n → f j = false
 | 0, k, h => by simp at h
 | n + 1, k, h => by
  rw [List.range_succ, List.reverse_append] at h; simp only [List.reverse_cons, List.reverse_nil, List.nil_append, List.cons_append, List.find?_cons] at h
  cases hf : f n
  ·rw [hf] at h; obtain ⟨h1, h2, h3⟩ := find_back n k h; refine ⟨h1, by omega, fun j hj hk => ?_⟩
   by_cases e : j = n
   ·subst e; exact hf
   ·exact h3 j hj (by omega)
  ·rw [hf] at h; obtain rfl := Option.some.inj h; exact ⟨hf, by omega, fun j h1 h2 => by omega⟩
theorem maxB_is {f : Nat → Bool} {k : Nat} (hk : k < 2000) (h : f k = true) : f (maxB f) = true ∧ maxB f < 2000 ∧ ∀ j, maxB f < j → j < 2000 → f j = false := by
 unfold maxB
 cases hf : (List.range 2000).reverse.find? f with
 | none => exact absurd h (List.find?_eq_none.1 hf k (List.mem_reverse.2 (List.mem_range.2 hk)))
 | some m =>
  obtain ⟨h1, h3, h4⟩ := find_back _ _ hf; exact ⟨h1, h3, fun j hj hk => h4 j hj hk⟩
/-- the two ends of what is so -/
structure EndP (p : Nat → Prop) (lo hi : Nat) : Prop where
 low : p lo
 high : p hi
 all : ∀ m, p m → lo ≤ m ∧ m ≤ hi
theorem EndP.unique {p : Nat → Prop} {lo hi lo' hi' : Nat} (h : EndP p lo hi) (h' : EndP p lo' hi') : lo = lo' ∧ hi = hi' := by
 have h1 := h.all _ h'.low; have h2 := h.all _ h'.high; have h3 := h'.all _ h.low; have h4 := h'.all _ h.high
 omega
theorem ends_of {f : Nat → Bool} {p : Nat → Prop} (hp : ∀ m, f m = true ↔ p m) (hl : ∀ m, p m → m < 2000) (he : ∃ m, p m) : EndP p (minB f) (maxB f) := by
 obtain ⟨m, hm⟩ := he; obtain ⟨h1, h2, h3⟩ := minB_is (hl m hm) ((hp m).2 hm); obtain ⟨g1, g2, g3⟩ := maxB_is (hl m hm) ((hp m).2 hm); refine ⟨(hp _).1 h1, (hp _).1 g1, fun k hk => ⟨?_, ?_⟩⟩
 ·refine Nat.le_of_not_lt fun hlt => ?_; have := h3 k hlt; rw [(hp k).2 hk] at this; cases this
 ·refine Nat.le_of_not_lt fun hlt => ?_; have := g3 k hlt (hl k hk); rw [(hp k).2 hk] at this; cases this
/-- whether a book can be true -/
def rtB (b : Sb) : Bool := canF (hpsOf b) (f0 b)
/-- the loads of an hour -/
def outB (b : Sb) (h : Nat) (m : Nat) : Bool := match (hpsOf b).drop h with
 | x :: xs => ouF x xs (atF (hpsOf b) (f0 b) h) m
 | [] => false
def loH (b : Sb) (h : Nat) : Nat := minB (outB b h)
def hiH (b : Sb) (h : Nat) : Nat := maxB (outB b h)
def safB (b : Sb) (h : Nat) : Bool := decide ((hiH b h : Int) ≤ b.sl.hold)
/-- how often the slope lets go -/
def oftN (b : Sb) : Nat := match hpsOf b with
 | x :: xs => allF x xs (f0 b) 2000
 | [] => 0
def loO (b : Sb) : Nat := minB fun k => (oftN b).testBit k
def hiO (b : Sb) : Nat := maxB fun k => (oftN b).testBit k
def withoutB (b : Sb) (out : List Nat) : Sb := { b with sights := ((List.range b.sights.length).filter fun i => !out.contains i).map fun i => b.sights.getD i ⟨0, false, 0, 0⟩ }
def wroB (b : Sb) : List Nat := wroP (fun out => rtB (withoutB b out)) b.sights.length
theorem TruH.load_le : ∀ {xs : List Hp} {l c : Nat} {t : List (Nat × Bool)}, Small xs → l ≤ c → TruH xs l t → ∀ p ∈ t, p.1 ≤ c + 95 * xs.length
 | [], _, _, [], _, _, _, p, hp => absurd hp (by simp)
 | x :: xs, l, c, (m, f) :: t, hs, hl, ⟨⟨n, hn, he⟩, _, _, ht⟩, p, hp => by
  have h1 := (hs x (by simp)).1 n hn; have h2 := (hs x (by simp)).2; have hm : m ≤ c + 95 := by omega
  rcases List.mem_cons.1 hp with rfl | hp
  ·simp only [List.length_cons]; omega
  ·have := TruH.load_le (c := c + 95) hs.tail (by split <;> omega) ht p hp; simp only [List.length_cons]; omega
 | [], _, _, _ :: _, _, _, h, _, _ => absurd h (by simp [TruH])
 | _ :: _, _, _, [], _, _, h, _, _ => absurd h (by simp [TruH])
theorem TrB.load_lt {b : Sb} (hb : OkB b) {t : List (Nat × Bool)} (h : TrB b t) : ∀ p ∈ t, p.1 < 1900 := fun p hp => by
 obtain ⟨l, h1, h2⟩ := (isT_iff hb).1 h; have := TruH.load_le (small_of hb) (f0_fit hb l h1) h2 p hp; have := hps_to hb
 omega
theorem rtB_iff {b : Sb} (hb : OkB b) : rtB b = true ↔ ∃ t, TrB b t := right_iff hb
theorem outB_iff {b : Sb} (hb : OkB b) {h : Nat} (hh : h < b.hours.length) {m : Nat} : outB b h m = true ↔ ∃ t, TrB b t ∧ (t[h]?).map (·.1) = some m := by
 have hh' : h < (hpsOf b).length := by rw [hpsOf_length]; exact hh
 rw [← outs_iff hb hh']
 unfold outB
 rw [List.drop_eq_getElem_cons hh']
theorem ends_load {b : Sb} (hb : OkB b) (hr : rtB b = true) {h : Nat} (hh : h < b.hours.length) : EndP (fun m => ∃ t, TrB b t ∧ (t[h]?).map (·.1) = some m) (loH b h) (hiH b h) := by
 refine ends_of (fun m => outB_iff hb hh) (fun m ⟨t, h1, h2⟩ => ?_) ?_
 ·cases hm : t[h]? with
  | none => rw [hm] at h2; cases h2
  | some p =>
   rw [hm] at h2; have := h1.load_lt hb p (List.mem_of_getElem? hm); simp at h2; omega
 ·obtain ⟨t, ht⟩ := (rtB_iff hb).1 hr; have : h < t.length := by rw [ht.length]; exact hh
  exact ⟨t[h].1, t, ht, by rw [List.getElem?_eq_getElem this]; rfl⟩
theorem falls_le (t : List (Nat × Bool)) : fallsN t ≤ t.length := List.countP_le_length
theorem oftN_iff {b : Sb} (hb : OkB b) {k : Nat} : (oftN b).testBit k = true ↔ ∃ t, TrB b t ∧ fallsN t = k := by
 unfold oftN
 cases hx : hpsOf b with
 | nil =>
  have := hpsOf_length b; rw [hx] at this; have := hb.hours; simp at *; omega
 | cons x xs => exact often_iff hb hx
theorem ends_falls {b : Sb} (hb : OkB b) (hr : rtB b = true) : EndP (fun k => ∃ t, TrB b t ∧ fallsN t = k) (loO b) (hiO b) := by
 refine ends_of (fun m => oftN_iff hb) (fun m ⟨t, h1, h2⟩ => ?_) ?_
 ·have := falls_le t; rw [h1.length] at this; have := hb.hours
  omega
 ·obtain ⟨t, ht⟩ := (rtB_iff hb).1 hr; exact ⟨_, t, ht, rfl⟩
/-- all truths, one after another -/
def enumH : List Hp → Nat → List (List (Nat × Bool))
 | [], _ => [[]]
 | x :: xs, l => x.brings.flatMap fun n => [false, true].flatMap fun f =>
  if (!f || decide (x.sl.hold < (loN x l n : Int))) && x.sights.all (fun s => (s.fell == f) && wB (loN x l n) s.lo s.hi) then (enumH xs (if f then 0 else loN x l n)).map ((loN x l n, f) :: ·) else []
def enumT (b : Sb) : List (List (Nat × Bool)) := (List.range (b.hi.toNat - b.lo.toNat + 1)).flatMap fun k => enumH (hpsOf b) (b.lo.toNat + k)
theorem mem_enumH : ∀ (xs : List Hp), Small xs → ∀ (l : Nat) (t : List (Nat × Bool)), t ∈ enumH xs l ↔ TruH xs l t
 | [], _, _, [] => by simp [enumH, TruH]
 | [], _, _, _ :: _ => by simp [enumH, TruH]
 | x :: xs, hs, l, t => by
  have ih := mem_enumH xs hs.tail
  unfold enumH
  simp only [List.mem_flatMap]
  constructor
  ·rintro ⟨n, hn, f, _, h⟩
   split at h
   ·rename_i hc
    obtain ⟨u, hu, rfl⟩ := List.mem_map.1 h; simp only [Bool.and_eq_true, Bool.or_eq_true, Bool.not_eq_true', decide_eq_true_eq, List.all_eq_true, beq_iff_eq, wB_iff] at hc; refine ⟨⟨n, hn, loN_eq hs hn⟩, fun hf => ?_, hc.2, (ih _ _).1 hu⟩
    rcases hc.1 with h1 | h1
    ·rw [hf] at h1; cases h1
    ·exact h1
   ·cases h
  ·intro h
   cases t with
   | nil => exact absurd h (by simp [TruH])
   | cons p t =>
    obtain ⟨m, f⟩ := p; obtain ⟨⟨n, hn, he⟩, h2, h3, h4⟩ := h; have hm : loN x l n = m := by have := loN_eq hs (l := l) hn; omega
    refine ⟨n, hn, f, by cases f <;> simp, ?_⟩; rw [hm, if_pos, List.mem_map]
    ·exact ⟨t, (ih _ _).2 h4, rfl⟩
    ·simp only [Bool.and_eq_true, Bool.or_eq_true, Bool.not_eq_true', decide_eq_true_eq, List.all_eq_true, beq_iff_eq, wB_iff]; refine ⟨?_, h3⟩
     cases f
     ·exact .inl rfl
     ·exact .inr (h2 rfl)
theorem mem_enumT {b : Sb} (hb : OkB b) {t : List (Nat × Bool)} : t ∈ enumT b ↔ TrB b t := by
 unfold enumT
 simp only [List.mem_flatMap, List.mem_range, mem_enumH _ (small_of hb), isT_iff hb, f0_iff hb]; have := hb.start
 constructor
 ·rintro ⟨k, h1, h2⟩; exact ⟨_, by omega, h2⟩
 ·rintro ⟨l, h1, h2⟩; exact ⟨l - b.lo.toNat, by omega, by rw [show b.lo.toNat + (l - b.lo.toNat) = l by omega]; exact h2⟩
theorem enum_rt {b : Sb} (hb : b.ok = true) : rtB b = !(enumT b).isEmpty := by
 have hb := ok_iff.1 hb
 cases he : enumT b with
 | nil =>
  cases h : rtB b with
  | false => rfl
  | true =>
   obtain ⟨t, ht⟩ := (rtB_iff hb).1 h; rw [← mem_enumT hb, he] at ht
   cases ht
 | cons t l => exact (rtB_iff hb).2 ⟨t, (mem_enumT hb).1 (by rw [he]; simp)⟩
def endsB (l : List Nat) (lo hi : Nat) : Bool := (l.contains lo && l.contains hi) && l.all fun m => decide (lo ≤ m) && decide (m ≤ hi)
theorem enum_ends {b : Sb} (hok : b.ok = true) {h lo hi : Nat} (hh : h < b.hours.length) (he : endsB ((enumT b).filterMap fun t => (t[h]?).map (·.1)) lo hi = true) : loH b h = lo ∧ hiH b h = hi := by
 have hb := ok_iff.1 hok
 unfold endsB at he
 simp only [Bool.and_eq_true, List.contains_iff_mem, List.mem_filterMap, List.all_eq_true, decide_eq_true_eq, mem_enumT hb] at he; obtain ⟨⟨⟨t, h1, h2⟩, h3⟩, h4⟩ := he; refine (ends_load hb ((rtB_iff hb).2 ⟨t, h1⟩) hh).unique ⟨⟨t, h1, h2⟩, h3, fun m ⟨t, h5, h6⟩ => h4 m ⟨t, h5, h6⟩⟩
theorem enum_falls {b : Sb} (hok : b.ok = true) {lo hi : Nat} (he : endsB ((enumT b).map fallsN) lo hi = true) : loO b = lo ∧ hiO b = hi := by
 have hb := ok_iff.1 hok
 unfold endsB at he
 simp only [Bool.and_eq_true, List.contains_iff_mem, List.mem_map, List.all_eq_true, decide_eq_true_eq, mem_enumT hb] at he; obtain ⟨⟨⟨t, h1, h2⟩, h3⟩, h4⟩ := he; refine (ends_falls hb ((rtB_iff hb).2 ⟨t, h1⟩)).unique ⟨⟨t, h1, h2⟩, h3, fun m ⟨t, h5, h6⟩ => h4 m ⟨t, h5, h6⟩⟩
end Go.Proofs.YtkhmcofmjjmjhaaDoor
