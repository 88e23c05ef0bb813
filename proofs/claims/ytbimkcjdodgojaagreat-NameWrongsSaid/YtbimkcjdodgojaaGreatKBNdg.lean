/- Name: in how many truths two lines are a pair, as the reference tells it. -/
import Derived.Test.YtbimkcjdodgojaaGreatKBNda
import Derived.Test.YtbimkcjdodgojaaGreatKBNbk
import Derived.Test.YtbimkcjdodgojaaGreatKBNde
import Derived.Test.YtbimkcjdodgojaaGreatKBNj
import Derived.Test.YtbimkcjdodgojaaGreatKBNaa

namespace Go.Proofs.YtbimkcjdodgojaaGreat
set_option linter.unusedSimpArgs false
set_option linter.unusedVariables false
open Go Go.RowKit
attribute [local go_sem high] cell_set_wr
attribute [local go_sem low] cell_wr frozen_wr
attribute [local go_sem] wr_set wr_drew wr_drewN wr_alloc wr_new Rho.c Rho.n Rho.g
/-! Kind -/
/-! Joined -/
/-! IsTruth -/
/-! People: the reference begins with the number of lines, and 0 -/
/-! Ask -/
theorem cnt_perm (b : Bk) {i : Nat} (hi : i < b.lines.length) (o : Int) : (((truthsR b).filter fun t => matchP t i == o).length : Int) = cntP b.lines.length b.ts i o := by
 rw [cnt_eq hi, truthsR_cnt]
/-- the first line whose worst is the least, as the reference looks for it -/
def seekR (f : Nat → Int) (n0 : Int) : Nat → Nat × Int
 | 0 => (0, n0)
 | k + 1 => if f k < (seekR f n0 k).2 then (k, f k) else seekR f n0 k
theorem seekR_eq {f : Nat → Int} {n0 : Int} (h : f 0 < n0) : ∀ k, 0 < k → seekR f n0 k = (askP f k, f (askP f k)) := by
 intro k
 induction k with
 | zero => intro h0; omega
 | succ k ih =>
  intro _
  by_cases h0 : k = 0
  ·subst h0
   unfold seekR askP
   simp [seekR, askP, h]
  ·unfold seekR askP
   rw [ih (by omega)]
   simp only
   split <;> rfl
/-! Wrong -/
/-- one list is before another one: shorter, or as long and less -/
def foreN (u v : List Nat) : Bool := decide (u.length < v.length) || (decide (u.length = v.length) && lessN u v)
theorem lessN_or : ∀ {u v : List Nat}, u.length = v.length → u = v ∨ lessN u v = true ∨ lessN v u = true
 | [], [], _ => .inl rfl
 | [], _ :: _, h => by simp at h
 | _ :: _, [], h => by simp at h
 | x :: u, y :: v, h => by
  have ih := lessN_or (u := u) (v := v) (by simpa using h)
  unfold lessN
  by_cases h1 : x < y
  ·rw [if_pos h1]; exact .inr (.inl rfl)
  ·by_cases h2 : y < x
   ·exact .inr (.inr (if_pos h2))
   ·have e : x = y := by omega
    subst e
    simp only [h1, if_false]
    rcases ih with ih | ih | ih
    ·exact .inl (by rw [ih])
    ·exact .inr (.inl ih)
    ·exact .inr (.inr ih)
theorem foreN_or {u v : List Nat} (h1 : foreN u v = false) (h2 : foreN v u = false) : u = v := by
 unfold foreN at h1 h2
 rw [Bool.or_eq_false_iff, decide_eq_false_iff_not, Bool.and_eq_false_iff, decide_eq_false_iff_not] at h1 h2
 have hl : u.length = v.length := by omega
 rcases lessN_or hl with h | h | h
 ·exact h
 ·rcases h1.2 with h3 | h3
  ·exact absurd hl h3
  ·rw [h] at h3; exact absurd h3 (by decide)
 ·rcases h2.2 with h3 | h3
  ·exact absurd hl.symm h3
  ·rw [h] at h3; exact absurd h3 (by decide)
theorem incN_up : ∀ {s n : Nat} {l : List Nat}, IncN s n l → l.Pairwise (· < ·) ∧ ∀ x ∈ l, s ≤ x ∧ x < n
 | _, _, [], _ => ⟨List.Pairwise.nil, fun x h => absurd h List.not_mem_nil⟩
 | s, n, x :: t, ⟨h1, h2, h3⟩ => by
  obtain ⟨g1, g2⟩ := incN_up h3
  refine ⟨List.pairwise_cons.2 ⟨fun y hy => by have := (g2 y hy).1; omega, g1⟩, fun y hy => ?_⟩
  rcases List.mem_cons.1 hy with rfl | hy
  ·exact ⟨h1, h2⟩
  ·have := g2 y hy
   exact ⟨by omega, this.2⟩
theorem inc_uniqueN : ∀ {l m : List Nat}, l.Pairwise (· < ·) → m.Pairwise (· < ·) → (∀ p, p ∈ l ↔ p ∈ m) → l = m
 | [], [], _, _, _ => rfl
 | [], q :: m, _, _, h => absurd ((h q).2 (List.mem_cons_self ..)) List.not_mem_nil
 | p :: l, [], _, _, h => absurd ((h p).1 (List.mem_cons_self ..)) List.not_mem_nil
 | p :: l, q :: m, hl, hm, h => by
  have h1 := List.pairwise_cons.1 hl
  have h2 := List.pairwise_cons.1 hm
  have e : p = q := by
   rcases List.mem_cons.1 ((h p).1 (List.mem_cons_self ..)) with e | e
   ·exact e
   ·rcases List.mem_cons.1 ((h q).2 (List.mem_cons_self ..)) with e' | e'
    ·exact e'.symm
    ·have := h1.1 q e'
     have := h2.1 p e
     omega
  subst e
  rw [inc_uniqueN h1.2 h2.2 fun x => ?_]
  constructor
  ·intro hx
   rcases List.mem_cons.1 ((h x).1 (List.mem_cons_of_mem _ hx)) with rfl | hx'
   ·exact absurd (h1.1 x hx) (by omega)
   ·exact hx'
  ·intro hx
   rcases List.mem_cons.1 ((h x).2 (List.mem_cons_of_mem _ hx)) with rfl | hx'
   ·exact absurd (h2.1 x hx) (by omega)
   ·exact hx'
/-- every set of numbers has a number -/
theorem set_of (p : Nat → Bool) : ∀ n, ∃ s, s < 2 ^ n ∧ ∀ k, k < n → hasB s k = p k
 | 0 => ⟨0, by decide, fun k h => by omega⟩
 | n + 1 => by
  obtain ⟨s, h1, h2⟩ := set_of p n
  have hp : 2 ^ (n + 1) = 2 ^ n + 2 ^ n := by rw [Nat.pow_succ]; omega
  have hpos : 0 < 2 ^ n := Nat.pow_pos (by decide)
  cases hq : p n
  ·refine ⟨s, by omega, fun k hk => ?_⟩
   by_cases e : k = n
   ·subst e
    rw [hq]
    unfold hasB
    rw [Nat.div_eq_of_lt h1]
    rfl
   ·exact h2 k (by omega)
  ·refine ⟨s + 2 ^ n, by omega, fun k hk => ?_⟩
   by_cases e : k = n
   ·subst e
    rw [hq]
    unfold hasB
    rw [Nat.add_div_right _ hpos, Nat.div_eq_of_lt h1]
    rfl
   ·rw [← h2 k (by omega)]
    unfold hasB
    obtain ⟨d, rfl⟩ : ∃ d, n = k + (d + 1) := ⟨n - k - 1, by omega⟩
    rw [Nat.pow_add, Nat.add_mul_div_left _ _ (Nat.pow_pos (by decide)), Nat.pow_succ, Nat.add_mul_mod_self_right]
theorem ones_all {n : Nat} {u : List Nat} (h : IncN 0 n u) : ∃ s, s < 2 ^ n ∧ onesN s n = u := by
 obtain ⟨s, h1, h2⟩ := set_of (fun k => u.contains k) n
 refine ⟨s, h1, ?_⟩
 obtain ⟨g1, g2⟩ := incN_up h
 refine inc_uniqueN (incN_up (incN_ones s n)).1 g1 fun x => ?_
 unfold onesN
 rw [List.mem_filter, List.mem_range]
 constructor
 ·rintro ⟨a1, a2⟩
  rw [h2 x a1] at a2
  simpa using a2
 ·intro hx
  have := (g2 x hx).2
  exact ⟨this, by rw [h2 x this]; simpa using hx⟩
/-- the best set of lines so far, as the reference looks for it -/
def bestR (b : Bk) : Nat → List Nat
 | 0 => List.range b.lines.length
 | s + 1 => if foreN (onesN s b.lines.length) (bestR b s) = true ∧ rightP b (onesN s b.lines.length) = true then onesN s b.lines.length else bestR b s
theorem foreN_trans {u v x : List Nat} (h1 : foreN u v = false) (h2 : foreN v x = false) : foreN u x = false := by
 by_cases e : u = x
 ·subst e
  cases h : foreN u u
  ·rfl
  ·exfalso
   unfold foreN at h
   have hl : ∀ l : List Nat, lessN l l = false := by
    intro l
    induction l with
    | nil => rfl
    | cons y l ih => unfold lessN; simp [ih]
   rw [hl] at h
   simp at h
 ·cases h : foreN u x
  ·rfl
  ·exfalso
   have key : ∀ {l m k : List Nat}, lessN l m = true → lessN m k = true → lessN l k = true := by
    intro l
    induction l with
    | nil =>
     intro m k h1 h2
     cases m with
     | nil => simp [lessN] at h1
     | cons y m =>
      cases k with
      | nil => simp [lessN] at h2
      | cons z k => rfl
    | cons y l ih =>
     intro m k h1 h2
     cases m with
     | nil => simp [lessN] at h1
     | cons z m =>
      cases k with
      | nil => simp [lessN] at h2
      | cons q k =>
       unfold lessN at h1 h2 ⊢
       by_cases a1 : y < z
       ·by_cases a2 : z < q
        ·rw [if_pos (by omega)]
        ·rw [if_neg a2] at h2
         by_cases a3 : q < z
         ·rw [if_pos a3] at h2; exact absurd h2 (by decide)
         ·rw [if_pos (by omega)]
       ·rw [if_neg a1] at h1
        by_cases a2 : z < y
        ·rw [if_pos a2] at h1; exact absurd h1 (by decide)
        ·rw [if_neg a2] at h1
         have e : y = z := by omega
         subst e
         by_cases a3 : y < q
         ·rw [if_pos a3]
         ·rw [if_neg a3] at h2 ⊢
          by_cases a4 : q < y
          ·rw [if_pos a4] at h2; exact absurd h2 (by decide)
          ·rw [if_neg a4] at h2 ⊢
           exact ih h1 h2
   unfold foreN at h1 h2 h
   rw [Bool.or_eq_false_iff, decide_eq_false_iff_not, Bool.and_eq_false_iff, decide_eq_false_iff_not] at h1 h2
   rw [Bool.or_eq_true, decide_eq_true_eq, Bool.and_eq_true, decide_eq_true_eq] at h
   have hl : u.length = v.length ∧ v.length = x.length ∧ u.length = x.length := by rcases h with h | h <;> omega
   have hux : lessN u x = true := by
    rcases h with h | h
    ·omega
    ·exact h.2
   have h3 : lessN u v = false := by
    rcases h1.2 with h | h
    ·exact absurd hl.1 h
    ·exact h
   have h4 : lessN v x = false := by
    rcases h2.2 with h | h
    ·exact absurd hl.2.1 h
    ·exact h
   rcases lessN_or hl.1 with e1 | e1 | e1
   ·rw [e1, h4] at hux; exact absurd hux (by decide)
   ·rw [h3] at e1; exact absurd e1 (by decide)
   ·have := key e1 hux
    rw [h4] at this; exact absurd this (by decide)
theorem foreN_same (u : List Nat) : foreN u u = false := by
 cases h : foreN u u
 ·rfl
 ·exfalso
  have hl : ∀ l : List Nat, lessN l l = false := by
   intro l
   induction l with
   | nil => rfl
   | cons y l ih => unfold lessN; simp [ih]
  unfold foreN at h
  rw [hl] at h
  simp at h
theorem best_inv {b : Bk} (hall : rightP b (List.range b.lines.length) = true) : ∀ s, IncN 0 b.lines.length (bestR b s) ∧ rightP b (bestR b s) = true ∧ ∀ s', s' < s → rightP b (onesN s' b.lines.length) = true → foreN (onesN s' b.lines.length) (bestR b s) = false
 | 0 => ⟨by show IncN 0 _ (List.range b.lines.length); rw [List.range_eq_range']; exact incN_range _ _ _ (by omega), hall, fun s' h => by omega⟩
 | s + 1 => by
  obtain ⟨h1, h2, h3⟩ := best_inv hall s
  unfold bestR
  by_cases hc : foreN (onesN s b.lines.length) (bestR b s) = true ∧ rightP b (onesN s b.lines.length) = true
  ·rw [if_pos hc]
   refine ⟨incN_ones _ _, hc.2, fun s' hs' hr => ?_⟩
   by_cases e : s' = s
   ·rw [e]; exact foreN_same _
   ·have h4 := h3 s' (by omega) hr
    have h5 : foreN (bestR b s) (onesN s b.lines.length) = false := by
     cases h : foreN (bestR b s) (onesN s b.lines.length)
     ·rfl
     ·exfalso
      have a := hc.1
      unfold foreN at a h
      rw [Bool.or_eq_true, decide_eq_true_eq, Bool.and_eq_true, decide_eq_true_eq] at a h
      have hl : (onesN s b.lines.length).length = (bestR b s).length := by rcases a with a | a <;> rcases h with h | h <;> omega
      have a2 : lessN (onesN s b.lines.length) (bestR b s) = true := by
       rcases a with a | a
       ·omega
       ·exact a.2
      have h2' : lessN (bestR b s) (onesN s b.lines.length) = true := by
       rcases h with h | h
       ·omega
       ·exact h.2
      have anti : ∀ {l m : List Nat}, lessN l m = true → lessN m l = true → False := by
       intro l
       induction l with
       | nil => intro m g1 g2; cases m <;> simp [lessN] at g1 g2
       | cons y l ih =>
        intro m g1 g2
        cases m with
        | nil => simp [lessN] at g1
        | cons z m =>
         unfold lessN at g1 g2
         by_cases a1 : y < z
         ·rw [if_neg (by omega), if_pos a1] at g2; exact absurd g2 (by decide)
         ·rw [if_neg a1] at g1
          by_cases a2 : z < y
          ·rw [if_pos a2] at g1; exact absurd g1 (by decide)
          ·rw [if_neg a2] at g1
           rw [if_neg a2, if_neg a1] at g2
           exact ih g1 g2
      exact anti a2 h2'
    exact foreN_trans h4 h5
  ·rw [if_neg hc]
   refine ⟨h1, h2, fun s' hs' hr => ?_⟩
   by_cases e : s' = s
   ·rw [e] at hr ⊢
    cases h : foreN (onesN s b.lines.length) (bestR b s)
    ·rfl
    ·exact absurd ⟨h, hr⟩ hc
   ·exact h3 s' (by omega) hr
theorem best_done {b : Bk} (h : 0 ≤ b.lost) : bestR b (2 ^ b.lines.length) = wrongP b := by
 obtain ⟨h1, h2, h3⟩ := best_inv (right_all h) (2 ^ b.lines.length)
 obtain ⟨w1, w2, w3, w4, _⟩ := wrong_lawN h
 refine foreN_or ?_ ?_
 ·cases hf : foreN (bestR b (2 ^ b.lines.length)) (wrongP b)
  ·rfl
  ·exfalso
   unfold foreN at hf
   rw [Bool.or_eq_true, decide_eq_true_eq, Bool.and_eq_true, decide_eq_true_eq] at hf
   rcases hf with hf | hf
   ·rw [w3 _ h1 hf] at h2; exact absurd h2 (by decide)
   ·rw [w4 _ h1 hf.1 hf.2] at h2; exact absurd h2 (by decide)
 ·obtain ⟨s, hs, he⟩ := ones_all w1
  rw [← he]
  exact h3 s hs (by rw [he]; exact w2)
end Go.Proofs.YtbimkcjdodgojaaGreat
namespace Go.Proofs.YtbimkcjdodgojaaGreat
set_option linter.unusedSimpArgs false
set_option linter.unusedVariables false
open Go Go.RowKit
attribute [local go_sem high] cell_set_wr
attribute [local go_sem low] cell_wr frozen_wr
attribute [local go_sem] wr_set wr_drew wr_drewN wr_alloc wr_new Rho.c Rho.n Rho.g
/-- a list of lists of pairs lies in memory -/
def TruAt (w : World) (B : Nat) (O : Option Addr) (l : List Prs) : Prop := ∃ vs : List Value, vs.length = l.length ∧ Arr w B O vs ∧ ∀ i (h : i < l.length), ∃ T c, vs[i]? = some (.slice T l[i].length c) ∧ Arr w B T (pairsV l[i])
theorem TruAt.get {w : World} {B : Nat} {O : Option Addr} {l : List Prs} (h : TruAt w B O l) {k : Nat} (hk : k < l.length) :
    ∃ b o T c, O = some ⟨b, o, none⟩ ∧ b < B ∧ w.cell? ⟨b, o + k, none⟩ = some (.slice T l[k].length c) ∧ Arr w B T (pairsV l[k]) := by
 obtain ⟨vs, hl, hA, hv⟩ := h
 obtain ⟨T, c, h1, h2⟩ := hv k hk
 obtain ⟨b, o, hO, hlt, hc⟩ := hA (fun e => by rw [e] at hl; simp at hl; omega)
 exact ⟨b, o, T, c, hO, hlt, hc k _ h1, h2⟩
theorem TruAt.below {w w' : World} {O : Option Addr} {l : List Prs} (h : TruAt w w.heap.size O l) (hb : Below w.heap.size w w') : TruAt w' w'.heap.size O l := by
 obtain ⟨vs, hl, hA, hv⟩ := h
 refine ⟨vs, hl, (hA.below hb).more hb.size, fun i hi => ?_⟩
 obtain ⟨T, c, h1, h2⟩ := hv i hi
 exact ⟨T, c, h1, (h2.below hb).more hb.size⟩
theorem truthsR_few {b : Bk} (h9 : b.lines.length ≤ 9) : (truthsR b).length ≤ 1000000000 := by
 rw [truthsR_len]
 have h := fromP_len b.lines.length b.lost (couldsP b) (couldsP_nine h9) b.lines.length 0 []
 have h2 : 10 ^ b.lines.length ≤ 10 ^ 9 := Nat.pow_le_pow_right (by decide) h9
 unfold Bk.ts
 omega
theorem truthsR_short {b : Bk} (h9 : b.lines.length ≤ 9) {t : Prs} (ht : t ∈ truthsR b) : t.length ≤ 9 := by
 have h := fromP_tlen b.lines.length b.lost (couldsP b) b.lines.length 0 [] t ((mem_truthsR b t).1 ht)
 simp at h
 omega
section
variable (A : Option Addr) (cap : Nat) (L : Option Addr) (lcap : Nat) (b : Bk)
end
end Go.Proofs.YtbimkcjdodgojaaGreat
namespace Go.Proofs.YtbimkcjdodgojaaGreat
set_option linter.unusedSimpArgs false
set_option linter.unusedVariables false
open Go Go.RowKit
attribute [local go_sem high] cell_set_wr
attribute [local go_sem low] cell_wr frozen_wr
attribute [local go_sem] wr_set wr_drew wr_drewN wr_alloc wr_new Rho.c Rho.n Rho.g
set_option maxRecDepth 100000 in
set_option maxHeartbeats 1000000 in
theorem rpair_any (A : Option Addr) (c : Nat) (t : Prs) (l : Nat) (w : World) (hA : Arr w w.heap.size A (pairsV t)) (ht : t.length ≤ 9223372036854775807) : Calls Tryz.prog 64 #[.slice A t.length c, .int .i64 l] w fun e w' => e = .returned (.int .i64 (matchP t l)) ∧ Below w.heap.size w w' := by
 refine enterE Tryz.func64 rfl Tryz.ntmps64 (by simp) (fun a hE => ?_); simp only [envOf, Nat.zero_add, Nat.reduceAdd] at hE
 refine Ks ?_
 refine Rs 1 fun Q' K hK => ?_
 refine M0 fun K' J ρ => ?_; go_simp;
 refine Ln hE J fun _ Eb => ?_; clear J K' hE a
 refine Ld [0, 1, 4] Eb hK fun a hE => ?_; clear hK K Q' Eb
 refine Ks ?_
 refine Rs 1 fun Q' K hK => ?_
 refine M0 fun K' J ρ => ?_; go_simp;
 refine Ln hE J fun _ Eb => ?_; clear J K' hE a
 refine Ld [0, 1, 5] Eb hK fun a hE => ?_; clear hK K Q' Eb
 refine Ks ?_
 refine loop_st (fun (k : Nat) a w' => k ≤ t.length ∧ Fits 36 [(0, .slice A t.length c), (1, .int .i64 l), (5, .int .i64 k)] a ∧ w = w' ∧ matchP (t.drop k) l = matchP t l) (fun k => t.length - k) 0 ?_ (fun k a w' hI => ?_)
 ·exact ⟨Nat.zero_le _, by simpa using hE, rfl, rfl⟩
 clear hE
 obtain ⟨hk, hE, rfl, hM⟩ := hI
 have HM := hid hM
 clear hM
 refine Ks ?_
 refine Rs 4 fun Q' K hK => ?_
 refine M1 hE 5 fun K' J ρ q5 => ?_; go_simp
 refine Ln hE J fun _ Eb => ?_; clear J K' hE a q5
 refine M1 Eb 0 fun K' J ρ q0 => ?_; go_simp
 refine Ln Eb J fun _ Ea => ?_; clear J K' Eb q0
 refine M1 Ea 7 fun K' J ρ q7 => ?_; go_simp; (try go_bits)
 refine Ln Ea J fun _ Eb => ?_; clear J K' Ea q7
 refine M2 Eb 6 8 fun K' J ρ q6 q8 => ?_; go_simp; (try go_bits)
 refine Ln Eb J fun _ Ea => ?_; clear J K' Eb q6 q8
 refine Ld [0, 1, 5, 9] Ea hK fun a hE => ?_; clear hK K Q' Ea
 refine Ks ?_
 refine cond_part hE (t := 9) rfl (fun h => ?_) (fun h => ?_)
 ·have hlt : k < t.length := by have := of_decide_eq_true h; omega
  clear h
  have hltI : (k : Int) < t.length := by omega
  have hd := matchP_drop t k hlt l
  have HD := hid hd
  clear hd
  obtain ⟨b, o, rfl, hb, c0, c1⟩ := hA.pr hlt
  obtain ⟨p, hp⟩ : ∃ p, t[k] = p := ⟨_, rfl⟩
  rw [hp] at c0 c1
  have HP := hid hp
  clear hp
  refine Ks ?_
  refine Rs 7 fun Q' K hK => ?_
  refine M1 hE 0 fun K' J ρ q0 => ?_; go_simp
  refine Ln hE J fun _ Eb => ?_; clear J K' hE a q0
  refine M1 Eb 5 fun K' J ρ q5 => ?_; go_simp
  refine Ln Eb J fun _ Ea => ?_; clear J K' Eb q5
  refine M2 Ea 12 13 fun K' J ρ q12 q13 => ?_; go_simp; (try go_bits)
  refine Ln Ea J fun _ Eb => ?_; clear J K' Ea q12 q13
  refine M1 Eb 14 fun K' J ρ q14 => ?_; go_simp
  refine Ln Eb J fun _ Ea => ?_; clear J K' Eb q14
  refine M1 Ea 15 fun K' J ρ q15 => ?_; go_simp
  refine Ln Ea J fun _ Eb => ?_; clear J K' Ea q15
  refine M1 Eb 1 fun K' J ρ q1 => ?_; go_simp
  refine Ln Eb J fun _ Ea => ?_; clear J K' Eb q1
  refine M2 Ea 16 17 fun K' J ρ q16 q17 => ?_; go_simp; (try go_bits)
  refine Ln Ea J fun _ Eb => ?_; clear J K' Ea q16 q17
  refine Ld [0, 1, 5, 18] Eb hK fun a hE => ?_; clear hK K Q' Eb
  refine Ks ?_
  refine cond_part hE (t := 18) rfl (fun h => ?_) (fun h => ?_)
  ·have hh : l = p.1 := by (have h' : ((p.1 : Int) = l) := (by simpa using h)); omega
   refine Ks ?_
   refine Rs 6 fun Q' K hK => ?_
   refine M1 hE 0 fun K' J ρ q0 => ?_; go_simp
   refine Ln hE J fun _ Eb => ?_; clear J K' hE a q0
   refine M1 Eb 5 fun K' J ρ q5 => ?_; go_simp
   refine Ln Eb J fun _ Ea => ?_; clear J K' Eb q5
   refine M2 Ea 19 20 fun K' J ρ q19 q20 => ?_; go_simp; (try go_bits)
   refine Ln Ea J fun _ Eb => ?_; clear J K' Ea q19 q20
   refine M1 Eb 21 fun K' J ρ q21 => ?_; go_simp
   refine Ln Eb J fun _ Ea => ?_; clear J K' Eb q21
   refine M1 Ea 22 fun K' J ρ q22 => ?_; go_simp
   refine Ln Ea J fun _ Eb => ?_; clear J K' Ea q22
   refine M1 Eb 23 fun K' J ρ q23 => ?_; go_simp
   refine Ln Eb J fun _ Ea => ?_; clear J K' Eb q23
   refine Ld [4] Ea hK fun a hE => ?_; clear hK K Q' Ea
   refine Ks ?_
   exact ret_one hE rfl rfl ⟨by rw [← HM.out, HD.out, HP.out, if_pos hh], Below.refl _ _⟩
  ·have hh : ¬ l = p.1 := by (have h' : ¬ ((p.1 : Int) = l) := (by simpa using h)); omega
   have HH := hid hh
   clear h hh
   refine Ks ?_
   refine Rs 7 fun Q' K hK => ?_
   refine M1 hE 0 fun K' J ρ q0 => ?_; go_simp
   refine Ln hE J fun _ Eb => ?_; clear J K' hE a q0
   refine M1 Eb 5 fun K' J ρ q5 => ?_; go_simp
   refine Ln Eb J fun _ Ea => ?_; clear J K' Eb q5
   refine M2 Ea 24 25 fun K' J ρ q24 q25 => ?_; go_simp; (try go_bits)
   refine Ln Ea J fun _ Eb => ?_; clear J K' Ea q24 q25
   refine M1 Eb 26 fun K' J ρ q26 => ?_; go_simp
   refine Ln Eb J fun _ Ea => ?_; clear J K' Eb q26
   refine M1 Ea 27 fun K' J ρ q27 => ?_; go_simp
   refine Ln Ea J fun _ Eb => ?_; clear J K' Ea q27
   refine M1 Eb 1 fun K' J ρ q1 => ?_; go_simp
   refine Ln Eb J fun _ Ea => ?_; clear J K' Eb q1
   refine M2 Ea 28 29 fun K' J ρ q28 q29 => ?_; go_simp; (try go_bits)
   refine Ln Ea J fun _ Eb => ?_; clear J K' Ea q28 q29
   refine Ld [0, 1, 5, 30] Eb hK fun a hE => ?_; clear hK K Q' Eb
   refine Ks ?_
   refine cond_part hE (t := 30) rfl (fun h => ?_) (fun h => ?_)
   ·have hh : l = p.2 := by (have h' : ((p.2 : Int) = l) := (by simpa using h)); omega
    refine Ks ?_
    refine Rs 6 fun Q' K hK => ?_
    refine M1 hE 0 fun K' J ρ q0 => ?_; go_simp
    refine Ln hE J fun _ Eb => ?_; clear J K' hE a q0
    refine M1 Eb 5 fun K' J ρ q5 => ?_; go_simp
    refine Ln Eb J fun _ Ea => ?_; clear J K' Eb q5
    refine M2 Ea 31 32 fun K' J ρ q31 q32 => ?_; go_simp; (try go_bits)
    refine Ln Ea J fun _ Eb => ?_; clear J K' Ea q31 q32
    refine M1 Eb 33 fun K' J ρ q33 => ?_; go_simp
    refine Ln Eb J fun _ Ea => ?_; clear J K' Eb q33
    refine M1 Ea 34 fun K' J ρ q34 => ?_; go_simp
    refine Ln Ea J fun _ Eb => ?_; clear J K' Ea q34
    refine M1 Eb 35 fun K' J ρ q35 => ?_; go_simp
    refine Ln Eb J fun _ Ea => ?_; clear J K' Eb q35
    refine Ld [4] Ea hK fun a hE => ?_; clear hK K Q' Ea
    refine Ks ?_
    exact ret_one hE rfl rfl ⟨by rw [← HM.out, HD.out, HP.out, if_neg HH.out, if_pos hh], Below.refl _ _⟩
   ·have hh : ¬ l = p.2 := by (have h' : ¬ ((p.2 : Int) = l) := (by simpa using h)); omega
    refine Ks ?_
    refine Rs 3 fun Q' K hK => ?_
    refine M1 hE 5 fun K' J ρ q5 => ?_; go_simp
    refine Ln hE J fun _ Eb => ?_; clear J K' hE a q5
    refine M1 Eb 10 fun K' J ρ q10 => ?_; go_simp; (try go_bits); (try simp (disch := omega) only [IntWalk.i64_in])
    refine Ln Eb J fun _ Ea => ?_; clear J K' Eb q10
    refine M1 Ea 11 fun K' J ρ q11 => ?_; go_simp
    refine Ln Ea J fun _ Eb => ?_; clear J K' Ea q11
    refine Ld [0, 1, 5] Eb hK fun a hE => ?_; clear hK K Q' Eb
    refine Ks ?_
    refine ⟨k + 1, ⟨hlt, by simpa using hE, rfl, ?_⟩, by omega⟩
    rw [← HM.out, HD.out, HP.out, if_neg HH.out, if_neg hh]
 ·have hkk : k = t.length := by have := of_decide_eq_false h; omega
  clear h
  refine Ks ?_
  refine Rs 1 fun Q' K hK => ?_
  refine M0 fun K' J ρ => ?_; go_simp;
  refine Ln hE J fun _ Eb => ?_; clear J K' hE a
  refine Ld [4] Eb hK fun a hE => ?_; clear hK K Q' Eb
  refine Ks ?_
  exact ret_one hE rfl rfl ⟨by rw [← HM.out, hkk, List.drop_length]; rfl, Below.refl _ _⟩
end Go.Proofs.YtbimkcjdodgojaaGreat
namespace Go.Proofs.YtbimkcjdodgojaaGreat
set_option linter.unusedSimpArgs false
set_option linter.unusedVariables false
open Go Go.RowKit
attribute [local go_sem high] cell_set_wr
attribute [local go_sem low] cell_wr frozen_wr
attribute [local go_sem] wr_set wr_drew wr_drewN wr_alloc wr_new Rho.c Rho.n Rho.g
def cntR (l : List Prs) (x : Nat) (y : Int) : Nat := (l.filter fun t => matchP t x == y).length
theorem cntR_take (l : List Prs) (x : Nat) (y : Int) (k : Nat) (h : k < l.length) : cntR (l.take (k + 1)) x y = cntR (l.take k) x y + if matchP l[k] x = y then 1 else 0 := by
 unfold cntR
 rw [List.take_succ_eq_append_getElem h, List.filter_append, List.length_append, List.filter_cons]
 by_cases e : matchP l[k] x = y
 ·rw [if_pos e, if_pos (by simpa using e)]; rfl
 ·rw [if_neg e, if_neg (by simpa using e)]; rfl
theorem cntR_le (l : List Prs) (x : Nat) (y : Int) : cntR l x y ≤ l.length := List.length_filter_le _ _
section
variable (A : Option Addr) (cap : Nat) (L : Option Addr) (lcap : Nat) (b : Bk)
set_option maxRecDepth 100000 in
theorem rAll_any (w : World) (hM : BkAt w A L b)
    (HF : Hid (∀ (W : World), BkAt W A L b → Calls Tryz.prog 76 #[.agg (bkV A cap L lcap b).toArray, .int .i64 0, .slice none 0 0] W fun e w' => (∃ O c, e = .returned (.slice O (truthsR b).length c) ∧ TruAt w' w'.heap.size O (truthsR b)) ∧ Below W.heap.size W w')) :
    Calls Tryz.prog 42 #[.agg (bkV A cap L lcap b).toArray] w fun e w' => (∃ O c, e = .returned (.slice O (truthsR b).length c) ∧ TruAt w' w'.heap.size O (truthsR b)) ∧ Below w.heap.size w w' := by
 obtain ⟨l, hl⟩ : ∃ l, truthsR b = l := ⟨_, rfl⟩
 rw [hl] at HF ⊢
 clear hl
 simp only [bkV] at HF ⊢
 refine enterE Tryz.func42 rfl Tryz.ntmps42 (by simp) (fun a hE => ?_); simp only [envOf, Nat.zero_add, Nat.reduceAdd] at hE
 refine Ks ?_
 refine Rs 2 fun Q' K hK => ?_
 refine M1 hE 0 fun K' J ρ q0 => ?_; go_simp
 refine Ln hE J fun _ Eb => ?_; clear J K' hE a q0
 refine M0 fun K' J ρ => ?_; go_simp;
 refine Ln Eb J fun _ Ea => ?_; clear J K' Eb
 refine Ld [1] Ea hK fun a hE => ?_; clear hK K Q' Ea
 obtain ⟨B, hBe⟩ : ∃ B, B = w.heap.size := ⟨_, rfl⟩; rw [← hBe] at hE; refine world_cut (fun wt => Below w.heap.size w wt ∧ Cells wt B (bkV A cap L lcap b)) ⟨(Below.refl _ _).alloc (Nat.le_refl _) _, by rw [hBe]; exact cells_new _ _ _⟩ (fun w1 hCut => ?_); obtain ⟨hbw1, hCB⟩ := hCut; clear hBe
 have hM1 := hM.below hbw1
 simp only [bkV] at hCB
 obtain ⟨nB, cB0, cB1, cB2, cB3, cB4, cB5, cB6⟩ := hCB.c7
 refine Ks ?_
 refine Rs 3 fun Q' K hK => ?_
 refine M1 hE 1 fun K' J ρ q1 => ?_; go_simp
 refine Ln hE J fun _ Eb => ?_; clear J K' hE a q1
 refine M1 Eb 3 fun K' J ρ q3 => ?_; go_simp; (try go_bits); (try clear q3)
 go_at_call 76; refine (HF.out _ hM1).mono ?_; rintro e w2 ⟨⟨O, oc, rfl, hT⟩, h2⟩
 (try clear r3)
 refine Ln Eb J fun _ Ea => ?_; clear J K' Eb
 refine M1 Ea 4 fun K' J ρ q4 => ?_; go_simp
 refine Ln Ea J fun _ Eb => ?_; clear J K' Ea q4
 refine Ld [2] Eb hK fun a hE => ?_; clear hK K Q' Eb
 refine Ks ?_
 exact ret_one hE rfl rfl ⟨⟨O, oc, rfl, hT⟩, hbw1.trans (h2.mono hbw1.size)⟩
end
end Go.Proofs.YtbimkcjdodgojaaGreat
