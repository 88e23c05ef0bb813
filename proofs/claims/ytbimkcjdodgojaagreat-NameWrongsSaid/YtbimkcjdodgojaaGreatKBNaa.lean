/- Name: the line that is paired with a line, and how many are in no pair. -/
import Derived.Test.YtbimkcjdodgojaaGreatKBJ
import Derived.Test.YtbimkcjdodgojaaGreatKBRr

namespace Go.Proofs.YtbimkcjdodgojaaGreat
set_option linter.unusedSimpArgs false
set_option linter.unusedVariables false
open Go Go.RowKit
attribute [local go_sem high] cell_set_wr
attribute [local go_sem low] cell_wr frozen_wr
attribute [local go_sem] wr_set wr_drew wr_drewN wr_alloc wr_new Rho.c Rho.n Rho.g
abbrev Prs := List (Nat × Nat)
def pcells (p : Nat × Nat) : List Value := [.int .i64 p.1, .int .i64 p.2]
def pairsV (t : Prs) : List Value := t.flatMap pcells
theorem pcells_length (p : Nat × Nat) : (pcells p).length = 2 := rfl
theorem pairsV_length (t : Prs) : (pairsV t).length = t.length * 2 := flat_length pcells 2 pcells_length t
def natV (n : Nat) : Value := .int .i64 n
def nats (l : List Nat) : List Value := l.map natV
theorem nats_length (l : List Nat) : (nats l).length = l.length := by simp [nats]
theorem Arr.nat {w : World} {B : Nat} {A : Option Addr} {l : List Nat} (h : Arr w B A (nats l)) {k : Nat} (hk : k < l.length) :
    ∃ b o, A = some ⟨b, o, none⟩ ∧ b < B ∧ w.cell? ⟨b, o + k, none⟩ = some (.int .i64 l[k]) := by
 obtain ⟨b, o, hA, hlt, hc⟩ := h (fun e => by have := nats_length l; rw [e] at this; simp at this; omega)
 exact ⟨b, o, hA, hlt, hc k _ (by simp [nats, natV, hk])⟩
theorem Arr.pr {w : World} {B : Nat} {A : Option Addr} {t : Prs} (h : Arr w B A (pairsV t)) {k : Nat} (hk : k < t.length) :
    ∃ b o, A = some ⟨b, o, none⟩ ∧ b < B ∧ w.cell? ⟨b, o + k * 2, none⟩ = some (.int .i64 t[k].1) ∧ w.cell? ⟨b, o + k * 2 + 1, none⟩ = some (.int .i64 t[k].2) := by
 obtain ⟨b, o, hA, hlt, hc⟩ := h.elem pcells_length (by decide) hk
 exact ⟨b, o, hA, hlt, hc 0 _ (by decide) rfl, hc 1 _ (by decide) rfl⟩
/-- the line that is paired with a line, -1: none is -/
def matchP : Prs → Nat → Int
 | [], _ => -1
 | p :: t, l => if l = p.1 then p.2 else if l = p.2 then p.1 else matchP t l
def lostP (n : Nat) (t : Prs) : Nat := ((List.range n).filter fun l => matchP t l == -1).length
def usedP (t : Prs) (o : Nat) : Bool := t.any fun p => p.2 == o
/-- the truths that begin with the pairs t, of the lines from k on, of which there are r -/
def fromP (n : Nat) (lost : Int) (cs : List (List Nat)) : Nat → Nat → Prs → List Prs
 | 0, _, t => if (lostP n t : Int) ≤ lost then [t] else []
 | r + 1, k, t => ((cs.getD k []).filter fun o => !usedP t o).flatMap (fun o => fromP n lost cs r (k + 1) (t ++ [(k, o)])) ++ fromP n lost cs r (k + 1) t
def couldP (b : Bk) (i : Nat) : List Nat := (List.range b.lines.length).filter fun o => (b.lines.getD i zeroLn).book == 0 && canL b (b.lines.getD i zeroLn) (b.lines.getD o zeroLn)
def couldsP (b : Bk) : List (List Nat) := (List.range b.lines.length).map (couldP b)
def truthsP (b : Bk) : List Prs := fromP b.lines.length b.lost (couldsP b) b.lines.length 0 []
theorem matchP_nat (t : Prs) (l : Nat) : matchP t l = -1 ∨ 0 ≤ matchP t l := by
 induction t with
 | nil => exact .inl rfl
 | cons p t ih =>
  unfold matchP
  split
  ·exact .inr (by omega)
  ·split
   ·exact .inr (by omega)
   ·exact ih
theorem matchP_drop (t : Prs) (k : Nat) (hk : k < t.length) (l : Nat) : matchP (t.drop k) l = if l = t[k].1 then (t[k].2 : Int) else if l = t[k].2 then (t[k].1 : Int) else matchP (t.drop (k + 1)) l := by
 rw [List.drop_eq_getElem_cons hk]; rfl
theorem ite2_neq {p q : Prop} [Decidable p] [Decidable q] {X : World} : (if p then (if q then Result.ok (Next.value (Value.bool false)) X else Result.ok (Next.value (Value.bool true)) X) else Result.ok (Next.value (Value.bool true)) X) = Result.ok (Next.value (Value.bool (!(decide p && decide q)))) X := by
 by_cases hp : p <;> by_cases hq : q <;> simp [hp, hq]
theorem ite1_neq {p : Prop} [Decidable p] {X : World} : (if p then Result.ok (Next.value (Value.bool false)) X else Result.ok (Next.value (Value.bool true)) X) = Result.ok (Next.value (Value.bool (!decide p))) X := by
 by_cases hp : p <;> simp [hp]
theorem row_new (w : World) (cs : Array Value) (t : TypeId) : Row (w.alloc (.cells cs t)) w.heap.size cs.toList := (blk_new (N := 0) w cs t (Nat.zero_le _)).row
theorem row_cells {w : World} {G : Nat} {l : List Value} (h : Row w G l) (hG : G < w.heap.size) : Cells w G l := ⟨hG, fun j u hu => (h j u hu).1⟩
set_option maxRecDepth 100000 in
set_option maxHeartbeats 1000000 in
theorem match_any (A : Option Addr) (c : Nat) (t : Prs) (l : Nat) (w : World) (hA : Arr w w.heap.size A (pairsV t)) (ht : t.length ≤ 9223372036854775807) : Calls Tryz.prog 77 #[.slice A t.length c, .int .i64 l] w fun e w' => e = .returned (.agg #[.int .i64 l, .int .i64 (matchP t l)]) ∧ Below w.heap.size w w' := by
 refine enterE Tryz.func77 rfl Tryz.ntmps77 (by simp) (fun a hE => ?_); simp only [envOf, Nat.zero_add, Nat.reduceAdd] at hE
 refine Ks ?_
 refine Rs 1 fun Q' K hK => ?_
 refine M0 fun K' J ρ => ?_; go_simp;
 refine Ln hE J fun _ Eb => ?_; clear J K' hE a
 refine Ld [0, 1, 4] Eb hK fun a hE => ?_; clear hK K Q' Eb
 obtain ⟨R, hRe⟩ : ∃ B, B = w.heap.size := ⟨_, rfl⟩; have hnR : w.heap.size ≤ R := Nat.le_of_eq hRe.symm; rw [← hRe] at hE; refine world_cut (fun wt => Below w.heap.size w wt ∧ R < wt.heap.size ∧ Row wt R [.int .i64 0, .int .i64 0]) ⟨(Below.refl _ _).alloc (Nat.le_refl _) _, by rw [hRe]; simp, by rw [hRe]; exact row_new _ _ _⟩ (fun w1 hCut => ?_); obtain ⟨hbw1, hlR, hRR⟩ := hCut; clear hRe
 refine Ks ?_
 refine Rs 3 fun Q' K hK => ?_
 refine M1 hE 0 fun K' J ρ q0 => ?_; go_simp
 refine Ln hE J fun _ Eb => ?_; clear J K' hE a q0
 refine M1 Eb 7 fun K' J ρ q7 => ?_; go_simp; (try go_bits)
 refine Ln Eb J fun _ Ea => ?_; clear J K' Eb q7
 refine M0 fun K' J ρ => ?_; go_simp;
 refine Ln Ea J fun _ Eb => ?_; clear J K' Ea
 refine Ld [1, 4, 7, 8, 9] Eb hK fun a hE => ?_; clear hK K Q' Eb
 refine Ks ?_
 refine loop_st (fun (k : Nat) a w' => k ≤ t.length ∧ Fits 33 [(1, .int .i64 l), (4, .pointer (some ⟨R, 0, none⟩)), (7, .slice A t.length c), (8, .int .i64 t.length), (9, .int .i64 k)] a ∧ Below w.heap.size w w' ∧ (R < w'.heap.size ∧ Row w' R [.int .i64 0, .int .i64 0]) ∧ matchP (t.drop k) l = matchP t l) (fun k => t.length - k) 0 ?_ (fun k a w' hI => ?_)
 ·exact ⟨Nat.zero_le _, by simpa using hE, hbw1, ⟨hlR, hRR⟩, rfl⟩
 clear hE hbw1 hlR hRR
 obtain ⟨hk, hE, hB, ⟨hlR, hRR⟩, hM⟩ := hI
 have HM := hid hM
 clear hM
 refine Ks ?_
 refine Rs 1 fun Q' K hK => ?_
 refine M2 hE 9 8 fun K' J ρ q9 q8 => ?_; go_simp; (try go_bits)
 refine Ln hE J fun _ Eb => ?_; clear J K' hE a q9 q8
 refine Ld [1, 4, 7, 8, 9, 10] Eb hK fun a hE => ?_; clear hK K Q' Eb
 refine Ks ?_
 refine cond_part hE (t := 10) rfl (fun h => ?_) (fun h => ?_)
 ·have hlt : k < t.length := by have := of_decide_eq_true h; omega
  clear h
  have hltI : (k : Int) < t.length := by omega
  have hd := matchP_drop t k hlt l
  have HD := hid hd
  clear hd
  obtain ⟨b, o, rfl, hb, c0, c1⟩ := (hA.below hB).pr hlt
  obtain ⟨p, hp⟩ : ∃ p, t[k] = p := ⟨_, rfl⟩
  rw [hp] at c0 c1
  have HP := hid hp
  clear hp
  have hbw : b < w'.heap.size := Nat.lt_of_lt_of_le hb hB.size
  refine Ks ?_
  refine Rs 4 fun Q' K hK => ?_
  refine M2 hE 7 9 fun K' J ρ q7 q9 => ?_; go_simp; (try go_bits)
  refine Ln hE J fun _ Eb => ?_; clear J K' hE a q7 q9
  refine M1 Eb 11 fun K' J ρ q11 => ?_; go_simp
  refine Ln Eb J fun _ Ea => ?_; clear J K' Eb q11
  refine M0 fun K' J ρ => ?_; go_simp;
  refine Ln Ea J fun _ Eb => ?_; clear J K' Ea
  refine M2 Eb 6 12 fun K' J ρ q6 q12 => ?_; go_simp; (try clear q6 q12)
  refine late_skip Eb J (fun _ Ea => ?_); clear J K'; clear Eb
  refine Ld [1, 4, 6, 7, 8, 9] Ea hK fun a hE => ?_; clear hK K Q' Ea
  obtain ⟨F, hFe⟩ : ∃ B, B = w'.heap.size := ⟨_, rfl⟩; have hnF : w'.heap.size ≤ F := Nat.le_of_eq hFe.symm; rw [← hFe] at hE; refine world_cut (fun wt => Below w'.heap.size w' wt ∧ F < wt.heap.size ∧ Row wt F [.int .i64 p.1, .int .i64 p.2]) ⟨(Below.refl _ _).alloc (Nat.le_refl _) _, by rw [hFe]; simp, by rw [hFe]; exact row_new _ _ _⟩ (fun w2 hCut => ?_); obtain ⟨hbw2, hlF, hRF⟩ := hCut; clear hFe
  have hB2 := hB.trans (hbw2.mono hB.size)
  replace hRR := hRR.below hbw2 hlR
  have hlR2 := Nat.lt_of_lt_of_le hlR hbw2.size
  have hRn := hnR
  have hCF := row_cells hRF hlF
  clear hbw2 c0 c1 hbw hnR
  obtain ⟨nF, cF0, cF1⟩ := hCF.c2
  refine Ks ?_
  refine Rs 1 fun Q' K hK => ?_
  refine M1 hE 1 fun K' J ρ q1 => ?_; go_simp
  refine Ln hE J fun _ Eb => ?_; clear J K' hE a q1
  refine Ld [1, 4, 6, 7, 8, 9, 13] Eb hK fun a hE => ?_; clear hK K Q' Eb
  refine Ks ?_
  refine Rs 4 fun Q' K hK => ?_
  refine M1 hE 6 fun K' J ρ q6 => ?_; go_simp
  refine Ln hE J fun _ Eb => ?_; clear J K' hE a q6
  refine M1 Eb 15 fun K' J ρ q15 => ?_; go_simp
  refine Ln Eb J fun _ Ea => ?_; clear J K' Eb q15
  refine M2 Ea 13 16 fun K' J ρ q13 q16 => ?_; go_simp; (try go_bits)
  refine Ln Ea J fun _ Eb => ?_; clear J K' Ea q13 q16
  refine M1 Eb 17 fun K' J ρ q17 => ?_; go_simp
  refine Ln Eb J fun _ Ea => ?_; clear J K' Eb q17
  refine Ld [1, 4, 6, 7, 8, 9, 13, 14] Ea hK fun a hE => ?_; clear hK K Q' Ea
  refine Ks ?_
  have g0 := (hRR 0 _ rfl).1
  have g1 := (hRR 1 _ rfl).1
  have y0 := (hRR 0 _ rfl).2
  have y1 := (hRR 1 _ rfl).2
  refine cond_part hE (t := 14) rfl (fun h => ?_) (fun h => ?_)
  ·refine Ks ?_
   refine Rs 5 fun Q' K hK => ?_
   refine M1 hE 1 fun K' J ρ q1 => ?_; go_simp
   refine Ln hE J fun _ Eb => ?_; clear J K' hE a q1
   refine M1 Eb 6 fun K' J ρ q6 => ?_; go_simp
   refine Ln Eb J fun _ Ea => ?_; clear J K' Eb q6
   refine M1 Ea 19 fun K' J ρ q19 => ?_; go_simp
   refine Ln Ea J fun _ Eb => ?_; clear J K' Ea q19
   refine M2 Eb 18 20 fun K' J ρ q18 q20 => ?_; go_simp
   refine Ln Eb J fun _ Ea => ?_; clear J K' Eb q18 q20
   refine M2 Ea 4 21 fun K' J ρ q4 q21 => ?_; go_simp; (try clear q4 q21)
   refine late_skip Ea J (fun _ Eb => ?_); clear J K'; clear Ea
   refine Ld [4] Eb hK fun a hE => ?_; clear hK K Q' Eb
   refine world_cut (fun wt => Below w.heap.size w wt ∧ Cells wt R [.int .i64 l, .int .i64 p.2]) ⟨(hB2.setCell hRn _).setCell hRn _, row_cells ((hRR.set (by simp)).set (by simp)) (by simp; omega)⟩ (fun w3 hC => ?_)
   obtain ⟨hB3, hCR⟩ := hC
   clear g0 g1 y0 y1 nF cF0 cF1
   obtain ⟨nR, cR0, cR1⟩ := hCR.c2
   refine Ks ?_
   have g := hE.at 4 rfl
   refine bodyPost_ret (v := .agg #[.int .i64 l, .int .i64 p.2]) (by simp [results, Tryz.results77, go_sem, g, cR0, cR1]) hE.1 ⟨?_, hB3⟩
   have hh : l = p.1 := by (have h' : ((l : Int) = p.1) := (by simpa using h)); omega
   rw [← HM.out, HD.out, HP.out, if_pos hh]
  ·refine Ks ?_
   refine Rs 4 fun Q' K hK => ?_
   refine M1 hE 6 fun K' J ρ q6 => ?_; go_simp
   refine Ln hE J fun _ Eb => ?_; clear J K' hE a q6
   refine M1 Eb 23 fun K' J ρ q23 => ?_; go_simp
   refine Ln Eb J fun _ Ea => ?_; clear J K' Eb q23
   refine M2 Ea 13 24 fun K' J ρ q13 q24 => ?_; go_simp; (try go_bits)
   refine Ln Ea J fun _ Eb => ?_; clear J K' Ea q13 q24
   refine M1 Eb 25 fun K' J ρ q25 => ?_; go_simp
   refine Ln Eb J fun _ Ea => ?_; clear J K' Eb q25
   refine Ld [1, 4, 6, 7, 8, 9, 13, 22] Ea hK fun a hE => ?_; clear hK K Q' Ea
   refine Ks ?_
   have hh : ¬ l = p.1 := by (have h' : ¬ ((l : Int) = p.1) := (by simpa using h)); omega
   have HH := hid hh
   clear h hh
   refine cond_part hE (t := 22) rfl (fun h => ?_) (fun h => ?_)
   ·refine Ks ?_
    refine Rs 5 fun Q' K hK => ?_
    refine M1 hE 1 fun K' J ρ q1 => ?_; go_simp
    refine Ln hE J fun _ Eb => ?_; clear J K' hE a q1
    refine M1 Eb 6 fun K' J ρ q6 => ?_; go_simp
    refine Ln Eb J fun _ Ea => ?_; clear J K' Eb q6
    refine M1 Ea 27 fun K' J ρ q27 => ?_; go_simp
    refine Ln Ea J fun _ Eb => ?_; clear J K' Ea q27
    refine M2 Eb 26 28 fun K' J ρ q26 q28 => ?_; go_simp
    refine Ln Eb J fun _ Ea => ?_; clear J K' Eb q26 q28
    refine M2 Ea 4 29 fun K' J ρ q4 q29 => ?_; go_simp; (try clear q4 q29)
    refine late_skip Ea J (fun _ Eb => ?_); clear J K'; clear Ea
    refine Ld [4] Eb hK fun a hE => ?_; clear hK K Q' Eb
    refine world_cut (fun wt => Below w.heap.size w wt ∧ Cells wt R [.int .i64 l, .int .i64 p.1]) ⟨(hB2.setCell hRn _).setCell hRn _, row_cells ((hRR.set (by simp)).set (by simp)) (by simp; omega)⟩ (fun w3 hC => ?_)
    obtain ⟨hB3, hCR⟩ := hC
    clear g0 g1 y0 y1 nF cF0 cF1
    obtain ⟨nR, cR0, cR1⟩ := hCR.c2
    refine Ks ?_
    have g := hE.at 4 rfl
    refine bodyPost_ret (v := .agg #[.int .i64 l, .int .i64 p.1]) (by simp [results, Tryz.results77, go_sem, g, cR0, cR1]) hE.1 ⟨?_, hB3⟩
    have hh : l = p.2 := by (have h' : ((l : Int) = p.2) := (by simpa using h)); omega
    rw [← HM.out, HD.out, HP.out, if_neg HH.out, if_pos hh]
   ·have hh : ¬ l = p.2 := by (have h' : ¬ ((l : Int) = p.2) := (by simpa using h)); omega
    refine Ks ?_
    refine Rs 2 fun Q' K hK => ?_
    refine M1 hE 9 fun K' J ρ q9 => ?_; go_simp; (try go_bits); (try simp (disch := omega) only [IntWalk.i64_in])
    refine Ln hE J fun _ Eb => ?_; clear J K' hE a q9
    refine M1 Eb 30 fun K' J ρ q30 => ?_; go_simp
    refine Ln Eb J fun _ Ea => ?_; clear J K' Eb q30
    refine Ld [1, 4, 7, 8, 9] Ea hK fun a hE => ?_; clear hK K Q' Ea
    refine Ks ?_
    refine ⟨k + 1, ⟨hlt, by simpa using hE, hB2, ⟨hlR2, hRR⟩, ?_⟩, by omega⟩
    rw [← HM.out, HD.out, HP.out, if_neg HH.out, if_neg hh]
 ·have hkk : k = t.length := by have := of_decide_eq_false h; omega
  clear h
  have g0 := (hRR 0 _ rfl).1
  have g1 := (hRR 1 _ rfl).1
  have y0 := (hRR 0 _ rfl).2
  have y1 := (hRR 1 _ rfl).2
  refine Ks ?_
  refine Rs 3 fun Q' K hK => ?_
  refine M1 hE 1 fun K' J ρ q1 => ?_; go_simp
  refine Ln hE J fun _ Eb => ?_; clear J K' hE a q1
  refine M1 Eb 31 fun K' J ρ q31 => ?_; go_simp
  refine Ln Eb J fun _ Ea => ?_; clear J K' Eb q31
  refine M2 Ea 4 32 fun K' J ρ q4 q32 => ?_; go_simp; (try clear q4 q32)
  refine late_skip Ea J (fun _ Eb => ?_); clear J K'; clear Ea
  refine Ld [4] Eb hK fun a hE => ?_; clear hK K Q' Eb
  refine world_cut (fun wt => Below w.heap.size w wt ∧ Cells wt R [.int .i64 l, .int .i64 (-1)]) ⟨(hB.setCell hnR _).setCell hnR _, row_cells ((hRR.set (by simp)).set (by simp)) (by simp; omega)⟩ (fun w3 hC => ?_)
  obtain ⟨hB3, hCR⟩ := hC
  clear g0 g1 y0 y1
  obtain ⟨nR, cR0, cR1⟩ := hCR.c2
  refine Ks ?_
  have g := hE.at 4 rfl
  refine bodyPost_ret (v := .agg #[.int .i64 l, .int .i64 (-1)]) (by simp [results, Tryz.results77, go_sem, g, cR0, cR1]) hE.1 ⟨?_, hB3⟩
  rw [← HM.out, hkk, List.drop_length]; rfl
end Go.Proofs.YtbimkcjdodgojaaGreat
