/- Name: truths, one after another: line by line. -/
import Derived.Test.YtbimkcjdodgojaaGreatKBNaf

namespace Go.Proofs.YtbimkcjdodgojaaGreat
set_option linter.unusedSimpArgs false
set_option linter.unusedVariables false
open Go Go.RowKit
attribute [local go_sem high] cell_set_wr
attribute [local go_sem low] cell_wr frozen_wr
attribute [local go_sem] wr_set wr_drew wr_drewN wr_alloc wr_new Rho.c Rho.n Rho.g
section
variable (cs : List (List Nat)) (n : Nat) (lost : Int) (r k : Nat) (t : Prs)
/-- the truths behind the first others of a line -/
def partP (j : Nat) : List Prs := (((cs.getD k []).take j).filter fun o => !usedP t o).flatMap fun o => fromP n lost cs r (k + 1) (t ++ [(k, o)])
theorem fromP_succ : fromP n lost cs (r + 1) k t = partP cs n lost r k t (cs.getD k []).length ++ fromP n lost cs r (k + 1) t := by
 unfold partP; rw [List.take_length]; rfl
theorem partP_zero : partP cs n lost r k t 0 = [] := by simp [partP]
theorem partP_used {j : Nat} (h : j < (cs.getD k []).length) (hu : usedP t (cs.getD k [])[j] = true) : partP cs n lost r k t (j + 1) = partP cs n lost r k t j := by
 unfold partP
 rw [List.take_succ_eq_append_getElem h, List.filter_append, List.flatMap_append]
 have e : List.filter (fun o => !usedP t o) [(cs.getD k [])[j]] = [] := by rw [List.filter_cons, hu]; rfl
 rw [e, List.flatMap_nil, List.append_nil]
theorem partP_free {j : Nat} (h : j < (cs.getD k []).length) (hu : usedP t (cs.getD k [])[j] = false) : partP cs n lost r k t (j + 1) = partP cs n lost r k t j ++ fromP n lost cs r (k + 1) (t ++ [(k, (cs.getD k [])[j])]) := by
 unfold partP
 rw [List.take_succ_eq_append_getElem h, List.filter_append, List.flatMap_append]
 have e : List.filter (fun o => !usedP t o) [(cs.getD k [])[j]] = [(cs.getD k [])[j]] := by rw [List.filter_cons, hu]; rfl
 rw [e, List.flatMap_cons, List.flatMap_nil, List.append_nil]
theorem partP_prefix {j : Nat} (h : j ≤ (cs.getD k []).length) : partP cs n lost r k t j <+: partP cs n lost r k t (cs.getD k []).length := by
 unfold partP
 rw [List.take_length]
 refine ⟨(((cs.getD k []).drop j).filter fun o => !usedP t o).flatMap fun o => fromP n lost cs r (k + 1) (t ++ [(k, o)]), ?_⟩
 rw [← List.flatMap_append, ← List.filter_append, List.take_append_drop]
end
theorem usedP_no {t : Prs} {o : Nat} (h : ∀ i (hi : i < t.length), t[i].2 ≠ o) : usedP t o = false := by
 unfold usedP
 rw [List.any_eq_false]
 intro p hp
 obtain ⟨i, hi, rfl⟩ := List.getElem_of_mem hp
 simpa using h i hi
theorem usedP_yes {t : Prs} {o i : Nat} (hi : i < t.length) (h : t[i].2 = o) : usedP t o = true := by
 unfold usedP
 rw [List.any_eq_true]
 exact ⟨t[i], List.getElem_mem hi, by simpa using h⟩
theorem pairsV_snoc (t : Prs) (p : Nat × Nat) : pairsV (t ++ [p]) = pairsV t ++ pcells p := by simp [pairsV]
theorem OutR.false {α : Type} {J : List α → (Nat → Prop) → World → Prop} {Jx : List α → World → Prop} {XS : List α} {l : Nat} {pre add pre2 add2 : List α} {M M2 : Nat → Prop} {V V2 V' : World} {x : Bool} (h : OutR J Jx XS l pre add M V x V') (hx : x = false) : OutR J Jx XS l pre2 add2 M2 V2 false V' := by
 rcases h with ⟨rfl, _⟩ | ⟨_, h⟩
 ·cases hx
 ·exact .inr ⟨rfl, h⟩
theorem OutR.true {α : Type} {J : List α → (Nat → Prop) → World → Prop} {Jx : List α → World → Prop} {XS : List α} {l : Nat} {pre add : List α} {M : Nat → Prop} {V V' : World} {x : Bool} (h : OutR J Jx XS l pre add M V x V') (hx : x = true) : ∃ M', J (pre ++ add) M' V' ∧ Grow M M' V ∧ KeepM M l V V' := by
 rcases h with ⟨_, h⟩ | ⟨rfl, _⟩
 ·exact h
 ·cases hx
section
variable {A : Option Addr} {cap : Nat} {L : Option Addr} {lcap : Nat} {b : Bk} {u0 u1 u2 u3 u4 u5 u6 u7 u8 : Value} {cs : List (List Nat)} {B Y Z l : Nat}
set_option maxRecDepth 100000 in
set_option maxHeartbeats 8000000 in
theorem pair_any (N : Nat) (J : List Prs → (Nat → Prop) → World → Prop) (Jx : List Prs → World → Prop) (XS : List Prs) (W : World) (hNW : N ≤ W.heap.size) (hn : b.lines.length ≤ 9) (hl : b.lines.length ≤ lcap) (hcs : ∀ k, (cs.getD k []).length ≤ 9223372036854775807)
    (hY : ∀ pre x M V vs, J pre M V → W.heap.size ≤ V.heap.size → encT N x vs V → pre ++ [x] <+: XS → YieldW Tryz.prog l vs V fun e V' =>
     (e = .returned (.bool true) ∧ ∃ M', J (pre ++ [x]) M' V' ∧ Grow M M' V ∧ KeepM M l V V') ∨ (e = .returned (.bool false) ∧ Jx (pre ++ [x]) V'))
    (hJ : ∀ s M A C, J s M A → Below W.heap.size A C → (∀ k, M k → C.heap[k]? = A.heap[k]?) → J s M C) (hJM : ∀ s M A, J s M A → (∀ k, M k → k < A.heap.size) ∧ ¬ M l) :
    ∀ (r k : Nat) (T : Option Addr) (c : Nat) (t : Prs) (M : Nat → Prop) (V : World) (pre : List Prs), k + r = b.lines.length → t.length ≤ k → t.length ≤ c → J pre M V → pre ++ fromP b.lines.length b.lost cs r k t <+: XS → W.heap.size ≤ V.heap.size →
    Dat A cap L lcap b u0 u1 u2 u3 u4 u5 u6 u7 u8 cs B Y Z l M V → ArrT N M l V T t → l < V.heap.size →
    Calls Tryz.prog 95 #[.int .i64 k, .slice T t.length c, .pointer (some ⟨B, 0, none⟩), .pointer (some ⟨Y, 0, none⟩), .pointer (some ⟨Z, 0, none⟩)] V
     fun e V' => ∃ x, e = .returned (.bool x) ∧ OutR J Jx XS l pre (fromP b.lines.length b.lost cs r k t) M V x V' := by
 intro r
 induction r with
 | zero =>
  intro k T c t M V pre hk ht hc h0 hp hV hD hT _
  obtain rfl : k = b.lines.length := by omega
  exact pair_end N J Jx XS W hn hl hY hJ hJM T c t M V pre ht hc h0 hp hV hD hT
 | succ r ih =>
  intro k T c t M V pre hk ht hc h0 hp hV hD hT hlV
  have hkn : k < b.lines.length := by omega
  have hk9 : (k : Int) < 9 := by omega
  have hkne : decide ((k : Int) = b.lines.length) = false := decide_eq_false (by omega)
  have HKN := hid hkne
  rw [fromP_succ] at hp ⊢
  obtain ⟨Ak, ck, hu, hAk⟩ := hD.cu k hkn
  have hCB := hD.cb.cells
  have hcu : V.cell? ⟨B, 7 + k, none⟩ = some (.slice Ak (cs.getD k []).length ck) := by
   refine hCB.2 (7 + k) _ ?_
   show ([.slice A b.ear.alike.length cap, .string b.ear.mute, .int .i64 b.ear.slips, .slice L b.lines.length lcap, .int .i64 b.lo, .int .i64 b.hi, .int .i64 b.lost] ++ [u0, u1, u2, u3, u4, u5, u6, u7, u8])[7 + k]? = _
   rw [List.getElem?_append_right (by simp)]
   simpa using hu
  obtain ⟨C, hC⟩ : ∃ C, cs.getD k [] = C := ⟨_, rfl⟩
  have HCC := hid hC
  have hC9 := hcs k
  rw [hC] at hC9
  have hC9' : (C.length : Int) ≤ 9223372036854775807 := by omega
  clear hu hkne
  rw [hC] at hcu hAk hp ⊢
  clear hC
  simp only [bksV] at hCB
  refine enterE Tryz.func95 rfl Tryz.ntmps95 (by simp) (fun a hE => ?_); simp only [envOf, Nat.zero_add, Nat.reduceAdd] at hE
  refine Ks ?_
  refine Rs 1 fun Q' K hK => ?_
  refine M0 fun K' Kh ρ => ?_; go_simp;
  refine Ln hE Kh fun _ Eb => ?_; clear Kh K' hE a
  refine Ld [0, 1, 2, 3, 4] Eb hK fun a hE => ?_; clear hK K Q' Eb
  refine Ks ?_
  obtain ⟨nB, cB0, cB1, cB2, cB3, cB4, cB5, cB6⟩ := hCB.c7
  refine Rs 6 fun Q' K hK => ?_
  refine M1 hE 0 fun K' Kh ρ q0 => ?_; go_simp
  refine Ln hE Kh fun _ Eb => ?_; clear Kh K' hE a q0
  refine M1 Eb 2 fun K' Kh ρ q2 => ?_; go_simp
  refine Ln Eb Kh fun _ Ea => ?_; clear Kh K' Eb q2
  refine M1 Ea 13 fun K' Kh ρ q13 => ?_; go_simp
  refine Ln Ea Kh fun _ Eb => ?_; clear Kh K' Ea q13
  refine M1 Eb 14 fun K' Kh ρ q14 => ?_; go_simp
  refine Ln Eb Kh fun _ Ea => ?_; clear Kh K' Eb q14
  refine M1 Ea 15 fun K' Kh ρ q15 => ?_; go_simp; (try go_bits)
  refine Ln Ea Kh fun _ Eb => ?_; clear Kh K' Ea q15
  refine Go.Proofs.YtbimkcjdodgojaaGreat.M2 Eb 12 16 fun K' Kh ρ q12 q16 => ?_; go_simp; (try go_bits)
  refine Ln Eb Kh fun _ Ea => ?_; clear Kh K' Eb q12 q16
  refine Ld [0, 1, 2, 3, 4, 17] Ea hK fun a hE => ?_; clear hK K Q' Ea
  refine Ks ?_
  replace hE := hE.turn 17 (v' := .bool false) rfl (by first | (rw [HKN.out]; done) | (congr 1; done) | (simp; done) | (simp; omega))
  refine cond_no hE (t := 17) rfl ?_
  refine Ks ?_
  refine Rs 6 fun Q' K hK => ?_
  refine M1 hE 0 fun K' Kh ρ q0 => ?_; go_simp
  refine Ln hE Kh fun _ Eb => ?_; clear Kh K' hE a q0
  refine M1 Eb 2 fun K' Kh ρ q2 => ?_; go_simp
  refine Ln Eb Kh fun _ Ea => ?_; clear Kh K' Eb q2
  refine Go.Proofs.YtbimkcjdodgojaaGreat.M2 Ea 36 35 fun K' Kh ρ q36 q35 => ?_; go_simp; (try go_bits)
  refine Ln Ea Kh fun _ Eb => ?_; clear Kh K' Ea q36 q35
  refine M1 Eb 37 fun K' Kh ρ q37 => ?_; go_simp
  refine Ln Eb Kh fun _ Ea => ?_; clear Kh K' Eb q37
  refine M1 Ea 38 fun K' Kh ρ q38 => ?_; go_simp; (try go_bits)
  refine Ln Ea Kh fun _ Eb => ?_; clear Kh K' Ea q38
  refine M0 fun K' Kh ρ => ?_; go_simp;
  refine Ln Eb Kh fun _ Ea => ?_; clear Kh K' Eb
  refine Ld [0, 1, 2, 3, 4, 38, 39, 40] Ea hK fun a hE => ?_; clear hK K Q' Ea
  refine Ks ?_
  clear cB0 cB1 cB2 cB3 cB4 cB5 cB6 nB hcu
  refine loop_st (fun (j : Nat) a w' => j ≤ C.length ∧ Fits 77 [(0, .int .i64 k), (1, .slice T t.length c), (2, .pointer (some ⟨B, 0, none⟩)), (3, .pointer (some ⟨Y, 0, none⟩)), (4, .pointer (some ⟨Z, 0, none⟩)), (38, .slice Ak C.length ck), (39, .int .i64 C.length), (40, .int .i64 j)] a ∧
   ∃ M', J (pre ++ partP cs b.lines.length b.lost r k t j) M' w' ∧ Grow M M' V ∧ KeepM M l V w') (fun j => C.length - j) 0 ?_ (fun j a w' hI => ?_)
  ·exact ⟨Nat.zero_le _, by simpa using hE, M, by rw [partP_zero]; simpa using h0, .refl _ _, .refl _ _ _⟩
  clear hE
  obtain ⟨hj, hE, M', hJr, hGr, hKr⟩ := hI
  obtain ⟨wr, hwr⟩ : ∃ x, x = w' := ⟨_, rfl⟩
  subst hwr
  have hDr := hD.keep hKr hGr
  have hTr := hT.keep hKr hGr
  have hAr := hAk.keep hKr hGr
  have hVr := hKr.size
  refine Ks ?_
  refine Rs 1 fun Q' K hK => ?_
  refine Go.Proofs.YtbimkcjdodgojaaGreat.M2 hE 40 39 fun K' Kh ρ q40 q39 => ?_; go_simp; (try go_bits)
  refine Ln hE Kh fun _ Eb => ?_; clear Kh K' hE a q40 q39
  refine Ld [0, 1, 2, 3, 4, 38, 39, 40, 41] Eb hK fun a hE => ?_; clear hK K Q' Eb
  refine Ks ?_
  refine cond_part hE (t := 41) rfl (fun h => ?_) (fun h => ?_)
  ·have hlt : j < C.length := by have := of_decide_eq_true h; omega
   clear h
   have hltI : (j : Int) < C.length := by omega
   have HPU : Hid (usedP t C[j] = true → partP cs b.lines.length b.lost r k t (j + 1) = partP cs b.lines.length b.lost r k t j) := hid (fun h => partP_used cs b.lines.length b.lost r k t (j := j) (by rw [HCC.out]; exact hlt) (by simpa only [HCC.out] using h))
   have HPF : Hid (usedP t C[j] = false → partP cs b.lines.length b.lost r k t (j + 1) = partP cs b.lines.length b.lost r k t j ++ fromP b.lines.length b.lost cs r (k + 1) (t ++ [(k, C[j])])) := hid (fun h => by
    have := partP_free cs b.lines.length b.lost r k t (j := j) (by rw [HCC.out]; exact hlt) (by simpa only [HCC.out] using h)
    simpa only [HCC.out] using this)
   have HPX : Hid (partP cs b.lines.length b.lost r k t (j + 1) <+: partP cs b.lines.length b.lost r k t C.length) := hid (by
    have := partP_prefix cs b.lines.length b.lost r k t (j := j + 1) (by rw [HCC.out]; exact hlt)
    simpa only [HCC.out] using this)
   obtain ⟨b0, o0, hAe, hb0, _, _, hc0⟩ := hAr.nat hlt
   obtain ⟨o, ho⟩ : ∃ o, C[j] = o := ⟨_, rfl⟩
   rw [ho] at hc0 HPU HPF
   clear ho
   subst hAe
   refine Ks ?_
   refine Rs 3 fun Q' K hK => ?_
   refine Go.Proofs.YtbimkcjdodgojaaGreat.M2 hE 38 40 fun K' Kh ρ q38 q40 => ?_; go_simp; (try go_bits)
   refine Ln hE Kh fun _ Eb => ?_; clear Kh K' hE a q38 q40
   refine M1 Eb 42 fun K' Kh ρ q42 => ?_; go_simp
   refine Ln Eb Kh fun _ Ea => ?_; clear Kh K' Eb q42
   refine M1 Ea 43 fun K' Kh ρ q43 => ?_; go_simp
   refine Ln Ea Kh fun _ Eb => ?_; clear Kh K' Ea q43
   refine Ld [0, 1, 2, 3, 4, 9, 38, 39, 40] Eb hK fun a hE => ?_; clear hK K Q' Eb
   refine Ks ?_
   refine Rs 3 fun Q' K hK => ?_
   refine M1 hE 1 fun K' Kh ρ q1 => ?_; go_simp
   refine Ln hE Kh fun _ Eb => ?_; clear Kh K' hE a q1
   refine M1 Eb 44 fun K' Kh ρ q44 => ?_; go_simp; (try go_bits)
   refine Ln Eb Kh fun _ Ea => ?_; clear Kh K' Eb q44
   refine M0 fun K' Kh ρ => ?_; go_simp;
   refine Ln Ea Kh fun _ Eb => ?_; clear Kh K' Ea
   refine Ld [0, 1, 2, 3, 4, 9, 38, 39, 40, 44, 45, 46] Eb hK fun a hE => ?_; clear hK K Q' Eb
   refine Ks ?_
   clear hc0
   refine loop_st (fun (i : Nat) a w' => i ≤ t.length ∧ Fits 77 [(0, .int .i64 k), (1, .slice T t.length c), (2, .pointer (some ⟨B, 0, none⟩)), (3, .pointer (some ⟨Y, 0, none⟩)), (4, .pointer (some ⟨Z, 0, none⟩)), (9, .int .i64 o), (38, .slice (some ⟨b0, o0, none⟩) C.length ck), (39, .int .i64 C.length), (40, .int .i64 j), (44, .slice T t.length c), (45, .int .i64 t.length), (46, .int .i64 i)] a ∧
    Below wr.heap.size wr w' ∧ ∀ i' (h : i' < t.length), i' < i → t[i'].2 ≠ o) (fun i => t.length - i) 0 ?_ (fun i a w' hI => ?_)
   ·exact ⟨Nat.zero_le _, by simpa using hE, Below.refl _ _, fun _ _ h => absurd h (Nat.not_lt_zero _)⟩
   clear hE
   obtain ⟨hi, hE, hBi, hNi⟩ := hI
   obtain ⟨wi, hwi⟩ : ∃ x, x = w' := ⟨_, rfl⟩
   subst hwi
   have HN := hid hNi
   clear hNi
   have hti : (t.length : Int) ≤ 9223372036854775807 := by omega
   refine Ks ?_
   refine Rs 1 fun Q' K hK => ?_
   refine Go.Proofs.YtbimkcjdodgojaaGreat.M2 hE 46 45 fun K' Kh ρ q46 q45 => ?_; go_simp; (try go_bits)
   refine Ln hE Kh fun _ Eb => ?_; clear Kh K' hE a q46 q45
   refine Ld [0, 1, 2, 3, 4, 9, 38, 39, 40, 44, 45, 46, 47] Eb hK fun a hE => ?_; clear hK K Q' Eb
   refine Ks ?_
   refine cond_part hE (t := 47) rfl (fun h => ?_) (fun h => ?_)
   ·have hit : i < t.length := by have := of_decide_eq_true h; omega
    clear h
    have hitI : (i : Int) < t.length := by omega
    obtain ⟨bt, ot, hTe, hbt, c0, c1⟩ := (hTr.below hBi).arr.pr hit
    obtain ⟨p, hp'⟩ : ∃ p, t[i] = p := ⟨_, rfl⟩
    rw [hp'] at c0 c1
    have HP := hid hp'
    clear hp'
    subst hTe
    refine Ks ?_
    refine Rs 4 fun Q' K hK => ?_
    refine Go.Proofs.YtbimkcjdodgojaaGreat.M2 hE 44 46 fun K' Kh ρ q44 q46 => ?_; go_simp; (try go_bits)
    refine Ln hE Kh fun _ Eb => ?_; clear Kh K' hE a q44 q46
    refine M1 Eb 48 fun K' Kh ρ q48 => ?_; go_simp
    refine Ln Eb Kh fun _ Ea => ?_; clear Kh K' Eb q48
    refine M0 fun K' Kh ρ => ?_; go_simp;
    refine Ln Ea Kh fun _ Eb => ?_; clear Kh K' Ea
    refine Go.Proofs.YtbimkcjdodgojaaGreat.M2 Eb 11 49 fun K' Kh ρ q11 q49 => ?_; go_simp; (try clear q11 q49)
    refine late_skip Eb Kh (fun _ Ea => ?_); clear Kh K'; clear Eb
    refine Ld [0, 1, 2, 3, 4, 9, 11, 38, 39, 40, 44, 45, 46] Ea hK fun a hE => ?_; clear hK K Q' Ea
    obtain ⟨F, hFe⟩ : ∃ B, B = wi.heap.size := ⟨_, rfl⟩; have hnF : wi.heap.size ≤ F := Nat.le_of_eq hFe.symm; rw [← hFe] at hE; refine world_cut (fun wt => Below wi.heap.size wi wt ∧ F < wt.heap.size ∧ Row wt F [.int .i64 p.1, .int .i64 p.2]) ⟨(Below.refl _ _).alloc (Nat.le_refl _) _, by rw [hFe]; simp, by rw [hFe]; exact row_new _ _ _⟩ (fun wf hCut => ?_); obtain ⟨hbwf, hlF, hRF⟩ := hCut; clear hFe
    have hBf := hBi.trans (hbwf.mono hBi.size)
    have hCF := row_cells hRF hlF
    clear c0 c1 hbwf
    obtain ⟨nF, cF0, cF1⟩ := hCF.c2
    refine Ks ?_
    refine Rs 4 fun Q' K hK => ?_
    refine M1 hE 11 fun K' Kh ρ q11 => ?_; go_simp
    refine Ln hE Kh fun _ Eb => ?_; clear Kh K' hE a q11
    refine M1 Eb 50 fun K' Kh ρ q50 => ?_; go_simp
    refine Ln Eb Kh fun _ Ea => ?_; clear Kh K' Eb q50
    refine M1 Ea 9 fun K' Kh ρ q9 => ?_; go_simp
    refine Ln Ea Kh fun _ Eb => ?_; clear Kh K' Ea q9
    refine Go.Proofs.YtbimkcjdodgojaaGreat.M2 Eb 51 52 fun K' Kh ρ q51 q52 => ?_; go_simp; (try go_bits)
    refine Ln Eb Kh fun _ Ea => ?_; clear Kh K' Eb q51 q52
    refine Ld [0, 1, 2, 3, 4, 9, 38, 39, 40, 44, 45, 46, 53] Ea hK fun a hE => ?_; clear hK K Q' Ea
    refine Ks ?_
    refine cond_part hE (t := 53) rfl (fun h => ?_) (fun h => ?_)
    ·have hh : p.2 = o := by (have h' : ((p.2 : Int) = o) := (by simpa using h)); omega
     have hPU := HPU.out (usedP_yes hit (by rw [HP.out]; exact hh))
     refine Ks ?_
     refine Rs 2 fun Q' K hK => ?_
     refine M1 hE 40 fun K' Kh ρ q40 => ?_; go_simp; (try go_bits); (try simp (disch := omega) only [IntWalk.i64_in])
     refine Ln hE Kh fun _ Eb => ?_; clear Kh K' hE a q40
     refine M1 Eb 71 fun K' Kh ρ q71 => ?_; go_simp
     refine Ln Eb Kh fun _ Ea => ?_; clear Kh K' Eb q71
     refine Ld [0, 1, 2, 3, 4, 38, 39, 40] Ea hK fun a hE => ?_; clear hK K Q' Ea
     refine Ks ?_
     refine ⟨j + 1, ⟨hlt, by simpa using hE, M', ?_, hGr, hKr.below hBf⟩, by omega⟩
     rw [hPU]
     exact hJ _ _ _ _ hJr (hBf.mono (by omega)) (fun q hq => hBf.block q ((hJM _ _ _ hJr).1 q hq))
    ·have hh : ¬ p.2 = o := by (have h' : ¬ ((p.2 : Int) = o) := (by simpa using h)); omega
     refine Ks ?_
     refine Rs 2 fun Q' K hK => ?_
     refine M1 hE 46 fun K' Kh ρ q46 => ?_; go_simp; (try go_bits); (try simp (disch := omega) only [IntWalk.i64_in])
     refine Ln hE Kh fun _ Eb => ?_; clear Kh K' hE a q46
     refine M1 Eb 54 fun K' Kh ρ q54 => ?_; go_simp
     refine Ln Eb Kh fun _ Ea => ?_; clear Kh K' Eb q54
     refine Ld [0, 1, 2, 3, 4, 9, 38, 39, 40, 44, 45, 46] Ea hK fun a hE => ?_; clear hK K Q' Ea
     refine Ks ?_
     refine ⟨i + 1, ⟨hit, by simpa using hE, hBf, fun i' h1 h2 => ?_⟩, by omega⟩
     rcases Nat.lt_or_ge i' i with h3 | h3
     ·exact HN.out i' h1 h3
     ·obtain rfl : i' = i := by omega
      rw [HP.out]; exact hh
   ·have hii : i = t.length := by have := of_decide_eq_false h; omega
    clear h
    have hfree := usedP_no fun i' h1 => HN.out i' h1 (by omega)
    have hPF := HPF.out hfree
    have HPF2 := hid hPF
    clear hPF hfree HN hii
    have hDi := hDr.below hBi
    have hTi := hTr.below hBi
    have hCZ := hDi.cz.cells
    have hTA := hTi.arr
    have hJi := hJ _ _ _ _ hJr (hBi.mono (by omega)) (fun q hq => hBi.block q ((hJM _ _ _ hJr).1 q hq))
    have hsi := hBi.size
    obtain ⟨nZ, cZ0⟩ := hCZ.c1
    refine Ks ?_
    refine Rd [14, 15] (fun wt => Below wi.heap.size wi wt) (fun w1 w2 => Below w1.heap.size w1 w2) [(0, some 55), (1, some 56), (2, some 57), (3, some 58), (4, some 59), (5, some 60), (6, some 61), (7, some 62), (8, some 63), (9, some 64), (10, some 65), (11, some 66), (12, some 67), (13, some 68)] [55, 56, 57, 58, 59, 60, 61, 62, 63, 64, 65, 66, 67, 68] #[true, true, true, true, true, true, true, true, true, true, true, true, true, true, false, false] [0, 1, 2, 3, 4, 38, 39, 40, 70] hE ((Below.refl _ _).drew) fun Q' K hK => ?_
    refine SeqOps.val ?_ (Sp fun ax wx hS hT' hd K' Kh => ?_) ?_; rotate_left 1
    ·have r4 := hS.at 4 (by decide) (hE.at 4 rfl); obtain ⟨_, _, _, _, _, _⟩ := bT hT'
     refine o1 r4 fun ρ q4 => ?_; go_simp;
     exact Jo Kh hT'
    refine SeqOps.val ?_ (Sp fun ax wx hS hT' hd K' Kh => ?_) ?_; rotate_left 1
    ·have r0 := hS.at 0 (by decide) (hE.at 0 rfl); obtain ⟨_, _, _, _, _, _⟩ := bT hT'
     refine o1 r0 fun ρ q0 => ?_; go_simp;
     exact Jo Kh hT'
    refine SeqOps.val ?_ (Sp fun ax wx hS hT' hd K' Kh => ?_) ?_; rotate_left 1
    ·have r56 := Tv hd 0 1 56; obtain ⟨_, _, _, _, _, _⟩ := bT hT'
     refine o1 r56 fun ρ q56 => ?_; go_simp; (try go_bits); (try simp (disch := omega) only [IntWalk.i64_in]);
     exact Jo Kh hT'
    refine SeqOps.val ?_ (Sp fun ax wx hS hT' hd K' Kh => ?_) ?_; rotate_left 1
    ·have r1 := hS.at 1 (by decide) (hE.at 1 rfl); obtain ⟨_, _, _, _, _, _⟩ := bT hT'
     refine o1 r1 fun ρ q1 => ?_; go_simp;
     exact Jo Kh hT'
    refine SeqOps.val ?_ (Sp fun ax wx hS hT' hd K' Kh => ?_) ?_; rotate_left 1
    ·have r1 := hS.at 1 (by decide) (hE.at 1 rfl); obtain ⟨_, _, _, _, _, _⟩ := bT hT'
     refine o1 r1 fun ρ q1 => ?_; go_simp;
     exact Jo Kh hT'
    refine SeqOps.val ?_ (Sp fun ax wx hS hT' hd K' Kh => ?_) ?_; rotate_left 1
    ·have r59 := Tv hd 0 4 59; obtain ⟨_, _, _, _, _, _⟩ := bT hT'
     refine o1 r59 fun ρ q59 => ?_; go_simp; (try go_bits);
     exact Jo Kh hT'
    refine SeqOps.val ?_ (Sp fun ax wx hS hT' hd K' Kh => ?_) ?_; rotate_left 1
    ·have r1 := hS.at 1 (by decide) (hE.at 1 rfl); obtain ⟨_, _, _, _, _, _⟩ := bT hT'
     refine o1 r1 fun ρ q1 => ?_; go_simp;
     exact Jo Kh hT'
    refine SeqOps.val ?_ (Sp fun ax wx hS hT' hd K' Kh => ?_) ?_; rotate_left 1
    ·have r61 := Tv hd 0 6 61; obtain ⟨_, _, _, _, _, _⟩ := bT hT'
     refine o1 r61 fun ρ q61 => ?_; go_simp; (try go_bits);
     exact Jo Kh hT'
    refine SeqOps.val ?_ (Sp fun ax wx hS hT' hd K' Kh => ?_) ?_; rotate_left 1
    ·have r58 := Tv hd 4 3 58; have r60 := Tv hd 2 5 60; have r62 := Tv hd 0 7 62; obtain ⟨_, _, _, _, _, _⟩ := bT hT'
     refine o3 r58 r60 r62 fun ρ q58 q60 q62 => ?_; go_simp; (try go_bits);
     exact Jo Kh hT'
    refine SeqOps.val ?_ (Sp fun ax wx hS hT' hd K' Kh => ?_) ?_; rotate_left 1
    ·have r0 := hS.at 0 (by decide) (hE.at 0 rfl); obtain ⟨_, _, _, _, _, _⟩ := bT hT'
     refine o1 r0 fun ρ q0 => ?_; go_simp;
     exact Jo Kh hT'
    refine SeqOps.val ?_ (Sp fun ax wx hS hT' hd K' Kh => ?_) ?_; rotate_left 1
    ·have r9 := hS.at 9 (by decide) (hE.at 9 rfl); obtain ⟨_, _, _, _, _, _⟩ := bT hT'
     refine o1 r9 fun ρ q9 => ?_; go_simp;
     exact Jo Kh hT'
    refine SeqOps.val ?_ (Sp fun ax wx hS hT' hd K' Kh => ?_) ?_; rotate_left 1
    ·have r64 := Tv hd 1 9 64; have r65 := Tv hd 0 10 65; obtain ⟨_, _, _, _, _, _⟩ := bT hT'
     refine o2 r64 r65 fun ρ q64 q65 => ?_; go_simp;
     exact Jo Kh hT'
    refine SeqOps.say (fun v wt => ∃ g, v = .slice (some ⟨g, 0, none⟩) 1 1 ∧ g < wt.heap.size ∧ wt.cell? ⟨g, 0, none⟩ = some (.int .i64 k) ∧ wt.cell? ⟨g, 1, none⟩ = some (.int .i64 o)) (fun v x y h ⟨g, h1, h2, h3, h4⟩ => ⟨g, h1, Nat.lt_of_lt_of_le h2 h.size, (h.cell (p := ⟨g, 0, none⟩) h2).trans h3, (h.cell (p := ⟨g, 1, none⟩) h2).trans h4⟩) (Sp fun ax wx hS hT' hd K' Kh => ?_) ?_
    ·have r66 := Tv hd 0 11 66; obtain ⟨_, _, _, _, _, _⟩ := bT hT'
     refine o1 r66 fun ρ q66 => ?_; go_simp;
     exact Kh.out _ _ _ rfl ⟨_, rfl, by simp, by simp [go_sem], by simp [go_sem]⟩ (hT'.alloc hT'.size _) ((Below.refl _ _).alloc (Nat.le_refl _) _)
    refine SeqOps.say (fun v wt => ∃ g c', v = .slice (some ⟨g, 0, none⟩) (t.length + 1) c' ∧ t.length + 1 ≤ c' ∧ wi.heap.size ≤ g ∧ g < wt.heap.size ∧ (∀ j u, (pairsV (t ++ [(k, o)]))[j]? = some u → wt.cell? ⟨g, j, none⟩ = some u) ∧ ∃ cur, wt.heap[g]? = some (.cells cur 82 (0, 0))) (fun v x y h ⟨g, c', h1, h2, h3, h4, h5, cur, h6⟩ => ⟨g, c', h1, h2, h3, Nat.lt_of_lt_of_le h4 h.size, fun j u hu => (h.cell (p := ⟨g, j, none⟩) h4).trans (h5 j u hu), cur, (h.block g h4).trans h6⟩) (Sp fun ax wx hS hT' hd K' Kh => ?_) ?_
    ·have r63 := Tv hd 4 8 63; obtain ⟨v67, r67, h67⟩ := Tg hd 0 12 67; obtain ⟨g12, rfl, hg1, hg2, hg3⟩ := h67; obtain ⟨_, _, _, _, _, _⟩ := bT hT'
     refine wp_appFull (.tmp 63) (.tmp 67) 111 rfl 82 (.agg #[.int .i64 0, .int .i64 0]) 2 16 Tryz.underlying111 (by kernel_rfl) rfl (by decide) T t.length (pairsV t) (eval_of r63) ((hTA.below hT').more hT'.size) (pairsV_length t) ⟨g12, 0, none⟩ 1 1 (pcells (k, o)) (eval_of r67) ?_ (by decide) rfl ?_ (by simp only [maxLen]; omega) (by omega) (fun g c' w' q1 q2 q3 q4 q5 q6 => ?_)
     ·(intro j u hu; (match j, hu with | 0, hu => (cases hu; exact hg2) | 1, hu => (cases hu; exact hg3) | j + 2, hu => simp [pcells] at hu))
     ·(intro u hu; simp [pcells] at hu; rcases hu with rfl | rfl <;> rfl)
     exact Kh.out _ _ _ rfl ⟨g, c', rfl, q4, Nat.le_trans hT'.size q1, q2, by rw [pairsV_snoc]; exact q3, q6⟩ (hT'.trans (q5.mono hT'.size)) q5
    refine SeqOps.nil ?_
    intro w4 hBl; (repeat refine Ek ?_); (refine fun v h => ?_; obtain ⟨g12, rfl, hg1, hg2, hg3⟩ := h); (refine fun v h => ?_; obtain ⟨g13, c13, rfl, hh1, hh2, hh3, hh4, hh5⟩ := h);
    refine fun ax hEx => ?_
    simp only [lk, pick, Nat.reduceEqDiff, ↓reduceIte] at hEx
    refine M3 hEx 55 57 68 fun K' Kh ρ q55 q57 q68 => ?_; go_simp; (try go_bits); (try clear q55 q57 q68)
    have hD4 := hDi.below hBl
    have hMl := hJM _ _ _ hJi
    have hT4 : ArrT N M' l w4 (some ⟨g13, 0, none⟩) (t ++ [(k, o)]) := fun _ => ⟨g13, 0, rfl, ⟨hh3, fun hm => by (have := hMl.1 _ hm); omega, fun e => by (have := hlV; have := hVr); omega⟩, fun j u hu => by rw [Nat.zero_add]; exact hh4 j u hu, by omega, hh5⟩
    have hJ4 := hJ _ _ _ _ hJi (hBl.mono (by omega)) (fun q hq => hBl.block q (hMl.1 q hq))
    have hs4 := hBl.size
    have hpre4 : pre ++ partP cs b.lines.length b.lost r k t j ++ fromP b.lines.length b.lost cs r (k + 1) (t ++ [(k, o)]) <+: XS := by (rw [List.append_assoc, ← HPF2.out]; refine List.IsPrefix.trans ?_ hp; rw [← List.append_assoc]; exact ((List.prefix_append_right_inj pre).2 HPX.out).trans (List.prefix_append _ _))
    have ihc := ih (k + 1) (some ⟨g13, 0, none⟩) c13 (t ++ [(k, o)]) M' w4 _ (by omega) (by simp; omega) (by simp; omega) hJ4 hpre4 (by omega) hD4 hT4 (by omega)
    simp only [List.length_append, List.length_cons, List.length_nil, Nat.zero_add, Int.natCast_add, Int.natCast_one] at ihc
    go_at_call 95; refine ihc.mono ?_; rintro e w5 ⟨x, rfl, hO⟩
    (try clear r55 r57 r68)
    refine Ln hEx Kh fun _ Eb => ?_; clear Kh K' hEx
    refine M1 Eb 69 fun K' Kh ρ q69 => ?_; go_simp; (try go_bits); (try simp (disch := omega) only [IntWalk.i64_in])
    refine Ln Eb Kh fun _ Ea => ?_; clear Kh K' Eb q69
    refine Ld [0, 1, 2, 3, 4, 38, 39, 40, 70] Ea hK fun a hE => ?_; clear hK K Q' Ea
    refine Ks ?_
    refine cond_part hE (t := 70) rfl (fun h => ?_) (fun h => ?_)
    ·have hx : x = false := by simpa using h
     refine Ks ?_
     refine Rs 1 fun Q' K hK => ?_
     refine M0 fun K' Kh ρ => ?_; go_simp;
     refine Ln hE Kh fun _ Eb => ?_; clear Kh K' hE a
     refine Ld [7] Eb hK fun a hE => ?_; clear hK K Q' Eb
     refine Ks ?_
     exact ret_one hE rfl rfl ⟨false, rfl, hO.false hx⟩
    ·have hx : x = true := by simpa using h
     obtain ⟨M5, hJ5, hG5, hK5⟩ := hO.true hx
     refine Ks ?_
     refine Rs 2 fun Q' K hK => ?_
     refine M1 hE 40 fun K' Kh ρ q40 => ?_; go_simp; (try go_bits); (try simp (disch := omega) only [IntWalk.i64_in])
     refine Ln hE Kh fun _ Eb => ?_; clear Kh K' hE a q40
     refine M1 Eb 71 fun K' Kh ρ q71 => ?_; go_simp
     refine Ln Eb Kh fun _ Ea => ?_; clear Kh K' Eb q71
     refine Ld [0, 1, 2, 3, 4, 38, 39, 40] Ea hK fun a hE => ?_; clear hK K Q' Ea
     refine Ks ?_
     have hs4 := hBl.size
     have hk4 := (hKr.below hBi).below hBl
     refine ⟨j + 1, ⟨hlt, by simpa using hE, M5, ?_, hGr.trans hG5 hk4.size, hk4.trans hGr hK5⟩, by omega⟩
     rw [HPF2.out, ← List.append_assoc]
     exact hJ5
  ·have hjj : j = C.length := by have := of_decide_eq_false h; omega
   subst hjj
   clear h
   have hCZ := hDr.cz.cells
   obtain ⟨nZ, cZ0⟩ := hCZ.c1
   have ihc := ih (k + 1) T c t M' wr (pre ++ partP cs b.lines.length b.lost r k t C.length) (by omega) (by omega) hc hJr (by rw [List.append_assoc]; exact hp) (by omega) hDr hTr (by omega)
   simp only [Int.natCast_add, Int.natCast_one] at ihc
   refine Ks ?_
   refine Rs 6 fun Q' K hK => ?_
   refine M1 hE 4 fun K' Kh ρ q4 => ?_; go_simp
   refine Ln hE Kh fun _ Eb => ?_; clear Kh K' hE a q4
   refine M1 Eb 0 fun K' Kh ρ q0 => ?_; go_simp
   refine Ln Eb Kh fun _ Ea => ?_; clear Kh K' Eb q0
   refine M1 Ea 73 fun K' Kh ρ q73 => ?_; go_simp; (try go_bits); (try simp (disch := omega) only [IntWalk.i64_in])
   refine Ln Ea Kh fun _ Eb => ?_; clear Kh K' Ea q73
   refine M1 Eb 1 fun K' Kh ρ q1 => ?_; go_simp
   refine Ln Eb Kh fun _ Ea => ?_; clear Kh K' Eb q1
   refine M3 Ea 72 74 75 fun K' Kh ρ q72 q74 q75 => ?_; go_simp; (try go_bits); (try clear q72 q74 q75)
   go_at_call 95; refine ihc.mono ?_; rintro e w5 ⟨x, rfl, hO⟩
   (try clear r72 r74 r75)
   refine Ln Ea Kh fun _ Eb => ?_; clear Kh K' Ea
   refine M1 Eb 76 fun K' Kh ρ q76 => ?_; go_simp
   refine Ln Eb Kh fun _ Ea => ?_; clear Kh K' Eb q76
   refine Ld [7] Ea hK fun a hE => ?_; clear hK K Q' Ea
   refine Ks ?_
   refine ret_one hE rfl rfl ⟨x, rfl, ?_⟩
   rcases hO with ⟨rfl, M5, h1, h2, h3⟩ | ⟨rfl, h1⟩
   ·exact .inl ⟨rfl, M5, by rw [← List.append_assoc]; exact h1, hGr.trans h2 hVr, hKr.trans hGr h3⟩
   ·exact .inr ⟨rfl, h1⟩
end
end Go.Proofs.YtbimkcjdodgojaaGreat
