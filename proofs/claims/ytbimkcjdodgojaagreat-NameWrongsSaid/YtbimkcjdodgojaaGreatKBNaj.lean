/- Name: are pairs a truth? -/
import Derived.Test.YtbimkcjdodgojaaGreatKBNaa
import Derived.Test.YtbimkcjdodgojaaGreatKBNah

namespace Go.Proofs.YtbimkcjdodgojaaGreat
set_option linter.unusedSimpArgs false
set_option linter.unusedVariables false
open Go Go.RowKit
attribute [local go_sem high] cell_set_wr
attribute [local go_sem low] cell_wr frozen_wr
attribute [local go_sem] wr_set wr_drew wr_drewN wr_alloc wr_new Rho.c Rho.n Rho.g
abbrev IPrs := List (Int × Int)
def castP (p : Nat × Nat) : Int × Int := (p.1, p.2)
def icells (p : Int × Int) : List Value := [.int .i64 p.1, .int .i64 p.2]
def pairsI (t : IPrs) : List Value := t.flatMap icells
theorem icells_length (p : Int × Int) : (icells p).length = 2 := rfl
theorem Arr.ipr {w : World} {B : Nat} {A : Option Addr} {t : IPrs} (h : Arr w B A (pairsI t)) {k : Nat} (hk : k < t.length) :
    ∃ b o, A = some ⟨b, o, none⟩ ∧ b < B ∧ w.cell? ⟨b, o + k * 2, none⟩ = some (.int .i64 t[k].1) ∧ w.cell? ⟨b, o + k * 2 + 1, none⟩ = some (.int .i64 t[k].2) := by
 obtain ⟨b, o, hA, hlt, hc⟩ := h.elem icells_length (by decide) hk
 exact ⟨b, o, hA, hlt, hc 0 _ (by decide) rfl, hc 1 _ (by decide) rfl⟩
def sameP (t : Prs) (ps : IPrs) : Bool := t.map castP == ps
theorem sameP_len {t : Prs} {ps : IPrs} (h : t.length ≠ ps.length) : sameP t ps = false := by
 unfold sameP
 rw [beq_eq_false_iff_ne]
 intro e
 have := congrArg List.length e
 simp at this; omega
theorem sameP_no {t : Prs} {ps : IPrs} {k : Nat} (h1 : k < t.length) (h2 : k < ps.length) (h : ¬ ((t[k].1 : Int) = ps[k].1 ∧ (t[k].2 : Int) = ps[k].2)) : sameP t ps = false := by
 unfold sameP
 rw [beq_eq_false_iff_ne]
 intro e
 subst e
 simp [castP] at h
theorem sameP_yes {t : Prs} {ps : IPrs} (hl : t.length = ps.length) (h : ∀ i (h1 : i < t.length) (h2 : i < ps.length), (t[i].1 : Int) = ps[i].1 ∧ (t[i].2 : Int) = ps[i].2) : sameP t ps = true := by
 unfold sameP
 rw [beq_iff_eq]
 refine List.ext_getElem (by simp [hl]) fun i h1 h2 => ?_
 have h1' : i < t.length := by simpa using h1
 have := h i h1' h2
 rw [List.getElem_map]
 exact Prod.ext this.1 this.2
set_option maxRecDepth 100000 in
set_option maxHeartbeats 1000000 in
theorem equal_any (A : Option Addr) (c : Nat) (t : Prs) (B : Option Addr) (d : Nat) (ps : IPrs) (w : World) (hA : Arr w w.heap.size A (pairsV t)) (hB : Arr w w.heap.size B (pairsI ps)) (ht : t.length ≤ 9223372036854775807) (hs : ps.length ≤ 9223372036854775807) : Calls Tryz.prog 75 #[.slice A t.length c, .slice B ps.length d] w fun e w' => e = .returned (.bool (sameP t ps)) ∧ Below w.heap.size w w' := by
 refine enterE Tryz.func75 rfl Tryz.ntmps75 (by simp) (fun a hE => ?_); simp only [envOf, Nat.zero_add, Nat.reduceAdd] at hE
 refine Ks ?_
 refine Rs 1 fun Q' K hK => ?_
 refine Go.Proofs.YtbimkcjdodgojaaGreat.M0 fun K' J ρ => ?_; go_simp;
 refine Ln hE J fun _ Eb => ?_; clear J K' hE a
 refine Ld [0, 1] Eb hK fun a hE => ?_; clear hK K Q' Eb
 refine Ks ?_
 refine Rs 5 fun Q' K hK => ?_
 refine M1 hE 0 fun K' J ρ q0 => ?_; go_simp
 refine Ln hE J fun _ Eb => ?_; clear J K' hE a q0
 refine M1 Eb 6 fun K' J ρ q6 => ?_; go_simp; (try go_bits)
 refine Ln Eb J fun _ Ea => ?_; clear J K' Eb q6
 refine M1 Ea 1 fun K' J ρ q1 => ?_; go_simp
 refine Ln Ea J fun _ Eb => ?_; clear J K' Ea q1
 refine M1 Eb 8 fun K' J ρ q8 => ?_; go_simp; (try go_bits)
 refine Ln Eb J fun _ Ea => ?_; clear J K' Eb q8
 refine M2 Ea 7 9 fun K' J ρ q7 q9 => ?_; go_simp; (try go_bits)
 refine Ln Ea J fun _ Eb => ?_; clear J K' Ea q7 q9
 refine Ld [0, 1, 10] Eb hK fun a hE => ?_; clear hK K Q' Eb
 refine Ks ?_
 refine cond_part hE (t := 10) rfl (fun h => ?_) (fun h => ?_)
 ·have hne : t.length ≠ ps.length := by intro e; simp [e] at h
  refine Ks ?_
  refine Rs 1 fun Q' K hK => ?_
  refine Go.Proofs.YtbimkcjdodgojaaGreat.M0 fun K' J ρ => ?_; go_simp;
  refine Ln hE J fun _ Eb => ?_; clear J K' hE a
  refine Ld [4] Eb hK fun a hE => ?_; clear hK K Q' Eb
  refine Ks ?_
  exact ret_one hE rfl rfl ⟨ret_bool (sameP_len hne).symm, Below.refl _ _⟩
 ·have hl : t.length = ps.length := by have h' : (t.length : Int) = ps.length := by simpa using h
                                       omega
  clear h
  have HL := hid hl
  clear hl
  refine Ks ?_
  refine Rs 3 fun Q' K hK => ?_
  refine M1 hE 0 fun K' J ρ q0 => ?_; go_simp
  refine Ln hE J fun _ Eb => ?_; clear J K' hE a q0
  refine M1 Eb 11 fun K' J ρ q11 => ?_; go_simp; (try go_bits)
  refine Ln Eb J fun _ Ea => ?_; clear J K' Eb q11
  refine Go.Proofs.YtbimkcjdodgojaaGreat.M0 fun K' J ρ => ?_; go_simp;
  refine Ln Ea J fun _ Eb => ?_; clear J K' Ea
  refine Ld [0, 1, 12, 13] Eb hK fun a hE => ?_; clear hK K Q' Eb
  refine Ks ?_
  refine loop_st (fun (k : Nat) a w' => k ≤ t.length ∧ Fits 26 [(0, .slice A t.length c), (1, .slice B ps.length d), (12, .int .i64 t.length), (13, .int .i64 k)] a ∧ Below w.heap.size w w' ∧ ∀ i (h1 : i < t.length) (h2 : i < ps.length), i < k → (t[i].1 : Int) = ps[i].1 ∧ (t[i].2 : Int) = ps[i].2) (fun k => t.length - k) 0 ?_ (fun k a w' hI => ?_)
  ·exact ⟨Nat.zero_le _, by simpa using hE, Below.refl _ _, fun _ _ _ h => absurd h (Nat.not_lt_zero _)⟩
  clear hE
  obtain ⟨hk, hE, hW, hN⟩ := hI
  have HN := hid hN
  clear hN
  refine Ks ?_
  refine Rs 1 fun Q' K hK => ?_
  refine M2 hE 13 12 fun K' J ρ q13 q12 => ?_; go_simp; (try go_bits)
  refine Ln hE J fun _ Eb => ?_; clear J K' hE a q13 q12
  refine Ld [0, 1, 12, 13, 14] Eb hK fun a hE => ?_; clear hK K Q' Eb
  refine Ks ?_
  refine cond_part hE (t := 14) rfl (fun h => ?_) (fun h => ?_)
  ·have hlt : k < t.length := by have := of_decide_eq_true h; omega
   clear h
   have hlt2 : k < ps.length := by have := HL.out; omega
   have hltI : (k : Int) < t.length := by omega
   have hltI2 : (k : Int) < ps.length := by omega
   obtain ⟨b, o, rfl, hb, c0, c1⟩ := (hA.below hW).pr hlt
   obtain ⟨b', o', rfl, hb', d0, d1⟩ := (hB.below hW).ipr hlt2
   obtain ⟨p, hp⟩ : ∃ p, t[k] = p := ⟨_, rfl⟩
   obtain ⟨q, hq⟩ : ∃ q, ps[k] = q := ⟨_, rfl⟩
   rw [hp] at c0 c1
   rw [hq] at d0 d1
   have HP := hid hp
   have HQ := hid hq
   clear hp hq
   refine Ks ?_
   refine Rs 2 fun Q' K hK => ?_
   refine M1 hE 13 fun K' J ρ q13 => ?_; go_simp
   refine Ln hE J fun _ Eb => ?_; clear J K' hE a q13
   refine M1 Eb 15 fun K' J ρ q15 => ?_; go_simp
   refine Ln Eb J fun _ Ea => ?_; clear J K' Eb q15
   refine Ld [0, 1, 5, 12, 13] Ea hK fun a hE => ?_; clear hK K Q' Ea
   refine Ks ?_
   have k0 : ∀ W, Below w'.heap.size w' W → W.cell? ⟨b, o + k * 2, none⟩ = some (.int .i64 p.1) ∧ W.cell? ⟨b, o + k * 2 + 1, none⟩ = some (.int .i64 p.2) ∧ W.cell? ⟨b', o' + k * 2, none⟩ = some (.int .i64 q.1) ∧ W.cell? ⟨b', o' + k * 2 + 1, none⟩ = some (.int .i64 q.2) := fun W hW' => by
    have z := hW.size
    exact ⟨(hW'.cell (by simp only; omega)).trans c0, (hW'.cell (by simp only; omega)).trans c1, (hW'.cell (by simp only; omega)).trans d0, (hW'.cell (by simp only; omega)).trans d1⟩
   have K0 := hid k0
   clear k0 c0 c1 d0 d1
   refine Rd [] (fun wt => Below w'.heap.size w' wt) (fun w1 w2 => Below w1.heap.size w1 w2) [(0, some 16), (1, some 17), (2, some 18), (3, some 19), (4, some 20), (5, some 21), (6, some 22), (7, some 23), (8, some 24)] [16, 17, 18, 19, 20, 21, 22, 23, 24] #[true, true, true, true, true, true, true, true, true] [0, 1, 12, 13] hE ((Below.refl _ _).drew) fun Q' K hK => ?_
   refine SeqOps.val ?_ (Sp fun ax wx hS hT' hd K' J => ?_) ?_; rotate_left 1
   ·have r0 := hS.at 0 (by decide) (hE.at 0 rfl); obtain ⟨c0, c1, d0, d1⟩ := K0.out _ hT'
    refine o1 r0 fun ρ q0 => ?_; go_simp;
    exact Jo J hT'
   refine SeqOps.val ?_ (Sp fun ax wx hS hT' hd K' J => ?_) ?_; rotate_left 1
   ·have r5 := hS.at 5 (by decide) (hE.at 5 rfl); obtain ⟨c0, c1, d0, d1⟩ := K0.out _ hT'
    refine o1 r5 fun ρ q5 => ?_; go_simp;
    exact Jo J hT'
   refine SeqOps.val ?_ (Sp fun ax wx hS hT' hd K' J => ?_) ?_; rotate_left 1
   ·have r16 := Tv hd 1 0 16; have r17 := Tv hd 0 1 17; obtain ⟨c0, c1, d0, d1⟩ := K0.out _ hT'
    refine o2 r16 r17 fun ρ q16 q17 => ?_; go_simp; (try go_bits);
    exact Jo J hT'
   refine SeqOps.val ?_ (Sp fun ax wx hS hT' hd K' J => ?_) ?_; rotate_left 1
   ·have r18 := Tv hd 0 2 18; obtain ⟨c0, c1, d0, d1⟩ := K0.out _ hT'
    refine o1 r18 fun ρ q18 => ?_; go_simp;
    exact Jo J hT'
   refine SeqOps.val ?_ (Sp fun ax wx hS hT' hd K' J => ?_) ?_; rotate_left 1
   ·have r1 := hS.at 1 (by decide) (hE.at 1 rfl); obtain ⟨c0, c1, d0, d1⟩ := K0.out _ hT'
    refine o1 r1 fun ρ q1 => ?_; go_simp;
    exact Jo J hT'
   refine SeqOps.val ?_ (Sp fun ax wx hS hT' hd K' J => ?_) ?_; rotate_left 1
   ·have r5 := hS.at 5 (by decide) (hE.at 5 rfl); obtain ⟨c0, c1, d0, d1⟩ := K0.out _ hT'
    refine o1 r5 fun ρ q5 => ?_; go_simp;
    exact Jo J hT'
   refine SeqOps.val ?_ (Sp fun ax wx hS hT' hd K' J => ?_) ?_; rotate_left 1
   ·have r20 := Tv hd 1 4 20; have r21 := Tv hd 0 5 21; obtain ⟨c0, c1, d0, d1⟩ := K0.out _ hT'
    refine o2 r20 r21 fun ρ q20 q21 => ?_; go_simp; (try go_bits);
    exact Jo J hT'
   refine SeqOps.val ?_ (Sp fun ax wx hS hT' hd K' J => ?_) ?_; rotate_left 1
   ·have r22 := Tv hd 0 6 22; obtain ⟨c0, c1, d0, d1⟩ := K0.out _ hT'
    refine o1 r22 fun ρ q22 => ?_; go_simp;
    exact Jo J hT'
   refine SeqOps.val ?_ (Sp fun ax wx hS hT' hd K' J => ?_) ?_; rotate_left 1
   ·have r19 := Tv hd 4 3 19; have r23 := Tv hd 0 7 23; obtain ⟨c0, c1, d0, d1⟩ := K0.out _ hT'
    refine o2 r19 r23 fun ρ q19 q23 => ?_; go_simp; (try go_bits);
    rw [ite2_neq]; refine J.out _ _ _ rfl ?_ hT' (Below.refl _ _); rfl
   refine SeqOps.nil ?_
   intro w2 hBl; (repeat refine Ek ?_)
   refine fun ax hEx => ?_
   simp only [lk, pick, Nat.reduceEqDiff, ↓reduceIte] at hEx
   refine Ld [0, 1, 12, 13, 24] hEx hK fun a hE => ?_; clear hK K Q' hEx
   have hW2 := hW.trans (hBl.mono hW.size)
   refine Ks ?_
   refine cond_part hE (t := 24) rfl (fun h => ?_) (fun h => ?_)
   ·refine Ks ?_
    refine Rs 1 fun Q' K hK => ?_
    refine Go.Proofs.YtbimkcjdodgojaaGreat.M0 fun K' J ρ => ?_; go_simp;
    refine Ln hE J fun _ Eb => ?_; clear J K' hE a
    refine Ld [4] Eb hK fun a hE => ?_; clear hK K Q' Eb
    refine Ks ?_
    refine ret_one hE rfl rfl ⟨ret_bool (sameP_no hlt hlt2 ?_).symm, hW2⟩
    rw [HP.out, HQ.out]
    rintro ⟨e1, e2⟩
    simp [e1, e2] at h
   ·have hh : (p.1 : Int) = q.1 ∧ (p.2 : Int) = q.2 := by simpa using h
    refine Ks ?_
    refine Rs 2 fun Q' K hK => ?_
    refine M1 hE 13 fun K' J ρ q13 => ?_; go_simp; (try go_bits); (try simp (disch := omega) only [IntWalk.i64_in])
    refine Ln hE J fun _ Eb => ?_; clear J K' hE a q13
    refine M1 Eb 25 fun K' J ρ q25 => ?_; go_simp
    refine Ln Eb J fun _ Ea => ?_; clear J K' Eb q25
    refine Ld [0, 1, 12, 13] Ea hK fun a hE => ?_; clear hK K Q' Ea
    refine Ks ?_
    refine ⟨k + 1, ⟨hlt, by simpa using hE, hW2, fun i h1 h2 hi => ?_⟩, by omega⟩
    rcases Nat.lt_or_ge i k with h3 | h3
    ·exact HN.out i h1 h2 h3
    ·obtain rfl : i = k := by omega
     rw [HP.out, HQ.out]; exact hh
  ·have hkk : k = t.length := by have := of_decide_eq_false h; omega
   refine Ks ?_
   refine Rs 1 fun Q' K hK => ?_
   refine Go.Proofs.YtbimkcjdodgojaaGreat.M0 fun K' J ρ => ?_; go_simp;
   refine Ln hE J fun _ Eb => ?_; clear J K' hE a
   refine Ld [4] Eb hK fun a hE => ?_; clear hK K Q' Eb
   refine Ks ?_
   exact ret_one hE rfl rfl ⟨ret_bool (sameP_yes HL.out fun i h1 h2 => HN.out i h1 h2 (by omega)).symm, hW⟩
theorem boxes_row (w : World) (cs : Array Value) (t : TypeId) (cs' : Array Value) (t' : TypeId) (cs2 : Array Value) (t2 : TypeId) : Below w.heap.size w (((w.alloc (.cells cs t)).alloc (.cells cs' t')).alloc (.cells cs2 t2)) ∧ Cells (((w.alloc (.cells cs t)).alloc (.cells cs' t')).alloc (.cells cs2 t2)) w.heap.size cs.toList ∧ Cells (((w.alloc (.cells cs t)).alloc (.cells cs' t')).alloc (.cells cs2 t2)) (w.heap.size + 1) cs'.toList ∧ (w.heap.size + 1 + 1 < (((w.alloc (.cells cs t)).alloc (.cells cs' t')).alloc (.cells cs2 t2)).heap.size ∧ Row (((w.alloc (.cells cs t)).alloc (.cells cs' t')).alloc (.cells cs2 t2)) (w.heap.size + 1 + 1) cs2.toList) := by
 have h0 : Below (w.alloc (.cells cs t)).heap.size (w.alloc (.cells cs t)) (((w.alloc (.cells cs t)).alloc (.cells cs' t')).alloc (.cells cs2 t2)) := ((Below.refl _ _).alloc (Nat.le_refl _) _).alloc (by simp) _
 refine ⟨(((Below.refl _ _).alloc (Nat.le_refl _) _).alloc (by simp) _).alloc (by simp; omega) _, (cells_new w cs t).below h0, ?_, by simp, ?_⟩
 ·have h := (cells_new (w.alloc (.cells cs t)) cs' t').below ((Below.refl _ _).alloc (Nat.le_refl _) (.cells cs2 t2))
  rwa [World.size_alloc] at h
 ·have h := row_new ((w.alloc (.cells cs t)).alloc (.cells cs' t')) cs2 t2
  rwa [World.size_alloc, World.size_alloc] at h
theorem Arr.put_loop {V : World} {N : Nat} {A : Option Addr} {xs : List Value} (h : Arr V N A xs) {l : Nat} {o : Loop} {o' : Obj} (hl : V.heap[l]? = some (.loop o)) : Arr (V.putObj l o') N A xs := fun hx => by
 obtain ⟨b0, o0, e, h1, h2⟩ := h hx
 have hne : b0 ≠ l := fun e' => by
  cases xs with
  | nil => exact hx rfl
  | cons u us =>
   have := h2 0 u rfl
   subst e'
   simp [World.cell?, hl] at this
 exact ⟨b0, o0, e, h1, fun j u hu => (World.cell?_of_block (w := V) (World.putObj_heap_other hne)).trans (h2 j u hu)⟩
section
variable {A : Option Addr} {cap : Nat} {L : Option Addr} {lcap : Nat} {b : Bk} {u0 u1 u2 u3 u4 u5 u6 u7 u8 : Value}
set_option maxRecDepth 100000 in
set_option maxHeartbeats 2000000 in
theorem areTrue_any {cs : List (List Nat)} {w : World} (G : Option Addr) (d : Nat) (ps : IPrs) (hG : Arr w w.heap.size G (pairsI ps)) (hps : ps.length ≤ 9223372036854775807) (hn : b.lines.length ≤ 9) (hl : b.lines.length ≤ lcap) (hcs : ∀ k, (cs.getD k []).length ≤ 9223372036854775807) (hu : CouldAt b u0 u1 u2 u3 u4 u5 u6 u7 u8 (fun _ => False) w cs)
    (hsm : ∀ x ∈ fromP b.lines.length b.lost cs b.lines.length 0 [], x.length ≤ 9223372036854775807) :
    Calls Tryz.prog 41 #[.agg (bksV A cap L lcap b u0 u1 u2 u3 u4 u5 u6 u7 u8).toArray, .slice G ps.length d] w fun e w' => e = .returned (.bool ((fromP b.lines.length b.lost cs b.lines.length 0 []).any fun t => sameP t ps)) ∧ Below w.heap.size w w' := by
 have HT := hid (truths_any A cap L lcap b u0 u1 u2 u3 u4 u5 u6 u7 u8)
 simp only [bksV] at HT ⊢
 refine enterM Tryz.func41 rfl Tryz.ntmps41 (by simp) (fun a hE => ?_); simp only [envOf, Nat.zero_add, Nat.reduceAdd] at hE
 refine Ks ?_
 refine Rs 3 fun Q' K hK => ?_
 refine M1 hE 0 fun K' J ρ q0 => ?_; go_simp
 refine Ln hE J fun _ Eb => ?_; clear J K' hE a q0
 refine M1 Eb 1 fun K' J ρ q1 => ?_; go_simp
 refine Ln Eb J fun _ Ea => ?_; clear J K' Eb q1
 refine Go.Proofs.YtbimkcjdodgojaaGreat.M0 fun K' J ρ => ?_; go_simp;
 refine Ln Ea J fun _ Eb => ?_; clear J K' Ea
 refine Ld [2, 3, 4] Eb hK fun a hE => ?_; clear hK K Q' Eb
 obtain ⟨B1, hB1⟩ : ∃ B, B = w.heap.size := ⟨_, rfl⟩
 obtain ⟨B2, hB2⟩ : ∃ B, B = w.heap.size + 1 := ⟨_, rfl⟩
 obtain ⟨R, hR⟩ : ∃ B, B = w.heap.size + 1 + 1 := ⟨_, rfl⟩
 rw [← hR, ← hB2, ← hB1] at hE
 refine world_cut (fun wt => Below w.heap.size w wt ∧ Cells wt B1 (bksV A cap L lcap b u0 u1 u2 u3 u4 u5 u6 u7 u8) ∧ Cells wt B2 [.slice G ps.length d] ∧ R < wt.heap.size ∧ Row wt R [.bool false]) (by rw [hB1, hR, hB2]; exact boxes_row _ _ _ _ _ _ _) (fun w1 hC => ?_)
 obtain ⟨hb1, hCB1, hCB2, hlR, hRR⟩ := hC
 have hnR : w.heap.size ≤ R := by omega
 have hBR : B2 ≠ R := by omega
 clear hB1 hR hB2
 simp only [bksV] at hCB1
 have nB1 := hCB1.1; have cB10 := hCB1.2 0 _ rfl; have cB11 := hCB1.2 1 _ rfl; have cB12 := hCB1.2 2 _ rfl; have cB13 := hCB1.2 3 _ rfl; have cB14 := hCB1.2 4 _ rfl; have cB15 := hCB1.2 5 _ rfl; have cB16 := hCB1.2 6 _ rfl; have cB17 := hCB1.2 7 _ rfl; have cB18 := hCB1.2 8 _ rfl; have cB19 := hCB1.2 9 _ rfl; have cB110 := hCB1.2 10 _ rfl; have cB111 := hCB1.2 11 _ rfl; have cB112 := hCB1.2 12 _ rfl; have cB113 := hCB1.2 13 _ rfl; have cB114 := hCB1.2 14 _ rfl; have cB115 := hCB1.2 15 _ rfl
 refine Ks ?_
 refine Rs 2 fun Q' K hK => ?_
 refine M1 hE 2 fun K' J ρ q2 => ?_; go_simp
 refine Ln hE J fun _ Eb => ?_; clear J K' hE a q2
 refine M1 Eb 6 fun K' J ρ q6 => ?_; go_simp; (try go_bits); (try clear q6)
 go_at_call 74; refine (HT.out _).mono ?_; rintro e w2 ⟨B, rfl, hnB, hCB, h2⟩
 (try clear r6)
 refine Ln Eb J fun _ Ea => ?_; clear J K' Eb
 refine Ld [3, 4, 7] Ea hK fun a hE => ?_; clear hK K Q' Ea
 have hb2 := hb1.trans (h2.mono hb1.size)
 have hRR2 := hRR.below h2 hlR
 have hlR2 := Nat.lt_of_lt_of_le hlR h2.size
 have hC2 := hCB2.below h2
 have hGw := (hG.below hb2)
 clear hRR nB1 cB10 cB11 cB12 cB13 cB14 cB15 cB16 cB17 cB18 cB19 cB110 cB111 cB112 cB113 cB114 cB115 hCB2
 obtain ⟨XS, hXS⟩ : ∃ XS, fromP b.lines.length b.lost cs b.lines.length 0 [] = XS := ⟨_, rfl⟩
 have hseq := truths_seq (M0 := fun k => k = R) hn hl hcs hCB (by omega) (hu.of_below hb2 (by intro k hk h; omega))
 rw [hXS] at hseq hsm ⊢
 have HSM := hid hsm
 clear hsm
 refine Ks ?_
 refine wp_rangeR (gf := 94) (lb := #[.pointer (some ⟨B, 0, none⟩)]) (hE.eval 7 rfl) (enters_of Tryz.func94 (by kernel_rfl) rfl) hseq (Below.refl _ _) (by rintro x vs V ⟨T, rfl, _⟩; rfl)
  (fun pre M V => (∀ x ∈ pre, sameP x ps = false) ∧ M = (fun k => k = R) ∧ R < V.heap.size ∧ Row V R [.bool false] ∧ Below w.heap.size w V ∧ V.cell? ⟨B2, 0, none⟩ = some (.slice G ps.length d)) (fun j pre V => j = Code.ret ∧ (∃ x ∈ pre, sameP x ps = true) ∧ Cells V R [.bool true] ∧ Below w.heap.size w V) ?hI ?hIx ?hIM ?h0
  (fun x a' V => (∃ T, Fits 12 [(5, .slice T x.length x.length), (3, .pointer (some ⟨B2, 0, none⟩)), (4, .pointer (some ⟨R, 0, none⟩))] a' ∧ Arr V V.heap.size T (pairsV x))) ?hAx ?assign ?body ?done ?stop
 case hI =>
  rintro s M X Y ⟨h1, rfl, h2, h3, h4, h5⟩ hb hm
  exact ⟨h1, rfl, Nat.lt_of_lt_of_le h2 hb.size, row_of_block h3 (hm R rfl), h4.trans (hb.mono hb2.size), (hb.cell (p := ⟨B2, 0, none⟩) hC2.1).trans h5⟩
 case hIx =>
  rintro j s X Y ⟨h1, hx, h2, h3⟩ hb _
  exact ⟨h1, hx, Stay.cells h2 hb hlR2, h3.trans (hb.mono hb2.size)⟩
 case hIM =>
  rintro s M X ⟨h1, rfl, h2, _⟩ k rfl
  exact h2
 case h0 => exact ⟨fun _ h => (by cases h), rfl, hlR2, hRR2, hb2, hC2.2 0 _ rfl⟩
 case hAx =>
  rintro x a' V l o o' _ ho ⟨T, h1, h2⟩
  exact ⟨T, h1, by rw [World.putObj_size]; exact h2.put_loop ho⟩
 case assign =>
  rintro l pre x M V vs K ⟨h1, rfl, h2, h3, h4, h5⟩ hs ⟨T, rfl, hT, _⟩ hK
  have hE2 := fits_round hE 8 (.slice T x.length x.length) (by decide)
  clear hE
  obtain ⟨a', ha⟩ : ∃ a', a' = (⟨((#[8] : Array Nat).zip #[.slice T x.length x.length]).foldl (fun t (p, v) => t.setIfInBounds p v) a.tmps, []⟩ : Act) := ⟨_, rfl⟩
  rw [← ha] at hE2 ⊢
  clear ha a
  revert hE2; revert a'; intro a hE
  refine region_straight_in (n := 1) rfl (by kernel_rfl) (fun Q' K hK => ?_)
  refine M1 hE 8 fun K' J ρ q8 => ?_; go_simp
  refine Ln hE J fun _ Eb => ?_; clear J K' hE a q8
  refine Ld [5, 3, 4] Eb hK fun a hE => ?_; clear hK K Q' Eb
  refine KsI ?_
  exact hK _ _ (Below.refl _ _) ⟨T, hE, hT⟩
 case body =>
  clear hE a
  rintro l pre x M a V hs ⟨h1, rfl, h2, h3, h4, h5⟩ ⟨T, hE, hT⟩ hp
  have hsx := HSM.out x (hp.subset (by simp))
  have hGV := (hG.below h4).more h4.size
  have hB2V : B2 < V.heap.size := Nat.lt_of_lt_of_le hC2.1 hs
  refine KsI ?_
  refine region_straight_in (n := 3) rfl (by kernel_rfl) (fun Q' K hK => ?_)
  refine M1 hE 5 fun K' J ρ q5 => ?_; go_simp
  refine Ln hE J fun _ Eb => ?_; clear J K' hE a q5
  refine M1 Eb 3 fun K' J ρ q3 => ?_; go_simp
  refine Ln Eb J fun _ Ea => ?_; clear J K' Eb q3
  refine M2 Ea 9 10 fun K' J ρ q9 q10 => ?_; go_simp; (try go_bits); (try clear q9 q10)
  go_at_call 75; refine (equal_any T x.length x G d ps _ hT hGV hsx hps).mono ?_; rintro e w4 ⟨rfl, k4⟩
  (try clear r9 r10)
  refine Ln Ea J fun _ Eb => ?_; clear J K' Ea
  refine Ld [4, 11] Eb hK fun a hE => ?_; clear hK K Q' Eb
  have hR4 := h3.below k4 h2
  have hlR4 := Nat.lt_of_lt_of_le h2 k4.size
  have h44 := h4.trans (k4.mono h4.size)
  have c4 := (k4.cell (p := ⟨B2, 0, none⟩) hB2V).trans h5
  clear h5 h3 h2
  have y0 := (hR4 0 _ rfl).2
  refine KsI ?_
  refine condI_part hE (t := 11) rfl (fun h => ?_) (fun h => ?_)
  ·refine KsI ?_
   refine region_straight_in (n := 1) rfl (by kernel_rfl) (fun Q' K hK => ?_)
   refine M1 hE 4 fun K' J ρ q4 => ?_; go_simp; (try clear q4)
   refine late_skip hE J (fun _ Eb => ?_); clear J K'; clear hE a
   refine Ld [4] Eb hK fun a hE => ?_; clear hK K Q' Eb
   refine KsI ?_
   exact ⟨(KeepA.of_below k4).set R 0 _ rfl, rfl, ⟨x, by simp, h⟩, row_cells (hR4.set (by simp)) (by simpa using hlR4), h44.setCell hnR _⟩
  ·refine KsI ?_
   exact ⟨KeepA.of_below k4, _, ⟨fun z hz => by
    rcases List.mem_append.1 hz with hz | hz
    ·exact h1 z hz
    ·rw [List.mem_singleton.1 hz]; exact h, rfl, hlR4, hR4, h44, c4⟩, Grow.refl _ _⟩
 case done =>
  rintro D M V hD hMD ⟨h1, rfl, h2, h3, h4, h5⟩ hK
  have y0 := (h3 0 _ rfl).2
  replace hE := FitsD.mark (ds := []) (d := D) hE
  refine Ks ?_
  refine Rs 1 fun Q' K hK => ?_
  refine M1 hE 4 fun K' J ρ q4 => ?_; go_simp; (try clear q4)
  refine late_skip hE J (fun _ Eb => ?_); clear J K'; clear hE a
  refine Ld [4] Eb hK fun a hE => ?_; clear hK K Q' Eb
  have hDR : D ≠ R := by omega
  refine world_cut (fun wt => Cells wt R [.bool false] ∧ Below w.heap.size w wt ∧ wt.heap[D]? = some (.deferred (some []))) ⟨row_cells (h3.set (by simp)) (by simpa using h2), h4.setCell hnR _, (Below.heap_setCell _ _ _ _ hDR).trans hK⟩ (fun w3 hC => ?_)
  obtain ⟨hCR, hb3, hK3⟩ := hC
  clear y0
  refine Ks ?_
  have g := hE.at 4 rfl
  have hb1s := hb2.size
  refine ret_M hE (by simp) (by simpa using hK3) (v := .bool false) (fun W hW => ?_) ⟨?_, taken_below _ _ _ (by intro d hd; simp at hd; omega) (by have := hb3.size; omega) hb3⟩
  ·have c0 := (World.cell?_of_block (w := w3) (a := ⟨R, 0, none⟩) (hW R (by simp; omega))).trans (hCR.2 0 _ rfl)
   simp [results, Tryz.results41, go_sem, g, c0]
  ·rw [List.any_eq_false.2 fun x hx => by rw [h1 x hx]; simp]
 case stop =>
  rintro D j pre x V hD hp ⟨rfl, hex, hCR, hb3⟩ hK
  replace hE := FitsD.mark (ds := []) (d := D) hE
  refine wp_ret ?_
  refine Ks ?_
  have g := hE.at 4 rfl
  have hDR : D ≠ R := by omega
  have hb1s := hb2.size
  refine ret_M hE (by simp) (by simpa using hK) (v := .bool true) (fun W hW => ?_) ⟨?_, taken_below _ _ _ (by intro d hd; simp at hd; omega) (by have := hb3.size; omega) hb3⟩
  ·have c0 := (World.cell?_of_block (w := V) (a := ⟨R, 0, none⟩) (hW R (by simp; omega))).trans (hCR.2 0 _ rfl)
   simp [results, Tryz.results41, go_sem, g, c0]
  ·obtain ⟨y, hy1, hy2⟩ := hex
   rw [List.any_eq_true.2 ⟨y, hp.subset hy1, hy2⟩]
end
end Go.Proofs.YtbimkcjdodgojaaGreat
