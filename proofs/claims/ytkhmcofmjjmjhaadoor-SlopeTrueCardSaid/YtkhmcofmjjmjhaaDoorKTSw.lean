/- Slope: whether a book can be true; a book without some sights. -/
import Derived.Test.YtkhmcofmjjmjhaaDoorKTSv

namespace Go.Proofs.YtkhmcofmjjmjhaaDoor
set_option linter.unusedSimpArgs false
set_option linter.unusedVariables false
open Go Go.RowKit
attribute [local go_sem high] cell_set_wr
attribute [local go_sem low] cell_wr frozen_wr
attribute [local go_sem] wr_set wr_drew wr_drewN wr_alloc wr_new Rho.c Rho.n Rho.g
theorem contN_any (T : Option Addr) (c : Nat) (li : List Nat) (x : Nat) (w : World) (hA : ArrD w T (nats li)) (hl : li.length ≤ 9223372036854775807) : Calls Tryd.prog 81 #[.slice T li.length c, .int .i64 x] w fun e w' => e = .returned (.bool (li.contains x)) ∧ w = w' := by
 have h := contains_any T c (li.map fun (n : Nat) => (n : Int)) x w (by rw [← nats_ints]; exact hA) (by simpa using hl)
 rw [List.length_map] at h
 refine h.mono ?_
 rintro e w' ⟨rfl, h2⟩
 refine ⟨?_, h2⟩
 congr 2
 rw [Bool.eq_iff_iff, List.contains_iff_mem, List.contains_iff_mem, List.mem_map]
 exact ⟨fun ⟨a, h1, h2⟩ => by have : a = x := by omega
                              exact this ▸ h1, fun h => ⟨x, h, rfl⟩⟩
/-- the first sights, without some -/
def dropS (l : List Si) (out : List Nat) (k : Nat) : List Si := ((List.range k).filter fun i => !out.contains i).map fun i => l.getD i ⟨0, false, 0, 0⟩
theorem dropS_succ (l : List Si) (out : List Nat) {k : Nat} (h : k < l.length) : dropS l out (k + 1) = dropS l out k ++ (if out.contains k = true then [] else [l[k]]) := by
 unfold dropS
 rw [List.range_succ, List.filter_append, List.map_append]
 have e : List.filter (fun i => !out.contains i) [k] = if out.contains k = true then [] else [k] := by
  rw [List.filter_cons]
  cases out.contains k <;> rfl
 rw [e]
 split
 ·rfl
 ·simp [List.getD_eq_getElem?_getD, h]
theorem dropS_len (l : List Si) (out : List Nat) (k : Nat) : (dropS l out k).length ≤ k := by
 unfold dropS
 rw [List.length_map]
 exact Nat.le_trans (List.length_filter_le _ _) (by simp)
theorem dropS_mem {l : List Si} {out : List Nat} {x : Si} (h : x ∈ dropS l out l.length) : x ∈ l := by
 unfold dropS at h
 rw [List.mem_map] at h
 obtain ⟨i, hi, rfl⟩ := h
 rw [List.mem_filter, List.mem_range] at hi
 simp [List.getD_eq_getElem?_getD, hi.1]
theorem withoutB_eq (b : Sb) (out : List Nat) : withoutB b out = { b with sights := dropS b.sights out b.sights.length } := rfl
theorem ok_without {b : Sb} (hb : OkB b) (out : List Nat) : OkB (withoutB b out) :=
 ⟨hb.snow, hb.wind, hb.sun, hb.settle, hb.hold, hb.start, hb.hours, Nat.le_trans (dropS_len _ _ _) hb.sights, hb.hour, fun s hs => hb.sight s (dropS_mem hs)⟩
/-- the state while sights are left out -/
structure WoS (H : Option Addr) (hcap : Nat) (b : Sb) (out : List Nat) (Q : Nat) (w : World) (k : Nat) (A : Option Addr) (c : Nat) (V : World) : Prop where
 below : Below w.heap.size w V
 lt : Q < V.heap.size
 row : Row V Q (sbV H hcap A c { b with sights := dropS b.sights out k })
 own : V.ownsRow (Q + 1) 68 4 (.slice A (dropS b.sights out k).length c) (dropS b.sights out k).length (sis (dropS b.sights out k))
theorem WoS.on {H : Option Addr} {hcap : Nat} {b : Sb} {out : List Nat} {Q : Nat} {w : World} {k : Nat} {A : Option Addr} {c : Nat} {V V' : World} (h : WoS H hcap b out Q w k A c V) (hb : Below V.heap.size V V') : WoS H hcap b out Q w k A c V' := ⟨h.below.trans (hb.mono h.below.size), Nat.lt_of_lt_of_le h.lt hb.size, h.row.below hb h.lt, own_below h.own hb⟩
theorem WoS.snoc {H : Option Addr} {hcap : Nat} {b : Sb} {out : List Nat} {Q : Nat} {w : World} {k : Nat} {A : Option Addr} {c : Nat} {V V' : World} {ds : List Si} (h : WoS H hcap b out Q w k A c V) (hQ : w.heap.size ≤ Q) (hds : dropS b.sights out k = ds) (s : Si) (hk : dropS b.sights out (k + 1) = ds ++ [s]) {A2 : Option Addr} {c2 : Nat}
    (q3 : V'.ownsRow (Q + 1) 68 4 (.slice A2 (ds.length + 1) c2) (ds.length + 1) (sis ds ++ s.cells)) (q4 : (V.alloc (.cells s.cells.toArray 68)).grownBy V' (Value.slice A ds.length c).ownBlock) :
    WoS H hcap b out Q w (k + 1) A2 c2 (V'.setCell ⟨Q, 8, none⟩ (.slice A2 (ds.length + 1) c2)) ∧ Wr V' Q 8 := by
 have hsz := h.lt
 have ho := h.own
 rw [hds] at ho
 have hlow : Below (Q + 1) V V' := ((Below.refl (Q + 1) V).alloc (by omega) _).grown q4 (by simp; omega) (fun k e => ownBlock_le ho k e)
 have hrow := row_of_block h.row (hlow.block Q (by omega))
 have hl1 : ds.length + 1 = (dropS b.sights out (k + 1)).length := by rw [hk]; simp
 refine ⟨⟨(h.below.trans (hlow.mono (by omega))).setCell hQ _, by simpa using Nat.lt_of_lt_of_le hsz hlow.size, ?_, ?_⟩, (hrow 8 _ rfl).2⟩
 ·have := hrow.set (o := 8) (v := .slice A2 (ds.length + 1) c2) (by simp [sbV])
  rw [hl1] at this ⊢
  exact this
 ·rw [← hl1, hk, sis_snoc]
  refine own_of_block q3 (by simp) fun g hg => ?_
  have hg2 := ownBlock_le q3 g hg
  exact Below.heap_setCell _ _ _ _ (by simp only; omega)
section
variable (H : Option Addr) (hcap : Nat) (S : Option Addr) (scap : Nat) (b : Sb) (P : Option Addr) (pcap : Nat)
set_option maxRecDepth 100000 in
set_option maxHeartbeats 1000000 in
theorem canBeTrue_any (hb : OkB b) (w : World) (hM : HpsAt w P (hpsOf b)) : Calls Tryd.prog 56 #[.agg (bkV H hcap S scap b P (hpsOf b).length pcap).toArray] w fun e w' => e = .returned (.bool (rtB b)) ∧ Below w.heap.size w w' := by
 have C1 := hid fun (W : World) (hW : HpsAt W P (hpsOf b)) => (courses_any H hcap S scap b P pcap hb W hW).mono (R' := fun e w' => (∃ v, e = .returned (.tuple #[v, .bool (rtB b)])) ∧ Below W.heap.size W w') (by
  rintro e w' ⟨(⟨h1, A, c, rfl, _⟩ | ⟨h1, rfl⟩), h2⟩
  ·exact ⟨⟨_, by rw [show rtB b = true from h1]⟩, h2⟩
  ·exact ⟨⟨_, by rw [show rtB b = false from h1]⟩, h2⟩)
 clear hb
 obtain ⟨V, hV⟩ : ∃ V, bkV H hcap S scap b P (hpsOf b).length pcap = V := ⟨_, rfl⟩
 have hV10 : Hid (V.length = 10) := hid (by rw [← hV]; rfl)
 rw [hV] at C1 ⊢
 clear hV
 refine enterE Tryd.func56 rfl Tryd.ntmps56 (by simp) (fun a hE => ?_); simp only [envOf, Nat.zero_add, Nat.reduceAdd] at hE
 refine Ks ?_
 refine Rs 2 fun Q' K hK => ?_
 refine M1 hE 0 fun K' J ρ q0 => ?_; go_simp
 refine Ln hE J fun _ Eb => ?_; clear J K' hE a q0
 refine M0 fun K' J ρ => ?_; go_simp;
 refine Ln Eb J fun _ Ea => ?_; clear J K' Eb
 refine Ld [1] Ea hK fun a hE => ?_; clear hK K Q' Ea
 obtain ⟨B, hBe⟩ : ∃ B, B = w.heap.size := ⟨_, rfl⟩; have hnB : w.heap.size ≤ B := Nat.le_of_eq hBe.symm; rw [← hBe] at hE; refine world_cut (fun wt => Below w.heap.size w wt ∧ B < wt.heap.size ∧ Row wt B V) ⟨(Below.refl _ _).alloc (Nat.le_refl _) _, by rw [hBe]; simp, by rw [hBe]; exact row_new _ _ _⟩ (fun w1 hCut => ?_); obtain ⟨hbw1, hlB, hRB⟩ := hCut; clear hBe
 have hM1 := hM.below hbw1
 refine Ks ?_
 refine Rs 7 fun Q' K hK => ?_
 refine Lp fun K' J => ?_
 have r1 := hE.at 1 rfl
 refine wp_load_mid 85 (.tmp 1) rfl B 0 (eval_of r1) V _ (fun j u hu => by rw [Nat.zero_add]; exact (hRB j u hu).1) Tryd.underlying85 rfl (by rw [hV10.out]; kernel_rfl) ?_
 (try clear r1)
 refine Ln hE J fun _ Eb => ?_; clear J K' hE a
 refine M1 Eb 6 fun K' J ρ q6 => ?_; go_simp; (try go_bits); (try clear q6)
 go_at_call 82; refine (C1.out _ hM1).mono ?_; rintro e w2 ⟨⟨v, rfl⟩, h2⟩
 (try clear r6)
 refine Ln Eb J fun _ Ea => ?_; clear J K' Eb
 refine M1 Ea 7 fun K' J ρ q7 => ?_; go_simp
 refine Ln Ea J fun _ Eb => ?_; clear J K' Ea q7
 refine M1 Eb 5 fun K' J ρ q5 => ?_; go_simp
 refine Ln Eb J fun _ Ea => ?_; clear J K' Eb q5
 refine M1 Ea 5 fun K' J ρ q5 => ?_; go_simp
 refine Ln Ea J fun _ Eb => ?_; clear J K' Ea q5
 refine M1 Eb 8 fun K' J ρ q8 => ?_; go_simp
 refine Ln Eb J fun _ Ea => ?_; clear J K' Eb q8
 refine M1 Ea 9 fun K' J ρ q9 => ?_; go_simp
 refine Ln Ea J fun _ Eb => ?_; clear J K' Ea q9
 refine Ld [4] Eb hK fun a hE => ?_; clear hK K Q' Eb
 have hb2 := hbw1.trans (h2.mono hbw1.size)
 refine Ks ?_
 refine Rs 2 fun Q' K hK => ?_
 refine M1 hE 4 fun K' J ρ q4 => ?_; go_simp
 refine Ln hE J fun _ Eb => ?_; clear J K' hE a q4
 refine M1 Eb 10 fun K' J ρ q10 => ?_; go_simp
 refine Ln Eb J fun _ Ea => ?_; clear J K' Eb q10
 refine Ld [2] Ea hK fun a hE => ?_; clear hK K Q' Ea
 refine Ks ?_
 exact ret_one hE rfl rfl ⟨rfl, hb2⟩
set_option maxRecDepth 100000 in
set_option maxHeartbeats 1000000 in
theorem without_any (hb : OkB b) (n : Nat) (T : Option Addr) (c : Nat) (out : List Nat) (w : World) (hM : SbAt w H S b) (hT : ArrD w T (nats out)) (ho : out.length ≤ 9223372036854775807) : Calls Tryd.prog 91 #[.agg (bkV H hcap S scap b P n pcap).toArray, .slice T out.length c] w fun e w' => (∃ S' sc P' c', e = .returned (.agg (bkV H hcap S' sc (withoutB b out) P' (hpsOf (withoutB b out)).length c').toArray) ∧ HpsN w.heap.size w' P' (hpsOf (withoutB b out))) ∧ Below w.heap.size w w' := by
 have hS6 := hb.sights
 have C1 := hid fun (A : Option Addr) (c : Nat) (W : World) (hW : SbAt W H A (withoutB b out)) => prepared_any H hcap A c (withoutB b out) (ok_without hb out) W hW
 clear hb
 refine enterE Tryd.func91 rfl Tryd.ntmps91 (by simp) (fun a hE => ?_); simp only [envOf, Nat.zero_add, Nat.reduceAdd] at hE
 refine Ks ?_
 refine Rs 2 fun Q' K hK => ?_
 refine M1 hE 0 fun K' J ρ q0 => ?_; go_simp
 refine Ln hE J fun _ Eb => ?_; clear J K' hE a q0
 refine M0 fun K' J ρ => ?_; go_simp;
 refine Ln Eb J fun _ Ea => ?_; clear J K' Eb
 refine Ld [1, 2, 4] Ea hK fun a hE => ?_; clear hK K Q' Ea
 obtain ⟨B, hB⟩ : ∃ B, B = w.heap.size := ⟨_, rfl⟩
 obtain ⟨R, hR⟩ : ∃ B, B = w.heap.size + 1 := ⟨_, rfl⟩
 rw [← hR, ← hB] at hE
 refine world_cut (fun wt => Below w.heap.size w wt ∧ Cells wt B (bkV H hcap S scap b P n pcap) ∧ RowD wt R 10) ?_ (fun w1 hC => ?_)
 ·rw [hB, hR]; obtain ⟨q1, q2, q3, q4⟩ := box_row w (bkV H hcap S scap b P n pcap).toArray 85 #[.int .i64 0, .int .i64 0, .int .i64 0, .int .i64 0, .int .i64 0, .int .i64 0, .int .i64 0, .slice none 0 0, .slice none 0 0, .slice none 0 0] 85; exact ⟨q1, q2, q3, _, rfl, q4⟩
 obtain ⟨hbw1, hCB, hRD⟩ := hC
 have hnR : w.heap.size ≤ R := by omega
 have hM1 := hM.below hbw1
 have hT1 := hT.below hbw1
 clear hB hR
 refine Ks ?_
 refine Rs 4 fun Q' K hK => ?_
 refine M1 hE 2 fun K' J ρ q2 => ?_; go_simp
 refine Ln hE J fun _ Eb => ?_; clear J K' hE a q2
 refine Lp fun K' J => ?_
 have r8 := Eb.at 8 rfl
 refine wp_load_mid 29 (.tmp 8) rfl B 0 (eval_of r8) (sbV H hcap S scap b) _ (fun j u hu => by rw [Nat.zero_add]; exact hCB.2 j u (by have hj := (List.getElem?_eq_some_iff.1 hu).1; rw [← hu]; exact (List.getElem?_append_left (l₁ := sbV H hcap S scap b) (l₂ := [.slice P n pcap]) hj))) Tryd.underlying29 rfl (by kernel_rfl) ?_
 (try clear r8)
 refine Ln Eb J fun _ Ea => ?_; clear J K' Eb
 refine M0 fun K' J ρ => ?_; go_simp;
 refine Ln Ea J fun _ Eb => ?_; clear J K' Ea
 refine Lp fun K' J => ?_
 have r5 := Eb.at 5 rfl; have r9 := Eb.at 9 rfl
 refine wp_store_mid 29 (.tmp 5) (.tmp 9) rfl w1.heap.size 0 (sbV H hcap S scap b).toArray (eval_of r5) (eval_of r9) (there_row (row_new w1 _ _) (Nat.le_of_eq rfl)) (by kernel_rfl) (by kernel_rfl) ?_
 (try clear r5 r9)
 refine late_skip Eb J (fun _ Ea => ?_); clear J K'; clear Eb
 refine Ld [1, 2, 4, 5] Ea hK fun a hE => ?_; clear hK K Q' Ea
 obtain ⟨Q, hQ⟩ : ∃ B, B = w1.heap.size := ⟨_, rfl⟩
 rw [← hQ] at hE
 have hnQ : w1.heap.size ≤ Q := Nat.le_of_eq hQ.symm
 refine world_cut (fun wt => Below w1.heap.size w1 wt ∧ Q < wt.heap.size ∧ Row wt Q (sbV H hcap S scap b)) ?_ (fun w2 hCut => ?_)
 ·rw [hQ]; have q := boxed_new w1 #[.int .i64 0, .int .i64 0, .int .i64 0, .int .i64 0, .int .i64 0, .int .i64 0, .int .i64 0, .slice none 0 0, .slice none 0 0] 29 (sbV H hcap S scap b) rfl; exact ⟨q.1, q.2.1, row_all (row_new w1 #[.int .i64 0, .int .i64 0, .int .i64 0, .int .i64 0, .int .i64 0, .int .i64 0, .int .i64 0, .slice none 0 0, .slice none 0 0] 29) rfl⟩
 obtain ⟨h2, hlQ, hRQ⟩ := hCut
 have y8 := (hRQ 8 _ rfl).2
 have d8 := (hCB.below h2).2 8 _ rfl
 clear hQ
 have hbw2 := hbw1.trans (h2.mono hbw1.size)
 refine Ks ?_
 refine Rs 2 fun Q' K hK => ?_
 refine M1 hE 5 fun K' J ρ q5 => ?_; go_simp
 refine Ln hE J fun _ Eb => ?_; clear J K' hE a q5
 refine M1 Eb 10 fun K' J ρ q10 => ?_; go_simp; (try clear q10)
 refine late_skip Eb J (fun _ Ea => ?_); clear J K'; clear Eb
 refine Ld [1, 2, 4, 5] Ea hK fun a hE => ?_; clear hK K Q' Ea
 refine world_cut (fun wt => WoS H hcap b out Q w1 0 none 0 wt) ⟨h2.setCell hnQ _, by simpa using hlQ, hRQ.set (o := 8) (by simp [sbV]), own_nil _ _ _ _⟩ (fun w3 hS3 => ?_)
 have hb3 := hbw1.trans (hS3.below.mono hbw1.size)
 clear hRQ hlQ y8 h2 d8
 have d8 := (hCB.below hS3.below).2 8 _ rfl
 refine Ks ?_
 refine Rs 5 fun Q' K hK => ?_
 refine M1 hE 2 fun K' J ρ q2 => ?_; go_simp
 refine Ln hE J fun _ Eb => ?_; clear J K' hE a q2
 refine M1 Eb 11 fun K' J ρ q11 => ?_; go_simp
 refine Ln Eb J fun _ Ea => ?_; clear J K' Eb q11
 refine M1 Ea 12 fun K' J ρ q12 => ?_; go_simp
 refine Ln Ea J fun _ Eb => ?_; clear J K' Ea q12
 refine M1 Eb 13 fun K' J ρ q13 => ?_; go_simp; (try go_bits)
 refine Ln Eb J fun _ Ea => ?_; clear J K' Eb q13
 refine M0 fun K' J ρ => ?_; go_simp;
 refine Ln Ea J fun _ Eb => ?_; clear J K' Ea
 refine Ld [1, 4, 5, 13, 14, 15] Eb hK fun a hE => ?_; clear hK K Q' Eb
 refine Ks ?_
 clear d8
 refine loop_st (fun (k : Nat) a w' => ∃ (A : Option Addr) (c2 : Nat), k ≤ b.sights.length ∧ Fits 33 [(1, .slice T out.length c), (4, .pointer (some ⟨R, 0, none⟩)), (5, .pointer (some ⟨Q, 0, none⟩)), (13, .slice S b.sights.length scap), (14, .int .i64 b.sights.length), (15, .int .i64 k)] a ∧ WoS H hcap b out Q w1 k A c2 w') (fun k => b.sights.length - k) 0 ⟨none, 0, Nat.zero_le _, by simpa using hE, hS3⟩ (fun k a wr hI => ?_)
 clear hE hS3
 obtain ⟨A, c2, hk, hE, hS⟩ := hI
 have hbr := hbw1.trans (hS.below.mono hbw1.size)
 by_cases hlt : k < b.sights.length
 ·have hltI : (k : Int) < b.sights.length := by omega
  have HDS := hid (dropS_succ b.sights out hlt)
  obtain ⟨bx, ox, hSe, hbx, hrx⟩ := ArrD.range (f := Si.cells) (m := 4) (fun _ => rfl) (by omega) (hM1.below hS.below).2 hlt
  obtain ⟨X, hXe⟩ : ∃ X, b.sights[k] = X := ⟨_, rfl⟩
  rw [hXe] at hrx HDS
  clear hXe
  have hdl := dropS_len b.sights out k
  have HS9 : Hid ((b.sights.length : Int) ≤ 9223372036854775807) := hid (by omega)
  have hS9 := HS9.out
  obtain ⟨q, hq⟩ : ∃ q, out.contains k = q := ⟨_, rfl⟩
  have HCO := hid fun (W : World) (hW : ArrD W T (nats out)) => contN_any T c out k W hW ho
  rw [hq] at HCO HDS
  clear hq
  have hEs := hE
  rw [hSe] at hE
  clear hEs
  refine Ks ?_
  refine Rs 1 fun Q' K hK => ?_
  refine M2 hE 15 14 fun K' J ρ q15 q14 => ?_; go_simp; (try go_bits)
  refine Ln hE J fun _ Eb => ?_; clear J K' hE a q15 q14
  replace Eb := Eb.turn 16 (v' := .bool true) rfl (by (first | (simp; done) | (simp; omega)))
  refine Ld [1, 4, 5, 13, 14, 15, 16] Eb hK fun a hE => ?_; clear hK K Q' Eb
  refine Ks ?_
  refine cond_yes hE (t := 16) rfl ?_
  refine Ks ?_
  refine Rs 6 fun Q' K hK => ?_
  refine M1 hE 15 fun K' J ρ q15 => ?_; go_simp
  refine Ln hE J fun _ Eb => ?_; clear J K' hE a q15
  refine M2 Eb 13 15 fun K' J ρ q13 q15 => ?_; go_simp; (try go_bits)
  refine Ln Eb J fun _ Ea => ?_; clear J K' Eb q13 q15
  refine Lp fun K' J => ?_
  have r18 := Ea.at 18 rfl
  refine wp_load_mid 68 (.tmp 18) rfl bx (ox + k * 4) (eval_of r18) X.cells _ hrx Tryd.underlying68 rfl (by kernel_rfl) ?_
  (try clear r18)
  refine Ln Ea J fun _ Eb => ?_; clear J K' Ea
  refine M0 fun K' J ρ => ?_; go_simp;
  refine Ln Eb J fun _ Ea => ?_; clear J K' Eb
  refine M1 Ea 17 fun K' J ρ q17 => ?_; go_simp
  refine Ln Ea J fun _ Eb => ?_; clear J K' Ea q17
  refine Lp fun K' J => ?_
  have r7 := Eb.at 7 rfl; have r19 := Eb.at 19 rfl
  refine wp_store_mid 68 (.tmp 7) (.tmp 19) rfl wr.heap.size 0 X.cells.toArray (eval_of r7) (eval_of r19) (there_row (row_new wr _ _) (Nat.le_of_eq rfl)) (by kernel_rfl) (by kernel_rfl) ?_
  (try clear r7 r19)
  refine late_skip Eb J (fun _ Ea => ?_); clear J K'; clear Eb
  refine Ld [1, 4, 5, 6, 7, 13, 14, 15] Ea hK fun a hE => ?_; clear hK K Q' Ea
  obtain ⟨F, hF⟩ : ∃ B, B = wr.heap.size := ⟨_, rfl⟩
  rw [← hF] at hE
  refine world_cut (fun wt => Below wr.heap.size wr wt ∧ Cells wt F X.cells) (by rw [hF]; exact boxed_new wr #[.int .i64 0, .bool false, .int .i64 0, .int .i64 0] 68 X.cells rfl) (fun w6 hCut => ?_)
  obtain ⟨h6, hCF⟩ := hCut
  have hS6' := hS.on h6
  have hT6 := hT1.below hS6'.below
  clear hF hrx
  have hbw6 := hbr.trans (h6.mono hbr.size)
  refine Ks ?_
  refine Rs 4 fun Q' K hK => ?_
  refine M1 hE 1 fun K' J ρ q1 => ?_; go_simp
  refine Ln hE J fun _ Eb => ?_; clear J K' hE a q1
  refine M1 Eb 6 fun K' J ρ q6 => ?_; go_simp
  refine Ln Eb J fun _ Ea => ?_; clear J K' Eb q6
  refine M2 Ea 20 21 fun K' J ρ q20 q21 => ?_; go_simp; (try go_bits); (try clear q20 q21)
  go_at_call 81; refine (HCO.out _ hT6).mono ?_; rintro e w7 ⟨rfl, rfl⟩
  (try clear r20 r21)
  refine Ln Ea J fun _ Eb => ?_; clear J K' Ea
  refine M1 Eb 22 fun K' J ρ q22 => ?_; go_simp; (try go_bits); (try simp (disch := omega) only [IntWalk.i64_in])
  refine Ln Eb J fun _ Ea => ?_; clear J K' Eb q22
  refine Ld [1, 4, 5, 7, 13, 14, 15, 23] Ea hK fun a hE => ?_; clear hK K Q' Ea
  cases hv : q
  ·have hk1 : dropS b.sights out (k + 1) = dropS b.sights out k ++ [X] := by rw [HDS.out, hv]; rfl
   rw [hv] at hE
   have HK1 := hid hk1
   have e8 := (hS6'.row 8 _ rfl).1
   have hown := hS6'.own
   obtain ⟨ds, hds⟩ : ∃ ds, dropS b.sights out k = ds := ⟨_, rfl⟩
   have HDE := hid hds
   rw [hds] at hown hdl HK1
   simp only [hds] at e8
   clear hv hk1 hds
   refine Ks ?_
   refine cond_yes hE (t := 23) rfl ?_
   refine Ks ?_
   refine Rs 7 fun Q' K hK => ?_
   refine M1 hE 5 fun K' J ρ q5 => ?_; go_simp
   refine Ln hE J fun _ Eb => ?_; clear J K' hE a q5
   refine M1 Eb 24 fun K' J ρ q24 => ?_; go_simp
   refine Ln Eb J fun _ Ea => ?_; clear J K' Eb q24
   refine Lp fun K' J => ?_
   have r7 := Ea.at 7 rfl
   refine wp_load_mid 68 (.tmp 7) rfl F 0 (eval_of r7) X.cells _ (fun j u hu => by rw [Nat.zero_add]; exact hCF.2 j u hu) Tryd.underlying68 rfl (by kernel_rfl) ?_
   (try clear r7)
   refine Ln Ea J fun _ Eb => ?_; clear J K' Ea
   refine Lp fun K' J => ?_
   have r26 := Eb.at 26 rfl
   refine wp_buildOne 27 68 (.tmp 26) rfl X.cells 4 (eval_of r26) Tryd.underlying27 (by kernel_rfl) (by kernel_rfl) rfl (by decide) (by decide) ?_
   (try clear r26)
   refine Ln Eb J fun _ Ea => ?_; clear J K' Eb
   refine Lp fun K' J => ?_
   have r25 := Ea.at 25 rfl; have r27 := Ea.at 27 rfl
   refine wp_appN (.tmp 25) (.tmp 27) 27 rfl (Q + 1) 68 (.agg #[.int .i64 0, .bool false, .int .i64 0, .int .i64 0]) 4 32 Tryd.underlying27 (by kernel_rfl) rfl (by decide) _ _ _ (eval_of r25) (hown.alloc _) (w6.heap.size + 1) (some ⟨w6.heap.size, 0, none⟩) 1 1 X.cells (eval_of r27) (arr_new w6 _ _) rfl (by intro u hu; simp [Si.cells] at hu; rcases hu with rfl | rfl | rfl | rfl <;> rfl) (by simp only [maxLen]; omega) (by omega) (by have := hS6'.lt; simp; omega) (fun A2 c3 w7 q1 q2 q3 q4 q5 => ?_)
   have hsn := hS6'.snoc hnQ HDE.out X HK1.out q3 q4
   have y8 := hsn.2
   (try clear r25 r27)
   refine Ln Ea J fun _ Eb => ?_; clear J K' Ea
   refine M1 Eb 5 fun K' J ρ q5 => ?_; go_simp
   refine Ln Eb J fun _ Ea => ?_; clear J K' Eb q5
   refine M2 Ea 29 28 fun K' J ρ q29 q28 => ?_; go_simp; (try clear q29 q28)
   refine late_skip Ea J (fun _ Eb => ?_); clear J K'; clear Ea
   refine Ld [1, 4, 5, 13, 14, 15] Eb hK fun a hE => ?_; clear hK K Q' Eb
   refine world_cut (fun wt => WoS H hcap b out Q w1 (k + 1) A2 c3 wt) hsn.1 (fun w8 hS8 => ?_)
   clear y8 hsn q1 q2 q3 q4 q5
   refine Ks ?_
   refine Rs 2 fun Q' K hK => ?_
   refine M1 hE 15 fun K' J ρ q15 => ?_; go_simp; (try go_bits); (try simp (disch := omega) only [IntWalk.i64_in])
   refine Ln hE J fun _ Eb => ?_; clear J K' hE a q15
   refine M1 Eb 30 fun K' J ρ q30 => ?_; go_simp
   refine Ln Eb J fun _ Ea => ?_; clear J K' Eb q30
   refine Ld [1, 4, 5, 13, 14, 15] Ea hK fun a hE => ?_; clear hK K Q' Ea
   refine Ks ?_
   exact ⟨k + 1, ⟨A2, c3, hlt, by rw [← hSe] at hE; simpa using hE, hS8⟩, by omega⟩
  ·have hk1 : dropS b.sights out (k + 1) = dropS b.sights out k := by rw [HDS.out, hv]; simp
   rw [hv] at hE
   clear hv
   refine Ks ?_
   refine cond_no hE (t := 23) rfl ?_
   refine Ks ?_
   refine Rs 2 fun Q' K hK => ?_
   refine M1 hE 15 fun K' J ρ q15 => ?_; go_simp; (try go_bits); (try simp (disch := omega) only [IntWalk.i64_in])
   refine Ln hE J fun _ Eb => ?_; clear J K' hE a q15
   refine M1 Eb 30 fun K' J ρ q30 => ?_; go_simp
   refine Ln Eb J fun _ Ea => ?_; clear J K' Eb q30
   refine Ld [1, 4, 5, 13, 14, 15] Ea hK fun a hE => ?_; clear hK K Q' Ea
   refine Ks ?_
   exact ⟨k + 1, ⟨A, c2, hlt, by rw [← hSe] at hE; simpa using hE, ⟨hS6'.below, hS6'.lt, by rw [hk1]; exact hS6'.row, by rw [hk1]; exact hS6'.own⟩⟩, by omega⟩
 ·have hke : k = b.sights.length := by omega
  subst hke
  have hrQ := hS.row
  have hSb : SbAt wr H A (withoutB b out) := ⟨(hM1.below hS.below).1, own_arr hS.own⟩
  have hRDr := hRD.below hS.below
  refine Ks ?_
  refine Rs 1 fun Q' K hK => ?_
  refine M2 hE 15 14 fun K' J ρ q15 q14 => ?_; go_simp; (try go_bits)
  refine Ln hE J fun _ Eb => ?_; clear J K' hE a q15 q14
  replace Eb := Eb.turn 16 (v' := .bool false) rfl (by simp)
  refine Ld [1, 4, 5, 13, 14, 15, 16] Eb hK fun a hE => ?_; clear hK K Q' Eb
  refine Ks ?_
  refine cond_no hE (t := 16) rfl ?_
  refine Ks ?_
  refine Rs 3 fun Q' K hK => ?_
  refine Lp fun K' J => ?_
  have r5 := hE.at 5 rfl
  refine wp_load_mid 29 (.tmp 5) rfl Q 0 (eval_of r5) (sbV H hcap A c2 (withoutB b out)) _ (fun j u hu => by rw [Nat.zero_add]; exact (hrQ j u hu).1) Tryd.underlying29 rfl (by kernel_rfl) ?_
  (try clear r5)
  refine Ln hE J fun _ Eb => ?_; clear J K' hE a
  refine M1 Eb 31 fun K' J ρ q31 => ?_; go_simp; (try go_bits); (try clear q31)
  go_at_call 55; refine (C1.out _ _ _ hSb).mono ?_; rintro e w7 ⟨⟨P7, c7, rfl, hH7⟩, h7⟩
  obtain ⟨hlR, zs, hzs, hRR⟩ := hRDr.below h7
  have hb7 := hbr.trans (h7.mono hbr.size)
  (try clear r31)
  refine Ln Eb J fun _ Ea => ?_; clear J K' Eb
  refine Lp fun K' J => ?_
  have r4 := Ea.at 4 rfl; have r32 := Ea.at 32 rfl
  refine wp_store_mid 85 (.tmp 4) (.tmp 32) rfl R 0 (bkV H hcap A c2 (withoutB b out) P7 (hpsOf (withoutB b out)).length c7).toArray (eval_of r4) (eval_of r32) (there_row hRR (by rw [hzs]; exact Nat.le_refl _)) (by kernel_rfl) (by kernel_rfl) ?_
  (try clear r4 r32)
  refine late_skip Ea J (fun _ Eb => ?_); clear J K'; clear Ea
  refine Ld [4] Eb hK fun a hE => ?_; clear hK K Q' Eb
  obtain ⟨q1, q2, q3, q4⟩ := cells_stored hRR (vs := bkV H hcap A c2 (withoutB b out) P7 (hpsOf (withoutB b out)).length c7) (by rw [hzs]; rfl) hlR hnR hb7
  refine world_cut (fun wt => Cells wt R (bkV H hcap A c2 (withoutB b out) P7 (hpsOf (withoutB b out)).length c7) ∧ Below w.heap.size w wt ∧ HpsN w.heap.size wt P7 (hpsOf (withoutB b out))) ⟨q1, q2, ?_⟩ (fun w9 hCut => ?_)
  ·exact (hH7.keep (Nat.le_of_eq q4.symm) (fun p u hp hu => (World.cell?_of_block (q3 p.block (by have := hRDr.1; omega))).trans hu)).less hbr.size
  obtain ⟨hC9, hb9, hH9⟩ := hCut
  refine Ks ?_
  exact ret_cell hE rfl rfl hC9.2 Tryd.underlying85 rfl (by kernel_rfl) ⟨⟨A, c2, P7, c7, rfl, hH9⟩, hb9⟩
end
end Go.Proofs.YtkhmcofmjjmjhaaDoor
