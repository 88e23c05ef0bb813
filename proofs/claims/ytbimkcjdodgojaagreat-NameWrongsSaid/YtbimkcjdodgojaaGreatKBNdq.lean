/- Name: the reference's books without some lines. -/
import Derived.Test.YtbimkcjdodgojaaGreatKBNdk
import Derived.Test.YtbimkcjdodgojaaGreatKBNbk

namespace Go.Proofs.YtbimkcjdodgojaaGreat
set_option linter.unusedSimpArgs false
set_option linter.unusedVariables false
open Go Go.RowKit
attribute [local go_sem high] cell_set_wr
attribute [local go_sem low] cell_wr frozen_wr
attribute [local go_sem] wr_set wr_drew wr_drewN wr_alloc wr_new Rho.c Rho.n Rho.g
/-- a list that lies in memory -/
def ArrD (w : World) (G : Option Addr) (xs : List Value) : Prop := Arr w w.heap.size G xs
theorem ArrD.below {w w' : World} {G : Option Addr} {xs : List Value} (h : ArrD w G xs) (hb : Below w.heap.size w w') : ArrD w' G xs := (Arr.below h hb).more hb.size
/-- a cell that lies in memory -/
def LoadD (w : World) (b o : Nat) (v : Value) : Prop := b < w.heap.size ∧ w.cell? ⟨b, o, none⟩ = some v
theorem LoadD.below {w w' : World} {b o : Nat} {v : Value} (h : LoadD w b o v) (hb : Below w.heap.size w w') : LoadD w' b o v := ⟨Nat.lt_of_lt_of_le h.1 hb.size, (hb.cell (p := ⟨b, o, none⟩) h.1).trans h.2⟩
/-- a block with n cells that can be written -/
def RowD (w : World) (R n : Nat) : Prop := R < w.heap.size ∧ ∃ zs : List Value, zs.length = n ∧ Row w R zs
theorem RowD.below {w w' : World} {R n : Nat} (h : RowD w R n) (hb : Below w.heap.size w w') : RowD w' R n := by
 obtain ⟨h1, zs, h2, h3⟩ := h
 exact ⟨Nat.lt_of_lt_of_le h1 hb.size, zs, h2, h3.below hb h1⟩
theorem ok_lost {b : Bk} (h : b.ok = true) : 0 ≤ b.lost ∧ b.lost ≤ 9 := by
 unfold Bk.ok headB at h
 simp only [Bool.and_eq_true, decide_eq_true_eq] at h
 exact h.2.1.2
section
variable (A : Option Addr) (cap : Nat) (L : Option Addr) (lcap : Nat) (b : Bk)
theorem rAll_full (hs : b.small cap lcap) (hz : ∀ i (h : i < b.ear.alike.length), b.ear.alike[i].size ≤ 9223372036854775807) (ho : b.ok = true) (w : World) (hM : BkAt w A L b) : Calls Tryz.prog 42 #[.agg (bkV A cap L lcap b).toArray] w fun e w' => (∃ O c, e = .returned (.slice O (truthsR b).length c) ∧ TruAt w' w'.heap.size O (truthsR b)) ∧ Below w.heap.size w w' := by
 refine rAll_any A cap L lcap b w hM (hid fun W hW => ?_)
 refine (rfrom_any A cap L lcap b (ok_nine ho) (ok_lost ho) (hid fun i k W hi hk hW => rcan_any A cap L lcap b i k W hi hk hW hs ho hz) b.lines.length 0 0 [] none 0 W (by omega) rfl (by simp) hW (own_nil _ _ _ _)).mono ?_
 rintro e w' ⟨⟨v, rfl, hv⟩, h⟩
 obtain ⟨O, c, rfl, hT⟩ := hv.tru
 exact ⟨⟨O, c, rfl, hT⟩, h⟩
theorem rAll_len (hs : b.small cap lcap) (hz : ∀ i (h : i < b.ear.alike.length), b.ear.alike[i].size ≤ 9223372036854775807) : Hid (b.ok = true → ∀ (W : World), BkAt W A L b → Calls Tryz.prog 42 #[.agg (bkV A cap L lcap b).toArray] W fun e w' => (∃ O c, e = .returned (.slice O b.ts.length c)) ∧ Below W.heap.size W w') := hid fun ho W hW => by
 refine (rAll_full A cap L lcap b hs hz ho W hW).mono ?_
 rintro e w' ⟨⟨O, c, rfl, _⟩, h⟩
 exact ⟨⟨O, c, by rw [truthsR_len]⟩, h⟩
theorem rasked_full (v : Bool) (w : World) (hM : BkAt w A L b) (hs : b.small cap lcap) (hz : ∀ i (h : i < b.ear.alike.length), b.ear.alike[i].size ≤ 9223372036854775807) : Calls Tryz.prog 52 #[.agg (bkV A cap L lcap b).toArray, .bool v] w fun e w' => e = .returned (.int .i64 (setE b v)) ∧ Below w.heap.size w w' :=
 rasked_any A cap L lcap b v w hM hs hz (rAll_len A cap L lcap b hs hz)
end
end Go.Proofs.YtbimkcjdodgojaaGreat
namespace Go.Proofs.YtbimkcjdodgojaaGreat
set_option linter.unusedSimpArgs false
set_option linter.unusedVariables false
open Go Go.RowKit
attribute [local go_sem high] cell_set_wr
attribute [local go_sem low] cell_wr frozen_wr
attribute [local go_sem] wr_set wr_drew wr_drewN wr_alloc wr_new Rho.c Rho.n Rho.g
theorem onesN_has {s n i : Nat} (hi : i < n) : (onesN s n).contains i = hasB s i := by
 unfold onesN
 rw [Bool.eq_iff_iff, List.contains_iff_mem, List.mem_filter, List.mem_range]
 exact ⟨fun h => h.2, fun h => ⟨hi, h⟩⟩
section
variable (A : Option Addr) (cap : Nat) (L : Option Addr) (lcap : Nat) (b : Bk)
set_option maxRecDepth 100000 in
set_option maxHeartbeats 4000000 in
theorem rwithout_any (s : Nat) (w : World) (hM : BkAt w A L b) (hs : b.small cap lcap) (h9 : b.lines.length ≤ 9) (hs62 : s < 4611686018427387904) :
    Calls Tryz.prog 61 #[.agg (bkV A cap L lcap b).toArray, .int .i64 s] w fun e w' => (∃ A' cap', e = .returned (.agg (bkV A cap A' cap' (b.without (onesN s b.lines.length))).toArray) ∧ (b.without (onesN s b.lines.length)).small cap cap' ∧ BkAt w' A A' (b.without (onesN s b.lines.length))) ∧ Below w.heap.size w w' := by
 have hll := hs.2.2.1
 have HAt : Hid (∀ (i : Nat) (W : World), i < b.lines.length → Calls Tryz.prog 83 #[.int .i64 s, .int .i64 i] W fun e w' => e = .returned (.bool ((onesN s b.lines.length).contains i)) ∧ W = w') := hid fun i W hi => by
  have h := has_any s i W (by omega) hs62
  rw [← onesN_has hi] at h
  exact h
 obtain ⟨out, hout⟩ : ∃ out, onesN s b.lines.length = out := ⟨_, rfl⟩
 rw [hout] at HAt ⊢
 clear hout
 simp only [bkV]
 refine enterE Tryz.func61 rfl Tryz.ntmps61 (by simp) (fun a hE => ?_); simp only [envOf, Nat.zero_add, Nat.reduceAdd] at hE
 refine Ks ?_
 refine Rs 2 fun Q' K hK => ?_
 refine M1 hE 0 fun K' J ρ q0 => ?_; go_simp
 refine Ln hE J fun _ Eb => ?_; clear J K' hE a q0
 refine M0 fun K' J ρ => ?_; go_simp;
 refine Ln Eb J fun _ Ea => ?_; clear J K' Eb
 refine Ld [1, 2, 4] Ea hK fun a hE => ?_; clear hK K Q' Ea
 obtain ⟨B, hB⟩ : ∃ B, B = w.heap.size := ⟨_, rfl⟩
 obtain ⟨R, hR⟩ : ∃ B, B = w.heap.size + 1 := ⟨_, rfl⟩
 rw [← hR, ← hB] at hE
 refine world_cut (fun wt => Below w.heap.size w wt ∧ Cells wt B (bkV A cap L lcap b) ∧ R < wt.heap.size ∧ ∃ zs : List Value, zs.length = 7 ∧ Row wt R zs) ?_ (fun w1 hC => ?_)
 ·rw [hB, hR]
  obtain ⟨q1, q2, q3, q4⟩ := box_row w _ _ _ _
  exact ⟨q1, q2, q3, _, rfl, q4⟩
 obtain ⟨hb1, hCB, hlR, hRR⟩ := hC
 have hnR : w.heap.size ≤ R := by omega
 have hBR : B < R := by omega
 clear hB hR
 simp only [bkV] at hCB
 obtain ⟨nB, cB0, cB1, cB2, cB3, cB4, cB5, cB6⟩ := hCB.c7
 refine Ks ?_
 refine Rs 3 fun Q' K hK => ?_
 refine M1 hE 2 fun K' J ρ q2 => ?_; go_simp
 refine Ln hE J fun _ Eb => ?_; clear J K' hE a q2
 refine M0 fun K' J ρ => ?_; go_simp;
 refine Ln Eb J fun _ Ea => ?_; clear J K' Eb
 refine M2 Ea 5 7 fun K' J ρ q5 q7 => ?_; go_simp; (try clear q5 q7)
 refine late_skip Ea J (fun _ Eb => ?_); clear J K'; clear Ea
 refine Ld [1, 2, 4, 5] Eb hK fun a hE => ?_; clear hK K Q' Eb
 obtain ⟨Q, hQe⟩ : ∃ B, B = w1.heap.size := ⟨_, rfl⟩; have hnQ : w1.heap.size ≤ Q := Nat.le_of_eq hQe.symm; rw [← hQe] at hE; refine world_cut (fun wt => Below w1.heap.size w1 wt ∧ Q < wt.heap.size ∧ Row wt Q (bkV A cap L lcap b)) ⟨(Below.refl _ _).alloc (Nat.le_refl _) _, by rw [hQe]; simp, by rw [hQe]; exact row_new _ _ _⟩ (fun w2 hCut => ?_); obtain ⟨hbw2, hlQ, hRQ⟩ := hCut; clear hQe
 have hRQ' : R < Q := by omega
 have y3 := (hRQ 3 _ rfl).2
 have hs1 := hb1.size
 clear nB cB0 cB1 cB2 cB3 cB4 cB5 cB6
 refine Ks ?_
 refine Rs 2 fun Q' K hK => ?_
 refine M1 hE 5 fun K' J ρ q5 => ?_; go_simp
 refine Ln hE J fun _ Eb => ?_; clear J K' hE a q5
 refine M1 Eb 8 fun K' J ρ q8 => ?_; go_simp; (try clear q8)
 refine late_skip Eb J (fun _ Ea => ?_); clear J K'; clear Eb
 refine Ld [1, 2, 4, 5] Ea hK fun a hE => ?_; clear hK K Q' Ea
 have hs2 := hbw2.size
 refine world_cut (fun wt => OutL A cap b out Q R w 0 wt ∧ Cells wt B (bkV A cap L lcap b)) ⟨⟨none, 0, ⟨by simpa using hlQ, hRQ.set (by simp [bkV])⟩, own_nil _ _ _ _, ⟨by simp; omega, ?_⟩, (hb1.trans (hbw2.mono hs1)).setCell (by simp only; omega) _⟩, ?_⟩ (fun w3 hC => ?_)
 ·obtain ⟨zs, q1, q2⟩ := hRR
  exact ⟨zs, q1, (q2.below hbw2 hlR).other (by omega)⟩
 ·have := (hCB.below hbw2).2
  exact ⟨by have := hCB.1; simp; omega, fun j u hu => by rw [World.cell?_setCell_other _ _ _ _ (by intro e; have := congrArg Addr.block e; simp only at this; omega)]; exact this j u hu⟩
 obtain ⟨hS, hCB3⟩ := hC
 clear y3 hRQ hRR hCB hlR hlQ hbw2 hb1 hs1 hs2 hnQ
 refine Ks ?_
 refine Rs 1 fun Q' K hK => ?_
 refine M0 fun K' J ρ => ?_; go_simp;
 refine Ln hE J fun _ Eb => ?_; clear J K' hE a
 refine Ld [1, 2, 4, 5, 6] Eb hK fun a hE => ?_; clear hK K Q' Eb
 refine Ks ?_
 refine loop_st (fun (i : Nat) a w' => i ≤ b.lines.length ∧ Fits 31 [(1, .int .i64 s), (2, .pointer (some ⟨B, 0, none⟩)), (4, .pointer (some ⟨R, 0, none⟩)), (5, .pointer (some ⟨Q, 0, none⟩)), (6, .int .i64 i)] a ∧ OutL A cap b out Q R w i w' ∧ Cells w' B (bkV A cap L lcap b)) (fun i => b.lines.length - i) 0 ?_ (fun i a w' hI => ?_)
 ·exact ⟨Nat.zero_le _, by simpa using hE, hS, hCB3⟩
 clear hE hS hCB3
 obtain ⟨hi, hE, hS, hCB⟩ := hI
 obtain ⟨wr, hwr⟩ : ∃ x, x = w' := ⟨_, rfl⟩
 subst hwr
 have nB := hCB.1
 have cB3 := hCB.2 3 _ rfl
 refine Ks ?_
 refine Rs 5 fun Q' K hK => ?_
 refine M1 hE 6 fun K' J ρ q6 => ?_; go_simp
 refine Ln hE J fun _ Eb => ?_; clear J K' hE a q6
 refine M1 Eb 2 fun K' J ρ q2 => ?_; go_simp
 refine Ln Eb J fun _ Ea => ?_; clear J K' Eb q2
 refine M1 Ea 10 fun K' J ρ q10 => ?_; go_simp
 refine Ln Ea J fun _ Eb => ?_; clear J K' Ea q10
 refine M1 Eb 11 fun K' J ρ q11 => ?_; go_simp; (try go_bits)
 refine Ln Eb J fun _ Ea => ?_; clear J K' Eb q11
 refine M2 Ea 9 12 fun K' J ρ q9 q12 => ?_; go_simp; (try go_bits)
 refine Ln Ea J fun _ Eb => ?_; clear J K' Ea q9 q12
 refine Ld [1, 2, 4, 5, 6, 13] Eb hK fun a hE => ?_; clear hK K Q' Eb
 refine Ks ?_
 refine cond_part hE (t := 13) rfl (fun h => ?_) (fun h => ?_)
 ·have hlt : i < b.lines.length := by have := of_decide_eq_true h; omega
  clear h
  have hltI : (i : Int) < b.lines.length := by omega
  have hWb : Below w.heap.size w wr := by obtain ⟨_, _, _, _, _, h⟩ := hS; exact h
  obtain ⟨bx, ox, hLe, hbx, x0, x1, x2⟩ := hM.2.nl hlt
  have hdk := dropK_succ b.lines out i
  rw [show b.lines.getD i zeroLn = b.lines[i] by simp [List.getD_eq_getElem?_getD, hlt]] at hdk
  obtain ⟨X, hX⟩ : ∃ X, b.lines[i] = X := ⟨_, rfl⟩
  rw [hX] at x0 x1 x2 hdk
  have HDK := hid hdk
  obtain ⟨q, hqq⟩ : ∃ q, out.contains i = q := ⟨_, rfl⟩
  have HAi := hid (fun W => HAt.out i W hlt)
  rw [hqq] at HAi
  have HQQ := hid hqq
  clear hX hdk hqq nB cB3
  refine Ks ?_
  refine Rs 4 fun Q' K hK => ?_
  refine M1 hE 1 fun K' J ρ q1 => ?_; go_simp
  refine Ln hE J fun _ Eb => ?_; clear J K' hE a q1
  refine M1 Eb 6 fun K' J ρ q6 => ?_; go_simp
  refine Ln Eb J fun _ Ea => ?_; clear J K' Eb q6
  refine M2 Ea 16 17 fun K' J ρ q16 q17 => ?_; go_simp; (try go_bits); (try clear q16 q17)
  go_at_call 83; refine (HAi.out _).mono ?_; rintro e w4 ⟨rfl, rfl⟩
  (try clear r16 r17)
  refine Ln Ea J fun _ Eb => ?_; clear J K' Ea
  refine M1 Eb 18 fun K' J ρ q18 => ?_; go_simp; (try go_bits); (try simp (disch := omega) only [IntWalk.i64_in])
  refine Ln Eb J fun _ Ea => ?_; clear J K' Eb q18
  refine Ld [1, 2, 4, 5, 6, 19] Ea hK fun a hE => ?_; clear hK K Q' Ea
  have hS4 := hS
  have hCB4 := hCB
  have hW4 := hWb
  clear hS hCB
  refine Ks ?_
  refine cond_part hE (t := 19) rfl (fun h => ?_) (fun h => ?_)
  ·have hq' : q = false := by simpa using h
   clear h
   obtain ⟨A', cap', ⟨hQ1, hRQ⟩, hO, ⟨hR1, zs, hz, hRR⟩, hN⟩ := hS4
   have hdl := dropK_len b.lines out i
   obtain ⟨ds, hds⟩ : ∃ ds, dropK b.lines out i = ds := ⟨_, rfl⟩
   rw [hds] at hRQ hO hdl HDK
   have c3 := (hRQ 3 _ rfl).1
   have nB := hCB4.1
   have cB3 := hCB4.2 3 _ rfl
   have z0 := (hW4.cell (p := ⟨bx, ox + i * 3, none⟩) hbx).trans x0
   have z1 := (hW4.cell (p := ⟨bx, ox + i * 3 + 1, none⟩) hbx).trans x1
   have z2 := (hW4.cell (p := ⟨bx, ox + i * 3 + 2, none⟩) hbx).trans x2
   have nx : bx < wr.heap.size := Nat.lt_of_lt_of_le hbx hW4.size
   subst hLe
   clear hds
   refine Ks ?_
   refine Rd [8, 9, 10] (fun wt => Below wr.heap.size wr wt) (fun w1 w2 => Below w1.heap.size w1 w2) [(0, some 20), (1, some 21), (2, some 22), (3, some 23), (4, some 24), (5, some 25), (6, some 26), (7, some 27)] [20, 21, 22, 23, 24, 25, 26, 27] #[true, true, true, true, true, true, true, true, false, false, false] [1, 2, 4, 5, 6] hE ((Below.refl _ _).drew) fun Q' K hK => ?_
   refine SeqOps.val ?_ (Sp fun ax wx hS hT' hd K' J => ?_) ?_; rotate_left 1
   ·have r5 := hS.at 5 (by decide) (hE.at 5 rfl); obtain ⟨_, _, _, _, _, _⟩ := bT hT'
    refine o1 r5 fun ρ q5 => ?_; go_simp;
    exact Jo J hT'
   refine SeqOps.val ?_ (Sp fun ax wx hS hT' hd K' J => ?_) ?_; rotate_left 1
   ·have r20 := Tv hd 0 0 20; obtain ⟨_, _, _, _, _, _⟩ := bT hT'
    refine o1 r20 fun ρ q20 => ?_; go_simp;
    exact Jo J hT'
   refine SeqOps.val ?_ (Sp fun ax wx hS hT' hd K' J => ?_) ?_; rotate_left 1
   ·have r2 := hS.at 2 (by decide) (hE.at 2 rfl); obtain ⟨_, _, _, _, _, _⟩ := bT hT'
    refine o1 r2 fun ρ q2 => ?_; go_simp;
    exact Jo J hT'
   refine SeqOps.val ?_ (Sp fun ax wx hS hT' hd K' J => ?_) ?_; rotate_left 1
   ·have r22 := Tv hd 0 2 22; obtain ⟨_, _, _, _, _, _⟩ := bT hT'
    refine o1 r22 fun ρ q22 => ?_; go_simp;
    exact Jo J hT'
   refine SeqOps.val ?_ (Sp fun ax wx hS hT' hd K' J => ?_) ?_; rotate_left 1
   ·have r6 := hS.at 6 (by decide) (hE.at 6 rfl); obtain ⟨_, _, _, _, _, _⟩ := bT hT'
    refine o1 r6 fun ρ q6 => ?_; go_simp;
    exact Jo J hT'
   refine SeqOps.val ?_ (Sp fun ax wx hS hT' hd K' J => ?_) ?_; rotate_left 1
   ·have r23 := Tv hd 1 3 23; have r24 := Tv hd 0 4 24; obtain ⟨_, _, _, _, _, _⟩ := bT hT'
    refine o2 r23 r24 fun ρ q23 q24 => ?_; go_simp; (try go_bits);
    exact Jo J hT'
   refine SeqOps.val ?_ (Sp fun ax wx hS hT' hd K' J => ?_) ?_; rotate_left 1
   ·have r25 := Tv hd 0 5 25; obtain ⟨_, _, _, _, _, _⟩ := bT hT'
    refine o1 r25 fun ρ q25 => ?_; go_simp;
    exact Jo J hT'
   refine SeqOps.say (fun v wt => ∃ G, v = .slice (some ⟨G, 0, none⟩) 1 1 ∧ Arr wt wt.heap.size (some ⟨G, 0, none⟩) X.cells) (fun _ _ _ hR ⟨G, e, h⟩ => ⟨G, e, (h.below hR).more hR.size⟩) (Sp fun ax wx hS hT' hd K' J => ?_) ?_
   ·have r26 := Tv hd 0 6 26; obtain ⟨_, _, _, _, _, _⟩ := bT hT'
    refine o1 r26 fun ρ q26 => ?_; go_simp;
    refine J.out _ _ _ rfl ⟨_, rfl, (arr_new wx _ _).more (by simp)⟩ (hT'.trans (((Below.refl _ _).alloc (Nat.le_refl _) _).mono hT'.size)) ((Below.refl _ _).alloc (Nat.le_refl _) _)
   refine SeqOps.nil ?_
   intro w5 hBl; (repeat refine Ek ?_); (refine fun v h => ?_; obtain ⟨G, rfl, hG⟩ := h);
   refine fun ax hEx => ?_
   simp only [lk, pick, Nat.reduceEqDiff, ↓reduceIte] at hEx
   refine Lp fun K' J => ?_
   have r21 := hEx.at 21 rfl; have r27 := hEx.at 27 rfl
   have hO5 := own_below hO hBl
   refine wp_appN (.tmp 21) (.tmp 27) 25 rfl (Q + 1) 65 (.agg #[.int .i64 0, .int .i64 0, .string ⟨#[]⟩]) 3 32 Tryz.underlying25 (by kernel_rfl) rfl (by decide) _ _ _ (eval_of r21) hO5 w5.heap.size (some ⟨G, 0, none⟩) 1 1 X.cells (eval_of r27) hG rfl (by intro u hu; simp [NLn.cells] at hu; rcases hu with rfl | rfl | rfl <;> rfl) (by simp only [maxLen]; omega) (by omega) (by have := hBl.size; omega) (fun A2 c2 w6 q1 q2 q3 q4 q5 => ?_)
   have hlow : Below (Q + 1) w5 w6 := (Below.refl (Q + 1) w5).grown q4 (by have := hBl.size; omega) (fun k e => ownBlock_le hO5 k e)
   have hRQ6 := row_of_block (row_of_block hRQ (hBl.block Q hQ1)) (hlow.block Q (by omega))
   have y3 := (hRQ6 3 _ rfl).2
   (try clear r21 r27)
   refine Ln hEx J fun _ Eb => ?_; clear J K' hEx
   refine M1 Eb 5 fun K' J ρ q5 => ?_; go_simp
   refine Ln Eb J fun _ Ea => ?_; clear J K' Eb q5
   refine M2 Ea 29 28 fun K' J ρ q29 q28 => ?_; go_simp; (try clear q29 q28)
   refine late_skip Ea J (fun _ Eb => ?_); clear J K'; clear Ea
   refine Ld [1, 2, 4, 5, 6] Eb hK fun a hE => ?_; clear hK K Q' Eb
   refine world_cut (fun wt => OutL A cap b out Q R w (i + 1) wt ∧ Cells wt B (bkV A cap (some ⟨bx, ox, none⟩) lcap b)) ?_ (fun w7 hC => ?_)
   ·have hl1 : ds.length + 1 = (ds ++ [X]).length := by simp
    rw [← nlines_snoc, hl1] at q3
    have hs5 : wr.heap.size ≤ w5.heap.size := hBl.size
    have hs6 : w5.heap.size ≤ w6.heap.size := hlow.size
    unfold OutL
    rw [HDK.out, HQQ.out, hq', if_neg (by simp)]
    refine ⟨⟨A2, c2, ⟨by simp; omega, ?_⟩, ?_, ⟨by simp; omega, zs, hz, (row_of_block (row_of_block hRR (hBl.block R (by omega))) (hlow.block R (by omega))).other (by omega)⟩, ((hN.trans (hBl.mono hN.size)).trans (hlow.mono (by omega))).setCell (by simp only; omega) _⟩, ?_⟩
    ·rw [← hl1]
     exact hRQ6.set (o := 3) (by simp)
    ·refine q3.kept (row := some Q) ⟨rfl, rfl, rfl, by simp, fun k hk hne => Below.heap_setCell _ _ _ _ (fun e => hne (by rw [e]))⟩ ?_
     cases hg : (Value.slice A2 (ds ++ [X]).length c2).ownBlock with
     | none => exact .inl rfl
     | some g => exact .inr fun e' => by have := ownBlock_le q3 g hg; cases e'; omega
    ·exact ⟨by have := hCB4.1; simp; omega, fun j u hu => by
      rw [World.cell?_setCell_other _ _ _ _ (by intro e; have := congrArg Addr.block e; simp only at this; omega)]
      exact (World.cell?_of_block (w := w5) (a := ⟨B, j, none⟩) (hlow.block B (by omega))).trans ((hCB4.below hBl).2 j u hu)⟩
   obtain ⟨hS7, hCB7⟩ := hC
   refine Ks ?_
   refine Rs 3 fun Q' K hK => ?_
   refine M1 hE 6 fun K' J ρ q6 => ?_; go_simp
   refine Ln hE J fun _ Eb => ?_; clear J K' hE a q6
   refine M1 Eb 14 fun K' J ρ q14 => ?_; go_simp; (try go_bits); (try simp (disch := omega) only [IntWalk.i64_in])
   refine Ln Eb J fun _ Ea => ?_; clear J K' Eb q14
   refine M1 Ea 15 fun K' J ρ q15 => ?_; go_simp
   refine Ln Ea J fun _ Eb => ?_; clear J K' Ea q15
   refine Ld [1, 2, 4, 5, 6] Eb hK fun a hE => ?_; clear hK K Q' Eb
   refine Ks ?_
   exact ⟨i + 1, ⟨hlt, by simpa using hE, hS7, hCB7⟩, by omega⟩
  ·have hq' : q = true := by simpa using h
   refine Ks ?_
   refine Rs 3 fun Q' K hK => ?_
   refine M1 hE 6 fun K' J ρ q6 => ?_; go_simp
   refine Ln hE J fun _ Eb => ?_; clear J K' hE a q6
   refine M1 Eb 14 fun K' J ρ q14 => ?_; go_simp; (try go_bits); (try simp (disch := omega) only [IntWalk.i64_in])
   refine Ln Eb J fun _ Ea => ?_; clear J K' Eb q14
   refine M1 Ea 15 fun K' J ρ q15 => ?_; go_simp
   refine Ln Ea J fun _ Eb => ?_; clear J K' Ea q15
   refine Ld [1, 2, 4, 5, 6] Eb hK fun a hE => ?_; clear hK K Q' Eb
   refine Ks ?_
   refine ⟨i + 1, ⟨hlt, by simpa using hE, ?_, hCB4⟩, by omega⟩
   unfold OutL at hS4 ⊢
   rw [HDK.out, HQQ.out, hq', if_pos rfl, List.append_nil]
   exact hS4
 ·have hii : i = b.lines.length := by have := of_decide_eq_false h; omega
  subst hii
  clear h
  obtain ⟨A', cap', ⟨hQ1, hRQ⟩, hO, ⟨hR1, zs, hz, hRR⟩, hN⟩ := hS
  have hlen : (dropK b.lines out b.lines.length).length = (b.without out).lines.length := rfl
  obtain ⟨A2, c2, hv, hc1, hc2, ha⟩ := own_form hO
  rw [Value.slice.injEq] at hv
  obtain ⟨rfl, _, rfl⟩ := hv
  have hCQ : Cells wr Q (bkV A cap A' cap' (b.without out)) := row_cells hRQ hQ1
  have hsm := small_without out hs h9 hc1
  have hlv : (bkV A cap A' cap' (b.without out)).length = 7 := rfl
  obtain ⟨vs, hvs⟩ : ∃ vs, bkV A cap A' cap' (b.without out) = vs := ⟨_, rfl⟩
  have hov : vs.toArray.all (·.oneCell') = true := by
   rw [← hvs]; simp only [bkV, List.all_toArray, List.all_cons, List.all_nil, Bool.and_true]; rfl
  have HVS := hid hvs
  rw [hvs] at hCQ hlv
  have hlv' : vs.toArray.size = 7 := by simpa using hlv
  have hRe : R ≠ Q := by omega
  clear ha hc1 hc2 hlen hRQ hvs nB cB3 hCB
  refine Ks ?_
  refine Rs 2 fun Q' K hK => ?_
  refine Lp fun K' J => ?_
  have r5 := hE.at 5 rfl
  refine wp_load_mid 29 (.tmp 5) rfl Q 0 (eval_of r5) vs _ (fun j u hu => by rw [Nat.zero_add]; exact hCQ.2 j u hu) Tryz.underlying29 rfl (by rw [hlv]; kernel_rfl) ?_
  (try clear r5)
  refine Ln hE J fun _ Eb => ?_; clear J K' hE a
  refine Lp fun K' J => ?_
  have r4 := Eb.at 4 rfl; have r30 := Eb.at 30 rfl
  refine wp_store_mid 29 (.tmp 4) (.tmp 30) rfl R 0 vs.toArray (eval_of r4) (eval_of r30) (there_row hRR (by rw [hz, hlv']; exact Nat.le_refl _)) (by rw [hlv']; kernel_rfl) hov ?_
  (try clear r4 r30)
  refine late_skip Eb J (fun _ Ea => ?_); clear J K'; clear Eb
  refine Ld [4] Ea hK fun a hE => ?_; clear hK K Q' Ea
  refine world_cut (fun wt => Cells wt R vs ∧ Below w.heap.size w wt ∧ BkAt wt A A' (b.without out)) ?_ (fun w7 hC => ?_)
  ·obtain ⟨q1, q2, q3, q4⟩ := cells_stored hRR (vs := vs) (by rw [hz, hlv]) hR1 hnR hN
   obtain ⟨A3, c3, hv, _, _, ha3⟩ := own_form (own_of_block hO (by rw [q4]; exact Nat.le_refl _) (fun g hg => q3 g (by have := ownBlock_le hO g hg; omega)))
   rw [Value.slice.injEq] at hv
   obtain ⟨rfl, _, rfl⟩ := hv
   exact ⟨q1, q2, (hM.1.below q2).more q2.size, ha3⟩
  obtain ⟨hC7, hb7, hk7⟩ := hC
  refine Ks ?_
  refine bodyPost_ret (v := .agg vs.toArray) ?_ hE.1 ⟨⟨A', cap', by rw [← HVS.out]; rfl, hsm, hk7⟩, hb7⟩
  exact res_cell rfl (hE.at 4 rfl) hC7.2 Tryz.underlying29 rfl (by rw [hlv]; kernel_rfl)
end
end Go.Proofs.YtbimkcjdodgojaaGreat
