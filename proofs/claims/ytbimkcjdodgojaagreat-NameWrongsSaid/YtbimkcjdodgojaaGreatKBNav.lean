/- Name: the pairs that are in each truth. -/
import Derived.Test.YtbimkcjdodgojaaGreatKBNat
import Derived.Test.YtbimkcjdodgojaaGreatKBNai

namespace Go.Proofs.YtbimkcjdodgojaaGreat
set_option linter.unusedSimpArgs false
set_option linter.unusedVariables false
open Go Go.RowKit
attribute [local go_sem high] cell_set_wr
attribute [local go_sem low] cell_wr frozen_wr
attribute [local go_sem] wr_set wr_drew wr_drewN wr_alloc wr_new Rho.c Rho.n Rho.g
/-- the pairs of the first lines, and of the next one's first others, that are in each truth -/
def joinR (p : Nat → Nat → Bool) (i : Nat) (li : List Nat) : Prs := (li.filter (p i)).map fun o => (i, o)
def joinK (p : Nat → Nat → Bool) (cs : List (List Nat)) (i : Nat) : Prs := (List.range i).flatMap fun i => joinR p i (cs.getD i [])
theorem joinK_succ (p : Nat → Nat → Bool) (cs : List (List Nat)) (i : Nat) : joinK p cs (i + 1) = joinK p cs i ++ joinR p i (cs.getD i []) := by simp [joinK, List.range_succ]
theorem joinR_succ (p : Nat → Nat → Bool) (i : Nat) (li : List Nat) (k : Nat) (h : k < li.length) : joinR p i (li.take (k + 1)) = joinR p i (li.take k) ++ (if p i li[k] = true then [(i, li[k])] else []) := by
 unfold joinR
 rw [List.take_succ_eq_append_getElem h, List.filter_append, List.map_append]
 congr 1
 rw [List.filter_cons]
 split <;> rfl
theorem joinR_len (p : Nat → Nat → Bool) (i : Nat) (li : List Nat) : (joinR p i li).length ≤ li.length := by
 unfold joinR; rw [List.length_map]; exact List.length_filter_le _ _
theorem joinK_len (p : Nat → Nat → Bool) (cs : List (List Nat)) (hcs : ∀ k, (cs.getD k []).length ≤ 9) (i : Nat) : (joinK p cs i).length ≤ 9 * i := by
 induction i with
 | zero => simp [joinK]
 | succ i ih =>
  rw [joinK_succ, List.length_append]
  have := joinR_len p i (cs.getD i [])
  have := hcs i
  omega
section
variable (A : Option Addr) (cap : Nat) (L : Option Addr) (lcap : Nat) (b : Bk) (f : Nat → Option Addr × Nat × Nat) (T : Option Addr) (n c Mb : Nat)
theorem idx_nine (k : Nat) (hk : k < 9) (w : World) : (Instr.index 55 (.agg #[.slice (f 0).1 (f 0).2.1 (f 0).2.2, .slice (f 1).1 (f 1).2.1 (f 1).2.2, .slice (f 2).1 (f 2).2.1 (f 2).2.2, .slice (f 3).1 (f 3).2.1 (f 3).2.2, .slice (f 4).1 (f 4).2.1 (f 4).2.2, .slice (f 5).1 (f 5).2.1 (f 5).2.2, .slice (f 6).1 (f 6).2.1 (f 6).2.2, .slice (f 7).1 (f 7).2.1 (f 7).2.2, .slice (f 8).1 (f 8).2.1 (f 8).2.2]) (.int .i64 k)).run Tryz.prog w = .ok (.slice (f k).1 (f k).2.1 (f k).2.2) w := by
 have h : k = 0 ∨ k = 1 ∨ k = 2 ∨ k = 3 ∨ k = 4 ∨ k = 5 ∨ k = 6 ∨ k = 7 ∨ k = 8 := by omega
 rcases h with rfl | rfl | rfl | rfl | rfl | rfl | rfl | rfl | rfl <;> (show _ = _) <;> kernel_rfl
set_option maxRecDepth 100000 in
set_option maxHeartbeats 2000000 in
theorem joined_any {cs : List (List Nat)} (cnt : Int → Int → Int) (m : Nat) (w : World) (hT : Tal w Mb m cnt) (hcs : ∀ k, (cs.getD k []).length ≤ 9) (hco : ∀ k, ∀ o ∈ cs.getD k [], o < 9) (hu : CouldAt b (sl9 f 0) (sl9 f 1) (sl9 f 2) (sl9 f 3) (sl9 f 4) (sl9 f 5) (sl9 f 6) (sl9 f 7) (sl9 f 8) (fun _ => False) w cs) : Calls Tryz.prog 54 #[.agg (talV A cap L lcap b (sl9 f 0) (sl9 f 1) (sl9 f 2) (sl9 f 3) (sl9 f 4) (sl9 f 5) (sl9 f 6) (sl9 f 7) (sl9 f 8) T n c Mb).toArray] w fun e w' => (∃ T' c', e = .returned (.slice T' (joinK (fun i o => kindP (cnt i o) n == 2) cs 9).length c') ∧ Arr w' w'.heap.size T' (pairsV (joinK (fun i o => kindP (cnt i o) n == 2) cs 9))) ∧ Below w.heap.size w w' := by
 have HK := hid (kind_any A cap L lcap b (sl9 f 0) (sl9 f 1) (sl9 f 2) (sl9 f 3) (sl9 f 4) (sl9 f 5) (sl9 f 6) (sl9 f 7) (sl9 f 8) T n c Mb cnt m)
 obtain ⟨P, hP⟩ : ∃ P : Nat → Nat → Bool, P = fun (i o : Nat) => kindP (cnt i o) n == 2 := ⟨_, rfl⟩
 rw [← hP]
 have HP := hid hP
 clear hP
 simp only [talV, sl9] at HK ⊢
 refine enterE Tryz.func54 rfl Tryz.ntmps54 (by simp) (fun a hE => ?_); simp only [envOf, Nat.zero_add, Nat.reduceAdd] at hE
 refine Ks ?_
 refine Rs 2 fun Q' K hK => ?_
 refine M1 hE 0 fun K' J ρ q0 => ?_; go_simp
 refine Ln hE J fun _ Eb => ?_; clear J K' hE a q0
 refine M0 fun K' J ρ => ?_; go_simp;
 refine Ln Eb J fun _ Ea => ?_; clear J K' Eb
 refine Ld [1] Ea hK fun a hE => ?_; clear hK K Q' Ea
 obtain ⟨B, hBe⟩ : ∃ B, B = w.heap.size := ⟨_, rfl⟩; rw [← hBe] at hE; refine world_cut (fun wt => Below w.heap.size w wt ∧ Cells wt B [.slice A b.ear.alike.length cap, .string b.ear.mute, .int .i64 b.ear.slips, .slice L b.lines.length lcap, .int .i64 b.lo, .int .i64 b.hi, .int .i64 b.lost, .slice (f 0).1 (f 0).2.1 (f 0).2.2, .slice (f 1).1 (f 1).2.1 (f 1).2.2, .slice (f 2).1 (f 2).2.1 (f 2).2.2, .slice (f 3).1 (f 3).2.1 (f 3).2.2, .slice (f 4).1 (f 4).2.1 (f 4).2.2, .slice (f 5).1 (f 5).2.1 (f 5).2.2, .slice (f 6).1 (f 6).2.1 (f 6).2.2, .slice (f 7).1 (f 7).2.1 (f 7).2.2, .slice (f 8).1 (f 8).2.1 (f 8).2.2, .slice T n c, .map (some Mb)]) ⟨(Below.refl _ _).alloc (Nat.le_refl _) _, by rw [hBe]; exact cells_new _ _ _⟩ (fun w1 hCut => ?_); obtain ⟨hbw1, hCB⟩ := hCut; clear hBe
 have nB := hCB.1; have cB7 := hCB.2 7 _ rfl; have cB8 := hCB.2 8 _ rfl; have cB9 := hCB.2 9 _ rfl; have cB10 := hCB.2 10 _ rfl; have cB11 := hCB.2 11 _ rfl; have cB12 := hCB.2 12 _ rfl; have cB13 := hCB.2 13 _ rfl; have cB14 := hCB.2 14 _ rfl; have cB15 := hCB.2 15 _ rfl
 refine Ks ?_
 refine Rs 1 fun Q' K hK => ?_
 refine M0 fun K' J ρ => ?_; go_simp;
 refine Ln hE J fun _ Eb => ?_; clear J K' hE a
 refine Ld [1, 3] Eb hK fun a hE => ?_; clear hK K Q' Eb
 refine Ks ?_
 refine Rs 4 fun Q' K hK => ?_
 refine M1 hE 1 fun K' J ρ q1 => ?_; go_simp
 refine Ln hE J fun _ Eb => ?_; clear J K' hE a q1
 refine M1 Eb 8 fun K' J ρ q8 => ?_; go_simp
 refine Ln Eb J fun _ Ea => ?_; clear J K' Eb q8
 refine M1 Ea 9 fun K' J ρ q9 => ?_; go_simp
 refine Ln Ea J fun _ Eb => ?_; clear J K' Ea q9
 refine M0 fun K' J ρ => ?_; go_simp;
 refine Ln Eb J fun _ Ea => ?_; clear J K' Eb
 refine Ld [1, 3, 10, 11] Ea hK fun a hE => ?_; clear hK K Q' Ea
 clear nB cB7 cB8 cB9 cB10 cB11 cB12 cB13 cB14 cB15
 refine Ks ?_
 refine loop_st (fun (i : Nat) a w' => ∃ T' c', i ≤ 9 ∧ Fits 35 [(1, .pointer (some ⟨B, 0, none⟩)), (3, .slice T' (joinK P cs i).length c'), (10, .agg #[.slice (f 0).1 (f 0).2.1 (f 0).2.2, .slice (f 1).1 (f 1).2.1 (f 1).2.2, .slice (f 2).1 (f 2).2.1 (f 2).2.2, .slice (f 3).1 (f 3).2.1 (f 3).2.2, .slice (f 4).1 (f 4).2.1 (f 4).2.2, .slice (f 5).1 (f 5).2.1 (f 5).2.2, .slice (f 6).1 (f 6).2.1 (f 6).2.2, .slice (f 7).1 (f 7).2.1 (f 7).2.2, .slice (f 8).1 (f 8).2.1 (f 8).2.2]), (11, .int .i64 i)] a ∧ Below w1.heap.size w1 w' ∧ w'.ownsRow w1.heap.size 82 2 (.slice T' (joinK P cs i).length c') (joinK P cs i).length (pairsV (joinK P cs i))) (fun i => 9 - i) 0 ?_ (fun i a w' hI => ?_)
 ·exact ⟨none, 0, Nat.zero_le _, by simpa [joinK] using hE, Below.refl _ _, own_nil _ _ _ _⟩
 clear hE
 obtain ⟨T', c', hi, hE, hW, hO⟩ := hI
 obtain ⟨wr, hwr⟩ : ∃ x, x = w' := ⟨_, rfl⟩
 subst hwr
 refine Ks ?_
 refine Rs 1 fun Q' K hK => ?_
 refine M1 hE 11 fun K' J ρ q11 => ?_; go_simp; (try go_bits)
 refine Ln hE J fun _ Eb => ?_; clear J K' hE a q11
 refine Ld [1, 3, 10, 11, 12] Eb hK fun a hE => ?_; clear hK K Q' Eb
 refine Ks ?_
 refine cond_part hE (t := 12) rfl (fun h => ?_) (fun h => ?_)
 ·have hlt : i < 9 := by have := of_decide_eq_true h; omega
  clear h
  have hltI : (i : Int) < 9 := by omega
  have hidx := idx_nine f i hlt
  obtain ⟨Ak, ck, hus, hAk⟩ := hu i hlt
  have hco9 := hcs i
  have hcoi := hco i
  have hjs := joinK_succ P cs i
  have hjl := joinK_len P cs hcs i
  obtain ⟨C, hC⟩ : ∃ C, cs.getD i [] = C := ⟨_, rfl⟩
  rw [hC] at hus hAk hco9 hcoi hjs
  have hfi : Value.slice (f i).1 (f i).2.1 (f i).2.2 = .slice Ak C.length ck := by
   have h9 : i = 0 ∨ i = 1 ∨ i = 2 ∨ i = 3 ∨ i = 4 ∨ i = 5 ∨ i = 6 ∨ i = 7 ∨ i = 8 := by omega
   rcases h9 with rfl | rfl | rfl | rfl | rfl | rfl | rfl | rfl | rfl <;> exact Option.some.inj hus
  have hi2 : ∀ w, (Instr.index 55 (.agg #[.slice (f 0).1 (f 0).2.1 (f 0).2.2, .slice (f 1).1 (f 1).2.1 (f 1).2.2, .slice (f 2).1 (f 2).2.1 (f 2).2.2, .slice (f 3).1 (f 3).2.1 (f 3).2.2, .slice (f 4).1 (f 4).2.1 (f 4).2.2, .slice (f 5).1 (f 5).2.1 (f 5).2.2, .slice (f 6).1 (f 6).2.1 (f 6).2.2, .slice (f 7).1 (f 7).2.1 (f 7).2.2, .slice (f 8).1 (f 8).2.1 (f 8).2.2]) (.int .i64 i)).run Tryz.prog w = .ok (.slice Ak C.length ck) w := fun w => by rw [hidx w, hfi]
  have HJS := hid hjs
  clear hidx hfi hus hjs hC
  have HAR : Hid (∀ W, Below w1.heap.size w1 W → Arr W W.heap.size Ak (nats C)) := hid fun W hW hx => by
   obtain ⟨b0, o0, e, q1, _, _, q4⟩ := hAk hx
   have hW2 := hbw1.trans (hW.mono hbw1.size)
   exact ⟨b0, o0, e, Nat.lt_of_lt_of_le q1 hW2.size, fun j u hj => (hW2.cell (p := ⟨b0, o0 + j, none⟩) q1).trans (q4 j u hj)⟩
  obtain ⟨JK, hJK⟩ : ∃ JK, joinK P cs i = JK := ⟨_, rfl⟩
  rw [hJK] at hE hO HJS hjl
  clear hJK hAk
  refine Ks ?_
  refine Rs 4 fun Q' K hK => ?_
  refine M1 hE 11 fun K' J ρ q11 => ?_; go_simp
  refine Ln hE J fun _ Eb => ?_; clear J K' hE a q11
  refine M2 Eb 10 11 fun K' J ρ q10 q11 => ?_; go_simp; (try go_bits)
  refine Ln Eb J fun _ Ea => ?_; clear J K' Eb q10 q11
  refine M1 Ea 13 fun K' J ρ q13 => ?_; go_simp
  refine Ln Ea J fun _ Eb => ?_; clear J K' Ea q13
  refine M1 Eb 14 fun K' J ρ q14 => ?_; go_simp
  refine Ln Eb J fun _ Ea => ?_; clear J K' Eb q14
  refine Ld [1, 3, 4, 5, 10, 11] Ea hK fun a hE => ?_; clear hK K Q' Ea
  clear hi2
  refine Ks ?_
  refine Rs 3 fun Q' K hK => ?_
  refine M1 hE 5 fun K' J ρ q5 => ?_; go_simp
  refine Ln hE J fun _ Eb => ?_; clear J K' hE a q5
  refine M1 Eb 15 fun K' J ρ q15 => ?_; go_simp; (try go_bits)
  refine Ln Eb J fun _ Ea => ?_; clear J K' Eb q15
  refine M0 fun K' J ρ => ?_; go_simp;
  refine Ln Ea J fun _ Eb => ?_; clear J K' Ea
  refine Ld [1, 3, 4, 10, 11, 15, 16, 17] Eb hK fun a hE => ?_; clear hK K Q' Eb
  refine Ks ?_
  refine loop_st (fun (j : Nat) a w' => ∃ T2 c2, j ≤ C.length ∧ Fits 35 [(1, .pointer (some ⟨B, 0, none⟩)), (3, .slice T2 (JK ++ joinR P i (C.take j)).length c2), (4, .int .i64 i), (10, .agg #[.slice (f 0).1 (f 0).2.1 (f 0).2.2, .slice (f 1).1 (f 1).2.1 (f 1).2.2, .slice (f 2).1 (f 2).2.1 (f 2).2.2, .slice (f 3).1 (f 3).2.1 (f 3).2.2, .slice (f 4).1 (f 4).2.1 (f 4).2.2, .slice (f 5).1 (f 5).2.1 (f 5).2.2, .slice (f 6).1 (f 6).2.1 (f 6).2.2, .slice (f 7).1 (f 7).2.1 (f 7).2.2, .slice (f 8).1 (f 8).2.1 (f 8).2.2]), (11, .int .i64 i), (15, .slice Ak C.length ck), (16, .int .i64 C.length), (17, .int .i64 j)] a ∧ Below w1.heap.size w1 w' ∧ w'.ownsRow w1.heap.size 82 2 (.slice T2 (JK ++ joinR P i (C.take j)).length c2) (JK ++ joinR P i (C.take j)).length (pairsV (JK ++ joinR P i (C.take j)))) (fun j => C.length - j) 0 ?_ (fun j a w' hI => ?_)
  ·have e0 : JK ++ joinR P i (C.take 0) = JK := by simp [joinR]
   rw [e0]
   exact ⟨T', c', Nat.zero_le _, by simpa using hE, hW, hO⟩
  clear hE hW hO
  obtain ⟨T2, c2, hj, hE, hW, hO⟩ := hI
  obtain ⟨wi, hwi⟩ : ∃ x, x = w' := ⟨_, rfl⟩
  subst hwi
  refine Ks ?_
  refine Rs 1 fun Q' K hK => ?_
  refine M2 hE 17 16 fun K' J ρ q17 q16 => ?_; go_simp; (try go_bits)
  refine Ln hE J fun _ Eb => ?_; clear J K' hE a q17 q16
  refine Ld [1, 3, 4, 10, 11, 15, 16, 17, 18] Eb hK fun a hE => ?_; clear hK K Q' Eb
  refine Ks ?_
  refine cond_part hE (t := 18) rfl (fun h => ?_) (fun h => ?_)
  ·have hjt : j < C.length := by have := of_decide_eq_true h; omega
   clear h
   have hjtI : (j : Int) < C.length := by omega
   have hrs := joinR_succ P i C j hjt
   obtain ⟨b0, o0, rfl, hb0, c0⟩ := (HAR.out wi hW).nat hjt
   have ho9 := hcoi C[j] (List.getElem_mem hjt)
   obtain ⟨o, ho⟩ : ∃ o, C[j] = o := ⟨_, rfl⟩
   rw [ho] at c0 hrs ho9
   have hjr := joinR_len P i (C.take j)
   have hct : (C.take j).length ≤ 9 := by rw [List.length_take]; omega
   obtain ⟨JR, hJR⟩ : ∃ JR, joinR P i (C.take j) = JR := ⟨_, rfl⟩
   rw [hJR] at hE hO hrs hjr
   have HRS := hid hrs
   clear hrs hJR ho
   refine Ks ?_
   refine Rs 3 fun Q' K hK => ?_
   refine M2 hE 15 17 fun K' J ρ q15 q17 => ?_; go_simp; (try go_bits)
   refine Ln hE J fun _ Eb => ?_; clear J K' hE a q15 q17
   refine M1 Eb 19 fun K' J ρ q19 => ?_; go_simp
   refine Ln Eb J fun _ Ea => ?_; clear J K' Eb q19
   refine M1 Ea 20 fun K' J ρ q20 => ?_; go_simp
   refine Ln Ea J fun _ Eb => ?_; clear J K' Ea q20
   refine Ld [1, 3, 4, 7, 10, 11, 15, 16, 17] Eb hK fun a hE => ?_; clear hK K Q' Eb
   clear c0
   have hCi := hCB.below hW
   have hTi := hT.of_block ((hbw1.trans (hW.mono hbw1.size)).block Mb hT.lt)
   have hPe := congrFun (congrFun HP.out i) o
   obtain ⟨kq, hkq⟩ : ∃ kq, kindP (cnt i o) n = kq := ⟨_, rfl⟩
   have HKK := hid (HK.out i o wi hTi (wf_int _ (by omega)) (wf_int _ (by omega)))
   rw [hkq] at HKK hPe
   have HPE := hid hPe
   clear hPe hkq
   refine Ks ?_
   refine Rs 5 fun Q' K hK => ?_
   refine Lp fun K' J => ?_
   have r1 := hE.at 1 rfl
   refine wp_load_mid 75 (.tmp 1) rfl B 0 (eval_of r1) [.slice A b.ear.alike.length cap, .string b.ear.mute, .int .i64 b.ear.slips, .slice L b.lines.length lcap, .int .i64 b.lo, .int .i64 b.hi, .int .i64 b.lost, .slice (f 0).1 (f 0).2.1 (f 0).2.2, .slice (f 1).1 (f 1).2.1 (f 1).2.2, .slice (f 2).1 (f 2).2.1 (f 2).2.2, .slice (f 3).1 (f 3).2.1 (f 3).2.2, .slice (f 4).1 (f 4).2.1 (f 4).2.2, .slice (f 5).1 (f 5).2.1 (f 5).2.2, .slice (f 6).1 (f 6).2.1 (f 6).2.2, .slice (f 7).1 (f 7).2.1 (f 7).2.2, .slice (f 8).1 (f 8).2.1 (f 8).2.2, .slice T n c, .map (some Mb)] _ (fun j u hu => by rw [Nat.zero_add]; exact hCi.2 j u hu) Tryz.underlying75 rfl (by kernel_rfl) ?_
   (try clear r1)
   refine Ln hE J fun _ Eb => ?_; clear J K' hE a
   refine M1 Eb 4 fun K' J ρ q4 => ?_; go_simp
   refine Ln Eb J fun _ Ea => ?_; clear J K' Eb q4
   refine M1 Ea 7 fun K' J ρ q7 => ?_; go_simp
   refine Ln Ea J fun _ Eb => ?_; clear J K' Ea q7
   refine M3 Eb 21 22 23 fun K' J ρ q21 q22 q23 => ?_; go_simp; (try go_bits); (try clear q21 q22 q23)
   go_at_call 51; refine (HKK.out).mono ?_; rintro e w4 ⟨rfl, h4⟩
   (try clear r21 r22 r23)
   refine Ln Eb J fun _ Ea => ?_; clear J K' Eb
   refine M1 Ea 24 fun K' J ρ q24 => ?_; go_simp; (try go_bits)
   refine Ln Ea J fun _ Eb => ?_; clear J K' Ea q24
   refine Ld [1, 3, 4, 7, 10, 11, 15, 16, 17, 25] Eb hK fun a hE => ?_; clear hK K Q' Eb
   have hW4 := hW.trans (h4.mono hW.size)
   have hO4 := own_below hO h4
   rw [List.length_append] at hO4
   clear hCi hTi
   refine Ks ?_
   refine cond_part hE (t := 25) rfl (fun h => ?_) (fun h => ?_)
   ·have hh : kq = 2 := by simpa using h
    have hyes : P i o = true := by rw [HPE.out, hh]; rfl
    clear h
    have hs4 := hW4.size
    refine Ks ?_
    refine Rs 7 fun Q' K hK => ?_
    refine M1 hE 3 fun K' J ρ q3 => ?_; go_simp
    refine Ln hE J fun _ Eb => ?_; clear J K' hE a q3
    refine M1 Eb 4 fun K' J ρ q4 => ?_; go_simp
    refine Ln Eb J fun _ Ea => ?_; clear J K' Eb q4
    refine M1 Ea 7 fun K' J ρ q7 => ?_; go_simp
    refine Ln Ea J fun _ Eb => ?_; clear J K' Ea q7
    refine M2 Eb 27 28 fun K' J ρ q27 q28 => ?_; go_simp
    refine Ln Eb J fun _ Ea => ?_; clear J K' Eb q27 q28
    refine M1 Ea 29 fun K' J ρ q29 => ?_; go_simp
    refine Ln Ea J fun _ Eb => ?_; clear J K' Ea q29
    refine Lp fun K' J => ?_
    have r26 := Eb.at 26 rfl; have r30 := Eb.at 30 rfl
    refine wp_appN (.tmp 26) (.tmp 30) 31 rfl w1.heap.size 82 (.agg #[.int .i64 0, .int .i64 0]) 2 16 Tryz.underlying31 (by kernel_rfl) rfl (by decide) (.slice T2 (JK.length + JR.length) c2) (JK.length + JR.length) (pairsV (JK ++ JR)) (eval_of r26) (hO4.alloc _) (w4.heap.size + 1) (some ⟨w4.heap.size, 0, none⟩) 1 1 (pcells (i, o)) (eval_of r30) (arr_new w4 _ _) rfl (by intro u hu; simp [pcells] at hu; rcases hu with rfl | rfl <;> rfl) (by simp only [maxLen]; omega) (by omega) (by simp; omega) (fun A2 c2 w5 q1 q2 q3 q4 q5 => ?_)
    have hlow : Below w1.heap.size w4 w5 := ((Below.refl w1.heap.size w4).alloc hs4 _).grown q4 (by simp; omega) (fun k e => ownBlock_le hO4 k e)
    (try clear r26 r30)
    refine Ln Eb J fun _ Ea => ?_; clear J K' Eb
    refine M1 Ea 31 fun K' J ρ q31 => ?_; go_simp
    refine Ln Ea J fun _ Eb => ?_; clear J K' Ea q31
    refine Ld [1, 3, 4, 10, 11, 15, 16, 17] Eb hK fun a hE => ?_; clear hK K Q' Eb
    refine Ks ?_
    refine Rs 2 fun Q' K hK => ?_
    refine M1 hE 17 fun K' J ρ q17 => ?_; go_simp; (try go_bits); (try simp (disch := omega) only [IntWalk.i64_in])
    refine Ln hE J fun _ Eb => ?_; clear J K' hE a q17
    refine M1 Eb 32 fun K' J ρ q32 => ?_; go_simp
    refine Ln Eb J fun _ Ea => ?_; clear J K' Eb q32
    refine Ld [1, 3, 4, 10, 11, 15, 16, 17] Ea hK fun a hE => ?_; clear hK K Q' Ea
    refine Ks ?_
    have hL : JK ++ joinR P i (C.take (j + 1)) = (JK ++ JR) ++ [(i, o)] := by rw [HRS.out, hyes, if_pos rfl, List.append_assoc]
    have hl1 : JK.length + JR.length + 1 = ((JK ++ JR) ++ [(i, o)]).length := by simp only [List.length_append, List.length_singleton]
    refine ⟨j + 1, ⟨A2, c2, hjt, ?_, hW4.trans hlow, ?_⟩, by omega⟩
    ·rw [hL, ← hl1]; simpa using hE
    ·rw [hL, ← hl1, show pairsV ((JK ++ JR) ++ [(i, o)]) = pairsV (JK ++ JR) ++ pcells (i, o) by simp [pairsV]]
     exact q3
   ·have hh : ¬ kq = 2 := by simpa using h
    have hno : P i o = false := by rw [HPE.out]; simpa using hh
    refine Ks ?_
    refine Rs 2 fun Q' K hK => ?_
    refine M1 hE 17 fun K' J ρ q17 => ?_; go_simp; (try go_bits); (try simp (disch := omega) only [IntWalk.i64_in])
    refine Ln hE J fun _ Eb => ?_; clear J K' hE a q17
    refine M1 Eb 32 fun K' J ρ q32 => ?_; go_simp
    refine Ln Eb J fun _ Ea => ?_; clear J K' Eb q32
    refine Ld [1, 3, 4, 10, 11, 15, 16, 17] Ea hK fun a hE => ?_; clear hK K Q' Ea
    refine Ks ?_
    have hL : JK ++ joinR P i (C.take (j + 1)) = JK ++ JR := by rw [HRS.out, hno, if_neg (by simp), List.append_nil]
    refine ⟨j + 1, ⟨T2, c2, hjt, ?_, hW4, ?_⟩, by omega⟩
    ·rw [hL]; simpa using hE
    ·rw [hL, List.length_append]; exact hO4
  ·have hjj : j = C.length := by have := of_decide_eq_false h; omega
   subst hjj
   rw [List.take_length] at hE hO
   refine Ks ?_
   refine Rs 2 fun Q' K hK => ?_
   refine M1 hE 11 fun K' J ρ q11 => ?_; go_simp; (try go_bits); (try simp (disch := omega) only [IntWalk.i64_in])
   refine Ln hE J fun _ Eb => ?_; clear J K' hE a q11
   refine M1 Eb 33 fun K' J ρ q33 => ?_; go_simp
   refine Ln Eb J fun _ Ea => ?_; clear J K' Eb q33
   refine Ld [1, 3, 10, 11] Ea hK fun a hE => ?_; clear hK K Q' Ea
   refine Ks ?_
   refine ⟨i + 1, ⟨T2, c2, hlt, ?_, hW, ?_⟩, by omega⟩
   ·rw [HJS.out]; simpa using hE
   ·rw [HJS.out]; exact hO
 ·have hii : i = 9 := by have := of_decide_eq_false h; omega
  subst hii
  refine Ks ?_
  refine Rs 2 fun Q' K hK => ?_
  refine M1 hE 3 fun K' J ρ q3 => ?_; go_simp
  refine Ln hE J fun _ Eb => ?_; clear J K' hE a q3
  refine M1 Eb 34 fun K' J ρ q34 => ?_; go_simp
  refine Ln Eb J fun _ Ea => ?_; clear J K' Eb q34
  refine Ld [2] Ea hK fun a hE => ?_; clear hK K Q' Ea
  refine Ks ?_
  obtain ⟨A3, c3, hv, _, _, ha3⟩ := own_form hO
  rw [Value.slice.injEq] at hv
  obtain ⟨rfl, _, rfl⟩ := hv
  exact ret_one hE rfl rfl ⟨⟨_, _, rfl, ha3⟩, hbw1.trans (hW.mono hbw1.size)⟩
end
end Go.Proofs.YtbimkcjdodgojaaGreat
