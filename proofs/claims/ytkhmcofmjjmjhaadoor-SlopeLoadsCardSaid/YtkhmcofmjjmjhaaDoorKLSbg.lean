/- Slope: the exported functions, first part. -/
import Derived.Test.YtkhmcofmjjmjhaaDoorKLSbf

namespace Go.Proofs.YtkhmcofmjjmjhaaDoor
set_option linter.unusedSimpArgs false
set_option linter.unusedVariables false
open Go Go.RowKit
attribute [local go_sem high] cell_set_wr
attribute [local go_sem low] cell_wr frozen_wr
attribute [local go_sem] wr_set wr_drew wr_drewN wr_alloc wr_new Rho.c Rho.n Rho.g
def SetV (b : Sb) (E : Int) (v : Value) (wt : World) : Prop := ∃ V, v = .tuple #[.agg V.toArray, .int .i64 E] ∧ OvP b E V wt ∧ NoB V
def SetA (b : Sb) (E : Int) (v : Value) (wt : World) : Prop := ∃ V, v = .agg V.toArray ∧ OvP b E V wt ∧ NoB V
/-- a block of twelve cells, none of which is a Bool -/
def BlkO (C : Nat) (wt : World) : Prop := ∃ cs : Array Value, wt.heap[C]? = some (.cells cs 94) ∧ cs.size = 12 ∧ NoB cs.toList
def NewO (N : Nat) (v : Value) (wt : World) : Prop := ∃ C, v = .pointer (some ⟨C, 0, none⟩) ∧ N ≤ C ∧ BlkO C wt
def TurnO (b : Sb) (E : Int) (N : Nat) (w w' : World) : Prop := Below w.heap.size w w' ∨ ∃ g V, N ≤ g ∧ BlkO g w ∧ OvP b E V w ∧ NoB V ∧ w' = w.setCells g 0 V
def StoM (b : Sb) (E : Int) (N : Nat) (v : Value) (wt : World) : Prop := ∃ C V, v = .pointer (some ⟨C, 0, none⟩) ∧ N ≤ C ∧ Cells wt C V ∧ OvP b E V wt
theorem TurnO.of {b : Sb} {E : Int} {N : Nat} {w w' : World} (h : Below w.heap.size w w') : TurnO b E N w w' := .inl h
theorem TurnO.refl {b : Sb} {E : Int} {N : Nat} {w : World} : TurnO b E N w w := .inl (Below.refl _ _)
theorem blkO_stored {C : Nat} : ∀ (vs : List Value) (o : Nat) (w : World), BlkO C w → NoB vs → BlkO C (w.setCells C o vs)
 | [], _, _, h, _ => h
 | v :: r, o, w, ⟨cs, h1, h2, h3⟩, hv => by
  unfold World.setCells
  refine blkO_stored r (o + 1) _ ⟨cs.setIfInBounds o v, by simp [World.setCell, Array.getElem?_modify, h1], by simpa using h2, fun u hu x => ?_⟩ (fun u hu => hv u (by simp [hu])); rw [Array.toList_setIfInBounds] at hu
  rcases List.mem_or_eq_of_mem_set hu with h | h
  ·exact h3 u h x
  ·rw [h]; exact hv v (by simp) x
theorem BlkO.row {C : Nat} {w : World} (h : BlkO C w) : ∃ zs : List Value, zs.length = 12 ∧ Row w C zs ∧ C < w.heap.size := by
 obtain ⟨cs, h1, h2, _⟩ := h; exact ⟨cs.toList, by simpa using h2, Blk.row (N := 0) ⟨Nat.zero_le _, heap_lt h1, h1⟩, heap_lt h1⟩
theorem BlkO.nob {C o : Nat} {w : World} {x : Bool} (h : BlkO C w) : w.cell? ⟨C, o, none⟩ ≠ some (.bool x) := by
 obtain ⟨cs, h1, h2, h3⟩ := h
 intro e
 simp only [World.cell?, h1] at e; have e2 : cs[o]? = some (.bool x) := by simpa using e
 exact h3 _ (by rw [Array.mem_toList_iff]; exact Array.mem_of_getElem? e2) x rfl
theorem OvAt.stored {b : Sb} {V : List Value} {w : World} {g : Nat} {vs : List Value} (h : OvAt b V w) (hg : BlkO g w) : OvAt b V (w.setCells g 0 vs) := by
 obtain ⟨H, hcap, S, scap, P, pcap, D, dc, h1, h2⟩ := h; refine ⟨H, hcap, S, scap, P, pcap, D, dc, h1, fun k hk => ?_⟩; obtain ⟨b0, o0, e, q1, q2⟩ := h2 k hk
 have hne : b0 ≠ g := fun e => by
  have := q2 0 _ (bls_at _ (by omega)); rw [e] at this; exact hg.nob this
 exact ⟨b0, o0, e, by rw [size_setCellsN]; exact q1, fun j u hu => (World.cell?_of_block (heap_stored hne _ _ _)).trans (q2 j u hu)⟩
theorem OvP.turned {b : Sb} {E : Int} {N : Nat} {V : List Value} {w w' : World} (h : OvP b E V w) (hR : TurnO b E N w w') : OvP b E V w' := by
 rcases hR with hb | ⟨g, V', _, hg, _, _, rfl⟩
 ·exact h.below hb
 ·exact ⟨h.len, h.one, h.nob, fun e => (h.ov e).stored hg⟩
theorem SetV.turned {b : Sb} {E : Int} {N : Nat} {v : Value} {w w' : World} (h : SetV b E v w) (hR : TurnO b E N w w') : SetV b E v w' := by
 obtain ⟨V, h1, h2, h3⟩ := h; exact ⟨V, h1, h2.turned hR, h3⟩
theorem SetA.turned {b : Sb} {E : Int} {N : Nat} {v : Value} {w w' : World} (h : SetA b E v w) (hR : TurnO b E N w w') : SetA b E v w' := by
 obtain ⟨V, h1, h2, h3⟩ := h; exact ⟨V, h1, h2.turned hR, h3⟩
theorem BlkO.turned {b : Sb} {E : Int} {N C : Nat} {w w' : World} (h : BlkO C w) (hR : TurnO b E N w w') : BlkO C w' := by
 rcases hR with hb | ⟨g, V', _, hg, _, hV, rfl⟩
 ·obtain ⟨cs, h1, h2, h3⟩ := h; exact ⟨cs, heap_kept h1 hb, h2, h3⟩
 ·by_cases e : C = g
  ·subst e; exact blkO_stored _ _ _ h hV
  ·obtain ⟨cs, h1, h2, h3⟩ := h; exact ⟨cs, (heap_stored e _ _ _).trans h1, h2, h3⟩
theorem NewO.turned {b : Sb} {E : Int} {N N' : Nat} {v : Value} {w w' : World} (h : NewO N v w) (hR : TurnO b E N' w w') : NewO N v w' := by
 obtain ⟨C, h1, h2, h3⟩ := h; exact ⟨C, h1, h2, h3.turned hR⟩
theorem StoM.turned {b : Sb} {E : Int} {N N' : Nat} {v : Value} {w w' : World} (h : StoM b E N v w) (hR : TurnO b E N' w w') : StoM b E N v w' := by
 obtain ⟨C, V, h1, h2, h3, h4⟩ := h; have h5 := h4.turned hR
 rcases hR with hb | ⟨g, V', _, hg, hO, hV, rfl⟩
 ·exact ⟨C, V, h1, h2, h3.below hb, h5⟩
 ·by_cases e : C = g
  ·subst e; obtain ⟨zs, hz, hr, hl⟩ := hg.row; exact ⟨C, V', h1, h2, row_cells (row_all hr (by rw [hz, hO.len])) (by rw [size_setCellsN]; exact hl), ⟨hO.len, hO.one, hO.nob, fun e => (hO.ov e).stored hg⟩⟩
  ·exact ⟨C, V, h1, h2, h3.stored e, h5⟩
theorem z12_noB : NoB (#[.int .i64 0, .int .i64 0, .int .i64 0, .int .i64 0, .int .i64 0, .int .i64 0, .int .i64 0, .slice none 0 0, .slice none 0 0, .slice none 0 0, .slice none 0 0, .int .u64 0] : Array Value).toList := olV_noB none 0 none 0 ⟨⟨0, 0, 0, 0, 0⟩, 0, 0, [], []⟩ none 0 0 none 0 0 0
section
variable (H : Option Addr) (hcap : Nat) (S : Option Addr) (scap : Nat) (b : Sb)
set_option maxRecDepth 100000 in
theorem pRight_any (w : World) (hM : SbAt w H S b) (hh : b.hours.length ≤ 9223372036854775807) (hss : b.sights.length ≤ 9223372036854775807) : Calls Tryd.prog 14 #[.agg (sbV H hcap S scap b).toArray] w fun e w' => e = .returned (.tuple #[.bool (b.ok && rtB b), .int .i64 (sbE b)]) ∧ Below w.heap.size w w' := by
 have C1 := hid fun (W : World) hW => pCheck_any H hcap S scap b W hW hh hss; have C2 := hid fun (hb : OkB b) (W : World) hW => prepared_any H hcap S scap b hb W hW; have C3 := hid fun (hb : OkB b) (P : Option Addr) (pcap : Nat) (W : World) (hW : HpsAt W P (hpsOf b)) => canBeTrue_any H hcap S scap b P pcap hb W hW; clear hh hss; refine En Tryd.func14 Tryd.ntmps14 fun a hE => ?_; refine Ks ?_; refine Rs 3 fun Q' K hK => ?_; refine M1 hE 0 fun K' J ρ q0 => ?_; go_simp; refine Ln hE J fun _ Eb => ?_; clear J K' hE a q0; refine M0 fun K' J ρ => ?_; go_simp; refine Ln Eb J fun _ Ea => ?_; clear J K' Eb; refine M0 fun K' J ρ => ?_; go_simp; refine Ln Ea J fun _ Eb => ?_; clear J K' Ea; refine Ld [1] Eb hK fun a hE => ?_; clear hK K Q' Eb; obtain ⟨B, hBe⟩ : ∃ B, B = w.heap.size := ⟨_, rfl⟩; have hnB : w.heap.size ≤ B := Nat.le_of_eq hBe.symm; rw [← hBe] at hE; refine world_cut (fun wt => Below w.heap.size w wt ∧ B < wt.heap.size ∧ Row wt B (sbV H hcap S scap b)) ⟨(Below.refl _ _).alloc (Nat.le_refl _) _, by rw [hBe]; simp, by rw [hBe]; exact row_new _ _ _⟩ (fun w1 hCut => ?_); obtain ⟨hbw1, hlB, hRB⟩ := hCut; clear hBe; have hM1 := hM.below hbw1; refine Ks ?_; refine Rs 3 fun Q' K hK => ?_; refine Lp fun K' J => ?_; have r1 := hE.at 1 rfl; refine wp_load_mid 29 (.tmp 1) rfl B 0 (eval_of r1) (sbV H hcap S scap b) _ (fun j u hu => by rw [Nat.zero_add]; exact (hRB j u hu).1) Tryd.underlying29 rfl (by kernel_rfl) ?_; (try clear r1); refine Ln hE J fun _ Eb => ?_; clear J K' hE a; refine M1 Eb 5 fun K' J ρ q5 => ?_; go_simp; (try go_bits); (try clear q5)
 go_at_call 16; refine (C1.out _ hM1).mono ?_; rintro e w2 ⟨rfl, h2⟩; (try clear r5); refine Ln Eb J fun _ Ea => ?_; clear J K' Eb; refine M1 Ea 6 fun K' J ρ q6 => ?_; go_simp; refine Ln Ea J fun _ Eb => ?_; clear J K' Ea q6; refine Ld [1, 4] Eb hK fun a hE => ?_; clear hK K Q' Eb; have hb2 := hbw1.trans (h2.mono hbw1.size); have hRB2 := hRB.below h2 hlB; have hM2 := hM1.below h2
 cases hok : b.ok
 ·have he : sbE b = 30 := by unfold sbE; rw [hok]; rfl
  rw [he] at hE; rw [he]; refine Ks ?_; refine Rs 2 fun Q' K hK => ?_; refine M1 hE 4 fun K' J ρ q4 => ?_; go_simp; refine Ln hE J fun _ Eb => ?_; clear J K' hE a q4; refine M1 Eb 7 fun K' J ρ q7 => ?_; go_simp; (try go_bits); refine Ln Eb J fun _ Ea => ?_; clear J K' Eb q7; refine Ld [1, 4, 8] Ea hK fun a hE => ?_; clear hK K Q' Ea; refine Ks ?_; refine cond_yes hE (t := 8) rfl ?_; refine Ks ?_; refine Rs 3 fun Q' K hK => ?_; refine M1 hE 4 fun K' J ρ q4 => ?_; go_simp; refine Ln hE J fun _ Eb => ?_; clear J K' hE a q4; refine M0 fun K' J ρ => ?_; go_simp; refine Ln Eb J fun _ Ea => ?_; clear J K' Eb; refine M1 Ea 9 fun K' J ρ q9 => ?_; go_simp; refine Ln Ea J fun _ Eb => ?_; clear J K' Ea q9; refine Ld [2, 3] Eb hK fun a hE => ?_; clear hK K Q' Eb; refine Ks ?_; exact ret_two hE rfl rfl rfl ⟨rfl, hb2⟩
 ·have he : sbE b = 0 := by unfold sbE; rw [hok]; rfl
  have hb := ok_iff.1 hok; rw [he] at hE; rw [he]; refine Ks ?_; refine Rs 2 fun Q' K hK => ?_; refine M1 hE 4 fun K' J ρ q4 => ?_; go_simp; refine Ln hE J fun _ Eb => ?_; clear J K' hE a q4; refine M1 Eb 7 fun K' J ρ q7 => ?_; go_simp; (try go_bits); refine Ln Eb J fun _ Ea => ?_; clear J K' Eb q7; replace Ea := Ea.turn 8 (v' := .bool false) rfl (by (first | rfl | simp)); refine Ld [1, 4, 8] Ea hK fun a hE => ?_; clear hK K Q' Ea; refine Ks ?_; refine cond_no hE (t := 8) rfl ?_; refine Ks ?_; refine Rs 5 fun Q' K hK => ?_; refine Lp fun K' J => ?_; have r1 := hE.at 1 rfl; refine wp_load_mid 29 (.tmp 1) rfl B 0 (eval_of r1) (sbV H hcap S scap b) _ (fun j u hu => by rw [Nat.zero_add]; exact (hRB2 j u hu).1) Tryd.underlying29 rfl (by kernel_rfl) ?_; (try clear r1); refine Ln hE J fun _ Eb => ?_; clear J K' hE a; refine M1 Eb 10 fun K' J ρ q10 => ?_; go_simp; (try go_bits); (try clear q10); go_at_call 55; refine (C2.out hb _ hM2).mono ?_; rintro e w3 ⟨⟨P, pc, rfl, hP⟩, h3⟩; (try clear r10); refine Ln Eb J fun _ Ea => ?_; clear J K' Eb; refine M1 Ea 11 fun K' J ρ q11 => ?_; go_simp; (try go_bits); (try clear q11); go_at_call 56; refine (C3.out hb P pc _ hP.at).mono ?_; rintro e w4 ⟨rfl, h4⟩; (try clear r11); refine Ln Ea J fun _ Eb => ?_; clear J K' Ea; refine M1 Eb 12 fun K' J ρ q12 => ?_; go_simp; refine Ln Eb J fun _ Ea => ?_; clear J K' Eb q12; refine M0 fun K' J ρ => ?_; go_simp; refine Ln Ea J fun _ Eb => ?_; clear J K' Ea; refine Ld [2, 3] Eb hK fun a hE => ?_; clear hK K Q' Eb
  have h34 := h3.trans (h4.mono h3.size); have hb4 := hb2.trans (h34.mono hb2.size); refine Ks ?_; exact ret_two hE rfl rfl rfl ⟨by rw [Bool.true_and], hb4⟩
set_option maxRecDepth 100000 in
theorem pWrong_any (w : World) (hM : SbAt w H S b) (hh : b.hours.length ≤ 9223372036854775807) (hss : b.sights.length ≤ 9223372036854775807) : Calls Tryd.prog 32 #[.agg (sbV H hcap S scap b).toArray] w fun e w' => (∃ T c, e = .returned (.tuple #[.slice T (if b.ok then wroB b else []).length c, .int .i64 (sbE b)]) ∧ ArrD w' T (nats (if b.ok then wroB b else []))) ∧ Below w.heap.size w w' := by
 have C1 := hid fun (W : World) hW => pCheck_any H hcap S scap b W hW hh hss; have C2 := hid fun (hb : OkB b) (W : World) hW => prepared_any H hcap S scap b hb W hW; have C3 := hid fun (hb : OkB b) (P : Option Addr) (n pcap : Nat) (W : World) hW => wrong_any H hcap S scap b P n pcap hb W hW; clear hh hss; refine En Tryd.func32 Tryd.ntmps32 fun a hE => ?_; refine Ks ?_; refine Rs 3 fun Q' K hK => ?_; refine M1 hE 0 fun K' J ρ q0 => ?_; go_simp; refine Ln hE J fun _ Eb => ?_; clear J K' hE a q0; refine M0 fun K' J ρ => ?_; go_simp; refine Ln Eb J fun _ Ea => ?_; clear J K' Eb; refine M0 fun K' J ρ => ?_; go_simp; refine Ln Ea J fun _ Eb => ?_; clear J K' Ea; refine Ld [1] Eb hK fun a hE => ?_; clear hK K Q' Eb; obtain ⟨B, hBe⟩ : ∃ B, B = w.heap.size := ⟨_, rfl⟩; have hnB : w.heap.size ≤ B := Nat.le_of_eq hBe.symm; rw [← hBe] at hE; refine world_cut (fun wt => Below w.heap.size w wt ∧ B < wt.heap.size ∧ Row wt B (sbV H hcap S scap b)) ⟨(Below.refl _ _).alloc (Nat.le_refl _) _, by rw [hBe]; simp, by rw [hBe]; exact row_new _ _ _⟩ (fun w1 hCut => ?_); obtain ⟨hbw1, hlB, hRB⟩ := hCut; clear hBe; have hM1 := hM.below hbw1; refine Ks ?_; refine Rs 3 fun Q' K hK => ?_; refine Lp fun K' J => ?_; have r1 := hE.at 1 rfl; refine wp_load_mid 29 (.tmp 1) rfl B 0 (eval_of r1) (sbV H hcap S scap b) _ (fun j u hu => by rw [Nat.zero_add]; exact (hRB j u hu).1) Tryd.underlying29 rfl (by kernel_rfl) ?_; (try clear r1); refine Ln hE J fun _ Eb => ?_; clear J K' hE a; refine M1 Eb 5 fun K' J ρ q5 => ?_; go_simp; (try go_bits); (try clear q5)
 go_at_call 16; refine (C1.out _ hM1).mono ?_; rintro e w2 ⟨rfl, h2⟩; (try clear r5); refine Ln Eb J fun _ Ea => ?_; clear J K' Eb; refine M1 Ea 6 fun K' J ρ q6 => ?_; go_simp; refine Ln Ea J fun _ Eb => ?_; clear J K' Ea q6; refine Ld [1, 4] Eb hK fun a hE => ?_; clear hK K Q' Eb; have hb2 := hbw1.trans (h2.mono hbw1.size); have hRB2 := hRB.below h2 hlB; have hM2 := hM1.below h2
 cases hok : b.ok
 ·have he : sbE b = 30 := by unfold sbE; rw [hok]; rfl
  rw [he] at hE; rw [he, if_neg (by decide)]; refine Ks ?_; refine Rs 2 fun Q' K hK => ?_; refine M1 hE 4 fun K' J ρ q4 => ?_; go_simp; refine Ln hE J fun _ Eb => ?_; clear J K' hE a q4; refine M1 Eb 7 fun K' J ρ q7 => ?_; go_simp; (try go_bits); refine Ln Eb J fun _ Ea => ?_; clear J K' Eb q7; refine Ld [1, 4, 8] Ea hK fun a hE => ?_; clear hK K Q' Ea; refine Ks ?_; refine cond_yes hE (t := 8) rfl ?_; refine Ks ?_; refine Rs 3 fun Q' K hK => ?_; refine M1 hE 4 fun K' J ρ q4 => ?_; go_simp; refine Ln hE J fun _ Eb => ?_; clear J K' hE a q4; refine M0 fun K' J ρ => ?_; go_simp; refine Ln Eb J fun _ Ea => ?_; clear J K' Eb; refine M1 Ea 9 fun K' J ρ q9 => ?_; go_simp; refine Ln Ea J fun _ Eb => ?_; clear J K' Ea q9; refine Ld [2, 3] Eb hK fun a hE => ?_; clear hK K Q' Eb; refine Ks ?_; exact ret_two hE rfl rfl rfl ⟨⟨none, 0, rfl, fun h => absurd rfl h⟩, hb2⟩
 ·have he : sbE b = 0 := by unfold sbE; rw [hok]; rfl
  have hb := ok_iff.1 hok; rw [he] at hE; rw [he, if_pos rfl]; refine Ks ?_; refine Rs 2 fun Q' K hK => ?_; refine M1 hE 4 fun K' J ρ q4 => ?_; go_simp; refine Ln hE J fun _ Eb => ?_; clear J K' hE a q4; refine M1 Eb 7 fun K' J ρ q7 => ?_; go_simp; (try go_bits); refine Ln Eb J fun _ Ea => ?_; clear J K' Eb q7; replace Ea := Ea.turn 8 (v' := .bool false) rfl (by (first | rfl | simp)); refine Ld [1, 4, 8] Ea hK fun a hE => ?_; clear hK K Q' Ea; refine Ks ?_; refine cond_no hE (t := 8) rfl ?_; refine Ks ?_; refine Rs 5 fun Q' K hK => ?_; refine Lp fun K' J => ?_; have r1 := hE.at 1 rfl; refine wp_load_mid 29 (.tmp 1) rfl B 0 (eval_of r1) (sbV H hcap S scap b) _ (fun j u hu => by rw [Nat.zero_add]; exact (hRB2 j u hu).1) Tryd.underlying29 rfl (by kernel_rfl) ?_; (try clear r1); refine Ln hE J fun _ Eb => ?_; clear J K' hE a; refine M1 Eb 10 fun K' J ρ q10 => ?_; go_simp; (try go_bits); (try clear q10); go_at_call 55; refine (C2.out hb _ hM2).mono ?_; rintro e w3 ⟨⟨P, pc, rfl, hP⟩, h3⟩; (try clear r10); refine Ln Eb J fun _ Ea => ?_; clear J K' Eb; refine M1 Ea 11 fun K' J ρ q11 => ?_; go_simp; (try go_bits); (try clear q11); go_at_call 75; refine (C3.out hb P _ pc _ (hM2.below h3)).mono ?_; rintro e w4 ⟨⟨T, c4, rfl, hT⟩, h4⟩; (try clear r11); refine Ln Ea J fun _ Eb => ?_; clear J K' Ea; refine M1 Eb 12 fun K' J ρ q12 => ?_; go_simp; refine Ln Eb J fun _ Ea => ?_; clear J K' Eb q12; refine M0 fun K' J ρ => ?_; go_simp; refine Ln Ea J fun _ Eb => ?_; clear J K' Ea; refine Ld [2, 3] Eb hK fun a hE => ?_; clear hK K Q' Eb
  have h34 := h3.trans (h4.mono h3.size); have hb4 := hb2.trans (h34.mono hb2.size); refine Ks ?_; exact ret_two hE rfl rfl rfl ⟨⟨T, c4, rfl, hT⟩, hb4⟩
end
end Go.Proofs.YtkhmcofmjjmjhaaDoor
