/- Slope: stores of a book into a new block, told by the type of the block. -/
import Derived.Test.YtkhmcofmjjmjhaaDoorSck
import Derived.Test.YtkhmcofmjjmjhaaDoorRs
namespace Go.Proofs.YtkhmcofmjjmjhaaDoor
set_option linter.unusedSimpArgs false
set_option linter.unusedVariables false
open Go Go.RowKit
attribute [local go_sem high] cell_set_wr
attribute [local go_sem low] cell_wr frozen_wr
attribute [local go_sem] wr_set wr_drew wr_drewN wr_alloc wr_new Rho.c Rho.n Rho.g

theorem run_appZ0 {P : Program} {w : World} (t ty e : TypeId) (i : TypeInfo) (ht : P.underlying t = some (.slice e)) (hi : P.info? e = some i) (g : Addr) (A : Option Addr) (c : Nat) : (Builtin.append_ #[t, t] ty #[.slice (some g) 0 0, .slice A 0 c]).run P w = .ok (.slice (some g) 0 0) w := by
 cases A with
 | none => simp [Builtin.append_, run_underlying ht, sizeOf, typeInfo, hi, Builtin.lenOf, Builtin.firstCells, storeCells]
 | some a =>
  have hf := run_firstCells_some (P := P) w i.size 0 a 0 c [] (by simp) (fun j u h => by simp at h)
  simp [Builtin.append_, run_underlying ht, sizeOf, typeInfo, hi, Builtin.lenOf, hf, storeCells]
theorem own_base {w : World} {b b' : Nat} {e : TypeId} {size : Nat} {v : Value} {n : Nat} {xs : List Value} (h : w.ownsRow b e size v n xs) (hb : b' ≤ b) : w.ownsRow b' e size v n xs :=
 ⟨h.1, h.2.imp id fun ⟨g, cap, cur, e1, e2, r⟩ => ⟨g, cap, cur, e1, Nat.le_trans hb e2, r⟩⟩
/-- elements that came in, appended to a new list -/
theorem wp_appZ {P : Program} {o : Oper} {a : Act} {K : Act → World → Prop} {Q : Exit → Act → World → Prop} {w : World} (s x : Operand) (t : TypeId) (ho : o.op = .call { callee := .builtin .append, args := #[s, x], argTypes := #[t, t] })
    (e : TypeId) (z : Value) (size bytes : Nat) (ht : P.underlying t = some (.slice e)) (hi : (P.info? e).map (fun i => (i.zero, i.size, i.bytes)) = some (some z, size, bytes)) (hzs : z.cells.size = size) (hsz : 0 < size)
    (base g : Nat) (hs : a.eval s = .slice (some ⟨g, 0, none⟩) 0 0) (hown : w.ownsRow base e size (.slice (some ⟨g, 0, none⟩) 0 0) 0 [])
    (A : Option Addr) (m c : Nat) (news : List Value) (hx : a.eval x = .slice A m c) (hA : ArrD w A news) (hl : news.length = m * size) (h1 : ∀ u ∈ news, u.oneCell' = true) (h63 : m ≤ maxLen) (hbytes : m * bytes ≤ 140737488355328) (hbase : base ≤ w.heap.size)
    (h : ∀ A' c' w', w'.ownsRow base e size (.slice A' m c') m news → Below w.heap.size w w' → K (a.put o.dst (.slice A' m c')) w') : o.wp P a w K Q := by
 obtain ⟨i0, hi0, hz0, hz1, hz2⟩ := info_parts hi
 have fin : ∀ A' c' w', (Builtin.append_ #[t, t] o.type #[.slice (some ⟨g, 0, none⟩) 0 0, .slice A m c]).run P w = .ok (.slice A' m c') w' → w'.ownsRow base e size (.slice A' m c') m news → Below w.heap.size w w' → o.wp P a w K Q := fun A' c' w' hr h2 h3 => by
  unfold Oper.wp execOp
  simp only [ho, resolve, invoke, builtin, Sem.run_bind, Sem.run_pure, Result.andThen_ok, List.map_toArray, List.map_cons, List.map_nil, hs, hx, hr]
  exact h A' c' w' h2 h3
 by_cases hm : m = 0
 ·subst hm
  have hn : news = [] := List.eq_nil_of_length_eq_zero (by simpa using hl)
  subst hn
  exact fin _ _ _ (run_appZ0 t o.type e i0 ht hi0 _ A c) hown (Below.refl _ _)
 ·have hne : news ≠ [] := fun e => by
   subst e
   have := Nat.mul_pos (Nat.pos_of_ne_zero hm) hsz
   simp at hl
   omega
  obtain ⟨b, o', rfl, _, hc⟩ := hA hne
  obtain ⟨v', w', hrun, r1, r2⟩ := run_append_arg_grows (P := P) w t o.type e i0 z size bytes ht hi0 hz0 hz1 hz2 hzs hsz ⟨g, 0, none⟩ 0 0 [] (by simp) (fun j u hu => by simp at hu) ⟨b, o', none⟩ m c news hl (fun j u hu => by
   have hadd : Addr.add ⟨b, o', none⟩ j = ⟨b, o' + j, none⟩ := by unfold Addr.add; split <;> simp_all
   rw [hadd]; exact hc j u hu) (by omega) (by omega) (by simpa using hbytes)
  rw [Nat.zero_add, List.nil_append] at r1
  obtain ⟨g', cap, rfl, _, _, _, _, _, _⟩ := own_new r1 (by omega)
  exact fin _ _ _ hrun (own_base r1 hbase) ((Below.refl _ _).grown r2 (Nat.le_refl _) (fun k e => by cases e))
theorem box2_row (w : World) (a b c : Array Value) (ta tb tc : TypeId) : Below w.heap.size w (((w.alloc (.cells a ta)).alloc (.cells b tb)).alloc (.cells c tc)) ∧ Cells (((w.alloc (.cells a ta)).alloc (.cells b tb)).alloc (.cells c tc)) w.heap.size a.toList ∧ Cells (((w.alloc (.cells a ta)).alloc (.cells b tb)).alloc (.cells c tc)) (w.heap.size + 1) b.toList ∧
    w.heap.size + 1 + 1 < (((w.alloc (.cells a ta)).alloc (.cells b tb)).alloc (.cells c tc)).heap.size ∧ Row (((w.alloc (.cells a ta)).alloc (.cells b tb)).alloc (.cells c tc)) (w.heap.size + 1 + 1) c.toList := by
 obtain ⟨h1, h2, h3, _⟩ := cells_three w a b c ta tb tc
 refine ⟨h1, h2, h3, by simp, ?_⟩
 have h := row_new ((w.alloc (.cells a ta)).alloc (.cells b tb)) c tc
 rwa [World.size_alloc, World.size_alloc] at h
theorem sis_one (l : List Si) (u : Value) (h : u ∈ sis l) : u.oneCell' = true := by
 obtain ⟨s, _, h⟩ := List.mem_flatMap.1 h
 simp [Si.cells] at h
 rcases h with rfl | rfl | rfl | rfl <;> rfl
theorem cells_one (s : Si) (u : Value) (h : u ∈ s.cells) : u.oneCell' = true := by
 simp [Si.cells] at h
 rcases h with rfl | rfl | rfl | rfl <;> rfl
section
variable (H : Option Addr) (hcap : Nat) (S : Option Addr) (scap : Nat) (b : Sb)
set_option maxRecDepth 100000 in
set_option maxHeartbeats 2000000 in
theorem with_own (h6 : b.sights.length ≤ 1000) (x : Si) (w : World) (hM : SbAt w H S b) :
    Calls Tryd.prog 45 #[.agg (sbV H hcap S scap b).toArray, .agg x.cells.toArray] w fun e w' => (∃ A' c', e = .returned (.agg (sbV H hcap A' c' (withS b x)).toArray) ∧ w'.ownsRow w.heap.size 68 4 (.slice A' (withS b x).sights.length c') (withS b x).sights.length (sis (withS b x).sights)) ∧ Below w.heap.size w w' := by
 refine enterE Tryd.func45 rfl Tryd.ntmps45 (by simp) (fun a hE => ?_); simp only [envOf, Nat.zero_add, Nat.reduceAdd] at hE
 refine Ks ?_
 refine Rs 3 fun Q' K hK => ?_
 refine M1 hE 0 fun K' J ρ q0 => ?_; go_simp; (try clear q0)
 refine Ln hE J fun _ Eb => ?_; clear J K' hE a
 refine M1 Eb 1 fun K' J ρ q1 => ?_; go_simp; (try clear q1)
 refine Ln Eb J fun _ Ea => ?_; clear J K' Eb
 refine M0 fun K' J ρ => ?_; go_simp;
 refine Ln Ea J fun _ Eb => ?_; clear J K' Ea
 refine late_done [2, 3, 4] Eb hK (fun a hE => ?_); clear hK K Q' Eb; simp only [lk, pick, Nat.reduceEqDiff, ↓reduceIte] at hE
 obtain ⟨B, hB⟩ : ∃ B, B = w.heap.size := ⟨_, rfl⟩
 obtain ⟨X, hX⟩ : ∃ B, B = w.heap.size + 1 := ⟨_, rfl⟩
 obtain ⟨R, hR⟩ : ∃ B, B = w.heap.size + 1 + 1 := ⟨_, rfl⟩
 try rw [← hR] at hE
 rw [← hX, ← hB] at hE
 refine world_cut (fun wt => Below w.heap.size w wt ∧ Cells wt B (sbV H hcap S scap b) ∧ Cells wt X x.cells ∧ RowD wt R 9) ?_ (fun w1 hC => ?_)
 ·rw [hB, hX, hR]; obtain ⟨q1, q2, q3, q4, q5⟩ := box2_row w (sbV H hcap S scap b).toArray x.cells.toArray #[.int .i64 0, .int .i64 0, .int .i64 0, .int .i64 0, .int .i64 0, .int .i64 0, .int .i64 0, .slice none 0 0, .slice none 0 0] 29 68 29; exact ⟨q1, q2, q3, q4, _, rfl, q5⟩
 obtain ⟨hbw1, hCB, hCX, hRD⟩ := hC
 have hnR : w.heap.size ≤ R := by omega
 have hM1 := hM.below hbw1
 clear hB hX hR
 refine Ks ?_
 refine Rs 3 fun Q' K hK => ?_
 refine Lp fun K' J => ?_
 have r2 := hE.at 2 rfl
 refine wp_load_mid 29 (.tmp 2) rfl B 0 (eval_of r2) (sbV H hcap S scap b) _ (fun j u hu => by rw [Nat.zero_add]; exact hCB.2 j u hu) Tryd.underlying29 rfl (by kernel_rfl) ?_
 (try clear r2)
 refine Ln hE J fun _ Eb => ?_; clear J K' hE a
 refine M0 fun K' J ρ => ?_; go_simp;
 refine Ln Eb J fun _ Ea => ?_; clear J K' Eb
 refine Lp fun K' J => ?_
 have r5 := Ea.at 5 rfl; have r6 := Ea.at 6 rfl
 refine wp_store_mid 29 (.tmp 5) (.tmp 6) rfl w1.heap.size 0 (sbV H hcap S scap b).toArray (eval_of r5) (eval_of r6) (there_row (row_new w1 _ _) (Nat.le_of_eq rfl)) (by kernel_rfl) (by kernel_rfl) ?_
 (try clear r5 r6)
 refine late_skip Ea J (fun _ Eb => ?_); clear J K'; clear Ea
 refine late_done [2, 3, 4, 5] Eb hK (fun a hE => ?_); clear hK K Q' Eb; simp only [lk, pick, Nat.reduceEqDiff, ↓reduceIte] at hE
 obtain ⟨Q, hQ⟩ : ∃ B, B = w1.heap.size := ⟨_, rfl⟩
 rw [← hQ] at hE
 have hnQ : w1.heap.size ≤ Q := Nat.le_of_eq hQ.symm
 refine world_cut (fun wt => Below w1.heap.size w1 wt ∧ Q < wt.heap.size ∧ Row wt Q (sbV H hcap S scap b)) ?_ (fun w2 hCut => ?_)
 ·rw [hQ]; have q := boxed_new w1 #[.int .i64 0, .int .i64 0, .int .i64 0, .int .i64 0, .int .i64 0, .int .i64 0, .int .i64 0, .slice none 0 0, .slice none 0 0] 29 (sbV H hcap S scap b) rfl; exact ⟨q.1, q.2.1, row_all (row_new w1 #[.int .i64 0, .int .i64 0, .int .i64 0, .int .i64 0, .int .i64 0, .int .i64 0, .int .i64 0, .slice none 0 0, .slice none 0 0] 29) rfl⟩
 obtain ⟨h2, hlQ, hRQ⟩ := hCut
 have hCB2 := hCB.below h2
 have c8 := hCB2.2 8 _ rfl
 have nB := hCB2.1
 have hCX2 := hCX.below h2
 have hS2 := (hM1.below h2).2
 clear hQ
 have hbw2 := hbw1.trans (h2.mono hbw1.size)
 refine Ks ?_
 refine Rd [6, 7, 8] (fun wt => Below w2.heap.size w2 wt) (fun w1 w2 => Below w1.heap.size w1 w2) [(0, some 7), (1, some 8), (2, some 9), (3, some 10), (4, some 11), (5, some 12)] [7, 8, 9, 10, 11, 12] #[true, true, true, true, true, true, false, false, false] [4, 5] hE ((Below.refl _ _).drew) fun Q' K hK => ?_
 refine SeqOps.say (fun v wt => ∃ g, v = .slice (some ⟨g, 0, none⟩) 0 0 ∧ wt.ownsRow (Q + 1) 68 4 v 0 []) (fun _ _ _ hR ⟨g, e, h⟩ => ⟨g, e, own_below h hR⟩) (Sp fun ax wx hS hT' hd K' J => ?_) ?_
 ·obtain ⟨hcT, hfT, hlT, hmT, hwT, hzT⟩ := bT hT'
  refine o0 fun ρ => ?_; go_simp;
  refine J.out _ _ _ rfl ⟨_, rfl, World.ownsRow_lit wx #[] 0 (by have := hT'.size; omega) (by decide) rfl⟩ (hT'.trans (((Below.refl _ _).alloc (Nat.le_refl _) _).mono hT'.size)) ((Below.refl _ _).alloc (Nat.le_refl _) _)
 refine SeqOps.val ?_ (Sp fun ax wx hS hT' hd K' J => ?_) ?_; rotate_left 1
 ·have r2 := hS.at 2 (by decide) (hE.at 2 rfl); obtain ⟨hcT, hfT, hlT, hmT, hwT, hzT⟩ := bT hT'
  refine o1 r2 fun ρ q2 => ?_; go_simp;
  exact Jo J hT'
 refine SeqOps.val ?_ (Sp fun ax wx hS hT' hd K' J => ?_) ?_; rotate_left 1
 ·have r8 := Tv hd 0 1 8; obtain ⟨hcT, hfT, hlT, hmT, hwT, hzT⟩ := bT hT'
  refine o1 r8 fun ρ q8 => ?_; go_simp;
  exact Jo J hT'
 refine SeqOps.say (fun v wt => ∃ A c, v = .slice A b.sights.length c ∧ wt.ownsRow (Q + 1) 68 4 v b.sights.length (sis b.sights)) (fun _ _ _ hR ⟨A, c, e, h⟩ => ⟨A, c, e, own_below h hR⟩) (Sp fun ax wx hS hT' hd K' J => ?_) ?_
 ·obtain ⟨v7, r7, h7⟩ := Tg hd 2 0 7; obtain ⟨g7, rfl, hO7⟩ := h7; have r9 := Tv hd 0 2 9; obtain ⟨hcT, hfT, hlT, hmT, hwT, hzT⟩ := bT hT'
  refine wp_appZ (.tmp 7) (.tmp 9) 27 rfl 68 (.agg #[.int .i64 0, .bool false, .int .i64 0, .int .i64 0]) 4 32 Tryd.underlying27 (by kernel_rfl) rfl (by decide) (Q + 1) g7 (eval_of r7) hO7 S b.sights.length scap (sis b.sights) (eval_of r9) (hS2.below hT') (sis_length _) (sis_one _) (by simp only [maxLen]; omega) (by omega) (by have := hT'.size; omega) (fun A' c' w' q1 q2 => ?_)
  exact J.out _ _ _ rfl ⟨A', c', rfl, q1⟩ (hT'.trans (q2.mono hT'.size)) q2
 refine SeqOps.val ?_ (Sp fun ax wx hS hT' hd K' J => ?_) ?_; rotate_left 1
 ·have r3 := hS.at 3 (by decide) (hE.at 3 rfl); obtain ⟨hcT, hfT, hlT, hmT, hwT, hzT⟩ := bT hT'
  refine wp_load_mid 68 (.tmp 3) rfl X 0 (eval_of r3) x.cells _ (fun j u hu => by rw [Nat.zero_add]; exact (hCX2.below hT').2 j u hu) Tryd.underlying68 rfl (by kernel_rfl) ?_
  refine J.out _ _ _ rfl ?_ hT' (Below.refl _ _); rfl
 refine SeqOps.say (fun v wt => ∃ G, v = .slice (some ⟨G, 0, none⟩) 1 1 ∧ ArrD wt (some ⟨G, 0, none⟩) x.cells) (fun _ _ _ hR ⟨G, e, h⟩ => ⟨G, e, h.below hR⟩) (Sp fun ax wx hS hT' hd K' J => ?_) ?_
 ·have r11 := Tv hd 0 4 11; obtain ⟨hcT, hfT, hlT, hmT, hwT, hzT⟩ := bT hT'
  refine o1 r11 fun ρ q11 => ?_; go_simp;
  refine J.out _ _ _ rfl ⟨_, rfl, (arr_new wx _ _).more (by simp)⟩ (hT'.trans (((Below.refl _ _).alloc (Nat.le_refl _) _).mono hT'.size)) ((Below.refl _ _).alloc (Nat.le_refl _) _)
 refine SeqOps.nil ?_
 intro w3 hBm; (refine fun v h => ?_; obtain ⟨g7, rfl, hO7⟩ := h); (repeat refine Ek ?_); (refine fun v h => ?_; obtain ⟨A3, c3, rfl, hO3⟩ := h); (repeat refine Ek ?_); (refine fun v h => ?_; obtain ⟨G, rfl, hG⟩ := h);
 refine fun amx hEmx => ?_
 simp only [lk, pick, Nat.reduceEqDiff, ↓reduceIte] at hEmx
 refine Lp fun K' J => ?_
 have r10 := hEmx.at 10 rfl; have r12 := hEmx.at 12 rfl
 have hRQ3 := hRQ.below hBm hlQ
 have hlQ3 := Nat.lt_of_lt_of_le hlQ hBm.size
 refine wp_appN (.tmp 10) (.tmp 12) 27 rfl (Q + 1) 68 (.agg #[.int .i64 0, .bool false, .int .i64 0, .int .i64 0]) 4 32 Tryd.underlying27 (by kernel_rfl) rfl (by decide) _ _ _ (eval_of r10) hO3 w3.heap.size (some ⟨G, 0, none⟩) 1 1 x.cells (eval_of r12) hG rfl (cells_one x) (by simp only [maxLen]; omega) (by omega) (by omega) (fun A2 c2 w4 q1 q2 q3 q4 q5 => ?_)
 have hlow : Below (Q + 1) w3 w4 := (Below.refl (Q + 1) w3).grown q4 (by omega) (fun k e => ownBlock_le hO3 k e)
 have hRQ4 := row_of_block hRQ3 (hlow.block Q (by omega))
 have y8 := (hRQ4 8 _ rfl).2
 (try clear r10 r12)
 refine Ln hEmx J fun am_1 hEm_1 => ?_; clear J K' hEmx
 refine M1 hEm_1 5 fun K' J ρ q5 => ?_; go_simp; (try clear q5)
 refine Ln hEm_1 J fun am_2 hEm_2 => ?_; clear J K' hEm_1
 refine M2 hEm_2 14 13 fun K' J ρ q14 q13 => ?_; go_simp; (try clear q14 q13)
 refine late_skip hEm_2 J (fun am_3 hEm_3 => ?_); clear J K'; clear hEm_2
 refine late_done [4, 5] hEm_3 hK (fun a hE => ?_); clear hK K Q' hEm_3; simp only [lk, pick, Nat.reduceEqDiff, ↓reduceIte] at hE
 have hbw3 := hbw2.trans (hBm.mono hbw2.size)
 have hb4 : Below w.heap.size w w4 := (hbw1.trans (h2.mono hbw1.size)).trans ((hBm.mono (Nat.le_trans hbw1.size h2.size)).trans (hlow.mono (by have := hbw1.size; omega)))
 have hb14 : Below w1.heap.size w1 w4 := h2.trans ((hBm.mono h2.size).trans (hlow.mono (by omega)))
 have hsis : sis b.sights ++ x.cells = sis (withS b x).sights := by simp [withS, sis]
 rw [hsis] at q3
 have hlen : b.sights.length + 1 = (withS b x).sights.length := by simp [withS]
 have hRQ5 : Row (w4.setCell ⟨Q, 8, none⟩ (.slice A2 (b.sights.length + 1) c2)) Q (sbV H hcap A2 c2 (withS b x)) := by have := hRQ4.set (o := 8) (v := .slice A2 (b.sights.length + 1) c2) (by simp [sbV]); rw [hlen] at this ⊢; exact this
 have hO5 := own_of_block q3 (w' := w4.setCell ⟨Q, 8, none⟩ (.slice A2 (b.sights.length + 1) c2)) (by simp) (fun g hg => Below.heap_setCell _ _ _ _ (by have := ownBlock_le q3 g hg; simp only; omega))
 refine world_cut (fun wt => Below w.heap.size w wt ∧ Q < wt.heap.size ∧ Row wt Q (sbV H hcap A2 c2 (withS b x)) ∧ RowD wt R 9 ∧ wt.ownsRow (Q + 1) 68 4 (.slice A2 (b.sights.length + 1) c2) (b.sights.length + 1) (sis (withS b x).sights)) ⟨hb4.setCell (by have := hbw1.size; simp only; omega) _, by simp only [World.size_setCell]; have := hlow.size; omega, hRQ5, hRD.below (hb14.setCell hnQ _), hO5⟩ (fun w5 hS5 => ?_)
 obtain ⟨hb5, hlQ5, hrQ, hRD5, hO⟩ := hS5
 obtain ⟨hlR, zs, hzs, hRR⟩ := hRD5
 have hRQne : R ≠ Q := by have := hRD.1; omega
 clear y8 q1 q2 q3 q4 q5 hRQ3 hRQ4 hRQ5 hO5 hlow hb4 hb14 c8 nB
 refine Ks ?_
 refine Rs 2 fun Q' K hK => ?_
 refine Lp fun K' J => ?_
 have r5 := hE.at 5 rfl
 refine wp_load_mid 29 (.tmp 5) rfl Q 0 (eval_of r5) (sbV H hcap A2 c2 (withS b x)) _ (fun j u hu => by rw [Nat.zero_add]; exact (hrQ j u hu).1) Tryd.underlying29 rfl (by kernel_rfl) ?_
 (try clear r5)
 refine Ln hE J fun _ Eb => ?_; clear J K' hE a
 refine Lp fun K' J => ?_
 have r4 := Eb.at 4 rfl; have r15 := Eb.at 15 rfl
 refine wp_store_mid 29 (.tmp 4) (.tmp 15) rfl R 0 (sbV H hcap A2 c2 (withS b x)).toArray (eval_of r4) (eval_of r15) (there_row hRR (by rw [hzs]; exact Nat.le_refl _)) (by kernel_rfl) (by kernel_rfl) ?_
 (try clear r4 r15)
 refine late_skip Eb J (fun _ Ea => ?_); clear J K'; clear Eb
 refine late_done [4] Ea hK (fun a hE => ?_); clear hK K Q' Ea; simp only [lk, pick, Nat.reduceEqDiff, ↓reduceIte] at hE
 obtain ⟨q1, q2, q3, q4⟩ := cells_stored hRR (vs := sbV H hcap A2 c2 (withS b x)) (by rw [hzs]; rfl) hlR hnR hb5
 refine world_cut (fun wt => Cells wt R (sbV H hcap A2 c2 (withS b x)) ∧ Below w.heap.size w wt ∧ wt.ownsRow w.heap.size 68 4 (.slice A2 (withS b x).sights.length c2) (withS b x).sights.length (sis (withS b x).sights)) ⟨q1, q2, ?_⟩ (fun w9 hCut => ?_)
 ·rw [← hlen]; exact own_base (own_of_block hO (by rw [q4]; exact Nat.le_refl _) (fun g hg => q3 g (by have := ownBlock_le hO g hg; have := hRD.1; omega))) (by have := hbw1.size; omega)
 obtain ⟨hC9, hb9, hH9⟩ := hCut
 refine Ks ?_
 exact ret_cell hE rfl rfl hC9.2 Tryd.underlying29 rfl (by kernel_rfl) ⟨⟨A2, c2, rfl, hH9⟩, hb9⟩
theorem with_any (h6 : b.sights.length ≤ 1000) (x : Si) (w : World) (hM : SbAt w H S b) :
    Calls Tryd.prog 45 #[.agg (sbV H hcap S scap b).toArray, .agg x.cells.toArray] w fun e w' => (∃ A' c', e = .returned (.agg (sbV H hcap A' c' (withS b x)).toArray) ∧ SbAt w' H A' (withS b x)) ∧ Below w.heap.size w w' :=
 (with_own H hcap S scap b h6 x w hM).mono (by
  rintro _ _ ⟨⟨A, c, rfl, h1⟩, h2⟩
  exact ⟨⟨A, c, rfl, hM.1.below h2, own_arr h1⟩, h2⟩)
end

/-- a block of n cells, of a type -/
def BlkT (T : TypeId) (n C : Nat) (w : World) : Prop := ∃ cs : Array Value, w.heap[C]? = some (.cells cs T) ∧ cs.size = n
def NewT (T : TypeId) (n N : Nat) (v : Value) (wt : World) : Prop := ∃ C, v = .pointer (some ⟨C, 0, none⟩) ∧ N ≤ C ∧ BlkT T n C wt
/-- new memory, or a store of what is known into such a block -/
def TurnT (T : TypeId) (n N : Nat) (P : List Value → World → Prop) (w w' : World) : Prop := Below w.heap.size w w' ∨ ∃ g vs, N ≤ g ∧ BlkT T n g w ∧ vs.length = n ∧ P vs w ∧ w' = w.setCells g 0 vs
def StoT (N : Nat) (P : List Value → World → Prop) (v : Value) (wt : World) : Prop := ∃ C vs, v = .pointer (some ⟨C, 0, none⟩) ∧ N ≤ C ∧ Cells wt C vs ∧ P vs wt
/-- what is known stays so -/
structure StayP (T : TypeId) (n : Nat) (P : List Value → World → Prop) : Prop where
 below : ∀ vs w w', Below w.heap.size w w' → P vs w → P vs w'
 stored : ∀ vs w g us, BlkT T n g w → P vs w → P vs (w.setCells g 0 us)
section
variable {T : TypeId} {n N : Nat} {P : List Value → World → Prop} {w w' : World}
theorem TurnT.of (h : Below w.heap.size w w') : TurnT T n N P w w' := .inl h
theorem TurnT.refl : TurnT T n N P w w := .inl (Below.refl _ _)
theorem TurnT.size (h : TurnT T n N P w w') : w.heap.size ≤ w'.heap.size := by
 rcases h with h | ⟨g, vs, _, _, _, _, rfl⟩
 ·exact h.size
 ·rw [size_setCellsN]; exact Nat.le_refl _
theorem blkT_stored {C : Nat} : ∀ (vs : List Value) (o : Nat) (w : World), BlkT T n C w → BlkT T n C (w.setCells C o vs)
 | [], _, _, h => h
 | v :: r, o, w, ⟨cs, h1, h2⟩ => by
  unfold World.setCells
  exact blkT_stored r (o + 1) _ ⟨cs.setIfInBounds o v, by simp [World.setCell, Array.getElem?_modify, h1], by simpa using h2⟩
theorem BlkT.row {C : Nat} (h : BlkT T n C w) : ∃ zs : List Value, zs.length = n ∧ Row w C zs ∧ C < w.heap.size := by
 obtain ⟨cs, h1, h2⟩ := h
 exact ⟨cs.toList, by simpa using h2, Blk.row (N := 0) ⟨Nat.zero_le _, heap_lt h1, h1⟩, heap_lt h1⟩
theorem BlkT.turned {C : Nat} (h : BlkT T n C w) (hR : TurnT T n N P w w') : BlkT T n C w' := by
 rcases hR with hb | ⟨g, vs, _, hg, _, _, rfl⟩
 ·obtain ⟨cs, h1, h2⟩ := h
  exact ⟨cs, heap_kept h1 hb, h2⟩
 ·by_cases e : C = g
  ·subst e; exact blkT_stored _ _ _ h
  ·obtain ⟨cs, h1, h2⟩ := h
   exact ⟨cs, (heap_stored e _ _ _).trans h1, h2⟩
theorem NewT.turned {N' : Nat} {v : Value} (h : NewT T n N v w) (hR : TurnT T n N' P w w') : NewT T n N v w' := by
 obtain ⟨C, h1, h2, h3⟩ := h
 exact ⟨C, h1, h2, h3.turned hR⟩
theorem StayP.turned (hP : StayP T n P) {P' : List Value → World → Prop} {vs : List Value} (h : P vs w) (hR : TurnT T n N P' w w') : P vs w' := by
 rcases hR with hb | ⟨g, us, _, hg, _, _, rfl⟩
 ·exact hP.below _ _ _ hb h
 ·exact hP.stored _ _ _ _ hg h
theorem StoT.turned {N' : Nat} {v : Value} (hP : StayP T n P) (h : StoT N P v w) (hR : TurnT T n N' P w w') : StoT N P v w' := by
 obtain ⟨C, vs, h1, h2, h3, h4⟩ := h
 have h5 := hP.turned h4 hR
 rcases hR with hb | ⟨g, us, _, hO, hl, hu, rfl⟩
 ·exact ⟨C, vs, h1, h2, h3.below hb, h5⟩
 ·by_cases e : C = g
  ·subst e
   obtain ⟨zs, hz, hr, hlt⟩ := hO.row
   exact ⟨C, us, h1, h2, row_cells (row_all hr (by omega)) (by rw [size_setCellsN]; exact hlt), hP.stored _ _ _ _ hO hu⟩
  ·exact ⟨C, vs, h1, h2, h3.stored e, h5⟩
theorem own_kept {V : World} {base : Nat} {E : TypeId} {size : Nat} {v : Value} {k : Nat} {xs : List Value} {g m : Nat} (h : w.ownsRow base E size v k xs) (hg : BlkT T m g w) (hne : T ≠ E) (hs : w.heap.size ≤ V.heap.size) (ho : ∀ R, R < w.heap.size → R ≠ g → V.heap[R]? = w.heap[R]?) : V.ownsRow base E size v k xs := by
 have key : ∀ j, v.ownBlock = some j → j < w.heap.size ∧ j ≠ g := fun j hj => by
  rcases h.2 with ⟨h2, _⟩ | ⟨g', cap, cur, h2, _, h3, _⟩
  ·subst h2; cases hj
  ·subst h2
   have : g' = j := Option.some.inj hj
   subst this
   refine ⟨heap_lt h3, fun e => hne ?_⟩
   subst e
   obtain ⟨cs, h1, _⟩ := hg
   rw [h1] at h3
   cases h3
   rfl
 exact own_of_block h hs fun j hj => ho j (key j hj).1 (key j hj).2
theorem own_stored {base : Nat} {E : TypeId} {size : Nat} {v : Value} {k : Nat} {xs : List Value} {g m o : Nat} {vs : List Value} (h : w.ownsRow base E size v k xs) (hg : BlkT T m g w) (hne : T ≠ E) : (w.setCells g o vs).ownsRow base E size v k xs :=
 own_kept h hg hne (by rw [size_setCellsN]; exact Nat.le_refl _) fun _ _ hR => heap_stored hR _ _ _
theorem cells_kept {V : World} {C : Nat} {vs : List Value} (h : Cells w C vs) (hs : w.heap.size ≤ V.heap.size) (e : V.heap[C]? = w.heap[C]?) : Cells V C vs :=
 ⟨Nat.lt_of_lt_of_le h.1 hs, fun j u hu => (World.cell?_of_block e).trans (h.2 j u hu)⟩
end
/-- the cells of a book whose sights lie in memory of its own -/
def BkS (N : Nat) (H : Option Addr) (hcap : Nat) (c : Sb) (vs : List Value) (w : World) : Prop := ∃ A k, vs = sbV H hcap A k c ∧ w.ownsRow N 68 4 (.slice A c.sights.length k) c.sights.length (sis c.sights)
/-- and one whose hours do, and that has no sights -/
def BkH (N : Nat) (c : Sb) (vs : List Value) (w : World) : Prop := ∃ A k, vs = sbV A k none 0 c ∧ w.ownsRow N 62 6 (.slice A c.hours.length k) c.hours.length (hrs c.hours)
theorem BkS.stay (N : Nat) (H : Option Addr) (hcap : Nat) (c : Sb) (n : Nat) : StayP 29 n (BkS N H hcap c) :=
 ⟨fun _ _ _ hb ⟨A, k, h1, h2⟩ => ⟨A, k, h1, own_below h2 hb⟩, fun _ _ _ _ hg ⟨A, k, h1, h2⟩ => ⟨A, k, h1, own_stored h2 hg (by decide)⟩⟩
theorem BkH.stay (N : Nat) (c : Sb) (n : Nat) : StayP 29 n (BkH N c) :=
 ⟨fun _ _ _ hb ⟨A, k, h1, h2⟩ => ⟨A, k, h1, own_below h2 hb⟩, fun _ _ _ _ hg ⟨A, k, h1, h2⟩ => ⟨A, k, h1, own_stored h2 hg (by decide)⟩⟩
end Go.Proofs.YtkhmcofmjjmjhaaDoor
