/- Slope: books in which all is known. -/
import Derived.Test.YtkhmcofmjjmjhaaDoorScp
import Derived.Test.YtkhmcofmjjmjhaaDoorSck
namespace Go.Proofs.YtkhmcofmjjmjhaaDoor
set_option linter.unusedSimpArgs false
set_option linter.unusedVariables false
open Go Go.RowKit
attribute [local go_sem high] cell_set_wr
attribute [local go_sem low] cell_wr frozen_wr
attribute [local go_sem] wr_set wr_drew wr_drewN wr_alloc wr_new Rho.c Rho.n Rho.g

theorem there_at {w : World} {R : Nat} {zs : List Value} {o n : Nat} (h : Row w R zs) (hn : o + n ≤ zs.length) : w.there R o n := fun j hj => by
 have hj' : o + j < zs.length := by omega
 have hw := (h (o + j) (zs[o + j]'hj') (List.getElem?_eq_getElem hj')).2
 exact ⟨hw.1, hw.2⟩
theorem hrs_snoc (l : List Hr) (s : Hr) : hrs (l ++ [s]) = hrs l ++ s.cells := by simp [hrs]
theorem hr_one (s : Hr) (u : Value) (h : u ∈ s.cells) : u.oneCell' = true := by
 simp [Hr.cells] at h
 rcases h with rfl | rfl | rfl | rfl | rfl | rfl <;> rfl
/-- a book with other hours, and no sights, in memory -/
def hoB (sl : Sl) (s0 : Int) (ds : List Hr) : Sb := ⟨sl, s0, s0, ds, []⟩
structure YoH (sl : Sl) (s0 : Int) (Q : Nat) (w w0 : World) (ds : List Hr) (A : Option Addr) (c : Nat) (V : World) : Prop where
 below : Below w.heap.size w V
 size : w0.heap.size ≤ V.heap.size
 row : Row V Q (sbV A c none 0 (hoB sl s0 ds))
 own : V.ownsRow w0.heap.size 62 6 (.slice A ds.length c) ds.length (hrs ds)
theorem YoH.on {sl : Sl} {s0 : Int} {Q : Nat} {w w0 : World} {ds : List Hr} {A : Option Addr} {c : Nat} {V V' : World} (h : YoH sl s0 Q w w0 ds A c V) (hQ0 : Q < w0.heap.size) (hb : Below V.heap.size V V') : YoH sl s0 Q w w0 ds A c V' := ⟨h.below.trans (hb.mono h.below.size), Nat.le_trans h.size hb.size, h.row.below hb (Nat.lt_of_lt_of_le hQ0 h.size), own_below h.own hb⟩
theorem YoH.snoc {sl : Sl} {s0 : Int} {Q : Nat} {w w0 : World} {ds : List Hr} {A : Option Addr} {c : Nat} {V V' : World} (h : YoH sl s0 Q w w0 ds A c V) (hQ : w.heap.size ≤ Q) (hQ0 : Q < w0.heap.size) (s : Hr) {A2 : Option Addr} {c2 : Nat}
    (q3 : V'.ownsRow w0.heap.size 62 6 (.slice A2 (ds.length + 1) c2) (ds.length + 1) (hrs ds ++ s.cells)) (q4 : V.grownBy V' (Value.slice A ds.length c).ownBlock) :
    YoH sl s0 Q w w0 (ds ++ [s]) A2 c2 (V'.setCell ⟨Q, 7, none⟩ (.slice A2 (ds.length + 1) c2)) ∧ Wr V' Q 7 := by
 have hsz := h.size
 have ho := h.own
 have hlow : Below w0.heap.size V V' := (Below.refl w0.heap.size V).grown q4 hsz (fun k e => ownBlock_le ho k e)
 have hrow := row_of_block h.row (hlow.block Q hQ0)
 have hl1 : (ds ++ [s]).length = ds.length + 1 := by simp
 refine ⟨⟨(h.below.trans (hlow.mono (by omega))).setCell hQ _, by simpa using Nat.le_trans hsz hlow.size, ?_, ?_⟩, (hrow 7 _ rfl).2⟩
 ·have := hrow.set (o := 7) (v := .slice A2 (ds.length + 1) c2) (by simp [sbV])
  rw [← hl1] at this ⊢
  exact this
 ·rw [hl1, hrs_snoc]
  refine own_of_block q3 (by simp) fun g hg => ?_
  have hg2 := ownBlock_le q3 g hg
  exact Below.heap_setCell _ _ _ _ (by simp only; omega)
theorem ext_take (b : Sb) (most : Bool) {k : Nat} (h : k < b.hours.length) : (b.hours.map (exH most)).take (k + 1) = (b.hours.map (exH most)).take k ++ [exH most b.hours[k]] := by
 rw [List.take_succ_eq_append_getElem (by simpa using h), List.getElem_map]
section
variable (H : Option Addr) (hcap : Nat) (S : Option Addr) (scap : Nat) (b : Sb)
set_option maxRecDepth 100000 in
set_option maxHeartbeats 4000000 in
theorem ext_fin (h12 : b.hours.length ≤ 1000) (most : Bool) (s0 : Int) (hs0 : s0 = if most then b.hi else b.lo) (w w1 V : World) (B R Q : Nat) (hbw1 : Below w.heap.size w w1) (hM1 : SbAt w1 H S b) (hCB : Cells w1 B (sbV H hcap S scap b)) (hRD : RowD w1 R 9) (hnR : w.heap.size ≤ R) (hnQ : w1.heap.size ≤ Q) (h3 : Below w1.heap.size w1 V) (hlQ : Q < V.heap.size) (hRQ : Row V Q (sbV none 0 none 0 (hoB b.sl s0 []))) (a : Act)
    (hE : Fits 69 [(1, .bool most), (2, .pointer (some ⟨B, 0, none⟩)), (4, .pointer (some ⟨R, 0, none⟩)), (5, .pointer (some ⟨Q, 0, none⟩))] a) :
    (cr 5 (bodyOf Tryd.f41)).wp Tryd.prog (bodyPost Tryd.prog Tryd.f41 fun e w' => (∃ vs, e = .returned (.agg vs.toArray) ∧ BkH w.heap.size (extB b most) vs w') ∧ Below w.heap.size w w') a V := by
 have HT := hid fun (k : Nat) hk => ext_take b most (k := k) hk
 have HX : Hid (extB b most = hoB b.sl s0 (b.hours.map (exH most))) := hid (by rw [hs0]; rfl)
 clear hs0
 have hbV := hbw1.trans (h3.mono hbw1.size)
 refine wp_seq ?_; refine Ks ?_
 refine Rs 1 fun Q' K hK => ?_
 refine M0 fun K' J ρ => ?_; go_simp;
 refine Ln hE J fun _ Eb => ?_; clear J K' hE a
 refine late_done [1, 2, 4, 5, 6] Eb hK (fun a hE => ?_); clear hK K Q' Eb; simp only [lk, pick, Nat.reduceEqDiff, ↓reduceIte] at hE
 refine Ks ?_
 refine loop_st (fun (k : Nat) a w' => ∃ (A : Option Addr) (c : Nat), k ≤ b.hours.length ∧ Fits 69 [(1, .bool most), (2, .pointer (some ⟨B, 0, none⟩)), (4, .pointer (some ⟨R, 0, none⟩)), (5, .pointer (some ⟨Q, 0, none⟩)), (6, .int .i64 k)] a ∧ YoH b.sl s0 Q w1 V ((b.hours.map (exH most)).take k) A c w') (fun k => b.hours.length - k) 0 ⟨none, 0, Nat.zero_le _, by simpa using hE, ⟨h3, Nat.le_refl _, hRQ, own_nil _ _ _ _⟩⟩ (fun k a wr hI => ?_)
 clear hE hRQ hbV
 obtain ⟨A, c, hk, hE, hS⟩ := hI
 have hbr := hbw1.trans (hS.below.mono hbw1.size)
 have hCBr := hCB.below hS.below
 have hMr := hM1.below hS.below
 have nB := hCBr.1
 have d7 := hCBr.2 7 _ rfl
 by_cases hlt : k < b.hours.length
 ·have hltI : (k : Int) < b.hours.length := by omega
  obtain ⟨bx, ox, hHe, hbx, x0, x1, x2, x3, x4, x5⟩ := hMr.1.hr hlt
  have HTk := HT.out k hlt
  obtain ⟨X, hXe⟩ : ∃ X, b.hours[k] = X := ⟨_, rfl⟩
  rw [hXe] at x0 x1 x2 x3 x4 x5 HTk
  rw [hHe] at d7
  obtain ⟨ds, hds⟩ : ∃ ds, (b.hours.map (exH most)).take k = ds := ⟨_, rfl⟩
  have hdl : ds.length ≤ 1000 := by rw [← hds, List.length_take, List.length_map]; omega
  rw [hds] at HTk hS
  have HDS := hid HTk
  clear HTk hds hXe
  obtain ⟨n1, n2, w1', w2', s1, s2⟩ := X
  simp only at x0 x1 x2 x3 x4 x5
  refine Ks ?_
  refine Rs 5 fun Q' K hK => ?_
  refine M1 hE 6 fun K' J ρ q6 => ?_; go_simp; (try clear q6)
  refine Ln hE J fun _ Eb => ?_; clear J K' hE a
  refine M1 Eb 2 fun K' J ρ q2 => ?_; go_simp; (try clear q2)
  refine Ln Eb J fun _ Ea => ?_; clear J K' Eb
  refine M1 Ea 24 fun K' J ρ q24 => ?_; go_simp; (try clear q24)
  refine Ln Ea J fun _ Eb => ?_; clear J K' Ea
  refine M1 Eb 25 fun K' J ρ q25 => ?_; go_simp; (try go_bits); (try clear q25)
  refine Ln Eb J fun _ Ea => ?_; clear J K' Eb
  refine M2 Ea 23 26 fun K' J ρ q23 q26 => ?_; go_simp; (try go_bits); (try clear q23 q26)
  refine Ln Ea J fun _ Eb => ?_; clear J K' Ea
  replace Eb := Eb.turn 27 (v' := .bool true) rfl (by (first | (simp; done) | (simp; omega)))
  refine late_done [1, 2, 4, 5, 6, 27] Eb hK (fun a hE => ?_); clear hK K Q' Eb; simp only [lk, pick, Nat.reduceEqDiff, ↓reduceIte] at hE
  refine Ks ?_
  refine cond_yes hE (t := 27) rfl ?_
  refine Ks ?_
  refine Rs 7 fun Q' K hK => ?_
  refine M1 hE 2 fun K' J ρ q2 => ?_; go_simp; (try clear q2)
  refine Ln hE J fun _ Eb => ?_; clear J K' hE a
  refine M1 Eb 30 fun K' J ρ q30 => ?_; go_simp; (try clear q30)
  refine Ln Eb J fun _ Ea => ?_; clear J K' Eb
  refine M1 Ea 6 fun K' J ρ q6 => ?_; go_simp; (try clear q6)
  refine Ln Ea J fun _ Eb => ?_; clear J K' Ea
  refine M2 Eb 31 32 fun K' J ρ q31 q32 => ?_; go_simp; (try go_bits); (try clear q31 q32)
  refine Ln Eb J fun _ Ea => ?_; clear J K' Eb
  refine M1 Ea 33 fun K' J ρ q33 => ?_; go_simp; (try clear q33)
  refine Ln Ea J fun _ Eb => ?_; clear J K' Ea
  refine M0 fun K' J ρ => ?_; go_simp;
  refine Ln Eb J fun _ Ea => ?_; clear J K' Eb
  refine Lp fun K' J => ?_
  have r7 := Ea.at 7 rfl; have r34 := Ea.at 34 rfl
  refine wp_store_mid 62 (.tmp 7) (.tmp 34) rfl wr.heap.size 0 #[.int .i64 n1, .int .i64 n2, .int .i64 w1', .int .i64 w2', .int .i64 s1, .int .i64 s2] (eval_of r7) (eval_of r34) (there_row (row_new wr _ _) (Nat.le_of_eq rfl)) (by kernel_rfl) (by kernel_rfl) ?_
  (try clear r7 r34)
  refine late_skip Ea J (fun _ Eb => ?_); clear J K'; clear Ea
  refine late_done [1, 2, 4, 5, 6, 7] Eb hK (fun a hE => ?_); clear hK K Q' Eb; simp only [lk, pick, Nat.reduceEqDiff, ↓reduceIte] at hE
  obtain ⟨C, hC⟩ : ∃ B, B = wr.heap.size := ⟨_, rfl⟩
  rw [← hC] at hE
  refine world_cut (fun wt => Below wr.heap.size wr wt ∧ Cells wt C [.int .i64 n1, .int .i64 n2, .int .i64 w1', .int .i64 w2', .int .i64 s1, .int .i64 s2]) (by rw [hC]; exact boxed_new wr #[.int .i64 0, .int .i64 0, .int .i64 0, .int .i64 0, .int .i64 0, .int .i64 0] 62 [.int .i64 n1, .int .i64 n2, .int .i64 w1', .int .i64 w2', .int .i64 s1, .int .i64 s2] rfl) (fun wq hCut => ?_)
  obtain ⟨kq, hCC⟩ := hCut
  clear hC x0 x1 x2 x3 x4 x5 hbx
  clear nB d7
  have hCC0 := hCC
  have hbwq := hbr.trans (kq.mono hbr.size)
  have nC := hCC.1; have cC0 := hCC.2 0 _ rfl; have cC1 := hCC.2 1 _ rfl; have cC2 := hCC.2 2 _ rfl; have cC3 := hCC.2 3 _ rfl; have cC4 := hCC.2 4 _ rfl; have cC5 := hCC.2 5 _ rfl
  refine Ks ?_
  refine Rd [14] (fun wt => Below wq.heap.size wq wt) (fun w1 w2 => Below w1.heap.size w1 w2) [(0, some 35), (1, some 36), (2, some 37), (3, some 38), (4, some 39), (5, some 40), (6, some 41), (7, some 42), (8, some 43), (9, some 44), (10, some 45), (11, some 46), (12, some 47), (13, some 8)] [35, 36, 37, 38, 39, 40, 41, 42, 43, 44, 45, 46, 47, 8] #[true, true, true, true, true, true, true, true, true, true, true, true, true, true, false] [1, 2, 4, 5, 6, 7] hE ((Below.refl _ _).drew) fun Q' K hK => ?_
  refine SeqOps.val ?_ (Sp fun ax wx hS hT' hd K' J => ?_) ?_; rotate_left 1
  ·have r7 := hS.at 7 (by decide) (hE.at 7 rfl); obtain ⟨hcT, hfT, hlT, hmT, hwT, hzT⟩ := bT hT'
   refine o1 r7 fun ρ q7 => ?_; go_simp;
   exact Jo J hT'
  refine SeqOps.val ?_ (Sp fun ax wx hS hT' hd K' J => ?_) ?_; rotate_left 1
  ·have r35 := Tv hd 0 0 35; obtain ⟨hcT, hfT, hlT, hmT, hwT, hzT⟩ := bT hT'
   refine o1 r35 fun ρ q35 => ?_; go_simp;
   exact Jo J hT'
  refine SeqOps.val ?_ (Sp fun ax wx hS hT' hd K' J => ?_) ?_; rotate_left 1
  ·have r36 := Tv hd 0 1 36; obtain ⟨hcT, hfT, hlT, hmT, hwT, hzT⟩ := bT hT'
   refine o1 r36 fun ρ q36 => ?_; go_simp;
   exact Jo J hT'
  refine SeqOps.val ?_ (Sp fun ax wx hS hT' hd K' J => ?_) ?_; rotate_left 1
  ·have r37 := Tv hd 0 2 37; obtain ⟨hcT, hfT, hlT, hmT, hwT, hzT⟩ := bT hT'
   refine o1 r37 fun ρ q37 => ?_; go_simp; (try go_bits);
   go_at_call 43; refine (one_any _ _).mono ?_; rintro e g1 ⟨rfl, k1⟩
   refine J.out _ _ _ rfl ?_ (hT'.trans (k1.mono hT'.size)) k1; rfl
  refine SeqOps.val ?_ (Sp fun ax wx hS hT' hd K' J => ?_) ?_; rotate_left 1
  ·have r7 := hS.at 7 (by decide) (hE.at 7 rfl); obtain ⟨hcT, hfT, hlT, hmT, hwT, hzT⟩ := bT hT'
   refine o1 r7 fun ρ q7 => ?_; go_simp;
   exact Jo J hT'
  refine SeqOps.val ?_ (Sp fun ax wx hS hT' hd K' J => ?_) ?_; rotate_left 1
  ·have r39 := Tv hd 0 4 39; obtain ⟨hcT, hfT, hlT, hmT, hwT, hzT⟩ := bT hT'
   refine o1 r39 fun ρ q39 => ?_; go_simp;
   exact Jo J hT'
  refine SeqOps.val ?_ (Sp fun ax wx hS hT' hd K' J => ?_) ?_; rotate_left 1
  ·have r40 := Tv hd 0 5 40; obtain ⟨hcT, hfT, hlT, hmT, hwT, hzT⟩ := bT hT'
   refine o1 r40 fun ρ q40 => ?_; go_simp;
   exact Jo J hT'
  refine SeqOps.val ?_ (Sp fun ax wx hS hT' hd K' J => ?_) ?_; rotate_left 1
  ·have r41 := Tv hd 0 6 41; obtain ⟨hcT, hfT, hlT, hmT, hwT, hzT⟩ := bT hT'
   refine o1 r41 fun ρ q41 => ?_; go_simp; (try go_bits);
   go_at_call 43; refine (one_any _ _).mono ?_; rintro e g1 ⟨rfl, k1⟩
   refine J.out _ _ _ rfl ?_ (hT'.trans (k1.mono hT'.size)) k1; rfl
  refine SeqOps.val ?_ (Sp fun ax wx hS hT' hd K' J => ?_) ?_; rotate_left 1
  ·have r7 := hS.at 7 (by decide) (hE.at 7 rfl); obtain ⟨hcT, hfT, hlT, hmT, hwT, hzT⟩ := bT hT'
   refine o1 r7 fun ρ q7 => ?_; go_simp;
   exact Jo J hT'
  refine SeqOps.val ?_ (Sp fun ax wx hS hT' hd K' J => ?_) ?_; rotate_left 1
  ·have r43 := Tv hd 0 8 43; obtain ⟨hcT, hfT, hlT, hmT, hwT, hzT⟩ := bT hT'
   refine o1 r43 fun ρ q43 => ?_; go_simp;
   exact Jo J hT'
  refine SeqOps.val ?_ (Sp fun ax wx hS hT' hd K' J => ?_) ?_; rotate_left 1
  ·have r44 := Tv hd 0 9 44; obtain ⟨hcT, hfT, hlT, hmT, hwT, hzT⟩ := bT hT'
   refine o1 r44 fun ρ q44 => ?_; go_simp;
   exact Jo J hT'
  refine SeqOps.val ?_ (Sp fun ax wx hS hT' hd K' J => ?_) ?_; rotate_left 1
  ·have r45 := Tv hd 0 10 45; obtain ⟨hcT, hfT, hlT, hmT, hwT, hzT⟩ := bT hT'
   refine o1 r45 fun ρ q45 => ?_; go_simp; (try go_bits);
   go_at_call 43; refine (one_any _ _).mono ?_; rintro e g1 ⟨rfl, k1⟩
   refine J.out _ _ _ rfl ?_ (hT'.trans (k1.mono hT'.size)) k1; rfl
  refine SeqOps.val ?_ (Sp fun ax wx hS hT' hd K' J => ?_) ?_; rotate_left 1
  ·have r38 := Tv hd 8 3 38; have r42 := Tv hd 4 7 42; have r46 := Tv hd 0 11 46; obtain ⟨hcT, hfT, hlT, hmT, hwT, hzT⟩ := bT hT'
   refine o3 r38 r42 r46 fun ρ q38 q42 q46 => ?_; go_simp;
   exact Jo J hT'
  refine SeqOps.say (NewW wq.heap.size 6) (fun _ _ _ hR h => h.below hR) (Sp fun ax wx hS hT' hd K' J => ?_) ?_
  ·obtain ⟨hcT, hfT, hlT, hmT, hwT, hzT⟩ := bT hT'
   refine o0 fun ρ => ?_; go_simp;
   exact J.out _ _ _ rfl ⟨_, rfl, hT'.size, by simp, _, rfl, row_new _ _ _⟩ (hT'.alloc hT'.size _) ((Below.refl _ _).alloc (Nat.le_refl _) _)
  refine SeqOps.nil ?_
  intro wu hBm; (repeat refine Ek ?_); (refine fun v h => ?_; obtain ⟨D, rfl, nD, lD, zD, eD, RD⟩ := h);
  refine fun amx hEmx => ?_
  simp only [lk, pick, Nat.reduceEqDiff, ↓reduceIte] at hEmx
  refine Lp fun K' J => ?_
  have r8 := hEmx.at 8 rfl; have r47 := hEmx.at 47 rfl
  refine wp_store_mid 62 (.tmp 8) (.tmp 47) rfl D 0 #[.int .i64 n1, .int .i64 n1, .int .i64 w1', .int .i64 w1', .int .i64 s1, .int .i64 s1] (eval_of r8) (eval_of r47) (there_row RD (by rw [eD]; exact Nat.le_refl _)) (by kernel_rfl) (by kernel_rfl) ?_
  (try clear r8 r47)
  refine late_skip hEmx J (fun am_1 hEm_1 => ?_); clear J K'; clear hEmx
  refine late_done [1, 2, 4, 5, 6, 7, 8] hEm_1 hK (fun a hE => ?_); clear hK K Q' hEm_1; simp only [lk, pick, Nat.reduceEqDiff, ↓reduceIte] at hE
  have hbwu := hbwq.trans (hBm.mono hbwq.size)
  replace hCC := hCC.below hBm
  clear nC cC0 cC1 cC2 cC3 cC4 cC5
  have nC := hCC.1; have cC0 := hCC.2 0 _ rfl; have cC1 := hCC.2 1 _ rfl; have cC2 := hCC.2 2 _ rfl; have cC3 := hCC.2 3 _ rfl; have cC4 := hCC.2 4 _ rfl; have cC5 := hCC.2 5 _ rfl
  have q := cells_stored (w := wq) RD (vs := [.int .i64 n1, .int .i64 n1, .int .i64 w1', .int .i64 w1', .int .i64 s1, .int .i64 s1]) (by rw [eD]; rfl) lD nD hBm
  have q2 := row_all RD (vs := [.int .i64 n1, .int .i64 n1, .int .i64 w1', .int .i64 w1', .int .i64 s1, .int .i64 s1]) (by rw [eD]; rfl)
  refine world_cut (fun wt => Below wq.heap.size wq wt ∧ D < wt.heap.size ∧ Row wt D [.int .i64 n1, .int .i64 n1, .int .i64 w1', .int .i64 w1', .int .i64 s1, .int .i64 s1]) ⟨q.2.1, q.1.1, q2⟩ (fun wv hCut => ?_)
  clear q q2 RD lD eD hbwu
  obtain ⟨kv, hlD, hRD'⟩ := hCut
  have hqv := kq.trans (kv.mono kq.size)
  replace hCC := hCC0.below kv
  clear hBm
  clear nC cC0 cC1 cC2 cC3 cC4 cC5
  have hbv := hbr.trans (hqv.mono hbr.size)
  cases most
  ·skip
   refine Ks ?_
   refine Rs 1 fun Q' K hK => ?_
   refine M1 hE 1 fun K' J ρ q1 => ?_; go_simp; (try clear q1)
   refine Ln hE J fun _ Eb => ?_; clear J K' hE a
   refine late_done [1, 2, 4, 5, 6, 7, 8, 48] Eb hK (fun a hE => ?_); clear hK K Q' Eb; simp only [lk, pick, Nat.reduceEqDiff, ↓reduceIte] at hE
   have hS5 := hS.on hlQ hqv
   have d0 := (hRD' 0 _ rfl).1
   have d1 := (hRD' 1 _ rfl).1
   have d2 := (hRD' 2 _ rfl).1
   have d3 := (hRD' 3 _ rfl).1
   have d4 := (hRD' 4 _ rfl).1
   have d5 := (hRD' 5 _ rfl).1
   have e7 := (hS5.row 7 _ rfl).1
   refine Ks ?_
   refine cond_no hE (t := 48) rfl ?_
   refine Ks ?_
   refine Rs 7 fun Q' K hK => ?_
   refine M1 hE 5 fun K' J ρ q5 => ?_; go_simp; (try clear q5)
   refine Ln hE J fun _ Eb => ?_; clear J K' hE a
   refine M1 Eb 62 fun K' J ρ q62 => ?_; go_simp; (try clear q62)
   refine Ln Eb J fun _ Ea => ?_; clear J K' Eb
   refine M1 Ea 8 fun K' J ρ q8 => ?_; go_simp; (try clear q8)
   refine Ln Ea J fun _ Eb => ?_; clear J K' Ea
   refine M1 Eb 64 fun K' J ρ q64 => ?_; go_simp; (try clear q64)
   refine Ln Eb J fun _ Ea => ?_; clear J K' Eb
   refine Lp fun K' J => ?_
   have r63 := Ea.at 63 rfl; have r65 := Ea.at 65 rfl
   have k8 : Below wv.heap.size wv (wv.alloc (.cells #[.int .i64 n1, .int .i64 n1, .int .i64 w1', .int .i64 w1', .int .i64 s1, .int .i64 s1] 62)) := (Below.refl _ _).alloc (Nat.le_refl _) _
   have hS6 := hS5.on hlQ k8
   refine wp_appN (.tmp 63) (.tmp 65) 26 rfl V.heap.size 62 (.agg #[.int .i64 0, .int .i64 0, .int .i64 0, .int .i64 0, .int .i64 0, .int .i64 0]) 6 48 Tryd.underlying26 (by kernel_rfl) rfl (by decide) _ _ _ (eval_of r63) hS6.own _ (some ⟨wv.heap.size, 0, none⟩) 1 1 (Hr.cells (exH false ⟨n1, n2, w1', w2', s1, s2⟩)) (eval_of r65) (arr_new wv _ _) rfl (hr_one _) (by simp only [maxLen]; omega) (by omega) hS6.size (fun A2 c2 w8 q1 q2 q3 q4 q5 => ?_)
   have hsn := hS6.snoc hnQ hlQ (exH false ⟨n1, n2, w1', w2', s1, s2⟩) q3 q4
   have y7 := hsn.2
   (try clear r63 r65)
   refine Ln Ea J fun _ Eb => ?_; clear J K' Ea
   refine M1 Eb 5 fun K' J ρ q5 => ?_; go_simp; (try clear q5)
   refine Ln Eb J fun _ Ea => ?_; clear J K' Eb
   refine M2 Ea 67 66 fun K' J ρ q67 q66 => ?_; go_simp; (try clear q67 q66)
   refine late_skip Ea J (fun _ Eb => ?_); clear J K'; clear Ea
   refine late_done [1, 2, 4, 5, 6] Eb hK (fun a hE => ?_); clear hK K Q' Eb; simp only [lk, pick, Nat.reduceEqDiff, ↓reduceIte] at hE
   refine world_cut (fun wt => YoH b.sl s0 Q w1 V (ds ++ [(exH false ⟨n1, n2, w1', w2', s1, s2⟩)]) A2 c2 wt) hsn.1 (fun w9 hS9 => ?_)
   clear y7 hsn q1 q2 q3 q4 q5
   refine Ks ?_
   refine Rs 3 fun Q' K hK => ?_
   refine M1 hE 6 fun K' J ρ q6 => ?_; go_simp; (try clear q6)
   refine Ln hE J fun _ Eb => ?_; clear J K' hE a
   refine M1 Eb 28 fun K' J ρ q28 => ?_; go_simp; (try go_bits); (try simp (disch := omega) only [IntWalk.i64_in]); (try clear q28)
   refine Ln Eb J fun _ Ea => ?_; clear J K' Eb
   refine M1 Ea 29 fun K' J ρ q29 => ?_; go_simp; (try clear q29)
   refine Ln Ea J fun _ Eb => ?_; clear J K' Ea
   refine late_done [1, 2, 4, 5, 6] Eb hK (fun a hE => ?_); clear hK K Q' Eb; simp only [lk, pick, Nat.reduceEqDiff, ↓reduceIte] at hE
   refine Ks ?_
   exact ⟨k + 1, ⟨A2, c2, hlt, by simpa using hE, by rw [HDS.out]; exact hS9⟩, by omega⟩
  ·skip
   refine Ks ?_
   refine Rs 1 fun Q' K hK => ?_
   refine M1 hE 1 fun K' J ρ q1 => ?_; go_simp; (try clear q1)
   refine Ln hE J fun _ Eb => ?_; clear J K' hE a
   refine late_done [1, 2, 4, 5, 6, 7, 8, 48] Eb hK (fun a hE => ?_); clear hK K Q' Eb; simp only [lk, pick, Nat.reduceEqDiff, ↓reduceIte] at hE
   have nC := hCC.1; have cC0 := hCC.2 0 _ rfl; have cC1 := hCC.2 1 _ rfl; have cC2 := hCC.2 2 _ rfl; have cC3 := hCC.2 3 _ rfl; have cC4 := hCC.2 4 _ rfl; have cC5 := hCC.2 5 _ rfl
   refine Ks ?_
   refine cond_yes hE (t := 48) rfl ?_
   refine Ks ?_
   refine Rd [13] (fun wt => Below wv.heap.size wv wt) (fun w1 w2 => Below w1.heap.size w1 w2) [(0, some 49), (1, some 50), (2, some 51), (3, some 52), (4, some 53), (5, some 54), (6, some 55), (7, some 56), (8, some 57), (9, some 58), (10, some 59), (11, some 60), (12, some 61)] [49, 50, 51, 52, 53, 54, 55, 56, 57, 58, 59, 60, 61] #[true, true, true, true, true, true, true, true, true, true, true, true, true, false] [1, 2, 4, 5, 6, 8] hE ((Below.refl _ _).drew) fun Q' K hK => ?_
   refine SeqOps.val ?_ (Sp fun ax wx hS hT' hd K' J => ?_) ?_; rotate_left 1
   ·have r7 := hS.at 7 (by decide) (hE.at 7 rfl); obtain ⟨hcT, hfT, hlT, hmT, hwT, hzT⟩ := bT hT'
    refine o1 r7 fun ρ q7 => ?_; go_simp;
    exact Jo J hT'
   refine SeqOps.val ?_ (Sp fun ax wx hS hT' hd K' J => ?_) ?_; rotate_left 1
   ·have r49 := Tv hd 0 0 49; obtain ⟨hcT, hfT, hlT, hmT, hwT, hzT⟩ := bT hT'
    refine o1 r49 fun ρ q49 => ?_; go_simp;
    exact Jo J hT'
   refine SeqOps.val ?_ (Sp fun ax wx hS hT' hd K' J => ?_) ?_; rotate_left 1
   ·have r50 := Tv hd 0 1 50; obtain ⟨hcT, hfT, hlT, hmT, hwT, hzT⟩ := bT hT'
    refine o1 r50 fun ρ q50 => ?_; go_simp;
    exact Jo J hT'
   refine SeqOps.val ?_ (Sp fun ax wx hS hT' hd K' J => ?_) ?_; rotate_left 1
   ·have r51 := Tv hd 0 2 51; obtain ⟨hcT, hfT, hlT, hmT, hwT, hzT⟩ := bT hT'
    refine o1 r51 fun ρ q51 => ?_; go_simp; (try go_bits);
    go_at_call 43; refine (one_any _ _).mono ?_; rintro e g1 ⟨rfl, k1⟩
    refine J.out _ _ _ rfl ?_ (hT'.trans (k1.mono hT'.size)) k1; rfl
   refine SeqOps.val ?_ (Sp fun ax wx hS hT' hd K' J => ?_) ?_; rotate_left 1
   ·have r7 := hS.at 7 (by decide) (hE.at 7 rfl); obtain ⟨hcT, hfT, hlT, hmT, hwT, hzT⟩ := bT hT'
    refine o1 r7 fun ρ q7 => ?_; go_simp;
    exact Jo J hT'
   refine SeqOps.val ?_ (Sp fun ax wx hS hT' hd K' J => ?_) ?_; rotate_left 1
   ·have r53 := Tv hd 0 4 53; obtain ⟨hcT, hfT, hlT, hmT, hwT, hzT⟩ := bT hT'
    refine o1 r53 fun ρ q53 => ?_; go_simp;
    exact Jo J hT'
   refine SeqOps.val ?_ (Sp fun ax wx hS hT' hd K' J => ?_) ?_; rotate_left 1
   ·have r54 := Tv hd 0 5 54; obtain ⟨hcT, hfT, hlT, hmT, hwT, hzT⟩ := bT hT'
    refine o1 r54 fun ρ q54 => ?_; go_simp;
    exact Jo J hT'
   refine SeqOps.val ?_ (Sp fun ax wx hS hT' hd K' J => ?_) ?_; rotate_left 1
   ·have r55 := Tv hd 0 6 55; obtain ⟨hcT, hfT, hlT, hmT, hwT, hzT⟩ := bT hT'
    refine o1 r55 fun ρ q55 => ?_; go_simp; (try go_bits);
    go_at_call 43; refine (one_any _ _).mono ?_; rintro e g1 ⟨rfl, k1⟩
    refine J.out _ _ _ rfl ?_ (hT'.trans (k1.mono hT'.size)) k1; rfl
   refine SeqOps.val ?_ (Sp fun ax wx hS hT' hd K' J => ?_) ?_; rotate_left 1
   ·have r7 := hS.at 7 (by decide) (hE.at 7 rfl); obtain ⟨hcT, hfT, hlT, hmT, hwT, hzT⟩ := bT hT'
    refine o1 r7 fun ρ q7 => ?_; go_simp;
    exact Jo J hT'
   refine SeqOps.val ?_ (Sp fun ax wx hS hT' hd K' J => ?_) ?_; rotate_left 1
   ·have r57 := Tv hd 0 8 57; obtain ⟨hcT, hfT, hlT, hmT, hwT, hzT⟩ := bT hT'
    refine o1 r57 fun ρ q57 => ?_; go_simp;
    exact Jo J hT'
   refine SeqOps.val ?_ (Sp fun ax wx hS hT' hd K' J => ?_) ?_; rotate_left 1
   ·have r58 := Tv hd 0 9 58; obtain ⟨hcT, hfT, hlT, hmT, hwT, hzT⟩ := bT hT'
    refine o1 r58 fun ρ q58 => ?_; go_simp;
    exact Jo J hT'
   refine SeqOps.val ?_ (Sp fun ax wx hS hT' hd K' J => ?_) ?_; rotate_left 1
   ·have r59 := Tv hd 0 10 59; obtain ⟨hcT, hfT, hlT, hmT, hwT, hzT⟩ := bT hT'
    refine o1 r59 fun ρ q59 => ?_; go_simp; (try go_bits);
    go_at_call 43; refine (one_any _ _).mono ?_; rintro e g1 ⟨rfl, k1⟩
    refine J.out _ _ _ rfl ?_ (hT'.trans (k1.mono hT'.size)) k1; rfl
   refine SeqOps.val ?_ (Sp fun ax wx hS hT' hd K' J => ?_) ?_; rotate_left 1
   ·have r52 := Tv hd 8 3 52; have r56 := Tv hd 4 7 56; have r60 := Tv hd 0 11 60; obtain ⟨hcT, hfT, hlT, hmT, hwT, hzT⟩ := bT hT'
    refine o3 r52 r56 r60 fun ρ q52 q56 q60 => ?_; go_simp;
    exact Jo J hT'
   refine SeqOps.nil ?_
   intro wx hBn; (repeat refine Ek ?_)
   refine fun anx hEnx => ?_
   simp only [lk, pick, Nat.reduceEqDiff, ↓reduceIte] at hEnx
   refine Lp fun K' J => ?_
   have r8 := hEnx.at 8 rfl; have r61 := hEnx.at 61 rfl
   have hRDx := hRD'.below hBn hlD
   refine wp_store_mid 62 (.tmp 8) (.tmp 61) rfl D 0 #[.int .i64 n2, .int .i64 n2, .int .i64 w2', .int .i64 w2', .int .i64 s2, .int .i64 s2] (eval_of r8) (eval_of r61) (there_row hRDx (Nat.le_of_eq rfl)) (by kernel_rfl) (by kernel_rfl) ?_
   (try clear r8 r61)
   refine late_skip hEnx J (fun an_1 hEn_1 => ?_); clear J K'; clear hEnx
   refine late_done [1, 2, 4, 5, 6, 8] hEn_1 hK (fun a hE => ?_); clear hK K Q' hEn_1; simp only [lk, pick, Nat.reduceEqDiff, ↓reduceIte] at hE
   have hbwx := hbv.trans (hBn.mono hbv.size)
   replace hCC := hCC.below hBn
   clear nC cC0 cC1 cC2 cC3 cC4 cC5
   have nC := hCC.1; have cC0 := hCC.2 0 _ rfl; have cC1 := hCC.2 1 _ rfl; have cC2 := hCC.2 2 _ rfl; have cC3 := hCC.2 3 _ rfl; have cC4 := hCC.2 4 _ rfl; have cC5 := hCC.2 5 _ rfl
   have q := cells_stored (w := wq) hRDx (vs := [.int .i64 n2, .int .i64 n2, .int .i64 w2', .int .i64 w2', .int .i64 s2, .int .i64 s2]) rfl (Nat.lt_of_lt_of_le hlD hBn.size) nD (kv.trans (hBn.mono kv.size))
   have q2 := row_all hRDx (vs := [.int .i64 n2, .int .i64 n2, .int .i64 w2', .int .i64 w2', .int .i64 s2, .int .i64 s2]) rfl
   refine world_cut (fun wt => Below wq.heap.size wq wt ∧ D < wt.heap.size ∧ Row wt D [.int .i64 n2, .int .i64 n2, .int .i64 w2', .int .i64 w2', .int .i64 s2, .int .i64 s2]) ⟨q.2.1, q.1.1, q2⟩ (fun wy hCut => ?_)
   clear q q2 hRDx hRD' hlD kv
   obtain ⟨kv, hlD, hRD'⟩ := hCut
   have hqy := kq.trans (kv.mono kq.size)
   clear hBn hbwx
   have hby := hbr.trans (hqy.mono hbr.size)
   clear nC cC0 cC1 cC2 cC3 cC4 cC5
   have hS5 := hS.on hlQ hqy
   have d0 := (hRD' 0 _ rfl).1
   have d1 := (hRD' 1 _ rfl).1
   have d2 := (hRD' 2 _ rfl).1
   have d3 := (hRD' 3 _ rfl).1
   have d4 := (hRD' 4 _ rfl).1
   have d5 := (hRD' 5 _ rfl).1
   have e7 := (hS5.row 7 _ rfl).1
   refine Ks ?_
   refine Rs 7 fun Q' K hK => ?_
   refine M1 hE 5 fun K' J ρ q5 => ?_; go_simp; (try clear q5)
   refine Ln hE J fun _ Eb => ?_; clear J K' hE a
   refine M1 Eb 62 fun K' J ρ q62 => ?_; go_simp; (try clear q62)
   refine Ln Eb J fun _ Ea => ?_; clear J K' Eb
   refine M1 Ea 8 fun K' J ρ q8 => ?_; go_simp; (try clear q8)
   refine Ln Ea J fun _ Eb => ?_; clear J K' Ea
   refine M1 Eb 64 fun K' J ρ q64 => ?_; go_simp; (try clear q64)
   refine Ln Eb J fun _ Ea => ?_; clear J K' Eb
   refine Lp fun K' J => ?_
   have r63 := Ea.at 63 rfl; have r65 := Ea.at 65 rfl
   have k8 : Below wy.heap.size wy (wy.alloc (.cells #[.int .i64 n2, .int .i64 n2, .int .i64 w2', .int .i64 w2', .int .i64 s2, .int .i64 s2] 62)) := (Below.refl _ _).alloc (Nat.le_refl _) _
   have hS6 := hS5.on hlQ k8
   refine wp_appN (.tmp 63) (.tmp 65) 26 rfl V.heap.size 62 (.agg #[.int .i64 0, .int .i64 0, .int .i64 0, .int .i64 0, .int .i64 0, .int .i64 0]) 6 48 Tryd.underlying26 (by kernel_rfl) rfl (by decide) _ _ _ (eval_of r63) hS6.own _ (some ⟨wy.heap.size, 0, none⟩) 1 1 (Hr.cells (exH true ⟨n1, n2, w1', w2', s1, s2⟩)) (eval_of r65) (arr_new wy _ _) rfl (hr_one _) (by simp only [maxLen]; omega) (by omega) hS6.size (fun A2 c2 w8 q1 q2 q3 q4 q5 => ?_)
   have hsn := hS6.snoc hnQ hlQ (exH true ⟨n1, n2, w1', w2', s1, s2⟩) q3 q4
   have y7 := hsn.2
   (try clear r63 r65)
   refine Ln Ea J fun _ Eb => ?_; clear J K' Ea
   refine M1 Eb 5 fun K' J ρ q5 => ?_; go_simp; (try clear q5)
   refine Ln Eb J fun _ Ea => ?_; clear J K' Eb
   refine M2 Ea 67 66 fun K' J ρ q67 q66 => ?_; go_simp; (try clear q67 q66)
   refine late_skip Ea J (fun _ Eb => ?_); clear J K'; clear Ea
   refine late_done [1, 2, 4, 5, 6] Eb hK (fun a hE => ?_); clear hK K Q' Eb; simp only [lk, pick, Nat.reduceEqDiff, ↓reduceIte] at hE
   refine world_cut (fun wt => YoH b.sl s0 Q w1 V (ds ++ [(exH true ⟨n1, n2, w1', w2', s1, s2⟩)]) A2 c2 wt) hsn.1 (fun w9 hS9 => ?_)
   clear y7 hsn q1 q2 q3 q4 q5
   refine Ks ?_
   refine Rs 3 fun Q' K hK => ?_
   refine M1 hE 6 fun K' J ρ q6 => ?_; go_simp; (try clear q6)
   refine Ln hE J fun _ Eb => ?_; clear J K' hE a
   refine M1 Eb 28 fun K' J ρ q28 => ?_; go_simp; (try go_bits); (try simp (disch := omega) only [IntWalk.i64_in]); (try clear q28)
   refine Ln Eb J fun _ Ea => ?_; clear J K' Eb
   refine M1 Ea 29 fun K' J ρ q29 => ?_; go_simp; (try clear q29)
   refine Ln Ea J fun _ Eb => ?_; clear J K' Ea
   refine late_done [1, 2, 4, 5, 6] Eb hK (fun a hE => ?_); clear hK K Q' Eb; simp only [lk, pick, Nat.reduceEqDiff, ↓reduceIte] at hE
   refine Ks ?_
   exact ⟨k + 1, ⟨A2, c2, hlt, by simpa using hE, by rw [HDS.out]; exact hS9⟩, by omega⟩
 ·have hke : k = b.hours.length := by omega
  subst hke
  have hall : (b.hours.map (exH most)).take b.hours.length = b.hours.map (exH most) := List.take_of_length_le (by simp)
  rw [hall] at hS
  obtain ⟨hlR, zs, hzs, hRR⟩ := hRD.below hS.below
  have hrQ := hS.row
  refine Ks ?_
  refine Rs 5 fun Q' K hK => ?_
  refine M1 hE 6 fun K' J ρ q6 => ?_; go_simp; (try clear q6)
  refine Ln hE J fun _ Eb => ?_; clear J K' hE a
  refine M1 Eb 2 fun K' J ρ q2 => ?_; go_simp; (try clear q2)
  refine Ln Eb J fun _ Ea => ?_; clear J K' Eb
  refine M1 Ea 24 fun K' J ρ q24 => ?_; go_simp; (try clear q24)
  refine Ln Ea J fun _ Eb => ?_; clear J K' Ea
  refine M1 Eb 25 fun K' J ρ q25 => ?_; go_simp; (try go_bits); (try clear q25)
  refine Ln Eb J fun _ Ea => ?_; clear J K' Eb
  refine M2 Ea 23 26 fun K' J ρ q23 q26 => ?_; go_simp; (try go_bits); (try clear q23 q26)
  refine Ln Ea J fun _ Eb => ?_; clear J K' Ea
  replace Eb := Eb.turn 27 (v' := .bool false) rfl (by (first | (simp; done) | (simp; omega)))
  refine late_done [1, 2, 4, 5, 6, 27] Eb hK (fun a hE => ?_); clear hK K Q' Eb; simp only [lk, pick, Nat.reduceEqDiff, ↓reduceIte] at hE
  refine Ks ?_
  refine cond_no hE (t := 27) rfl ?_
  refine Ks ?_
  refine Rs 2 fun Q' K hK => ?_
  refine Lp fun K' J => ?_
  have r5 := hE.at 5 rfl
  refine wp_load_mid 29 (.tmp 5) rfl Q 0 (eval_of r5) (sbV A c none 0 (hoB b.sl s0 (b.hours.map (exH most)))) _ (fun j u hu => by rw [Nat.zero_add]; exact (hrQ j u hu).1) Tryd.underlying29 rfl (by kernel_rfl) ?_
  (try clear r5)
  refine Ln hE J fun _ Eb => ?_; clear J K' hE a
  refine Lp fun K' J => ?_
  have r4 := Eb.at 4 rfl; have r68 := Eb.at 68 rfl
  refine wp_store_mid 29 (.tmp 4) (.tmp 68) rfl R 0 (sbV A c none 0 (hoB b.sl s0 (b.hours.map (exH most)))).toArray (eval_of r4) (eval_of r68) (there_row hRR (by rw [hzs]; exact Nat.le_refl _)) (by kernel_rfl) (by kernel_rfl) ?_
  (try clear r4 r68)
  refine late_skip Eb J (fun _ Ea => ?_); clear J K'; clear Eb
  refine late_done [4] Ea hK (fun a hE => ?_); clear hK K Q' Ea; simp only [lk, pick, Nat.reduceEqDiff, ↓reduceIte] at hE
  obtain ⟨q1, q2, q3, q4⟩ := cells_stored hRR (vs := sbV A c none 0 (hoB b.sl s0 (b.hours.map (exH most)))) (by rw [hzs]; rfl) hlR hnR hbr
  refine world_cut (fun wt => Cells wt R (sbV A c none 0 (hoB b.sl s0 (b.hours.map (exH most)))) ∧ Below w.heap.size w wt ∧ BkH w.heap.size (extB b most) (sbV A c none 0 (hoB b.sl s0 (b.hours.map (exH most)))) wt) ⟨q1, q2, ?_⟩ (fun w9 hCut => ?_)
  ·rw [HX.out]; exact ⟨A, c, rfl, own_base (own_of_block hS.own (by rw [q4]; exact Nat.le_refl _) (fun g hg => q3 g (by have := ownBlock_le hS.own g hg; have := hRD.1; have := h3.size; omega))) (by have := hbw1.size; have := h3.size; omega)⟩
  obtain ⟨hC9, hb9, hH9⟩ := hCut
  refine Ks ?_
  exact ret_cell hE rfl rfl hC9.2 Tryd.underlying29 rfl (by kernel_rfl) ⟨⟨_, rfl, hH9⟩, hb9⟩
set_option maxRecDepth 100000 in
set_option maxHeartbeats 4000000 in
theorem extreme_any (h12 : b.hours.length ≤ 1000) (most : Bool) (w : World) (hM : SbAt w H S b) :
    Calls Tryd.prog 41 #[.agg (sbV H hcap S scap b).toArray, .bool most] w fun e w' => (∃ vs, e = .returned (.agg vs.toArray) ∧ BkH w.heap.size (extB b most) vs w') ∧ Below w.heap.size w w' := by
 have HF := hid fun (s0 : Int) hs0 (w1 V : World) (B R Q : Nat) => ext_fin H hcap S scap b h12 most s0 hs0 w w1 V B R Q
 refine enterE Tryd.func41 rfl Tryd.ntmps41 (by simp) (fun a hE => ?_); simp only [envOf, Nat.zero_add, Nat.reduceAdd] at hE
 refine Ks ?_
 refine Rs 2 fun Q' K hK => ?_
 refine M1 hE 0 fun K' J ρ q0 => ?_; go_simp; (try clear q0)
 refine Ln hE J fun _ Eb => ?_; clear J K' hE a
 refine M0 fun K' J ρ => ?_; go_simp;
 refine Ln Eb J fun _ Ea => ?_; clear J K' Eb
 refine late_done [1, 2, 4] Ea hK (fun a hE => ?_); clear hK K Q' Ea; simp only [lk, pick, Nat.reduceEqDiff, ↓reduceIte] at hE
 obtain ⟨B, hB⟩ : ∃ B, B = w.heap.size := ⟨_, rfl⟩
 obtain ⟨R, hR⟩ : ∃ B, B = w.heap.size + 1 := ⟨_, rfl⟩
 rw [← hR, ← hB] at hE
 refine world_cut (fun wt => Below w.heap.size w wt ∧ Cells wt B (sbV H hcap S scap b) ∧ RowD wt R 9) ?_ (fun w1 hC => ?_)
 ·rw [hB, hR]; obtain ⟨q1, q2, q3, q4⟩ := box_row w (sbV H hcap S scap b).toArray 29 #[.int .i64 0, .int .i64 0, .int .i64 0, .int .i64 0, .int .i64 0, .int .i64 0, .int .i64 0, .slice none 0 0, .slice none 0 0] 29; exact ⟨q1, q2, q3, _, rfl, q4⟩
 obtain ⟨hbw1, hCB, hRD⟩ := hC
 have hnR : w.heap.size ≤ R := by omega
 have hM1 := hM.below hbw1
 clear hB hR
 refine Ks ?_
 refine Rs 3 fun Q' K hK => ?_
 refine Lp fun K' J => ?_
 have r2 := hE.at 2 rfl
 refine wp_load_mid 29 (.tmp 2) rfl B 0 (eval_of r2) (sbV H hcap S scap b) _ (fun j u hu => by rw [Nat.zero_add]; exact hCB.2 j u hu) Tryd.underlying29 rfl (by kernel_rfl) ?_
 (try clear r2)
 refine Ln hE J fun _ Eb => ?_; clear J K' hE a
 refine M0 fun K' J ρ => ?_; go_simp;
 refine Ln Eb J fun _ Ea => ?_; clear J K' Eb
 refine Lp fun K' J => ?_
 have r5 := Ea.at 5 rfl; have r9 := Ea.at 9 rfl
 refine wp_store_mid 29 (.tmp 5) (.tmp 9) rfl w1.heap.size 0 (sbV H hcap S scap b).toArray (eval_of r5) (eval_of r9) (there_row (row_new w1 _ _) (Nat.le_of_eq rfl)) (by kernel_rfl) (by kernel_rfl) ?_
 (try clear r5 r9)
 refine late_skip Ea J (fun _ Eb => ?_); clear J K'; clear Ea
 refine late_done [1, 2, 4, 5] Eb hK (fun a hE => ?_); clear hK K Q' Eb; simp only [lk, pick, Nat.reduceEqDiff, ↓reduceIte] at hE
 obtain ⟨Q, hQ⟩ : ∃ B, B = w1.heap.size := ⟨_, rfl⟩
 rw [← hQ] at hE
 have hnQ : w1.heap.size ≤ Q := Nat.le_of_eq hQ.symm
 refine world_cut (fun wt => Below w1.heap.size w1 wt ∧ Q < wt.heap.size ∧ Row wt Q (sbV H hcap S scap b)) ?_ (fun w2 hCut => ?_)
 ·rw [hQ]; have q := boxed_new w1 #[.int .i64 0, .int .i64 0, .int .i64 0, .int .i64 0, .int .i64 0, .int .i64 0, .int .i64 0, .slice none 0 0, .slice none 0 0] 29 (sbV H hcap S scap b) rfl; exact ⟨q.1, q.2.1, row_all (row_new w1 #[.int .i64 0, .int .i64 0, .int .i64 0, .int .i64 0, .int .i64 0, .int .i64 0, .int .i64 0, .slice none 0 0, .slice none 0 0] 29) rfl⟩
 obtain ⟨h2, hlQ, hRQ⟩ := hCut
 have y8 := (hRQ 8 _ rfl).2
 have y7 := (hRQ 7 _ rfl).2
 clear hQ
 have hbw2 := hbw1.trans (h2.mono hbw1.size)
 refine Ks ?_
 refine Rs 4 fun Q' K hK => ?_
 refine M1 hE 5 fun K' J ρ q5 => ?_; go_simp; (try clear q5)
 refine Ln hE J fun _ Eb => ?_; clear J K' hE a
 refine M1 Eb 10 fun K' J ρ q10 => ?_; go_simp; (try clear q10)
 refine late_skip Eb J (fun _ Ea => ?_); clear J K'; clear Eb
 refine M1 Ea 5 fun K' J ρ q5 => ?_; go_simp; (try clear q5)
 refine Ln Ea J fun _ Eb => ?_; clear J K' Ea
 refine M1 Eb 11 fun K' J ρ q11 => ?_; go_simp; (try clear q11)
 refine late_skip Eb J (fun _ Ea => ?_); clear J K'; clear Eb
 refine late_done [1, 2, 4, 5] Ea hK (fun a hE => ?_); clear hK K Q' Ea; simp only [lk, pick, Nat.reduceEqDiff, ↓reduceIte] at hE
 have r8 := hRQ.set (o := 8) (v := .slice none 0 0) (by simp [sbV])
 have r7 := r8.set (o := 7) (v := .slice none 0 0) (by simp [sbV])
 refine world_cut (fun wt => Below w1.heap.size w1 wt ∧ Q < wt.heap.size ∧ Row wt Q (sbV none 0 none 0 ⟨b.sl, b.lo, b.hi, [], []⟩)) ⟨(h2.setCell hnQ _).setCell hnQ _, by simpa using hlQ, r7⟩ (fun w3 hCut => ?_)
 clear r8 r7 y8 y7 hRQ hlQ h2
 obtain ⟨h3, hlQ, hRQ⟩ := hCut
 have hb3 := hbw1.trans (h3.mono hbw1.size)
 have hCB3 := hCB.below h3
 have nB := hCB3.1
 have c5 := hCB3.2 5 _ rfl
 have c6 := hCB3.2 6 _ rfl
 refine Ks ?_
 refine Rs 6 fun Q' K hK => ?_
 refine M1 hE 2 fun K' J ρ q2 => ?_; go_simp; (try clear q2)
 refine Ln hE J fun _ Eb => ?_; clear J K' hE a
 refine M1 Eb 12 fun K' J ρ q12 => ?_; go_simp; (try clear q12)
 refine Ln Eb J fun _ Ea => ?_; clear J K' Eb
 refine M1 Ea 13 fun K' J ρ q13 => ?_; go_simp; (try clear q13)
 refine Ln Ea J fun _ Eb => ?_; clear J K' Ea
 refine M1 Eb 14 fun K' J ρ q14 => ?_; go_simp; (try go_bits); (try clear q14)
 go_at_call 43; refine (one_any b.lo _).mono ?_; rintro e g1 ⟨rfl, k1⟩
 have hRQ1 := hRQ.below k1 hlQ
 have h31 := h3.trans (k1.mono h3.size)
 (try clear r14)
 refine Ln Eb J fun _ Ea => ?_; clear J K' Eb
 refine M1 Ea 5 fun K' J ρ q5 => ?_; go_simp; (try clear q5)
 refine Ln Ea J fun _ Eb => ?_; clear J K' Ea
 refine Lp fun K' J => ?_
 have r16 := Eb.at 16 rfl; have r15 := Eb.at 15 rfl
 refine wp_store_mid 25 (.tmp 16) (.tmp 15) rfl Q 5 #[.int .i64 b.lo, .int .i64 b.lo] (eval_of r16) (eval_of r15) (there_at hRQ1 (by simp [sbV])) (by kernel_rfl) (by kernel_rfl) ?_
 (try clear r16 r15)
 refine late_skip Eb J (fun _ Ea => ?_); clear J K'; clear Eb
 refine late_done [1, 2, 4, 5] Ea hK (fun a hE => ?_); clear hK K Q' Ea; simp only [lk, pick, Nat.reduceEqDiff, ↓reduceIte] at hE
 have q := row_stored [.int .i64 b.lo, .int .i64 b.lo] 5 g1 _ hRQ1 (by simp [sbV])
 refine world_cut (fun wt => Below w1.heap.size w1 wt ∧ Q < wt.heap.size ∧ Row wt Q (sbV none 0 none 0 ⟨b.sl, b.lo, b.lo, [], []⟩)) ⟨Lib.below_setCells Q hnQ _ _ h31, by rw [size_setCellsN]; exact Nat.lt_of_lt_of_le hlQ k1.size, q⟩ (fun w4 hCut => ?_)
 clear q hRQ1 h31 hRQ hlQ h3 c5 c6 nB hCB3 hb3
 obtain ⟨h3, hlQ, hRQ⟩ := hCut
 have hb4 := hbw1.trans (h3.mono hbw1.size)
 have hCB3 := hCB.below h3
 have nB := hCB3.1
 have c6 := hCB3.2 6 _ rfl
 refine Ks ?_
 refine Rs 1 fun Q' K hK => ?_
 refine M1 hE 1 fun K' J ρ q1 => ?_; go_simp; (try clear q1)
 refine Ln hE J fun _ Eb => ?_; clear J K' hE a
 refine late_done [1, 2, 4, 5, 17] Eb hK (fun a hE => ?_); clear hK K Q' Eb; simp only [lk, pick, Nat.reduceEqDiff, ↓reduceIte] at hE
 cases most
 ·refine cond_no hE (t := 17) rfl ?_
  refine wp_skip ?_
  exact HF.out b.lo rfl w1 _ B R Q hbw1 hM1 hCB hRD hnR hnQ h3 hlQ hRQ _ (fits_init [(17, .bool false)] hE)
 ·skip
  refine Ks ?_
  refine cond_yes hE (t := 17) rfl ?_
  refine Ks ?_
  refine Rs 6 fun Q' K hK => ?_
  refine M1 hE 2 fun K' J ρ q2 => ?_; go_simp; (try clear q2)
  refine Ln hE J fun _ Eb => ?_; clear J K' hE a
  refine M1 Eb 18 fun K' J ρ q18 => ?_; go_simp; (try clear q18)
  refine Ln Eb J fun _ Ea => ?_; clear J K' Eb
  refine M1 Ea 19 fun K' J ρ q19 => ?_; go_simp; (try clear q19)
  refine Ln Ea J fun _ Eb => ?_; clear J K' Ea
  refine M1 Eb 20 fun K' J ρ q20 => ?_; go_simp; (try go_bits); (try clear q20)
  go_at_call 43; refine (one_any b.hi _).mono ?_; rintro e g1 ⟨rfl, k1⟩
  have hRQ1 := hRQ.below k1 hlQ
  have h31 := h3.trans (k1.mono h3.size)
  (try clear r20)
  refine Ln Eb J fun _ Ea => ?_; clear J K' Eb
  refine M1 Ea 5 fun K' J ρ q5 => ?_; go_simp; (try clear q5)
  refine Ln Ea J fun _ Eb => ?_; clear J K' Ea
  refine Lp fun K' J => ?_
  have r22 := Eb.at 22 rfl; have r21 := Eb.at 21 rfl
  refine wp_store_mid 25 (.tmp 22) (.tmp 21) rfl Q 5 #[.int .i64 b.hi, .int .i64 b.hi] (eval_of r22) (eval_of r21) (there_at hRQ1 (by simp [sbV])) (by kernel_rfl) (by kernel_rfl) ?_
  (try clear r22 r21)
  refine late_skip Eb J (fun _ Ea => ?_); clear J K'; clear Eb
  refine late_done [1, 2, 4, 5] Ea hK (fun a hE => ?_); clear hK K Q' Ea; simp only [lk, pick, Nat.reduceEqDiff, ↓reduceIte] at hE
  have q := row_stored [.int .i64 b.hi, .int .i64 b.hi] 5 g1 _ hRQ1 (by simp [sbV])
  refine world_cut (fun wt => Below w1.heap.size w1 wt ∧ Q < wt.heap.size ∧ Row wt Q (sbV none 0 none 0 ⟨b.sl, b.hi, b.hi, [], []⟩)) ⟨Lib.below_setCells Q hnQ _ _ h31, by rw [size_setCellsN]; exact Nat.lt_of_lt_of_le hlQ k1.size, q⟩ (fun w5 hCut => ?_)
  clear q hRQ1 h31 hRQ hlQ h3 hb4 nB c6 hCB3
  obtain ⟨h3, hlQ, hRQ⟩ := hCut
  exact HF.out b.hi rfl w1 _ B R Q hbw1 hM1 hCB hRD hnR hnQ h3 hlQ hRQ _ hE
end
end Go.Proofs.YtkhmcofmjjmjhaaDoor
