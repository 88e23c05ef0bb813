/- Slope: a book is prepared. -/
import Derived.Test.YtkhmcofmjjmjhaaDoorKLSr
import Derived.Shelf.Small.Bits
import Derived.Shelf.Strconv.Itoa0
import Derived.Shelf.Slices.Turned
import Derived.Test.YtkhmcofmjjmjhaaDoorProg
namespace Go.Proofs.YtkhmcofmjjmjhaaDoor
set_option linter.unusedSimpArgs false
set_option linter.unusedVariables false
open Go Go.Shelf
def sh_lays125_ren : Go.Shelf.Ren := ⟨fun | 125 => 89 | 128 => 111 | 129 => 112 | n => n, fun | 46 => 91 | 3 => 3 | 51 => 151 | 53 => 153 | 4 => 4 | 5 => 5 | 9 => 9 | n => n, fun | n => n⟩
theorem sh_lays125 : Go.Proofs.Lays.n125 Tryd.prog sh_lays125_ren := {
 mixed := by kernel_rfl
 f125 := Tryd.func89.trans (congrArg some (by kernel_rfl))
 f128 := Tryd.func111.trans (congrArg some (by kernel_rfl))
 f129 := Tryd.func112.trans (congrArg some (by kernel_rfl))
 t3 := Tryd.underlying3
 a3 := Tryd.isAgg3
 z3 := Tryd.sizeOf3
 v3 := Tryd.zeroValue3
 t4 := Tryd.underlying4
 a4 := Tryd.isAgg4
 z4 := Tryd.sizeOf4
 v4 := Tryd.zeroValue4
 t5 := Tryd.underlying5
 a5 := Tryd.isAgg5
 z5 := Tryd.sizeOf5
 v5 := Tryd.zeroValue5
 t9 := Tryd.underlying9
 a9 := Tryd.isAgg9
 z9 := Tryd.sizeOf9
 v9 := Tryd.zeroValue9
 t46 := Tryd.underlying91
 a46 := Tryd.isAgg91
 z46 := Tryd.sizeOf91
 v46 := Tryd.zeroValue91
 t51 := Tryd.underlying151
 a51 := Tryd.isAgg151
 z51 := Tryd.sizeOf151
 v51 := Tryd.zeroValue151
 t53 := Tryd.underlying153
 a53 := Tryd.isAgg153
 z53 := Tryd.sizeOf153
 v53 := Tryd.zeroValue153 }
theorem sh_bits_Len (x : Int) (w : World) (h0 : 0 ≤ x) (h1 : x ≤ 18446744073709551615) :
    Calls Tryd.prog 89 #[.int .u64 x] w fun e w' => e = .returned (.int .i64 (Lib.bitLen x.toNat)) ∧ w' = w := Any.bits_Len sh_lays125 x w h0 h1
def sh_lays107_ren : Go.Shelf.Ren := ⟨fun | 107 => 81 | 108 => 97 | n => n, fun | 28 => 40 | 3 => 3 | 4 => 4 | 0 => 0 | n => n, fun | n => n⟩
theorem sh_lays107 : Go.Proofs.Lays.n107 Tryd.prog sh_lays107_ren := {
 mixed := by kernel_rfl
 f107 := Tryd.func81.trans (congrArg some (by kernel_rfl))
 f108 := Tryd.func97.trans (congrArg some (by kernel_rfl))
 t0 := Tryd.underlying0
 a0 := Tryd.isAgg0
 z0 := Tryd.sizeOf0
 v0 := Tryd.zeroValue0
 t3 := Tryd.underlying3
 a3 := Tryd.isAgg3
 z3 := Tryd.sizeOf3
 v3 := Tryd.zeroValue3
 t4 := Tryd.underlying4
 a4 := Tryd.isAgg4
 z4 := Tryd.sizeOf4
 v4 := Tryd.zeroValue4
 t28 := Tryd.underlying40
 a28 := Tryd.isAgg40
 z28 := Tryd.sizeOf40
 v28 := Tryd.zeroValue40 }
theorem sh_slices_Contains_int (b off n c : Nat) (zs : List Int) (x : Int) (w : World) (hz : n ≤ zs.length) (hbig : n ≤ 9223372036854775807) (hc : ∀ j, j < zs.length → w.cell? ⟨b, off + j, none⟩ = some (.int .i64 (zs.getD j 0))) :
    Calls Tryd.prog 81 #[.slice (some ⟨b, off, none⟩) n c, .int .i64 x] w fun e w' => e = .returned (.bool ((zs.take n).contains x)) ∧ w' = w := Any.slices_Contains_int sh_lays107 b off n c zs x w hz hbig hc
theorem sh_slices_Contains_int_empty (a : Option Addr) (c : Nat) (x : Int) (w : World) :
    Calls Tryd.prog 81 #[.slice a 0 c, .int .i64 x] w fun e w' => e = .returned (.bool false) ∧ w' = w := Any.slices_Contains_int_empty sh_lays107 a c x w
end Go.Proofs.YtkhmcofmjjmjhaaDoor
namespace Go.Proofs.YtkhmcofmjjmjhaaDoor
set_option linter.unusedSimpArgs false
set_option linter.unusedVariables false
open Go Go.RowKit
attribute [local go_sem high] cell_set_wr
attribute [local go_sem low] cell_wr frozen_wr
attribute [local go_sem] wr_set wr_drew wr_drewN wr_alloc wr_new Rho.c Rho.n Rho.g
attribute [local go_sem] run_store_func
section
variable (S : Option Addr) (scap : Nat) (G : Option Addr) (gcap : Nat) (x : Hp)
set_option maxRecDepth 100000 in
theorem brought_any (w : World) : Calls Tryd.prog 80 #[.agg (hpV S scap G gcap x).toArray] w fun e w' => ∃ B, e = .returned (.func (.func 93) #[] #[.pointer (some ⟨B, 0, none⟩)]) ∧ w.heap.size ≤ B ∧ Cells w' B (hpV S scap G gcap x) ∧ Below w.heap.size w w' := by
 refine En Tryd.func80 Tryd.ntmps80 fun a hE => ?_; refine Ks ?_; refine Rs 2 fun Q' K hK => ?_; refine M1 hE 0 fun K' Kh ρ q0 => ?_; go_simp; refine Ln hE Kh fun _ Eb => ?_; clear Kh K' hE a q0; refine Go.Proofs.YtkhmcofmjjmjhaaDoor.M0 fun K' Kh ρ => ?_; go_simp; refine Ln Eb Kh fun _ Ea => ?_; clear Kh K' Eb; refine Ld [1] Ea hK fun a hE => ?_; clear hK K Q' Ea; obtain ⟨B, hBe⟩ : ∃ B, B = w.heap.size := ⟨_, rfl⟩; have hnB : w.heap.size ≤ B := Nat.le_of_eq hBe.symm; rw [← hBe] at hE; refine world_cut (fun wt => Below w.heap.size w wt ∧ B < wt.heap.size ∧ Row wt B (hpV S scap G gcap x)) ⟨(Below.refl _ _).alloc (Nat.le_refl _) _, by rw [hBe]; simp, by rw [hBe]; exact row_new _ _ _⟩ (fun w1 hCut => ?_); obtain ⟨hbw1, hlB, hRB⟩ := hCut; clear hBe; refine Ks ?_; refine Rs 2 fun Q' K hK => ?_; refine M1 hE 1 fun K' Kh ρ q1 => ?_; go_simp; refine Ln hE Kh fun _ Eb => ?_; clear Kh K' hE a q1; refine M1 Eb 3 fun K' Kh ρ q3 => ?_; go_simp; refine Ln Eb Kh fun _ Ea => ?_; clear Kh K' Eb q3; refine Ld [2] Ea hK fun a hE => ?_; clear hK K Q' Ea; refine Ks ?_; exact ret_one hE rfl rfl ⟨B, rfl, hnB, row_cells hRB hlB, hbw1⟩
variable {S scap G gcap x}
set_option maxRecDepth 100000 in
set_option maxHeartbeats 1000000 in
theorem brought_seq {B : Nat} {M0 : Nat → Prop} {w0 : World} (hok : SrcOk (srcs x)) (hB : Cells w0 B (hpV S scap G gcap x)) (hBM : ¬ M0 B) : SeqR Tryd.prog 93 #[.pointer (some ⟨B, 0, none⟩)] encI M0 (bringP (srcs x) []) w0 := by
 intro l J Jx W hb hl1 hl2 hJ hJx hJM hY hJ0
 have hM := hJM _ _ _ hJ0; have hs0 := hb.size
 show Calls Tryd.prog 93 #[.func (.yield l) #[] #[], .pointer (some ⟨B, 0, none⟩)] W _
 refine En Tryd.func93 Tryd.ntmps93 fun a hE => ?_; refine Ks ?_; refine Rs 1 fun Q' K hK => ?_; refine M1 hE 0 fun K' Kh ρ q0 => ?_; go_simp; refine Ln hE Kh fun _ Eb => ?_; clear Kh K' hE a q0; refine Ld [1, 2] Eb hK fun a hE => ?_; clear hK K Q' Eb; obtain ⟨Y, hYe⟩ : ∃ B, B = W.heap.size := ⟨_, rfl⟩; have hnY : W.heap.size ≤ Y := Nat.le_of_eq hYe.symm; rw [← hYe] at hE; refine world_cut (fun wt => Below W.heap.size W wt ∧ Y < wt.heap.size ∧ Row wt Y [.func (.yield l) #[] #[]]) ⟨(Below.refl _ _).alloc (Nat.le_refl _) _, by rw [hYe]; simp, by rw [hYe]; exact row_new _ _ _⟩ (fun w1 hCut => ?_); obtain ⟨hbw1, hlY, hRY⟩ := hCut; clear hYe; refine Ks ?_; refine Rs 3 fun Q' K hK => ?_; refine Go.Proofs.YtkhmcofmjjmjhaaDoor.M0 fun K' Kh ρ => ?_; go_simp; (try go_bits); go_at_call 94; refine (sources_any _).mono ?_; rintro e w2 ⟨rfl, h2⟩; refine Ln hE Kh fun _ Eb => ?_; clear Kh K' hE a; refine Go.Proofs.YtkhmcofmjjmjhaaDoor.M0 fun K' Kh ρ => ?_; go_simp; refine Ln Eb Kh fun _ Ea => ?_; clear Kh K' Eb; refine Lp fun K' Kh => ?_; have r3 := Ea.at 3 rfl; have r5 := Ea.at 5 rfl; refine wp_store_mid 133 (.tmp 3) (.tmp 5) rfl w2.heap.size 0 allV.toArray (eval_of r3) (eval_of r5) (there_row (row_new w2 _ _) (Nat.le_of_eq rfl)) (by kernel_rfl) (by kernel_rfl) ?_; (try clear r3 r5); refine late_skip Ea Kh (fun _ Eb => ?_); clear Kh K'; clear Ea; refine Ld [1, 2, 3] Eb hK fun a hE => ?_; clear hK K Q' Eb; obtain ⟨A3, hA3⟩ : ∃ B, B = w2.heap.size := ⟨_, rfl⟩; rw [← hA3] at hE; have hnA : w1.heap.size ≤ A3 := by rw [hA3]; exact h2.size
 refine world_cut (fun wt => Below w1.heap.size w1 wt ∧ Cells wt A3 allV) ?_ (fun w3 hCut => ?_)
 ·rw [hA3]; have q := boxed_new w2 (#[.nilFunc, .nilFunc, .nilFunc] : Array Value) 133 allV rfl; exact ⟨h2.trans (q.1.mono h2.size), q.2⟩
 obtain ⟨h3, hCA⟩ := hCut; have hRY3 := hRY.below h3 hlY; have hlY3 := Nat.lt_of_lt_of_le hlY h3.size; clear hA3 h2; have hbw3 := hbw1.trans (h3.mono hbw1.size); refine Ks ?_; refine Rs 1 fun Q' K hK => ?_; refine Go.Proofs.YtkhmcofmjjmjhaaDoor.M0 fun K' Kh ρ => ?_; go_simp; refine Ln hE Kh fun _ Eb => ?_; clear Kh K' hE a; refine Ld [1, 2, 3, 4] Eb hK fun a hE => ?_; clear hK K Q' Eb; obtain ⟨Z, hZe⟩ : ∃ B, B = w3.heap.size := ⟨_, rfl⟩; have hnZ : w3.heap.size ≤ Z := Nat.le_of_eq hZe.symm; rw [← hZe] at hE; refine world_cut (fun wt => Below w3.heap.size w3 wt ∧ Z < wt.heap.size ∧ Row wt Z [.nilFunc]) ⟨(Below.refl _ _).alloc (Nat.le_refl _) _, by rw [hZe]; simp, by rw [hZe]; exact row_new _ _ _⟩ (fun w4 hCut => ?_); obtain ⟨hbw4, hlZ, hRZ⟩ := hCut; clear hZe; have hz0 := (hRZ 0 _ rfl).1; have hzw := (hRZ 0 _ rfl).2; have h4 := hbw4; have hbw4 := hbw3.trans (h4.mono hbw3.size); refine Ks ?_; refine Rs 2 fun Q' K hK => ?_; refine Lp fun K' Kh => ?_; have r2 := hE.at 2 rfl; have r3 := hE.at 3 rfl; have r1 := hE.at 1 rfl; have r4 := hE.at 4 rfl; refine op_run (fun ρ hρ qc qf qg => ?_); have q2 := rho hρ r2; have q3 := rho hρ r3; have q1 := rho hρ r1; have q4 := rho hρ r4; clear hρ; go_simp; (try clear r2 q2 r3 q3 r1 q1 r4 q4); (try clear r2 r3 r1 r4); refine Ln hE Kh fun _ Eb => ?_; clear Kh K' hE a; refine M2 Eb 4 6 fun K' Kh ρ q4 q6 => ?_; go_simp; (try clear q4 q6); refine late_skip Eb Kh (fun _ Ea => ?_); clear Kh K'; clear Eb; refine Ld [4] Ea hK fun a hE => ?_; clear hK K Q' Ea
 have hs1 := hbw1.size; have hs3 := h3.size; have hs4 := h4.size; have hlA := hCA.1; refine world_cut (fun wt => Below W.heap.size W wt ∧ Cells wt Y [.func (.yield l) #[] #[]] ∧ Cells wt A3 allV ∧ Cells wt Z [.func (.func 95) #[] #[.pointer (some ⟨Y, 0, none⟩), .pointer (some ⟨A3, 0, none⟩), .pointer (some ⟨B, 0, none⟩), .pointer (some ⟨Z, 0, none⟩)]]) ⟨hbw4.setCell (by simp only; omega) _, row_cells ((hRY3.below h4 hlY3).other (by omega)) (by simp; omega), ?_, row_cells (hRZ.set (by simp)) (by simp; omega)⟩ (fun w5 hC => ?_)
 ·exact ⟨by simp; omega, fun j u hu => by rw [World.cell?_setCell_other _ _ _ _ (by intro e'; have := congrArg Addr.block e'; simp only at this; omega)]; exact (h4.cell (p := ⟨A3, j, none⟩) hlA).trans (hCA.2 j u hu)⟩
 obtain ⟨hB5, hCY, hCA5, hCZ⟩ := hC; clear hz0 hzw hRY hRY3 hRZ; obtain ⟨nZ, cZ0⟩ := hCZ.c1; have hlY5 := hCY.1; have hB05 := hb.trans (hB5.mono hs0); have hCB := hB.below hB05; have hD : BrDat S scap G gcap x B A3 Y Z l M0 w5 := ⟨⟨hCB.1, hBM, by have := hB.1; omega, hCB.2⟩, ⟨hCA5.1, fun h => by have := hM.1 _ h; omega, by omega, hCA5.2⟩, ⟨hCY.1, fun h => by have := hM.1 _ h; omega, by omega, hCY.2⟩, ⟨hCZ.1, fun h => by have := hM.1 _ h; omega, by omega, hCZ.2⟩⟩; have hJ5 := hJ _ _ _ _ hJ0 hB5 (fun k hk => hB5.block k (hM.1 k hk)); have hs5 := hB5.size; have hc := bring_any J Jx (bringP (srcs x) []) W hok hY hJ hJM 3 none 0 [] M0 w5 [] rfl (Nat.le_refl _) (fun _ h => absurd h (by simp)) hJ5 (by simp) hs5 hD (fun h => absurd rfl h) (by omega); refine Ks ?_; refine Rs 2 fun Q' K hK => ?_; refine M1 hE 4 fun K' Kh ρ q4 => ?_; go_simp; refine Ln hE Kh fun _ Eb => ?_; clear Kh K' hE a q4; refine M1 Eb 7 fun K' Kh ρ q7 => ?_; go_simp; (try go_bits); (try clear q7); go_at_call 95; refine hc.mono ?_; rintro e w6 ⟨r, rfl, hO⟩; (try clear r7); refine Ln Eb Kh fun _ Ea => ?_; clear Kh K' Eb; refine Ld [] Ea hK fun a hE => ?_; clear hK K Q' Ea; refine Ks ?_; refine bodyPost_end (results_none rfl _ _ _) hE.1 ⟨⟨_, rfl⟩, ?_⟩
 rcases hO with ⟨_, M', h1, _⟩ | ⟨_, h1⟩
 ·exact .inl ⟨M', by simpa using h1⟩
 ·exact .inr h1
end
theorem contains_any (T : Option Addr) (c : Nat) (li : List Int) (x : Int) (w : World) (hA : ArrD w T (ints li)) (hl : li.length ≤ 9223372036854775807) : Calls Tryd.prog 81 #[.slice T li.length c, .int .i64 x] w fun e w' => e = .returned (.bool (li.contains x)) ∧ w = w' := by
 by_cases h : li = []
 ·subst h; exact (sh_slices_Contains_int_empty T c x w).mono fun e w' h => ⟨h.1, h.2.symm⟩
 ·obtain ⟨b, o, rfl, hb, hc⟩ := hA (fun e => h (List.eq_nil_of_length_eq_zero (by rw [← ints_length, e]; rfl))); refine (sh_slices_Contains_int b o li.length c li x w (Nat.le_refl _) hl (fun j hj => ?_)).mono fun e w' h => ⟨?_, h.2.symm⟩
  ·exact hc j _ (by simp [ints, hj, List.getD_eq_getElem?_getD])
  ·rw [h.1, List.take_of_length_le (Nat.le_refl _)]
theorem ownB2 (a : Option Addr) (n c : Nat) : (Value.slice a n c).ownBlock = a.map (·.block) := by cases a <;> rfl
theorem own_lt2 {w : World} {base : Nat} {e : TypeId} {size : Nat} {v : Value} {n : Nat} {xs : List Value} (h : w.ownsRow base e size v n xs) : ∀ g, v.ownBlock = some g → g < w.heap.size := fun g hg => by
 obtain ⟨_, h | ⟨g', c, cur, hv, _, hh, _⟩⟩ := h
 ·rw [h.1] at hg; cases hg
 ·rw [hv] at hg
  cases hg
  exact (Array.getElem?_eq_some_iff.1 hh).1
/-- two rows of two types lie in two blocks -/
theorem own_apart {w : World} {b1 b2 : Nat} {e1 e2 : TypeId} {s1 s2 : Nat} {v1 v2 : Value} {n1 n2 : Nat} {x1 x2 : List Value} (h1 : w.ownsRow b1 e1 s1 v1 n1 x1) (h2 : w.ownsRow b2 e2 s2 v2 n2 x2) (hne : e1 ≠ e2) : ∀ g, v1.ownBlock = some g → v2.ownBlock ≠ some g := fun g hg hg2 => by
 obtain ⟨_, h1 | ⟨g1, c1, cur1, hv1, _, hh1, _⟩⟩ := h1
 ·rw [h1.1] at hg; cases hg
 ·obtain ⟨_, h2 | ⟨g2, c2, cur2, hv2, _, hh2, _⟩⟩ := h2
  ·rw [h2.1] at hg2; cases hg2
  ·rw [hv1] at hg; rw [hv2] at hg2
   cases hg
   cases hg2
   rw [hh1] at hh2; simp at hh2; exact hne hh2.2
theorem own_arr {w : World} {base : Nat} {e : TypeId} {size : Nat} {S : Option Addr} {n c : Nat} {xs : List Value} (h : w.ownsRow base e size (.slice S n c) n xs) : ArrD w S xs := by
 obtain ⟨A2, c2, hv, _, _, ha⟩ := own_form h; rw [Value.slice.injEq] at hv; obtain ⟨rfl, _, rfl⟩ := hv; exact ha
theorem sis_snoc (l : List Si) (s : Si) : sis (l ++ [s]) = sis l ++ s.cells := by simp [sis]
theorem seenAt_take (l : List Si) (i : Nat) {j : Nat} (h : j < l.length) : seenAt (l.take (j + 1)) i = seenAt (l.take j) i ++ (if l[j].hour = (i : Int) then [l[j]] else []) := by
 unfold seenAt
 rw [List.take_succ_eq_append_getElem h, List.filter_append]
 congr 1
 by_cases e : l[j].hour = (i : Int) <;> simp [e]
/-- an hour that is being prepared, in a block of its own -/
structure HrS (N Hb : Nat) (x : Hp) (V : World) (S : Option Addr) (sc : Nat) (G : Option Addr) (gc : Nat) : Prop where
 ge : N ≤ Hb
 lt : Hb < V.heap.size
 row : Row V Hb (hpV S sc G gc x)
 si : V.ownsRow (Hb + 1) 68 4 (.slice S x.sights.length sc) x.sights.length (sis x.sights)
 br : V.ownsRow (Hb + 1) 3 1 (.slice G x.brings.length gc) x.brings.length (ints x.brings)
theorem HrS.on {N Hb : Nat} {x : Hp} {V V' : World} {S : Option Addr} {sc : Nat} {G : Option Addr} {gc : Nat} (h : HrS N Hb x V S sc G gc) (hb : Below V.heap.size V V') : HrS N Hb x V' S sc G gc := ⟨h.ge, Nat.lt_of_lt_of_le h.lt hb.size, h.row.below hb h.lt, own_below h.si hb, own_below h.br hb⟩
/-- prepared hours, with where their lists lie -/
abbrev Pm := Hp × Option Addr × Nat × Option Addr × Nat
def pmC (p : Pm) : List Value := hpV p.2.1 p.2.2.1 p.2.2.2.1 p.2.2.2.2 p.1
structure PrS (H : Option Addr) (hcap : Nat) (S : Option Addr) (scap : Nat) (b : Sb) (C : Nat) (w : World) (i : Nat) (A : Option Addr) (c : Nat) (ps : List Pm) (V : World) : Prop where
 below : Below w.heap.size w V
 len : ps.map (·.1) = (hpsOf b).take i
 cnt : ps.length = i
 lt : C < V.heap.size
 row : Row V C (bkV H hcap S scap b A i c)
 own : V.ownsRow (C + 1) 113 13 (.slice A i c) i (ps.flatMap pmC)
 each : ∀ p ∈ ps, V.ownsRow (C + 1) 68 4 (.slice p.2.1 p.1.sights.length p.2.2.1) p.1.sights.length (sis p.1.sights) ∧ V.ownsRow (C + 1) 3 1 (.slice p.2.2.2.1 p.1.brings.length p.2.2.2.2) p.1.brings.length (ints p.1.brings)
theorem PrS.on {H : Option Addr} {hcap : Nat} {S : Option Addr} {scap : Nat} {b : Sb} {C : Nat} {w : World} {i : Nat} {A : Option Addr} {c : Nat} {ps : List Pm} {V V' : World} (h : PrS H hcap S scap b C w i A c ps V) (hb : Below V.heap.size V V') : PrS H hcap S scap b C w i A c ps V' :=
 ⟨h.below.trans (hb.mono h.below.size), h.len, h.cnt, Nat.lt_of_lt_of_le h.lt hb.size, h.row.below hb h.lt, own_below h.own hb, fun p hp => ⟨own_below (h.each p hp).1 hb, own_below (h.each p hp).2 hb⟩⟩
theorem pm_length (ps : List Pm) : (ps.flatMap pmC).length = ps.length * 13 := flat_length pmC 13 (fun _ => rfl) ps
/-- a list in a block from some block on -/
def ArrG (N : Nat) (w : World) (A : Option Addr) (xs : List Value) : Prop := xs ≠ [] → ∃ b o, A = some ⟨b, o, none⟩ ∧ N ≤ b ∧ b < w.heap.size ∧ ∀ j u, xs[j]? = some u → w.cell? ⟨b, o + j, none⟩ = some u
theorem ArrG.arr {N : Nat} {w : World} {A : Option Addr} {xs : List Value} (h : ArrG N w A xs) : ArrD w A xs := fun hx => by
 obtain ⟨b, o, e, _, h1, h2⟩ := h hx; exact ⟨b, o, e, h1, h2⟩
theorem ArrG.keep {N : Nat} {w w' : World} {A : Option Addr} {xs : List Value} (h : ArrG N w A xs) (hs : w.heap.size ≤ w'.heap.size) (hc : ∀ p u, N ≤ p.block → w.cell? p = some u → w'.cell? p = some u) : ArrG N w' A xs := fun hx => by
 obtain ⟨b, o, e, h0, h1, h2⟩ := h hx; exact ⟨b, o, e, h0, Nat.lt_of_lt_of_le h1 hs, fun j u hu => hc _ u h0 (h2 j u hu)⟩
theorem ArrG.less {N N' : Nat} {w : World} {A : Option Addr} {xs : List Value} (h : ArrG N w A xs) (hN : N' ≤ N) : ArrG N' w A xs := fun hx => by
 obtain ⟨b, o, e, h0, h1, h2⟩ := h hx; exact ⟨b, o, e, by omega, h1, h2⟩
theorem own_arrG {w : World} {base : Nat} {e : TypeId} {size : Nat} {S : Option Addr} {n c : Nat} {xs : List Value} (h : w.ownsRow base e size (.slice S n c) n xs) : ArrG base w S xs := fun hx => by
 rcases Nat.eq_zero_or_pos n with hn | hn
 ·have := h.1; rw [hn, Nat.zero_mul] at this; exact absurd (List.eq_nil_of_length_eq_zero this) hx
 ·obtain ⟨g, cap, hv, h1, h2, _, _, h3, _⟩ := own_new h hn; rw [Value.slice.injEq] at hv; exact ⟨g, 0, hv.1, h1, h2, fun j u hu => by rw [Nat.zero_add]; exact h3 j u hu⟩
/-- prepared hours in blocks from some block on -/
def HpsN (N : Nat) (w : World) (P : Option Addr) (xs : List Hp) : Prop := ∀ k (h : k < xs.length), ∃ b o S sc G gc, P = some ⟨b, o, none⟩ ∧ N ≤ b ∧ b < w.heap.size ∧ w.rangeAt b (o + k * 13) (hpV S sc G gc xs[k]) ∧ ArrG N w S (sis xs[k].sights) ∧ ArrG N w G (ints xs[k].brings)
theorem HpsN.at {N : Nat} {w : World} {P : Option Addr} {xs : List Hp} (h : HpsN N w P xs) : HpsAt w P xs := fun k hk => by
 obtain ⟨b, o, S, sc, G, gc, h1, _, h2, h3, h4, h5⟩ := h k hk; exact ⟨b, o, S, sc, G, gc, h1, h2, h3, h4.arr, h5.arr⟩
theorem HpsN.keep {N : Nat} {w w' : World} {P : Option Addr} {xs : List Hp} (h : HpsN N w P xs) (hs : w.heap.size ≤ w'.heap.size) (hc : ∀ p u, N ≤ p.block → w.cell? p = some u → w'.cell? p = some u) : HpsN N w' P xs := fun k hk => by
 obtain ⟨b, o, S, sc, G, gc, h1, h0, h2, h3, h4, h5⟩ := h k hk; exact ⟨b, o, S, sc, G, gc, h1, h0, Nat.lt_of_lt_of_le h2 hs, fun j u hu => hc _ u h0 (h3 j u hu), h4.keep hs hc, h5.keep hs hc⟩
theorem HpsN.less {N N' : Nat} {w : World} {P : Option Addr} {xs : List Hp} (h : HpsN N w P xs) (hN : N' ≤ N) : HpsN N' w P xs := fun k hk => by
 obtain ⟨b, o, S, sc, G, gc, h1, h0, h2, h3, h4, h5⟩ := h k hk; exact ⟨b, o, S, sc, G, gc, h1, by omega, h2, h3, h4.less hN, h5.less hN⟩
theorem HpsN.below {N : Nat} {w w' : World} {P : Option Addr} {xs : List Hp} (h : HpsN N w P xs) (hb : Below w.heap.size w w') : HpsN N w' P xs := fun k hk => by
 obtain ⟨b, o, S, sc, G, gc, h1, h0, h2, h3, h4, h5⟩ := h k hk
 have ar : ∀ {A : Option Addr} {xs : List Value}, ArrG N w A xs → ArrG N w' A xs := fun h hx => by
  obtain ⟨b, o, e, q0, q1, q2⟩ := h hx; exact ⟨b, o, e, q0, Nat.lt_of_lt_of_le q1 hb.size, fun j u hu => (hb.cell (p := ⟨b, o + j, none⟩) q1).trans (q2 j u hu)⟩
 exact ⟨b, o, S, sc, G, gc, h1, h0, Nat.lt_of_lt_of_le h2 hb.size, fun j u hu => (hb.cell (p := ⟨b, o + k * 13 + j, none⟩) h2).trans (h3 j u hu), ar h4, ar h5⟩
theorem PrS.hps {H : Option Addr} {hcap : Nat} {S : Option Addr} {scap : Nat} {b : Sb} {C : Nat} {w : World} {i : Nat} {A : Option Addr} {c : Nat} {ps : List Pm} {V : World} (h : PrS H hcap S scap b C w i A c ps V) : HpsN (C + 1) V A (ps.map (·.1)) := fun k hk => by
 have hk' : k < ps.length := by simpa using hk
 obtain ⟨b0, o0, e, h1, h2⟩ := ArrD.range (f := pmC) (m := 13) (fun _ => rfl) (by omega) (own_arr h.own) hk'; obtain ⟨b1, o1, e1, h0, _⟩ := own_arrG h.own (fun e => by have := pm_length ps; rw [e] at this; simp at this; omega); rw [e] at e1
 cases e1
 have he := h.each _ (List.getElem_mem hk'); refine ⟨b0, o0, ps[k].2.1, ps[k].2.2.1, ps[k].2.2.2.1, ps[k].2.2.2.2, e, h0, h1, ?_, ?_⟩
 ·simp only [List.getElem_map]; exact h2
 ·simp only [List.getElem_map]; exact ⟨own_arrG he.1, own_arrG he.2⟩
theorem cell_taken {ds : List Nat} {V : World} (hd : ∀ d ∈ ds, V.heap[d]? = some (.deferred (some []))) {p : Addr} {u : Value} (h : V.cell? p = some u) : (taken ds V).cell? p = some u := by
 have hn : p.block ∉ ds := fun hm => by
  have := hd _ hm; simp [World.cell?, this] at h
 exact (World.cell?_of_block (w := V) (a := p) (taken_block ds V _ hn)).trans h
theorem size_taken (ds : List Nat) (V : World) : V.heap.size ≤ (taken ds V).heap.size := (taken_below (B := 0) ds V V (fun _ _ => Nat.zero_le _) (Nat.zero_le _) (Below.refl _ _)).size
/-- a prepared hour is put behind the others -/
theorem PrS.snoc {H : Option Addr} {hcap : Nat} {S : Option Addr} {scap : Nat} {b : Sb} {C : Nat} {w : World} {i : Nat} {A : Option Addr} {c : Nat} {ps : List Pm} {V V' : World} (h : PrS H hcap S scap b C w i A c ps V) (hi : i < (hpsOf b).length) {Hb : Nat} {S' : Option Addr} {sc : Nat} {G : Option Addr} {gc : Nat} (hC : w.heap.size ≤ C) (hCH : C < Hb) (hx : HrS Hb Hb (hpsOf b)[i] V S' sc G gc) {A2 : Option Addr} {c2 : Nat}
    (q1 : i + 1 ≤ c2) (q3 : V'.ownsRow (C + 1) 113 13 (.slice A2 (i + 1) c2) (i + 1) (ps.flatMap pmC ++ hpV S' sc G gc (hpsOf b)[i])) (q4 : (V.alloc (.cells (hpV S' sc G gc (hpsOf b)[i]).toArray 113)).grownBy V' (Value.slice A i c).ownBlock) :
    PrS H hcap S scap b C w (i + 1) A2 c2 (ps ++ [((hpsOf b)[i], S', sc, G, gc)]) (V'.setCell ⟨C, 9, none⟩ (.slice A2 (i + 1) c2)) := by
 have hlow : Below (C + 1) V V' := ((Below.refl (C + 1) V).alloc (by have := h.lt; omega) _).grown q4 (by simp; have := h.lt; omega) (fun k e => ownBlock_le h.own k e); have hsz := h.lt
 have keep : ∀ {e : TypeId} {size : Nat} {v : Value} {n : Nat} {xs : List Value} {base : Nat}, base = C + 1 → e ≠ 113 → V.ownsRow base e size v n xs → (V'.setCell ⟨C, 9, none⟩ (.slice A2 (i + 1) c2)).ownsRow base e size v n xs := fun hbase hne ho => by
  refine own_of_block ho (by simpa using hlow.size) fun g hg => ?_; have hg1 := own_lt2 ho g hg; have hg2 := ownBlock_le ho g hg; have hg3 := own_apart h.own ho (fun e => hne e.symm); refine (Below.heap_setCell _ _ _ _ (by simp only; omega)).trans ?_; refine (q4.block g (by simp; omega) (fun e => hg3 g e.symm hg)).trans (Below.heap_alloc _ _ _ hg1)
 refine ⟨(h.below.trans (hlow.mono (by omega))).setCell hC _, ?_, by simp [h.cnt], by simpa using Nat.lt_of_lt_of_le h.lt hlow.size, ?_, ?_, fun p hp => ?_⟩
 ·rw [List.map_append, h.len, List.take_succ_eq_append_getElem hi]; rfl
 ·have := (row_of_block h.row (hlow.block C (by omega))).set (o := 9) (v := .slice A2 (i + 1) c2) (by simp [bkV])
  simpa [bkV] using this
 ·rw [List.flatMap_append, List.flatMap_cons, List.flatMap_nil, List.append_nil]; refine own_of_block q3 (by simp) fun g hg => Below.heap_setCell _ _ _ _ (by have := ownBlock_le q3 g hg; simp only; omega)
 ·rcases List.mem_append.1 hp with hp | hp
  ·exact ⟨keep rfl (by decide) (h.each p hp).1, keep rfl (by decide) (h.each p hp).2⟩
  ·rw [List.mem_singleton.1 hp]; exact ⟨keep rfl (by decide) (own_mono hx.si (by omega)), keep rfl (by decide) (own_mono hx.br (by omega))⟩
/-- one more sight in an hour that is being prepared -/
theorem HrS.seen {Hb : Nat} {hr : Hr} {sl : Sl} {ss : List Si} {bs : List Int} {V V' : World} {S : Option Addr} {sc : Nat} {G : Option Addr} {gc : Nat} (h : HrS Hb Hb ⟨hr, sl, ss, bs⟩ V S sc G gc) (s : Si) {A2 : Option Addr} {c2 : Nat}
    (q3 : V'.ownsRow (Hb + 1) 68 4 (.slice A2 (ss.length + 1) c2) (ss.length + 1) (sis ss ++ s.cells)) (q4 : (V.alloc (.cells s.cells.toArray 68)).grownBy V' (Value.slice S ss.length sc).ownBlock) :
    HrS Hb Hb ⟨hr, sl, ss ++ [s], bs⟩ (V'.setCell ⟨Hb, 11, none⟩ (.slice A2 (ss.length + 1) c2)) A2 c2 G gc ∧ Below Hb V (V'.setCell ⟨Hb, 11, none⟩ (.slice A2 (ss.length + 1) c2)) ∧ Wr V' Hb 11 := by
 have hsz := h.lt; have hlow : Below (Hb + 1) V V' := ((Below.refl (Hb + 1) V).alloc (by omega) _).grown q4 (by simp; omega) (fun k e => ownBlock_le h.si k e); have hrow := row_of_block h.row (hlow.block Hb (by omega)); have hl1 : ss.length + 1 = (ss ++ [s]).length := by simp
 refine ⟨⟨Nat.le_refl _, by simpa using Nat.lt_of_lt_of_le hsz hlow.size, ?_, ?_, ?_⟩, (hlow.mono (Nat.le_succ Hb) : Below Hb V V').setCell (Nat.le_refl Hb) _, (hrow 11 _ rfl).2⟩
 ·have := hrow.set (o := 11) (v := .slice A2 (ss.length + 1) c2) (by simp [hpV])
  simpa [hpV] using this
 ·rw [sis_snoc, ← hl1]; refine own_of_block q3 (by simp) fun g hg => ?_; have hg2 := ownBlock_le q3 g hg; exact Below.heap_setCell _ _ _ _ (by simp only; omega)
 ·refine own_of_block h.br (by simpa using hlow.size) fun g hg => ?_; have hg1 := own_lt2 h.br g hg; have hg2 := ownBlock_le h.br g hg; have hg3 := own_apart h.si h.br (by decide); refine (Below.heap_setCell _ _ _ _ (by simp only; omega)).trans ?_; exact (q4.block g (by simp; omega) (fun e => hg3 g e.symm hg)).trans (Below.heap_alloc _ _ _ hg1)
/-- one more number that it brings -/
theorem HrS.more {Hb : Nat} {hr : Hr} {sl : Sl} {ss : List Si} {bs : List Int} {V V' : World} {S : Option Addr} {sc : Nat} {G : Option Addr} {gc : Nat} (h : HrS Hb Hb ⟨hr, sl, ss, bs⟩ V S sc G gc) (s : Int) {A2 : Option Addr} {c2 : Nat}
    (q3 : V'.ownsRow (Hb + 1) 3 1 (.slice A2 (bs.length + 1) c2) (bs.length + 1) (ints bs ++ [.int .i64 s])) (q4 : (V.alloc (.cells #[.int .i64 s] 3)).grownBy V' (Value.slice G bs.length gc).ownBlock) (q5 : ∀ k, (Value.slice A2 (bs.length + 1) c2).ownBlock = some k → (Value.slice G bs.length gc).ownBlock = some k ∨ (V.alloc (.cells #[.int .i64 s] 3)).heap.size ≤ k) :
    HrS Hb Hb ⟨hr, sl, ss, bs ++ [s]⟩ (V'.setCell ⟨Hb, 12, none⟩ (.slice A2 (bs.length + 1) c2)) S sc A2 c2 ∧ Below Hb V (V'.setCell ⟨Hb, 12, none⟩ (.slice A2 (bs.length + 1) c2)) ∧ Wr V' Hb 12 ∧
     KeepA (fun k => k = Hb ∨ G.map (·.block) = some k) V (V'.setCell ⟨Hb, 12, none⟩ (.slice A2 (bs.length + 1) c2)) ∧ Grow (fun k => k = Hb ∨ G.map (·.block) = some k) (fun k => k = Hb ∨ A2.map (·.block) = some k) V := by
 have hsz := h.lt; have hlow : Below (Hb + 1) V V' := ((Below.refl (Hb + 1) V).alloc (by omega) _).grown q4 (by simp; omega) (fun k e => ownBlock_le h.br k e); have hrow := row_of_block h.row (hlow.block Hb (by omega)); have hl1 : bs.length + 1 = (bs ++ [s]).length := by simp
 refine ⟨⟨Nat.le_refl _, by simpa using Nat.lt_of_lt_of_le hsz hlow.size, ?_, ?_, ?_⟩, (hlow.mono (Nat.le_succ Hb) : Below Hb V V').setCell (Nat.le_refl Hb) _, (hrow 12 _ rfl).2, ?_, ?_⟩
 ·have := hrow.set (o := 12) (v := .slice A2 (bs.length + 1) c2) (by simp [hpV])
  simpa [hpV] using this
 ·refine own_of_block h.si (by simpa using hlow.size) fun g hg => ?_; have hg1 := own_lt2 h.si g hg; have hg2 := ownBlock_le h.si g hg; have hg3 := own_apart h.br h.si (by decide); refine (Below.heap_setCell _ _ _ _ (by simp only; omega)).trans ?_; exact (q4.block g (by simp; omega) (fun e => hg3 g e.symm hg)).trans (Below.heap_alloc _ _ _ hg1)
 ·rw [ints_snoc, ← hl1]; refine own_of_block q3 (by simp) fun g hg => ?_; have hg2 := ownBlock_le q3 g hg; exact Below.heap_setCell _ _ _ _ (by simp only; omega)
 ·refine (KeepA.mk hlow.size fun k hk hM => ?_).set Hb 12 _ (.inl rfl); refine (q4.block k (by simp; omega) (fun e => hM (.inr (by rw [← ownB2 G bs.length gc]; exact e.symm)))).trans (Below.heap_alloc _ _ _ hk)
 ·rintro k (rfl | hk)
  ·exact .inl (.inl rfl)
  ·rcases q5 k (by rw [ownB2]; exact hk) with h5 | h5
   ·exact .inl (.inr (by rw [ownB2] at h5; exact h5))
   ·exact .inr (by simp at h5; omega)
end Go.Proofs.YtkhmcofmjjmjhaaDoor
