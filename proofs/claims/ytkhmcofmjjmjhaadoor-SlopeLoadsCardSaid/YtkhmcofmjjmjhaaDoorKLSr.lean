/- Slope: what an hour brings, one after another: the closure that calls itself. -/
import Derived.Test.YtkhmcofmjjmjhaaDoorKLSq
import Derived.Test.YtkhmcofmjjmjhaaDoorKLRs

namespace Go.Proofs.YtkhmcofmjjmjhaaDoor
set_option linter.unusedSimpArgs false
set_option linter.unusedVariables false
open Go Go.RowKit
attribute [local go_sem high] cell_set_wr
attribute [local go_sem low] cell_wr frozen_wr
attribute [local go_sem] wr_set wr_drew wr_drewN wr_alloc wr_new Rho.c Rho.n Rho.g
def srcs (x : Hp) : List (Int × Int × Int) := [(x.sl.snow, x.hr.n1, x.hr.n2), (x.sl.wind, x.hr.w1, x.hr.w2), (x.sl.sun, x.hr.s1, x.hr.s2)]
def SrcOk (bs : List (Int × Int × Int)) : Prop := ∀ p ∈ bs, (0 ≤ p.1 ∧ p.1 ≤ 5) ∧ 0 ≤ p.2.1 ∧ p.2.1 ≤ p.2.2 ∧ p.2.2 ≤ 9
def fnS (i : Nat) : FuncId := if i = 0 then 113 else if i = 1 then 114 else 115
def allV : List Value := [.func (.func 113) #[] #[], .func (.func 114) #[] #[], .func (.func 115) #[] #[]]
theorem fnS_enter (i : Nat) (args : Array Value) (w : World) : (callFunc (fnS i) args).run Tryd.prog w = .ok (.enter (fnS i) args) w := by
 unfold fnS
 split
 ·kernel_rfl
 ·split <;> (show _ = _) <;> kernel_rfl
theorem bur_any (S : Option Addr) (scap : Nat) (G : Option Addr) (gcap : Nat) (x : Hp) {i : Nat} (hi : i < 3) {wt lo hi' : Int} (h : (srcs x)[i]? = some (wt, lo, hi')) (W : World) : Calls Tryd.prog (fnS i) #[.agg (hpV S scap G gcap x).toArray] W fun e w' => e = .returned (.agg (burV wt lo hi').toArray) ∧ Below W.heap.size W w' := by
 have h3 : i = 0 ∨ i = 1 ∨ i = 2 := by omega
 rcases h3 with rfl | rfl | rfl <;> (simp only [srcs, List.getElem?_cons_zero, List.getElem?_cons_succ, Option.some.injEq, Prod.mk.injEq] at h; obtain ⟨rfl, rfl, rfl⟩ := h)
 ·exact hsnow_any S scap G gcap x W
 ·exact hwind_any S scap G gcap x W
 ·exact hsun_any S scap G gcap x W
/-- what a source brings, of the first ones of its numbers -/
def brP (bs : List (Int × Int × Int)) (wt lo : Int) (parts : List Int) (j : Nat) : List Int := (List.range j).flatMap fun (k : Nat) => bringP bs (parts ++ [wt * (lo + k)])
theorem brP_zero (bs : List (Int × Int × Int)) (wt lo : Int) (parts : List Int) : brP bs wt lo parts 0 = [] := rfl
theorem brP_succ (bs : List (Int × Int × Int)) (wt lo : Int) (parts : List Int) (j : Nat) : brP bs wt lo parts (j + 1) = brP bs wt lo parts j ++ bringP bs (parts ++ [wt * (lo + j)]) := by
 unfold brP
 rw [List.range_succ, List.flatMap_append]
 simp
theorem brP_prefix (bs : List (Int × Int × Int)) (wt lo : Int) (parts : List Int) {j m : Nat} (h : j ≤ m) : brP bs wt lo parts j <+: brP bs wt lo parts m := by
 obtain ⟨d, rfl⟩ : ∃ d, m = j + d := ⟨m - j, by omega⟩
 induction d with
 | zero => exact List.prefix_refl _
 | succ d ih => rw [← Nat.add_assoc, brP_succ]; exact (ih (by omega)).trans (List.prefix_append _ _)
theorem bringP_cons (wt lo hi : Int) (bs : List (Int × Int × Int)) (parts : List Int) : bringP ((wt, lo, hi) :: bs) parts = brP bs wt lo parts (hi - lo + 1).toNat := rfl
theorem ints_snoc (l : List Int) (n : Int) : ints (l ++ [n]) = ints l ++ [.int .i64 n] := by simp [ints]
theorem ArrS.arrD {M : Nat → Prop} {l : Nat} {w : World} {A : Option Addr} {xs : List Value} (h : ArrS M l w A xs) : ArrD w A xs := h.arr
theorem sums_small : ∀ (l : List Int), (∀ n ∈ l, 0 ≤ n ∧ n ≤ 100) → l.length ≤ 1000 → 0 ≤ l.sum ∧ l.sum ≤ 100 * l.length
 | [], _, _ => by simp
 | n :: l, h, hl => by
  have h1 := h n (by simp); have h2 := sums_small l (fun n hn => h n (by simp [hn])) (by simp at hl; omega); rw [List.sum_cons, List.length_cons]
  omega
section
variable (S : Option Addr) (scap : Nat) (G : Option Addr) (gcap : Nat) (x : Hp) (B A3 Y Z l : Nat)
/-- what the closure reads -/
structure BrDat (M : Nat → Prop) (V : World) : Prop where
 cb : CellsS M l V B (hpV S scap G gcap x)
 ca : CellsS M l V A3 allV
 cy : CellsS M l V Y [.func (.yield l) #[] #[]]
 cz : CellsS M l V Z [.func (.func 95) #[] #[.pointer (some ⟨Y, 0, none⟩), .pointer (some ⟨A3, 0, none⟩), .pointer (some ⟨B, 0, none⟩), .pointer (some ⟨Z, 0, none⟩)]]
variable {S scap G gcap x B A3 Y Z l}
theorem BrDat.keep {M M' : Nat → Prop} {V V' : World} (h : BrDat S scap G gcap x B A3 Y Z l M V) (hk : KeepM M l V V') (hg : Grow M M' V) : BrDat S scap G gcap x B A3 Y Z l M' V' := ⟨h.cb.keep hk hg, h.ca.keep hk hg, h.cy.keep hk hg, h.cz.keep hk hg⟩
theorem BrDat.below {M : Nat → Prop} {V V' : World} (h : BrDat S scap G gcap x B A3 Y Z l M V) (hk : Below V.heap.size V V') : BrDat S scap G gcap x B A3 Y Z l M V' := h.keep (.of_below hk) (.refl _ _)
def encI (n : Int) (vs : Array Value) (_ : World) : Prop := vs = #[.int .i64 n]
set_option maxRecDepth 100000 in
set_option maxHeartbeats 4000000 in
/-- behind the last source -/
theorem bring_end (J : List Int → (Nat → Prop) → World → Prop) (Jx : List Int → World → Prop) (XS : List Int) (W : World)
    (hY : ∀ pre x M V vs, J pre M V → W.heap.size ≤ V.heap.size → encI x vs V → pre ++ [x] <+: XS → YieldW Tryd.prog l vs V fun e V' =>
     (e = .returned (.bool true) ∧ ∃ M', J (pre ++ [x]) M' V' ∧ Grow M M' V ∧ KeepM M l V V') ∨ (e = .returned (.bool false) ∧ Jx (pre ++ [x]) V'))
    (hJ : ∀ s M A C, J s M A → Below W.heap.size A C → (∀ k, M k → C.heap[k]? = A.heap[k]?) → J s M C) (hJM : ∀ s M A, J s M A → (∀ k, M k → k < A.heap.size) ∧ ¬ M l)
    (T : Option Addr) (c : Nat) (parts : List Int) (hp3 : parts.length = 3) (hps : ∀ n ∈ parts, 0 ≤ n ∧ n ≤ 100) (M : Nat → Prop) (V : World) (pre : List Int) (h0 : J pre M V) (hp : pre ++ [parts.sum] <+: XS) (hV : W.heap.size ≤ V.heap.size)
    (hD : BrDat S scap G gcap x B A3 Y Z l M V) (hT : ArrS M l V T (ints parts)) :
    Calls Tryd.prog 95 #[.slice T parts.length c, .pointer (some ⟨Y, 0, none⟩), .pointer (some ⟨A3, 0, none⟩), .pointer (some ⟨B, 0, none⟩), .pointer (some ⟨Z, 0, none⟩)] V
     fun e V' => ∃ r, e = .returned (.bool r) ∧ OutR J Jx XS l pre [parts.sum] M V r V' := by
 have hCY := hD.cy.cells; have hTA := hT.arrD
 have HSU := hid fun (W' : World) (hW' : ArrD W' T (ints parts)) => sum_any T c parts W' hW' (by omega) (fun k hk => by
  have := sums_small (parts.take k) (fun n hn => hps n (List.mem_of_mem_take hn)) (by simp; omega); have h3 : (parts.take k).length ≤ 3 := by simp; omega
  omega)
 obtain ⟨s, hs⟩ : ∃ s, parts.sum = s := ⟨_, rfl⟩; rw [hs] at HSU hp ⊢; have HP3 : Hid ((parts.length : Int) = 3) := hid (by omega); clear hs hps hp3; refine En Tryd.func95 Tryd.ntmps95 fun a hE => ?_; obtain ⟨nY, cY0⟩ := hCY.c1; refine Ks ?_; refine Rs 1 fun Q' K hK => ?_; refine M0 fun K' Kh ρ => ?_; go_simp; refine Ln hE Kh fun _ Eb => ?_; clear Kh K' hE a; refine Ld [0, 1, 2, 3, 4] Eb hK fun a hE => ?_; clear hK K Q' Eb; refine Ks ?_; refine Rs 3 fun Q' K hK => ?_; refine M1 hE 0 fun K' Kh ρ q0 => ?_; go_simp; refine Ln hE Kh fun _ Eb => ?_; clear Kh K' hE a q0; refine M1 Eb 9 fun K' Kh ρ q9 => ?_; go_simp; (try go_bits); refine Ln Eb Kh fun _ Ea => ?_; clear Kh K' Eb q9; refine M1 Ea 10 fun K' Kh ρ q10 => ?_; go_simp; (try go_bits); refine Ln Ea Kh fun _ Eb => ?_; clear Kh K' Ea q10; replace Eb := Eb.turn 11 (v' := .bool true) rfl (by (simp [HP3.out])); refine Ld [0, 1, 2, 3, 4, 11] Eb hK fun a hE => ?_; clear hK K Q' Eb; refine Ks ?_; refine cond_yes hE (t := 11) rfl ?_; refine Ks ?_; refine Rd [3, 4] (fun wt => Below V.heap.size V wt) (fun w1 w2 => Below w1.heap.size w1 w2) [(0, some 12), (1, some 13), (2, some 14)] [12, 13, 14] #[true, true, true, false, false] [6] hE ((Below.refl _ _).drew) fun Q' K hK => ?_; refine SeqOps.val ?_ (Sp fun ax wx hS hT' hd K' Kh => ?_) ?_; rotate_left 1
 ·have r1 := Ta hS hE 1; obtain ⟨_, _, _, _, _, _⟩ := bT hT'; refine o1 r1 fun ρ q1 => ?_; go_simp; exact Jo Kh hT'
 refine SeqOps.val ?_ (Sp fun ax wx hS hT' hd K' Kh => ?_) ?_; rotate_left 1
 ·have r0 := Ta hS hE 0; refine o1 r0 fun ρ q0 => ?_; go_simp; exact Jo Kh hT'
 refine SeqOps.val ?_ (Sp fun ax wx hS hT' hd K' Kh => ?_) ?_; rotate_left 1
 ·have r13 := Tv hd 0 1 13; obtain ⟨_, _, _, _, _, _⟩ := bT hT'; refine o1 r13 fun ρ q13 => ?_; go_simp; (try go_bits); go_at_call 96; refine (HSU.out _ (hTA.below hT')).mono ?_; rintro e g1 ⟨rfl, rfl⟩; refine Kh.out _ _ _ rfl ?_ hT' (Below.refl _ _); rfl
 refine SeqOps.nil ?_
 intro V1 hBl; (repeat refine Ek ?_)
 refine fun alx hElx => ?_; simp only [lk, pick, Nat.reduceEqDiff, ↓reduceIte] at hElx; refine Late.yield (by (first | (simp only [List.getElem?_toArray, List.getElem?_cons_succ, List.getElem?_cons_zero]; rfl) | rfl)) rfl (fun K' Kh => ?_); have hJ1 := hJ _ _ _ _ h0 (hBl.mono hV) (fun k hk => hBl.block k ((hJM _ _ _ h0).1 k hk)); refine yield_op (R := fun e V' => ∃ r, e = .returned (.bool r) ∧ OutR J Jx XS l pre [s] M V1 r V') rfl ⟨_, rfl, hElx.eval 12 rfl⟩ (vs := #[.int .i64 s]) (by simp [hElx.eval 14 rfl]) ((hY pre s M V1 _ hJ1 (Nat.le_trans hV hBl.size) rfl hp).mono ?_) ?_
 ·(rintro e V' (⟨rfl, M', h1, h2, h3⟩ | ⟨rfl, h1⟩); (exact ⟨true, rfl, .inl ⟨rfl, M', h1, h2, h3⟩⟩); (exact ⟨false, rfl, .inr ⟨rfl, pre, s, hp, h1⟩⟩))
 rintro e V2 ⟨r, rfl, hO⟩; refine ⟨_, rfl, ?_⟩; refine Ln hElx Kh fun al_1 hEl_1 => ?_; clear Kh K' hElx; refine M1 hEl_1 15 fun K' Kh ρ q15 => ?_; go_simp; (try clear q15); refine Ln hEl_1 Kh fun al_2 hEl_2 => ?_; clear Kh K' hEl_1; refine Ld [6] hEl_2 hK fun a hE => ?_; clear hK K Q' hEl_2; replace hCY := hCY.below hBl; clear nY cY0; obtain ⟨nY, cY0⟩ := hCY.c1; refine Ks ?_; refine ret_one hE rfl rfl ⟨r, rfl, ?_⟩
 rcases hO with ⟨rfl, M', h1, h2, h3⟩ | ⟨rfl, h1⟩
 ·exact .inl ⟨rfl, M', h1, fun k hk => (h2 k hk).imp id fun h => Nat.le_trans hBl.size h, (KeepM.of_below hBl).trans (.refl _ _) h3⟩
 ·exact .inr ⟨rfl, h1⟩
set_option maxRecDepth 100000 in
set_option maxHeartbeats 8000000 in
theorem bring_any (J : List Int → (Nat → Prop) → World → Prop) (Jx : List Int → World → Prop) (XS : List Int) (W : World) (hok : SrcOk (srcs x))
    (hY : ∀ pre x M V vs, J pre M V → W.heap.size ≤ V.heap.size → encI x vs V → pre ++ [x] <+: XS → YieldW Tryd.prog l vs V fun e V' =>
     (e = .returned (.bool true) ∧ ∃ M', J (pre ++ [x]) M' V' ∧ Grow M M' V ∧ KeepM M l V V') ∨ (e = .returned (.bool false) ∧ Jx (pre ++ [x]) V'))
    (hJ : ∀ s M A C, J s M A → Below W.heap.size A C → (∀ k, M k → C.heap[k]? = A.heap[k]?) → J s M C) (hJM : ∀ s M A, J s M A → (∀ k, M k → k < A.heap.size) ∧ ¬ M l) :
    ∀ (r : Nat) (T : Option Addr) (c : Nat) (parts : List Int) (M : Nat → Prop) (V : World) (pre : List Int), parts.length + r = 3 → parts.length ≤ c → (∀ n ∈ parts, 0 ≤ n ∧ n ≤ 100) → J pre M V → pre ++ bringP ((srcs x).drop parts.length) parts <+: XS → W.heap.size ≤ V.heap.size →
    BrDat S scap G gcap x B A3 Y Z l M V → ArrS M l V T (ints parts) → l < V.heap.size →
    Calls Tryd.prog 95 #[.slice T parts.length c, .pointer (some ⟨Y, 0, none⟩), .pointer (some ⟨A3, 0, none⟩), .pointer (some ⟨B, 0, none⟩), .pointer (some ⟨Z, 0, none⟩)] V
     fun e V' => ∃ r, e = .returned (.bool r) ∧ OutR J Jx XS l pre (bringP ((srcs x).drop parts.length) parts) M V r V' := by
 intro r
 induction r with
 | zero =>
  intro T c parts M V pre hk hc hps h0 hp hV hD hT _
  have h3 : parts.length = 3 := by omega
  have hd : (srcs x).drop parts.length = [] := by rw [h3]; rfl
  rw [hd] at hp ⊢; exact bring_end J Jx XS W hY hJ hJM T c parts h3 hps M V pre h0 hp hV hD hT
 | succ r ih =>
  intro T c parts M V pre hk hc hps h0 hp hV hD hT hlV
  have ht3 : parts.length < 3 := by omega
  have htI : (parts.length : Int) < 3 := by omega
  have HTN : Hid (¬ (parts.length : Int) = 3) := hid (by omega); have htl : parts.length < (srcs x).length := ht3; obtain ⟨⟨wt, lo, hi⟩, hs⟩ : ∃ p, (srcs x)[parts.length] = p := ⟨_, rfl⟩; have hget : (srcs x)[parts.length]? = some (wt, lo, hi) := by rw [List.getElem?_eq_getElem htl, hs]
  have hsok := hok (wt, lo, hi) (by rw [← hs]; exact List.getElem_mem htl); simp only at hsok; obtain ⟨⟨hw0, hw5⟩, hl0, hlh, hh9⟩ := hsok; have hdr : (srcs x).drop parts.length = (wt, lo, hi) :: (srcs x).drop (parts.length + 1) := by rw [List.drop_eq_getElem_cons htl, hs]
  rw [hdr, bringP_cons] at hp ⊢; have HB := hid fun W => bur_any S scap G gcap x ht3 hget W; have HBe := hid (fnS_enter parts.length)
  have hcA : V.cell? ⟨A3, parts.length, none⟩ = some (.func (.func (fnS parts.length)) #[] #[]) := hD.ca.2.2.2 _ _ (by
   have h3 : parts.length = 0 ∨ parts.length = 1 ∨ parts.length = 2 := by omega
   rcases h3 with h | h | h <;> rw [h] <;> rfl)
  obtain ⟨F, hF⟩ : ∃ F, fnS parts.length = F := ⟨_, rfl⟩; rw [hF] at HB HBe hcA; clear hF hget hs hdr htl; obtain ⟨bs, hbs⟩ : ∃ bs, (srcs x).drop (parts.length + 1) = bs := ⟨_, rfl⟩; rw [hbs] at hp ⊢; obtain ⟨N, hN⟩ : ∃ N, (hi - lo + 1).toNat = N := ⟨_, rfl⟩; rw [hN] at hp ⊢; have hNI : hi - lo + 1 = (N : Int) := by omega
  have hCB := hD.cb.cells; have hlA := hD.ca.1; clear hN; refine En Tryd.func95 Tryd.ntmps95 fun a hE => ?_; refine Ks ?_; refine Rs 1 fun Q' K hK => ?_; refine M0 fun K' Kh ρ => ?_; go_simp; refine Ln hE Kh fun _ Eb => ?_; clear Kh K' hE a; refine Ld [0, 1, 2, 3, 4] Eb hK fun a hE => ?_; clear hK K Q' Eb; refine Ks ?_; refine Rs 3 fun Q' K hK => ?_; refine M1 hE 0 fun K' Kh ρ q0 => ?_; go_simp; refine Ln hE Kh fun _ Eb => ?_; clear Kh K' hE a q0; refine M1 Eb 9 fun K' Kh ρ q9 => ?_; go_simp; (try go_bits); refine Ln Eb Kh fun _ Ea => ?_; clear Kh K' Eb q9; refine M1 Ea 10 fun K' Kh ρ q10 => ?_; go_simp; (try go_bits); refine Ln Ea Kh fun _ Eb => ?_; clear Kh K' Ea q10; replace Eb := Eb.turn 11 (v' := .bool false) rfl (by (simp [HTN.out])); refine Ld [0, 1, 2, 3, 4, 11] Eb hK fun a hE => ?_; clear hK K Q' Eb; refine Ks ?_; refine cond_no hE (t := 11) rfl ?_; refine Ks ?_; refine Rd [8] (fun wt => Below V.heap.size V wt) (fun w1 w2 => Below w1.heap.size w1 w2) [(0, some 16), (1, some 17), (2, some 18), (3, some 19), (4, some 20), (5, some 21), (6, some 22), (7, some 7)] [16, 17, 18, 19, 20, 21, 22, 7] #[true, true, true, true, true, true, true, true, false] [0, 4] hE ((Below.refl _ _).drew) fun Q' K hK => ?_; refine SeqOps.val ?_ (Sp fun ax wx hS hT' hd K' Kh => ?_) ?_; rotate_left 1
  ·have r0 := Ta hS hE 0; refine o1 r0 fun ρ q0 => ?_; go_simp; exact Jo Kh hT'
  refine SeqOps.val ?_ (Sp fun ax wx hS hT' hd K' Kh => ?_) ?_; rotate_left 1
  ·have r16 := Tv hd 0 0 16; refine o1 r16 fun ρ q16 => ?_; go_simp; (try go_bits); exact Jo Kh hT'
  refine SeqOps.val ?_ (Sp fun ax wx hS hT' hd K' Kh => ?_) ?_; rotate_left 1
  ·have r2 := Ta hS hE 2; have r17 := Tv hd 0 1 17; refine o2 r2 r17 fun ρ q2 q17 => ?_; go_simp; (try go_bits); exact Jo Kh hT'
  refine SeqOps.val ?_ (Sp fun ax wx hS hT' hd K' Kh => ?_) ?_; rotate_left 1
  ·have r18 := Tv hd 0 2 18; refine o1 r18 fun ρ q18 => ?_; go_simp; exact Jo Kh hT'
  refine SeqOps.val ?_ (Sp fun ax wx hS hT' hd K' Kh => ?_) ?_; rotate_left 1
  ·have r19 := Tv hd 0 3 19; obtain ⟨_, _, _, _, _, _⟩ := bT hT'; refine o1 r19 fun ρ q19 => ?_; go_simp; exact Jo Kh hT'
  refine SeqOps.val ?_ (Sp fun ax wx hS hT' hd K' Kh => ?_) ?_; rotate_left 1
  ·have r3 := Ta hS hE 3; obtain ⟨_, _, _, _, _, _⟩ := bT hT'; refine wp_load_mid 113 (.tmp 3) rfl B 0 (eval_of r3) (hpV S scap G gcap x) _ (fun j u hu => by rw [Nat.zero_add]; exact (hCB.below hT').2 j u hu) Tryd.underlying113 rfl (by kernel_rfl) ?_; refine Kh.out _ _ _ rfl ?_ hT' (Below.refl _ _); rfl
  refine SeqOps.val ?_ (Sp fun ax wx hS hT' hd K' Kh => ?_) ?_; rotate_left 1
  ·have r20 := Tv hd 1 4 20; have r21 := Tv hd 0 5 21; obtain ⟨_, _, _, _, _, _⟩ := bT hT'; refine o2 r20 r21 fun ρ q20 q21 => ?_; go_simp; (try go_bits); rw [HBe.out]; go_simp; refine (HB.out _).mono ?_; rintro e g1 ⟨rfl, k1⟩; refine Kh.out _ _ _ rfl ?_ (hT'.trans (k1.mono hT'.size)) k1; rfl
  refine SeqOps.say (fun v wt => ∃ C, v = .pointer (some ⟨C, 0, none⟩) ∧ V.heap.size ≤ C ∧ RowD wt C 3) (fun v x y h ⟨C, h1, h2, h3⟩ => ⟨C, h1, h2, h3.below h⟩) (Sp fun ax wx hS hT' hd K' Kh => ?_) ?_
  ·obtain ⟨_, _, _, _, _, _⟩ := bT hT'; refine o0 fun ρ => ?_; go_simp; exact Kh.out _ _ _ rfl ⟨_, rfl, hT'.size, by simp, _, rfl, row_new _ _ _⟩ (hT'.alloc hT'.size _) ((Below.refl _ _).alloc (Nat.le_refl _) _)
  refine SeqOps.nil ?_
  intro v1 hBl; (repeat refine Ek ?_); (refine fun v h => ?_; obtain ⟨Q, rfl, hnQ, hRQ⟩ := h);
  refine fun alx hElx => ?_; simp only [lk, pick, Nat.reduceEqDiff, ↓reduceIte] at hElx; refine Lp fun K' Kh => ?_; have r7 := hElx.at 7 rfl; have r22 := hElx.at 22 rfl; obtain ⟨hlQ, zs2, hzs2, hRR2⟩ := hRQ; refine wp_store_mid 138 (.tmp 7) (.tmp 22) rfl Q 0 (burV wt lo hi).toArray (eval_of r7) (eval_of r22) (there_row hRR2 (by rw [hzs2]; exact Nat.le_refl _)) (by kernel_rfl) (by kernel_rfl) ?_; (try clear r7 r22); refine late_skip hElx Kh (fun al_1 hEl_1 => ?_); clear Kh K'; clear hElx; refine Ld [0, 4, 7] hEl_1 hK fun a hE => ?_; clear hK K Q' hEl_1; refine world_cut (fun wx => Below V.heap.size V wx ∧ Cells wx Q (burV wt lo hi)) ⟨Lib.below_setCells Q hnQ _ _ hBl, (cells_stored hRR2 (vs := burV wt lo hi) (by rw [hzs2]; rfl) hlQ hnQ hBl).1⟩ (fun w3 hCut => ?_); obtain ⟨h3, hCQ⟩ := hCut; clear hRR2 hlQ hBl hcA hCB hlA; obtain ⟨nQ, cQ0, cQ1, cQ2⟩ := hCQ.c3; refine Ks ?_; refine Rs 9 fun Q' K hK => ?_; refine M1 hE 7 fun K' Kh ρ q7 => ?_; go_simp; refine Ln hE Kh fun _ Eb => ?_; clear Kh K' hE a q7; refine M1 Eb 23 fun K' Kh ρ q23 => ?_; go_simp; refine Ln Eb Kh fun _ Ea => ?_; clear Kh K' Eb q23; refine M1 Ea 24 fun K' Kh ρ q24 => ?_; go_simp; refine Ln Ea Kh fun _ Eb => ?_; clear Kh K' Ea q24; refine M1 Eb 7 fun K' Kh ρ q7 => ?_; go_simp; refine Ln Eb Kh fun _ Ea => ?_; clear Kh K' Eb q7; refine M1 Ea 26 fun K' Kh ρ q26 => ?_; go_simp; refine Ln Ea Kh fun _ Eb => ?_; clear Kh K' Ea q26; refine M1 Eb 27 fun K' Kh ρ q27 => ?_; go_simp; refine Ln Eb Kh fun _ Ea => ?_; clear Kh K' Eb q27
  refine M2 Ea 25 28 fun K' Kh ρ q25 q28 => ?_; go_simp; (try go_bits); (try simp (disch := omega) only [IntWalk.i64_in]); refine Ln Ea Kh fun _ Eb => ?_; clear Kh K' Ea q25 q28; refine M1 Eb 29 fun K' Kh ρ q29 => ?_; go_simp; (try go_bits); (try simp (disch := omega) only [IntWalk.i64_in]); refine Ln Eb Kh fun _ Ea => ?_; clear Kh K' Eb q29; refine M0 fun K' Kh ρ => ?_; go_simp; refine Ln Ea Kh fun _ Eb => ?_; clear Kh K' Ea; refine Ld [0, 4, 7, 30, 31] Eb hK fun a hE => ?_; clear hK K Q' Eb; refine Ks ?_; clear nQ cQ0 cQ1 cQ2
  refine loop_st (fun (j : Nat) a w' => j ≤ N ∧ Fits 54 [(0, .slice T parts.length c), (4, .pointer (some ⟨Z, 0, none⟩)), (7, .pointer (some ⟨Q, 0, none⟩)), (30, .int .i64 N), (31, .int .i64 j)] a ∧
   ∃ M', J (pre ++ brP bs wt lo parts j) M' w' ∧ Grow M M' w3 ∧ KeepM M l w3 w') (fun j => N - j) 0 ?_ (fun j a w' hI => ?_)
  ·exact ⟨Nat.zero_le _, by simpa using hE, M, by rw [brP_zero, List.append_nil]; exact hJ _ _ _ _ h0 (h3.mono hV) (fun q hq => h3.block q ((hJM _ _ _ h0).1 q hq)), .refl _ _, .refl _ _ _⟩
  clear hE; obtain ⟨hj, hE, M', hJr, hGr, hKr⟩ := hI; obtain ⟨wr, hwr⟩ : ∃ x, x = w' := ⟨_, rfl⟩; subst hwr; have hM3 := (hJM _ _ _ h0).1; have hnQM : ¬ M Q := fun h => by have := hM3 _ h; omega
  have hQl : Q ≠ l := by omega
  have hQS : CellsS M l w3 Q (burV wt lo hi) := ⟨hCQ.1, hnQM, hQl, hCQ.2⟩; have hCQr := (hQS.keep hKr hGr).cells; have hDr := (hD.below h3).keep hKr hGr; have hTr := (hT.below h3).keep hKr hGr; have hVr := hKr.size; have hs3 := h3.size
  by_cases hlt : j < N
  ·have hltI : (j : Int) < N := by omega
   have hm1 : 0 ≤ wt * (lo + (j : Int)) ∧ wt * (lo + (j : Int)) ≤ 5 * 9 := mul_to ⟨hw0, hw5⟩ ⟨by omega, by omega⟩; obtain ⟨hm2, hm3⟩ := hm1; obtain ⟨p, hpe⟩ : ∃ p, wt * (lo + (j : Int)) = p := ⟨_, rfl⟩; have HSU := hid (brP_succ bs wt lo parts j); have HPX := hid (brP_prefix bs wt lo parts (j := j + 1) (m := N) hlt); have HPE := hid hpe; rw [hpe] at HSU; have hm4 := hm2; have hm5 := hm3; rw [hpe] at hm4 hm5
   have HPS : Hid (∀ n ∈ parts ++ [p], 0 ≤ n ∧ n ≤ 100) := hid (fun n hn => by
    rcases List.mem_append.1 hn with hn | hn
    ·exact hps n hn
    ·rw [List.mem_singleton.1 hn]; omega)
   have HBS : Hid ((srcs x).drop (parts ++ [p]).length = bs) := hid (by rw [List.length_append]; exact hbs); have hCZ := hDr.cz.cells; have hCQ2 := hCQr; have hTA := hTr.arrD; have hJM' := hJM _ _ _ hJr; clear hpe; obtain ⟨nZ, cZ0⟩ := hCZ.c1; have cQ0 := hCQr.2 0 _ rfl; have cQ1 := hCQr.2 1 _ rfl; have nQ := hCQr.1; refine Ks ?_; refine Rs 1 fun Q' K hK => ?_; refine M2 hE 31 30 fun K' Kh ρ q31 q30 => ?_; go_simp; (try go_bits); refine Ln hE Kh fun _ Eb => ?_; clear Kh K' hE a q31 q30; replace Eb := Eb.turn 32 (v' := .bool true) rfl (by (first | (simp; done) | (simp; omega))); refine Ld [0, 4, 7, 30, 31, 32] Eb hK fun a hE => ?_; clear hK K Q' Eb; refine Ks ?_; refine cond_yes hE (t := 32) rfl ?_; refine Ks ?_; refine Rs 2 fun Q' K hK => ?_; refine M1 hE 31 fun K' Kh ρ q31 => ?_; go_simp; refine Ln hE Kh fun _ Eb => ?_; clear Kh K' hE a q31; refine M1 Eb 33 fun K' Kh ρ q33 => ?_; go_simp; refine Ln Eb Kh fun _ Ea => ?_; clear Kh K' Eb q33; refine Ld [0, 4, 7, 8, 30, 31] Ea hK fun a hE => ?_; clear hK K Q' Ea; refine Ks ?_; refine Rd [17, 18] (fun wt => Below wr.heap.size wr wt) (fun w1 w2 => Below w1.heap.size w1 w2) [(0, some 34), (1, some 35), (2, some 36), (3, some 37), (4, some 38), (5, some 39), (6, some 40), (7, some 41), (8, some 42), (9, some 43), (10, some 44), (11, some 45), (12, some 46), (13, some 47), (14, some 48), (15, some 49), (16, some 50)] [34, 35, 36, 37, 38, 39, 40, 41, 42, 43, 44, 45, 46, 47, 48, 49, 50] #[true, true, true, true, true, true, true, true, true, true, true, true, true, true, true, true, true, false, false] [0, 4, 7, 30, 31, 52] hE ((Below.refl _ _).drew) fun Q' K hK => ?_
   refine SeqOps.val ?_ (Sp fun ax wx hS hT' hd K' Kh => ?_) ?_; rotate_left 1
   ·have r4 := Ta hS hE 4; obtain ⟨_, _, _, _, _, _⟩ := bT hT'; refine o1 r4 fun ρ q4 => ?_; go_simp; exact Jo Kh hT'
   refine SeqOps.val ?_ (Sp fun ax wx hS hT' hd K' Kh => ?_) ?_; rotate_left 1
   ·have r0 := Ta hS hE 0; refine o1 r0 fun ρ q0 => ?_; go_simp; exact Jo Kh hT'
   refine SeqOps.val ?_ (Sp fun ax wx hS hT' hd K' Kh => ?_) ?_; rotate_left 1
   ·have r0 := Ta hS hE 0; refine o1 r0 fun ρ q0 => ?_; go_simp; exact Jo Kh hT'
   refine SeqOps.val ?_ (Sp fun ax wx hS hT' hd K' Kh => ?_) ?_; rotate_left 1
   ·have r36 := Tv hd 0 2 36; refine o1 r36 fun ρ q36 => ?_; go_simp; (try go_bits); exact Jo Kh hT'
   refine SeqOps.val ?_ (Sp fun ax wx hS hT' hd K' Kh => ?_) ?_; rotate_left 1
   ·have r0 := Ta hS hE 0; refine o1 r0 fun ρ q0 => ?_; go_simp; exact Jo Kh hT'
   refine SeqOps.val ?_ (Sp fun ax wx hS hT' hd K' Kh => ?_) ?_; rotate_left 1
   ·have r38 := Tv hd 0 4 38; refine o1 r38 fun ρ q38 => ?_; go_simp; (try go_bits); exact Jo Kh hT'
   refine SeqOps.val ?_ (Sp fun ax wx hS hT' hd K' Kh => ?_) ?_; rotate_left 1
   ·have r35 := Tv hd 4 1 35; have r37 := Tv hd 2 3 37; have r39 := Tv hd 0 5 39; obtain ⟨_, _, _, _, _, _⟩ := bT hT'; refine o3 r35 r37 r39 fun ρ q35 q37 q39 => ?_; go_simp; (try go_bits); exact Jo Kh hT'
   refine SeqOps.val ?_ (Sp fun ax wx hS hT' hd K' Kh => ?_) ?_; rotate_left 1
   ·have r7 := Ta hS hE 7; refine o1 r7 fun ρ q7 => ?_; go_simp; exact Jo Kh hT'
   refine SeqOps.val ?_ (Sp fun ax wx hS hT' hd K' Kh => ?_) ?_; rotate_left 1
   ·have r41 := Tv hd 0 7 41; obtain ⟨_, _, _, _, _, _⟩ := bT hT'; refine o1 r41 fun ρ q41 => ?_; go_simp; exact Jo Kh hT'
   refine SeqOps.val ?_ (Sp fun ax wx hS hT' hd K' Kh => ?_) ?_; rotate_left 1
   ·have r7 := Ta hS hE 7; refine o1 r7 fun ρ q7 => ?_; go_simp; exact Jo Kh hT'
   refine SeqOps.val ?_ (Sp fun ax wx hS hT' hd K' Kh => ?_) ?_; rotate_left 1
   ·have r43 := Tv hd 0 9 43; refine o1 r43 fun ρ q43 => ?_; go_simp; exact Jo Kh hT'
   refine SeqOps.val ?_ (Sp fun ax wx hS hT' hd K' Kh => ?_) ?_; rotate_left 1
   ·have r44 := Tv hd 0 10 44; obtain ⟨_, _, _, _, _, _⟩ := bT hT'; refine o1 r44 fun ρ q44 => ?_; go_simp; exact Jo Kh hT'
   refine SeqOps.val ?_ (Sp fun ax wx hS hT' hd K' Kh => ?_) ?_; rotate_left 1
   ·have r8 := Ta hS hE 8; refine o1 r8 fun ρ q8 => ?_; go_simp; exact Jo Kh hT'
   refine SeqOps.val ?_ (Sp fun ax wx hS hT' hd K' Kh => ?_) ?_; rotate_left 1
   ·have r45 := Tv hd 1 11 45; have r46 := Tv hd 0 12 46; refine o2 r45 r46 fun ρ q45 q46 => ?_; go_simp; (try go_bits); (try simp (disch := omega) only [IntWalk.i64_in]); exact Jo Kh hT'
   refine SeqOps.val ?_ (Sp fun ax wx hS hT' hd K' Kh => ?_) ?_; rotate_left 1
   ·have r42 := Tv hd 5 8 42; have r47 := Tv hd 0 13 47; obtain ⟨_, _, _, _, _, _⟩ := bT hT'; refine o2 r42 r47 fun ρ q42 q47 => ?_; go_simp; (try go_bits); (try simp (disch := omega) only [IntWalk.i64_in]); rw [HPE.out]; refine Kh.out _ _ _ rfl ?_ hT' (Below.refl _ _); rfl
   refine SeqOps.say (fun v wt => ∃ g, v = .slice (some ⟨g, 0, none⟩) 1 1 ∧ g < wt.heap.size ∧ wt.cell? ⟨g, 0, none⟩ = some (.int .i64 p)) (fun v x y h ⟨g, h1, h2, h3⟩ => ⟨g, h1, Nat.lt_of_lt_of_le h2 h.size, (h.cell (p := ⟨g, 0, none⟩) h2).trans h3⟩) (Sp fun ax wx hS hT' hd K' Kh => ?_) ?_
   ·have r48 := Tv hd 0 14 48; obtain ⟨_, _, _, _, _, _⟩ := bT hT'; refine o1 r48 fun ρ q48 => ?_; go_simp; exact Kh.out _ _ _ rfl ⟨_, rfl, by simp, by simp [go_sem]⟩ (hT'.alloc hT'.size _) ((Below.refl _ _).alloc (Nat.le_refl _) _)
   refine SeqOps.say (fun v wt => ∃ g c', v = .slice (some ⟨g, 0, none⟩) (parts.length + 1) c' ∧ parts.length + 1 ≤ c' ∧ wr.heap.size ≤ g ∧ g < wt.heap.size ∧ (∀ j u, (ints (parts ++ [p]))[j]? = some u → wt.cell? ⟨g, j, none⟩ = some u)) (fun v x y h ⟨g, c', h1, h2, h3, h4, h5⟩ => ⟨g, c', h1, h2, h3, Nat.lt_of_lt_of_le h4 h.size, fun j u hu => (h.cell (p := ⟨g, j, none⟩) h4).trans (h5 j u hu)⟩) (Sp fun ax wx hS hT' hd K' Kh => ?_) ?_
   ·have r40 := Tv hd 9 6 40; obtain ⟨v49, r49, h49⟩ := Tg hd 0 15 49; obtain ⟨g12, rfl, hg1, hg2⟩ := h49; obtain ⟨_, _, _, _, _, _⟩ := bT hT'; refine wp_appFull (.tmp 40) (.tmp 49) 40 rfl 3 (.int .i64 0) 1 8 Tryd.underlying40 (by kernel_rfl) rfl (by decide) T parts.length (ints parts) (eval_of r40) (hTA.below hT') (by rw [ints_length]; omega) ⟨g12, 0, none⟩ 1 1 [.int .i64 p] (eval_of r49) ?_ (by decide) rfl ?_ (by simp only [maxLen]; omega) (by omega) (fun g c' w' q1 q2 q3 q4 q5 q6 => ?_)
    ·(intro j u hu; (match j, hu with | 0, hu => (cases hu; exact hg2) | j + 1, hu => simp at hu))
    ·(intro u hu; rw [List.mem_singleton.1 hu]; rfl)
    exact Kh.out _ _ _ rfl ⟨g, c', rfl, q4, Nat.le_trans hT'.size q1, q2, by rw [ints_snoc]; exact q3⟩ (hT'.trans (q5.mono hT'.size)) q5
   refine SeqOps.nil ?_
   intro w4 hBm; (repeat refine Ek ?_); (refine fun v h => ?_; obtain ⟨g12, rfl, hg1, hg2⟩ := h); (refine fun v h => ?_; obtain ⟨g13, c13, rfl, hh1, hh2, hh3, hh4⟩ := h);
   refine fun amx hEmx => ?_; simp only [lk, pick, Nat.reduceEqDiff, ↓reduceIte] at hEmx; refine M2 hEmx 34 50 fun K' Kh ρ q34 q50 => ?_; go_simp; (try go_bits); (try clear q34 q50); have hD4 := hDr.below hBm; have hT4 : ArrS M' l w4 (some ⟨g13, 0, none⟩) (ints (parts ++ [p])) := fun _ => ⟨g13, 0, rfl, hh3, fun hm => by (have := hJM'.1 _ hm; omega), by omega, fun j u hu => by rw [Nat.zero_add]; exact hh4 j u hu⟩; have hJ4 := hJ _ _ _ _ hJr (hBm.mono (by omega)) (fun q hq => hBm.block q (hJM'.1 q hq)); have hs4 := hBm.size; have hpre4 : pre ++ brP bs wt lo parts j ++ bringP bs (parts ++ [p]) <+: XS := by (rw [List.append_assoc, ← HSU.out]; refine List.IsPrefix.trans ?_ hp; exact (List.prefix_append_right_inj pre).2 HPX.out)
   have ihc := ih (some ⟨g13, 0, none⟩) c13 (parts ++ [p]) M' w4 _ (by simp; omega) (by simp; omega) HPS.out hJ4 (by rw [HBS.out]; exact hpre4) (by omega) hD4 hT4 (by omega); rw [HBS.out] at ihc; simp only [List.length_append, List.length_cons, List.length_nil, Nat.zero_add, Int.natCast_add, Int.natCast_one] at ihc; go_at_call 95; refine ihc.mono ?_; rintro e w5 ⟨r, rfl, hO⟩; (try clear r34 r50); refine Ln hEmx Kh fun am_1 hEm_1 => ?_; clear Kh K' hEmx; refine M1 hEm_1 51 fun K' Kh ρ q51 => ?_; go_simp; (try go_bits); (try simp (disch := omega) only [IntWalk.i64_in]); (try clear q51); refine Ln hEm_1 Kh fun am_2 hEm_2 => ?_; clear Kh K' hEm_1; refine Ld [0, 4, 7, 30, 31, 52] hEm_2 hK fun a hE => ?_; clear hK K Q' hEm_2; replace hCZ := hCZ.below hBm; clear nZ cZ0; obtain ⟨nZ, cZ0⟩ := hCZ.c1; refine Ks ?_; refine cond_part hE (t := 52) rfl (fun h => ?_) (fun h => ?_)
   ·have hx : r = false := by simpa using h
    clear h; refine Ks ?_; refine Rs 1 fun Q' K hK => ?_; refine M0 fun K' Kh ρ => ?_; go_simp; refine Ln hE Kh fun _ Eb => ?_; clear Kh K' hE a; refine Ld [6] Eb hK fun a hE => ?_; clear hK K Q' Eb; refine Ks ?_; exact ret_one hE rfl rfl ⟨false, rfl, hO.false hx⟩
   ·have hx : r = true := by simpa using h
    obtain ⟨M5, hJ5, hG5, hK5⟩ := hO.true hx; clear h; refine Ks ?_; refine Rs 2 fun Q' K hK => ?_; refine M1 hE 31 fun K' Kh ρ q31 => ?_; go_simp; (try go_bits); (try simp (disch := omega) only [IntWalk.i64_in]); refine Ln hE Kh fun _ Eb => ?_; clear Kh K' hE a q31; refine M1 Eb 53 fun K' Kh ρ q53 => ?_; go_simp; refine Ln Eb Kh fun _ Ea => ?_; clear Kh K' Eb q53; refine Ld [0, 4, 7, 30, 31] Ea hK fun a hE => ?_; clear hK K Q' Ea; refine Ks ?_; have hs4 := hBm.size; have hk4 := hKr.below hBm; refine ⟨j + 1, ⟨hlt, by simpa using hE, M5, ?_, hGr.trans hG5 hk4.size, hk4.trans hGr hK5⟩, by omega⟩; rw [HSU.out, ← List.append_assoc]; exact hJ5
  ·have hje : j = N := by omega
   subst hje; refine Ks ?_; refine Rs 1 fun Q' K hK => ?_; refine M2 hE 31 30 fun K' Kh ρ q31 q30 => ?_; go_simp; (try go_bits); refine Ln hE Kh fun _ Eb => ?_; clear Kh K' hE a q31 q30; replace Eb := Eb.turn 32 (v' := .bool false) rfl (by simp); refine Ld [0, 4, 7, 30, 31, 32] Eb hK fun a hE => ?_; clear hK K Q' Eb; refine Ks ?_; refine cond_no hE (t := 32) rfl ?_; refine Ks ?_; refine Rs 1 fun Q' K hK => ?_; refine M0 fun K' Kh ρ => ?_; go_simp; refine Ln hE Kh fun _ Eb => ?_; clear Kh K' hE a; refine Ld [6] Eb hK fun a hE => ?_; clear hK K Q' Eb; refine Ks ?_; refine ret_one hE rfl rfl ⟨true, rfl, .inl ⟨rfl, M', hJr, ?_, (KeepM.of_below h3).trans (.refl _ _) hKr⟩⟩; exact fun k hk => (hGr k hk).imp id fun h => Nat.le_trans hs3 h
end
end Go.Proofs.YtkhmcofmjjmjhaaDoor
