/- Slope: the law SlopeHolds. -/
import Derived.Test.YtkhmcofmjjmjhaaDoorScv
import Derived.Test.YtkhmcofmjjmjhaaDoorScu
import Derived.Test.YtkhmcofmjjmjhaaDoorScn
namespace Go.Proofs.YtkhmcofmjjmjhaaDoor
set_option linter.unusedSimpArgs false
set_option linter.unusedVariables false
open Go Go.RowKit
attribute [local go_sem high] cell_set_wr
attribute [local go_sem low] cell_wr frozen_wr
attribute [local go_sem] wr_set wr_drew wr_drewN wr_alloc wr_new Rho.c Rho.n Rho.g

theorem hrs_one (l : List Hr) (u : Value) (h : u ∈ hrs l) : u.oneCell' = true := by
 obtain ⟨s, _, h⟩ := List.mem_flatMap.1 h
 exact hr_one s u h
theorem hrs_set : ∀ (l : List Hr) (h : Nat) (hh : h < l.length) (j : Nat) (_ : j < 6) (X : Hr) (v : Value) (_ : X.cells = l[h].cells.set j v), (hrs l).set (h * 6 + j) v = hrs (l.set h X)
 | x :: l, 0, hh, j, hj, X, v, hX => by
  have e : hrs (x :: l) = x.cells ++ hrs l := by simp [hrs]
  have e2 : hrs ((x :: l).set 0 X) = X.cells ++ hrs l := by simp [hrs]
  rw [e, e2, hX, Nat.zero_mul, Nat.zero_add]
  exact List.set_append_left _ _ (by simpa [Hr.cells] using hj)
 | x :: l, h + 1, hh, j, hj, X, v, hX => by
  have e : hrs (x :: l) = x.cells ++ hrs l := by simp [hrs]
  have e2 : hrs ((x :: l).set (h + 1) X) = x.cells ++ hrs (l.set h X) := by simp [hrs]
  have hl : x.cells.length = 6 := rfl
  rw [e, e2, List.set_append_right _ _ (by rw [hl]; omega), hl, show (h + 1) * 6 + j - 6 = h * 6 + j by omega]
  congr 1
  exact hrs_set l h (by simpa using hh) j hj X v hX
theorem own_set {w : World} {base : Nat} {e : TypeId} {size : Nat} {v : Value} {n : Nat} {xs : List Value} (h : w.ownsRow base e size v n xs) {g : Nat} (hg : v.ownBlock = some g) {o : Nat} (u : Value) : (w.setCell ⟨g, o, none⟩ u).ownsRow base e size v n (xs.set o u) := by
 obtain ⟨hl, h | ⟨g', cap, cur, hv, hb, hh, hn, hm, hc, ht⟩⟩ := h
 ·rw [h.1] at hg; simp [Value.ownBlock] at hg
 ·rw [hv] at hg
  simp [Value.ownBlock] at hg
  subst hg
  refine ⟨by simp [hl], .inr ⟨g', cap, cur.setIfInBounds o u, hv, hb, ?_, hn, hm, by simp [hc], ?_⟩⟩
  ·show (w.heap.modify g' _)[g']? = _
   rw [Array.getElem?_modify]
   simp [hh]
  ·rw [← ht, Array.toList_setIfInBounds, List.take_set]
theorem own_wr {w : World} {base : Nat} {e : TypeId} {size : Nat} {v : Value} {n : Nat} {xs : List Value} (h : w.ownsRow base e size v n xs) {g : Nat} (hg : v.ownBlock = some g) {o : Nat} (ho : o < n * size) : Wr w g o := by
 obtain ⟨hl, h | ⟨g', cap, cur, hv, hb, hh, hn, hm, hc, ht⟩⟩ := h
 ·rw [h.1] at hg; simp [Value.ownBlock] at hg
 ·rw [hv] at hg
  simp [Value.ownBlock] at hg
  subst hg
  have ho2 : o < cur.size := by
   rw [hc]
   exact Nat.lt_of_lt_of_le ho (Nat.mul_le_mul_right _ hn)
  exact Wr.of (v := cur[o]) (by simp [World.cell?, hh, ho2]) (by simp [World.frozen?, hh])
section
variable (H : Option Addr) (hcap : Nat) (S : Option Addr) (scap : Nat) (b : Sb)
set_option maxRecDepth 100000 in
set_option maxHeartbeats 4000000 in
theorem holds_loop (la lb : List Nat) (hla : la.length ≤ 1000) (hlb : lb.length ≤ 1000) (hin : ∀ k ∈ la, k ∈ lb) (T1 T2 : Option Addr) (u1 u2 : Nat) (w V : World) (hTw : TabW V) (hbV : Below w.heap.size w V) (hT1 : ArrD V T1 (nats la)) (hT2 : ArrD V T2 (nats lb)) (a : Act) (hE : Fits 172 [(10, .slice T1 la.length u1), (12, .slice T2 lb.length u2)] a) :
    (cr 13 (bodyOf Tryd.f11)).wp Tryd.prog (bodyPost Tryd.prog Tryd.f11 fun e w' => e = .returned (.bool true) ∧ Below w.heap.size w w') a V := by
 have HIN := hid fun (k : Nat) (hk : k < la.length) => atN_mem (hin la[k] (List.getElem_mem hk))
 have HAt := hid fun (i : Nat) (W : World) (hW : ArrD W T2 (nats lb)) => atC T2 u2 lb (by omega) i W hW
 clear hin
 refine wp_seq ?_; refine Ks ?_
 refine Rs 1 fun Q' K hK => ?_
 refine M0 fun K' J ρ => ?_; go_simp;
 refine Ln hE J fun _ Eb => ?_; clear J K' hE a
 refine late_done [10, 12, 14] Eb hK (fun a hE => ?_); clear hK K Q' Eb; simp only [lk, pick, Nat.reduceEqDiff, ↓reduceIte] at hE
 refine Ks ?_
 refine loop_st (fun (k : Nat) a w' => k ≤ la.length ∧ Fits 172 [(10, .slice T1 la.length u1), (12, .slice T2 lb.length u2), (14, .int .i64 k)] a ∧ Below V.heap.size V w') (fun k => la.length - k) 0 ⟨Nat.zero_le _, by simpa using hE, Below.refl _ _⟩ (fun k a ws hI => ?_)
 clear hE
 obtain ⟨hk2, hE, hW⟩ := hI
 have hbs := hbV.trans (hW.mono hbV.size)
 have hT1 := hT1.below hW
 have hT2 := hT2.below hW
 have hTw := hTw.below hW
 by_cases hlt2 : k < la.length
 ·have hltI : (k : Int) < la.length := by omega
  have hAk := HIN.out k hlt2
  obtain ⟨bx, ox, hTe, hbx, x0⟩ := hT1.nat hlt2
  subst hTe
  obtain ⟨y, hy⟩ : ∃ y, la[k] = y := ⟨_, rfl⟩
  rw [hy] at hAk x0
  obtain ⟨z, hz⟩ : ∃ z, atI (lb.map fun (n : Nat) => (n : Int)) (y : Int) = z := ⟨_, rfl⟩
  have hA := HAt.out y _ hT2
  rw [hz] at hAk hA
  have HA := hid hA
  clear hA hz hy
  refine Ks ?_
  refine Rs 4 fun Q' K hK => ?_
  refine M1 hE 14 fun K' J ρ q14 => ?_; go_simp; (try clear q14)
  refine Ln hE J fun _ Eb => ?_; clear J K' hE a
  refine M1 Eb 10 fun K' J ρ q10 => ?_; go_simp; (try clear q10)
  refine Ln Eb J fun _ Ea => ?_; clear J K' Eb
  refine M1 Ea 159 fun K' J ρ q159 => ?_; go_simp; (try go_bits); (try clear q159)
  refine Ln Ea J fun _ Eb => ?_; clear J K' Ea
  refine M2 Eb 158 160 fun K' J ρ q158 q160 => ?_; go_simp; (try go_bits); (try clear q158 q160)
  refine Ln Eb J fun _ Ea => ?_; clear J K' Eb
  replace Ea := Ea.turn 161 (v' := .bool true) rfl (by (first | (simp; done) | (simp; omega)))
  refine late_done [10, 12, 14, 161] Ea hK (fun a hE => ?_); clear hK K Q' Ea; simp only [lk, pick, Nat.reduceEqDiff, ↓reduceIte] at hE
  refine Ks ?_
  refine cond_yes hE (t := 161) rfl ?_
  refine Ks ?_
  refine Rs 7 fun Q' K hK => ?_
  refine M1 hE 12 fun K' J ρ q12 => ?_; go_simp; (try clear q12)
  refine Ln hE J fun _ Eb => ?_; clear J K' hE a
  refine M1 Eb 10 fun K' J ρ q10 => ?_; go_simp; (try clear q10)
  refine Ln Eb J fun _ Ea => ?_; clear J K' Eb
  refine M1 Ea 14 fun K' J ρ q14 => ?_; go_simp; (try clear q14)
  refine Ln Ea J fun _ Eb => ?_; clear J K' Ea
  refine M2 Eb 165 166 fun K' J ρ q165 q166 => ?_; go_simp; (try go_bits); (try clear q165 q166)
  refine Ln Eb J fun _ Ea => ?_; clear J K' Eb
  refine M1 Ea 167 fun K' J ρ q167 => ?_; go_simp; (try clear q167)
  refine Ln Ea J fun _ Eb => ?_; clear J K' Ea
  refine M2 Eb 164 168 fun K' J ρ q164 q168 => ?_; go_simp; (try go_bits); (try clear q164 q168)
  go_at_call 39; refine (HA.out).mono ?_; rintro e' wu ⟨rfl, hu⟩
  (try clear r164 r168)
  refine Ln Eb J fun _ Ea => ?_; clear J K' Eb
  refine M1 Ea 169 fun K' J ρ q169 => ?_; go_simp; (try go_bits); (try clear q169)
  refine Ln Ea J fun _ Eb => ?_; clear J K' Ea
  replace Eb := Eb.turn 170 (v' := .bool false) rfl (by (first | (simp; done) | (simp; omega)))
  refine late_done [10, 12, 14, 170] Eb hK (fun a hE => ?_); clear hK K Q' Eb; simp only [lk, pick, Nat.reduceEqDiff, ↓reduceIte] at hE
  have hWu := hW.trans (hu.mono hW.size)
  refine Ks ?_
  refine cond_no hE (t := 170) rfl ?_
  refine Ks ?_
  refine Rs 3 fun Q' K hK => ?_
  refine M1 hE 14 fun K' J ρ q14 => ?_; go_simp; (try clear q14)
  refine Ln hE J fun _ Eb => ?_; clear J K' hE a
  refine M1 Eb 162 fun K' J ρ q162 => ?_; go_simp; (try go_bits); (try simp (disch := omega) only [IntWalk.i64_in]); (try clear q162)
  refine Ln Eb J fun _ Ea => ?_; clear J K' Eb
  refine M1 Ea 163 fun K' J ρ q163 => ?_; go_simp; (try clear q163)
  refine Ln Ea J fun _ Eb => ?_; clear J K' Ea
  refine late_done [10, 12, 14] Eb hK (fun a hE => ?_); clear hK K Q' Eb; simp only [lk, pick, Nat.reduceEqDiff, ↓reduceIte] at hE
  refine Ks ?_
  exact ⟨k + 1, ⟨hlt2, by simpa using hE, hWu⟩, by omega⟩
 ·have hke2 : k = la.length := by omega
  subst hke2
  refine Ks ?_
  refine Rs 4 fun Q' K hK => ?_
  refine M1 hE 14 fun K' J ρ q14 => ?_; go_simp; (try clear q14)
  refine Ln hE J fun _ Eb => ?_; clear J K' hE a
  refine M1 Eb 10 fun K' J ρ q10 => ?_; go_simp; (try clear q10)
  refine Ln Eb J fun _ Ea => ?_; clear J K' Eb
  refine M1 Ea 159 fun K' J ρ q159 => ?_; go_simp; (try go_bits); (try clear q159)
  refine Ln Ea J fun _ Eb => ?_; clear J K' Ea
  refine M2 Eb 158 160 fun K' J ρ q158 q160 => ?_; go_simp; (try go_bits); (try clear q158 q160)
  refine Ln Eb J fun _ Ea => ?_; clear J K' Eb
  replace Ea := Ea.turn 161 (v' := .bool false) rfl (by (first | (simp; done) | (simp; omega)))
  refine late_done [10, 12, 14, 161] Ea hK (fun a hE => ?_); clear hK K Q' Ea; simp only [lk, pick, Nat.reduceEqDiff, ↓reduceIte] at hE
  refine Ks ?_
  refine cond_no hE (t := 161) rfl ?_
  refine Ks ?_
  refine Rs 2 fun Q' K hK => ?_
  refine M0 fun K' J ρ => ?_; go_simp; (try go_bits);
  go_at_call 22; refine (snowed_any _ hTw).mono ?_; rintro e' wv ⟨rfl, k9⟩
  refine Ln hE J fun _ Eb => ?_; clear J K' hE a
  refine M1 Eb 171 fun K' J ρ q171 => ?_; go_simp; (try clear q171)
  refine Ln Eb J fun _ Ea => ?_; clear J K' Eb
  refine late_done [4] Ea hK (fun a hE => ?_); clear hK K Q' Ea; simp only [lk, pick, Nat.reduceEqDiff, ↓reduceIte] at hE
  refine Ks ?_
  exact ret_one hE rfl rfl ⟨rfl, hbs.trans (k9.mono hbs.size)⟩
set_option maxRecDepth 100000 in
set_option maxHeartbeats 4000000 in
theorem holds_fin (hb : OkB b) (y : Sb) (hy : OkB y) (hy0 : y.sights = []) (hyl : y.hours.length = b.hours.length) (ea : Bool) (hsub : (ea = true ∧ ∀ k ∈ freK (bare b) b.hours.length, k ∈ freK y b.hours.length) ∨ (ea = false ∧ ∀ k ∈ freK y b.hours.length, k ∈ freK (bare b) b.hours.length)) (Q5 Q6 : Nat) (A2 : Option Addr) (c2 : Nat) (w V : World) (hTw : TabW V) (hbV : Below w.heap.size w V) (hM5 : SbAt V H none (bare b)) (hC5 : Cells V Q5 (sbV H hcap none 0 (bare b))) (hM6 : SbAt V A2 none y) (hC6 : Cells V Q6 (sbV A2 c2 none 0 y)) (a : Act)
    (hE : Fits 172 [(5, .pointer (some ⟨Q5, 0, none⟩)), (6, .pointer (some ⟨Q6, 0, none⟩)), (9, .bool ea)] a) :
    (cr 9 (bodyOf Tryd.f11)).wp Tryd.prog (bodyPost Tryd.prog Tryd.f11 fun e w' => e = .returned (.bool true) ∧ Below w.heap.size w w') a V := by
 have h12 := hb.hours
 have CF5 := hid fun (W : World) hW => freeC H hcap none 0 (bare b) (ok_bare hb) (rt_none (ok_bare hb) rfl) W hW
 have CF6 := hid fun (W : World) hW => freeC A2 c2 none 0 y hy (rt_none hy hy0) W hW
 have e5 : (bare b).hours.length = b.hours.length := rfl
 rw [e5] at CF5
 rw [hyl] at CF6
 have l5 := freK_len (bare b) b.hours.length
 have l6 := freK_len y b.hours.length
 obtain ⟨fl, hfl⟩ : ∃ l, freK (bare b) b.hours.length = l := ⟨_, rfl⟩
 obtain ⟨fm, hfm⟩ : ∃ l, freK y b.hours.length = l := ⟨_, rfl⟩
 rw [hfl] at CF5 l5 hsub
 rw [hfm] at CF6 l6 hsub
 have HL := hid fun (la lb : List Nat) h1 h2 h3 (T1 T2 : Option Addr) (u1 u2 : Nat) (V : World) => holds_loop la lb h1 h2 h3 T1 T2 u1 u2 w V
 clear hb hy hfl hfm e5
 refine wp_seq ?_; refine Ks ?_
 refine Rs 7 fun Q' K hK => ?_
 refine Lp fun K' J => ?_
 have r5 := hE.at 5 rfl
 refine wp_load_mid 29 (.tmp 5) rfl Q5 0 (eval_of r5) (sbV H hcap none 0 (bare b)) _ (fun j u hu => by rw [Nat.zero_add]; exact hC5.2 j u hu) Tryd.underlying29 rfl (by kernel_rfl) ?_
 (try clear r5)
 refine Ln hE J fun _ Eb => ?_; clear J K' hE a
 refine M1 Eb 139 fun K' J ρ q139 => ?_; go_simp; (try go_bits); (try clear q139)
 go_at_call 23; refine (CF5.out _ hM5).mono ?_; rintro e' w4 ⟨⟨T1, u1, rfl, hT1⟩, h4⟩
 (try clear r139)
 refine Ln Eb J fun _ Ea => ?_; clear J K' Eb
 refine M1 Ea 140 fun K' J ρ q140 => ?_; go_simp; (try clear q140)
 refine Ln Ea J fun _ Eb => ?_; clear J K' Ea
 refine M1 Eb 138 fun K' J ρ q138 => ?_; go_simp; (try clear q138)
 refine Ln Eb J fun _ Ea => ?_; clear J K' Eb
 refine M1 Ea 138 fun K' J ρ q138 => ?_; go_simp; (try clear q138)
 refine Ln Ea J fun _ Eb => ?_; clear J K' Ea
 refine M1 Eb 141 fun K' J ρ q141 => ?_; go_simp; (try clear q141)
 refine Ln Eb J fun _ Ea => ?_; clear J K' Eb
 refine M1 Ea 142 fun K' J ρ q142 => ?_; go_simp; (try clear q142)
 refine Ln Ea J fun _ Eb => ?_; clear J K' Ea
 refine late_done [6, 9, 10, 11] Eb hK (fun a hE => ?_); clear hK K Q' Eb; simp only [lk, pick, Nat.reduceEqDiff, ↓reduceIte] at hE
 have hbw4 := hbV.trans (h4.mono hbV.size)
 replace hTw := hTw.below h4
 replace hM5 := hM5.below h4
 replace hC5 := hC5.below h4
 replace hM6 := hM6.below h4
 replace hC6 := hC6.below h4
 refine Ks ?_
 refine Rs 7 fun Q' K hK => ?_
 refine Lp fun K' J => ?_
 have r6 := hE.at 6 rfl
 refine wp_load_mid 29 (.tmp 6) rfl Q6 0 (eval_of r6) (sbV A2 c2 none 0 y) _ (fun j u hu => by rw [Nat.zero_add]; exact hC6.2 j u hu) Tryd.underlying29 rfl (by kernel_rfl) ?_
 (try clear r6)
 refine Ln hE J fun _ Eb => ?_; clear J K' hE a
 refine M1 Eb 144 fun K' J ρ q144 => ?_; go_simp; (try go_bits); (try clear q144)
 go_at_call 23; refine (CF6.out _ hM6).mono ?_; rintro e' w5 ⟨⟨T2, u2, rfl, hT2⟩, h5'⟩
 (try clear r144)
 refine Ln Eb J fun _ Ea => ?_; clear J K' Eb
 refine M1 Ea 145 fun K' J ρ q145 => ?_; go_simp; (try clear q145)
 refine Ln Ea J fun _ Eb => ?_; clear J K' Ea
 refine M1 Eb 143 fun K' J ρ q143 => ?_; go_simp; (try clear q143)
 refine Ln Eb J fun _ Ea => ?_; clear J K' Eb
 refine M1 Ea 143 fun K' J ρ q143 => ?_; go_simp; (try clear q143)
 refine Ln Ea J fun _ Eb => ?_; clear J K' Ea
 refine M1 Eb 146 fun K' J ρ q146 => ?_; go_simp; (try clear q146)
 refine Ln Eb J fun _ Ea => ?_; clear J K' Eb
 refine M1 Ea 147 fun K' J ρ q147 => ?_; go_simp; (try clear q147)
 refine Ln Ea J fun _ Eb => ?_; clear J K' Ea
 refine late_done [9, 10, 11, 12, 13] Eb hK (fun a hE => ?_); clear hK K Q' Eb; simp only [lk, pick, Nat.reduceEqDiff, ↓reduceIte] at hE
 have hbw5 := hbw4.trans (h5'.mono hbw4.size)
 replace hTw := hTw.below h5'
 replace hM6 := hM6.below h5'
 replace hC6 := hC6.below h5'
 replace hT1 := hT1.below h5'
 refine Ks ?_
 refine Rs 6 fun Q' K hK => ?_
 refine M1 hE 11 fun K' J ρ q11 => ?_; go_simp; (try clear q11)
 refine Ln hE J fun _ Eb => ?_; clear J K' hE a
 refine M1 Eb 148 fun K' J ρ q148 => ?_; go_simp; (try go_bits); (try clear q148)
 refine Ln Eb J fun _ Ea => ?_; clear J K' Eb
 refine M1 Ea 149 fun K' J ρ q149 => ?_; go_simp; (try clear q149)
 refine Ln Ea J fun _ Eb => ?_; clear J K' Ea
 refine N1 Eb 150 13 fun K' J ρ q13 => ?_; go_simp; (try clear q13)
 refine Ln Eb J fun _ Ea => ?_; clear J K' Eb
 refine N1 Ea 150 151 fun K' J ρ q151 => ?_; go_simp; (try go_bits); (try clear q151)
 refine Ln Ea J fun _ Eb => ?_; clear J K' Ea
 refine M2 Eb 150 152 fun K' J ρ q150 q152 => ?_; go_simp; (try go_bits); (try clear q150 q152)
 refine Ln Eb J fun _ Ea => ?_; clear J K' Eb
 replace Ea := Ea.turn 153 (v' := .bool false) rfl (by (first | rfl | simp))
 refine late_done [9, 10, 12, 153] Ea hK (fun a hE => ?_); clear hK K Q' Ea; simp only [lk, pick, Nat.reduceEqDiff, ↓reduceIte] at hE
 refine Ks ?_
 refine cond_no hE (t := 153) rfl ?_
 refine Ks ?_
 refine Rs 2 fun Q' K hK => ?_
 refine M1 hE 9 fun K' J ρ q9 => ?_; go_simp; (try clear q9)
 refine Ln hE J fun _ Eb => ?_; clear J K' hE a
 refine M1 Eb 154 fun K' J ρ q154 => ?_; go_simp; (try go_bits); (try simp (disch := omega) only [IntWalk.i64_in]); (try clear q154)
 refine Ln Eb J fun _ Ea => ?_; clear J K' Eb
 refine late_done [10, 12, 155] Ea hK (fun a hE => ?_); clear hK K Q' Ea; simp only [lk, pick, Nat.reduceEqDiff, ↓reduceIte] at hE
 rcases hsub with ⟨rfl, hin⟩ | ⟨rfl, hin⟩
 ·refine cond_no hE (t := 155) rfl ?_
  refine wp_skip ?_
  exact HL.out fl fm (by omega) (by omega) hin T1 T2 u1 u2 _ hTw hbw5 hT1 hT2 _ (fits_init [(155, .bool false)] hE)
 ·skip
  refine Ks ?_
  refine cond_yes hE (t := 155) rfl ?_
  refine Ks ?_
  refine Rs 4 fun Q' K hK => ?_
  refine M1 hE 12 fun K' J ρ q12 => ?_; go_simp; (try clear q12)
  refine Ln hE J fun _ Eb => ?_; clear J K' hE a
  refine M1 Eb 10 fun K' J ρ q10 => ?_; go_simp; (try clear q10)
  refine Ln Eb J fun _ Ea => ?_; clear J K' Eb
  refine M1 Ea 156 fun K' J ρ q156 => ?_; go_simp; (try clear q156)
  refine Ln Ea J fun _ Eb => ?_; clear J K' Ea
  refine M1 Eb 157 fun K' J ρ q157 => ?_; go_simp; (try clear q157)
  refine Ln Eb J fun _ Ea => ?_; clear J K' Eb
  refine late_done [10, 12] Ea hK (fun a hE => ?_); clear hK K Q' Ea; simp only [lk, pick, Nat.reduceEqDiff, ↓reduceIte] at hE
  exact HL.out fm fl (by omega) (by omega) hin T2 T1 u2 u1 _ hTw hbw5 hT2 hT1 _ hE
set_option maxRecDepth 100000 in
set_option maxHeartbeats 4000000 in
theorem holds_mid (hb : OkB b) {h by' : Nat} (hh : h < b.hours.length) (hby : by' < 25) (n0 n1 n2 s : Int) (hs0 : windI n0 5 = s) (hs : s = 0 ∨ s = 1 ∨ s = 2 ∨ s = 3 ∨ s = 4) (B Xb Q5 Q6 g c2 : Nat) (w w0 V : World) (hTw : TabW w0) (hb0 : Below w.heap.size w w0) (hV0 : Below w0.heap.size w0 V) (hM : SbAt w0 H S b) (hCB : Cells w0 B (sbV H hcap S scap b)) (hCX : Cells w0 Xb [.int .i64 n0, .int .i64 n1, .int .i64 n2]) (hM5 : SbAt w0 H none (bare b)) (hC5 : Cells w0 Q5 (sbV H hcap none 0 (bare b))) (hn6 : w0.heap.size ≤ Q6) (hl6 : Q6 < V.heap.size) (hgQ : Q6 + 1 ≤ g) (hgl : g < V.heap.size) (hRQ : Row V Q6 (sbV (some ⟨g, 0, none⟩) c2 none 0 (bare b))) (hO : V.ownsRow (Q6 + 1) 62 6 (.slice (some ⟨g, 0, none⟩) b.hours.length c2) b.hours.length (hrs b.hours)) (a : Act)
    (hE : Fits 172 [(2, .pointer (some ⟨B, 0, none⟩)), (3, .pointer (some ⟨Xb, 0, none⟩)), (5, .pointer (some ⟨Q5, 0, none⟩)), (6, .pointer (some ⟨Q6, 0, none⟩)), (7, .int .i64 by'), (8, .int .i64 h), (9, .bool true)] a) :
    (cr 8 (bodyOf Tryd.f11)).wp Tryd.prog (bodyPost Tryd.prog Tryd.f11 fun e w' => e = .returned (.bool true) ∧ Below w.heap.size w w') a V := by
 have h12 := hb.hours
 have hho := hb.hold
 have hse := hb.settle
 have HF := hid fun (y : Sb) hy hy0 hyl (ea : Bool) hsub (A2 : Option Addr) (c2 : Nat) (V : World) => holds_fin H hcap b hb y hy hy0 hyl ea hsub Q5 Q6 A2 c2 w V
 obtain ⟨bx, ox, hHe, hbx, x0', x1', x2', x3', x4', x5'⟩ := (hM.below hV0).1.hr hh
 have hhr := hb.hour _ (List.getElem_mem hh)
 obtain ⟨X, hX⟩ : ∃ X, b.hours[h] = X := ⟨_, rfl⟩
 rw [hX] at x0' x1' x2' x3' x4' x5' hhr
 have hCBV := hCB.below hV0
 have nB := hCBV.1
 have c3 := hCBV.2 3 _ rfl
 have c4 := hCBV.2 4 _ rfl
 have c7 := hCBV.2 7 _ rfl
 rw [hHe] at c7
 have q7 : V.cell? ⟨Q6, 7, none⟩ = some (.slice (some ⟨g, 0, none⟩) b.hours.length c2) := (hRQ 7 _ rfl).1
 have y3 := (hRQ 3 _ rfl).2
 have y4 := (hRQ 4 _ rfl).2
 have cX0 := (hCX.below hV0).2 0 _ rfl
 have nX := (hCX.below hV0).1
 have HS0 := hid hs0
 clear hs0
 have hbV := hb0.trans (hV0.mono hb0.size)
 have hhI : (h : Int) < b.hours.length := by omega
 refine wp_seq ?_; refine Ks ?_
 refine Rs 3 fun Q' K hK => ?_
 refine M1 hE 3 fun K' J ρ q3 => ?_; go_simp; (try go_bits); (try clear q3)
 refine Ln hE J fun _ Eb => ?_; clear J K' hE a
 refine M1 Eb 36 fun K' J ρ q36 => ?_; go_simp; (try clear q36)
 refine Ln Eb J fun _ Ea => ?_; clear J K' Eb
 refine M1 Ea 37 fun K' J ρ q37 => ?_; go_simp; (try go_bits); (try clear q37)
 go_at_call 40; refine (wind_any n0 5 (by decide) _).mono ?_; rw [HS0.out]; rintro e g1 ⟨rfl, rfl⟩
 (try clear r37)
 refine Ln Ea J fun _ Eb => ?_; clear J K' Ea
 refine late_done [2, 5, 6, 7, 8, 9, 38] Eb hK (fun a hE => ?_); clear hK K Q' Eb; simp only [lk, pick, Nat.reduceEqDiff, ↓reduceIte] at hE
 clear cX0 nX HS0
 rcases hs with rfl | rfl | rfl | rfl | rfl
 ·skip
  refine Ks ?_
  refine Rs 2 fun Q' K hK => ?_
  refine M1 hE 38 fun K' J ρ q38 => ?_; go_simp; (try go_bits); (try clear q38)
  refine Ln hE J fun _ Eb => ?_; clear J K' hE a
  refine M1 Eb 65 fun K' J ρ q65 => ?_; go_simp; (try clear q65)
  refine Ln Eb J fun _ Ea => ?_; clear J K' Eb
  replace Ea := Ea.turn 64 (v' := .bool true) rfl (by (first | rfl | simp))
  refine late_done [2, 5, 6, 7, 8, 9, 38, 64] Ea hK (fun a hE => ?_); clear hK K Q' Ea; simp only [lk, pick, Nat.reduceEqDiff, ↓reduceIte] at hE
  refine Ks ?_
  refine cond_yes hE (t := 64) rfl ?_
  refine Ks ?_
  refine Rs 9 fun Q' K hK => ?_
  refine M1 hE 2 fun K' J ρ q2 => ?_; go_simp; (try clear q2)
  refine Ln hE J fun _ Eb => ?_; clear J K' hE a
  refine M1 Eb 66 fun K' J ρ q66 => ?_; go_simp; (try clear q66)
  refine Ln Eb J fun _ Ea => ?_; clear J K' Eb
  refine M1 Ea 67 fun K' J ρ q67 => ?_; go_simp; (try clear q67)
  refine Ln Ea J fun _ Eb => ?_; clear J K' Ea
  refine M1 Eb 7 fun K' J ρ q7 => ?_; go_simp; (try clear q7)
  refine Ln Eb J fun _ Ea => ?_; clear J K' Eb
  refine M2 Ea 68 69 fun K' J ρ q68 q69 => ?_; go_simp; (try go_bits); (try simp (disch := omega) only [IntWalk.i64_in]); (try clear q68 q69)
  refine Ln Ea J fun _ Eb => ?_; clear J K' Ea
  refine M1 Eb 70 fun K' J ρ q70 => ?_; go_simp; (try go_bits); (try clear q70)
  refine Ln Eb J fun _ Ea => ?_; clear J K' Eb
  refine M1 Ea 6 fun K' J ρ q6 => ?_; go_simp; (try clear q6)
  refine Ln Ea J fun _ Eb => ?_; clear J K' Ea
  refine M1 Eb 72 fun K' J ρ q72 => ?_; go_simp; (try clear q72)
  refine Ln Eb J fun _ Ea => ?_; clear J K' Eb
  refine M2 Ea 73 71 fun K' J ρ q73 q71 => ?_; go_simp; (try clear q73 q71)
  refine late_skip Ea J (fun _ Eb => ?_); clear J K'; clear Ea
  refine late_done [5, 6, 9] Eb hK (fun a hE => ?_); clear hK K Q' Eb; simp only [lk, pick, Nat.reduceEqDiff, ↓reduceIte] at hE
  have hr2 := hRQ.set (o := 4) (v := .int .i64 (min 300 (b.sl.hold + (by' : Int)))) (by simp [sbV])
  have ho2 := own_of_block hO (w' := V.setCell ⟨Q6, 4, none⟩ (.int .i64 (min 300 (b.sl.hold + (by' : Int))))) (by simp) (fun k hk => Below.heap_setCell _ _ _ _ (by have := ownBlock_le hO k hk; simp only; omega))
  refine world_cut (fun wt => Below w0.heap.size w0 wt ∧ Q6 < wt.heap.size ∧ Row wt Q6 (sbV (some ⟨g, 0, none⟩) c2 none 0 (slB b { b.sl with hold := min 300 (b.sl.hold + (by' : Int)) })) ∧ wt.ownsRow (Q6 + 1) 62 6 (.slice (some ⟨g, 0, none⟩) b.hours.length c2) b.hours.length (hrs b.hours)) ⟨hV0.setCell hn6 _, by simpa using hl6, hr2, ho2⟩ (fun w7 hCut => ?_)
  clear hr2 ho2
  obtain ⟨hb7, hl7, hr7, ho7⟩ := hCut
  exact HF.out (slB b { b.sl with hold := min 300 (b.sl.hold + (by' : Int)) }) (hold_ok hb (by omega)) rfl rfl true (.inl ⟨rfl, hold_law hb (by omega)⟩) (some ⟨g, 0, none⟩) c2 w7 (hTw.below hb7) (hb0.trans (hb7.mono hb0.size)) (hM5.below hb7) (hC5.below hb7) ⟨own_arr ho7, fun h => absurd rfl h⟩ ⟨hl7, fun j u hu => (hr7 j u hu).1⟩ _ hE
 ·skip
  refine Ks ?_
  refine Rs 2 fun Q' K hK => ?_
  refine M1 hE 38 fun K' J ρ q38 => ?_; go_simp; (try go_bits); (try clear q38)
  refine Ln hE J fun _ Eb => ?_; clear J K' hE a
  refine M1 Eb 65 fun K' J ρ q65 => ?_; go_simp; (try clear q65)
  refine Ln Eb J fun _ Ea => ?_; clear J K' Eb
  replace Ea := Ea.turn 64 (v' := .bool false) rfl (by (first | rfl | simp))
  refine late_done [2, 5, 6, 7, 8, 9, 38, 64] Ea hK (fun a hE => ?_); clear hK K Q' Ea; simp only [lk, pick, Nat.reduceEqDiff, ↓reduceIte] at hE
  refine Ks ?_
  refine cond_no hE (t := 64) rfl ?_
  refine Ks ?_
  refine Rs 2 fun Q' K hK => ?_
  refine M1 hE 38 fun K' J ρ q38 => ?_; go_simp; (try go_bits); (try clear q38)
  refine Ln hE J fun _ Eb => ?_; clear J K' hE a
  refine M1 Eb 75 fun K' J ρ q75 => ?_; go_simp; (try clear q75)
  refine Ln Eb J fun _ Ea => ?_; clear J K' Eb
  replace Ea := Ea.turn 74 (v' := .bool true) rfl (by (first | rfl | simp))
  refine late_done [2, 5, 6, 7, 8, 9, 38, 74] Ea hK (fun a hE => ?_); clear hK K Q' Ea; simp only [lk, pick, Nat.reduceEqDiff, ↓reduceIte] at hE
  refine Ks ?_
  refine cond_yes hE (t := 74) rfl ?_
  refine Ks ?_
  refine Rs 9 fun Q' K hK => ?_
  refine M1 hE 2 fun K' J ρ q2 => ?_; go_simp; (try clear q2)
  refine Ln hE J fun _ Eb => ?_; clear J K' hE a
  refine M1 Eb 76 fun K' J ρ q76 => ?_; go_simp; (try clear q76)
  refine Ln Eb J fun _ Ea => ?_; clear J K' Eb
  refine M1 Ea 77 fun K' J ρ q77 => ?_; go_simp; (try clear q77)
  refine Ln Ea J fun _ Eb => ?_; clear J K' Ea
  refine M1 Eb 7 fun K' J ρ q7 => ?_; go_simp; (try clear q7)
  refine Ln Eb J fun _ Ea => ?_; clear J K' Eb
  refine M2 Ea 78 79 fun K' J ρ q78 q79 => ?_; go_simp; (try go_bits); (try simp (disch := omega) only [IntWalk.i64_in]); (try clear q78 q79)
  refine Ln Ea J fun _ Eb => ?_; clear J K' Ea
  refine M1 Eb 80 fun K' J ρ q80 => ?_; go_simp; (try go_bits); (try clear q80)
  refine Ln Eb J fun _ Ea => ?_; clear J K' Eb
  refine M1 Ea 6 fun K' J ρ q6 => ?_; go_simp; (try clear q6)
  refine Ln Ea J fun _ Eb => ?_; clear J K' Ea
  refine M1 Eb 82 fun K' J ρ q82 => ?_; go_simp; (try clear q82)
  refine Ln Eb J fun _ Ea => ?_; clear J K' Eb
  refine M2 Ea 83 81 fun K' J ρ q83 q81 => ?_; go_simp; (try clear q83 q81)
  refine late_skip Ea J (fun _ Eb => ?_); clear J K'; clear Ea
  refine late_done [5, 6, 9] Eb hK (fun a hE => ?_); clear hK K Q' Eb; simp only [lk, pick, Nat.reduceEqDiff, ↓reduceIte] at hE
  have hr2 := hRQ.set (o := 3) (v := .int .i64 (min 30 (b.sl.settle + (by' : Int)))) (by simp [sbV])
  have ho2 := own_of_block hO (w' := V.setCell ⟨Q6, 3, none⟩ (.int .i64 (min 30 (b.sl.settle + (by' : Int))))) (by simp) (fun k hk => Below.heap_setCell _ _ _ _ (by have := ownBlock_le hO k hk; simp only; omega))
  refine world_cut (fun wt => Below w0.heap.size w0 wt ∧ Q6 < wt.heap.size ∧ Row wt Q6 (sbV (some ⟨g, 0, none⟩) c2 none 0 (slB b { b.sl with settle := min 30 (b.sl.settle + (by' : Int)) })) ∧ wt.ownsRow (Q6 + 1) 62 6 (.slice (some ⟨g, 0, none⟩) b.hours.length c2) b.hours.length (hrs b.hours)) ⟨hV0.setCell hn6 _, by simpa using hl6, hr2, ho2⟩ (fun w7 hCut => ?_)
  clear hr2 ho2
  obtain ⟨hb7, hl7, hr7, ho7⟩ := hCut
  exact HF.out (slB b { b.sl with settle := min 30 (b.sl.settle + (by' : Int)) }) (settle_ok hb (by omega)) rfl rfl true (.inl ⟨rfl, settle_law hb (by omega)⟩) (some ⟨g, 0, none⟩) c2 w7 (hTw.below hb7) (hb0.trans (hb7.mono hb0.size)) (hM5.below hb7) (hC5.below hb7) ⟨own_arr ho7, fun h => absurd rfl h⟩ ⟨hl7, fun j u hu => (hr7 j u hu).1⟩ _ hE
 ·skip
  obtain ⟨x1, x2, x3, x4, x5, x6⟩ := X
  simp only at x0' x1' x2' x3' x4' x5' hhr
  obtain ⟨Y, hY⟩ : ∃ Y : Hr, (⟨x1, min 9 (min (x1 + 3) (x2 + (by' : Int))), x3, x4, x5, x6⟩ : Hr) = Y := ⟨_, rfl⟩
  have hYok : OkB (setB b h Y) := set_ok hb (by rw [← hY]; simp only; omega)
  have hYlaw := set_law hb hh hYok (by rw [hX, ← hY]; simp only; omega) (by rw [hX, ← hY]; simp only; omega) (by rw [hX, ← hY]; simp only; omega)
  have hcell : Y.cells = b.hours[h].cells.set 1 (.int .i64 (min 9 (min (x1 + 3) (x2 + (by' : Int))))) := by rw [hX, ← hY]; rfl
  have hset := hrs_set b.hours h hh 1 (by decide) Y _ hcell
  have HYS := hid hset
  have HYO := hid hYok
  have HYL := hid hYlaw
  have yg := own_wr hO (g := g) rfl (o := h * 6 + 1) (by omega)
  clear hset hYok hYlaw hcell hY hX
  refine Ks ?_
  refine Rs 2 fun Q' K hK => ?_
  refine M1 hE 38 fun K' J ρ q38 => ?_; go_simp; (try go_bits); (try clear q38)
  refine Ln hE J fun _ Eb => ?_; clear J K' hE a
  refine M1 Eb 65 fun K' J ρ q65 => ?_; go_simp; (try clear q65)
  refine Ln Eb J fun _ Ea => ?_; clear J K' Eb
  replace Ea := Ea.turn 64 (v' := .bool false) rfl (by (first | rfl | simp))
  refine late_done [2, 5, 6, 7, 8, 9, 38, 64] Ea hK (fun a hE => ?_); clear hK K Q' Ea; simp only [lk, pick, Nat.reduceEqDiff, ↓reduceIte] at hE
  refine Ks ?_
  refine cond_no hE (t := 64) rfl ?_
  refine Ks ?_
  refine Rs 2 fun Q' K hK => ?_
  refine M1 hE 38 fun K' J ρ q38 => ?_; go_simp; (try go_bits); (try clear q38)
  refine Ln hE J fun _ Eb => ?_; clear J K' hE a
  refine M1 Eb 75 fun K' J ρ q75 => ?_; go_simp; (try clear q75)
  refine Ln Eb J fun _ Ea => ?_; clear J K' Eb
  replace Ea := Ea.turn 74 (v' := .bool false) rfl (by (first | rfl | simp))
  refine late_done [2, 5, 6, 7, 8, 9, 38, 74] Ea hK (fun a hE => ?_); clear hK K Q' Ea; simp only [lk, pick, Nat.reduceEqDiff, ↓reduceIte] at hE
  refine Ks ?_
  refine cond_no hE (t := 74) rfl ?_
  refine Ks ?_
  refine Rs 2 fun Q' K hK => ?_
  refine M1 hE 38 fun K' J ρ q38 => ?_; go_simp; (try go_bits); (try clear q38)
  refine Ln hE J fun _ Eb => ?_; clear J K' hE a
  refine M1 Eb 85 fun K' J ρ q85 => ?_; go_simp; (try clear q85)
  refine Ln Eb J fun _ Ea => ?_; clear J K' Eb
  replace Ea := Ea.turn 84 (v' := .bool true) rfl (by (first | rfl | simp))
  refine late_done [2, 5, 6, 7, 8, 38, 84] Ea hK (fun a hE => ?_); clear hK K Q' Ea; simp only [lk, pick, Nat.reduceEqDiff, ↓reduceIte] at hE
  refine Ks ?_
  refine cond_yes hE (t := 84) rfl ?_
  refine Ks ?_
  refine Rs 1 fun Q' K hK => ?_
  refine M0 fun K' J ρ => ?_; go_simp;
  refine Ln hE J fun _ Eb => ?_; clear J K' hE a
  refine late_done [2, 5, 6, 7, 8, 9] Eb hK (fun a hE => ?_); clear hK K Q' Eb; simp only [lk, pick, Nat.reduceEqDiff, ↓reduceIte] at hE
  refine Ks ?_
  refine Rd [22, 23, 24, 25] (fun wt => Below V.heap.size V wt) (fun w1 w2 => Below w1.heap.size w1 w2) [(0, some 86), (1, some 87), (2, some 88), (3, some 89), (4, some 90), (5, some 91), (6, some 92), (7, some 93), (8, some 94), (9, some 95), (10, some 96), (11, some 97), (12, some 98), (13, some 99), (14, some 100), (15, some 101), (16, some 102), (17, some 103), (18, some 104), (19, some 105), (20, some 106), (21, some 107)] [86, 87, 88, 89, 90, 91, 92, 93, 94, 95, 96, 97, 98, 99, 100, 101, 102, 103, 104, 105, 106, 107] #[true, true, true, true, true, true, true, true, true, true, true, true, true, true, true, true, true, true, true, true, true, true, false, false, false, false] [5, 6, 9] hE ((Below.refl _ _).drew) fun Q' K hK => ?_
  refine SeqOps.val ?_ (Sp fun ax wx hS hT' hd K' J => ?_) ?_; rotate_left 1
  ·have r6 := hS.at 6 (by decide) (hE.at 6 rfl); obtain ⟨hcT, hfT, hlT, hmT, hwT, hzT⟩ := bT hT'
   refine o1 r6 fun ρ q6 => ?_; go_simp;
   exact Jo J hT'
  refine SeqOps.val ?_ (Sp fun ax wx hS hT' hd K' J => ?_) ?_; rotate_left 1
  ·have r86 := Tv hd 0 0 86; obtain ⟨hcT, hfT, hlT, hmT, hwT, hzT⟩ := bT hT'
   refine o1 r86 fun ρ q86 => ?_; go_simp;
   exact Jo J hT'
  refine SeqOps.val ?_ (Sp fun ax wx hS hT' hd K' J => ?_) ?_; rotate_left 1
  ·have r8 := hS.at 8 (by decide) (hE.at 8 rfl); obtain ⟨hcT, hfT, hlT, hmT, hwT, hzT⟩ := bT hT'
   refine o1 r8 fun ρ q8 => ?_; go_simp;
   exact Jo J hT'
  refine SeqOps.val ?_ (Sp fun ax wx hS hT' hd K' J => ?_) ?_; rotate_left 1
  ·have r2 := hS.at 2 (by decide) (hE.at 2 rfl); obtain ⟨hcT, hfT, hlT, hmT, hwT, hzT⟩ := bT hT'
   refine o1 r2 fun ρ q2 => ?_; go_simp;
   exact Jo J hT'
  refine SeqOps.val ?_ (Sp fun ax wx hS hT' hd K' J => ?_) ?_; rotate_left 1
  ·have r89 := Tv hd 0 3 89; obtain ⟨hcT, hfT, hlT, hmT, hwT, hzT⟩ := bT hT'
   refine o1 r89 fun ρ q89 => ?_; go_simp;
   exact Jo J hT'
  refine SeqOps.val ?_ (Sp fun ax wx hS hT' hd K' J => ?_) ?_; rotate_left 1
  ·have r8 := hS.at 8 (by decide) (hE.at 8 rfl); obtain ⟨hcT, hfT, hlT, hmT, hwT, hzT⟩ := bT hT'
   refine o1 r8 fun ρ q8 => ?_; go_simp;
   exact Jo J hT'
  refine SeqOps.val ?_ (Sp fun ax wx hS hT' hd K' J => ?_) ?_; rotate_left 1
  ·have r90 := Tv hd 1 4 90; have r91 := Tv hd 0 5 91; obtain ⟨hcT, hfT, hlT, hmT, hwT, hzT⟩ := bT hT'
   refine o2 r90 r91 fun ρ q90 q91 => ?_; go_simp; (try go_bits);
   exact Jo J hT'
  refine SeqOps.val ?_ (Sp fun ax wx hS hT' hd K' J => ?_) ?_; rotate_left 1
  ·have r92 := Tv hd 0 6 92; obtain ⟨hcT, hfT, hlT, hmT, hwT, hzT⟩ := bT hT'
   refine o1 r92 fun ρ q92 => ?_; go_simp;
   exact Jo J hT'
  refine SeqOps.val ?_ (Sp fun ax wx hS hT' hd K' J => ?_) ?_; rotate_left 1
  ·have r93 := Tv hd 0 7 93; obtain ⟨hcT, hfT, hlT, hmT, hwT, hzT⟩ := bT hT'
   refine o1 r93 fun ρ q93 => ?_; go_simp;
   exact Jo J hT'
  refine SeqOps.val ?_ (Sp fun ax wx hS hT' hd K' J => ?_) ?_; rotate_left 1
  ·have r94 := Tv hd 0 8 94; obtain ⟨hcT, hfT, hlT, hmT, hwT, hzT⟩ := bT hT'
   refine o1 r94 fun ρ q94 => ?_; go_simp;
   exact Jo J hT'
  refine SeqOps.val ?_ (Sp fun ax wx hS hT' hd K' J => ?_) ?_; rotate_left 1
  ·have r95 := Tv hd 0 9 95; obtain ⟨hcT, hfT, hlT, hmT, hwT, hzT⟩ := bT hT'
   refine o1 r95 fun ρ q95 => ?_; go_simp; (try go_bits); (try simp (disch := omega) only [IntWalk.i64_in]);
   exact Jo J hT'
  refine SeqOps.val ?_ (Sp fun ax wx hS hT' hd K' J => ?_) ?_; rotate_left 1
  ·have r2 := hS.at 2 (by decide) (hE.at 2 rfl); obtain ⟨hcT, hfT, hlT, hmT, hwT, hzT⟩ := bT hT'
   refine o1 r2 fun ρ q2 => ?_; go_simp;
   exact Jo J hT'
  refine SeqOps.val ?_ (Sp fun ax wx hS hT' hd K' J => ?_) ?_; rotate_left 1
  ·have r97 := Tv hd 0 11 97; obtain ⟨hcT, hfT, hlT, hmT, hwT, hzT⟩ := bT hT'
   refine o1 r97 fun ρ q97 => ?_; go_simp;
   exact Jo J hT'
  refine SeqOps.val ?_ (Sp fun ax wx hS hT' hd K' J => ?_) ?_; rotate_left 1
  ·have r8 := hS.at 8 (by decide) (hE.at 8 rfl); obtain ⟨hcT, hfT, hlT, hmT, hwT, hzT⟩ := bT hT'
   refine o1 r8 fun ρ q8 => ?_; go_simp;
   exact Jo J hT'
  refine SeqOps.val ?_ (Sp fun ax wx hS hT' hd K' J => ?_) ?_; rotate_left 1
  ·have r98 := Tv hd 1 12 98; have r99 := Tv hd 0 13 99; obtain ⟨hcT, hfT, hlT, hmT, hwT, hzT⟩ := bT hT'
   refine o2 r98 r99 fun ρ q98 q99 => ?_; go_simp; (try go_bits);
   exact Jo J hT'
  refine SeqOps.val ?_ (Sp fun ax wx hS hT' hd K' J => ?_) ?_; rotate_left 1
  ·have r100 := Tv hd 0 14 100; obtain ⟨hcT, hfT, hlT, hmT, hwT, hzT⟩ := bT hT'
   refine o1 r100 fun ρ q100 => ?_; go_simp;
   exact Jo J hT'
  refine SeqOps.val ?_ (Sp fun ax wx hS hT' hd K' J => ?_) ?_; rotate_left 1
  ·have r101 := Tv hd 0 15 101; obtain ⟨hcT, hfT, hlT, hmT, hwT, hzT⟩ := bT hT'
   refine o1 r101 fun ρ q101 => ?_; go_simp;
   exact Jo J hT'
  refine SeqOps.val ?_ (Sp fun ax wx hS hT' hd K' J => ?_) ?_; rotate_left 1
  ·have r102 := Tv hd 0 16 102; obtain ⟨hcT, hfT, hlT, hmT, hwT, hzT⟩ := bT hT'
   refine o1 r102 fun ρ q102 => ?_; go_simp;
   exact Jo J hT'
  refine SeqOps.val ?_ (Sp fun ax wx hS hT' hd K' J => ?_) ?_; rotate_left 1
  ·have r7 := hS.at 7 (by decide) (hE.at 7 rfl); obtain ⟨hcT, hfT, hlT, hmT, hwT, hzT⟩ := bT hT'
   refine o1 r7 fun ρ q7 => ?_; go_simp;
   exact Jo J hT'
  refine SeqOps.val ?_ (Sp fun ax wx hS hT' hd K' J => ?_) ?_; rotate_left 1
  ·have r103 := Tv hd 1 17 103; have r104 := Tv hd 0 18 104; obtain ⟨hcT, hfT, hlT, hmT, hwT, hzT⟩ := bT hT'
   refine o2 r103 r104 fun ρ q103 q104 => ?_; go_simp; (try go_bits); (try simp (disch := omega) only [IntWalk.i64_in]);
   exact Jo J hT'
  refine SeqOps.val ?_ (Sp fun ax wx hS hT' hd K' J => ?_) ?_; rotate_left 1
  ·have r96 := Tv hd 9 10 96; have r105 := Tv hd 0 19 105; obtain ⟨hcT, hfT, hlT, hmT, hwT, hzT⟩ := bT hT'
   refine o2 r96 r105 fun ρ q96 q105 => ?_; go_simp; (try go_bits);
   exact Jo J hT'
  refine SeqOps.val ?_ (Sp fun ax wx hS hT' hd K' J => ?_) ?_; rotate_left 1
  ·have r106 := Tv hd 0 20 106; obtain ⟨hcT, hfT, hlT, hmT, hwT, hzT⟩ := bT hT'
   refine o1 r106 fun ρ q106 => ?_; go_simp; (try go_bits);
   exact Jo J hT'
  refine SeqOps.nil ?_
  intro wu hBo; (repeat refine Ek ?_)
  refine fun aox hEox => ?_
  simp only [lk, pick, Nat.reduceEqDiff, ↓reduceIte] at hEox
  refine M2 hEox 87 88 fun K' J ρ q87 q88 => ?_; go_simp; (try go_bits); (try clear q87 q88)
  refine Ln hEox J fun ao_1 hEo_1 => ?_; clear J K' hEox
  refine M1 hEo_1 108 fun K' J ρ q108 => ?_; go_simp; (try clear q108)
  refine Ln hEo_1 J fun ao_2 hEo_2 => ?_; clear J K' hEo_1
  refine M1 hEo_2 109 fun K' J ρ q109 => ?_; go_simp; (try clear q109)
  refine Ln hEo_2 J fun ao_3 hEo_3 => ?_; clear J K' hEo_2
  have yg := wr_below yg hBo hgl
  refine M2 hEo_3 110 107 fun K' J ρ q110 q107 => ?_; go_simp; (try clear q110 q107)
  refine late_skip hEo_3 J (fun ao_4 hEo_4 => ?_); clear J K'; clear hEo_3
  refine late_done [5, 6, 9] hEo_4 hK (fun a hE => ?_); clear hK K Q' hEo_4; simp only [lk, pick, Nat.reduceEqDiff, ↓reduceIte] at hE
  have hbwu := hbV.trans (hBo.mono hbV.size)
  have hOu := own_below hO hBo
  have ho2 := own_set hOu (g := g) rfl (o := h * 6 + 1) (.int .i64 (min 9 (min (x1 + 3) (x2 + (by' : Int)))))
  rw [HYS.out] at ho2
  have hRu := hRQ.below hBo hl6
  have hru : Row (wu.setCell ⟨g, h * 6 + 1, none⟩ (.int .i64 (min 9 (min (x1 + 3) (x2 + (by' : Int)))))) Q6 (sbV (some ⟨g, 0, none⟩) c2 none 0 (bare b)) := row_of_block hRu (Below.heap_setCell _ _ _ _ (by simp only; omega))
  refine world_cut (fun wt => Below w0.heap.size w0 wt ∧ Q6 < wt.heap.size ∧ Row wt Q6 (sbV (some ⟨g, 0, none⟩) c2 none 0 (bare b)) ∧ wt.ownsRow (Q6 + 1) 62 6 (.slice (some ⟨g, 0, none⟩) b.hours.length c2) b.hours.length (hrs (b.hours.set h Y))) ⟨(hV0.trans (hBo.mono hV0.size)).setCell (by simp only; omega) _, by simpa using Nat.lt_of_lt_of_le hl6 hBo.size, hru, ho2⟩ (fun w7 hCut => ?_)
  clear ho2 hOu hRu hru yg
  obtain ⟨hb7, hl7, hr7, ho7⟩ := hCut
  have hsl : (b.hours.set h Y).length = b.hours.length := by simp
  exact HF.out (setB b h Y) HYO.out rfl hsl false (.inr ⟨rfl, HYL.out⟩) (some ⟨g, 0, none⟩) c2 w7 (hTw.below hb7) (hb0.trans (hb7.mono hb0.size)) (hM5.below hb7) (hC5.below hb7) ⟨own_arr ho7, fun h => absurd rfl h⟩ ⟨hl7, fun j u hu => (by have e : sbV (some ⟨g, 0, none⟩) c2 none 0 (setB b h Y) = sbV (some ⟨g, 0, none⟩) c2 none 0 (bare b) := (by simp [sbV, setB, bare]); rw [e] at hu; exact (hr7 j u hu).1)⟩ _ hE
 ·skip
  obtain ⟨x1, x2, x3, x4, x5, x6⟩ := X
  simp only at x0' x1' x2' x3' x4' x5' hhr
  obtain ⟨Y, hY⟩ : ∃ Y : Hr, (⟨x1, x2, x3, x4, x5, min 5 (min (x5 + 3) (x6 + (by' : Int)))⟩ : Hr) = Y := ⟨_, rfl⟩
  have hYok : OkB (setB b h Y) := set_ok hb (by rw [← hY]; simp only; omega)
  have hYlaw := set_law hb hh hYok (by rw [hX, ← hY]; simp only; omega) (by rw [hX, ← hY]; simp only; omega) (by rw [hX, ← hY]; simp only; omega)
  have hcell : Y.cells = b.hours[h].cells.set 5 (.int .i64 (min 5 (min (x5 + 3) (x6 + (by' : Int))))) := by rw [hX, ← hY]; rfl
  have hset := hrs_set b.hours h hh 5 (by decide) Y _ hcell
  have HYS := hid hset
  have HYO := hid hYok
  have HYL := hid hYlaw
  have yg := own_wr hO (g := g) rfl (o := h * 6 + 5) (by omega)
  clear hset hYok hYlaw hcell hY hX
  refine Ks ?_
  refine Rs 2 fun Q' K hK => ?_
  refine M1 hE 38 fun K' J ρ q38 => ?_; go_simp; (try go_bits); (try clear q38)
  refine Ln hE J fun _ Eb => ?_; clear J K' hE a
  refine M1 Eb 65 fun K' J ρ q65 => ?_; go_simp; (try clear q65)
  refine Ln Eb J fun _ Ea => ?_; clear J K' Eb
  replace Ea := Ea.turn 64 (v' := .bool false) rfl (by (first | rfl | simp))
  refine late_done [2, 5, 6, 7, 8, 9, 38, 64] Ea hK (fun a hE => ?_); clear hK K Q' Ea; simp only [lk, pick, Nat.reduceEqDiff, ↓reduceIte] at hE
  refine Ks ?_
  refine cond_no hE (t := 64) rfl ?_
  refine Ks ?_
  refine Rs 2 fun Q' K hK => ?_
  refine M1 hE 38 fun K' J ρ q38 => ?_; go_simp; (try go_bits); (try clear q38)
  refine Ln hE J fun _ Eb => ?_; clear J K' hE a
  refine M1 Eb 75 fun K' J ρ q75 => ?_; go_simp; (try clear q75)
  refine Ln Eb J fun _ Ea => ?_; clear J K' Eb
  replace Ea := Ea.turn 74 (v' := .bool false) rfl (by (first | rfl | simp))
  refine late_done [2, 5, 6, 7, 8, 9, 38, 74] Ea hK (fun a hE => ?_); clear hK K Q' Ea; simp only [lk, pick, Nat.reduceEqDiff, ↓reduceIte] at hE
  refine Ks ?_
  refine cond_no hE (t := 74) rfl ?_
  refine Ks ?_
  refine Rs 2 fun Q' K hK => ?_
  refine M1 hE 38 fun K' J ρ q38 => ?_; go_simp; (try go_bits); (try clear q38)
  refine Ln hE J fun _ Eb => ?_; clear J K' hE a
  refine M1 Eb 85 fun K' J ρ q85 => ?_; go_simp; (try clear q85)
  refine Ln Eb J fun _ Ea => ?_; clear J K' Eb
  replace Ea := Ea.turn 84 (v' := .bool false) rfl (by (first | rfl | simp))
  refine late_done [2, 5, 6, 7, 8, 38, 84] Ea hK (fun a hE => ?_); clear hK K Q' Ea; simp only [lk, pick, Nat.reduceEqDiff, ↓reduceIte] at hE
  refine Ks ?_
  refine cond_no hE (t := 84) rfl ?_
  refine Ks ?_
  refine Rs 2 fun Q' K hK => ?_
  refine M1 hE 38 fun K' J ρ q38 => ?_; go_simp; (try go_bits); (try clear q38)
  refine Ln hE J fun _ Eb => ?_; clear J K' hE a
  refine M1 Eb 112 fun K' J ρ q112 => ?_; go_simp; (try clear q112)
  refine Ln Eb J fun _ Ea => ?_; clear J K' Eb
  replace Ea := Ea.turn 111 (v' := .bool true) rfl (by (first | rfl | simp))
  refine late_done [2, 5, 6, 7, 8, 111] Ea hK (fun a hE => ?_); clear hK K Q' Ea; simp only [lk, pick, Nat.reduceEqDiff, ↓reduceIte] at hE
  refine Ks ?_
  refine cond_yes hE (t := 111) rfl ?_
  refine Ks ?_
  refine Rs 1 fun Q' K hK => ?_
  refine M0 fun K' J ρ => ?_; go_simp;
  refine Ln hE J fun _ Eb => ?_; clear J K' hE a
  refine late_done [2, 5, 6, 7, 8, 9] Eb hK (fun a hE => ?_); clear hK K Q' Eb; simp only [lk, pick, Nat.reduceEqDiff, ↓reduceIte] at hE
  refine Ks ?_
  refine Rd [22, 23, 24, 25] (fun wt => Below V.heap.size V wt) (fun w1 w2 => Below w1.heap.size w1 w2) [(0, some 113), (1, some 114), (2, some 115), (3, some 116), (4, some 117), (5, some 118), (6, some 119), (7, some 120), (8, some 121), (9, some 122), (10, some 123), (11, some 124), (12, some 125), (13, some 126), (14, some 127), (15, some 128), (16, some 129), (17, some 130), (18, some 131), (19, some 132), (20, some 133), (21, some 134)] [113, 114, 115, 116, 117, 118, 119, 120, 121, 122, 123, 124, 125, 126, 127, 128, 129, 130, 131, 132, 133, 134] #[true, true, true, true, true, true, true, true, true, true, true, true, true, true, true, true, true, true, true, true, true, true, false, false, false, false] [5, 6, 9] hE ((Below.refl _ _).drew) fun Q' K hK => ?_
  refine SeqOps.val ?_ (Sp fun ax wx hS hT' hd K' J => ?_) ?_; rotate_left 1
  ·have r6 := hS.at 6 (by decide) (hE.at 6 rfl); obtain ⟨hcT, hfT, hlT, hmT, hwT, hzT⟩ := bT hT'
   refine o1 r6 fun ρ q6 => ?_; go_simp;
   exact Jo J hT'
  refine SeqOps.val ?_ (Sp fun ax wx hS hT' hd K' J => ?_) ?_; rotate_left 1
  ·have r113 := Tv hd 0 0 113; obtain ⟨hcT, hfT, hlT, hmT, hwT, hzT⟩ := bT hT'
   refine o1 r113 fun ρ q113 => ?_; go_simp;
   exact Jo J hT'
  refine SeqOps.val ?_ (Sp fun ax wx hS hT' hd K' J => ?_) ?_; rotate_left 1
  ·have r8 := hS.at 8 (by decide) (hE.at 8 rfl); obtain ⟨hcT, hfT, hlT, hmT, hwT, hzT⟩ := bT hT'
   refine o1 r8 fun ρ q8 => ?_; go_simp;
   exact Jo J hT'
  refine SeqOps.val ?_ (Sp fun ax wx hS hT' hd K' J => ?_) ?_; rotate_left 1
  ·have r2 := hS.at 2 (by decide) (hE.at 2 rfl); obtain ⟨hcT, hfT, hlT, hmT, hwT, hzT⟩ := bT hT'
   refine o1 r2 fun ρ q2 => ?_; go_simp;
   exact Jo J hT'
  refine SeqOps.val ?_ (Sp fun ax wx hS hT' hd K' J => ?_) ?_; rotate_left 1
  ·have r116 := Tv hd 0 3 116; obtain ⟨hcT, hfT, hlT, hmT, hwT, hzT⟩ := bT hT'
   refine o1 r116 fun ρ q116 => ?_; go_simp;
   exact Jo J hT'
  refine SeqOps.val ?_ (Sp fun ax wx hS hT' hd K' J => ?_) ?_; rotate_left 1
  ·have r8 := hS.at 8 (by decide) (hE.at 8 rfl); obtain ⟨hcT, hfT, hlT, hmT, hwT, hzT⟩ := bT hT'
   refine o1 r8 fun ρ q8 => ?_; go_simp;
   exact Jo J hT'
  refine SeqOps.val ?_ (Sp fun ax wx hS hT' hd K' J => ?_) ?_; rotate_left 1
  ·have r117 := Tv hd 1 4 117; have r118 := Tv hd 0 5 118; obtain ⟨hcT, hfT, hlT, hmT, hwT, hzT⟩ := bT hT'
   refine o2 r117 r118 fun ρ q117 q118 => ?_; go_simp; (try go_bits);
   exact Jo J hT'
  refine SeqOps.val ?_ (Sp fun ax wx hS hT' hd K' J => ?_) ?_; rotate_left 1
  ·have r119 := Tv hd 0 6 119; obtain ⟨hcT, hfT, hlT, hmT, hwT, hzT⟩ := bT hT'
   refine o1 r119 fun ρ q119 => ?_; go_simp;
   exact Jo J hT'
  refine SeqOps.val ?_ (Sp fun ax wx hS hT' hd K' J => ?_) ?_; rotate_left 1
  ·have r120 := Tv hd 0 7 120; obtain ⟨hcT, hfT, hlT, hmT, hwT, hzT⟩ := bT hT'
   refine o1 r120 fun ρ q120 => ?_; go_simp;
   exact Jo J hT'
  refine SeqOps.val ?_ (Sp fun ax wx hS hT' hd K' J => ?_) ?_; rotate_left 1
  ·have r121 := Tv hd 0 8 121; obtain ⟨hcT, hfT, hlT, hmT, hwT, hzT⟩ := bT hT'
   refine o1 r121 fun ρ q121 => ?_; go_simp;
   exact Jo J hT'
  refine SeqOps.val ?_ (Sp fun ax wx hS hT' hd K' J => ?_) ?_; rotate_left 1
  ·have r122 := Tv hd 0 9 122; obtain ⟨hcT, hfT, hlT, hmT, hwT, hzT⟩ := bT hT'
   refine o1 r122 fun ρ q122 => ?_; go_simp; (try go_bits); (try simp (disch := omega) only [IntWalk.i64_in]);
   exact Jo J hT'
  refine SeqOps.val ?_ (Sp fun ax wx hS hT' hd K' J => ?_) ?_; rotate_left 1
  ·have r2 := hS.at 2 (by decide) (hE.at 2 rfl); obtain ⟨hcT, hfT, hlT, hmT, hwT, hzT⟩ := bT hT'
   refine o1 r2 fun ρ q2 => ?_; go_simp;
   exact Jo J hT'
  refine SeqOps.val ?_ (Sp fun ax wx hS hT' hd K' J => ?_) ?_; rotate_left 1
  ·have r124 := Tv hd 0 11 124; obtain ⟨hcT, hfT, hlT, hmT, hwT, hzT⟩ := bT hT'
   refine o1 r124 fun ρ q124 => ?_; go_simp;
   exact Jo J hT'
  refine SeqOps.val ?_ (Sp fun ax wx hS hT' hd K' J => ?_) ?_; rotate_left 1
  ·have r8 := hS.at 8 (by decide) (hE.at 8 rfl); obtain ⟨hcT, hfT, hlT, hmT, hwT, hzT⟩ := bT hT'
   refine o1 r8 fun ρ q8 => ?_; go_simp;
   exact Jo J hT'
  refine SeqOps.val ?_ (Sp fun ax wx hS hT' hd K' J => ?_) ?_; rotate_left 1
  ·have r125 := Tv hd 1 12 125; have r126 := Tv hd 0 13 126; obtain ⟨hcT, hfT, hlT, hmT, hwT, hzT⟩ := bT hT'
   refine o2 r125 r126 fun ρ q125 q126 => ?_; go_simp; (try go_bits);
   exact Jo J hT'
  refine SeqOps.val ?_ (Sp fun ax wx hS hT' hd K' J => ?_) ?_; rotate_left 1
  ·have r127 := Tv hd 0 14 127; obtain ⟨hcT, hfT, hlT, hmT, hwT, hzT⟩ := bT hT'
   refine o1 r127 fun ρ q127 => ?_; go_simp;
   exact Jo J hT'
  refine SeqOps.val ?_ (Sp fun ax wx hS hT' hd K' J => ?_) ?_; rotate_left 1
  ·have r128 := Tv hd 0 15 128; obtain ⟨hcT, hfT, hlT, hmT, hwT, hzT⟩ := bT hT'
   refine o1 r128 fun ρ q128 => ?_; go_simp;
   exact Jo J hT'
  refine SeqOps.val ?_ (Sp fun ax wx hS hT' hd K' J => ?_) ?_; rotate_left 1
  ·have r129 := Tv hd 0 16 129; obtain ⟨hcT, hfT, hlT, hmT, hwT, hzT⟩ := bT hT'
   refine o1 r129 fun ρ q129 => ?_; go_simp;
   exact Jo J hT'
  refine SeqOps.val ?_ (Sp fun ax wx hS hT' hd K' J => ?_) ?_; rotate_left 1
  ·have r7 := hS.at 7 (by decide) (hE.at 7 rfl); obtain ⟨hcT, hfT, hlT, hmT, hwT, hzT⟩ := bT hT'
   refine o1 r7 fun ρ q7 => ?_; go_simp;
   exact Jo J hT'
  refine SeqOps.val ?_ (Sp fun ax wx hS hT' hd K' J => ?_) ?_; rotate_left 1
  ·have r130 := Tv hd 1 17 130; have r131 := Tv hd 0 18 131; obtain ⟨hcT, hfT, hlT, hmT, hwT, hzT⟩ := bT hT'
   refine o2 r130 r131 fun ρ q130 q131 => ?_; go_simp; (try go_bits); (try simp (disch := omega) only [IntWalk.i64_in]);
   exact Jo J hT'
  refine SeqOps.val ?_ (Sp fun ax wx hS hT' hd K' J => ?_) ?_; rotate_left 1
  ·have r123 := Tv hd 9 10 123; have r132 := Tv hd 0 19 132; obtain ⟨hcT, hfT, hlT, hmT, hwT, hzT⟩ := bT hT'
   refine o2 r123 r132 fun ρ q123 q132 => ?_; go_simp; (try go_bits);
   exact Jo J hT'
  refine SeqOps.val ?_ (Sp fun ax wx hS hT' hd K' J => ?_) ?_; rotate_left 1
  ·have r133 := Tv hd 0 20 133; obtain ⟨hcT, hfT, hlT, hmT, hwT, hzT⟩ := bT hT'
   refine o1 r133 fun ρ q133 => ?_; go_simp; (try go_bits);
   exact Jo J hT'
  refine SeqOps.nil ?_
  intro wu hBo; (repeat refine Ek ?_)
  refine fun aox hEox => ?_
  simp only [lk, pick, Nat.reduceEqDiff, ↓reduceIte] at hEox
  refine M2 hEox 114 115 fun K' J ρ q114 q115 => ?_; go_simp; (try go_bits); (try clear q114 q115)
  refine Ln hEox J fun ao_1 hEo_1 => ?_; clear J K' hEox
  refine M1 hEo_1 135 fun K' J ρ q135 => ?_; go_simp; (try clear q135)
  refine Ln hEo_1 J fun ao_2 hEo_2 => ?_; clear J K' hEo_1
  refine M1 hEo_2 136 fun K' J ρ q136 => ?_; go_simp; (try clear q136)
  refine Ln hEo_2 J fun ao_3 hEo_3 => ?_; clear J K' hEo_2
  have yg := wr_below yg hBo hgl
  refine M2 hEo_3 137 134 fun K' J ρ q137 q134 => ?_; go_simp; (try clear q137 q134)
  refine late_skip hEo_3 J (fun ao_4 hEo_4 => ?_); clear J K'; clear hEo_3
  refine late_done [5, 6, 9] hEo_4 hK (fun a hE => ?_); clear hK K Q' hEo_4; simp only [lk, pick, Nat.reduceEqDiff, ↓reduceIte] at hE
  have hbwu := hbV.trans (hBo.mono hbV.size)
  have hOu := own_below hO hBo
  have ho2 := own_set hOu (g := g) rfl (o := h * 6 + 5) (.int .i64 (min 5 (min (x5 + 3) (x6 + (by' : Int)))))
  rw [HYS.out] at ho2
  have hRu := hRQ.below hBo hl6
  have hru : Row (wu.setCell ⟨g, h * 6 + 5, none⟩ (.int .i64 (min 5 (min (x5 + 3) (x6 + (by' : Int)))))) Q6 (sbV (some ⟨g, 0, none⟩) c2 none 0 (bare b)) := row_of_block hRu (Below.heap_setCell _ _ _ _ (by simp only; omega))
  refine world_cut (fun wt => Below w0.heap.size w0 wt ∧ Q6 < wt.heap.size ∧ Row wt Q6 (sbV (some ⟨g, 0, none⟩) c2 none 0 (bare b)) ∧ wt.ownsRow (Q6 + 1) 62 6 (.slice (some ⟨g, 0, none⟩) b.hours.length c2) b.hours.length (hrs (b.hours.set h Y))) ⟨(hV0.trans (hBo.mono hV0.size)).setCell (by simp only; omega) _, by simpa using Nat.lt_of_lt_of_le hl6 hBo.size, hru, ho2⟩ (fun w7 hCut => ?_)
  clear ho2 hOu hRu hru yg
  obtain ⟨hb7, hl7, hr7, ho7⟩ := hCut
  have hsl : (b.hours.set h Y).length = b.hours.length := by simp
  exact HF.out (setB b h Y) HYO.out rfl hsl false (.inr ⟨rfl, HYL.out⟩) (some ⟨g, 0, none⟩) c2 w7 (hTw.below hb7) (hb0.trans (hb7.mono hb0.size)) (hM5.below hb7) (hC5.below hb7) ⟨own_arr ho7, fun h => absurd rfl h⟩ ⟨hl7, fun j u hu => (by have e : sbV (some ⟨g, 0, none⟩) c2 none 0 (setB b h Y) = sbV (some ⟨g, 0, none⟩) c2 none 0 (bare b) := (by simp [sbV, setB, bare]); rw [e] at hu; exact (hr7 j u hu).1)⟩ _ hE
 ·skip
  obtain ⟨x1, x2, x3, x4, x5, x6⟩ := X
  simp only at x0' x1' x2' x3' x4' x5' hhr
  obtain ⟨Y, hY⟩ : ∃ Y : Hr, (⟨x1, x2, max 0 (max (x4 - 3) (x3 - (by' : Int))), x4, x5, x6⟩ : Hr) = Y := ⟨_, rfl⟩
  have hYok : OkB (setB b h Y) := set_ok hb (by rw [← hY]; simp only; omega)
  have hYlaw := set_law hb hh hYok (by rw [hX, ← hY]; simp only; omega) (by rw [hX, ← hY]; simp only; omega) (by rw [hX, ← hY]; simp only; omega)
  have hcell : Y.cells = b.hours[h].cells.set 2 (.int .i64 (max 0 (max (x4 - 3) (x3 - (by' : Int))))) := by rw [hX, ← hY]; rfl
  have hset := hrs_set b.hours h hh 2 (by decide) Y _ hcell
  have HYS := hid hset
  have HYO := hid hYok
  have HYL := hid hYlaw
  have yg := own_wr hO (g := g) rfl (o := h * 6 + 2) (by omega)
  clear hset hYok hYlaw hcell hY hX
  refine Ks ?_
  refine Rs 2 fun Q' K hK => ?_
  refine M1 hE 38 fun K' J ρ q38 => ?_; go_simp; (try go_bits); (try clear q38)
  refine Ln hE J fun _ Eb => ?_; clear J K' hE a
  refine M1 Eb 65 fun K' J ρ q65 => ?_; go_simp; (try clear q65)
  refine Ln Eb J fun _ Ea => ?_; clear J K' Eb
  replace Ea := Ea.turn 64 (v' := .bool false) rfl (by (first | rfl | simp))
  refine late_done [2, 5, 6, 7, 8, 9, 38, 64] Ea hK (fun a hE => ?_); clear hK K Q' Ea; simp only [lk, pick, Nat.reduceEqDiff, ↓reduceIte] at hE
  refine Ks ?_
  refine cond_no hE (t := 64) rfl ?_
  refine Ks ?_
  refine Rs 2 fun Q' K hK => ?_
  refine M1 hE 38 fun K' J ρ q38 => ?_; go_simp; (try go_bits); (try clear q38)
  refine Ln hE J fun _ Eb => ?_; clear J K' hE a
  refine M1 Eb 75 fun K' J ρ q75 => ?_; go_simp; (try clear q75)
  refine Ln Eb J fun _ Ea => ?_; clear J K' Eb
  replace Ea := Ea.turn 74 (v' := .bool false) rfl (by (first | rfl | simp))
  refine late_done [2, 5, 6, 7, 8, 9, 38, 74] Ea hK (fun a hE => ?_); clear hK K Q' Ea; simp only [lk, pick, Nat.reduceEqDiff, ↓reduceIte] at hE
  refine Ks ?_
  refine cond_no hE (t := 74) rfl ?_
  refine Ks ?_
  refine Rs 2 fun Q' K hK => ?_
  refine M1 hE 38 fun K' J ρ q38 => ?_; go_simp; (try go_bits); (try clear q38)
  refine Ln hE J fun _ Eb => ?_; clear J K' hE a
  refine M1 Eb 85 fun K' J ρ q85 => ?_; go_simp; (try clear q85)
  refine Ln Eb J fun _ Ea => ?_; clear J K' Eb
  replace Ea := Ea.turn 84 (v' := .bool false) rfl (by (first | rfl | simp))
  refine late_done [2, 5, 6, 7, 8, 38, 84] Ea hK (fun a hE => ?_); clear hK K Q' Ea; simp only [lk, pick, Nat.reduceEqDiff, ↓reduceIte] at hE
  refine Ks ?_
  refine cond_no hE (t := 84) rfl ?_
  refine Ks ?_
  refine Rs 2 fun Q' K hK => ?_
  refine M1 hE 38 fun K' J ρ q38 => ?_; go_simp; (try go_bits); (try clear q38)
  refine Ln hE J fun _ Eb => ?_; clear J K' hE a
  refine M1 Eb 112 fun K' J ρ q112 => ?_; go_simp; (try clear q112)
  refine Ln Eb J fun _ Ea => ?_; clear J K' Eb
  replace Ea := Ea.turn 111 (v' := .bool false) rfl (by (first | rfl | simp))
  refine late_done [2, 5, 6, 7, 8, 111] Ea hK (fun a hE => ?_); clear hK K Q' Ea; simp only [lk, pick, Nat.reduceEqDiff, ↓reduceIte] at hE
  refine Ks ?_
  refine cond_no hE (t := 111) rfl ?_
  refine Ks ?_
  refine Rs 1 fun Q' K hK => ?_
  refine M0 fun K' J ρ => ?_; go_simp;
  refine Ln hE J fun _ Eb => ?_; clear J K' hE a
  refine late_done [2, 5, 6, 7, 8, 9] Eb hK (fun a hE => ?_); clear hK K Q' Eb; simp only [lk, pick, Nat.reduceEqDiff, ↓reduceIte] at hE
  refine Ks ?_
  refine Rd [22, 23, 24, 25] (fun wt => Below V.heap.size V wt) (fun w1 w2 => Below w1.heap.size w1 w2) [(0, some 39), (1, some 40), (2, some 41), (3, some 42), (4, some 43), (5, some 44), (6, some 45), (7, some 46), (8, some 47), (9, some 48), (10, some 49), (11, some 50), (12, some 51), (13, some 52), (14, some 53), (15, some 54), (16, some 55), (17, some 56), (18, some 57), (19, some 58), (20, some 59), (21, some 60)] [39, 40, 41, 42, 43, 44, 45, 46, 47, 48, 49, 50, 51, 52, 53, 54, 55, 56, 57, 58, 59, 60] #[true, true, true, true, true, true, true, true, true, true, true, true, true, true, true, true, true, true, true, true, true, true, false, false, false, false] [5, 6, 9] hE ((Below.refl _ _).drew) fun Q' K hK => ?_
  refine SeqOps.val ?_ (Sp fun ax wx hS hT' hd K' J => ?_) ?_; rotate_left 1
  ·have r6 := hS.at 6 (by decide) (hE.at 6 rfl); obtain ⟨hcT, hfT, hlT, hmT, hwT, hzT⟩ := bT hT'
   refine o1 r6 fun ρ q6 => ?_; go_simp;
   exact Jo J hT'
  refine SeqOps.val ?_ (Sp fun ax wx hS hT' hd K' J => ?_) ?_; rotate_left 1
  ·have r39 := Tv hd 0 0 39; obtain ⟨hcT, hfT, hlT, hmT, hwT, hzT⟩ := bT hT'
   refine o1 r39 fun ρ q39 => ?_; go_simp;
   exact Jo J hT'
  refine SeqOps.val ?_ (Sp fun ax wx hS hT' hd K' J => ?_) ?_; rotate_left 1
  ·have r8 := hS.at 8 (by decide) (hE.at 8 rfl); obtain ⟨hcT, hfT, hlT, hmT, hwT, hzT⟩ := bT hT'
   refine o1 r8 fun ρ q8 => ?_; go_simp;
   exact Jo J hT'
  refine SeqOps.val ?_ (Sp fun ax wx hS hT' hd K' J => ?_) ?_; rotate_left 1
  ·have r2 := hS.at 2 (by decide) (hE.at 2 rfl); obtain ⟨hcT, hfT, hlT, hmT, hwT, hzT⟩ := bT hT'
   refine o1 r2 fun ρ q2 => ?_; go_simp;
   exact Jo J hT'
  refine SeqOps.val ?_ (Sp fun ax wx hS hT' hd K' J => ?_) ?_; rotate_left 1
  ·have r42 := Tv hd 0 3 42; obtain ⟨hcT, hfT, hlT, hmT, hwT, hzT⟩ := bT hT'
   refine o1 r42 fun ρ q42 => ?_; go_simp;
   exact Jo J hT'
  refine SeqOps.val ?_ (Sp fun ax wx hS hT' hd K' J => ?_) ?_; rotate_left 1
  ·have r8 := hS.at 8 (by decide) (hE.at 8 rfl); obtain ⟨hcT, hfT, hlT, hmT, hwT, hzT⟩ := bT hT'
   refine o1 r8 fun ρ q8 => ?_; go_simp;
   exact Jo J hT'
  refine SeqOps.val ?_ (Sp fun ax wx hS hT' hd K' J => ?_) ?_; rotate_left 1
  ·have r43 := Tv hd 1 4 43; have r44 := Tv hd 0 5 44; obtain ⟨hcT, hfT, hlT, hmT, hwT, hzT⟩ := bT hT'
   refine o2 r43 r44 fun ρ q43 q44 => ?_; go_simp; (try go_bits);
   exact Jo J hT'
  refine SeqOps.val ?_ (Sp fun ax wx hS hT' hd K' J => ?_) ?_; rotate_left 1
  ·have r45 := Tv hd 0 6 45; obtain ⟨hcT, hfT, hlT, hmT, hwT, hzT⟩ := bT hT'
   refine o1 r45 fun ρ q45 => ?_; go_simp;
   exact Jo J hT'
  refine SeqOps.val ?_ (Sp fun ax wx hS hT' hd K' J => ?_) ?_; rotate_left 1
  ·have r46 := Tv hd 0 7 46; obtain ⟨hcT, hfT, hlT, hmT, hwT, hzT⟩ := bT hT'
   refine o1 r46 fun ρ q46 => ?_; go_simp;
   exact Jo J hT'
  refine SeqOps.val ?_ (Sp fun ax wx hS hT' hd K' J => ?_) ?_; rotate_left 1
  ·have r47 := Tv hd 0 8 47; obtain ⟨hcT, hfT, hlT, hmT, hwT, hzT⟩ := bT hT'
   refine o1 r47 fun ρ q47 => ?_; go_simp;
   exact Jo J hT'
  refine SeqOps.val ?_ (Sp fun ax wx hS hT' hd K' J => ?_) ?_; rotate_left 1
  ·have r48 := Tv hd 0 9 48; obtain ⟨hcT, hfT, hlT, hmT, hwT, hzT⟩ := bT hT'
   refine o1 r48 fun ρ q48 => ?_; go_simp; (try go_bits); (try simp (disch := omega) only [IntWalk.i64_in]);
   exact Jo J hT'
  refine SeqOps.val ?_ (Sp fun ax wx hS hT' hd K' J => ?_) ?_; rotate_left 1
  ·have r2 := hS.at 2 (by decide) (hE.at 2 rfl); obtain ⟨hcT, hfT, hlT, hmT, hwT, hzT⟩ := bT hT'
   refine o1 r2 fun ρ q2 => ?_; go_simp;
   exact Jo J hT'
  refine SeqOps.val ?_ (Sp fun ax wx hS hT' hd K' J => ?_) ?_; rotate_left 1
  ·have r50 := Tv hd 0 11 50; obtain ⟨hcT, hfT, hlT, hmT, hwT, hzT⟩ := bT hT'
   refine o1 r50 fun ρ q50 => ?_; go_simp;
   exact Jo J hT'
  refine SeqOps.val ?_ (Sp fun ax wx hS hT' hd K' J => ?_) ?_; rotate_left 1
  ·have r8 := hS.at 8 (by decide) (hE.at 8 rfl); obtain ⟨hcT, hfT, hlT, hmT, hwT, hzT⟩ := bT hT'
   refine o1 r8 fun ρ q8 => ?_; go_simp;
   exact Jo J hT'
  refine SeqOps.val ?_ (Sp fun ax wx hS hT' hd K' J => ?_) ?_; rotate_left 1
  ·have r51 := Tv hd 1 12 51; have r52 := Tv hd 0 13 52; obtain ⟨hcT, hfT, hlT, hmT, hwT, hzT⟩ := bT hT'
   refine o2 r51 r52 fun ρ q51 q52 => ?_; go_simp; (try go_bits);
   exact Jo J hT'
  refine SeqOps.val ?_ (Sp fun ax wx hS hT' hd K' J => ?_) ?_; rotate_left 1
  ·have r53 := Tv hd 0 14 53; obtain ⟨hcT, hfT, hlT, hmT, hwT, hzT⟩ := bT hT'
   refine o1 r53 fun ρ q53 => ?_; go_simp;
   exact Jo J hT'
  refine SeqOps.val ?_ (Sp fun ax wx hS hT' hd K' J => ?_) ?_; rotate_left 1
  ·have r54 := Tv hd 0 15 54; obtain ⟨hcT, hfT, hlT, hmT, hwT, hzT⟩ := bT hT'
   refine o1 r54 fun ρ q54 => ?_; go_simp;
   exact Jo J hT'
  refine SeqOps.val ?_ (Sp fun ax wx hS hT' hd K' J => ?_) ?_; rotate_left 1
  ·have r55 := Tv hd 0 16 55; obtain ⟨hcT, hfT, hlT, hmT, hwT, hzT⟩ := bT hT'
   refine o1 r55 fun ρ q55 => ?_; go_simp;
   exact Jo J hT'
  refine SeqOps.val ?_ (Sp fun ax wx hS hT' hd K' J => ?_) ?_; rotate_left 1
  ·have r7 := hS.at 7 (by decide) (hE.at 7 rfl); obtain ⟨hcT, hfT, hlT, hmT, hwT, hzT⟩ := bT hT'
   refine o1 r7 fun ρ q7 => ?_; go_simp;
   exact Jo J hT'
  refine SeqOps.val ?_ (Sp fun ax wx hS hT' hd K' J => ?_) ?_; rotate_left 1
  ·have r56 := Tv hd 1 17 56; have r57 := Tv hd 0 18 57; obtain ⟨hcT, hfT, hlT, hmT, hwT, hzT⟩ := bT hT'
   refine o2 r56 r57 fun ρ q56 q57 => ?_; go_simp; (try go_bits); (try simp (disch := omega) only [IntWalk.i64_in]);
   exact Jo J hT'
  refine SeqOps.val ?_ (Sp fun ax wx hS hT' hd K' J => ?_) ?_; rotate_left 1
  ·have r49 := Tv hd 9 10 49; have r58 := Tv hd 0 19 58; obtain ⟨hcT, hfT, hlT, hmT, hwT, hzT⟩ := bT hT'
   refine o2 r49 r58 fun ρ q49 q58 => ?_; go_simp; (try go_bits);
   exact Jo J hT'
  refine SeqOps.val ?_ (Sp fun ax wx hS hT' hd K' J => ?_) ?_; rotate_left 1
  ·have r59 := Tv hd 0 20 59; obtain ⟨hcT, hfT, hlT, hmT, hwT, hzT⟩ := bT hT'
   refine o1 r59 fun ρ q59 => ?_; go_simp; (try go_bits);
   exact Jo J hT'
  refine SeqOps.nil ?_
  intro wu hBo; (repeat refine Ek ?_)
  refine fun aox hEox => ?_
  simp only [lk, pick, Nat.reduceEqDiff, ↓reduceIte] at hEox
  refine M2 hEox 40 41 fun K' J ρ q40 q41 => ?_; go_simp; (try go_bits); (try clear q40 q41)
  refine Ln hEox J fun ao_1 hEo_1 => ?_; clear J K' hEox
  refine M1 hEo_1 61 fun K' J ρ q61 => ?_; go_simp; (try clear q61)
  refine Ln hEo_1 J fun ao_2 hEo_2 => ?_; clear J K' hEo_1
  refine M1 hEo_2 62 fun K' J ρ q62 => ?_; go_simp; (try clear q62)
  refine Ln hEo_2 J fun ao_3 hEo_3 => ?_; clear J K' hEo_2
  have yg := wr_below yg hBo hgl
  refine M2 hEo_3 63 60 fun K' J ρ q63 q60 => ?_; go_simp; (try clear q63 q60)
  refine late_skip hEo_3 J (fun ao_4 hEo_4 => ?_); clear J K'; clear hEo_3
  refine late_done [5, 6, 9] hEo_4 hK (fun a hE => ?_); clear hK K Q' hEo_4; simp only [lk, pick, Nat.reduceEqDiff, ↓reduceIte] at hE
  have hbwu := hbV.trans (hBo.mono hbV.size)
  have hOu := own_below hO hBo
  have ho2 := own_set hOu (g := g) rfl (o := h * 6 + 2) (.int .i64 (max 0 (max (x4 - 3) (x3 - (by' : Int)))))
  rw [HYS.out] at ho2
  have hRu := hRQ.below hBo hl6
  have hru : Row (wu.setCell ⟨g, h * 6 + 2, none⟩ (.int .i64 (max 0 (max (x4 - 3) (x3 - (by' : Int)))))) Q6 (sbV (some ⟨g, 0, none⟩) c2 none 0 (bare b)) := row_of_block hRu (Below.heap_setCell _ _ _ _ (by simp only; omega))
  refine world_cut (fun wt => Below w0.heap.size w0 wt ∧ Q6 < wt.heap.size ∧ Row wt Q6 (sbV (some ⟨g, 0, none⟩) c2 none 0 (bare b)) ∧ wt.ownsRow (Q6 + 1) 62 6 (.slice (some ⟨g, 0, none⟩) b.hours.length c2) b.hours.length (hrs (b.hours.set h Y))) ⟨(hV0.trans (hBo.mono hV0.size)).setCell (by simp only; omega) _, by simpa using Nat.lt_of_lt_of_le hl6 hBo.size, hru, ho2⟩ (fun w7 hCut => ?_)
  clear ho2 hOu hRu hru yg
  obtain ⟨hb7, hl7, hr7, ho7⟩ := hCut
  have hsl : (b.hours.set h Y).length = b.hours.length := by simp
  exact HF.out (setB b h Y) HYO.out rfl hsl false (.inr ⟨rfl, HYL.out⟩) (some ⟨g, 0, none⟩) c2 w7 (hTw.below hb7) (hb0.trans (hb7.mono hb0.size)) (hM5.below hb7) (hC5.below hb7) ⟨own_arr ho7, fun h => absurd rfl h⟩ ⟨hl7, fun j u hu => (by have e : sbV (some ⟨g, 0, none⟩) c2 none 0 (setB b h Y) = sbV (some ⟨g, 0, none⟩) c2 none 0 (bare b) := (by simp [sbV, setB, bare]); rw [e] at hu; exact (hr7 j u hu).1)⟩ _ hE
set_option maxRecDepth 100000 in
set_option maxHeartbeats 4000000 in
theorem holds_bad (ho : b.ok = false) (n0 n1 n2 : Int) (w : World) (hTw : TabW w) (hM : SbAt w H S b) (hh : b.hours.length ≤ 9223372036854775807) (hss : b.sights.length ≤ 9223372036854775807) : Calls Tryd.prog 11 #[.agg (sbV H hcap S scap b).toArray, .agg #[.int .i64 n0, .int .i64 n1, .int .i64 n2]] w fun e w' => e = .returned (.bool true) ∧ Below w.heap.size w w' := by
 have C2 : Hid (∀ W, SbAt W H S b → Calls Tryd.prog 34 #[.agg (sbV H hcap S scap b).toArray] W fun e w' => e = .returned (.bool false) ∧ Below W.heap.size W w') := hid fun W hW => by
  have h := sound_any H hcap S scap b W hW hh hss
  rw [ho] at h
  exact h
 clear ho hh hss
 refine enterE Tryd.func11 rfl Tryd.ntmps11 (by simp) (fun a hE => ?_); simp only [envOf, Nat.zero_add, Nat.reduceAdd] at hE
 refine Ks ?_
 refine Rs 3 fun Q' K hK => ?_
 refine M1 hE 0 fun K' J ρ q0 => ?_; go_simp; (try clear q0)
 refine Ln hE J fun _ Eb => ?_; clear J K' hE a
 refine M1 Eb 1 fun K' J ρ q1 => ?_; go_simp; (try clear q1)
 refine Ln Eb J fun _ Ea => ?_; clear J K' Eb
 refine M0 fun K' J ρ => ?_; go_simp;
 refine Ln Ea J fun _ Eb => ?_; clear J K' Ea
 refine late_done [2, 3] Eb hK (fun a hE => ?_); clear hK K Q' Eb; simp only [lk, pick, Nat.reduceEqDiff, ↓reduceIte] at hE
 obtain ⟨B, hB⟩ : ∃ B, B = w.heap.size := ⟨_, rfl⟩
 obtain ⟨X, hX⟩ : ∃ B, B = w.heap.size + 1 := ⟨_, rfl⟩
 rw [← hX, ← hB] at hE
 refine world_cut (fun wt => Below w.heap.size w wt ∧ Cells wt B (sbV H hcap S scap b) ∧ Cells wt X [.int .i64 n0, .int .i64 n1, .int .i64 n2]) (by rw [hB, hX]; exact cells_two w _ _ _ _) (fun w1 hC => ?_)
 obtain ⟨hbw1, hCB, hCX⟩ := hC
 replace hM := hM.below hbw1
 replace hTw := hTw.below hbw1
 clear hB hX
 have nB := hCB.1; have cB7 := hCB.2 7 _ rfl
 have nX := hCX.1; have cX0 := hCX.2 0 _ rfl; have cX1 := hCX.2 1 _ rfl; have cX2 := hCX.2 2 _ rfl
 refine Ks ?_
 refine Rs 3 fun Q' K hK => ?_
 refine Lp fun K' J => ?_
 have r2 := hE.at 2 rfl
 refine wp_load_mid 29 (.tmp 2) rfl B 0 (eval_of r2) (sbV H hcap S scap b) _ (fun j u hu => by rw [Nat.zero_add]; exact hCB.2 j u hu) Tryd.underlying29 rfl (by kernel_rfl) ?_
 (try clear r2)
 refine Ln hE J fun _ Eb => ?_; clear J K' hE a
 refine M1 Eb 15 fun K' J ρ q15 => ?_; go_simp; (try go_bits); (try clear q15)
 go_at_call 34; refine (C2.out _ hM).mono ?_; rintro e w2 ⟨rfl, h2⟩
 (try clear r15)
 refine Ln Eb J fun _ Ea => ?_; clear J K' Eb
 refine M1 Ea 16 fun K' J ρ q16 => ?_; go_simp; (try go_bits); (try simp (disch := omega) only [IntWalk.i64_in]); (try clear q16)
 refine Ln Ea J fun _ Eb => ?_; clear J K' Ea
 replace Eb := Eb.turn 17 (v' := .bool true) rfl (by (first | rfl | simp))
 refine late_done [2, 3, 17] Eb hK (fun a hE => ?_); clear hK K Q' Eb; simp only [lk, pick, Nat.reduceEqDiff, ↓reduceIte] at hE
 have hbw2 := hbw1.trans (h2.mono hbw1.size)
 replace hCB := hCB.below h2
 clear nB cB7
 have nB := hCB.1; have cB7 := hCB.2 7 _ rfl
 replace hCX := hCX.below h2
 clear nX cX0 cX1 cX2
 have nX := hCX.1; have cX0 := hCX.2 0 _ rfl; have cX1 := hCX.2 1 _ rfl; have cX2 := hCX.2 2 _ rfl
 replace hM := hM.below h2
 replace hTw := hTw.below h2
 refine Ks ?_
 refine cond_yes hE (t := 17) rfl ?_
 refine Ks ?_
 refine Rs 2 fun Q' K hK => ?_
 refine M0 fun K' J ρ => ?_; go_simp; (try go_bits);
 go_at_call 22; refine (snowed_any _ hTw).mono ?_; rintro e w9 ⟨rfl, k9⟩
 refine Ln hE J fun _ Eb => ?_; clear J K' hE a
 refine M1 Eb 18 fun K' J ρ q18 => ?_; go_simp; (try clear q18)
 refine Ln Eb J fun _ Ea => ?_; clear J K' Eb
 refine late_done [4] Ea hK (fun a hE => ?_); clear hK K Q' Ea; simp only [lk, pick, Nat.reduceEqDiff, ↓reduceIte] at hE
 refine Ks ?_
 exact ret_one hE rfl rfl ⟨rfl, hbw2.trans (k9.mono hbw2.size)⟩
set_option maxRecDepth 100000 in
set_option maxHeartbeats 4000000 in
theorem holds_good (hb : OkB b) (n0 n1 n2 : Int) (w : World) (hTw : TabW w) (hM : SbAt w H S b) : Calls Tryd.prog 11 #[.agg (sbV H hcap S scap b).toArray, .agg #[.int .i64 n0, .int .i64 n1, .int .i64 n2]] w fun e w' => e = .returned (.bool true) ∧ Below w.heap.size w w' := by
 have h12 := hb.hours
 have C2 := hid fun (W : World) hW => soundC H hcap S scap b hb W hW
 obtain ⟨hw1, hw2⟩ := windI_range n1 b.hours.length (by omega)
 obtain ⟨h, hh0⟩ : ∃ h : Nat, windI n1 b.hours.length = h := ⟨(windI n1 b.hours.length).toNat, by omega⟩
 have hh : h < b.hours.length := by omega
 obtain ⟨hw3, hw4⟩ := windI_range n2 25 (by omega)
 obtain ⟨by', hby0⟩ : ∃ h : Nat, windI n2 25 = h := ⟨(windI n2 25).toNat, by omega⟩
 have hby : by' < 25 := by omega
 obtain ⟨hw5, hw6⟩ := windI_range n0 5 (by omega)
 obtain ⟨s, hs0⟩ : ∃ s, windI n0 5 = s := ⟨_, rfl⟩
 have hs : s = 0 ∨ s = 1 ∨ s = 2 ∨ s = 3 ∨ s = 4 := by omega
 have HS := hid hh0
 have HS2 := hid hby0
 have HW64 : Hid ((b.hours.length : Int) ≤ 9223372036854775807) := hid (by omega)
 have HM := hid fun (B Xb Q5 Q6 g c2 : Nat) (w0 V : World) => holds_mid H hcap S scap b hb hh hby n0 n1 n2 s hs0 hs B Xb Q5 Q6 g c2 w w0 V
 clear hb hw1 hw2 hw3 hw4 hw5 hw6 hh0 hby0 hs0 hs hh hby
 refine enterE Tryd.func11 rfl Tryd.ntmps11 (by simp) (fun a hE => ?_); simp only [envOf, Nat.zero_add, Nat.reduceAdd] at hE
 refine Ks ?_
 refine Rs 3 fun Q' K hK => ?_
 refine M1 hE 0 fun K' J ρ q0 => ?_; go_simp; (try clear q0)
 refine Ln hE J fun _ Eb => ?_; clear J K' hE a
 refine M1 Eb 1 fun K' J ρ q1 => ?_; go_simp; (try clear q1)
 refine Ln Eb J fun _ Ea => ?_; clear J K' Eb
 refine M0 fun K' J ρ => ?_; go_simp;
 refine Ln Ea J fun _ Eb => ?_; clear J K' Ea
 refine late_done [2, 3] Eb hK (fun a hE => ?_); clear hK K Q' Eb; simp only [lk, pick, Nat.reduceEqDiff, ↓reduceIte] at hE
 obtain ⟨B, hB⟩ : ∃ B, B = w.heap.size := ⟨_, rfl⟩
 obtain ⟨X, hX⟩ : ∃ B, B = w.heap.size + 1 := ⟨_, rfl⟩
 rw [← hX, ← hB] at hE
 refine world_cut (fun wt => Below w.heap.size w wt ∧ Cells wt B (sbV H hcap S scap b) ∧ Cells wt X [.int .i64 n0, .int .i64 n1, .int .i64 n2]) (by rw [hB, hX]; exact cells_two w _ _ _ _) (fun w1 hC => ?_)
 obtain ⟨hbw1, hCB, hCX⟩ := hC
 replace hM := hM.below hbw1
 replace hTw := hTw.below hbw1
 clear hB hX
 have nB := hCB.1; have cB7 := hCB.2 7 _ rfl
 have nX := hCX.1; have cX0 := hCX.2 0 _ rfl; have cX1 := hCX.2 1 _ rfl; have cX2 := hCX.2 2 _ rfl
 refine Ks ?_
 refine Rs 3 fun Q' K hK => ?_
 refine Lp fun K' J => ?_
 have r2 := hE.at 2 rfl
 refine wp_load_mid 29 (.tmp 2) rfl B 0 (eval_of r2) (sbV H hcap S scap b) _ (fun j u hu => by rw [Nat.zero_add]; exact hCB.2 j u hu) Tryd.underlying29 rfl (by kernel_rfl) ?_
 (try clear r2)
 refine Ln hE J fun _ Eb => ?_; clear J K' hE a
 refine M1 Eb 15 fun K' J ρ q15 => ?_; go_simp; (try go_bits); (try clear q15)
 go_at_call 34; refine (C2.out _ hM).mono ?_; rintro e w2 ⟨rfl, h2⟩
 (try clear r15)
 refine Ln Eb J fun _ Ea => ?_; clear J K' Eb
 refine M1 Ea 16 fun K' J ρ q16 => ?_; go_simp; (try go_bits); (try simp (disch := omega) only [IntWalk.i64_in]); (try clear q16)
 refine Ln Ea J fun _ Eb => ?_; clear J K' Ea
 replace Eb := Eb.turn 17 (v' := .bool false) rfl (by (first | rfl | simp))
 refine late_done [2, 3, 17] Eb hK (fun a hE => ?_); clear hK K Q' Eb; simp only [lk, pick, Nat.reduceEqDiff, ↓reduceIte] at hE
 have hbw2 := hbw1.trans (h2.mono hbw1.size)
 replace hCB := hCB.below h2
 clear nB cB7
 have nB := hCB.1; have cB7 := hCB.2 7 _ rfl
 replace hCX := hCX.below h2
 clear nX cX0 cX1 cX2
 have nX := hCX.1; have cX0 := hCX.2 0 _ rfl; have cX1 := hCX.2 1 _ rfl; have cX2 := hCX.2 2 _ rfl
 replace hM := hM.below h2
 replace hTw := hTw.below h2
 refine Ks ?_
 refine cond_no hE (t := 17) rfl ?_
 refine Ks ?_
 refine Rs 3 fun Q' K hK => ?_
 refine Lp fun K' J => ?_
 have r2 := hE.at 2 rfl
 refine wp_load_mid 29 (.tmp 2) rfl B 0 (eval_of r2) (sbV H hcap S scap b) _ (fun j u hu => by rw [Nat.zero_add]; exact hCB.2 j u hu) Tryd.underlying29 rfl (by kernel_rfl) ?_
 (try clear r2)
 refine Ln hE J fun _ Eb => ?_; clear J K' hE a
 refine M0 fun K' J ρ => ?_; go_simp;
 refine Ln Eb J fun _ Ea => ?_; clear J K' Eb
 refine Lp fun K' J => ?_
 have r5 := Ea.at 5 rfl; have r19 := Ea.at 19 rfl
 refine wp_store_mid 29 (.tmp 5) (.tmp 19) rfl w2.heap.size 0 (sbV H hcap S scap b).toArray (eval_of r5) (eval_of r19) (there_row (row_new w2 _ _) (Nat.le_of_eq rfl)) (by kernel_rfl) (by kernel_rfl) ?_
 (try clear r5 r19)
 refine late_skip Ea J (fun _ Eb => ?_); clear J K'; clear Ea
 refine late_done [2, 3, 5] Eb hK (fun a hE => ?_); clear hK K Q' Eb; simp only [lk, pick, Nat.reduceEqDiff, ↓reduceIte] at hE
 obtain ⟨Q5, hQ⟩ : ∃ B, B = w2.heap.size := ⟨_, rfl⟩
 rw [← hQ] at hE
 have hnQ5 : w2.heap.size ≤ Q5 := Nat.le_of_eq hQ.symm
 refine world_cut (fun wt => Below w2.heap.size w2 wt ∧ Q5 < wt.heap.size ∧ Row wt Q5 (sbV H hcap S scap b)) ?_ (fun w3 hCut => ?_)
 ·rw [hQ]; have q := boxed_new w2 #[.int .i64 0, .int .i64 0, .int .i64 0, .int .i64 0, .int .i64 0, .int .i64 0, .int .i64 0, .slice none 0 0, .slice none 0 0] 29 (sbV H hcap S scap b) rfl; exact ⟨q.1, q.2.1, row_all (row_new w2 #[.int .i64 0, .int .i64 0, .int .i64 0, .int .i64 0, .int .i64 0, .int .i64 0, .int .i64 0, .slice none 0 0, .slice none 0 0] 29) rfl⟩
 obtain ⟨kQ5, hlQ5, hRQ5⟩ := hCut
 clear hQ
 have y8 := (hRQ5 8 _ rfl).2
 refine Ks ?_
 refine Rs 2 fun Q' K hK => ?_
 refine M1 hE 5 fun K' J ρ q5 => ?_; go_simp; (try clear q5)
 refine Ln hE J fun _ Eb => ?_; clear J K' hE a
 refine M1 Eb 20 fun K' J ρ q20 => ?_; go_simp; (try clear q20)
 refine late_skip Eb J (fun _ Ea => ?_); clear J K'; clear Eb
 refine late_done [2, 3, 5] Ea hK (fun a hE => ?_); clear hK K Q' Ea; simp only [lk, pick, Nat.reduceEqDiff, ↓reduceIte] at hE
 refine world_cut (fun wt => Below w2.heap.size w2 wt ∧ Cells wt Q5 (sbV H hcap none 0 (bare b))) ⟨kQ5.setCell hnQ5 _, by simpa using hlQ5, fun j u hu => (hRQ5.set (o := 8) (v := .slice none 0 0) (by simp [sbV]) j u hu).1⟩ (fun w4 hCut => ?_)
 clear hRQ5 hlQ5 y8 kQ5
 obtain ⟨k4, hC5⟩ := hCut
 have hbw4 := hbw2.trans (k4.mono hbw2.size)
 replace hCB := hCB.below k4
 clear nB cB7
 have nB := hCB.1; have cB7 := hCB.2 7 _ rfl
 replace hCX := hCX.below k4
 clear nX cX0 cX1 cX2
 have nX := hCX.1; have cX0 := hCX.2 0 _ rfl; have cX1 := hCX.2 1 _ rfl; have cX2 := hCX.2 2 _ rfl
 replace hM := hM.below k4
 replace hTw := hTw.below k4
 refine Ks ?_
 refine Rs 3 fun Q' K hK => ?_
 refine Lp fun K' J => ?_
 have r5 := hE.at 5 rfl
 refine wp_load_mid 29 (.tmp 5) rfl Q5 0 (eval_of r5) (sbV H hcap none 0 (bare b)) _ (fun j u hu => by rw [Nat.zero_add]; exact hC5.2 j u hu) Tryd.underlying29 rfl (by kernel_rfl) ?_
 (try clear r5)
 refine Ln hE J fun _ Eb => ?_; clear J K' hE a
 refine M0 fun K' J ρ => ?_; go_simp;
 refine Ln Eb J fun _ Ea => ?_; clear J K' Eb
 refine Lp fun K' J => ?_
 have r6 := Ea.at 6 rfl; have r21 := Ea.at 21 rfl
 refine wp_store_mid 29 (.tmp 6) (.tmp 21) rfl w4.heap.size 0 (sbV H hcap none 0 (bare b)).toArray (eval_of r6) (eval_of r21) (there_row (row_new w4 _ _) (Nat.le_of_eq rfl)) (by kernel_rfl) (by kernel_rfl) ?_
 (try clear r6 r21)
 refine late_skip Ea J (fun _ Eb => ?_); clear J K'; clear Ea
 refine late_done [2, 3, 5, 6] Eb hK (fun a hE => ?_); clear hK K Q' Eb; simp only [lk, pick, Nat.reduceEqDiff, ↓reduceIte] at hE
 obtain ⟨Q6, hQ⟩ : ∃ B, B = w4.heap.size := ⟨_, rfl⟩
 rw [← hQ] at hE
 have hnQ6 : w4.heap.size ≤ Q6 := Nat.le_of_eq hQ.symm
 refine world_cut (fun wt => Below w4.heap.size w4 wt ∧ Q6 < wt.heap.size ∧ Row wt Q6 (sbV H hcap none 0 (bare b))) ?_ (fun w5 hCut => ?_)
 ·rw [hQ]; have q := boxed_new w4 #[.int .i64 0, .int .i64 0, .int .i64 0, .int .i64 0, .int .i64 0, .int .i64 0, .int .i64 0, .slice none 0 0, .slice none 0 0] 29 (sbV H hcap none 0 (bare b)) rfl; exact ⟨q.1, q.2.1, row_all (row_new w4 #[.int .i64 0, .int .i64 0, .int .i64 0, .int .i64 0, .int .i64 0, .int .i64 0, .int .i64 0, .slice none 0 0, .slice none 0 0] 29) rfl⟩
 obtain ⟨kQ6, hlQ6, hRQ6⟩ := hCut
 clear hQ
 have hw45 := kQ6
 have hCX4 := hCX
 have hM4 := hM
 have hTw4 := hTw
 have hCB4 := hCB
 have hC54 := hC5
 have hn6 := hnQ6
 have hbw5 := hbw4.trans (kQ6.mono hbw4.size)
 replace hCB := hCB.below kQ6
 clear nB cB7
 have nB := hCB.1; have cB7 := hCB.2 7 _ rfl
 replace hCX := hCX.below kQ6
 clear nX cX0 cX1 cX2
 have nX := hCX.1; have cX0 := hCX.2 0 _ rfl; have cX1 := hCX.2 1 _ rfl; have cX2 := hCX.2 2 _ rfl
 replace hM := hM.below kQ6
 replace hTw := hTw.below kQ6
 replace hC5 := hC5.below kQ6
 refine Ks ?_
 refine Rs 6 fun Q' K hK => ?_
 refine M0 fun K' J ρ => ?_; go_simp;
 refine Ln hE J fun _ Eb => ?_; clear J K' hE a
 refine M1 Eb 2 fun K' J ρ q2 => ?_; go_simp; (try clear q2)
 refine Ln Eb J fun _ Ea => ?_; clear J K' Eb
 refine M1 Ea 23 fun K' J ρ q23 => ?_; go_simp; (try clear q23)
 refine Ln Ea J fun _ Eb => ?_; clear J K' Ea
 refine Lp fun K' J => ?_
 have r22 := Eb.at 22 rfl; have r24 := Eb.at 24 rfl
 have k8 : Below w5.heap.size w5 (w5.alloc (.cells #[] 62)) := (Below.refl _ _).alloc (Nat.le_refl _) _
 refine wp_appZ (.tmp 22) (.tmp 24) 26 rfl 62 (.agg #[.int .i64 0, .int .i64 0, .int .i64 0, .int .i64 0, .int .i64 0, .int .i64 0]) 6 48 Tryd.underlying26 (by kernel_rfl) rfl (by decide) w5.heap.size w5.heap.size (eval_of r22) (World.ownsRow_lit w5 #[] 0 (Nat.le_refl _) (by decide) rfl) H b.hours.length hcap (hrs b.hours) (eval_of r24) (hM.1.below k8) (hrs_length _) (hrs_one _) (by simp only [maxLen]; omega) (by omega) k8.size (fun A2 c2 w6 q1 q2 => ?_)
 have k56 := k8.trans (q2.mono k8.size)
 have hR6 := hRQ6.below k56 hlQ6
 have y7 := (hR6 7 _ rfl).2
 (try clear r22 r24)
 refine Ln Eb J fun _ Ea => ?_; clear J K' Eb
 refine M1 Ea 6 fun K' J ρ q6 => ?_; go_simp; (try clear q6)
 refine Ln Ea J fun _ Eb => ?_; clear J K' Ea
 refine M2 Eb 26 25 fun K' J ρ q26 q25 => ?_; go_simp; (try clear q26 q25)
 refine late_skip Eb J (fun _ Ea => ?_); clear J K'; clear Eb
 refine late_done [2, 3, 5, 6] Ea hK (fun a hE => ?_); clear hK K Q' Ea; simp only [lk, pick, Nat.reduceEqDiff, ↓reduceIte] at hE
 obtain ⟨g, cap, eg, j1, j2, j3, _, _, _⟩ := own_new q1 (by omega)
 obtain rfl : A2 = some ⟨g, 0, none⟩ := by cases eg; rfl
 have hr7 := hR6.set (o := 7) (v := .slice (some ⟨g, 0, none⟩) b.hours.length c2) (by simp [sbV])
 have ho7 := own_of_block (own_base q1 (show Q6 + 1 ≤ w5.heap.size by omega)) (w' := w6.setCell ⟨Q6, 7, none⟩ (.slice (some ⟨g, 0, none⟩) b.hours.length c2)) (by simp) (fun k hk => Below.heap_setCell _ _ _ _ (by have := ownBlock_le q1 k hk; simp only; omega))
 refine world_cut (fun wt => Below w4.heap.size w4 wt ∧ Q6 < wt.heap.size ∧ g < wt.heap.size ∧ Row wt Q6 (sbV (some ⟨g, 0, none⟩) c2 none 0 (bare b)) ∧ wt.ownsRow (Q6 + 1) 62 6 (.slice (some ⟨g, 0, none⟩) b.hours.length c2) b.hours.length (hrs b.hours)) ⟨(hw45.trans (k56.mono hw45.size)).setCell hn6 _, by simp only [World.size_setCell]; have := k56.size; omega, by simpa using j2, hr7, ho7⟩ (fun w7 hCut => ?_)
 have hgQ : Q6 + 1 ≤ g := by omega
 clear hr7 ho7 q1 q2 k8 k56 hR6 y7 hRQ6 hlQ6 j2 j3 eg
 obtain ⟨hV0, hl6, hgl, hRQ, hO⟩ := hCut
 have hbw7 := hbw4.trans (hV0.mono hbw4.size)
 clear nB cB7 nX cX0 cX1 cX2
 replace hCX := hCX4.below hV0
 have hCB7 := hCB4.below hV0
 have nB := hCB7.1
 have cB7 := hCB7.2 7 _ rfl
 have nX := hCX.1; have cX0 := hCX.2 0 _ rfl; have cX1 := hCX.2 1 _ rfl; have cX2 := hCX.2 2 _ rfl
 refine Ks ?_
 refine Rd [10] (fun wt => Below w7.heap.size w7 wt) (fun w1 w2 => Below w1.heap.size w1 w2) [(0, some 27), (1, some 28), (2, some 29), (3, some 30), (4, some 31), (5, some 32), (6, some 33), (7, some 34), (8, some 35), (9, some 7)] [27, 28, 29, 30, 31, 32, 33, 34, 35, 7] #[true, true, true, true, true, true, true, true, true, true, false] [2, 3, 5, 6, 8] hE ((Below.refl _ _).drew) fun Q' K hK => ?_
 refine SeqOps.val ?_ (Sp fun ax wx hS hT' hd K' J => ?_) ?_; rotate_left 1
 ·have r3 := hS.at 3 (by decide) (hE.at 3 rfl); obtain ⟨hcT, hfT, hlT, hmT, hwT, hzT⟩ := bT hT'
  refine o1 r3 fun ρ q3 => ?_; go_simp; (try go_bits);
  exact Jo J hT'
 refine SeqOps.val ?_ (Sp fun ax wx hS hT' hd K' J => ?_) ?_; rotate_left 1
 ·have r27 := Tv hd 0 0 27; obtain ⟨hcT, hfT, hlT, hmT, hwT, hzT⟩ := bT hT'
  refine o1 r27 fun ρ q27 => ?_; go_simp;
  exact Jo J hT'
 refine SeqOps.val ?_ (Sp fun ax wx hS hT' hd K' J => ?_) ?_; rotate_left 1
 ·have r28 := Tv hd 0 1 28; obtain ⟨hcT, hfT, hlT, hmT, hwT, hzT⟩ := bT hT'
  refine o1 r28 fun ρ q28 => ?_; go_simp; (try go_bits);
  go_at_call 40; refine (wind_any n2 25 (by decide) _).mono ?_; rw [HS2.out]; rintro e g1 ⟨rfl, rfl⟩
  refine J.out _ _ _ rfl ?_ hT' (Below.refl _ _); rfl
 refine SeqOps.val ?_ (Sp fun ax wx hS hT' hd K' J => ?_) ?_; rotate_left 1
 ·have r3 := hS.at 3 (by decide) (hE.at 3 rfl); obtain ⟨hcT, hfT, hlT, hmT, hwT, hzT⟩ := bT hT'
  refine o1 r3 fun ρ q3 => ?_; go_simp; (try go_bits);
  exact Jo J hT'
 refine SeqOps.val ?_ (Sp fun ax wx hS hT' hd K' J => ?_) ?_; rotate_left 1
 ·have r30 := Tv hd 0 3 30; obtain ⟨hcT, hfT, hlT, hmT, hwT, hzT⟩ := bT hT'
  refine o1 r30 fun ρ q30 => ?_; go_simp;
  exact Jo J hT'
 refine SeqOps.val ?_ (Sp fun ax wx hS hT' hd K' J => ?_) ?_; rotate_left 1
 ·have r2 := hS.at 2 (by decide) (hE.at 2 rfl); obtain ⟨hcT, hfT, hlT, hmT, hwT, hzT⟩ := bT hT'
  refine o1 r2 fun ρ q2 => ?_; go_simp;
  exact Jo J hT'
 refine SeqOps.val ?_ (Sp fun ax wx hS hT' hd K' J => ?_) ?_; rotate_left 1
 ·have r32 := Tv hd 0 5 32; obtain ⟨hcT, hfT, hlT, hmT, hwT, hzT⟩ := bT hT'
  refine o1 r32 fun ρ q32 => ?_; go_simp;
  exact Jo J hT'
 refine SeqOps.val ?_ (Sp fun ax wx hS hT' hd K' J => ?_) ?_; rotate_left 1
 ·have r33 := Tv hd 0 6 33; obtain ⟨hcT, hfT, hlT, hmT, hwT, hzT⟩ := bT hT'
  refine o1 r33 fun ρ q33 => ?_; go_simp; (try go_bits);
  exact Jo J hT'
 refine SeqOps.val ?_ (Sp fun ax wx hS hT' hd K' J => ?_) ?_; rotate_left 1
 ·have r31 := Tv hd 3 4 31; have r34 := Tv hd 0 7 34; obtain ⟨hcT, hfT, hlT, hmT, hwT, hzT⟩ := bT hT'
  refine o2 r31 r34 fun ρ q31 q34 => ?_; go_simp; (try go_bits);
  go_at_call 40; refine (wind_any n1 _ HW64.out _).mono ?_; rw [HS.out]; rintro e g1 ⟨rfl, rfl⟩
  refine J.out _ _ _ rfl ?_ hT' (Below.refl _ _); rfl
 refine SeqOps.val ?_ (Sp fun ax wx hS hT' hd K' J => ?_) ?_; rotate_left 1
 ·have r29 := Tv hd 6 2 29; obtain ⟨hcT, hfT, hlT, hmT, hwT, hzT⟩ := bT hT'
  refine o1 r29 fun ρ q29 => ?_; go_simp;
  exact Jo J hT'
 refine SeqOps.nil ?_
 intro w8 hBm; (repeat refine Ek ?_)
 refine fun amx hEmx => ?_
 simp only [lk, pick, Nat.reduceEqDiff, ↓reduceIte] at hEmx
 refine M1 hEmx 35 fun K' J ρ q35 => ?_; go_simp; (try clear q35)
 refine Ln hEmx J fun am_1 hEm_1 => ?_; clear J K' hEmx
 refine late_done [2, 3, 5, 6, 7, 8] hEm_1 hK (fun a hE => ?_); clear hK K Q' hEm_1; simp only [lk, pick, Nat.reduceEqDiff, ↓reduceIte] at hE
 have hbw8 := hbw7.trans (hBm.mono hbw7.size)
 replace hCX := hCX.below hBm
 clear nX cX0 cX1 cX2
 have nX := hCX.1; have cX0 := hCX.2 0 _ rfl; have cX1 := hCX.2 1 _ rfl; have cX2 := hCX.2 2 _ rfl
 refine Ks ?_
 refine Rs 1 fun Q' K hK => ?_
 refine M0 fun K' J ρ => ?_; go_simp;
 refine Ln hE J fun _ Eb => ?_; clear J K' hE a
 refine late_done [2, 3, 5, 6, 7, 8, 9] Eb hK (fun a hE => ?_); clear hK K Q' Eb; simp only [lk, pick, Nat.reduceEqDiff, ↓reduceIte] at hE
 exact HM.out B X Q5 Q6 g c2 w4 _ hTw4 hbw4 (hV0.trans (hBm.mono hV0.size)) hM4 hCB4 hCX4 ⟨hM4.1, fun h => absurd rfl h⟩ hC54 hn6 (Nat.lt_of_lt_of_le hl6 hBm.size) hgQ (Nat.lt_of_lt_of_le hgl hBm.size) (hRQ.below hBm hl6) (own_below hO hBm) _ hE
theorem SlopeHolds_any (n0 n1 n2 : Int) (w : World) (hTw : TabW w) (hM : SbAt w H S b) (hh : b.hours.length ≤ 9223372036854775807) (hss : b.sights.length ≤ 9223372036854775807) : Calls Tryd.prog 11 #[.agg (sbV H hcap S scap b).toArray, .agg #[.int .i64 n0, .int .i64 n1, .int .i64 n2]] w fun e w' => e = .returned (.bool true) ∧ Below w.heap.size w w' := by
 cases ho : b.ok
 ·exact holds_bad H hcap S scap b ho n0 n1 n2 w hTw hM hh hss
 ·exact holds_good H hcap S scap b (ok_iff.1 ho) n0 n1 n2 w hTw hM
end
end Go.Proofs.YtkhmcofmjjmjhaaDoor
