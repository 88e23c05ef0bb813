/- Slope: the outlook of a valid book, as the exported functions ask it. -/
import Derived.Test.YtkhmcofmjjmjhaaDoorKTSbd
import Derived.Test.YtkhmcofmjjmjhaaDoorKTSbe

namespace Go.Proofs.YtkhmcofmjjmjhaaDoor
set_option linter.unusedSimpArgs false
set_option linter.unusedVariables false
open Go Go.RowKit
attribute [local go_sem high] cell_set_wr
attribute [local go_sem low] cell_wr frozen_wr
attribute [local go_sem] wr_set wr_drew wr_drewN wr_alloc wr_new Rho.c Rho.n Rho.g
/-- the outlook of a book that can be true -/
def OvAt (b : Sb) (V : List Value) (w : World) : Prop := ∃ H hcap S scap P pcap D dc, V = olV H hcap S scap b P (hpsOf b).length pcap D (hpsOf b).length dc (.int .u64 (oftN b)) ∧ LdAt w D (ouA (hpsOf b) (f0 b) (hpsOf b).length)
theorem OvAt.below {b : Sb} {V : List Value} {w w' : World} (h : OvAt b V w) (hb : Below w.heap.size w w') : OvAt b V w' := by
 obtain ⟨H, hcap, S, scap, P, pcap, D, dc, h1, h2⟩ := h
 exact ⟨H, hcap, S, scap, P, pcap, D, dc, h1, h2.below hb⟩
def OvN (N : Nat) (b : Sb) (V : List Value) (w : World) : Prop := ∃ H hcap S scap P pcap D dc, V = olV H hcap S scap b P (hpsOf b).length pcap D (hpsOf b).length dc (.int .u64 (oftN b)) ∧ LdN N w D (ouA (hpsOf b) (f0 b) (hpsOf b).length)
theorem OvN.at {N : Nat} {b : Sb} {V : List Value} {w : World} (h : OvN N b V w) : OvAt b V w := by
 obtain ⟨H, hcap, S, scap, P, pcap, D, dc, h1, h2⟩ := h
 exact ⟨H, hcap, S, scap, P, pcap, D, dc, h1, h2.at⟩
theorem OvN.keep {N : Nat} {b : Sb} {V : List Value} {w w' : World} (h : OvN N b V w) (hs : w.heap.size ≤ w'.heap.size) (hc : ∀ p u, N ≤ p.block → w.cell? p = some u → w'.cell? p = some u) : OvN N b V w' := by
 obtain ⟨H, hcap, S, scap, P, pcap, D, dc, h1, h2⟩ := h
 exact ⟨H, hcap, S, scap, P, pcap, D, dc, h1, h2.keep hs hc⟩
theorem OvN.below {N : Nat} {b : Sb} {V : List Value} {w w' : World} (h : OvN N b V w) (hb : Below w.heap.size w w') : OvN N b V w' := h.keep hb.size fun p u _ hu => (KeepC.of_below hb).cell p u hu
def NoB (cs : List Value) : Prop := ∀ u ∈ cs, ∀ x, u ≠ .bool x
theorem olV_noB (H : Option Addr) (hcap : Nat) (S : Option Addr) (scap : Nat) (b : Sb) (P : Option Addr) (n pcap : Nat) (D : Option Addr) (m dcap : Nat) (o : Int) : NoB (olV H hcap S scap b P n pcap D m dcap (.int .u64 o)) := by
 intro u hu x e
 subst e
 simp [olV, bkV] at hu
/-- what foreseen tells: a tuple of twelve cells and an error -/
structure OvP (b : Sb) (E : Int) (V : List Value) (w : World) : Prop where
 len : V.length = 12
 one : V.toArray.all (·.oneCell') = true
 nob : NoB V
 ov : E = 0 → OvAt b V w
theorem OvP.below {b : Sb} {E : Int} {V : List Value} {w w' : World} (h : OvP b E V w) (hb : Below w.heap.size w w') : OvP b E V w' := ⟨h.len, h.one, h.nob, fun e => (h.ov e).below hb⟩
def frE (b : Sb) (valid : Bool) : Int := if b.ok = true then (if valid = true then (if rtB b = true then 0 else 32) else 31) else 30
theorem frE_zero {b : Sb} {valid : Bool} : frE b valid = 0 ↔ b.ok = true ∧ valid = true ∧ rtB b = true := by
 unfold frE
 by_cases h1 : b.ok = true
 ·by_cases h2 : valid = true
  ·by_cases h3 : rtB b = true <;> simp [h1, h2, h3]
  ·simp [h1, h2]
 ·simp [h1]
theorem ouA_len (xs : List Hp) (f : Nat → Bool) (k : Nat) : (ouA xs f k).length = k := by simp [ouA]
theorem ouA_at (b : Sb) {h : Nat} (hh : h < (hpsOf b).length) (h' : h < (ouA (hpsOf b) (f0 b) (hpsOf b).length).length) : (ouA (hpsOf b) (f0 b) (hpsOf b).length)[h] = outB b h := by
 simp only [ouA, List.getElem_map, List.getElem_range]
 exact ouL_out b hh
set_option maxRecDepth 100000 in
/-- the ends of an hour's loads -/
theorem out_ends {b : Sb} (hb : OkB b) (hr : rtB b = true) {h : Nat} (hh : h < b.hours.length) : (loH b h < 2000 ∧ (∀ k, k < loH b h → outB b h k = false) ∧ outB b h (loH b h) = true) ∧ hiH b h < 2000 ∧ (∀ k, hiH b h < k → k < 2000 → outB b h k = false) ∧ outB b h (hiH b h) = true := by
 obtain ⟨t, ht⟩ := (rtB_iff hb).1 hr
 have hl : h < t.length := by rw [ht.length]; exact hh
 have h1 : outB b h t[h].1 = true := (outB_iff hb hh).2 ⟨t, ht, by rw [List.getElem?_eq_getElem hl]; rfl⟩
 have h2 := ht.load_lt hb _ (List.getElem_mem hl)
 obtain ⟨a1, a2, a3⟩ := minB_is (by omega : t[h].1 < 2000) h1
 obtain ⟨b1, b2, b3⟩ := maxB_is (by omega : t[h].1 < 2000) h1
 exact ⟨⟨a2, a3, a1⟩, b2, b3, b1⟩
theorem isSafe_b {b : Sb} (hb : OkB b) (hr : rtB b = true) {h : Nat} (hh : h < b.hours.length) (V : List Value) (w : World) (hV : OvAt b V w) : Calls Tryd.prog 69 #[.agg V.toArray, .int .i64 h] w fun e w' => e = .returned (.bool (safB b h)) ∧ Below w.heap.size w w' := by
 obtain ⟨H, hcap, S, scap, P, pcap, D, dc, rfl, hL⟩ := hV
 have hh' : h < (hpsOf b).length := by rw [hpsOf_length]; exact hh
 obtain ⟨⟨a1, a2, a3⟩, b1, b2, b3⟩ := out_ends hb hr hh
 have he := ouA_at b hh' (by rw [ouA_len]; exact hh')
 have := isSafe_any H hcap S scap b P (hpsOf b).length pcap D dc (.int .u64 (oftN b)) (ouA (hpsOf b) (f0 b) (hpsOf b).length) h (by rw [ouA_len]; exact hh') (loH b h) (hiH b h) a1 (by rw [he]; exact a2) (by rw [he]; exact a3) b1 (by rw [he]; exact b2) (by rw [he]; exact b3) w hL
 rw [ouA_len] at this
 exact this
theorem oload_b {b : Sb} (hb : OkB b) (hr : rtB b = true) {h : Nat} (hh : h < b.hours.length) (V : List Value) (w : World) (hV : OvAt b V w) : Calls Tryd.prog 66 #[.agg V.toArray, .int .i64 h] w fun e w' => e = .returned (.agg #[.int .i64 (loH b h), .int .i64 (hiH b h)]) ∧ Below w.heap.size w w' := by
 obtain ⟨H, hcap, S, scap, P, pcap, D, dc, rfl, hL⟩ := hV
 have hh' : h < (hpsOf b).length := by rw [hpsOf_length]; exact hh
 obtain ⟨⟨a1, a2, a3⟩, b1, b2, b3⟩ := out_ends hb hr hh
 have he := ouA_at b hh' (by rw [ouA_len]; exact hh')
 have := oload_any H hcap S scap b P (hpsOf b).length pcap D dc (.int .u64 (oftN b)) (ouA (hpsOf b) (f0 b) (hpsOf b).length) h (by rw [ouA_len]; exact hh') (loH b h) (hiH b h) a1 (by rw [he]; exact a2) (by rw [he]; exact a3) b1 (by rw [he]; exact b2) (by rw [he]; exact b3) w hL
 rw [ouA_len] at this
 exact this
/-- how many, one after the other, are so -/
def runN (s : Nat → Bool) : Nat → Nat → Nat
 | 0, _ => 0
 | r + 1, h => if s h then runN s r (h + 1) + 1 else 0
theorem runN_is (s : Nat → Bool) : ∀ (r h k : Nat), k ≤ r → (∀ j, j < k → s (h + j) = true) → (k = r ∨ s (h + k) = false) → runN s r h = k
 | 0, h, k, hk, _, _ => by have : k = 0 := by omega
                           subst this; rfl
 | r + 1, h, 0, _, _, h2 => by
  have : s h = false := h2.elim (fun e => by omega) id
  unfold runN
  rw [this]; rfl
 | r + 1, h, k + 1, hk, h1, h2 => by
  have h3 : s h = true := h1 0 (by omega)
  unfold runN
  rw [h3, if_pos rfl, runN_is s r (h + 1) k (by omega) (fun j hj => by have := h1 (j + 1) (by omega); rwa [show h + (j + 1) = h + 1 + j by omega] at this) (h2.imp (by omega) (fun e => by rwa [show h + (k + 1) = h + 1 + k by omega] at e))]
def runB (b : Sb) (h : Nat) : Nat := runN (safB b) (b.hours.length - h) h
set_option maxRecDepth 100000 in
set_option maxHeartbeats 1000000 in
theorem safeFrom_b {b : Sb} (hb : OkB b) (hr : rtB b = true) {h : Nat} (hh : h ≤ b.hours.length) (V : List Value) (w : World) (hV : OvAt b V w) : Calls Tryd.prog 71 #[.agg V.toArray, .int .i64 h] w fun e w' => e = .returned (.int .i64 (runB b h)) ∧ Below w.heap.size w w' := by
 have h12 := hb.hours
 have HSF := hid fun (k : Nat) hk (W : World) hW => isSafe_b hb hr (h := k) hk V W hW
 have HOV := hid hV
 obtain ⟨H, hcap, S, scap, P, pcap, D, dc, hVe, hL⟩ := hV
 have hVl : V.length = 12 := by rw [hVe]; rfl
 have hV9 : V[9]? = some (.slice P (hpsOf b).length pcap) := by rw [hVe]; rfl
 rw [hpsOf_length] at hV9
 have HV12 := hid hVl
 have HRU := hid fun k h1 h2 h3 => runN_is (safB b) (b.hours.length - h) h k h1 h2 h3
 clear hVe hL hVl hb hr
 refine enterE Tryd.func71 rfl Tryd.ntmps71 (by simp) (fun a hE => ?_); simp only [envOf, Nat.zero_add, Nat.reduceAdd] at hE
 refine Ks ?_
 refine Rs 2 fun Q' K hK => ?_
 refine M1 hE 0 fun K' J ρ q0 => ?_; go_simp
 refine Ln hE J fun _ Eb => ?_; clear J K' hE a q0
 refine M0 fun K' J ρ => ?_; go_simp;
 refine Ln Eb J fun _ Ea => ?_; clear J K' Eb
 refine Ld [1, 2] Ea hK fun a hE => ?_; clear hK K Q' Ea
 obtain ⟨B, hBe⟩ : ∃ B, B = w.heap.size := ⟨_, rfl⟩; have hnB : w.heap.size ≤ B := Nat.le_of_eq hBe.symm; rw [← hBe] at hE; refine world_cut (fun wt => Below w.heap.size w wt ∧ B < wt.heap.size ∧ Row wt B V) ⟨(Below.refl _ _).alloc (Nat.le_refl _) _, by rw [hBe]; simp, by rw [hBe]; exact row_new _ _ _⟩ (fun w1 hCut => ?_); obtain ⟨hbw1, hlB, hRB⟩ := hCut; clear hBe
 have c9 := (hRB 9 _ hV9).1
 refine Ks ?_
 refine Rs 1 fun Q' K hK => ?_
 refine M0 fun K' J ρ => ?_; go_simp;
 refine Ln hE J fun _ Eb => ?_; clear J K' hE a
 refine Ld [1, 2, 5] Eb hK fun a hE => ?_; clear hK K Q' Eb
 refine Ks ?_
 refine loop_st (fun (k : Nat) a w' => h + k ≤ b.hours.length ∧ Fits 24 [(1, .int .i64 h), (2, .pointer (some ⟨B, 0, none⟩)), (5, .int .i64 k)] a ∧ Below w1.heap.size w1 w' ∧ ∀ j, j < k → safB b (h + j) = true) (fun k => b.hours.length - h - k) 0 ⟨by omega, by simpa using hE, Below.refl _ _, fun j hj => absurd hj (Nat.not_lt_zero _)⟩ (fun k a wr hI => ?_)
 clear hE c9
 obtain ⟨hk, hE, hW, hN⟩ := hI
 have HN := hid hN
 clear hN
 have hbr := hbw1.trans (hW.mono hbw1.size)
 have hRBr := hRB.below hW hlB
 have c9 := (hRBr 9 _ hV9).1
 by_cases hlt : h + k < b.hours.length
 ·have hltI : (h : Int) + k < b.hours.length := by omega
  have hSf := hid (HSF.out (h + k) hlt wr (HOV.out.below hbr))
  obtain ⟨q, hq⟩ : ∃ q, safB b (h + k) = q := ⟨_, rfl⟩
  rw [hq] at hSf
  have HQ := hid hq
  clear hq
  simp only [Int.natCast_add] at hSf
  refine Ks ?_
  refine Rs 15 fun Q' K hK => ?_
  refine M1 hE 1 fun K' J ρ q1 => ?_; go_simp
  refine Ln hE J fun _ Eb => ?_; clear J K' hE a q1
  refine M1 Eb 5 fun K' J ρ q5 => ?_; go_simp
  refine Ln Eb J fun _ Ea => ?_; clear J K' Eb q5
  refine M2 Ea 6 7 fun K' J ρ q6 q7 => ?_; go_simp; (try go_bits); (try simp (disch := omega) only [IntWalk.i64_in])
  refine Ln Ea J fun _ Eb => ?_; clear J K' Ea q6 q7
  refine M1 Eb 2 fun K' J ρ q2 => ?_; go_simp
  refine Ln Eb J fun _ Ea => ?_; clear J K' Eb q2
  refine M1 Ea 9 fun K' J ρ q9 => ?_; go_simp
  refine Ln Ea J fun _ Eb => ?_; clear J K' Ea q9
  refine M1 Eb 10 fun K' J ρ q10 => ?_; go_simp
  refine Ln Eb J fun _ Ea => ?_; clear J K' Eb q10
  refine M1 Ea 11 fun K' J ρ q11 => ?_; go_simp; (try go_bits)
  refine Ln Ea J fun _ Eb => ?_; clear J K' Ea q11
  refine M2 Eb 8 12 fun K' J ρ q8 q12 => ?_; go_simp; (try go_bits)
  refine Ln Eb J fun _ Ea => ?_; clear J K' Eb q8 q12
  replace Ea := Ea.turn 13 (v' := .bool true) rfl (by (first | (simp; done) | (simp; omega)))
  refine M1 Ea 13 fun K' J ρ q13 => ?_; go_simp
  refine Ln Ea J fun _ Eb => ?_; clear J K' Ea q13
  refine Ly Eb 14 fun K' J => ?_
  have r2 := Eb.at 2 rfl
  refine wp_load_mid 94 (.tmp 2) rfl B 0 (eval_of r2) V _ (fun j u hu => by rw [Nat.zero_add]; exact (hRBr j u hu).1) Tryd.underlying94 rfl (by rw [HV12.out]; kernel_rfl) ?_
  (try clear r2)
  refine Ln Eb J fun _ Ea => ?_; clear J K' Eb
  refine N1 Ea 14 1 fun K' J ρ q1 => ?_; go_simp
  refine Ln Ea J fun _ Eb => ?_; clear J K' Ea q1
  refine N1 Eb 14 5 fun K' J ρ q5 => ?_; go_simp
  refine Ln Eb J fun _ Ea => ?_; clear J K' Eb q5
  refine N2 Ea 14 16 17 fun K' J ρ q16 q17 => ?_; go_simp; (try go_bits); (try simp (disch := omega) only [IntWalk.i64_in])
  refine Ln Ea J fun _ Eb => ?_; clear J K' Ea q16 q17
  refine N2 Eb 14 15 18 fun K' J ρ q15 q18 => ?_; go_simp; (try go_bits); (try clear q15 q18)
  go_at_call 69; refine hSf.out.mono ?_; rintro e w5 ⟨rfl, h5⟩
  (try clear r15 r18)
  refine Ln Eb J fun _ Ea => ?_; clear J K' Eb
  refine M2 Ea 14 19 fun K' J ρ q14 q19 => ?_; go_simp; (try go_bits)
  refine Ln Ea J fun _ Eb => ?_; clear J K' Ea q14 q19
  refine Ld [1, 2, 5, 20] Eb hK fun a hE => ?_; clear hK K Q' Eb
  have hW5 := hW.trans (h5.mono hW.size)
  cases hv : q
  ·have hr : runB b h = k := HRU.out k (by omega) HN.out (.inr (by rw [HQ.out, hv]))
   rw [hv] at hE
   rw [hr]
   clear hv hr
   refine Ks ?_
   refine cond_no hE (t := 20) rfl ?_
   refine Ks ?_
   refine Rs 2 fun Q' K hK => ?_
   refine M1 hE 5 fun K' J ρ q5 => ?_; go_simp
   refine Ln hE J fun _ Eb => ?_; clear J K' hE a q5
   refine M1 Eb 23 fun K' J ρ q23 => ?_; go_simp
   refine Ln Eb J fun _ Ea => ?_; clear J K' Eb q23
   refine Ld [4] Ea hK fun a hE => ?_; clear hK K Q' Ea
   refine Ks ?_
   exact ret_one hE rfl rfl ⟨rfl, hbw1.trans (hW5.mono hbw1.size)⟩
  ·rw [hv] at hE HQ
   clear hv
   refine Ks ?_
   refine cond_yes hE (t := 20) rfl ?_
   refine Ks ?_
   refine Rs 3 fun Q' K hK => ?_
   refine M1 hE 5 fun K' J ρ q5 => ?_; go_simp
   refine Ln hE J fun _ Eb => ?_; clear J K' hE a q5
   refine M1 Eb 21 fun K' J ρ q21 => ?_; go_simp; (try go_bits); (try simp (disch := omega) only [IntWalk.i64_in])
   refine Ln Eb J fun _ Ea => ?_; clear J K' Eb q21
   refine M1 Ea 22 fun K' J ρ q22 => ?_; go_simp
   refine Ln Ea J fun _ Eb => ?_; clear J K' Ea q22
   refine Ld [1, 2, 5] Eb hK fun a hE => ?_; clear hK K Q' Eb
   refine Ks ?_
   exact ⟨k + 1, ⟨by omega, by simpa using hE, hW5, fun j hj => by
    by_cases e : j = k
    ·subst e; exact HQ.out
    ·exact HN.out j (by omega)⟩, by omega⟩
 ·have hltI : ¬ (h : Int) + k < b.hours.length := by omega
  have hr : runB b h = k := HRU.out k (by omega) HN.out (.inl (by omega))
  rw [hr]
  clear hr
  refine Ks ?_
  refine Rs 15 fun Q' K hK => ?_
  refine M1 hE 1 fun K' J ρ q1 => ?_; go_simp
  refine Ln hE J fun _ Eb => ?_; clear J K' hE a q1
  refine M1 Eb 5 fun K' J ρ q5 => ?_; go_simp
  refine Ln Eb J fun _ Ea => ?_; clear J K' Eb q5
  refine M2 Ea 6 7 fun K' J ρ q6 q7 => ?_; go_simp; (try go_bits); (try simp (disch := omega) only [IntWalk.i64_in])
  refine Ln Ea J fun _ Eb => ?_; clear J K' Ea q6 q7
  refine M1 Eb 2 fun K' J ρ q2 => ?_; go_simp
  refine Ln Eb J fun _ Ea => ?_; clear J K' Eb q2
  refine M1 Ea 9 fun K' J ρ q9 => ?_; go_simp
  refine Ln Ea J fun _ Eb => ?_; clear J K' Ea q9
  refine M1 Eb 10 fun K' J ρ q10 => ?_; go_simp
  refine Ln Eb J fun _ Ea => ?_; clear J K' Eb q10
  refine M1 Ea 11 fun K' J ρ q11 => ?_; go_simp; (try go_bits)
  refine Ln Ea J fun _ Eb => ?_; clear J K' Ea q11
  refine M2 Eb 8 12 fun K' J ρ q8 q12 => ?_; go_simp; (try go_bits)
  refine Ln Eb J fun _ Ea => ?_; clear J K' Eb q8 q12
  replace Ea := Ea.turn 13 (v' := .bool false) rfl (by (first | (simp; done) | (simp; omega)))
  refine M1 Ea 13 fun K' J ρ q13 => ?_; go_simp
  refine Ln Ea J fun _ Eb => ?_; clear J K' Ea q13
  refine Lno Eb 14 ?_
  refine Lu Eb fun _ Ea => ?_
  refine Lno Ea 14 ?_
  refine Lu Ea fun _ Eb => ?_
  refine Lno Eb 14 ?_
  refine Lu Eb fun _ Ea => ?_
  refine Lno Ea 14 ?_
  refine Lu Ea fun _ Eb => ?_
  refine Lno Eb 14 ?_
  refine Lu Eb fun _ Ea => ?_
  refine M2 Ea 14 19 fun K' J ρ q14 q19 => ?_; go_simp; (try go_bits)
  refine Ln Ea J fun _ Eb => ?_; clear J K' Ea q14 q19
  replace Eb := Eb.turn 20 (v' := .bool false) rfl (by (first | rfl | simp))
  refine Ld [1, 2, 5, 20] Eb hK fun a hE => ?_; clear hK K Q' Eb
  refine Ks ?_
  refine cond_no hE (t := 20) rfl ?_
  refine Ks ?_
  refine Rs 2 fun Q' K hK => ?_
  refine M1 hE 5 fun K' J ρ q5 => ?_; go_simp
  refine Ln hE J fun _ Eb => ?_; clear J K' hE a q5
  refine M1 Eb 23 fun K' J ρ q23 => ?_; go_simp
  refine Ln Eb J fun _ Ea => ?_; clear J K' Eb q23
  refine Ld [4] Ea hK fun a hE => ?_; clear hK K Q' Ea
  refine Ks ?_
  exact ret_one hE rfl rfl ⟨rfl, hbr⟩
section
variable (H : Option Addr) (hcap : Nat) (S : Option Addr) (scap : Nat) (b : Sb)
theorem zero12 : (olV none 0 none 0 ⟨⟨0, 0, 0, 0, 0⟩, 0, 0, [], []⟩ none 0 0 none 0 0 (.int .u64 0)).toArray.all (·.oneCell') = true := by kernel_rfl
theorem olV_one (H : Option Addr) (hcap : Nat) (S : Option Addr) (scap : Nat) (b : Sb) (P : Option Addr) (n pcap : Nat) (D : Option Addr) (m dcap : Nat) (o : Int) : (olV H hcap S scap b P n pcap D m dcap (.int .u64 o)).toArray.all (·.oneCell') = true := by kernel_rfl
set_option maxRecDepth 100000 in
set_option maxHeartbeats 1000000 in
theorem foreseen_any (valid : Bool) (w : World) (hM : SbAt w H S b) (hh : b.hours.length ≤ 9223372036854775807) (hss : b.sights.length ≤ 9223372036854775807) : Calls Tryd.prog 65 #[.agg (sbV H hcap S scap b).toArray, .bool valid] w fun e w' => (∃ V, e = .returned (.tuple #[.agg V.toArray, .int .i64 (frE b valid)]) ∧ OvP b (frE b valid) V w') ∧ Below w.heap.size w w' := by
 have C1 := hid fun (W : World) hW => pCheck_any H hcap S scap b W hW hh hss
 have C2 := hid fun (hb : OkB b) (W : World) hW => prepared_any H hcap S scap b hb W hW
 have C3 := hid fun (hb : OkB b) (P : Option Addr) (pcap : Nat) (W : World) (hW : HpsAt W P (hpsOf b)) => outlook_any H hcap S scap b P pcap hb W hW
 clear hh hss
 refine enterE Tryd.func65 rfl Tryd.ntmps65 (by simp) (fun a hE => ?_); simp only [envOf, Nat.zero_add, Nat.reduceAdd] at hE
 refine Ks ?_
 refine Rs 3 fun Q' K hK => ?_
 refine M1 hE 0 fun K' J ρ q0 => ?_; go_simp
 refine Ln hE J fun _ Eb => ?_; clear J K' hE a q0
 refine M0 fun K' J ρ => ?_; go_simp;
 refine Ln Eb J fun _ Ea => ?_; clear J K' Eb
 refine M0 fun K' J ρ => ?_; go_simp;
 refine Ln Ea J fun _ Eb => ?_; clear J K' Ea
 refine Ld [1, 2, 4] Eb hK fun a hE => ?_; clear hK K Q' Eb
 obtain ⟨B, hB⟩ : ∃ B, B = w.heap.size := ⟨_, rfl⟩
 obtain ⟨R, hR⟩ : ∃ B, B = w.heap.size + 1 := ⟨_, rfl⟩
 rw [← hR, ← hB] at hE
 refine world_cut (fun wt => Below w.heap.size w wt ∧ Cells wt B (sbV H hcap S scap b) ∧ RowD wt R 12) ?_ (fun w1 hC => ?_)
 ·rw [hB, hR]; obtain ⟨q1, q2, q3, q4⟩ := box_row w (sbV H hcap S scap b).toArray 29 #[.int .i64 0, .int .i64 0, .int .i64 0, .int .i64 0, .int .i64 0, .int .i64 0, .int .i64 0, .slice none 0 0, .slice none 0 0, .slice none 0 0, .slice none 0 0, .int .u64 0] 94; exact ⟨q1, q2, q3, _, rfl, q4⟩
 obtain ⟨hbw1, hCB, hRD⟩ := hC
 have hnR : w.heap.size ≤ R := by omega
 have hM1 := hM.below hbw1
 clear hB hR
 refine Ks ?_
 refine Rs 3 fun Q' K hK => ?_
 refine Lp fun K' J => ?_
 have r2 := hE.at 2 rfl
 refine wp_load_mid 29 (.tmp 2) rfl B 0 (eval_of r2) (sbV H hcap S scap b) _ (fun j u hu => by rw [Nat.zero_add]; exact hCB.2 j u hu) Tryd.underlying29 rfl (by kernel_rfl) ?_
 (try clear r2)
 refine Ln hE J fun _ Eb => ?_; clear J K' hE a
 refine M1 Eb 9 fun K' J ρ q9 => ?_; go_simp; (try go_bits); (try clear q9)
 go_at_call 16; refine (C1.out _ hM1).mono ?_; rintro e w2 ⟨rfl, h2⟩
 (try clear r9)
 refine Ln Eb J fun _ Ea => ?_; clear J K' Eb
 refine M1 Ea 10 fun K' J ρ q10 => ?_; go_simp
 refine Ln Ea J fun _ Eb => ?_; clear J K' Ea q10
 refine Ld [1, 2, 4, 6] Eb hK fun a hE => ?_; clear hK K Q' Eb
 have hb2 := hbw1.trans (h2.mono hbw1.size)
 have hCB2 := hCB.below h2
 have hRD2 := hRD.below h2
 have hM2 := hM1.below h2
 cases hok : b.ok
 ·have he : sbE b = 30 := by unfold sbE; rw [hok]; rfl
  have hf : frE b valid = 30 := by unfold frE; rw [hok]; rfl
  rw [he] at hE
  rw [hf]
  obtain ⟨hlR, zs, hzs, hRR⟩ := hRD2
  clear he hf hok
  refine Ks ?_
  refine Rs 2 fun Q' K hK => ?_
  refine M1 hE 6 fun K' J ρ q6 => ?_; go_simp
  refine Ln hE J fun _ Eb => ?_; clear J K' hE a q6
  refine M1 Eb 11 fun K' J ρ q11 => ?_; go_simp; (try go_bits)
  refine Ln Eb J fun _ Ea => ?_; clear J K' Eb q11
  replace Ea := Ea.turn 12 (v' := .bool true) rfl (by (first | rfl | simp))
  refine Ld [1, 2, 4, 6, 12] Ea hK fun a hE => ?_; clear hK K Q' Ea
  refine Ks ?_
  refine cond_yes hE (t := 12) rfl ?_
  refine Ks ?_
  refine Rs 4 fun Q' K hK => ?_
  refine M0 fun K' J ρ => ?_; go_simp;
  refine Ln hE J fun _ Eb => ?_; clear J K' hE a
  refine M1 Eb 6 fun K' J ρ q6 => ?_; go_simp
  refine Ln Eb J fun _ Ea => ?_; clear J K' Eb q6
  refine Lp fun K' J => ?_
  have r4 := Ea.at 4 rfl; have r13 := Ea.at 13 rfl
  refine wp_store_mid 94 (.tmp 4) (.tmp 13) rfl R 0 (olV none 0 none 0 ⟨⟨0, 0, 0, 0, 0⟩, 0, 0, [], []⟩ none 0 0 none 0 0 (.int .u64 0)).toArray (eval_of r4) (eval_of r13) (there_row hRR (by rw [hzs]; exact Nat.le_refl _)) (by kernel_rfl) (by kernel_rfl) ?_
  (try clear r4 r13)
  refine late_skip Ea J (fun _ Eb => ?_); clear J K'; clear Ea
  refine M1 Eb 14 fun K' J ρ q14 => ?_; go_simp
  refine Ln Eb J fun _ Ea => ?_; clear J K' Eb q14
  refine Ld [4, 5] Ea hK fun a hE => ?_; clear hK K Q' Ea
  obtain ⟨q1, q2, q3, q4⟩ := cells_stored hRR (vs := olV none 0 none 0 ⟨⟨0, 0, 0, 0, 0⟩, 0, 0, [], []⟩ none 0 0 none 0 0 (.int .u64 0)) (by rw [hzs]; rfl) hlR hnR hb2
  refine world_cut (fun wt => Cells wt R (olV none 0 none 0 ⟨⟨0, 0, 0, 0, 0⟩, 0, 0, [], []⟩ none 0 0 none 0 0 (.int .u64 0)) ∧ Below w.heap.size w wt) ⟨q1, q2⟩ (fun w9 hCut => ?_)
  obtain ⟨hC9, hb9⟩ := hCut
  refine Ks ?_
  exact ret_cell_two hE rfl rfl rfl hC9.2 Tryd.underlying94 rfl (by kernel_rfl) ⟨⟨_, rfl, rfl, zero12, olV_noB _ _ _ _ _ _ _ _ _ _ _ _, fun h => by omega⟩, hb9⟩
 ·have he : sbE b = 0 := by unfold sbE; rw [hok]; rfl
  have hb := ok_iff.1 hok
  rw [he] at hE
  clear he
  cases hva : valid
  ·have hf : frE b false = 31 := by unfold frE; rw [hok]; rfl
   rw [hva] at hE
   rw [hf]
   obtain ⟨hlR, zs, hzs, hRR⟩ := hRD2
   clear hf hok
   refine Ks ?_
   refine Rs 2 fun Q' K hK => ?_
   refine M1 hE 6 fun K' J ρ q6 => ?_; go_simp
   refine Ln hE J fun _ Eb => ?_; clear J K' hE a q6
   refine M1 Eb 11 fun K' J ρ q11 => ?_; go_simp; (try go_bits)
   refine Ln Eb J fun _ Ea => ?_; clear J K' Eb q11
   replace Ea := Ea.turn 12 (v' := .bool false) rfl (by (first | rfl | simp))
   refine Ld [1, 2, 4, 6, 12] Ea hK fun a hE => ?_; clear hK K Q' Ea
   refine Ks ?_
   refine cond_no hE (t := 12) rfl ?_
   refine Ks ?_
   refine Rs 2 fun Q' K hK => ?_
   refine M1 hE 1 fun K' J ρ q1 => ?_; go_simp
   refine Ln hE J fun _ Eb => ?_; clear J K' hE a q1
   refine M1 Eb 15 fun K' J ρ q15 => ?_; go_simp; (try go_bits); (try simp (disch := omega) only [IntWalk.i64_in])
   refine Ln Eb J fun _ Ea => ?_; clear J K' Eb q15
   replace Ea := Ea.turn 16 (v' := .bool true) rfl (by (first | rfl | simp))
   refine Ld [2, 4, 16] Ea hK fun a hE => ?_; clear hK K Q' Ea
   refine Ks ?_
   refine cond_yes hE (t := 16) rfl ?_
   refine Ks ?_
   refine Rs 3 fun Q' K hK => ?_
   refine M0 fun K' J ρ => ?_; go_simp;
   refine Ln hE J fun _ Eb => ?_; clear J K' hE a
   refine Lp fun K' J => ?_
   have r4 := Eb.at 4 rfl; have r17 := Eb.at 17 rfl
   refine wp_store_mid 94 (.tmp 4) (.tmp 17) rfl R 0 (olV none 0 none 0 ⟨⟨0, 0, 0, 0, 0⟩, 0, 0, [], []⟩ none 0 0 none 0 0 (.int .u64 0)).toArray (eval_of r4) (eval_of r17) (there_row hRR (by rw [hzs]; exact Nat.le_refl _)) (by kernel_rfl) (by kernel_rfl) ?_
   (try clear r4 r17)
   refine late_skip Eb J (fun _ Ea => ?_); clear J K'; clear Eb
   refine M0 fun K' J ρ => ?_; go_simp;
   refine Ln Ea J fun _ Eb => ?_; clear J K' Ea
   refine Ld [4, 5] Eb hK fun a hE => ?_; clear hK K Q' Eb
   obtain ⟨q1, q2, q3, q4⟩ := cells_stored hRR (vs := olV none 0 none 0 ⟨⟨0, 0, 0, 0, 0⟩, 0, 0, [], []⟩ none 0 0 none 0 0 (.int .u64 0)) (by rw [hzs]; rfl) hlR hnR hb2
   refine world_cut (fun wt => Cells wt R (olV none 0 none 0 ⟨⟨0, 0, 0, 0, 0⟩, 0, 0, [], []⟩ none 0 0 none 0 0 (.int .u64 0)) ∧ Below w.heap.size w wt) ⟨q1, q2⟩ (fun w9 hCut => ?_)
   obtain ⟨hC9, hb9⟩ := hCut
   refine Ks ?_
   exact ret_cell_two hE rfl rfl rfl hC9.2 Tryd.underlying94 rfl (by kernel_rfl) ⟨⟨_, rfl, rfl, zero12, olV_noB _ _ _ _ _ _ _ _ _ _ _ _, fun h => by omega⟩, hb9⟩
  ·rw [hva] at hE
   have HFT : Hid (rtB b = true → frE b true = 0) := hid fun h => by unfold frE; rw [hok, h]; rfl
   have HFF : Hid (rtB b = false → frE b true = 32) := hid fun h => by unfold frE; rw [hok, h]; rfl
   clear hok hva
   refine Ks ?_
   refine Rs 2 fun Q' K hK => ?_
   refine M1 hE 6 fun K' J ρ q6 => ?_; go_simp
   refine Ln hE J fun _ Eb => ?_; clear J K' hE a q6
   refine M1 Eb 11 fun K' J ρ q11 => ?_; go_simp; (try go_bits)
   refine Ln Eb J fun _ Ea => ?_; clear J K' Eb q11
   replace Ea := Ea.turn 12 (v' := .bool false) rfl (by (first | rfl | simp))
   refine Ld [1, 2, 4, 6, 12] Ea hK fun a hE => ?_; clear hK K Q' Ea
   refine Ks ?_
   refine cond_no hE (t := 12) rfl ?_
   refine Ks ?_
   refine Rs 2 fun Q' K hK => ?_
   refine M1 hE 1 fun K' J ρ q1 => ?_; go_simp
   refine Ln hE J fun _ Eb => ?_; clear J K' hE a q1
   refine M1 Eb 15 fun K' J ρ q15 => ?_; go_simp; (try go_bits); (try simp (disch := omega) only [IntWalk.i64_in])
   refine Ln Eb J fun _ Ea => ?_; clear J K' Eb q15
   replace Ea := Ea.turn 16 (v' := .bool false) rfl (by (first | rfl | simp))
   refine Ld [2, 4, 16] Ea hK fun a hE => ?_; clear hK K Q' Ea
   refine Ks ?_
   refine cond_no hE (t := 16) rfl ?_
   refine Ks ?_
   refine Rs 9 fun Q' K hK => ?_
   refine Lp fun K' J => ?_
   have r2 := hE.at 2 rfl
   refine wp_load_mid 29 (.tmp 2) rfl B 0 (eval_of r2) (sbV H hcap S scap b) _ (fun j u hu => by rw [Nat.zero_add]; exact hCB2.2 j u hu) Tryd.underlying29 rfl (by kernel_rfl) ?_
   (try clear r2)
   refine Ln hE J fun _ Eb => ?_; clear J K' hE a
   refine M1 Eb 19 fun K' J ρ q19 => ?_; go_simp; (try go_bits); (try clear q19)
   go_at_call 55; refine (C2.out hb _ hM2).mono ?_; rintro e w3 ⟨⟨P, pc, rfl, hP⟩, h3⟩
   (try clear r19)
   refine Ln Eb J fun _ Ea => ?_; clear J K' Eb
   refine M1 Ea 20 fun K' J ρ q20 => ?_; go_simp; (try go_bits); (try clear q20)
   go_at_call 84; refine (C3.out hb P pc _ hP.at).mono (R' := fun e w' => (∃ V, e = .returned (.tuple #[.agg V.toArray, .bool (rtB b)]) ∧ V.length = 12 ∧ V.toArray.all (·.oneCell') = true ∧ NoB V ∧ (rtB b = true → OvN w3.heap.size b V w')) ∧ Below w3.heap.size w3 w') ?_ |>.mono ?_
   ·rintro e w4 ⟨(⟨h1, D, dc, rfl, hL⟩ | ⟨h1, rfl⟩), h4⟩; exact ⟨⟨_, by rw [h1], rfl, olV_one _ _ _ _ _ _ _ _ _ _ _ _, olV_noB _ _ _ _ _ _ _ _ _ _ _ _, fun _ => ⟨H, hcap, S, scap, P, pc, D, dc, rfl, hL⟩⟩, h4⟩; exact ⟨⟨_, by rw [h1], rfl, zero12, olV_noB _ _ _ _ _ _ _ _ _ _ _ _, fun h => absurd h (by rw [h1]; decide)⟩, h4⟩
   rintro e w4 ⟨⟨V, rfl, hV1, hV2, hVn, hV3⟩, h4⟩
   have hVs : V.toArray.size = 12 := by simpa using hV1
   have h34 := h3.trans (h4.mono h3.size)
   (try clear r20)
   refine Ln Ea J fun _ Eb => ?_; clear J K' Ea
   refine M1 Eb 21 fun K' J ρ q21 => ?_; go_simp
   refine Ln Eb J fun _ Ea => ?_; clear J K' Eb q21
   refine M1 Ea 18 fun K' J ρ q18 => ?_; go_simp
   refine Ln Ea J fun _ Eb => ?_; clear J K' Ea q18
   refine M1 Eb 18 fun K' J ρ q18 => ?_; go_simp
   refine Ln Eb J fun _ Ea => ?_; clear J K' Eb q18
   refine M0 fun K' J ρ => ?_; go_simp;
   refine Ln Ea J fun _ Eb => ?_; clear J K' Ea
   refine Lp fun K' J => ?_
   have r7 := Eb.at 7 rfl; have r22 := Eb.at 22 rfl
   refine wp_store_mid 94 (.tmp 7) (.tmp 22) rfl w4.heap.size 0 V.toArray (eval_of r7) (eval_of r22) (there_row (row_new w4 _ _) (by rw [hVs]; exact Nat.le_refl _)) (by rw [hVs]; kernel_rfl) hV2 ?_
   (try clear r7 r22)
   refine late_skip Eb J (fun _ Ea => ?_); clear J K'; clear Eb
   refine M1 Ea 23 fun K' J ρ q23 => ?_; go_simp
   refine Ln Ea J fun _ Eb => ?_; clear J K' Ea q23
   refine Ld [4, 7, 8] Eb hK fun a hE => ?_; clear hK K Q' Eb
   obtain ⟨Q, hQ⟩ : ∃ B, B = w4.heap.size := ⟨_, rfl⟩
   rw [← hQ] at hE
   refine world_cut (fun wt => Below w4.heap.size w4 wt ∧ Cells wt Q V) (by rw [hQ]; exact boxed_new w4 #[.int .i64 0, .int .i64 0, .int .i64 0, .int .i64 0, .int .i64 0, .int .i64 0, .int .i64 0, .slice none 0 0, .slice none 0 0, .slice none 0 0, .slice none 0 0, .int .u64 0] 94 V (by rw [hV1]; rfl)) (fun w5 hCut => ?_)
   obtain ⟨h5, hCQ⟩ := hCut
   have h25 := h34.trans (h5.mono h34.size)
   have hb5 := hb2.trans (h25.mono hb2.size)
   have hRD5 := hRD2.below h25
   have h3' := h3.size
   clear hQ h3 h4 h34 hP
   obtain ⟨hlR, zs, hzs, hRR⟩ := hRD5
   cases hrt : rtB b
   ·rw [hrt] at hE
    rw [HFF.out hrt]
    refine Ks ?_
    refine Rs 2 fun Q' K hK => ?_
    refine M1 hE 8 fun K' J ρ q8 => ?_; go_simp
    refine Ln hE J fun _ Eb => ?_; clear J K' hE a q8
    refine M1 Eb 24 fun K' J ρ q24 => ?_; go_simp; (try go_bits); (try simp (disch := omega) only [IntWalk.i64_in])
    refine Ln Eb J fun _ Ea => ?_; clear J K' Eb q24
    replace Ea := Ea.turn 25 (v' := .bool true) rfl (by (first | rfl | simp))
    refine Ld [4, 7, 25] Ea hK fun a hE => ?_; clear hK K Q' Ea
    refine Ks ?_
    refine cond_yes hE (t := 25) rfl ?_
    refine Ks ?_
    refine Rs 3 fun Q' K hK => ?_
    refine M0 fun K' J ρ => ?_; go_simp;
    refine Ln hE J fun _ Eb => ?_; clear J K' hE a
    refine Lp fun K' J => ?_
    have r4 := Eb.at 4 rfl; have r26 := Eb.at 26 rfl
    refine wp_store_mid 94 (.tmp 4) (.tmp 26) rfl R 0 (olV none 0 none 0 ⟨⟨0, 0, 0, 0, 0⟩, 0, 0, [], []⟩ none 0 0 none 0 0 (.int .u64 0)).toArray (eval_of r4) (eval_of r26) (there_row hRR (by rw [hzs]; exact Nat.le_refl _)) (by kernel_rfl) (by kernel_rfl) ?_
    (try clear r4 r26)
    refine late_skip Eb J (fun _ Ea => ?_); clear J K'; clear Eb
    refine M0 fun K' J ρ => ?_; go_simp;
    refine Ln Ea J fun _ Eb => ?_; clear J K' Ea
    refine Ld [4, 5] Eb hK fun a hE => ?_; clear hK K Q' Eb
    obtain ⟨q1, q2, q3, q4⟩ := cells_stored hRR (vs := olV none 0 none 0 ⟨⟨0, 0, 0, 0, 0⟩, 0, 0, [], []⟩ none 0 0 none 0 0 (.int .u64 0)) (by rw [hzs]; rfl) hlR hnR hb5
    refine world_cut (fun wt => Cells wt R (olV none 0 none 0 ⟨⟨0, 0, 0, 0, 0⟩, 0, 0, [], []⟩ none 0 0 none 0 0 (.int .u64 0)) ∧ Below w.heap.size w wt) ⟨q1, q2⟩ (fun w9 hCut => ?_)
    obtain ⟨hC9, hb9⟩ := hCut
    refine Ks ?_
    exact ret_cell_two hE rfl rfl rfl hC9.2 Tryd.underlying94 rfl (by kernel_rfl) ⟨⟨_, rfl, rfl, zero12, olV_noB _ _ _ _ _ _ _ _ _ _ _ _, fun h => by omega⟩, hb9⟩
   ·rw [hrt] at hE
    rw [HFT.out hrt]
    have HOV := hid ((hV3 hrt).below h5)
    have hR3 := hRD2.1
    have hs3 := h3'
    refine Ks ?_
    refine Rs 2 fun Q' K hK => ?_
    refine M1 hE 8 fun K' J ρ q8 => ?_; go_simp
    refine Ln hE J fun _ Eb => ?_; clear J K' hE a q8
    refine M1 Eb 24 fun K' J ρ q24 => ?_; go_simp; (try go_bits); (try simp (disch := omega) only [IntWalk.i64_in])
    refine Ln Eb J fun _ Ea => ?_; clear J K' Eb q24
    replace Ea := Ea.turn 25 (v' := .bool false) rfl (by (first | rfl | simp))
    refine Ld [4, 7, 25] Ea hK fun a hE => ?_; clear hK K Q' Ea
    refine Ks ?_
    refine cond_no hE (t := 25) rfl ?_
    refine Ks ?_
    refine Rs 3 fun Q' K hK => ?_
    refine Lp fun K' J => ?_
    have r7 := hE.at 7 rfl
    refine wp_load_mid 94 (.tmp 7) rfl Q 0 (eval_of r7) V _ (fun j u hu => by rw [Nat.zero_add]; exact hCQ.2 j u hu) Tryd.underlying94 rfl (by rw [hV1]; kernel_rfl) ?_
    (try clear r7)
    refine Ln hE J fun _ Eb => ?_; clear J K' hE a
    refine Lp fun K' J => ?_
    have r4 := Eb.at 4 rfl; have r27 := Eb.at 27 rfl
    refine wp_store_mid 94 (.tmp 4) (.tmp 27) rfl R 0 V.toArray (eval_of r4) (eval_of r27) (there_row hRR (by rw [hzs, hVs]; exact Nat.le_refl _)) (by rw [hVs]; kernel_rfl) hV2 ?_
    (try clear r4 r27)
    refine late_skip Eb J (fun _ Ea => ?_); clear J K'; clear Eb
    refine M0 fun K' J ρ => ?_; go_simp;
    refine Ln Ea J fun _ Eb => ?_; clear J K' Ea
    refine Ld [4, 5] Eb hK fun a hE => ?_; clear hK K Q' Eb
    obtain ⟨q1, q2, q3, q4⟩ := cells_stored hRR (vs := V) (by rw [hzs, hV1]) hlR hnR hb5
    refine world_cut (fun wt => Cells wt R V ∧ Below w.heap.size w wt ∧ OvAt b V wt) ⟨q1, q2, ?_⟩ (fun w9 hCut => ?_)
    ·exact (HOV.out.keep (Nat.le_of_eq q4.symm) (fun p u hp hu => (World.cell?_of_block (q3 p.block (by omega))).trans hu)).at
    obtain ⟨hC9, hb9, hO9⟩ := hCut
    refine Ks ?_
    exact ret_cell_two hE rfl rfl rfl hC9.2 Tryd.underlying94 rfl (by rw [hV1]; kernel_rfl) ⟨⟨V, rfl, hV1, hV2, hVn, fun _ => hO9⟩, hb9⟩
end
end Go.Proofs.YtkhmcofmjjmjhaaDoor
