/- Slope: what can be of all hours. -/
import Derived.Test.YtkhmcofmjjmjhaaDoorKLSp
import Derived.Great.BuildSlice
namespace Go.Proofs.YtkhmcofmjjmjhaaDoor
set_option linter.unusedSimpArgs false
set_option linter.unusedVariables false
open Go Go.RowKit
attribute [local go_sem high] cell_set_wr
attribute [local go_sem low] cell_wr frozen_wr
attribute [local go_sem] wr_set wr_drew wr_drewN wr_alloc wr_new Rho.c Rho.n Rho.g
/-- a list of one struct -/
theorem wp_buildOne {P : Program} {o : Oper} {a : Act} {w : World} {K : Act → World → Prop} {Q : Exit → Act → World → Prop} (t e : TypeId) (x : Operand) (ho : o.op = .buildSlice t 1 #[(0, x)]) (cs : List Value) (n : Nat) (hx : a.eval x = .agg cs.toArray)
    (hu : P.underlying t = some (.slice e)) (hi : (P.info? e).map (·.size) = some n) (hz : ((P.info? e).bind (·.zero)).isSome = true) (hn : cs.length = n) (hpos : 0 < n) (hsm : n ≤ 16777216)
    (h : K (a.put o.dst (.slice (some ⟨w.heap.size, 0, none⟩) 1 1)) (w.alloc (.cells cs.toArray e))) : o.wp P a w K Q := by
 cases hie : P.info? e with
 | none => simp [hie] at hi
 | some ie =>
  simp only [hie, Option.map_some, Option.some.injEq, Option.bind_some] at hi hz; obtain ⟨z, hzz⟩ := Option.isSome_iff_exists.1 hz; refine wp_buildSlice t e 1 #[(0, x)] ho cs.toArray ie z hu hie hzz (by rw [hi]; simp; omega) (by rw [hi]; omega) ?_ h; rw [hi]
  have := Great.fill_whole hpos [.agg cs.toArray] ((Array.range (1 * n)).map (z.cells[· % z.cells.size]!)) (fun v hv => by
   rw [List.mem_singleton.1 hv]; simpa [Value.cells] using hn) (by simp)
  simpa [hx, Value.cells] using this
theorem ArrD.range {α : Type} {f : α → List Value} {m : Nat} (hf : ∀ x, (f x).length = m) (hm : 0 < m) {w : World} {A : Option Addr} {l : List α} (h : ArrD w A (l.flatMap f)) {k : Nat} (hk : k < l.length) : ∃ b o, A = some ⟨b, o, none⟩ ∧ b < w.heap.size ∧ w.rangeAt b (o + k * m) (f l[k]) := by
 obtain ⟨b, o, hA, hlt, hc⟩ := Arr.elem hf hm h hk; exact ⟨b, o, hA, hlt, fun j u hu => hc j u (by have := (List.getElem?_eq_some_iff.1 hu).1; rw [hf] at this; exact this) hu⟩
def crV (cs : List ((Nat → Bool) × (Nat → Bool))) : List Value := cs.flatMap fun p => bls2 p.1 p.2
theorem crV_snoc (cs : List ((Nat → Bool) × (Nat → Bool))) (f g : Nat → Bool) : crV (cs ++ [(f, g)]) = crV cs ++ bls2 f g := by simp [crV]
/-- the prepared hours in memory -/
def HpsAt (w : World) (P : Option Addr) (xs : List Hp) : Prop := ∀ k (h : k < xs.length), ∃ b o S sc G gc, P = some ⟨b, o, none⟩ ∧ b < w.heap.size ∧ w.rangeAt b (o + k * 13) (hpV S sc G gc xs[k]) ∧ HpAt w S G xs[k]
theorem HpsAt.below {w w' : World} {P : Option Addr} {xs : List Hp} (h : HpsAt w P xs) (hb : Below w.heap.size w w') : HpsAt w' P xs := fun k hk => by
 obtain ⟨b, o, S, sc, G, gc, h1, h2, h3, h4⟩ := h k hk; exact ⟨b, o, S, sc, G, gc, h1, Nat.lt_of_lt_of_le h2 hb.size, fun j u hu => (hb.cell (p := ⟨b, o + k * 13 + j, none⟩) h2).trans (h3 j u hu), h4.below hb⟩
def crsF : List Hp → (Nat → Bool) → List ((Nat → Bool) × (Nat → Bool))
 | [], _ => []
 | x :: xs, f => (stF x f, faF x f) :: crsF xs (nxF x f)
theorem crsF_length : ∀ (xs : List Hp) (f : Nat → Bool), (crsF xs f).length = xs.length
 | [], _ => rfl
 | x :: xs, f => by rw [crsF, List.length_cons, List.length_cons, crsF_length xs]
theorem atF_succ : ∀ (xs : List Hp) (f : Nat → Bool) (k : Nat) (h : k < xs.length), atF xs f (k + 1) = nxF xs[k] (atF xs f k)
 | x :: xs, f, 0, _ => by cases xs <;> rfl
 | x :: xs, f, k + 1, h => by
  show atF xs (nxF x f) (k + 1) = _
  rw [atF_succ xs (nxF x f) k (by simpa using h)]
  rfl
theorem crsF_take : ∀ (xs : List Hp) (f : Nat → Bool) (k : Nat) (h : k < xs.length), (crsF xs f).take (k + 1) = (crsF xs f).take k ++ [(stF xs[k] (atF xs f k), faF xs[k] (atF xs f k))]
 | x :: xs, f, 0, _ => by simp [crsF, atF]
 | x :: xs, f, k + 1, h => by
  rw [crsF, List.take_succ_cons, crsF_take xs (nxF x f) k (by simpa using h), List.take_succ_cons]
  rfl
theorem crsF_at : ∀ (xs : List Hp) (f : Nat → Bool) (k : Nat) (h : k < xs.length) (h' : k < (crsF xs f).length), (crsF xs f)[k] = (stF xs[k] (atF xs f k), faF xs[k] (atF xs f k))
 | x :: xs, f, 0, _, _ => by simp [crsF, atF]
 | x :: xs, f, k + 1, h, h' => by
  simp only [crsF, List.getElem_cons_succ]; rw [crsF_at xs (nxF x f) k (by simpa using h)]
  rfl
theorem canF_drop (xs : List Hp) (f : Nat → Bool) (k : Nat) (h : k < xs.length) : canF (xs.drop k) (atF xs f k) = (anyB (atF xs f (k + 1)) && canF (xs.drop (k + 1)) (atF xs f (k + 1))) := by
 rw [List.drop_eq_getElem_cons h, atF_succ xs f k h]
 rfl
theorem at_fit : ∀ (xs : List Hp) (f : Nat → Bool) (c k : Nat), k ≤ xs.length → Fit f c → Small xs → Fit (atF xs f k) (c + 95 * k)
 | _, f, c, 0, _, hf, _ => by cases ‹List Hp› <;> simpa [atF] using hf
 | x :: xs, f, c, k + 1, hk, hf, hs => by
  have := at_fit xs (nxF x f) (c + 95) k (by simpa using hk) (nxF_fit hf hs) hs.tail
  rwa [show c + 95 + 95 * k = c + 95 * (k + 1) by omega] at this
/-- what is so of each prepared hour -/
structure HpOk (b : Sb) (x : Hp) : Prop where
 sl : x.sl = b.sl
 sights : x.sights.length ≤ 6
 brings : x.brings.length ≤ 64
 small : ∀ n ∈ x.brings, 0 ≤ n ∧ n ≤ 95
theorem bringP_len : ∀ (bs : List (Int × Int × Int)) (parts : List Int), (∀ p ∈ bs, p.2.2 - p.2.1 ≤ 3) → (bringP bs parts).length ≤ 4 ^ bs.length
 | [], _, _ => by simp [bringP]
 | (w, lo, hi) :: bs, parts, h => by
  have h1 : hi - lo ≤ 3 := h (w, lo, hi) (by simp)
  unfold bringP
  have : ∀ l : List Nat, (l.flatMap fun (k : Nat) => bringP bs (parts ++ [w * (lo + k)])).length ≤ l.length * 4 ^ bs.length := fun l => by
   induction l with
   | nil => simp
   | cons k l ih =>
    have := bringP_len bs (parts ++ [w * (lo + k)]) fun p hp => h p (by simp [hp]); rw [List.flatMap_cons, List.length_append, List.length_cons, Nat.add_mul]
    omega
  refine Nat.le_trans (this _) ?_; rw [List.length_range, List.length_cons, Nat.pow_succ, Nat.mul_comm]; exact Nat.mul_le_mul_left _ (by omega)
theorem hps_ok {b : Sb} (hb : OkB b) {k : Nat} (h : k < (hpsOf b).length) : HpOk b (hpsOf b)[k] := by
 have hk : k < b.hours.length := by rw [← hpsOf_length]; exact h
 have hh := List.getElem_mem hk; obtain ⟨h1, h2, h3⟩ := hb.hour _ hh; rw [hpsOf_at b k hk]; refine ⟨rfl, Nat.le_trans (List.length_filter_le _ _) hb.sights, ?_, fun n hn => brings_to hb hh (mem_brAll.1 (mem_nub.1 hn))⟩; refine Nat.le_trans (nub_len _) (bringP_len _ _ fun p hp => ?_); simp only [List.mem_cons, List.not_mem_nil, or_false] at hp
 rcases hp with rfl | rfl | rfl
 ·exact h1.2
 ·exact h2.2
 ·exact h3.2
/-- the state while courses are listed -/
structure CoS (w : World) (L : Nat) (f : Nat → Bool) (v : Value) (n : Nat) (cs : List Value) (w' : World) : Prop where
 below : Below w.heap.size w w'
 lt : L < w'.heap.size
 row : Row w' L (bls f)
 own : w'.ownsRow (L + 1) 141 4000 v n cs
theorem CoS.on {w w' w'' : World} {L : Nat} {f : Nat → Bool} {v : Value} {n : Nat} {cs : List Value} (h : CoS w L f v n cs w') (hb : Below w'.heap.size w' w'') : CoS w L f v n cs w'' := ⟨h.below.trans (hb.mono h.below.size), Nat.lt_of_lt_of_le h.lt hb.size, h.row.below hb h.lt, own_below h.own hb⟩
theorem CoS.left {w w' : World} {L : Nat} {f g : Nat → Bool} {v : Value} {n : Nat} {cs : List Value} (h : CoS w L f v n cs w') (hL : w.heap.size ≤ L) : CoS w L g v n cs (w'.setCells L 0 (bls g)) :=
 ⟨Lib.below_setCells L hL _ _ h.below, by rw [size_setCellsN]; exact h.lt, row_all h.row (by rw [bls_length, bls_length]), own_of_block h.own (by rw [size_setCellsN]; exact Nat.le_refl _) fun k hk => heap_stored (by have := ownBlock_le h.own k hk; omega) _ _ _⟩
theorem course_zero : (Tryd.prog.info? 141).map (fun i => (i.zero, i.size, i.bytes)) = some (some (Value.agg Tryd.zeroCells141), 4000, 4000) := by kernel_rfl
section
variable (H : Option Addr) (hcap : Nat) (S : Option Addr) (scap : Nat) (b : Sb) (P : Option Addr) (pcap : Nat)
set_option maxRecDepth 100000 in
set_option maxHeartbeats 1000000 in
theorem courses_any (hb : OkB b) (w : World) (hM : HpsAt w P (hpsOf b)) : Calls Tryd.prog 82 #[.agg (bkV H hcap S scap b P (hpsOf b).length pcap).toArray] w fun e w' => ((canF (hpsOf b) (f0 b) = true ∧ ∃ A c, e = .returned (.tuple #[.slice A (hpsOf b).length c, .bool true]) ∧ ArrD w' A (crV (crsF (hpsOf b) (f0 b)))) ∨ (canF (hpsOf b) (f0 b) = false ∧ e = .returned (.tuple #[.slice none 0 0, .bool false]))) ∧ Below w.heap.size w w' := by
 have hst := hb.start; have CS := hid fun (n : Nat) => start_any H hcap S scap b P n pcap b.lo.toNat b.hi.toNat (by omega) (by omega) (by omega) (by omega); have hse := hb.settle; have hh12 := hb.hours; have hl12 := hpsOf_length b; have HOK := hid fun k h => hps_ok hb (k := k) h; have HFIT := hid fun k (h : k ≤ (hpsOf b).length) => at_fit (hpsOf b) (f0 b) 300 k h (f0_fit hb) (small_of hb); have HSE := hid hse; clear hst hse hb; rw [show inF b.lo.toNat (b.hi.toNat - b.lo.toNat + 1) = f0 b from rfl] at CS; obtain ⟨xs, hxs⟩ : ∃ xs, hpsOf b = xs := ⟨_, rfl⟩; obtain ⟨f, hf⟩ : ∃ f, f0 b = f := ⟨_, rfl⟩; rw [hxs] at hl12 HOK HFIT hM ⊢; rw [hf] at CS HFIT ⊢; have hn12 : xs.length ≤ 12 := by omega
 have hn1 : 1 ≤ xs.length := by omega
 clear hxs hf hl12 hh12; obtain ⟨⟨a0, a1, a2, a3, a4⟩, lo, hi, hs, si⟩ := b; obtain ⟨V, hV⟩ : ∃ V, bkV H hcap S scap ⟨⟨a0, a1, a2, a3, a4⟩, lo, hi, hs, si⟩ P xs.length pcap = V := ⟨_, rfl⟩; have HV := hid hV; have CS1 := hid (CS.out xs.length); rw [hV] at CS1 ⊢; clear CS; rw [← hV]; clear hV; simp only [bkV]; refine En Tryd.func82 Tryd.ntmps82 fun a hE => ?_; refine Ks ?_; refine Rs 3 fun Q' K hK => ?_; refine M1 hE 0 fun K' J ρ q0 => ?_; go_simp; refine Ln hE J fun _ Eb => ?_; clear J K' hE a q0; refine M0 fun K' J ρ => ?_; go_simp; refine Ln Eb J fun _ Ea => ?_; clear J K' Eb; refine M0 fun K' J ρ => ?_; go_simp; refine Ln Ea J fun _ Eb => ?_; clear J K' Ea; refine Ld [1] Eb hK fun a hE => ?_; clear hK K Q' Eb; obtain ⟨B, hB⟩ : ∃ B, B = w.heap.size := ⟨_, rfl⟩; rw [← hB] at hE; refine world_cut (fun wt => Below w.heap.size w wt ∧ Cells wt B V) (by rw [hB, ← HV.out]; exact ⟨(Below.refl _ _).alloc (Nat.le_refl _) _, cells_new w _ _⟩) (fun w1 hC => ?_); obtain ⟨hbw1, hCB⟩ := hC; clear hB; have hCB1 := hCB; have hl := HV.out; rw [← hl] at hCB; clear hl; simp only [bkV] at hCB; have hM1 := hM.below hbw1; have nB := hCB.1; have cB9 := hCB.2 9 _ rfl; refine Ks ?_; refine Rs 1 fun Q' K hK => ?_; refine M0 fun K' J ρ => ?_; go_simp; refine Ln hE J fun _ Eb => ?_; clear J K' hE a; refine Ld [1, 4] Eb hK fun a hE => ?_; clear hK K Q' Eb; refine Ks ?_; refine Rs 4 fun Q' K hK => ?_; refine Lp fun K' J => ?_; have r1 := hE.at 1 rfl; refine wp_load_mid 85 (.tmp 1) rfl B 0 (eval_of r1) V _ (fun j u hu => by rw [Nat.zero_add]; exact hCB1.2 j u hu) Tryd.underlying85 rfl (by rw [← HV.out]; kernel_rfl) ?_
 (try clear r1); refine Ln hE J fun _ Eb => ?_; clear J K' hE a; refine M1 Eb 9 fun K' J ρ q9 => ?_; go_simp; (try go_bits); (try clear q9); go_at_call 98; refine (CS1.out _).mono ?_; rintro e w2 ⟨rfl, h2⟩; (try clear r9); refine Ln Eb J fun _ Ea => ?_; clear J K' Eb; refine M0 fun K' J ρ => ?_; go_simp; refine Ln Ea J fun _ Eb => ?_; clear J K' Ea; refine Lp fun K' J => ?_; have r5 := Eb.at 5 rfl; have r10 := Eb.at 10 rfl; rw [zero_loads]; refine wp_store_mid 123 (.tmp 5) (.tmp 10) rfl w2.heap.size 0 (bls f).toArray (eval_of r5) (eval_of r10) (there_row (row_new w2 _ _) (by simp [bls_length])) (by rw [List.size_toArray, bls_length]; kernel_rfl) (bls_one _) ?_; (try clear r5 r10); refine late_skip Eb J (fun _ Ea => ?_); clear J K'; clear Eb; refine Ld [1, 4, 5] Ea hK fun a hE => ?_; clear hK K Q' Ea; obtain ⟨L, hL⟩ : ∃ B, B = w2.heap.size := ⟨_, rfl⟩; rw [← hL] at hE; have hnL : w1.heap.size ≤ L := by rw [hL]; exact h2.size
 refine world_cut (fun wt => CoS w1 L f (.slice none 0 0) 0 [] wt) ?_ (fun w3 hC3 => ?_)
 ·rw [hL]; have q := boxed_new w2 (bls fun _ => false).toArray 123 (bls f) (by rw [List.size_toArray, bls_length, bls_length]); exact ⟨h2.trans (q.1.mono h2.size), q.2.1, row_all (row_new w2 _ _) (by rw [List.toList_toArray, bls_length, bls_length]), own_nil _ _ _ _⟩
 clear hL h2; have hbw3 := hbw1.trans (hC3.below.mono hbw1.size); replace hCB := hCB.below hC3.below; clear nB cB9; have nB := hCB.1; have cB9 := hCB.2 9 _ rfl; refine Ks ?_; refine Rs 4 fun Q' K hK => ?_; refine M1 hE 1 fun K' J ρ q1 => ?_; go_simp; refine Ln hE J fun _ Eb => ?_; clear J K' hE a q1; refine M1 Eb 11 fun K' J ρ q11 => ?_; go_simp; refine Ln Eb J fun _ Ea => ?_; clear J K' Eb q11; refine M1 Ea 12 fun K' J ρ q12 => ?_; go_simp; (try go_bits); refine Ln Ea J fun _ Eb => ?_; clear J K' Ea q12; refine M0 fun K' J ρ => ?_; go_simp; refine Ln Eb J fun _ Ea => ?_; clear J K' Eb; refine Ld [4, 5, 12, 13, 14] Ea hK fun a hE => ?_; clear hK K Q' Ea; refine Ks ?_; refine loop_st (fun (k : Nat) a w' => ∃ A c, k ≤ xs.length ∧ Fits 32 [(4, .slice A k c), (5, .pointer (some ⟨L, 0, none⟩)), (12, .slice P xs.length pcap), (13, .int .i64 xs.length), (14, .int .i64 k)] a ∧ CoS w1 L (atF xs f k) (.slice A k c) k (crV ((crsF xs f).take k)) w' ∧ canF xs f = canF (xs.drop k) (atF xs f k)) (fun k => xs.length - k) 0 ⟨none, 0, Nat.zero_le _, by simpa using hE, by simpa [atF, crV] using hC3, by simp [atF]⟩ (fun k a wr hI => ?_); clear hE hC3 nB cB9 hCB hCB1; obtain ⟨A, c, hk, hE, hS, hcan⟩ := hI; have HCAN := hid hcan; clear hcan; have hbr := hbw1.trans (hS.below.mono hbw1.size)
 by_cases hlt : k < xs.length
 ·have hltI : (k : Int) < xs.length := by omega
  obtain ⟨bx, ox, S', sc, G, gc, hPe, hbx, hrx, hMx⟩ := hM1.below hS.below k hlt; have HOx := hid (HOK.out k hlt); have HFx := hid (HFIT.out k hk); have HTK := hid (crsF_take xs f k hlt); have HAT := hid (atF_succ xs f k hlt); have HCD := hid (canF_drop xs f k hlt); obtain ⟨x, hx⟩ : ∃ x, xs[k] = x := ⟨_, rfl⟩; rw [hx] at hrx hMx HOx HTK HAT; clear hx; obtain ⟨g, hg⟩ : ∃ g, atF xs f k = g := ⟨_, rfl⟩; rw [hg] at hS HFx HTK HAT HCD HCAN; clear hg; have CC := hid fun (W : World) (hW : HpAt W S' G x) => course_any S' sc G gc x g W hW (by have := HOx.out.sights; omega) (by rw [HOx.out.sl]; exact HSE.out) (by have := HOx.out.brings; omega) (fun j _ hj n hn => by have := HFx.out j hj; have := HOx.out.small n hn; have := HSE.out; rw [HOx.out.sl]; simp only at *; omega); have hP9 : xs.length ≤ 9223372036854775807 := by omega
  subst hPe; refine Ks ?_; refine Rs 1 fun Q' K hK => ?_; refine M2 hE 14 13 fun K' J ρ q14 q13 => ?_; go_simp; (try go_bits); refine Ln hE J fun _ Eb => ?_; clear J K' hE a q14 q13; replace Eb := Eb.turn 15 (v' := .bool true) rfl (by (first | (simp; done) | (simp; omega))); refine Ld [4, 5, 12, 13, 14, 15] Eb hK fun a hE => ?_; clear hK K Q' Eb; refine Ks ?_; refine cond_yes hE (t := 15) rfl ?_; refine Ks ?_; refine Rs 4 fun Q' K hK => ?_; refine M2 hE 12 14 fun K' J ρ q12 q14 => ?_; go_simp; (try go_bits); refine Ln hE J fun _ Eb => ?_; clear J K' hE a q12 q14; refine Lp fun K' J => ?_; have r16 := Eb.at 16 rfl; refine wp_load_mid 113 (.tmp 16) rfl bx (ox + k * 13) (eval_of r16) (hpV S' sc G gc x) _ hrx Tryd.underlying113 rfl (by kernel_rfl) ?_; (try clear r16); refine Ln Eb J fun _ Ea => ?_; clear J K' Eb; refine M0 fun K' J ρ => ?_; go_simp; refine Ln Ea J fun _ Eb => ?_; clear J K' Ea; refine Lp fun K' J => ?_; have r7 := Eb.at 7 rfl; have r17 := Eb.at 17 rfl; refine wp_store_mid 113 (.tmp 7) (.tmp 17) rfl wr.heap.size 0 (hpV S' sc G gc x).toArray (eval_of r7) (eval_of r17) (there_row (row_new wr _ _) (Nat.le_of_eq rfl)) (by kernel_rfl) (by kernel_rfl) ?_; (try clear r7 r17); refine late_skip Eb J (fun _ Ea => ?_); clear J K'; clear Eb; refine Ld [4, 5, 7, 12, 13, 14] Ea hK fun a hE => ?_; clear hK K Q' Ea; obtain ⟨Q, hQ⟩ : ∃ B, B = wr.heap.size := ⟨_, rfl⟩; rw [← hQ] at hE; refine world_cut (fun wt => Below wr.heap.size wr wt ∧ Cells wt Q (hpV S' sc G gc x)) (by rw [hQ]; exact boxed_new wr _ 113 (hpV S' sc G gc x) rfl) (fun w4 hCut => ?_)
  obtain ⟨h4, hCQ⟩ := hCut; have hS4 := hS.on h4; have hMx4 := hMx.below h4; clear hQ; have hbw4 := hbr.trans (h4.mono hbr.size); refine Ks ?_; refine Rs 5 fun Q' K hK => ?_; refine Lp fun K' J => ?_; have r7 := hE.at 7 rfl; refine wp_load_mid 113 (.tmp 7) rfl Q 0 (eval_of r7) (hpV S' sc G gc x) _ (fun j u hu => by rw [Nat.zero_add]; exact hCQ.2 j u hu) Tryd.underlying113 rfl (by kernel_rfl) ?_; (try clear r7); refine Ln hE J fun _ Eb => ?_; clear J K' hE a; refine Lp fun K' J => ?_; have r5 := Eb.at 5 rfl; refine wp_load_mid 123 (.tmp 5) rfl L 0 (eval_of r5) (bls g) _ (fun j u hu => by rw [Nat.zero_add]; exact (hS4.row j u hu).1) Tryd.underlying123 rfl (by rw [bls_length]; kernel_rfl) ?_; (try clear r5); refine Ln Eb J fun _ Ea => ?_; clear J K' Eb; refine M2 Ea 18 19 fun K' J ρ q18 q19 => ?_; go_simp; (try go_bits); (try clear q18 q19); go_at_call 99; refine (CC.out _ hMx4).mono ?_; rintro e w5 ⟨rfl, h5⟩; (try clear r18 r19); refine Ln Ea J fun _ Eb => ?_; clear J K' Ea; refine M0 fun K' J ρ => ?_; go_simp; refine Ln Eb J fun _ Ea => ?_; clear J K' Eb; refine Lp fun K' J => ?_; have r8 := Ea.at 8 rfl; have r20 := Ea.at 20 rfl; rw [zero_course]; refine wp_store_mid 141 (.tmp 8) (.tmp 20) rfl w5.heap.size 0 (bls2 (stF x g) (faF x g)).toArray (eval_of r8) (eval_of r20) (there_row (row_new w5 _ _) (by rw [List.toList_toArray, bls2_length, List.size_toArray, bls2_length]; exact Nat.le_refl _)) (by rw [List.size_toArray, bls2_length]; kernel_rfl) (bls2_one' _ _) ?_; (try clear r8 r20)
  refine late_skip Ea J (fun _ Eb => ?_); clear J K'; clear Ea; refine Ld [4, 5, 8, 12, 13, 14] Eb hK fun a hE => ?_; clear hK K Q' Eb; obtain ⟨C, hC⟩ : ∃ B, B = w5.heap.size := ⟨_, rfl⟩; rw [← hC] at hE; have hLC : L < C := by have := hS4.lt; have := h5.size; omega
  refine world_cut (fun wt => Below w4.heap.size w4 wt ∧ C < wt.heap.size ∧ Row wt C (bls2 (stF x g) (faF x g))) ?_ (fun w6 hCut => ?_)
  ·rw [hC]; have q := boxed_new w5 (bls2 (fun _ => false) fun _ => false).toArray 141 (bls2 (stF x g) (faF x g)) (by rw [List.size_toArray, bls2_length, bls2_length]); exact ⟨h5.trans (q.1.mono h5.size), q.2.1, row_all (row_new w5 _ _) (by rw [List.toList_toArray, bls2_length, bls2_length])⟩
  obtain ⟨h6, hlC, hRC⟩ := hCut; have hS6 := hS4.on h6; clear hC hCQ h5; have hbw6 := hbw4.trans (h6.mono hbw4.size); refine Ks ?_; refine Rs 3 fun Q' K hK => ?_; refine Lp fun K' J => ?_; have r8 := hE.at 8 rfl; refine wp_load_mid 141 (.tmp 8) rfl C 0 (eval_of r8) (bls2 (stF x g) (faF x g)) _ (bls2_range hRC) Tryd.underlying141 rfl (by rw [bls2_length]; kernel_rfl) ?_; (try clear r8); refine Ln hE J fun _ Eb => ?_; clear J K' hE a; refine M1 Eb 21 fun K' J ρ q21 => ?_; go_simp; (try go_bits); (try clear q21); go_at_call 100; refine (cleft_any (stF x g) (faF x g) _).mono ?_; rintro e w7 ⟨rfl, h7⟩; have hS7 := hS6.on h7; have hRC7 := hRC.below h7 hlC; (try clear r21); refine Ln Eb J fun _ Ea => ?_; clear J K' Eb; refine Lp fun K' J => ?_; have r5 := Ea.at 5 rfl; have r22 := Ea.at 22 rfl; refine wp_store_mid 123 (.tmp 5) (.tmp 22) rfl L 0 (bls (nxF x g)).toArray (eval_of r5) (eval_of r22) (there_row hS7.row (by rw [bls_length, List.size_toArray, bls_length]; exact Nat.le_refl _)) (by rw [List.size_toArray, bls_length]; kernel_rfl) (bls_one _) ?_; (try clear r5 r22); refine late_skip Ea J (fun _ Eb => ?_); clear J K'; clear Ea; refine Ld [4, 5, 8, 12, 13, 14] Eb hK fun a hE => ?_; clear hK K Q' Eb; refine world_cut (fun wt => CoS w1 L (nxF x g) (.slice A k c) k (crV ((crsF xs f).take k)) wt ∧ C < wt.heap.size ∧ Row wt C (bls2 (stF x g) (faF x g))) ⟨hS7.left hnL, by rw [size_setCellsN]; exact Nat.lt_of_lt_of_le hlC h7.size, hRC7.stored (by omega)⟩ (fun w8 hCut => ?_); obtain ⟨hS8, hlC8, hRC8⟩ := hCut
  have hb8 := hbw1.trans (hS8.below.mono hbw1.size); clear hS7 hRC7 hRC hlC h7 hS6 hS4 hS hMx hMx4; refine Ks ?_; refine Rs 3 fun Q' K hK => ?_; refine Lp fun K' J => ?_; have r5 := hE.at 5 rfl; refine wp_load_mid 123 (.tmp 5) rfl L 0 (eval_of r5) (bls (nxF x g)) _ (fun j u hu => by rw [Nat.zero_add]; exact (hS8.row j u hu).1) Tryd.underlying123 rfl (by rw [bls_length]; kernel_rfl) ?_; (try clear r5); refine Ln hE J fun _ Eb => ?_; clear J K' hE a; refine M0 fun K' J ρ => ?_; go_simp; refine Ln Eb J fun _ Ea => ?_; clear J K' Eb; refine M2 Ea 23 24 fun K' J ρ q23 q24 => ?_; go_simp; (try go_bits); (try clear q23 q24); rw [eq_loads]; go_simp; (try clear r23 r24); refine Ln Ea J fun _ Eb => ?_; clear J K' Ea; refine Ld [4, 5, 8, 12, 13, 14, 25] Eb hK fun a hE => ?_; clear hK K Q' Eb
  cases hv : anyB (nxF x g)
  ·have hno : canF xs f = false := by rw [HCAN.out, HCD.out, HAT.out, hv]; rfl
   rw [hv] at hE; rw [hno]; clear hv hno; refine Ks ?_; refine cond_yes hE (t := 25) rfl ?_; refine Ks ?_; refine Rs 2 fun Q' K hK => ?_; refine M0 fun K' J ρ => ?_; go_simp; refine Ln hE J fun _ Eb => ?_; clear J K' hE a; refine M0 fun K' J ρ => ?_; go_simp; refine Ln Eb J fun _ Ea => ?_; clear J K' Eb; refine Ld [2, 3] Ea hK fun a hE => ?_; clear hK K Q' Ea; refine Ks ?_; exact ret_two hE rfl rfl rfl ⟨.inr ⟨rfl, rfl⟩, hb8⟩
  ·have hyes : canF xs f = canF (xs.drop (k + 1)) (atF xs f (k + 1)) := by rw [HCAN.out, HCD.out]; rw [HAT.out, hv]; rfl
   have HYES := hid hyes; rw [hv] at hE; clear hv hyes; refine Ks ?_; refine cond_no hE (t := 25) rfl ?_; refine Ks ?_; refine Rs 5 fun Q' K hK => ?_; refine M1 hE 4 fun K' J ρ q4 => ?_; go_simp; refine Ln hE J fun _ Eb => ?_; clear J K' hE a q4; refine Lp fun K' J => ?_; have r8 := Eb.at 8 rfl; refine wp_load_mid 141 (.tmp 8) rfl C 0 (eval_of r8) (bls2 (stF x g) (faF x g)) _ (bls2_range hRC8) Tryd.underlying141 rfl (by rw [bls2_length]; kernel_rfl) ?_; (try clear r8); refine Ln Eb J fun _ Ea => ?_; clear J K' Eb; refine Lp fun K' J => ?_; have r27 := Ea.at 27 rfl; refine wp_buildOne 117 141 (.tmp 27) rfl (bls2 (stF x g) (faF x g)) 4000 (eval_of r27) Tryd.underlying117 (by kernel_rfl) (by kernel_rfl) (bls2_length _ _) (by decide) (by decide) ?_; (try clear r27); refine Ln Ea J fun _ Eb => ?_; clear J K' Ea; refine Lp fun K' J => ?_; have r26 := Eb.at 26 rfl; have r28 := Eb.at 28 rfl; refine wp_appN (.tmp 26) (.tmp 28) 117 rfl (L + 1) 141 (.agg Tryd.zeroCells141) 4000 4000 Tryd.underlying117 course_zero (by kernel_rfl) (by decide) _ _ _ (eval_of r26) (hS8.own.alloc _) (w8.heap.size + 1) (some ⟨w8.heap.size, 0, none⟩) 1 1 (bls2 (stF x g) (faF x g)) (eval_of r28) (arr_new w8 _ _) (by rw [bls2_length]) (fun u hu => Array.all_eq_true'.1 (bls2_one' (stF x g) (faF x g)) u (by simpa using hu)) (by simp only [maxLen]; omega) (by omega) (by have := hS8.lt; simp; omega) (fun A2 c2 w9 q1 q2 q3 q4 q5 => ?_); have hlow : Below (L + 1) w8 w9 := ((Below.refl (L + 1) w8).alloc (by have := hS8.lt; omega) _).grown q4 (by simp; have := hS8.lt; omega) (fun k e => ownBlock_le hS8.own k e)
   (try clear r26 r28); refine Ln Eb J fun _ Ea => ?_; clear J K' Eb; refine M1 Ea 29 fun K' J ρ q29 => ?_; go_simp; refine Ln Ea J fun _ Eb => ?_; clear J K' Ea q29; refine Ld [4, 5, 12, 13, 14] Eb hK fun a hE => ?_; clear hK K Q' Eb; have hS9 : CoS w1 L (nxF x g) (.slice A2 (k + 1) c2) (k + 1) (crV ((crsF xs f).take (k + 1))) w9 := ⟨hS8.below.trans (hlow.mono (by omega)), Nat.lt_of_lt_of_le hS8.lt hlow.size, row_of_block hS8.row (hlow.block L (by omega)), by rw [HTK.out, crV_snoc]; exact q3⟩; refine Ks ?_; refine Rs 2 fun Q' K hK => ?_; refine M1 hE 14 fun K' J ρ q14 => ?_; go_simp; (try go_bits); (try simp (disch := omega) only [IntWalk.i64_in]); refine Ln hE J fun _ Eb => ?_; clear J K' hE a q14; refine M1 Eb 30 fun K' J ρ q30 => ?_; go_simp; refine Ln Eb J fun _ Ea => ?_; clear J K' Eb q30; refine Ld [4, 5, 12, 13, 14] Ea hK fun a hE => ?_; clear hK K Q' Ea; refine Ks ?_; exact ⟨k + 1, ⟨A2, c2, hlt, by simpa using hE, by rw [HAT.out]; exact hS9, HYES.out⟩, by omega⟩
 ·have hke : k = xs.length := by omega
  subst hke; have hyes : canF xs f = true := by rw [HCAN.out, List.drop_length]; rfl
  rw [hyes]; obtain ⟨A2, c2, hv, hc1, hc2, ha⟩ := own_form hS.own; rw [Value.slice.injEq] at hv; obtain ⟨rfl, _, rfl⟩ := hv; rw [List.take_of_length_le (by rw [crsF_length]; exact Nat.le_refl _)] at ha; clear hyes hS; refine Ks ?_; refine Rs 1 fun Q' K hK => ?_; refine M2 hE 14 13 fun K' J ρ q14 q13 => ?_; go_simp; (try go_bits); refine Ln hE J fun _ Eb => ?_; clear J K' hE a q14 q13; replace Eb := Eb.turn 15 (v' := .bool false) rfl (by simp); refine Ld [4, 5, 12, 13, 14, 15] Eb hK fun a hE => ?_; clear hK K Q' Eb; refine Ks ?_; refine cond_no hE (t := 15) rfl ?_; refine Ks ?_; refine Rs 3 fun Q' K hK => ?_; refine M1 hE 4 fun K' J ρ q4 => ?_; go_simp; refine Ln hE J fun _ Eb => ?_; clear J K' hE a q4; refine M1 Eb 31 fun K' J ρ q31 => ?_; go_simp; refine Ln Eb J fun _ Ea => ?_; clear J K' Eb q31; refine M0 fun K' J ρ => ?_; go_simp; refine Ln Ea J fun _ Eb => ?_; clear J K' Ea; refine Ld [2, 3] Eb hK fun a hE => ?_; clear hK K Q' Eb; refine Ks ?_; exact ret_two hE rfl rfl rfl ⟨.inl ⟨rfl, A, c, rfl, ha⟩, hbr⟩
end
end Go.Proofs.YtkhmcofmjjmjhaaDoor
