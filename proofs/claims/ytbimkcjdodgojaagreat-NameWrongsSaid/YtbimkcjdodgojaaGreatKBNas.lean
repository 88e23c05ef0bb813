/- Name: all truths counted: the function. -/
import Derived.Test.YtbimkcjdodgojaaGreatKBNat
import Derived.Test.YtbimkcjdodgojaaGreatKBNaj
import Derived.Test.YtbimkcjdodgojaaGreatKBNan
import Derived.Deep.MidRow
namespace Go.Proofs.YtbimkcjdodgojaaGreat
set_option linter.unusedSimpArgs false
set_option linter.unusedVariables false
open Go Go.RowKit
attribute [local go_sem high] cell_set_wr
attribute [local go_sem low] cell_wr frozen_wr
attribute [local go_sem] wr_set wr_drew wr_drewN wr_alloc wr_new Rho.c Rho.n Rho.g
/-- in how many truths a line has a match -/
def cntP (n : Nat) (ts : List Prs) (l o : Int) : Int := if 0 ≤ l ∧ l < n then ((ts.filter fun t => matchP t l.toNat == o).length : Int) else 0
/-- the same, and of one more truth the first lines -/
def cntJ (n : Nat) (ts : List Prs) (x : Prs) (j : Nat) (l o : Int) : Int := cntP n ts l o + (if (0 ≤ l ∧ l < j) ∧ matchP x l.toNat = o then 1 else 0)
theorem cntP_nil (n : Nat) : cntP n [] = fun _ _ => 0 := by funext l o; simp [cntP]
theorem cntJ_zero (n : Nat) (ts : List Prs) (x : Prs) : cntJ n ts x 0 = cntP n ts := by
 funext l o
 unfold cntJ
 rw [if_neg (by omega)]; omega
theorem cntJ_all (n : Nat) (ts : List Prs) (x : Prs) : cntJ n ts x n = cntP n (ts ++ [x]) := by
 funext l o
 unfold cntJ cntP
 by_cases h : 0 ≤ l ∧ l < n
 ·rw [if_pos h, if_pos h, List.filter_append, List.length_append]
  by_cases e : matchP x l.toNat = o
  ·simp [e, h]
  ·have : (matchP x l.toNat == o) = false := by simpa using e
   simp [e, this]
 ·rw [if_neg h, if_neg h, if_neg (fun h' => h h'.1)]; rfl
theorem cntJ_succ (n : Nat) (ts : List Prs) (x : Prs) (j : Nat) : updc (cntJ n ts x j) j (matchP x j) (cntJ n ts x j j (matchP x j) + 1) = cntJ n ts x (j + 1) := by
 funext l o
 unfold updc
 by_cases h : l = j ∧ o = matchP x j
 ·rw [if_pos h]
  obtain ⟨rfl, rfl⟩ := h
  unfold cntJ
  rw [if_neg (by omega), if_pos ⟨by omega, by simp⟩]; omega
 ·rw [if_neg h]
  unfold cntJ
  congr 1
  by_cases h2 : (0 ≤ l ∧ l < (j : Int)) ∧ matchP x l.toNat = o
  ·rw [if_pos h2, if_pos ⟨by omega, h2.2⟩]
  ·rw [if_neg h2, if_neg]
   rintro ⟨h3, h4⟩
   by_cases e : l = j
   ·subst e
    exact h ⟨rfl, by simpa using h4.symm⟩
   ·exact h2 ⟨by omega, h4⟩
theorem cntP_le (n : Nat) (ts : List Prs) (l o : Int) : 0 ≤ cntP n ts l o ∧ cntP n ts l o ≤ ts.length := by
 unfold cntP
 split
 ·have := List.length_filter_le (fun t => matchP t l.toNat == o) ts
  omega
 ·omega
theorem cntJ_le (n : Nat) (ts : List Prs) (x : Prs) (j : Nat) (l o : Int) : 0 ≤ cntJ n ts x j l o ∧ cntJ n ts x j l o ≤ ts.length + 1 := by
 have := cntP_le n ts l o
 unfold cntJ
 split <;> omega
def peopleP (n : Nat) (ts : List Prs) : List Int := ts.map fun t => (n : Int) - t.length
theorem peopleP_snoc (n : Nat) (ts : List Prs) (x : Prs) : peopleP n (ts ++ [x]) = peopleP n ts ++ [(n : Int) - x.length] := by simp [peopleP]
/-- there are not too many truths -/
theorem fromP_len (n : Nat) (lost : Int) (cs : List (List Nat)) (hcs : ∀ k, (cs.getD k []).length ≤ 9) : ∀ (r k : Nat) (t : Prs), (fromP n lost cs r k t).length ≤ 10 ^ r
 | 0, k, t => by unfold fromP; split <;> simp
 | r + 1, k, t => by
  unfold fromP
  rw [List.length_append]
  have h1 := fromP_len n lost cs hcs r (k + 1) t
  have h2 : ∀ l : List Nat, (l.flatMap fun o => fromP n lost cs r (k + 1) (t ++ [(k, o)])).length ≤ l.length * 10 ^ r := fun l => by
   induction l with
   | nil => simp
   | cons o l ih =>
    rw [List.flatMap_cons, List.length_append, List.length_cons, Nat.add_mul, Nat.one_mul]
    have := fromP_len n lost cs hcs r (k + 1) (t ++ [(k, o)])
    omega
  have h3 := h2 ((cs.getD k []).filter fun o => !usedP t o)
  have h4 : ((cs.getD k []).filter fun o => !usedP t o).length ≤ 9 := Nat.le_trans (List.length_filter_le _ _) (hcs k)
  have h5 : ((cs.getD k []).filter fun o => !usedP t o).length * 10 ^ r ≤ 9 * 10 ^ r := Nat.mul_le_mul_right _ h4
  rw [Nat.pow_succ]
  omega
theorem fromP_tlen (n : Nat) (lost : Int) (cs : List (List Nat)) : ∀ (r k : Nat) (t : Prs), ∀ x ∈ fromP n lost cs r k t, x.length ≤ t.length + r
 | 0, k, t, x, h => by
  unfold fromP at h
  split at h
  ·simp at h; subst h; omega
  ·cases h
 | r + 1, k, t, x, h => by
  unfold fromP at h
  rcases List.mem_append.1 h with h | h
  ·rw [List.mem_flatMap] at h
   obtain ⟨o, _, ho⟩ := h
   have := fromP_tlen n lost cs r (k + 1) _ x ho
   simp at this; omega
  ·have := fromP_tlen n lost cs r (k + 1) t x h
   omega
/-- the state while truths are counted -/
structure CntS (BK : List Value) (n C Mb R : Nat) (w : World) (ts : List Prs) (M : Nat → Prop) (V : World) : Prop where
 c : ∃ A' c', M = (fun k => k = C ∨ k = Mb ∨ A'.map (·.block) = some k) ∧ Row V C (BK ++ [.slice A' ts.length c', .map (some Mb)]) ∧ V.ownsRow (C + 1) 3 1 (.slice A' ts.length c') ts.length (ints (peopleP n ts))
 m : Tal V Mb (ts.length * 9) (cntP n ts)
 lt : C < V.heap.size ∧ Mb < C ∧ R < C ∧ R < V.heap.size
 b : Below w.heap.size w V
section
variable {A : Option Addr} {cap : Nat} {L : Option Addr} {lcap : Nat} {b : Bk} {f : Nat → Option Addr × Nat × Nat}
theorem typedT.put_loop {N : Nat} {V : World} {T : Option Addr} {t : Prs} (h : typedT N V T t) {l : Nat} {o : Loop} {o' : Obj} (hl : V.heap[l]? = some (.loop o)) : typedT N (V.putObj l o') T t := fun hx => by
 obtain ⟨b0, o0, e, h1, cur, h2⟩ := h hx
 exact ⟨b0, o0, e, h1, cur, (World.putObj_heap_other (fun e' => by subst e'; rw [hl] at h2; cases h2)).trans h2⟩
theorem typedT.less {N N' : Nat} {V : World} {T : Option Addr} {t : Prs} (h : typedT N V T t) (hN : N' ≤ N) : typedT N' V T t := fun hx => by
 obtain ⟨b0, o0, e, h1, h2⟩ := h hx
 exact ⟨b0, o0, e, by omega, h2⟩
theorem Tal.more {w : World} {b n n' : Nat} {cnt : Int → Int → Int} (h : Tal w b n cnt) (hn : n ≤ n') : Tal w b n' cnt := by
 obtain ⟨D, h1, h2⟩ := h
 exact ⟨D, h1.mono hn, h2⟩
theorem ownB2 (a : Option Addr) (n c : Nat) : (Value.slice a n c).ownBlock = a.map (·.block) := by cases a <;> rfl
theorem own_of_block {w w' : World} {base : Nat} {e : TypeId} {size : Nat} {v : Value} {n : Nat} {xs : List Value} (h : w.ownsRow base e size v n xs) (_ : w.heap.size ≤ w'.heap.size) (hb : ∀ g, v.ownBlock = some g → w'.heap[g]? = w.heap[g]?) : w'.ownsRow base e size v n xs := by
 obtain ⟨h1, h | ⟨g, c, cur, hv, hg, hh, r⟩⟩ := h
 ·exact ⟨h1, .inl h⟩
 ·exact ⟨h1, .inr ⟨g, c, cur, hv, hg, (hb g (by rw [hv]; rfl)).trans hh, r⟩⟩
theorem own_lt2 {w : World} {base : Nat} {e : TypeId} {size : Nat} {v : Value} {n : Nat} {xs : List Value} (h : w.ownsRow base e size v n xs) : ∀ g, v.ownBlock = some g → g < w.heap.size := fun g hg => by
 obtain ⟨_, h | ⟨g', c, cur, hv, _, hh, _⟩⟩ := h
 ·rw [h.1] at hg; cases hg
 ·rw [hv] at hg
  cases hg
  exact (Array.getElem?_eq_some_iff.1 hh).1
def cl : Code → Code
 | .seq a _ => a
 | c => c
def cb : Code → Code
 | .block _ c => c
 | c => c
def cf : Code → Code
 | .rangeFunc _ _ _ c => c
 | c => c
/-- what rounds keep -/
def CntI (A : Option Addr) (cap : Nat) (L : Option Addr) (lcap : Nat) (b : Bk) (f : Nat → Option Addr × Nat × Nat) (C Mb R B1 : Nat) (w : World) (zs : List Value) (pre : List Prs) (M : Nat → Prop) (V : World) : Prop := CntS [.slice A b.ear.alike.length cap, .string b.ear.mute, .int .i64 b.ear.slips, .slice L b.lines.length lcap, .int .i64 b.lo, .int .i64 b.hi, .int .i64 b.lost, .slice (f 0).1 (f 0).2.1 (f 0).2.2, .slice (f 1).1 (f 1).2.1 (f 1).2.2, .slice (f 2).1 (f 2).2.1 (f 2).2.2, .slice (f 3).1 (f 3).2.1 (f 3).2.2, .slice (f 4).1 (f 4).2.1 (f 4).2.2, .slice (f 5).1 (f 5).2.1 (f 5).2.2, .slice (f 6).1 (f 6).2.1 (f 6).2.2, .slice (f 7).1 (f 7).2.1 (f 7).2.2, .slice (f 8).1 (f 8).2.1 (f 8).2.2] b.lines.length C Mb R w pre M V ∧ Row V R zs ∧ V.cell? ⟨B1, 3, none⟩ = some (.slice L b.lines.length lcap)
/-- while a truth is counted -/
structure MidC (A : Option Addr) (cap : Nat) (L : Option Addr) (lcap : Nat) (b : Bk) (f : Nat → Option Addr × Nat × Nat) (C Mb R B1 : Nat) (w : World) (zs : List Value) (pre : List Prs) (x : Prs) (T : Option Addr) (M : Nat → Prop) (V : World) (j : Nat) (V' : World) : Prop where
 c : ∃ A' c', Row V' C ([.slice A b.ear.alike.length cap, .string b.ear.mute, .int .i64 b.ear.slips, .slice L b.lines.length lcap, .int .i64 b.lo, .int .i64 b.hi, .int .i64 b.lost, .slice (f 0).1 (f 0).2.1 (f 0).2.2, .slice (f 1).1 (f 1).2.1 (f 1).2.2, .slice (f 2).1 (f 2).2.1 (f 2).2.2, .slice (f 3).1 (f 3).2.1 (f 3).2.2, .slice (f 4).1 (f 4).2.1 (f 4).2.2, .slice (f 5).1 (f 5).2.1 (f 5).2.2, .slice (f 6).1 (f 6).2.1 (f 6).2.2, .slice (f 7).1 (f 7).2.1 (f 7).2.2, .slice (f 8).1 (f 8).2.1 (f 8).2.2] ++ [Value.slice A' (pre ++ [x]).length c', Value.map (some Mb)]) ∧ V'.ownsRow (C + 1) 3 1 (.slice A' (pre ++ [x]).length c') (pre ++ [x]).length (ints (peopleP b.lines.length (pre ++ [x]))) ∧ Grow M (fun k => k = C ∨ k = Mb ∨ A'.map (·.block) = some k) V
 m : Tal V' Mb (pre.length * 9 + j) (cntJ b.lines.length pre x j)
 lt : C < V'.heap.size ∧ Mb < C ∧ R < C ∧ R < V'.heap.size
 bw : Below w.heap.size w V'
 r : Row V' R zs
 l : V'.cell? ⟨B1, 3, none⟩ = some (.slice L b.lines.length lcap)
 k : KeepA M V V'
 t : Arr V' V'.heap.size T (pairsV x)
set_option maxRecDepth 100000 in
set_option maxHeartbeats 4000000 in
theorem counted_body {C Mb R B1 : Nat} {w : World} {zs : List Value} (hn : b.lines.length ≤ 9) (hB1R : B1 < R) (hnR : w.heap.size ≤ R) (hwM : w.heap.size ≤ Mb) (l : Nat) (pre : List Prs) (x : Prs) (M : Nat → Prop) (a : Act) (V : World) (hI : CntI A cap L lcap b f C Mb R B1 w zs pre M V) (T : Option Addr) (hE : Fits 42 [(4, .slice T x.length x.length), (1, .pointer (some ⟨B1, 0, none⟩)), (3, .pointer (some ⟨C, 0, none⟩))] a) (hT : Arr V V.heap.size T (pairsV x)) (hTy : typedT (C + 1) V T x) (hpl : pre.length < 1000000000) (hxl : x.length ≤ b.lines.length) (hRM : R < Mb) (hxm : ∀ l, matchP x l ≤ 9223372036854775807) :
    (cf (cb (cr 1 (cl (cr 2 (bodyOf Tryz.f43)))))).wpIn (Fence.wide.inRound l) 5 Tryz.prog (postR M (CntI A cap L lcap b f C Mb R B1 w zs) (fun _ _ _ => False) (pre ++ [x]) V) a V := by
 obtain ⟨⟨⟨A', c', rfl, hRC, hO⟩, hTl, ⟨hlC, hMC, hRlC, hlR⟩, hW⟩, hRR, c13⟩ := hI
 have c16 := (hRC 16 _ rfl).1
 have hB1V : B1 < V.heap.size := by omega
 refine wpIn_block ?_
 refine KsI ?_
 refine region_straight_in (n := 13) rfl (by kernel_rfl) (fun Q' K hK => ?_)
 refine M1 hE 3 fun K' J ρ q3 => ?_; go_simp
 refine Ln hE J fun _ Eb => ?_; clear J K' hE a q3
 refine M1 Eb 12 fun K' J ρ q12 => ?_; go_simp
 refine Ln Eb J fun _ Ea => ?_; clear J K' Eb q12
 refine M1 Ea 1 fun K' J ρ q1 => ?_; go_simp
 refine Ln Ea J fun _ Eb => ?_; clear J K' Ea q1
 refine M1 Eb 14 fun K' J ρ q14 => ?_; go_simp
 refine Ln Eb J fun _ Ea => ?_; clear J K' Eb q14
 refine M1 Ea 15 fun K' J ρ q15 => ?_; go_simp
 refine Ln Ea J fun _ Eb => ?_; clear J K' Ea q15
 refine M1 Eb 16 fun K' J ρ q16 => ?_; go_simp; (try go_bits)
 refine Ln Eb J fun _ Ea => ?_; clear J K' Eb q16
 refine M1 Ea 4 fun K' J ρ q4 => ?_; go_simp
 refine Ln Ea J fun _ Eb => ?_; clear J K' Ea q4
 refine M1 Eb 18 fun K' J ρ q18 => ?_; go_simp; (try go_bits)
 refine Ln Eb J fun _ Ea => ?_; clear J K' Eb q18
 refine M2 Ea 17 19 fun K' J ρ q17 q19 => ?_; go_simp; (try go_bits); (try simp (disch := omega) only [IntWalk.i64_in])
 refine Ln Ea J fun _ Eb => ?_; clear J K' Ea q17 q19
 refine M1 Eb 20 fun K' J ρ q20 => ?_; go_simp
 refine Ln Eb J fun _ Ea => ?_; clear J K' Eb q20
 refine Lp fun K' J => ?_
 have r13 := Ea.at 13 rfl; have r21 := Ea.at 21 rfl
 refine wp_appN (.tmp 13) (.tmp 21) 48 rfl (C + 1) 3 (.int .i64 0) 1 8 Tryz.underlying48 (by kernel_rfl) rfl (by decide) _ _ _ (eval_of r13) (hO.alloc _) (V.heap.size + 1) (some ⟨V.heap.size, 0, none⟩) 1 1 [.int .i64 ((b.lines.length : Int) - x.length)] (eval_of r21) (arr_new V _ _) rfl (by intro u hu; simp at hu; subst hu; rfl) (by simp only [maxLen]; omega) (by omega) (by simp; omega) (fun A2 c2 w5 q1 q2 q3 q4 q5 => ?_)
 have hlow : Below (C + 1) V w5 := ((Below.refl (C + 1) V).alloc (by omega) _).grown q4 (by simp; omega) (fun k e => ownBlock_le hO k e)
 have hRC5 := row_of_block hRC (hlow.block C (by omega))
 have y16 := (hRC5 16 _ rfl).2
 (try clear r13 r21)
 refine Ln Ea J fun _ Eb => ?_; clear J K' Ea
 refine M1 Eb 3 fun K' J ρ q3 => ?_; go_simp
 refine Ln Eb J fun _ Ea => ?_; clear J K' Eb q3
 refine M2 Ea 23 22 fun K' J ρ q23 q22 => ?_; go_simp; (try clear q23 q22)
 refine late_skip Ea J (fun _ Eb => ?_); clear J K'; clear Ea
 refine Ld [1, 3, 4] Eb hK fun a hE => ?_; clear hK K Q' Eb
 refine world_cut (fun wt => MidC A cap L lcap b f C Mb R B1 w zs pre x T (fun k => k = C ∨ k = Mb ∨ A'.map (·.block) = some k) V 0 wt) ?_ (fun w6 hMid => ?_)
 ·have hl1 : pre.length + 1 = (pre ++ [x]).length := by simp
  have hp1 : ints (peopleP b.lines.length pre) ++ [.int .i64 ((b.lines.length : Int) - x.length)] = ints (peopleP b.lines.length (pre ++ [x])) := by rw [peopleP_snoc]; simp [ints]
  rw [hp1, hl1] at q3
  have hs5 : V.heap.size ≤ w5.heap.size := hlow.size
  have hCa : ∀ k, k < V.heap.size → ¬ A'.map (·.block) = some k → w5.heap[k]? = V.heap[k]? := fun k hk hne => (q4.block k (by simp; omega) (fun e => hne (by rw [← ownB2 A' pre.length c']; exact e.symm))).trans (Below.heap_alloc _ _ _ hk)
  refine ⟨⟨A2, c2, ?_, ?_, ?_⟩, ?_, ⟨by simp; omega, hMC, hRlC, by simp; omega⟩, (hW.trans (hlow.mono (by omega))).setCell (by simp only; omega) _, (row_of_block hRR (hlow.block R (by omega))).other (by omega), ?_, ?_, ?_⟩
  ·rw [← hl1]; exact hRC5.set (o := 16) (by simp)
  ·refine q3.kept (row := some C) ⟨rfl, rfl, rfl, by simp, fun k hk hne => Below.heap_setCell _ _ _ _ (fun e => hne (by rw [e]))⟩ ?_
   cases hg : (Value.slice A2 (pre ++ [x]).length c2).ownBlock with
   | none => exact .inl rfl
   | some g => exact .inr fun e' => by have := ownBlock_le q3 g hg; cases e'; omega
  ·rintro k (rfl | rfl | hk)
   ·exact .inl (.inl rfl)
   ·exact .inl (.inr (.inl rfl))
   ·rcases q5 k (by rw [ownB2]; exact hk) with h5 | h5
    ·exact .inl (.inr (.inr (by rw [ownB2] at h5; exact h5)))
    ·exact .inr (by simp at h5; omega)
  ·rw [cntJ_zero]
   exact hTl.of_block ((Below.heap_setCell _ _ _ _ (by simp only; omega)).trans (hlow.block Mb (by omega)))
  ·rw [World.cell?_setCell_other _ _ _ _ (by intro e; have := congrArg Addr.block e; simp only at this; omega)]
   exact (hlow.cell (p := ⟨B1, 3, none⟩) (by simp only; omega)).trans c13
  ·exact (KeepA.mk hs5 (fun k hk hM => hCa k hk (fun e => hM (.inr (.inr e))))).set C 16 _ (.inl rfl)
  ·intro hx
   obtain ⟨b0, o0, e, p1, p2⟩ := hT hx
   obtain ⟨b0', o0', e', p3, cur, p4⟩ := hTy hx
   rw [e] at e'
   cases e'
   have hne : ¬ A'.map (·.block) = some b0 := fun hk => by
    obtain ⟨_, h | ⟨g, cc, cur', hv, _, hh, _⟩⟩ := hO
    ·rw [Value.slice.injEq] at h
     rw [h.1.1] at hk; cases hk
    ·rw [Value.slice.injEq] at hv
     rw [hv.1] at hk
     cases hk
     rw [hh] at p4
     simp at p4
   refine ⟨b0, o0, e, by simp; omega, fun j u hu => ?_⟩
   rw [World.cell?_setCell_other _ _ _ _ (by intro e; have := congrArg Addr.block e; simp only at this; omega)]
   exact (World.cell?_of_block (w := V) (a := ⟨b0, o0 + j, none⟩) (hCa b0 p1 hne)).trans (p2 j u hu)
 clear hRC hO hTl hlC hlR hW hRR c13 c16 hT q1 q2 q3 q4 q5 hlow hRC5 y16
 have c13 := hMid.l
 have hB16 : B1 < w6.heap.size := by have := hMid.lt; omega
 refine KsI ?_
 refine region_straight_in (n := 5) rfl (by kernel_rfl) (fun Q' K hK => ?_)
 refine M1 hE 1 fun K' J ρ q1 => ?_; go_simp
 refine Ln hE J fun _ Eb => ?_; clear J K' hE a q1
 refine M1 Eb 24 fun K' J ρ q24 => ?_; go_simp
 refine Ln Eb J fun _ Ea => ?_; clear J K' Eb q24
 refine M1 Ea 25 fun K' J ρ q25 => ?_; go_simp
 refine Ln Ea J fun _ Eb => ?_; clear J K' Ea q25
 refine M1 Eb 26 fun K' J ρ q26 => ?_; go_simp; (try go_bits)
 refine Ln Eb J fun _ Ea => ?_; clear J K' Eb q26
 refine Go.Proofs.YtbimkcjdodgojaaGreat.M0 fun K' J ρ => ?_; go_simp;
 refine Ln Ea J fun _ Eb => ?_; clear J K' Ea
 refine Ld [1, 3, 4, 27, 28] Eb hK fun a hE => ?_; clear hK K Q' Eb
 clear c13
 refine KsI ?_
 refine loopI_st (fun (j : Nat) a w' => j ≤ b.lines.length ∧ Fits 42 [(1, .pointer (some ⟨B1, 0, none⟩)), (3, .pointer (some ⟨C, 0, none⟩)), (4, .slice T x.length x.length), (27, .int .i64 b.lines.length), (28, .int .i64 j)] a ∧ MidC A cap L lcap b f C Mb R B1 w zs pre x T (fun k => k = C ∨ k = Mb ∨ A'.map (·.block) = some k) V j w') (fun j => b.lines.length - j) 0 ?_ (fun j a w' hI => ?_)
 ·exact ⟨Nat.zero_le _, by simpa using hE, hMid⟩
 clear hE hMid hB16
 obtain ⟨hj, hE, hMid⟩ := hI
 obtain ⟨wi, hwi⟩ : ∃ x, x = w' := ⟨_, rfl⟩
 subst hwi
 refine KsI ?_
 refine region_straight_in (n := 1) rfl (by kernel_rfl) (fun Q' K hK => ?_)
 refine M2 hE 28 27 fun K' J ρ q28 q27 => ?_; go_simp; (try go_bits)
 refine Ln hE J fun _ Eb => ?_; clear J K' hE a q28 q27
 refine Ld [1, 3, 4, 27, 28, 29] Eb hK fun a hE => ?_; clear hK K Q' Eb
 refine KsI ?_
 refine condI_part hE (t := 29) rfl (fun h => ?_) (fun h => ?_)
 ·have hjt : j < b.lines.length := by have := of_decide_eq_true h; omega
  clear h
  refine KsI ?_
  refine region_straight_in (n := 2) rfl (by kernel_rfl) (fun Q' K hK => ?_)
  refine M1 hE 28 fun K' J ρ q28 => ?_; go_simp
  refine Ln hE J fun _ Eb => ?_; clear J K' hE a q28
  refine M1 Eb 30 fun K' J ρ q30 => ?_; go_simp
  refine Ln Eb J fun _ Ea => ?_; clear J K' Eb q30
  refine Ld [1, 3, 4, 5, 27, 28] Ea hK fun a hE => ?_; clear hK K Q' Ea
  refine KsI ?_
  obtain ⟨⟨A2, c2, m1, m2, m3⟩, hm, ⟨hlC, _, _, hlR⟩, hbw, hr, hl, hk, ht⟩ := hMid
  have hMl := hm.lt
  have c17 := (m1 17 _ rfl).1
  have hmn := matchP_nat x j
  have hmx := hxm j
  have hw1 : WfI (j : Int) := wf_int _ (by omega)
  have hw2 : WfI (matchP x j) := wf_int _ (by omega)
  obtain ⟨st, O1, e1, e2, e3⟩ := hm.entry (by simp only [maxLen]; omega) j (matchP x j) hw1 hw2
  have hlk : ∀ wx : World, (wx.heap[Mb]? = wi.heap[Mb]? ∨ wx.heap[Mb]? = some O1) → (Instr.lookup 73 (.map (some Mb)) (mval j (matchP x j)) false).run Tryz.prog wx = .ok (.int .i64 (cntJ b.lines.length pre x j j (matchP x j))) wx := fun wx h => by
   rcases h with h | h
   ·exact (hm.of_block h).lookup _ _ hw1 hw2
   ·exact (e2 wx h).lookup _ _ hw1 hw2
  have hcs := cntJ_succ b.lines.length pre x j
  have hcl := cntJ_le b.lines.length pre x j j (matchP x j)
  obtain ⟨cc, hcc⟩ : ∃ cc, cntJ b.lines.length pre x j j (matchP x j) = cc := ⟨_, rfl⟩
  rw [hcc] at e1 hlk hcs hcl
  have hnT : ∀ b0 o0 : Nat, (wi.cell? ⟨b0, o0, none⟩).isSome = true → b0 ≠ Mb := fun b0 o0 h e => by
   obtain ⟨D, ⟨es, ck, h1, _⟩, _⟩ := hm
   subst e
   simp [World.cell?, h1] at h
  have har : ∀ wx : World, wi.grownBy wx (some Mb) → Arr wx wx.heap.size T (pairsV x) := fun wx h hx => by
   obtain ⟨b0, o0, e, p1, p2⟩ := ht hx
   have hne : b0 ≠ Mb := by
    cases hpx : pairsV x with
    | nil => exact absurd hpx hx
    | cons u us => exact hnT b0 (o0 + 0) (by rw [p2 0 u (by rw [hpx]; rfl)]; rfl)
   exact ⟨b0, o0, e, Nat.lt_of_lt_of_le p1 h.size, fun i u hu => (World.cell?_of_block (w := wi) (a := ⟨b0, o0 + i, none⟩) (h.block b0 p1 (fun e => hne (by cases e; rfl)))).trans (p2 i u hu)⟩
  have HAR := hid har
  have HLK := hid hlk
  have HE1 := hid e1
  have HCS := hid hcs
  clear hcc har hlk e1 hcs hnT hmn hmx
  obtain ⟨mm, hmm⟩ : ∃ mm, matchP x j = mm := ⟨_, rfl⟩
  have HMM := hid (fun wx h => match_any T x.length x j wx h (by omega))
  rw [hmm] at HLK HE1 HCS HMM
  refine region_drawn_in [9] (fun wt => wi.grownBy wt (some Mb) ∧ (wt.heap[Mb]? = wi.heap[Mb]? ∨ wt.heap[Mb]? = some O1)) (fun w1 w2 => (w1.heap[Mb]? = some O1 → w2.heap[Mb]? = some O1)) [(0, some 31), (1, some 32), (2, some 33), (3, some 34), (4, some 35), (5, some 36), (6, some 37), (7, some 38), (8, some 39)] [31, 32, 33, 34, 35, 36, 37, 38, 39] #[true, true, true, true, true, true, true, true, true, false] [1, 3, 4, 27, 28] hE (by kernel_rfl) (by kernel_rfl) (by kernel_rfl) (by kernel_rfl) (by kernel_rfl) (by kernel_rfl) (by kernel_rfl) (by kernel_rfl) (by kernel_rfl) (by kernel_rfl) (by kernel_rfl) (by kernel_rfl) (by decide) (⟨⟨rfl, rfl, rfl, Nat.le_refl _, fun _ _ _ => rfl⟩, .inl rfl⟩) (fun Q' K hK => ?_)
  refine SeqOps.val ?_ (Sp fun ax wx hS hT' hd K' J => ?_) ?_; rotate_left 1
  ·have r3 := hS.at 3 (by decide) (hE.at 3 rfl); have c17' := (World.cell?_of_block (w := wi) (a := ⟨C, 17, none⟩) (hT'.1.block C hlC (fun e => by cases e; omega))).trans c17; have hlk := HLK.out _ hT'.2; obtain ⟨hme, hmg, hms⟩ := HE1.out _ hT'.2; have hzT := hT'.1.size
   refine o1 r3 fun ρ q3 => ?_; go_simp;
   refine J.out _ _ _ rfl ?_ hT' (fun h => h); rfl
  refine SeqOps.val ?_ (Sp fun ax wx hS hT' hd K' J => ?_) ?_; rotate_left 1
  ·have r31 := Tv hd 0 0 31; have c17' := (World.cell?_of_block (w := wi) (a := ⟨C, 17, none⟩) (hT'.1.block C hlC (fun e => by cases e; omega))).trans c17; have hlk := HLK.out _ hT'.2; obtain ⟨hme, hmg, hms⟩ := HE1.out _ hT'.2; have hzT := hT'.1.size
   refine o1 r31 fun ρ q31 => ?_; go_simp;
   refine J.out _ _ _ rfl ?_ hT' (fun h => h); rfl
  refine SeqOps.val ?_ (Sp fun ax wx hS hT' hd K' J => ?_) ?_; rotate_left 1
  ·have r4 := hS.at 4 (by decide) (hE.at 4 rfl); have c17' := (World.cell?_of_block (w := wi) (a := ⟨C, 17, none⟩) (hT'.1.block C hlC (fun e => by cases e; omega))).trans c17; have hlk := HLK.out _ hT'.2; obtain ⟨hme, hmg, hms⟩ := HE1.out _ hT'.2; have hzT := hT'.1.size
   refine o1 r4 fun ρ q4 => ?_; go_simp;
   refine J.out _ _ _ rfl ?_ hT' (fun h => h); rfl
  refine SeqOps.val ?_ (Sp fun ax wx hS hT' hd K' J => ?_) ?_; rotate_left 1
  ·have r5 := hS.at 5 (by decide) (hE.at 5 rfl); have c17' := (World.cell?_of_block (w := wi) (a := ⟨C, 17, none⟩) (hT'.1.block C hlC (fun e => by cases e; omega))).trans c17; have hlk := HLK.out _ hT'.2; obtain ⟨hme, hmg, hms⟩ := HE1.out _ hT'.2; have hzT := hT'.1.size
   refine o1 r5 fun ρ q5 => ?_; go_simp;
   refine J.out _ _ _ rfl ?_ hT' (fun h => h); rfl
  refine SeqOps.val ?_ (Sp fun ax wx hS hT' hd K' J => ?_) ?_; rotate_left 1
  ·have r33 := Tv hd 1 2 33; have r34 := Tv hd 0 3 34; have c17' := (World.cell?_of_block (w := wi) (a := ⟨C, 17, none⟩) (hT'.1.block C hlC (fun e => by cases e; omega))).trans c17; have hlk := HLK.out _ hT'.2; obtain ⟨hme, hmg, hms⟩ := HE1.out _ hT'.2; have hzT := hT'.1.size
   refine o2 r33 r34 fun ρ q33 q34 => ?_; go_simp; (try go_bits);
   go_at_call 77; refine (HMM.out _ (HAR.out _ hT'.1)).mono ?_; rintro e g1 ⟨rfl, k1⟩
   refine J.out _ _ _ rfl ?_ ⟨hT'.1.trans ⟨k1.os, k1.tape, k1.output, k1.size, fun k hk' _ => k1.block k hk'⟩, hT'.2.imp (fun h => (k1.block Mb (by omega)).trans h) (fun h => (k1.block Mb (by omega)).trans h)⟩ (fun h => (k1.block Mb (by omega)).trans h); rfl
  refine SeqOps.val ?_ (Sp fun ax wx hS hT' hd K' J => ?_) ?_; rotate_left 1
  ·have r32 := Tv hd 3 1 32; have r35 := Tv hd 0 4 35; have c17' := (World.cell?_of_block (w := wi) (a := ⟨C, 17, none⟩) (hT'.1.block C hlC (fun e => by cases e; omega))).trans c17; have hlk := HLK.out _ hT'.2; obtain ⟨hme, hmg, hms⟩ := HE1.out _ hT'.2; have hzT := hT'.1.size
   refine o2 r32 r35 fun ρ q32 q35 => ?_; go_simp;
   refine J.out _ _ _ rfl ?_ hT' (fun h => h); rfl
  refine SeqOps.val ?_ (Sp fun ax wx hS hT' hd K' J => ?_) ?_; rotate_left 1
  ·have r36 := Tv hd 0 5 36; have c17' := (World.cell?_of_block (w := wi) (a := ⟨C, 17, none⟩) (hT'.1.block C hlC (fun e => by cases e; omega))).trans c17; have hlk := HLK.out _ hT'.2; obtain ⟨hme, hmg, hms⟩ := HE1.out _ hT'.2; have hzT := hT'.1.size
   refine o1 r36 fun ρ q36 => ?_; go_simp; (try go_bits); (try simp (disch := omega) only [IntWalk.i64_in]);
   refine J.out _ _ _ rfl ?_ hT' (fun h => h); rfl
  refine SeqOps.say (fun v wt => v = .tuple #[.int .i64 cc, goInt st] ∧ wt.heap[Mb]? = some O1) (fun v y z h ⟨h1, h2⟩ => ⟨h1, h h2⟩) (Sp fun ax wx hS hT' hd K' J => ?_) ?_
  ·have r32 := Tv hd 5 1 32; have r35 := Tv hd 2 4 35; have c17' := (World.cell?_of_block (w := wi) (a := ⟨C, 17, none⟩) (hT'.1.block C hlC (fun e => by cases e; omega))).trans c17; have hlk := HLK.out _ hT'.2; obtain ⟨hme, hmg, hms⟩ := HE1.out _ hT'.2; have hzT := hT'.1.size
   refine o2 r32 r35 fun ρ q32 q35 => ?_; go_simp;
   exact J.out _ _ _ rfl ⟨rfl, hms⟩ ⟨hT'.1.trans hmg, .inr hms⟩ (fun _ => hms)
  refine SeqOps.val ?_ (Sp fun ax wx hS hT' hd K' J => ?_) ?_; rotate_left 1
  ·obtain ⟨v38, r38, h38⟩ := Tg hd 0 7 38; obtain ⟨rfl, hO1⟩ := h38; have c17' := (World.cell?_of_block (w := wi) (a := ⟨C, 17, none⟩) (hT'.1.block C hlC (fun e => by cases e; omega))).trans c17; have hlk := HLK.out _ hT'.2; obtain ⟨hme, hmg, hms⟩ := HE1.out _ hT'.2; have hzT := hT'.1.size
   refine o1 r38 fun ρ q38 => ?_; go_simp;
   refine J.out _ _ _ rfl ?_ hT' (fun h => h); rfl
  refine SeqOps.nil ?_
  intro w4 hBl; (repeat refine Ek ?_); (refine fun v h => ?_; obtain ⟨rfl, hO1⟩ := h); (repeat refine Ek ?_)
  refine fun ax hEx => ?_
  simp only [lk, pick, Nat.reduceEqDiff, ↓reduceIte] at hEx
  obtain ⟨w5, hst1, hst2, hst3⟩ := e3 w4 (cc + 1) hO1 (wf_int _ (by omega))
  rw [show goInt st = .int .i64 (st : Int) from rfl] at hst1
  refine M3 hEx 32 39 37 fun K' J ρ q32 q39 q37 => ?_; go_simp; (try clear q32 q39 q37)
  refine late_skip hEx J (fun _ Eb => ?_); clear J K'; clear hEx
  refine Ld [1, 3, 4, 27, 28] Eb hK fun a hE => ?_; clear hK K Q' Eb
  refine world_cut (fun wt => MidC A cap L lcap b f C Mb R B1 w zs pre x T (fun k => k = C ∨ k = Mb ∨ A'.map (·.block) = some k) V (j + 1) wt) ?_ (fun w6' hMid => ?_)
  ·rw [hmm, HCS.out] at hst2
   have hg := hBl.1.trans hst3
   have hz := hg.size
   have hkb : ∀ k, k < wi.heap.size → k ≠ Mb → w5.heap[k]? = wi.heap[k]? := fun k hk' hne => hg.block k hk' (fun e => hne (by cases e; rfl))
   have hB5 : Below w.heap.size w w5 := hbw.trans ⟨hg.os, hg.tape, hg.output, hz, fun k hk' => hkb k (by have := hbw.size; omega) (by omega)⟩
   exact ⟨⟨A2, c2, row_of_block m1 (hkb C hlC (by omega)), own_of_block m2 hz (fun g hgg => hkb g (own_lt2 m2 g hgg) (by have := ownBlock_le m2 g hgg; omega)), m3⟩, by rw [← Nat.add_assoc]; exact hst2, ⟨by omega, by omega, by omega, by omega⟩, hB5, row_of_block hr (hkb R hlR (by omega)),
    (World.cell?_of_block (w := wi) (a := ⟨B1, 3, none⟩) (hkb B1 (by omega) (by omega))).trans hl, ⟨Nat.le_trans hk.size hz, fun k hk' hM => (hkb k (by have := hk.size; omega) (fun e => hM (.inr (.inl e)))).trans (hk.block k hk' hM)⟩, HAR.out w5 hg⟩
  refine KsI ?_
  refine region_straight_in (n := 2) rfl (by kernel_rfl) (fun Q' K hK => ?_)
  refine M1 hE 28 fun K' J ρ q28 => ?_; go_simp; (try go_bits); (try simp (disch := omega) only [IntWalk.i64_in])
  refine Ln hE J fun _ Eb => ?_; clear J K' hE a q28
  refine M1 Eb 40 fun K' J ρ q40 => ?_; go_simp
  refine Ln Eb J fun _ Ea => ?_; clear J K' Eb q40
  refine Ld [1, 3, 4, 27, 28] Ea hK fun a hE => ?_; clear hK K Q' Ea
  refine KsI ?_
  exact ⟨j + 1, ⟨hjt, by simpa using hE, hMid⟩, by omega⟩
 ·have hjj : j = b.lines.length := by have := of_decide_eq_false h; omega
  subst hjj
  refine KsI ?_
  obtain ⟨⟨A2, c2, m1, m2, m3⟩, hm, hlt, hbw, hr, hl, hk, ht⟩ := hMid
  rw [cntJ_all] at hm
  exact ⟨hk, _, ⟨⟨⟨A2, c2, rfl, m1, m2⟩, by rw [show (pre ++ [x]).length * 9 = pre.length * 9 + 9 by simp; omega]; exact hm.more (by omega), hlt, hbw⟩, hr, hl⟩, m3⟩
end
section
variable {A : Option Addr} {cap : Nat} {L : Option Addr} {lcap : Nat} {b : Bk} {f : Nat → Option Addr × Nat × Nat}
theorem fromP_mem {n : Nat} {lost : Int} {cs : List (List Nat)} (hco : ∀ k, ∀ o ∈ cs.getD k [], o < 9) : ∀ (r k : Nat) (t : Prs), k + r ≤ 9 → (∀ p ∈ t, p.1 < 9 ∧ p.2 < 9) → ∀ x ∈ fromP n lost cs r k t, ∀ p ∈ x, p.1 < 9 ∧ p.2 < 9
 | 0, k, t, _, ht, x, h => by
  unfold fromP at h
  split at h
  ·simp at h; subst h; exact ht
  ·cases h
 | r + 1, k, t, hk, ht, x, h => by
  unfold fromP at h
  rcases List.mem_append.1 h with h | h
  ·rw [List.mem_flatMap] at h
   obtain ⟨o, ho, h⟩ := h
   refine fromP_mem hco r (k + 1) _ (by omega) (fun p hp => ?_) x h
   rcases List.mem_append.1 hp with hp | hp
   ·exact ht p hp
   ·rw [List.mem_singleton] at hp
    subst hp
    exact ⟨by simp only; omega, hco k o (List.mem_filter.1 ho).1⟩
  ·exact fromP_mem hco r (k + 1) t (by omega) ht x h
theorem matchP_lt {t : Prs} (h : ∀ p ∈ t, p.1 < 9 ∧ p.2 < 9) (l : Nat) : matchP t l ≤ 9 := by
 induction t with
 | nil => simp [matchP]
 | cons p t ih =>
  have h0 := h p (List.mem_cons_self ..)
  unfold matchP
  split
  ·omega
  ·split
   ·omega
   ·exact ih fun q hq => h q (List.mem_cons_of_mem _ hq)
theorem arr_taken2 {V : World} {N : Nat} {T : Option Addr} {xs : List Value} (h : Arr V N T xs) {ds : List Nat} (hd : ∀ d ∈ ds, V.heap[d]? = some (.deferred (some []))) : Arr (taken ds V) N T xs := fun hx => by
 obtain ⟨b0, o0, e, h1, h2⟩ := h hx
 have hnd : b0 ∉ ds := fun hm => by
  have ho := hd b0 hm
  cases xs with
  | nil => exact hx rfl
  | cons u us =>
   have := h2 0 u rfl
   simp [World.cell?, ho] at this
 exact ⟨b0, o0, e, h1, fun j u hu => (World.cell?_of_block (w := V) (taken_block ds V b0 hnd)).trans (h2 j u hu)⟩
theorem row_stored {R : Nat} : ∀ (vs : List Value) (o : Nat) (w : World) (zs : List Value), Row w R zs → o + vs.length ≤ zs.length → Row (w.setCells R o vs) R (zs.take o ++ vs ++ zs.drop (o + vs.length))
 | [], o, w, zs, h, _ => by simpa [World.setCells] using h
 | v :: r, o, w, zs, h, hl => by
  simp only [List.length_cons] at hl
  have h1 := h.set (o := o) (v := v) (by omega)
  have h2 := row_stored r (o + 1) _ _ h1 (by simp; omega)
  unfold World.setCells
  have e : (zs.set o v).take (o + 1) ++ r ++ (zs.set o v).drop (o + 1 + r.length) = zs.take o ++ (v :: r) ++ zs.drop (o + (v :: r).length) := by
   rw [List.drop_set_of_lt (by omega), List.take_add_one, List.take_set_of_le (Nat.le_refl _), List.getElem?_set_self (by omega)]
   simp only [Option.toList_some, List.append_assoc, List.cons_append, List.nil_append, List.length_cons]
   rw [show o + 1 + r.length = o + (r.length + 1) by omega]
  rw [e] at h2
  exact h2
theorem heap_stored {R k : Nat} (hk : k ≠ R) : ∀ (vs : List Value) (o : Nat) (w : World), (w.setCells R o vs).heap[k]? = w.heap[k]?
 | [], _, _ => rfl
 | v :: r, o, w => by
  unfold World.setCells
  rw [heap_stored hk r (o + 1)]
  exact Below.heap_setCell _ _ _ _ hk
theorem cells_stored {w V : World} {R : Nat} {zs vs : List Value} (h : Row V R zs) (hl : zs.length = vs.length) (hR : R < V.heap.size) (hn : w.heap.size ≤ R) (hb : Below w.heap.size w V) : Cells (V.setCells R 0 vs) R vs ∧ Below w.heap.size w (V.setCells R 0 vs) ∧ (∀ k, k ≠ R → (V.setCells R 0 vs).heap[k]? = V.heap[k]?) ∧ (V.setCells R 0 vs).heap.size = V.heap.size := by
 have h1 := row_stored vs 0 V zs h (by omega)
 have e : zs.take 0 ++ vs ++ zs.drop (0 + vs.length) = vs := by rw [List.drop_of_length_le (by omega)]; simp
 rw [e] at h1
 exact ⟨row_cells h1 (by rw [size_setCellsN]; exact hR), Lib.below_setCells R hn _ _ hb, fun k hk => heap_stored hk _ _ _, size_setCellsN _ _ _ _⟩
theorem res_cell {P : Program} {fn : Func} {p ty : Nat} {tmps : Array Value} {R : Nat} {v : List Value} {W : World} {d : TypeDesc} (hf : fn.results = #[.cell p ty]) (hp : tmps[p]? = some (.pointer (some ⟨R, 0, none⟩))) (hc : ∀ j u, v[j]? = some u → W.cell? ⟨R, j, none⟩ = some u) (hu : P.underlying ty = some d) (hd : d.isRow = true) (hi : (P.info? ty).map (·.size) = some v.length) : (results fn tmps).run P W = .ok (.agg v.toArray) W := by
 have h2 := run_loadVar_mid (P := P) W R 0 ty v d (fun j u hu => by rw [Nat.zero_add]; exact hc j u hu) hu hd hi
 unfold results
 rw [hf]
 simp [hp, asAddr, h2, Result.andThen, Sem.run_bind]
set_option maxRecDepth 100000 in
set_option maxHeartbeats 4000000 in
theorem counted_end {C Mb R B1 : Nat} {w : World} {zs : List Value} (hz : zs.length = 18) (hnR : w.heap.size ≤ R) (hRM : R < Mb) (XS : List Prs) (M : Nat → Prop) (V : World) (hI : CntI A cap L lcap b f C Mb R B1 w zs XS M V) (D : Nat) (hD : w.heap.size ≤ D ∧ C < D) (hK : V.heap[D]? = some (.deferred (some []))) (a : Act) (hE : FitsD (rmarks [D]) 42 [(2, .pointer (some ⟨R, 0, none⟩)), (3, .pointer (some ⟨C, 0, none⟩))] a) :
    (cr 3 (bodyOf Tryz.f43)).wp Tryz.prog (bodyPostM Fence.wide 5 Tryz.prog Tryz.f43 fun e w' => (∃ T c Mb, e = .returned (.agg (([.slice A b.ear.alike.length cap, .string b.ear.mute, .int .i64 b.ear.slips, .slice L b.lines.length lcap, .int .i64 b.lo, .int .i64 b.hi, .int .i64 b.lost, .slice (f 0).1 (f 0).2.1 (f 0).2.2, .slice (f 1).1 (f 1).2.1 (f 1).2.2, .slice (f 2).1 (f 2).2.1 (f 2).2.2, .slice (f 3).1 (f 3).2.1 (f 3).2.2, .slice (f 4).1 (f 4).2.1 (f 4).2.2, .slice (f 5).1 (f 5).2.1 (f 5).2.2, .slice (f 6).1 (f 6).2.1 (f 6).2.2, .slice (f 7).1 (f 7).2.1 (f 7).2.2, .slice (f 8).1 (f 8).2.1 (f 8).2.2] : List Value) ++ [Value.slice T XS.length c, Value.map (some Mb)]).toArray) ∧ Arr w' w'.heap.size T (ints (peopleP b.lines.length XS)) ∧ Tal w' Mb (XS.length * 9) (cntP b.lines.length XS) ∧ XS.length ≤ c ∧ c ≤ 9223372036854775807 ∧ ∀ g, T.map (·.block) = some g → w.heap.size ≤ g) ∧ Below w.heap.size w w') a V := by
 obtain ⟨⟨⟨A', c', rfl, hRC, hO⟩, hTl, ⟨hlC, hMC, hRlC, hlR⟩, hbw⟩, h2, _⟩ := hI
 have hCC := row_cells hRC hlC
 refine wp_seq ?_; refine Ks ?_
 refine Rs 2 fun Q' K hK => ?_
 refine Lp fun K' J => ?_
 have r3 := hE.at 3 rfl
 refine wp_load_mid 75 (.tmp 3) rfl C 0 (eval_of r3) [.slice A b.ear.alike.length cap, .string b.ear.mute, .int .i64 b.ear.slips, .slice L b.lines.length lcap, .int .i64 b.lo, .int .i64 b.hi, .int .i64 b.lost, .slice (f 0).1 (f 0).2.1 (f 0).2.2, .slice (f 1).1 (f 1).2.1 (f 1).2.2, .slice (f 2).1 (f 2).2.1 (f 2).2.2, .slice (f 3).1 (f 3).2.1 (f 3).2.2, .slice (f 4).1 (f 4).2.1 (f 4).2.2, .slice (f 5).1 (f 5).2.1 (f 5).2.2, .slice (f 6).1 (f 6).2.1 (f 6).2.2, .slice (f 7).1 (f 7).2.1 (f 7).2.2, .slice (f 8).1 (f 8).2.1 (f 8).2.2, .slice A' XS.length c', .map (some Mb)] _ (fun j u hu => by rw [Nat.zero_add]; exact hCC.2 j u hu) Tryz.underlying75 rfl (by kernel_rfl) ?_
 (try clear r3)
 refine Ln hE J fun _ Eb => ?_; clear J K' hE a
 refine Lp fun K' J => ?_
 have r2 := Eb.at 2 rfl; have r41 := Eb.at 41 rfl
 refine wp_store_mid 75 (.tmp 2) (.tmp 41) rfl R 0 #[.slice A b.ear.alike.length cap, .string b.ear.mute, .int .i64 b.ear.slips, .slice L b.lines.length lcap, .int .i64 b.lo, .int .i64 b.hi, .int .i64 b.lost, .slice (f 0).1 (f 0).2.1 (f 0).2.2, .slice (f 1).1 (f 1).2.1 (f 1).2.2, .slice (f 2).1 (f 2).2.1 (f 2).2.2, .slice (f 3).1 (f 3).2.1 (f 3).2.2, .slice (f 4).1 (f 4).2.1 (f 4).2.2, .slice (f 5).1 (f 5).2.1 (f 5).2.2, .slice (f 6).1 (f 6).2.1 (f 6).2.2, .slice (f 7).1 (f 7).2.1 (f 7).2.2, .slice (f 8).1 (f 8).2.1 (f 8).2.2, .slice A' XS.length c', .map (some Mb)] (eval_of r2) (eval_of r41) (fun j hj => by rw [Nat.zero_add]; have hj' : j < zs.length := (by rw [hz]; exact hj); have hw := (h2 j (zs[j]'hj') (List.getElem?_eq_getElem hj')).2; exact ⟨hw.1, hw.2⟩) (by kernel_rfl) (by first | (simp only [List.all_toArray, List.all_cons, List.all_nil, Bool.and_true]; rfl) | (simp [Value.oneCell'])) ?_
 (try clear r2 r41)
 refine late_skip Eb J (fun _ Ea => ?_); clear J K'; clear Eb
 refine Ld [2] Ea hK fun a hE => ?_; clear hK K Q' Ea
 refine world_cut (fun wt => Cells wt R [.slice A b.ear.alike.length cap, .string b.ear.mute, .int .i64 b.ear.slips, .slice L b.lines.length lcap, .int .i64 b.lo, .int .i64 b.hi, .int .i64 b.lost, .slice (f 0).1 (f 0).2.1 (f 0).2.2, .slice (f 1).1 (f 1).2.1 (f 1).2.2, .slice (f 2).1 (f 2).2.1 (f 2).2.2, .slice (f 3).1 (f 3).2.1 (f 3).2.2, .slice (f 4).1 (f 4).2.1 (f 4).2.2, .slice (f 5).1 (f 5).2.1 (f 5).2.2, .slice (f 6).1 (f 6).2.1 (f 6).2.2, .slice (f 7).1 (f 7).2.1 (f 7).2.2, .slice (f 8).1 (f 8).2.1 (f 8).2.2, .slice A' XS.length c', .map (some Mb)] ∧ Below w.heap.size w wt ∧ (∀ k, k ≠ R → wt.heap[k]? = V.heap[k]?) ∧ wt.heap.size = V.heap.size) (cells_stored (vs := [.slice A b.ear.alike.length cap, .string b.ear.mute, .int .i64 b.ear.slips, .slice L b.lines.length lcap, .int .i64 b.lo, .int .i64 b.hi, .int .i64 b.lost, .slice (f 0).1 (f 0).2.1 (f 0).2.2, .slice (f 1).1 (f 1).2.1 (f 1).2.2, .slice (f 2).1 (f 2).2.1 (f 2).2.2, .slice (f 3).1 (f 3).2.1 (f 3).2.2, .slice (f 4).1 (f 4).2.1 (f 4).2.2, .slice (f 5).1 (f 5).2.1 (f 5).2.2, .slice (f 6).1 (f 6).2.1 (f 6).2.2, .slice (f 7).1 (f 7).2.1 (f 7).2.2, .slice (f 8).1 (f 8).2.1 (f 8).2.2, .slice A' XS.length c', .map (some Mb)]) h2 hz hlR hnR hbw) (fun w3 hC => ?_)
 obtain ⟨hCR, hb3, hkb, hs3⟩ := hC
 refine Ks ?_
 have g := hE.at 2 rfl
 have hK3 : w3.heap[D]? = some (.deferred (some [])) := (hkb D (by omega)).trans hK
 have hmk : ∀ d ∈ [D], w3.heap[d]? = some (.deferred (some [])) := fun d hd => by simp at hd; subst hd; exact hK3
 have hO3 := own_of_block hO (by omega) (fun g hg => hkb g (by have := ownBlock_le hO g hg; omega))
 obtain ⟨A3, c3, hv, hn3, hm3, ha3⟩ := own_form hO3
 rw [Value.slice.injEq] at hv
 obtain ⟨rfl, _, rfl⟩ := hv
 refine ret_M hE (by simp) hmk (v := .agg #[.slice A b.ear.alike.length cap, .string b.ear.mute, .int .i64 b.ear.slips, .slice L b.lines.length lcap, .int .i64 b.lo, .int .i64 b.hi, .int .i64 b.lost, .slice (f 0).1 (f 0).2.1 (f 0).2.2, .slice (f 1).1 (f 1).2.1 (f 1).2.2, .slice (f 2).1 (f 2).2.1 (f 2).2.2, .slice (f 3).1 (f 3).2.1 (f 3).2.2, .slice (f 4).1 (f 4).2.1 (f 4).2.2, .slice (f 5).1 (f 5).2.1 (f 5).2.2, .slice (f 6).1 (f 6).2.1 (f 6).2.2, .slice (f 7).1 (f 7).2.1 (f 7).2.2, .slice (f 8).1 (f 8).2.1 (f 8).2.2, .slice A' XS.length c', .map (some Mb)]) (fun W hW => ?_) ⟨⟨A', c', Mb, rfl, ?_, ?_, hn3, by simpa [maxLen] using hm3, fun g hg => by have := ownBlock_le hO g (by rw [ownB2]; exact hg); omega⟩, taken_below _ _ _ (by intro d hd; simp at hd; omega) (by have := hb3.size; omega) hb3⟩
 ·exact res_cell rfl (v := [.slice A b.ear.alike.length cap, .string b.ear.mute, .int .i64 b.ear.slips, .slice L b.lines.length lcap, .int .i64 b.lo, .int .i64 b.hi, .int .i64 b.lost, .slice (f 0).1 (f 0).2.1 (f 0).2.2, .slice (f 1).1 (f 1).2.1 (f 1).2.2, .slice (f 2).1 (f 2).2.1 (f 2).2.2, .slice (f 3).1 (f 3).2.1 (f 3).2.2, .slice (f 4).1 (f 4).2.1 (f 4).2.2, .slice (f 5).1 (f 5).2.1 (f 5).2.2, .slice (f 6).1 (f 6).2.1 (f 6).2.2, .slice (f 7).1 (f 7).2.1 (f 7).2.2, .slice (f 8).1 (f 8).2.1 (f 8).2.2, .slice A' XS.length c', .map (some Mb)]) (hE.at 2 rfl) (fun j u hu => (World.cell?_of_block (w := w3) (a := ⟨R, j, none⟩) (hW R (by simp; omega))).trans (hCR.2 j u hu)) Tryz.underlying75 rfl (by kernel_rfl)
 ·exact (arr_taken2 ha3 hmk).more (taken_below (B := 0) _ w3 w3 (fun _ _ => Nat.zero_le _) (Nat.zero_le _) (Below.refl _ _)).size
 ·refine hTl.of_block ((taken_block [D] w3 Mb (by simp; omega)).trans (hkb Mb (by omega)))
end
section
variable {A : Option Addr} {cap : Nat} {L : Option Addr} {lcap : Nat} {b : Bk} {f : Nat → Option Addr × Nat × Nat}
set_option maxRecDepth 100000 in
set_option maxHeartbeats 4000000 in
theorem counted_any {cs : List (List Nat)} {w : World} (hn : b.lines.length ≤ 9) (hl : b.lines.length ≤ lcap) (hcs : ∀ k, (cs.getD k []).length ≤ 9) (hco : ∀ k, ∀ o ∈ cs.getD k [], o < 9) (hu : CouldAt b (sl9 f 0) (sl9 f 1) (sl9 f 2) (sl9 f 3) (sl9 f 4) (sl9 f 5) (sl9 f 6) (sl9 f 7) (sl9 f 8) (fun _ => False) w cs) :
    Calls Tryz.prog 43 #[.agg (bksV A cap L lcap b (sl9 f 0) (sl9 f 1) (sl9 f 2) (sl9 f 3) (sl9 f 4) (sl9 f 5) (sl9 f 6) (sl9 f 7) (sl9 f 8)).toArray] w fun e w' => (∃ T c Mb, e = .returned (.agg (bksV A cap L lcap b (sl9 f 0) (sl9 f 1) (sl9 f 2) (sl9 f 3) (sl9 f 4) (sl9 f 5) (sl9 f 6) (sl9 f 7) (sl9 f 8) ++ [Value.slice T (fromP b.lines.length b.lost cs b.lines.length 0 []).length c, Value.map (some Mb)]).toArray) ∧ Arr w' w'.heap.size T (ints (peopleP b.lines.length (fromP b.lines.length b.lost cs b.lines.length 0 []))) ∧ Tal w' Mb ((fromP b.lines.length b.lost cs b.lines.length 0 []).length * 9) (cntP b.lines.length (fromP b.lines.length b.lost cs b.lines.length 0 [])) ∧ (fromP b.lines.length b.lost cs b.lines.length 0 []).length ≤ c ∧ c ≤ 9223372036854775807 ∧ ∀ g, T.map (·.block) = some g → w.heap.size ≤ g) ∧ Below w.heap.size w w' := by
 have HT := hid (truths_any A cap L lcap b (sl9 f 0) (sl9 f 1) (sl9 f 2) (sl9 f 3) (sl9 f 4) (sl9 f 5) (sl9 f 6) (sl9 f 7) (sl9 f 8))
 simp only [bksV, sl9] at HT ⊢
 refine enterM Tryz.func43 rfl Tryz.ntmps43 (by simp) (fun a hE => ?_); simp only [envOf, Nat.zero_add, Nat.reduceAdd] at hE
 refine Ks ?_
 refine Rs 2 fun Q' K hK => ?_
 refine M1 hE 0 fun K' J ρ q0 => ?_; go_simp
 refine Ln hE J fun _ Eb => ?_; clear J K' hE a q0
 refine Go.Proofs.YtbimkcjdodgojaaGreat.M0 fun K' J ρ => ?_; go_simp;
 refine Ln Eb J fun _ Ea => ?_; clear J K' Eb
 refine Ld [1, 2] Ea hK fun a hE => ?_; clear hK K Q' Ea
 obtain ⟨B1, hB1⟩ : ∃ B, B = w.heap.size := ⟨_, rfl⟩
 obtain ⟨R, hR⟩ : ∃ B, B = w.heap.size + 1 := ⟨_, rfl⟩
 rw [← hR, ← hB1] at hE
 refine world_cut (fun wt => Below w.heap.size w wt ∧ Cells wt B1 (bksV A cap L lcap b (sl9 f 0) (sl9 f 1) (sl9 f 2) (sl9 f 3) (sl9 f 4) (sl9 f 5) (sl9 f 6) (sl9 f 7) (sl9 f 8)) ∧ R < wt.heap.size ∧ ∃ zs : List Value, zs.length = 18 ∧ Row wt R zs) ?_ (fun w1 hC => ?_)
 ·rw [hB1, hR]
  obtain ⟨q1, q2, q3, q4⟩ := box_row w _ _ _ _
  exact ⟨q1, q2, q3, _, rfl, q4⟩
 obtain ⟨hb1, hCB1, hlR, zs, hz, hRR⟩ := hC
 have hnR : w.heap.size ≤ R := by omega
 have hB1R : B1 < R := by omega
 clear hB1 hR
 simp only [bksV, sl9] at hCB1
 have nB1 := hCB1.1; have cB10 := hCB1.2 0 _ rfl; have cB11 := hCB1.2 1 _ rfl; have cB12 := hCB1.2 2 _ rfl; have cB13 := hCB1.2 3 _ rfl; have cB14 := hCB1.2 4 _ rfl; have cB15 := hCB1.2 5 _ rfl; have cB16 := hCB1.2 6 _ rfl; have cB17 := hCB1.2 7 _ rfl; have cB18 := hCB1.2 8 _ rfl; have cB19 := hCB1.2 9 _ rfl; have cB110 := hCB1.2 10 _ rfl; have cB111 := hCB1.2 11 _ rfl; have cB112 := hCB1.2 12 _ rfl; have cB113 := hCB1.2 13 _ rfl; have cB114 := hCB1.2 14 _ rfl; have cB115 := hCB1.2 15 _ rfl
 refine Ks ?_
 refine Rs 5 fun Q' K hK => ?_
 refine M1 hE 1 fun K' J ρ q1 => ?_; go_simp
 refine Ln hE J fun _ Eb => ?_; clear J K' hE a q1
 refine Go.Proofs.YtbimkcjdodgojaaGreat.M0 fun K' J ρ => ?_; go_simp;
 refine Ln Eb J fun _ Ea => ?_; clear J K' Eb
 refine M2 Ea 6 7 fun K' J ρ q6 q7 => ?_; go_simp
 refine Ln Ea J fun _ Eb => ?_; clear J K' Ea q6 q7
 refine Go.Proofs.YtbimkcjdodgojaaGreat.M0 fun K' J ρ => ?_; go_simp;
 refine Ln Eb J fun _ Ea => ?_; clear J K' Eb
 refine M2 Ea 3 8 fun K' J ρ q3 q8 => ?_; go_simp; (try clear q3 q8)
 refine late_skip Ea J (fun _ Eb => ?_); clear J K'; clear Ea
 refine Ld [1, 2, 3] Eb hK fun a hE => ?_; clear hK K Q' Eb
 obtain ⟨Mb, hMb⟩ : ∃ B, B = w1.heap.size := ⟨_, rfl⟩
 obtain ⟨C, hC⟩ : ∃ B, B = w1.heap.size + 1 := ⟨_, rfl⟩
 rw [← hC] at hE
 refine world_cut (fun wt => Below w1.heap.size w1 wt ∧ (C < wt.heap.size ∧ Row wt C [.slice A b.ear.alike.length cap, .string b.ear.mute, .int .i64 b.ear.slips, .slice L b.lines.length lcap, .int .i64 b.lo, .int .i64 b.hi, .int .i64 b.lost, .slice (f 0).1 (f 0).2.1 (f 0).2.2, .slice (f 1).1 (f 1).2.1 (f 1).2.2, .slice (f 2).1 (f 2).2.1 (f 2).2.2, .slice (f 3).1 (f 3).2.1 (f 3).2.2, .slice (f 4).1 (f 4).2.1 (f 4).2.2, .slice (f 5).1 (f 5).2.1 (f 5).2.2, .slice (f 6).1 (f 6).2.1 (f 6).2.2, .slice (f 7).1 (f 7).2.1 (f 7).2.2, .slice (f 8).1 (f 8).2.1 (f 8).2.2, .slice none 0 0, .map (some Mb)]) ∧ Tal wt Mb 0 (fun _ _ => 0)) ?_ (fun w2 hC' => ?_)
 ·rw [hC, hMb]
  refine ⟨((Below.refl _ _).alloc (Nat.le_refl _) _).alloc (by simp) _, ⟨by simp, ?_⟩, (Tal.made w1).of_block ?_⟩
  ·have h := row_new (w1.alloc (.map #[] 0)) #[.slice A b.ear.alike.length cap, .string b.ear.mute, .int .i64 b.ear.slips, .slice L b.lines.length lcap, .int .i64 b.lo, .int .i64 b.hi, .int .i64 b.lost, .slice (f 0).1 (f 0).2.1 (f 0).2.2, .slice (f 1).1 (f 1).2.1 (f 1).2.2, .slice (f 2).1 (f 2).2.1 (f 2).2.2, .slice (f 3).1 (f 3).2.1 (f 3).2.2, .slice (f 4).1 (f 4).2.1 (f 4).2.2, .slice (f 5).1 (f 5).2.1 (f 5).2.2, .slice (f 6).1 (f 6).2.1 (f 6).2.2, .slice (f 7).1 (f 7).2.1 (f 7).2.2, .slice (f 8).1 (f 8).2.1 (f 8).2.2, .slice none 0 0, .map (some w1.heap.size)] 75
   rwa [World.size_alloc] at h
  ·exact Below.heap_alloc _ _ _ (by simp)
 as_aux_lemma =>
  obtain ⟨h12, ⟨hlC, hRC⟩, hT0⟩ := hC'
  have hnM : R < Mb ∧ Mb < C ∧ w.heap.size ≤ Mb := by omega
  clear hMb hC nB1 cB10 cB11 cB12 cB13 cB14 cB15 cB16 cB17 cB18 cB19 cB110 cB111 cB112 cB113 cB114 cB115
  have hb2 := hb1.trans (h12.mono hb1.size)
  have hCB2 := hCB1.below h12
  have hRR2 := hRR.below h12 hlR
  have hlR2 := Nat.lt_of_lt_of_le hlR h12.size
  clear hCB1 hRR h12 hlR hb1
  have hCB1 := hCB2
  have nB1 := hCB1.1; have cB10 := hCB1.2 0 _ rfl; have cB11 := hCB1.2 1 _ rfl; have cB12 := hCB1.2 2 _ rfl; have cB13 := hCB1.2 3 _ rfl; have cB14 := hCB1.2 4 _ rfl; have cB15 := hCB1.2 5 _ rfl; have cB16 := hCB1.2 6 _ rfl; have cB17 := hCB1.2 7 _ rfl; have cB18 := hCB1.2 8 _ rfl; have cB19 := hCB1.2 9 _ rfl; have cB110 := hCB1.2 10 _ rfl; have cB111 := hCB1.2 11 _ rfl; have cB112 := hCB1.2 12 _ rfl; have cB113 := hCB1.2 13 _ rfl; have cB114 := hCB1.2 14 _ rfl; have cB115 := hCB1.2 15 _ rfl
  refine Ks ?_
  refine Rs 2 fun Q' K hK => ?_
  refine M1 hE 1 fun K' J ρ q1 => ?_; go_simp
  refine Ln hE J fun _ Eb => ?_; clear J K' hE a q1
  refine M1 Eb 9 fun K' J ρ q9 => ?_; go_simp; (try go_bits); (try clear q9)
  go_at_call 74; refine (HT.out _).mono ?_; rintro e w3 ⟨B, rfl, hnB, hCB, h3⟩
  (try clear r9)
  refine Ln Eb J fun _ Ea => ?_; clear J K' Eb
  refine Ld [1, 2, 3, 10] Ea hK fun a hE => ?_; clear hK K Q' Ea
  have hb3 := hb2.trans (h3.mono hb2.size)
  have hRR3 := hRR2.below h3 hlR2
  have hlR3 := Nat.lt_of_lt_of_le hlR2 h3.size
  have hRC3 := hRC.below h3 hlC
  have hlC3 := Nat.lt_of_lt_of_le hlC h3.size
  have hT3 := hT0.of_block (h3.block Mb hT0.lt)
  have c33 := (hCB2.below h3).2 3 _ rfl
  have hB13 : B1 < w3.heap.size := by omega
  clear hRR2 hRC hT0 hCB2 hCB1 nB1 cB10 cB11 cB12 cB13 cB14 cB15 cB16 cB17 cB18 cB19 cB110 cB111 cB112 cB113 cB114 cB115
  obtain ⟨XS, hXS⟩ : ∃ XS, fromP b.lines.length b.lost cs b.lines.length 0 [] = XS := ⟨_, rfl⟩
  have hlen := fromP_len b.lines.length b.lost cs hcs b.lines.length 0 []
  have htm := fromP_mem (n := b.lines.length) (lost := b.lost) hco b.lines.length 0 [] (by omega) (fun _ h => by cases h)
  have htl := fromP_tlen b.lines.length b.lost cs b.lines.length 0 []
  have hseq := truths_seq (M0 := fun k => k = C ∨ k = Mb ∨ (none : Option Addr).map (·.block) = some k) hn hl (fun k => Nat.le_trans (hcs k) (by omega)) hCB (by simp; omega) (hu.of_below hb3 (by intro k hk h; simp at hk; omega))
  rw [hXS] at hseq hlen htl htm ⊢
  have h10 : XS.length ≤ 1000000000 := Nat.le_trans hlen (Nat.le_trans (Nat.pow_le_pow_right (by omega) hn) (by decide))
  have HTL := hid htl
  have HTM := hid htm
  clear hlen htl htm
  as_aux_lemma =>
   refine Ks ?_
   refine wp_rangeR (gf := 94) (lb := #[.pointer (some ⟨B, 0, none⟩)]) (hE.eval 10 rfl) (enters_of Tryz.func94 (by kernel_rfl) rfl) hseq (Below.refl _ _) (by rintro x vs V ⟨T, rfl, _⟩; rfl)
    (CntI A cap L lcap b f C Mb R B1 w zs) (fun _ _ _ => False) ?hI (fun _ _ _ _ h _ _ => h) ?hIM ?h0
    (fun x a' V => ∃ T, Fits 42 [(4, .slice T x.length x.length), (1, .pointer (some ⟨B1, 0, none⟩)), (3, .pointer (some ⟨C, 0, none⟩))] a' ∧ Arr V V.heap.size T (pairsV x) ∧ typedT (C + 1) V T x) ?hAx ?assign ?body ?done (fun _ _ _ _ _ _ _ h _ => h.elim)
   case hI =>
    rintro s M X Y ⟨⟨⟨A', c', rfl, h2, h4⟩, h5, ⟨h6, h7, h8, h9⟩, h10'⟩, h11, h12⟩ hb hm'
    refine ⟨⟨⟨A', c', rfl, row_of_block h2 (hm' C (.inl rfl)), own_of_block h4 hb.size (fun g hg => hm' g (.inr (.inr (by rwa [ownB2] at hg))))⟩, h5.of_block (hm' Mb (.inr (.inl rfl))), ⟨Nat.lt_of_lt_of_le h6 hb.size, h7, h8, Nat.lt_of_lt_of_le h9 hb.size⟩, h10'.trans (hb.mono hb3.size)⟩, row_of_block h11 (hb.block R hlR3), (hb.cell (p := ⟨B1, 3, none⟩) hB13).trans h12⟩
   case hIM =>
    rintro s M X ⟨⟨⟨A', c', rfl, h2, h4⟩, h5, ⟨h6, h7, h8, h9⟩, h10'⟩, h11, h12⟩ k hk
    rcases hk with rfl | rfl | hk
    ·exact h6
    ·exact h5.lt
    ·exact own_lt2 h4 k (by rwa [ownB2])
   case h0 => exact ⟨⟨⟨none, 0, rfl, hRC3, own_nil _ _ _ _⟩, by rw [cntP_nil]; exact hT3, ⟨hlC3, by omega, by omega, hlR3⟩, hb3⟩, hRR3, c33⟩
   case hAx =>
    rintro x a' V l o o' _ ho ⟨T, h1, h2, h3⟩
    exact ⟨T, h1, by rw [World.putObj_size]; exact h2.put_loop ho, h3.put_loop ho⟩
   case assign =>
    rintro l pre x M V vs K _ hs' ⟨T, rfl, hT, hTy⟩ hK
    have hE2 := fits_round hE 11 (.slice T x.length x.length) (by decide)
    clear hE
    obtain ⟨a', ha⟩ : ∃ a', a' = (⟨((#[11] : Array Nat).zip #[.slice T x.length x.length]).foldl (fun t (p, v) => t.setIfInBounds p v) a.tmps, []⟩ : Act) := ⟨_, rfl⟩
    rw [← ha] at hE2 ⊢
    clear ha a
    revert hE2; revert a'; intro a hE
    refine region_straight_in (n := 1) rfl (by kernel_rfl) (fun Q' K hK => ?_)
    refine M1 hE 11 fun K' J ρ q11 => ?_; go_simp
    refine Ln hE J fun _ Eb => ?_; clear J K' hE a q11
    refine Ld [4, 1, 3] Eb hK fun a hE => ?_; clear hK K Q' Eb
    refine KsI ?_
    exact hK _ _ (Below.refl _ _) ⟨T, hE, hT, hTy.less (by omega)⟩
   case body =>
    clear hE a
    rintro l pre x M a V hs' hI' ⟨T, hE, hT, hTy⟩ hp
    have hpl := hp.length_le
    simp only [List.length_append, List.length_cons, List.length_nil] at hpl
    exact counted_body hn hB1R hnR (by omega) l pre x M a V hI' T hE hT hTy (by omega) (by have := HTL.out x (hp.subset (by simp)); simpa using this) hnM.1 (fun l => by have := matchP_lt (HTM.out x (hp.subset (by simp))) l; omega)
   case done =>
    rintro D M V hD' hMD hI' hK
    replace hE := FitsD.mark (ds := []) (d := D) hE
    refine KsE ?_
    exact counted_end hz hnR hnM.1 XS M V hI' D ⟨by have := hb3.size; omega, by omega⟩ hK _ (hE.keep [2, 3])
end
end Go.Proofs.YtbimkcjdodgojaaGreat
