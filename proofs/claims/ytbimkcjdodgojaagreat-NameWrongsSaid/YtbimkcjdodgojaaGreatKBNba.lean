/- Name: the line of which it is best to ask. -/
import Derived.Test.YtbimkcjdodgojaaGreatKBNat
import Derived.Maps.Range
namespace Go.Proofs.YtbimkcjdodgojaaGreat
set_option linter.unusedSimpArgs false
set_option linter.unusedVariables false
open Go Go.RowKit
open Go Go.RowKit Go.WideMaps Go.Maps Go.ChangeMaps
attribute [local go_sem high] cell_set_wr
attribute [local go_sem low] cell_wr frozen_wr
attribute [local go_sem] wr_set wr_drew wr_drewN wr_alloc wr_new Rho.c Rho.n Rho.g
set_option maxRecDepth 100000 in
theorem k_inv {v : Value} {kl : Lit} (h : keyOf Tryz.prog 115 v = some kl) : ∃ l o, v = mval l o ∧ WfI l ∧ WfI o := by
 obtain ⟨xs, L, rfl, hl, _⟩ := keyOf_top k_wide h
 obtain ⟨m, hs⟩ : ∃ m, Tryz.prog.types.size = m + 1 := k_size
 have hc := k_cells
 have h1 := k_cell
 have inv : ∀ (n : Nat) (cs : List Value) (L : List Lit), Tryz.prog.keyLits n 3 cs = some L → ∃ x, cs = [.int .i64 x] ∧ WfI x := fun n cs L h => by
  cases n with
  | zero => simp [Program.keyLits] at h
  | succ n =>
   unfold Program.keyLits at h
   simp only [Tryz.underlying3] at h
   split at h
   all_goals first | (cases ‹_ = _›; done) | skip
   all_goals simp at h
   all_goals simp_all [WfI]
 rw [hs] at hl
 unfold Program.keyLits at hl
 simp only [Tryz.underlying115, hc] at hl
 split at hl
 ·rename_i hlen
  simp only [Option.map_eq_some_iff] at hl
  obtain ⟨qs, ha, _⟩ := hl
  simp only [List.mapM_cons, List.mapM_nil, h1] at ha
  cases ha0 : Tryz.prog.keyLits (m + 1) 3 (List.take 1 (List.drop 0 xs.toList)) with
  | none => rw [ha0] at ha; simp at ha
  | some a0 =>
   cases ha1 : Tryz.prog.keyLits (m + 1) 3 (List.take 1 (List.drop 1 xs.toList)) with
   | none => rw [ha0, ha1] at ha; simp at ha
   | some a1 =>
    obtain ⟨x, hx, wx⟩ := inv _ _ _ ha0
    obtain ⟨y, hy, wy⟩ := inv _ _ _ ha1
    obtain ⟨l⟩ := xs
    have h2 := hlen.1
    match l, h2 with
    | [u, v], _ =>
     simp only [List.drop_zero, List.take_succ_cons, List.take_zero, List.cons.injEq, and_true, List.drop_succ_cons] at hx hy
     exact ⟨x, y, by rw [hx, hy], wx, wy⟩
 ·cases hl
/-- a range over block b, with iterator r, that has handed out all entries but c; done: of which nothing is left to come -/
def TalR (w : World) (b r n : Nat) (cnt : Int → Int → Int) (c : Nat) (done : Int → Int → Prop) : Prop :=
 ∃ (D : DataW Unit) (left : Lit → Bool), w.ranges Tryz.prog 115 (plainElem Tryz.prog 3) b r n D left c ∧
  (∀ l o kl, keyOf Tryz.prog 115 (mval l o) = some kl → D.atKey kl (.lit (.int .i64 0)) = .lit (.int .i64 (cnt l o))) ∧
  ∀ l o kl, keyOf Tryz.prog 115 (mval l o) = some kl → left kl = false → done l o
theorem TalR.kept {w w' : World} {b r n c : Nat} {cnt : Int → Int → Int} {done : Int → Int → Prop} {row : Option Nat} (h : TalR w b r n cnt c done) (hg : w.grownBy w' row) (hb : some b ≠ row) (hr : some r ≠ row) : TalR w' b r n cnt c done := by
 obtain ⟨D, left, h1, h2⟩ := h
 exact ⟨D, left, h1.kept hg hb hr, h2⟩
theorem TalR.imp {w : World} {b r n c : Nat} {cnt : Int → Int → Int} {done done' : Int → Int → Prop} (h : TalR w b r n cnt c done) (hd : ∀ l o, done l o → done' l o) : TalR w b r n cnt c done' := by
 obtain ⟨D, left, h1, h2, h3⟩ := h
 exact ⟨D, left, h1, h2, fun l o kl hk hl => hd _ _ (h3 l o kl hk hl)⟩
theorem TalR.lt {w : World} {b r n c : Nat} {cnt : Int → Int → Int} {done : Int → Int → Prop} (h : TalR w b r n cnt c done) : b < w.heap.size ∧ r < w.heap.size ∧ r ≠ b := by
 obtain ⟨D, left, h1, _⟩ := h
 exact ⟨h1.owns.lt, h1.lt, h1.ne⟩
theorem Tal.range {w : World} {b n : Nat} {cnt : Int → Int → Int} (h : Tal w b n cnt) : ∃ w' c, (Instr.range 73 (.map (some b))).run Tryz.prog w = .ok (.pointer (some ⟨w.heap.size, 0, none⟩)) w' ∧
    TalR w' b w.heap.size n cnt c (fun l o => cnt l o = 0) ∧ w.grownBy w' none ∧ w'.heap.size = w.heap.size + 1 := by
 obtain ⟨D, hown, _, hD⟩ := h
 obtain ⟨w', hrun, h1, h2, h3⟩ := hown.range k_law Tryz.underlying73
 refine ⟨w', _, hrun, ⟨D, _, h1, hD, fun l o kl hk hl => ?_⟩, h2, h3⟩
 have h4 := hD l o kl hk
 rw [atKey_of_not_has hl] at h4
 simpa using h4.symm
theorem TalR.next {w : World} {b r n c : Nat} {cnt : Int → Int → Int} {done : Int → Int → Prop} (h : TalR w b r n cnt c done) (ty : TypeId) :
    (c = 0 ∧ (∀ l o, WfI l → WfI o → done l o) ∧ (Instr.next (.pointer (some ⟨r, 0, none⟩)) false ty).run Tryz.prog w = .ok (.tuple #[.bool false]) w) ∨
    ∃ l o w' c', WfI l ∧ WfI o ∧ WfI (cnt l o) ∧ (Instr.next (.pointer (some ⟨r, 0, none⟩)) false ty).run Tryz.prog w = .ok (.tuple #[.bool true, mval l o, .int .i64 (cnt l o)]) w' ∧
     TalR w' b r n cnt c' (fun l' o' => done l' o' ∨ (l' = l ∧ o' = o)) ∧ c' < c ∧ w.grownBy w' (some r) ∧ w'.heap.size = w.heap.size ∧
     (Instr.entry (.pointer (some ⟨r, 0, none⟩))).run Tryz.prog w' = .ok (.tuple #[mval l o, .int .i64 (cnt l o)]) w' := by
 obtain ⟨D, left, h1, hD, hdone⟩ := h
 rcases h1.next k_law ty with ⟨h0, hl, hrun⟩ | ⟨key, v, kl, y, w', c', hkey, hlk, hv, hat, hrun, hrg, hlt, hgr, hsz, hen⟩
 ·refine .inl ⟨h0, fun l o wl wo => ?_, hrun⟩
  obtain ⟨kl, hk⟩ := k_lits l o wl wo
  exact hdone l o kl hk (hl kl)
 ·obtain ⟨l, o, rfl, wl, wo⟩ := k_inv hkey
  obtain ⟨x, rfl, rfl, wx⟩ := plainElem_int_inv Tryz.underlying3 hv
  have h4 := hD l o kl hkey
  rw [hat] at h4
  obtain rfl : x = cnt l o := by simpa using h4
  refine .inr ⟨l, o, w', c', wl, wo, wx, hrun, ⟨D, _, hrg, hD, fun l' o' kl' hk' hl' => ?_⟩, hlt, hgr, hsz, hen⟩
  by_cases e : kl' = kl
  ·subst e
   have := k_law.inj hk' hkey
   exact .inr (by simpa [mval] using this)
  ·refine .inl (hdone l' o' kl' hk' ?_)
   simp only [Bool.and_eq_false_iff, Bool.not_eq_false'] at hl'
   rcases hl' with hl' | hl'
   ·exact hl'
   ·exact absurd (WideAt.sameKey_eq hl') e
/-- the greatest count of a line's matches -/
def WorstOf (cnt : Int → Int → Int) (x r : Int) : Prop := 0 ≤ r ∧ (r = 0 ∨ ∃ o, WfI o ∧ r = cnt x o) ∧ ∀ o, WfI o → cnt x o ≤ r
theorem WorstOf.uniq {cnt : Int → Int → Int} {x r s : Int} (h : WorstOf cnt x r) (g : WorstOf cnt x s) : r = s := by
 obtain ⟨h1, h2, h3⟩ := h
 obtain ⟨g1, g2, g3⟩ := g
 have a : r ≤ s := by
  rcases h2 with rfl | ⟨o, ho, rfl⟩
  ·exact g1
  ·exact g3 o ho
 have b : s ≤ r := by
  rcases g2 with rfl | ⟨o, ho, rfl⟩
  ·exact h1
  ·exact h3 o ho
 omega
theorem grown_below {w w' : World} {B : Nat} {row : Option Nat} (h : w.grownBy w' row) (hr : ∀ g, row = some g → B ≤ g) (hB : B ≤ w.heap.size) : Below B w w' :=
 ⟨h.os, h.tape, h.output, h.size, fun k hk => h.block k (by omega) (fun e => by have := hr k e.symm; omega)⟩
section
variable (A : Option Addr) (cap : Nat) (L : Option Addr) (lcap : Nat) (b : Bk) (u0 u1 u2 u3 u4 u5 u6 u7 u8 : Value) (T : Option Addr) (n c Mb : Nat)
set_option maxRecDepth 100000 in
set_option maxHeartbeats 1000000 in
theorem left_any (cnt : Int → Int → Int) (k : Nat) (x : Int) (w : World) (hT : Tal w Mb k cnt) (hx : WfI x) : Calls Tryz.prog 84 #[.agg (talV A cap L lcap b u0 u1 u2 u3 u4 u5 u6 u7 u8 T n c Mb).toArray, .int .i64 x] w fun e w' => (∃ r : Int, e = .returned (.int .i64 r) ∧ WorstOf cnt x r) ∧ Below w.heap.size w w' := by
 simp only [talV]
 refine enterE Tryz.func84 rfl Tryz.ntmps84 (by simp) (fun a hE => ?_); simp only [envOf, Nat.zero_add, Nat.reduceAdd] at hE
 refine Ks ?_
 refine Rs 2 fun Q' K hK => ?_
 refine M1 hE 0 fun K' J ρ q0 => ?_; go_simp
 refine Ln hE J fun _ Eb => ?_; clear J K' hE a q0
 refine M0 fun K' J ρ => ?_; go_simp;
 refine Ln Eb J fun _ Ea => ?_; clear J K' Eb
 refine Ld [1, 2] Ea hK fun a hE => ?_; clear hK K Q' Ea
 obtain ⟨B, hBe⟩ : ∃ B, B = w.heap.size := ⟨_, rfl⟩; rw [← hBe] at hE; refine world_cut (fun wt => Below w.heap.size w wt ∧ Cells wt B [.slice A b.ear.alike.length cap, .string b.ear.mute, .int .i64 b.ear.slips, .slice L b.lines.length lcap, .int .i64 b.lo, .int .i64 b.hi, .int .i64 b.lost, u0, u1, u2, u3, u4, u5, u6, u7, u8, .slice T n c, .map (some Mb)]) ⟨(Below.refl _ _).alloc (Nat.le_refl _) _, by rw [hBe]; exact cells_new _ _ _⟩ (fun w1 hCut => ?_); obtain ⟨hbw1, hCB⟩ := hCut; clear hBe
 have hT1 := hT.of_block (hbw1.block Mb hT.lt)
 have hMw := hT.lt
 have nB := hCB.1; have cB17 := hCB.2 17 _ rfl
 refine Ks ?_
 refine Rs 1 fun Q' K hK => ?_
 refine M0 fun K' J ρ => ?_; go_simp;
 refine Ln hE J fun _ Eb => ?_; clear J K' hE a
 refine Ld [1, 2, 5] Eb hK fun a hE => ?_; clear hK K Q' Eb
 obtain ⟨w2, c0, hrun, hR, hg2, hs2⟩ := hT1.range
 obtain ⟨RI, hRI⟩ : ∃ r, r = w1.heap.size := ⟨_, rfl⟩
 rw [← hRI] at hrun hR
 have hRI0 : w1.heap.size ≤ RI := Nat.le_of_eq hRI.symm
 clear hRI
 refine Ks ?_
 refine Rs 3 fun Q' K hK => ?_
 refine M1 hE 2 fun K' J ρ q2 => ?_; go_simp
 refine Ln hE J fun _ Eb => ?_; clear J K' hE a q2
 refine M1 Eb 8 fun K' J ρ q8 => ?_; go_simp
 refine Ln Eb J fun _ Ea => ?_; clear J K' Eb q8
 refine M1 Ea 9 fun K' J ρ q9 => ?_; go_simp
 refine Ln Ea J fun _ Eb => ?_; clear J K' Ea q9
 refine Ld [1, 5, 10] Eb hK fun a hE => ?_; clear hK K Q' Eb
 clear hrun nB cB17
 have hb2 : Below w1.heap.size w1 w2 := grown_below hg2 (fun g e => by cases e) (Nat.le_refl _)
 refine Ks ?_
 refine loop_st (fun (cc : Nat) a w' => ∃ wst : Int, Fits 25 [(1, .int .i64 x), (5, .int .i64 wst), (10, .pointer (some ⟨RI, 0, none⟩))] a ∧ Below w1.heap.size w1 w' ∧ TalR w' Mb RI k cnt cc (fun l o => l = x → cnt l o ≤ wst) ∧ 0 ≤ wst ∧ (wst = 0 ∨ ∃ o, WfI o ∧ wst = cnt x o)) (fun cc => cc) c0 ?_ (fun cc a w' hI => ?_)
 ·exact ⟨0, by simpa using hE, hb2, hR.imp (fun l o h _ => by rw [h]; exact Int.le_refl 0), Int.le_refl 0, .inl rfl⟩
 clear hE hR hb2 hs2 hg2
 obtain ⟨wst, hE, hW, hR, h0, hw0⟩ := hI
 obtain ⟨wi, hwi⟩ : ∃ x, x = w' := ⟨_, rfl⟩
 subst hwi
 have hRlt := hR.lt
 rcases hR.next 0 with ⟨hc0, hd, hrun⟩ | ⟨l, o, wn, c', wl, wo, wq, hrun, hRn, hlt, hg, hs, hen⟩
 ·refine Ks ?_
  refine Rs 2 fun Q' K hK => ?_
  refine M1 hE 10 fun K' J ρ q10 => ?_; go_simp
  refine Ln hE J fun _ Eb => ?_; clear J K' hE a q10
  refine M1 Eb 11 fun K' J ρ q11 => ?_; go_simp
  refine Ln Eb J fun _ Ea => ?_; clear J K' Eb q11
  refine Ld [5, 12] Ea hK fun a hE => ?_; clear hK K Q' Ea
  clear hrun
  refine Ks ?_
  refine cond_no hE (t := 12) rfl ?_
  refine Ks ?_
  refine Rs 2 fun Q' K hK => ?_
  refine M1 hE 5 fun K' J ρ q5 => ?_; go_simp
  refine Ln hE J fun _ Eb => ?_; clear J K' hE a q5
  refine M1 Eb 24 fun K' J ρ q24 => ?_; go_simp
  refine Ln Eb J fun _ Ea => ?_; clear J K' Eb q24
  refine Ld [4] Ea hK fun a hE => ?_; clear hK K Q' Ea
  refine Ks ?_
  exact ret_one hE rfl rfl ⟨⟨wst, rfl, h0, hw0, fun o ho => hd x o hx ho rfl⟩, hbw1.trans (hW.mono hbw1.size)⟩
 ·have hWn : Below w1.heap.size w1 wn := hW.trans (grown_below hg (fun g e => by cases e; exact hRI0) hW.size)
  obtain ⟨q, hq⟩ : ∃ q, cnt l o = q := ⟨_, rfl⟩
  rw [hq] at hrun hen wq
  have HQ := hid hq
  clear hs
  clear hq
  refine Ks ?_
  refine Rs 2 fun Q' K hK => ?_
  refine M1 hE 10 fun K' J ρ q10 => ?_; go_simp
  refine Ln hE J fun _ Eb => ?_; clear J K' hE a q10
  refine M1 Eb 11 fun K' J ρ q11 => ?_; go_simp
  refine Ln Eb J fun _ Ea => ?_; clear J K' Eb q11
  refine Ld [1, 5, 10, 12] Ea hK fun a hE => ?_; clear hK K Q' Ea
  clear hrun
  refine Ks ?_
  refine cond_yes hE (t := 12) rfl ?_
  refine Ks ?_
  refine Rs 6 fun Q' K hK => ?_
  refine M1 hE 10 fun K' J ρ q10 => ?_; go_simp
  refine Ln hE J fun _ Eb => ?_; clear J K' hE a q10
  refine M1 Eb 13 fun K' J ρ q13 => ?_; go_simp
  refine Ln Eb J fun _ Ea => ?_; clear J K' Eb q13
  refine M1 Ea 13 fun K' J ρ q13 => ?_; go_simp
  refine Ln Ea J fun _ Eb => ?_; clear J K' Ea q13
  refine M0 fun K' J ρ => ?_; go_simp;
  refine Ln Eb J fun _ Ea => ?_; clear J K' Eb
  refine M2 Ea 6 14 fun K' J ρ q6 q14 => ?_; go_simp; (try clear q6 q14)
  refine late_skip Ea J (fun _ Eb => ?_); clear J K'; clear Ea
  refine M1 Eb 15 fun K' J ρ q15 => ?_; go_simp
  refine Ln Eb J fun _ Ea => ?_; clear J K' Eb q15
  refine Ld [1, 5, 6, 7, 10] Ea hK fun a hE => ?_; clear hK K Q' Ea
  obtain ⟨G, hGe⟩ : ∃ B, B = wn.heap.size := ⟨_, rfl⟩; rw [← hGe] at hE; refine world_cut (fun wt => Below wn.heap.size wn wt ∧ Cells wt G [.int .i64 l, .int .i64 o]) ⟨(Below.refl _ _).alloc (Nat.le_refl _) _, by rw [hGe]; exact cells_new _ _ _⟩ (fun wm hCut => ?_); obtain ⟨hbwm, hCG⟩ := hCut; clear hGe
  clear hen
  obtain ⟨nG, cG0⟩ := hCG.c1
  have hWm := hWn.trans (hbwm.mono hWn.size)
  have hRm : TalR wm Mb RI k cnt c' (fun l' o' => (l' = x → cnt l' o' ≤ wst) ∨ (l' = l ∧ o' = o)) := hRn.kept (row := none) ⟨hbwm.os, hbwm.tape, hbwm.output, hbwm.size, fun k hk _ => hbwm.block k hk⟩ (by simp) (by simp)
  refine Ks ?_
  refine Rs 4 fun Q' K hK => ?_
  refine M1 hE 6 fun K' J ρ q6 => ?_; go_simp
  refine Ln hE J fun _ Eb => ?_; clear J K' hE a q6
  refine M1 Eb 16 fun K' J ρ q16 => ?_; go_simp
  refine Ln Eb J fun _ Ea => ?_; clear J K' Eb q16
  refine M1 Ea 1 fun K' J ρ q1 => ?_; go_simp
  refine Ln Ea J fun _ Eb => ?_; clear J K' Ea q1
  refine M2 Eb 17 18 fun K' J ρ q17 q18 => ?_; go_simp; (try go_bits)
  refine Ln Eb J fun _ Ea => ?_; clear J K' Eb q17 q18
  refine Ld [1, 5, 7, 10, 19] Ea hK fun a hE => ?_; clear hK K Q' Ea
  clear nG cG0 hCG
  refine Ks ?_
  refine cond_part hE (t := 19) rfl (fun h => ?_) (fun h => ?_)
  ·have hlx : l = x := by simpa using h
   clear h
   refine Ks ?_
   refine Rs 5 fun Q' K hK => ?_
   refine M1 hE 5 fun K' J ρ q5 => ?_; go_simp
   refine Ln hE J fun _ Eb => ?_; clear J K' hE a q5
   refine M1 Eb 7 fun K' J ρ q7 => ?_; go_simp
   refine Ln Eb J fun _ Ea => ?_; clear J K' Eb q7
   refine M1 Ea 21 fun K' J ρ q21 => ?_; go_simp
   refine Ln Ea J fun _ Eb => ?_; clear J K' Ea q21
   refine M2 Eb 20 22 fun K' J ρ q20 q22 => ?_; go_simp; (try go_bits); (try clear q20 q22)
   go_at_call 57; refine (greatest_any wst _ _ [q] _ (arr_new wm _ _ |>.more (by simp)) (by simp)).mono ?_; rintro e w4 ⟨rfl, rfl⟩
   (try clear r20 r22)
   refine Ln Eb J fun _ Ea => ?_; clear J K' Eb
   refine M1 Ea 23 fun K' J ρ q23 => ?_; go_simp
   refine Ln Ea J fun _ Eb => ?_; clear J K' Ea q23
   refine Ld [1, 5, 10] Eb hK fun a hE => ?_; clear hK K Q' Eb
   refine world_cut (fun wt => Below wm.heap.size wm wt) ((Below.refl _ _).alloc (Nat.le_refl _) _) (fun w5 hb5 => ?_)
   refine Ks ?_
   refine ⟨c', ⟨max wst q, by simpa [maxL] using hE, hWm.trans (hb5.mono hWm.size), (hRm.kept (row := none) ⟨hb5.os, hb5.tape, hb5.output, hb5.size, fun k hk _ => hb5.block k hk⟩ (by simp) (by simp)).imp (fun l' o' h' e => ?_), by omega, ?_⟩, hlt⟩
   ·rcases h' with h' | ⟨rfl, rfl⟩
    ·have := h' e; omega
    ·rw [HQ.out]; omega
   ·rcases (by omega : max wst q = wst ∨ max wst q = q) with h | h
    ·rw [h]; exact hw0
    ·rw [h]; exact .inr ⟨o, wo, by rw [← HQ.out, hlx]⟩
  ·have hlx : ¬ l = x := by simpa using h
   clear h
   refine Ks ?_
   refine ⟨c', ⟨wst, hE.keep [1, 5, 10], hWm, hRm.imp (fun l' o' h' e => ?_), h0, hw0⟩, hlt⟩
   rcases h' with h' | ⟨rfl, rfl⟩
   ·exact h' e
   ·exact absurd e hlx
end
/-- the first of some lines of which the least is left at the worst -/
def askP (f : Nat → Int) : Nat → Nat
 | 0 => 0
 | n + 1 => if f n < f (askP f n) then n else askP f n
theorem askP_le (f : Nat → Int) (n : Nat) : askP f n ≤ n := by
 induction n with
 | zero => exact Nat.le_refl _
 | succ n ih => unfold askP; split <;> omega
section
variable (A : Option Addr) (cap : Nat) (L : Option Addr) (lcap : Nat) (b : Bk) (u0 u1 u2 u3 u4 u5 u6 u7 u8 : Value) (T : Option Addr) (n c Mb : Nat)
set_option maxRecDepth 100000 in
set_option maxHeartbeats 1000000 in
theorem ask_any (cnt : Int → Int → Int) (f : Nat → Int) (hf : ∀ i : Nat, i ≤ 9 → WorstOf cnt i (f i)) (k : Nat) (w : World) (hT : Tal w Mb k cnt) (hn : b.lines.length ≤ 9) : Calls Tryz.prog 63 #[.agg (talV A cap L lcap b u0 u1 u2 u3 u4 u5 u6 u7 u8 T n c Mb).toArray] w fun e w' => e = .returned (.int .i64 (askP f b.lines.length)) ∧ Below w.heap.size w w' := by
 have HL : Hid (∀ (i : Nat) (W : World), i ≤ 9 → Tal W Mb k cnt → Calls Tryz.prog 84 #[.agg (talV A cap L lcap b u0 u1 u2 u3 u4 u5 u6 u7 u8 T n c Mb).toArray, .int .i64 i] W fun e w' => e = .returned (.int .i64 (f i)) ∧ Below W.heap.size W w') := hid fun i W hi hW =>
  (left_any A cap L lcap b u0 u1 u2 u3 u4 u5 u6 u7 u8 T n c Mb cnt k i W hW (wf_int _ (by omega))).mono (by
   rintro e w' ⟨⟨r, rfl, hr⟩, h2⟩
   exact ⟨ret_int (hr.uniq (hf i hi)), h2⟩)
 simp only [talV] at HL ⊢
 refine enterE Tryz.func63 rfl Tryz.ntmps63 (by simp) (fun a hE => ?_); simp only [envOf, Nat.zero_add, Nat.reduceAdd] at hE
 refine Ks ?_
 refine Rs 2 fun Q' K hK => ?_
 refine M1 hE 0 fun K' J ρ q0 => ?_; go_simp
 refine Ln hE J fun _ Eb => ?_; clear J K' hE a q0
 refine M0 fun K' J ρ => ?_; go_simp;
 refine Ln Eb J fun _ Ea => ?_; clear J K' Eb
 refine Ld [1] Ea hK fun a hE => ?_; clear hK K Q' Ea
 obtain ⟨B, hBe⟩ : ∃ B, B = w.heap.size := ⟨_, rfl⟩; rw [← hBe] at hE; refine world_cut (fun wt => Below w.heap.size w wt ∧ Cells wt B [.slice A b.ear.alike.length cap, .string b.ear.mute, .int .i64 b.ear.slips, .slice L b.lines.length lcap, .int .i64 b.lo, .int .i64 b.hi, .int .i64 b.lost, u0, u1, u2, u3, u4, u5, u6, u7, u8, .slice T n c, .map (some Mb)]) ⟨(Below.refl _ _).alloc (Nat.le_refl _) _, by rw [hBe]; exact cells_new _ _ _⟩ (fun w1 hCut => ?_); obtain ⟨hbw1, hCB⟩ := hCut; clear hBe
 have hMw := hT.lt
 have hT1 := hT.of_block (hbw1.block Mb hMw)
 have nB := hCB.1; have cB3 := hCB.2 3 _ rfl
 refine Ks ?_
 refine Rs 1 fun Q' K hK => ?_
 refine M0 fun K' J ρ => ?_; go_simp;
 refine Ln hE J fun _ Eb => ?_; clear J K' hE a
 refine Ld [1, 3] Eb hK fun a hE => ?_; clear hK K Q' Eb
 refine Ks ?_
 refine Rs 6 fun Q' K hK => ?_
 refine M1 hE 1 fun K' J ρ q1 => ?_; go_simp
 refine Ln hE J fun _ Eb => ?_; clear J K' hE a q1
 refine M1 Eb 5 fun K' J ρ q5 => ?_; go_simp
 refine Ln Eb J fun _ Ea => ?_; clear J K' Eb q5
 refine M1 Ea 6 fun K' J ρ q6 => ?_; go_simp
 refine Ln Ea J fun _ Eb => ?_; clear J K' Ea q6
 refine M1 Eb 7 fun K' J ρ q7 => ?_; go_simp
 refine Ln Eb J fun _ Ea => ?_; clear J K' Eb q7
 refine M1 Ea 8 fun K' J ρ q8 => ?_; go_simp; (try go_bits)
 refine Ln Ea J fun _ Eb => ?_; clear J K' Ea q8
 refine M0 fun K' J ρ => ?_; go_simp;
 refine Ln Eb J fun _ Ea => ?_; clear J K' Eb
 refine Ld [1, 3, 9, 10] Ea hK fun a hE => ?_; clear hK K Q' Ea
 clear nB cB3
 refine Ks ?_
 refine loop_st (fun (i : Nat) a w' => i ≤ b.lines.length ∧ Fits 23 [(1, .pointer (some ⟨B, 0, none⟩)), (3, .int .i64 (askP f i)), (9, .int .i64 b.lines.length), (10, .int .i64 i)] a ∧ Below w1.heap.size w1 w') (fun i => b.lines.length - i) 0 ?_ (fun i a w' hI => ?_)
 ·exact ⟨Nat.zero_le _, by simpa [askP] using hE, Below.refl _ _⟩
 clear hE
 obtain ⟨hi, hE, hW⟩ := hI
 obtain ⟨wi, hwi⟩ : ∃ x, x = w' := ⟨_, rfl⟩
 subst hwi
 refine Ks ?_
 refine Rs 1 fun Q' K hK => ?_
 refine M2 hE 10 9 fun K' J ρ q10 q9 => ?_; go_simp; (try go_bits)
 refine Ln hE J fun _ Eb => ?_; clear J K' hE a q10 q9
 refine Ld [1, 3, 9, 10, 11] Eb hK fun a hE => ?_; clear hK K Q' Eb
 refine Ks ?_
 refine cond_part hE (t := 11) rfl (fun h => ?_) (fun h => ?_)
 ·have hlt : i < b.lines.length := by have := of_decide_eq_true h; omega
  clear h
  refine Ks ?_
  refine Rs 2 fun Q' K hK => ?_
  refine M1 hE 10 fun K' J ρ q10 => ?_; go_simp
  refine Ln hE J fun _ Eb => ?_; clear J K' hE a q10
  refine M1 Eb 12 fun K' J ρ q12 => ?_; go_simp
  refine Ln Eb J fun _ Ea => ?_; clear J K' Eb q12
  refine Ld [1, 3, 4, 9, 10] Ea hK fun a hE => ?_; clear hK K Q' Ea
  have hCi := hCB.below hW
  have hTi := hT1.of_block (hW.block Mb (Nat.lt_of_lt_of_le hMw hbw1.size))
  have hMi : Mb < wi.heap.size := Nat.lt_of_lt_of_le hMw (Nat.le_trans hbw1.size hW.size)
  have ha9 := askP_le f i
  have hsu : askP f (i + 1) = if f i < f (askP f i) then i else askP f i := rfl
  obtain ⟨m, hm⟩ : ∃ m, askP f i = m := ⟨_, rfl⟩
  rw [hm] at hE hsu ha9
  have H1 := hid fun W => HL.out i W (by omega)
  have H2 := hid fun W => HL.out m W (by omega)
  obtain ⟨x, hx⟩ : ∃ x, f i = x := ⟨_, rfl⟩
  obtain ⟨y, hy⟩ : ∃ y, f m = y := ⟨_, rfl⟩
  rw [hx] at H1
  rw [hy] at H2
  rw [hx, hy] at hsu
  have HSU := hid hsu
  clear hsu hm hx hy
  refine Ks ?_
  refine Rd [] (fun wt => Below wi.heap.size wi wt) (fun w1 w2 => Below w1.heap.size w1 w2) [(0, some 13), (1, some 14), (2, some 15), (3, some 16), (4, some 17), (5, some 18), (6, some 19)] [13, 14, 15, 16, 17, 18, 19] #[true, true, true, true, true, true, true] [1, 3, 4, 9, 10] hE ((Below.refl _ _).drew) fun Q' K hK => ?_
  refine SeqOps.val ?_ (Sp fun ax wx hS hT' hd K' J => ?_) ?_; rotate_left 1
  ·have r1 := hS.at 1 (by decide) (hE.at 1 rfl); obtain ⟨_, _, _, _, _, _⟩ := bT hT'
   refine wp_load_mid 75 (.tmp 1) rfl B 0 (eval_of r1) [.slice A b.ear.alike.length cap, .string b.ear.mute, .int .i64 b.ear.slips, .slice L b.lines.length lcap, .int .i64 b.lo, .int .i64 b.hi, .int .i64 b.lost, u0, u1, u2, u3, u4, u5, u6, u7, u8, .slice T n c, .map (some Mb)] _ (fun j u hu => by rw [Nat.zero_add]; exact (hCi.below hT').2 j u hu) Tryz.underlying75 rfl (by kernel_rfl) ?_
   refine J.out _ _ _ rfl ?_ hT' (Below.refl _ _); rfl
  refine SeqOps.val ?_ (Sp fun ax wx hS hT' hd K' J => ?_) ?_; rotate_left 1
  ·have r4 := hS.at 4 (by decide) (hE.at 4 rfl); obtain ⟨_, _, _, _, _, _⟩ := bT hT'
   refine o1 r4 fun ρ q4 => ?_; go_simp;
   exact Jo J hT'
  refine SeqOps.val ?_ (Sp fun ax wx hS hT' hd K' J => ?_) ?_; rotate_left 1
  ·have r13 := Tv hd 1 0 13; have r14 := Tv hd 0 1 14; obtain ⟨_, _, _, _, _, _⟩ := bT hT'
   refine o2 r13 r14 fun ρ q13 q14 => ?_; go_simp; (try go_bits);
   go_at_call 84; refine (H1.out _ (hTi.of_block (hT'.block Mb hMi))).mono ?_; rintro e g1 ⟨rfl, k1⟩
   refine J.out _ _ _ rfl ?_ (hT'.trans (k1.mono hT'.size)) k1; rfl
  refine SeqOps.val ?_ (Sp fun ax wx hS hT' hd K' J => ?_) ?_; rotate_left 1
  ·have r1 := hS.at 1 (by decide) (hE.at 1 rfl); obtain ⟨_, _, _, _, _, _⟩ := bT hT'
   refine wp_load_mid 75 (.tmp 1) rfl B 0 (eval_of r1) [.slice A b.ear.alike.length cap, .string b.ear.mute, .int .i64 b.ear.slips, .slice L b.lines.length lcap, .int .i64 b.lo, .int .i64 b.hi, .int .i64 b.lost, u0, u1, u2, u3, u4, u5, u6, u7, u8, .slice T n c, .map (some Mb)] _ (fun j u hu => by rw [Nat.zero_add]; exact (hCi.below hT').2 j u hu) Tryz.underlying75 rfl (by kernel_rfl) ?_
   refine J.out _ _ _ rfl ?_ hT' (Below.refl _ _); rfl
  refine SeqOps.val ?_ (Sp fun ax wx hS hT' hd K' J => ?_) ?_; rotate_left 1
  ·have r3 := hS.at 3 (by decide) (hE.at 3 rfl); obtain ⟨_, _, _, _, _, _⟩ := bT hT'
   refine o1 r3 fun ρ q3 => ?_; go_simp;
   exact Jo J hT'
  refine SeqOps.val ?_ (Sp fun ax wx hS hT' hd K' J => ?_) ?_; rotate_left 1
  ·have r16 := Tv hd 1 3 16; have r17 := Tv hd 0 4 17; obtain ⟨_, _, _, _, _, _⟩ := bT hT'
   refine o2 r16 r17 fun ρ q16 q17 => ?_; go_simp; (try go_bits);
   go_at_call 84; refine (H2.out _ (hTi.of_block (hT'.block Mb hMi))).mono ?_; rintro e g1 ⟨rfl, k1⟩
   refine J.out _ _ _ rfl ?_ (hT'.trans (k1.mono hT'.size)) k1; rfl
  refine SeqOps.val ?_ (Sp fun ax wx hS hT' hd K' J => ?_) ?_; rotate_left 1
  ·have r15 := Tv hd 3 2 15; have r18 := Tv hd 0 5 18; obtain ⟨_, _, _, _, _, _⟩ := bT hT'
   refine o2 r15 r18 fun ρ q15 q18 => ?_; go_simp; (try go_bits);
   exact Jo J hT'
  refine SeqOps.nil ?_
  intro w4 hBl; (repeat refine Ek ?_)
  refine fun ax hEx => ?_
  simp only [lk, pick, Nat.reduceEqDiff, ↓reduceIte] at hEx
  refine Ld [1, 3, 4, 9, 10, 19] hEx hK fun a hE => ?_; clear hK K Q' hEx
  have hW4 := hW.trans (hBl.mono hW.size)
  clear hCi hTi
  refine Ks ?_
  refine cond_part hE (t := 19) rfl (fun h => ?_) (fun h => ?_)
  ·have hxy : x < y := by have := of_decide_eq_true h; omega
   refine Ks ?_
   refine Rs 2 fun Q' K hK => ?_
   refine M1 hE 4 fun K' J ρ q4 => ?_; go_simp
   refine Ln hE J fun _ Eb => ?_; clear J K' hE a q4
   refine M1 Eb 20 fun K' J ρ q20 => ?_; go_simp
   refine Ln Eb J fun _ Ea => ?_; clear J K' Eb q20
   refine Ld [1, 3, 9, 10] Ea hK fun a hE => ?_; clear hK K Q' Ea
   refine Ks ?_
   refine Rs 2 fun Q' K hK => ?_
   refine M1 hE 10 fun K' J ρ q10 => ?_; go_simp; (try go_bits); (try simp (disch := omega) only [IntWalk.i64_in])
   refine Ln hE J fun _ Eb => ?_; clear J K' hE a q10
   refine M1 Eb 21 fun K' J ρ q21 => ?_; go_simp
   refine Ln Eb J fun _ Ea => ?_; clear J K' Eb q21
   refine Ld [1, 3, 9, 10] Ea hK fun a hE => ?_; clear hK K Q' Ea
   refine Ks ?_
   refine ⟨i + 1, ⟨hlt, ?_, hW4⟩, by omega⟩
   rw [HSU.out, if_pos hxy]; simpa using hE
  ·have hxy : ¬ x < y := by have := of_decide_eq_false h; omega
   refine Ks ?_
   refine Rs 2 fun Q' K hK => ?_
   refine M1 hE 10 fun K' J ρ q10 => ?_; go_simp; (try go_bits); (try simp (disch := omega) only [IntWalk.i64_in])
   refine Ln hE J fun _ Eb => ?_; clear J K' hE a q10
   refine M1 Eb 21 fun K' J ρ q21 => ?_; go_simp
   refine Ln Eb J fun _ Ea => ?_; clear J K' Eb q21
   refine Ld [1, 3, 9, 10] Ea hK fun a hE => ?_; clear hK K Q' Ea
   refine Ks ?_
   refine ⟨i + 1, ⟨hlt, ?_, hW4⟩, by omega⟩
   rw [HSU.out, if_neg hxy]; simpa using hE
 ·have hii : i = b.lines.length := by have := of_decide_eq_false h; omega
  subst hii
  refine Ks ?_
  refine Rs 2 fun Q' K hK => ?_
  refine M1 hE 3 fun K' J ρ q3 => ?_; go_simp
  refine Ln hE J fun _ Eb => ?_; clear J K' hE a q3
  refine M1 Eb 22 fun K' J ρ q22 => ?_; go_simp
  refine Ln Eb J fun _ Ea => ?_; clear J K' Eb q22
  refine Ld [2] Ea hK fun a hE => ?_; clear hK K Q' Ea
  refine Ks ?_
  exact ret_one hE rfl rfl ⟨rfl, hbw1.trans (hW.mono hbw1.size)⟩
end
end Go.Proofs.YtbimkcjdodgojaaGreat
