/- Name: the closed law, the ears that are no ears. -/
import Derived.Test.YtbimkcjdodgojaaNbn
namespace Go.Proofs.Ytbimkcjdodgojaa
set_option linter.unusedSimpArgs false
set_option linter.unusedVariables false
open Go Go.RowKit
attribute [local go_sem high] cell_set_wr
attribute [local go_sem low] cell_wr frozen_wr
attribute [local go_sem] wr_set wr_drew wr_drewN wr_alloc wr_new

set_option maxRecDepth 100000
theorem boxed_row (w : World) (Z : Array Value) (t : TypeId) (vs : List Value) (hz : Z.size = vs.length) : Below w.heap.size w ((w.alloc (.cells Z t)).setCells w.heap.size 0 vs) ∧ w.heap.size < ((w.alloc (.cells Z t)).setCells w.heap.size 0 vs).heap.size ∧ Row ((w.alloc (.cells Z t)).setCells w.heap.size 0 vs) w.heap.size vs := by
 have h := cells_stored (w := w) (V := w.alloc (.cells Z t)) (row_new w Z t) (by simpa using hz) (by simp) (Nat.le_refl _) ((Below.refl _ _).alloc (Nat.le_refl _) _)
 have hr := row_stored vs 0 _ _ (row_new w Z t) (by simp [hz])
 have e : Z.toList.take 0 ++ vs ++ Z.toList.drop (0 + vs.length) = vs := by rw [List.drop_of_length_le (by simp [hz])]; simp
 rw [e] at hr
 exact ⟨h.2.1, h.1.1, hr⟩
theorem arr_next {A : Option Addr} {xs : List Value} {W : World} (h : Arr W W.heap.size A xs) (cs : Array Value) (t : TypeId) : Arr (W.alloc (.cells cs t)) (W.alloc (.cells cs t)).heap.size A xs :=
 (h.below ((Below.refl _ _).alloc (Nat.le_refl _) _)).more (by simp)
theorem arr_here (W : World) (cs : Array Value) (t : TypeId) (n : Nat) (hn : W.heap.size = n) : Arr (W.alloc (.cells cs t)) (W.alloc (.cells cs t)).heap.size (some ⟨n, 0, none⟩) cs.toList := by
 subst hn
 exact (arr_new W cs t).more (by simp)
theorem seven_new (V : World) (c0 c1 c2 c3 c4 c5 c6 : Array Value) (t0 t1 t2 t3 t4 t5 t6 : TypeId) (W : World) (hW : W = (((((((V.alloc (.cells c0 t0)).alloc (.cells c1 t1)).alloc (.cells c2 t2)).alloc (.cells c3 t3)).alloc (.cells c4 t4)).alloc (.cells c5 t5)).alloc (.cells c6 t6))) : Below V.heap.size V W ∧ Arr W W.heap.size (some ⟨V.heap.size, 0, none⟩) c0.toList ∧ Arr W W.heap.size (some ⟨V.heap.size + 1, 0, none⟩) c1.toList ∧ Arr W W.heap.size (some ⟨V.heap.size + 1 + 1, 0, none⟩) c2.toList ∧ Arr W W.heap.size (some ⟨V.heap.size + 1 + 1 + 1, 0, none⟩) c3.toList ∧ Arr W W.heap.size (some ⟨V.heap.size + 1 + 1 + 1 + 1, 0, none⟩) c4.toList ∧ Arr W W.heap.size (some ⟨V.heap.size + 1 + 1 + 1 + 1 + 1, 0, none⟩) c5.toList ∧ Arr W W.heap.size (some ⟨V.heap.size + 1 + 1 + 1 + 1 + 1 + 1, 0, none⟩) c6.toList := by
 subst hW
 refine ⟨?_, arr_next (arr_next (arr_next (arr_next (arr_next (arr_next (arr_here _ _ _ _ (by simp)) _ _) _ _) _ _) _ _) _ _) _ _, arr_next (arr_next (arr_next (arr_next (arr_next (arr_here _ _ _ _ (by simp)) _ _) _ _) _ _) _ _) _ _, arr_next (arr_next (arr_next (arr_next (arr_here _ _ _ _ (by simp)) _ _) _ _) _ _) _ _, arr_next (arr_next (arr_next (arr_here _ _ _ _ (by simp)) _ _) _ _) _ _, arr_next (arr_next (arr_here _ _ _ _ (by simp)) _ _) _ _, arr_next (arr_here _ _ _ _ (by simp)) _ _, arr_here _ _ _ _ (by simp)⟩
 ·exact (((((((Below.refl _ _).alloc (by simp) _).alloc (by simp) _).alloc (by simp; omega) _).alloc (by simp; omega) _).alloc (by simp; omega) _).alloc (by simp; omega) _).alloc (by simp; omega) _
/-- the ears that are none -/
def badE : List Ear := [⟨[⟨#[97]⟩], ⟨#[]⟩, 0⟩, ⟨[⟨#[97, 98, 99, 100, 101]⟩], ⟨#[]⟩, 0⟩, ⟨[⟨#[97, 97]⟩], ⟨#[]⟩, 0⟩, ⟨[⟨#[97, 66]⟩], ⟨#[]⟩, 0⟩, ⟨[⟨#[97, 98]⟩, ⟨#[98, 99]⟩], ⟨#[]⟩, 0⟩,
 ⟨[⟨#[97, 98]⟩, ⟨#[99, 100]⟩, ⟨#[101, 102]⟩, ⟨#[103, 104]⟩, ⟨#[105, 106]⟩], ⟨#[]⟩, 0⟩, ⟨[], ⟨#[97, 98, 99, 100]⟩, 0⟩, ⟨[], ⟨#[104, 104]⟩, 0⟩, ⟨[], ⟨#[49]⟩, 0⟩, ⟨[], ⟨#[]⟩, 4⟩, ⟨[], ⟨#[]⟩, -1⟩]
theorem badE_no : badE.all (fun e => !e.ok) = true := by decide +kernel
def earA (N i : Nat) : Option Addr := if i < 6 then some ⟨N + i, 0, none⟩ else none
def earC (N i : Nat) (e : Ear) : List Value := [.slice (earA N i) e.alike.length e.alike.length, .string e.mute, .int .i64 e.slips]
def earsC (N : Nat) : List Value := (List.range 11).flatMap fun i => earC N i (badE.getD i ⟨[], ⟨#[]⟩, 0⟩)
/-- one of them, as it lies there -/
theorem ear_row (N i : Nat) (h : i < 11) : ∃ e : Ear, e.ok = false ∧ badE.getD i ⟨[], ⟨#[]⟩, 0⟩ = e ∧ e.alike.length ≤ 5 ∧ e.mute.size ≤ 9 ∧ (earsC N)[i * 3]? = some (.slice (earA N i) e.alike.length e.alike.length) ∧ (earsC N)[i * 3 + 1]? = some (.string e.mute) ∧ (earsC N)[i * 3 + 2]? = some (.int .i64 e.slips) := by
 have h11 : i = 0 ∨ i = 1 ∨ i = 2 ∨ i = 3 ∨ i = 4 ∨ i = 5 ∨ i = 6 ∨ i = 7 ∨ i = 8 ∨ i = 9 ∨ i = 10 := by omega
 rcases h11 with rfl | rfl | rfl | rfl | rfl | rfl | rfl | rfl | rfl | rfl | rfl <;> exact ⟨_, by decide +kernel, rfl, by decide, by decide, rfl, rfl, rfl⟩
/-- the ears in memory -/
def EarsAt (N P o : Nat) (w : World) : Prop := Arr w w.heap.size (some ⟨P, o, none⟩) (earsC N) ∧ ∀ i, i < 11 → Arr w w.heap.size (earA N i) (txts (badE.getD i ⟨[], ⟨#[]⟩, 0⟩).alike)
theorem EarsAt.below {N P o : Nat} {w w' : World} (h : EarsAt N P o w) (hb : Below w.heap.size w w') : EarsAt N P o w' := ⟨(h.1.below hb).more hb.size, fun i hi => ((h.2 i hi).below hb).more hb.size⟩
set_option maxHeartbeats 4000000 in
theorem known_ears (hN : ∀ (w V : World), Below w.heap.size w V → ∀ (e : Env) (a : Act), Fits 562 e a → (cr 3 (bodyOf Try.f10)).wp Try.prog (bodyPost Try.prog Try.f10 fun e w' => e = .returned (.bool true) ∧ Below w.heap.size w w') a V) (w V : World) (hb : Below w.heap.size w V) (e : Env) (a : Act) (hE : Fits 562 e a) : (cr 1 (bodyOf Try.f10)).wp Try.prog (bodyPost Try.prog Try.f10 fun e w' => e = .returned (.bool true) ∧ Below w.heap.size w w') a V := by
 have HN := hid hN
 clear hN
 refine wp_seq ?_; (repeat with_reducible first|refine ctl ?_|refine miss ?_)
 refine Rs 19 fun Q' K hK => ?_
 refine Lp fun K' J => ?_
 refine op0 fun ρ qc qf qg => ?_; go_simp; (try clear qc qf qg)
 refine Ln hE J fun a_1 E1 => ?_; clear J K' hE a
 refine Lp fun K' J => op1 (E1.at 58 rfl) fun ρ qc qf qg q58 => ?_; go_simp; (try clear qc qf qg q58)
 refine Ln E1 J fun a_2 E2 => ?_; clear J K' E1
 refine Lp fun K' J => ?_
 refine op0 fun ρ qc qf qg => ?_; go_simp; (try clear qc qf qg)
 refine Ln E2 J fun a_3 E3 => ?_; clear J K' E2
 refine Lp fun K' J => op1 (E3.at 60 rfl) fun ρ qc qf qg q60 => ?_; go_simp; (try clear qc qf qg q60)
 refine Ln E3 J fun a_4 E4 => ?_; clear J K' E3
 refine Lp fun K' J => ?_
 refine op0 fun ρ qc qf qg => ?_; go_simp; (try clear qc qf qg)
 refine Ln E4 J fun a_5 E5 => ?_; clear J K' E4
 refine Lp fun K' J => op1 (E5.at 62 rfl) fun ρ qc qf qg q62 => ?_; go_simp; (try clear qc qf qg q62)
 refine Ln E5 J fun a_6 E6 => ?_; clear J K' E5
 refine Lp fun K' J => ?_
 refine op0 fun ρ qc qf qg => ?_; go_simp; (try clear qc qf qg)
 refine Ln E6 J fun a_7 E7 => ?_; clear J K' E6
 refine Lp fun K' J => op1 (E7.at 64 rfl) fun ρ qc qf qg q64 => ?_; go_simp; (try clear qc qf qg q64)
 refine Ln E7 J fun a_8 E8 => ?_; clear J K' E7
 refine Lp fun K' J => ?_
 refine op0 fun ρ qc qf qg => ?_; go_simp; (try clear qc qf qg)
 refine Ln E8 J fun a_9 E9 => ?_; clear J K' E8
 refine Lp fun K' J => op1 (E9.at 66 rfl) fun ρ qc qf qg q66 => ?_; go_simp; (try clear qc qf qg q66)
 refine Ln E9 J fun a_10 E10 => ?_; clear J K' E9
 refine Lp fun K' J => ?_
 refine op0 fun ρ qc qf qg => ?_; go_simp; (try clear qc qf qg)
 refine Ln E10 J fun a_11 E11 => ?_; clear J K' E10
 refine Lp fun K' J => op1 (E11.at 68 rfl) fun ρ qc qf qg q68 => ?_; go_simp; (try clear qc qf qg q68)
 refine Ln E11 J fun a_12 E12 => ?_; clear J K' E11
 refine Lp fun K' J => ?_
 refine op0 fun ρ qc qf qg => ?_; go_simp; (try clear qc qf qg)
 refine Ln E12 J fun a_13 E13 => ?_; clear J K' E12
 refine Lp fun K' J => ?_
 refine op0 fun ρ qc qf qg => ?_; go_simp; (try clear qc qf qg)
 refine Ln E13 J fun a_14 E14 => ?_; clear J K' E13
 refine Lp fun K' J => ?_
 refine op0 fun ρ qc qf qg => ?_; go_simp; (try clear qc qf qg)
 refine Ln E14 J fun a_15 E15 => ?_; clear J K' E14
 refine Lp fun K' J => ?_
 refine op0 fun ρ qc qf qg => ?_; go_simp; (try clear qc qf qg)
 refine Ln E15 J fun a_16 E16 => ?_; clear J K' E15
 refine Lp fun K' J => ?_
 refine op0 fun ρ qc qf qg => ?_; go_simp; (try clear qc qf qg)
 refine Ln E16 J fun a_17 E17 => ?_; clear J K' E16
 refine Lp fun K' J => ?_
 have r59 := E17.at 59 rfl; have r61 := E17.at 61 rfl; have r63 := E17.at 63 rfl; have r65 := E17.at 65 rfl; have r67 := E17.at 67 rfl; have r69 := E17.at 69 rfl; have r70 := E17.at 70 rfl; have r71 := E17.at 71 rfl; have r72 := E17.at 72 rfl; have r73 := E17.at 73 rfl; have r74 := E17.at 74 rfl
 refine op_run (fun ρ hρ qc qf qg => ?_); have q59 := rho hρ r59; have q61 := rho hρ r61; have q63 := rho hρ r63; have q65 := rho hρ r65; have q67 := rho hρ r67; have q69 := rho hρ r69; have q70 := rho hρ r70; have q71 := rho hρ r71; have q72 := rho hρ r72; have q73 := rho hρ r73; have q74 := rho hρ r74; clear hρ; go_simp; (try clear qc qf qg r59 q59 r61 q61 r63 q63 r65 q65 r67 q67 r69 q69 r70 q70 r71 q71 r72 q72 r73 q73 r74 q74)
 (try clear r59 r61 r63 r65 r67 r69 r70 r71 r72 r73 r74)
 refine Ln E17 J fun a_18 E18 => ?_; clear J K' E17
 refine Lp fun K' J => op1 (E18.at 75 rfl) fun ρ qc qf qg q75 => ?_; go_simp; (try clear qc qf qg q75)
 refine Ln E18 J fun a_19 E19 => ?_; clear J K' E18
 refine late_done [1] E19 hK (fun a hE => ?_); clear hK K Q' E19; simp only [lk, pick, Nat.reduceEqDiff, ↓reduceIte] at hE
 obtain ⟨N, hNe⟩ : ∃ N, N = V.heap.size := ⟨_, rfl⟩
 obtain ⟨P, hP⟩ : ∃ P, P = V.heap.size + 1 + 1 + 1 + 1 + 1 + 1 := ⟨_, rfl⟩
 (try simp only [World.size_alloc] at hE)
 rw [← hP] at hE
 refine world_cut (fun wt => Below V.heap.size V wt ∧ EarsAt N P 0 wt) ?_ (fun w1 hC => ?_)
 ·obtain ⟨q0, q1, q2, q3, q4, q5, q6, q7⟩ := seven_new V _ _ _ _ _ _ _ _ _ _ _ _ _ _ _ rfl
  refine ⟨q0, ?_, fun i hi => ?_⟩
  ·rw [hP, hNe]; exact q7
  ·have h11 : i = 0 ∨ i = 1 ∨ i = 2 ∨ i = 3 ∨ i = 4 ∨ i = 5 ∨ 6 ≤ i := by omega
   rw [hNe]
   rcases h11 with rfl | rfl | rfl | rfl | rfl | rfl | h6
   ·exact q1
   ·exact q2
   ·exact q3
   ·exact q4
   ·exact q5
   ·exact q6
   ·have h' : i = 6 ∨ i = 7 ∨ i = 8 ∨ i = 9 ∨ i = 10 := by omega
    rcases h' with rfl | rfl | rfl | rfl | rfl <;> exact fun hx => absurd rfl hx
 obtain ⟨h1, hA1⟩ := hC
 obtain ⟨o, ho⟩ : ∃ o, o = 0 := ⟨_, rfl⟩
 rw [← ho] at hA1
 replace hE := hE.turn 1 (v' := .slice (some ⟨P, o, none⟩) 11 11) rfl (by rw [ho])
 have hb1 := hb.trans (h1.mono hb.size)
 clear hP ho h1 hNe
 (repeat with_reducible first|refine ctl ?_|refine miss ?_)
 refine Rs 1 fun Q' K hK => ?_
 refine Lp fun K' J => ?_
 refine op0 fun ρ qc qf qg => ?_; go_simp; (try clear qc qf qg)
 refine Ln hE J fun a_1 E1 => ?_; clear J K' hE a
 refine late_done [1, 2] E1 hK (fun a hE => ?_); clear hK K Q' E1; simp only [lk, pick, Nat.reduceEqDiff, ↓reduceIte] at hE
 (repeat with_reducible first|refine ctl ?_|refine miss ?_)
 refine loop_st (fun (i : Nat) a w' => i ≤ 11 ∧ Fits 562 [(1, .slice (some ⟨P, o, none⟩) 11 11), (2, .int .i64 i)] a ∧ Below w1.heap.size w1 w') (fun i => 11 - i) 0 ⟨Nat.zero_le _, by simpa using hE, Below.refl _ _⟩ (fun i a w' hI => ?_)
 clear hE
 obtain ⟨hi, hE, hW⟩ := hI
 obtain ⟨wr, hwr⟩ : ∃ x, x = w' := ⟨_, rfl⟩
 subst hwr
 (repeat with_reducible first|refine ctl ?_|refine miss ?_)
 refine Rs 4 fun Q' K hK => ?_
 refine Lp fun K' J => op1 (hE.at 2 rfl) fun ρ qc qf qg q2 => ?_; go_simp; (try clear qc qf qg q2)
 refine Ln hE J fun a_1 E1 => ?_; clear J K' hE a
 refine Lp fun K' J => op1 (E1.at 1 rfl) fun ρ qc qf qg q1 => ?_; go_simp; (try clear qc qf qg q1)
 refine Ln E1 J fun a_2 E2 => ?_; clear J K' E1
 refine Lp fun K' J => op1 (E2.at 77 rfl) fun ρ qc qf qg q77 => ?_; go_simp; (try go_bits); (try clear qc qf qg q77)
 refine Ln E2 J fun a_3 E3 => ?_; clear J K' E2
 refine Lp fun K' J => ?_
 have r76 := E3.at 76 rfl; have r78 := E3.at 78 rfl
 refine op2 r76 r78 fun ρ qc qf qg q76 q78 => ?_; go_simp; (try go_bits); (try clear qc qf qg r76 q76 r78 q78)
 (try clear r76 r78)
 refine Ln E3 J fun a_4 E4 => ?_; clear J K' E3
 refine late_done [1, 2, 79] E4 hK (fun a hE => ?_); clear hK K Q' E4; simp only [lk, pick, Nat.reduceEqDiff, ↓reduceIte] at hE
 (repeat with_reducible first|refine ctl ?_|refine miss ?_)
 refine cond_part hE (t := 79) rfl (fun h => ?_) (fun h => ?_)
 ·have hlt : i < 11 := by have := of_decide_eq_true h; omega
  clear h
  have hltI : (i : Int) < 11 := by omega
  obtain ⟨er, hok, her, hal, hmu, q0, q1, q2⟩ := ear_row N i hlt
  have hAr := hA1.below hW
  have hTx := hAr.2 i hlt
  rw [her] at hTx
  obtain ⟨b0, o0, hPo, hb0, hcl⟩ := hAr.1 (by simp [earsC, earC, List.range_succ])
  have c0 := hcl _ _ q0
  have c1 := hcl _ _ q1
  have c2 := hcl _ _ q2
  have e0 : b0 = P ∧ o0 = o := by cases hPo; exact ⟨rfl, rfl⟩
  obtain ⟨rfl, rfl⟩ := e0
  rw [← Nat.add_assoc] at c1 c2
  obtain ⟨al, mu, sl⟩ := er
  simp only at hal hmu q0 c0 c1 c2 hTx
  obtain ⟨EA, hEA⟩ : ∃ A, earA N i = A := ⟨_, rfl⟩
  rw [hEA] at c0 hTx
  have HNe : Hid (∀ W, Arr W W.heap.size EA (txts al) → Calls Try.prog 11 #[.agg #[.slice EA al.length al.length, .string mu, .int .i64 sl], .string ⟨#[]⟩, .string ⟨#[]⟩] W fun e w' => e = .returned (.tuple #[.int .i64 0, .int .i64 20]) ∧ Below W.heap.size W w') := hid fun W hW => by
   have h := pNear_any EA al.length al mu sl ⟨#[]⟩ ⟨#[]⟩ W hW (Nat.le_refl _) (by omega) (by omega) (by decide) (by decide)
   have hv : pNearR ⟨al, mu, sl⟩ ⟨#[]⟩ ⟨#[]⟩ = (0, 20) := by unfold pNearR; rw [hok]; rfl
   rw [hv] at h
   exact h
  have HCe : Hid (∀ W, Arr W W.heap.size EA (txts al) → Calls Try.prog 13 #[.agg #[.slice EA al.length al.length, .string mu, .int .i64 sl]] W fun e w' => e = .returned (.int .i64 20) ∧ Below W.heap.size W w') := hid fun W hW => by
   have h := pCheckEar_any EA al.length al mu sl W hW (Nat.le_refl _) (by omega) (by omega)
   have hv : earE ⟨al, mu, sl⟩ = 20 := by unfold earE; rw [hok]; rfl
   rw [hv] at h
   exact h
  have HCk : Hid (∀ W L, Arr W W.heap.size EA (txts al) → Arr W W.heap.size L (nlines (chBk 1).lines) → Calls Try.prog 44 #[.agg (bkV EA al.length L 5 { chBk 1 with ear := ⟨al, mu, sl⟩ }).toArray] W fun e w' => e = .returned (.int .i64 20) ∧ Below W.heap.size W w') := hid fun W L hW hL => by
   have h := pCheck_any EA al.length L 5 { chBk 1 with ear := ⟨al, mu, sl⟩ } W ⟨hW, hL⟩ ⟨Nat.le_refl _, (by omega : al.length ≤ _), (ch_small 1).2.2.1, (ch_small 1).2.2.2.1, (by omega : mu.size ≤ _), (ch_small 1).2.2.2.2.2⟩
   have hv : bkE { chBk 1 with ear := ⟨al, mu, sl⟩ } = 20 := by unfold bkE Bk.ok; rw [show ({ chBk 1 with ear := ⟨al, mu, sl⟩ } : Bk).ear.ok = false from hok]; rfl
   rw [hv] at h
   exact h
  clear hok her hal hmu q0 q1 q2 hcl hPo hEA
  (repeat with_reducible first|refine ctl ?_|refine miss ?_)
  refine Rs 10 fun Q' K hK => ?_
  refine Lp fun K' J => op1 (hE.at 1 rfl) fun ρ qc qf qg q1 => ?_; go_simp; (try clear qc qf qg q1)
  refine Ln hE J fun a_1 E1 => ?_; clear J K' hE a
  refine Lp fun K' J => op1 (E1.at 2 rfl) fun ρ qc qf qg q2 => ?_; go_simp; (try clear qc qf qg q2)
  refine Ln E1 J fun a_2 E2 => ?_; clear J K' E1
  refine Lp fun K' J => ?_
  have r83 := E2.at 83 rfl; have r84 := E2.at 84 rfl
  refine op2 r83 r84 fun ρ qc qf qg q83 q84 => ?_; go_simp; (try go_bits); (try clear qc qf qg r83 q83 r84 q84)
  (try clear r83 r84)
  refine Ln E2 J fun a_3 E3 => ?_; clear J K' E2
  refine Lp fun K' J => op1 (E3.at 85 rfl) fun ρ qc qf qg q85 => ?_; go_simp; (try clear qc qf qg q85)
  refine Ln E3 J fun a_4 E4 => ?_; clear J K' E3
  refine Lp fun K' J => op1 (E4.at 86 rfl) fun ρ qc qf qg q86 => ?_; go_simp; (try go_bits); (try clear qc qf qg q86)
  go_at_call 11; refine (HNe.out _ hTx).mono ?_; rintro e w2 ⟨rfl, h2⟩
  (try clear r86)
  refine Ln E4 J fun a_5 E5 => ?_; clear J K' E4
  refine Lp fun K' J => op1 (E5.at 87 rfl) fun ρ qc qf qg q87 => ?_; go_simp; (try clear qc qf qg q87)
  refine Ln E5 J fun a_6 E6 => ?_; clear J K' E5
  refine Lp fun K' J => op1 (E6.at 82 rfl) fun ρ qc qf qg q82 => ?_; go_simp; (try clear qc qf qg q82)
  refine Ln E6 J fun a_7 E7 => ?_; clear J K' E6
  refine Lp fun K' J => op1 (E7.at 82 rfl) fun ρ qc qf qg q82 => ?_; go_simp; (try clear qc qf qg q82)
  refine Ln E7 J fun a_8 E8 => ?_; clear J K' E7
  refine Lp fun K' J => op1 (E8.at 88 rfl) fun ρ qc qf qg q88 => ?_; go_simp; (try clear qc qf qg q88)
  refine Ln E8 J fun a_9 E9 => ?_; clear J K' E8
  refine Lp fun K' J => op1 (E9.at 89 rfl) fun ρ qc qf qg q89 => ?_; go_simp; (try clear qc qf qg q89)
  refine Ln E9 J fun a_10 E10 => ?_; clear J K' E9
  refine late_done [1, 2, 4] E10 hK (fun a hE => ?_); clear hK K Q' E10; simp only [lk, pick, Nat.reduceEqDiff, ↓reduceIte] at hE
  have hb02 : b0 < w2.heap.size := Nat.lt_of_lt_of_le hb0 h2.size
  have d0 := (h2.cell (p := ⟨b0, o0 + i * 3, none⟩) hb0).trans c0
  have d1 := (h2.cell (p := ⟨b0, o0 + i * 3 + 1, none⟩) hb0).trans c1
  have d2 := (h2.cell (p := ⟨b0, o0 + i * 3 + 2, none⟩) hb0).trans c2
  have hT2 := (hTx.below h2).more h2.size
  have hW2 := hW.trans (h2.mono hW.size)
  clear c0 c1 c2 hb0 hTx h2 hAr
  (repeat with_reducible first|refine ctl ?_|refine miss ?_)
  refine Rs 3 fun Q' K hK => ?_
  refine Lp fun K' J => ?_
  refine op0 fun ρ qc qf qg => ?_; go_simp; (try go_bits); (try clear qc qf qg)
  go_at_call 43; refine (books_any 1 _).mono ?_; rintro e w3 ⟨⟨A, L, rfl, hM⟩, h3⟩
  refine Ln hE J fun a_1 E1 => ?_; clear J K' hE a
  refine Lp fun K' J => ?_
  refine op0 fun ρ qc qf qg => ?_; go_simp; (try clear qc qf qg)
  refine Ln E1 J fun a_2 E2 => ?_; clear J K' E1
  refine Lp fun K' J => ?_
  have r5 := E2.at 5 rfl; have r90 := E2.at 90 rfl
  refine wp_store_mid 35 (.tmp 5) (.tmp 90) rfl w3.heap.size 0 (bkV A 2 L 5 (chBk 1)).toArray (eval_of r5) (eval_of r90) (there_row (row_new w3 _ _) (Nat.le_of_eq rfl)) (by kernel_rfl) (by simp only [bkV, List.all_toArray, List.all_cons, List.all_nil, Bool.and_true]; rfl) ?_
  (try clear r5 r90)
  refine late_skip E2 J (fun a_3 E3 => ?_); clear J K'; clear E2
  refine late_done [1, 2, 4, 5] E3 hK (fun a hE => ?_); clear hK K Q' E3; simp only [lk, pick, Nat.reduceEqDiff, ↓reduceIte] at hE
  obtain ⟨X, hX⟩ : ∃ X, X = w3.heap.size := ⟨_, rfl⟩
  rw [← hX] at hE
  refine world_cut (fun wt => Below w3.heap.size w3 wt ∧ X < wt.heap.size ∧ Row wt X (bkV A 2 L 5 (chBk 1))) (by rw [hX]; exact boxed_row w3 _ _ (bkV A 2 L 5 (chBk 1)) rfl) (fun w4 hC => ?_)
  obtain ⟨h4, hlX, hRX⟩ := hC
  have hXw : w3.heap.size ≤ X := Nat.le_of_eq hX.symm
  have h24 := h3.trans (h4.mono h3.size)
  have f0 := (h24.cell (p := ⟨b0, o0 + i * 3, none⟩) hb02).trans d0
  have f1 := (h24.cell (p := ⟨b0, o0 + i * 3 + 1, none⟩) hb02).trans d1
  have f2 := (h24.cell (p := ⟨b0, o0 + i * 3 + 2, none⟩) hb02).trans d2
  have hb04 : b0 < w4.heap.size := Nat.lt_of_lt_of_le hb02 h24.size
  have hT4 := (hT2.below h24).more h24.size
  have hL4 := (hM.2.below h4).more h4.size
  have hW4 := hW2.trans (h24.mono hW2.size)
  have hbX : b0 < X := by have := h3.size; omega
  clear d0 d1 d2 hX
  (repeat with_reducible first|refine ctl ?_|refine miss ?_)
  refine Rs 6 fun Q' K hK => ?_
  refine Lp fun K' J => op1 (hE.at 1 rfl) fun ρ qc qf qg q1 => ?_; go_simp; (try clear qc qf qg q1)
  refine Ln hE J fun a_1 E1 => ?_; clear J K' hE a
  refine Lp fun K' J => op1 (E1.at 2 rfl) fun ρ qc qf qg q2 => ?_; go_simp; (try clear qc qf qg q2)
  refine Ln E1 J fun a_2 E2 => ?_; clear J K' E1
  refine Lp fun K' J => ?_
  have r91 := E2.at 91 rfl; have r92 := E2.at 92 rfl
  refine op2 r91 r92 fun ρ qc qf qg q91 q92 => ?_; go_simp; (try go_bits); (try clear qc qf qg r91 q91 r92 q92)
  (try clear r91 r92)
  refine Ln E2 J fun a_3 E3 => ?_; clear J K' E2
  refine Lp fun K' J => op1 (E3.at 93 rfl) fun ρ qc qf qg q93 => ?_; go_simp; (try clear qc qf qg q93)
  refine Ln E3 J fun a_4 E4 => ?_; clear J K' E3
  refine Lp fun K' J => op1 (E4.at 5 rfl) fun ρ qc qf qg q5 => ?_; go_simp; (try clear qc qf qg q5)
  refine Ln E4 J fun a_5 E5 => ?_; clear J K' E4
  refine Lp fun K' J => ?_
  have r95 := E5.at 95 rfl; have r94 := E5.at 94 rfl
  refine wp_store_mid 24 (.tmp 95) (.tmp 94) rfl X 0 #[.slice EA al.length al.length, .string mu, .int .i64 sl] (eval_of r95) (eval_of r94) (there_row hRX (by simp [bkV])) (by kernel_rfl) (by simp only [List.all_toArray, List.all_cons, List.all_nil, Bool.and_true]; rfl) ?_
  (try clear r95 r94)
  refine late_skip E5 J (fun a_6 E6 => ?_); clear J K'; clear E5
  refine late_done [1, 2, 4, 5] E6 hK (fun a hE => ?_); clear hK K Q' E6; simp only [lk, pick, Nat.reduceEqDiff, ↓reduceIte] at hE
  refine world_cut (fun wt => Below w3.heap.size w4 wt ∧ Row wt X (bkV EA al.length L 5 { chBk 1 with ear := ⟨al, mu, sl⟩ }) ∧ (∀ k, k ≠ X → wt.heap[k]? = w4.heap[k]?) ∧ wt.heap.size = w4.heap.size) ⟨Lib.below_setCells X hXw _ _ (Below.refl _ _), row_stored [.slice EA al.length al.length, .string mu, .int .i64 sl] 0 w4 _ hRX (by simp [bkV]), fun k hk => heap_stored hk _ _ _, size_setCellsN _ _ _ _⟩ (fun w5 hC => ?_)
  obtain ⟨h5, hR5, hk5, hs5⟩ := hC
  have g0 := (World.cell?_of_block (w := w4) (a := ⟨b0, o0 + i * 3, none⟩) (hk5 b0 (by omega))).trans f0
  have g1 := (World.cell?_of_block (w := w4) (a := ⟨b0, o0 + i * 3 + 1, none⟩) (hk5 b0 (by omega))).trans f1
  have g2 := (World.cell?_of_block (w := w4) (a := ⟨b0, o0 + i * 3 + 2, none⟩) (hk5 b0 (by omega))).trans f2
  have hw23 := h3.size
  have hT5 : Arr w5 w5.heap.size EA (txts al) := fun hx => by
   obtain ⟨b, o', e', q1, q2⟩ := hT2 hx
   exact ⟨b, o', e', by rw [hs5]; exact Nat.lt_of_lt_of_le q1 h24.size, fun j u hu => ((World.cell?_of_block (w := w4) (a := ⟨b, o' + j, none⟩) (hk5 b (by omega))).trans (h24.cell (p := ⟨b, o' + j, none⟩) q1)).trans (q2 j u hu)⟩
  have hL5 : Arr w5 w5.heap.size L (nlines (chBk 1).lines) := fun hx => by
   obtain ⟨b, o', e', q1, q2⟩ := hM.2 hx
   exact ⟨b, o', e', by rw [hs5]; exact Nat.lt_of_lt_of_le q1 h4.size, fun j u hu => ((World.cell?_of_block (w := w4) (a := ⟨b, o' + j, none⟩) (hk5 b (by omega))).trans (h4.cell (p := ⟨b, o' + j, none⟩) q1)).trans (q2 j u hu)⟩
  have hW5 := hW4.trans (h5.mono (by have := hW2.size; omega))
  have hC5 := row_cells hR5 (by rw [hs5]; exact hlX)
  have hb05 : b0 < w5.heap.size := by rw [hs5]; exact hb04
  clear f0 f1 f2 hT2 hT4 hL4 hk5 hs5 hR5 hRX hM hb02 hb04
  (repeat with_reducible first|refine ctl ?_|refine miss ?_)
  refine Rs 15 fun Q' K hK => ?_
  refine Lp fun K' J => op1 (hE.at 1 rfl) fun ρ qc qf qg q1 => ?_; go_simp; (try clear qc qf qg q1)
  refine Ln hE J fun a_1 E1 => ?_; clear J K' hE a
  refine Lp fun K' J => op1 (E1.at 2 rfl) fun ρ qc qf qg q2 => ?_; go_simp; (try clear qc qf qg q2)
  refine Ln E1 J fun a_2 E2 => ?_; clear J K' E1
  refine Lp fun K' J => ?_
  have r96 := E2.at 96 rfl; have r97 := E2.at 97 rfl
  refine op2 r96 r97 fun ρ qc qf qg q96 q97 => ?_; go_simp; (try go_bits); (try clear qc qf qg r96 q96 r97 q97)
  (try clear r96 r97)
  refine Ln E2 J fun a_3 E3 => ?_; clear J K' E2
  refine Lp fun K' J => op1 (E3.at 98 rfl) fun ρ qc qf qg q98 => ?_; go_simp; (try clear qc qf qg q98)
  refine Ln E3 J fun a_4 E4 => ?_; clear J K' E3
  refine Lp fun K' J => op1 (E4.at 99 rfl) fun ρ qc qf qg q99 => ?_; go_simp; (try go_bits); (try clear qc qf qg q99)
  go_at_call 13; refine (HCe.out _ hT5).mono ?_; rintro e w6 ⟨rfl, h6⟩
  (try clear r99)
  refine Ln E4 J fun a_5 E5 => ?_; clear J K' E4
  refine Lp fun K' J => op1 (E5.at 100 rfl) fun ρ qc qf qg q100 => ?_; go_simp; (try go_bits); (try clear qc qf qg q100)
  refine Ln E5 J fun a_6 E6 => ?_; clear J K' E5
  refine Lp fun K' J => op1 (E6.at 101 rfl) fun ρ qc qf qg q101 => ?_; go_simp; (try clear qc qf qg q101)
  refine Ln E6 J fun a_7 E7 => ?_; clear J K' E6
  refine Ly E7 102 fun K' J => ?_
  refine op1 (E7.at 4 rfl) fun ρ qc qf qg q4 => ?_; go_simp; (try clear qc qf qg q4)
  refine Ln E7 J fun a_8 E8 => ?_; clear J K' E7
  refine Ly E8 102 fun K' J => ?_
  refine op1 (E8.at 103 rfl) fun ρ qc qf qg q103 => ?_; go_simp; (try go_bits); (try clear qc qf qg q103)
  refine Ln E8 J fun a_9 E9 => ?_; clear J K' E8
  refine Lp fun K' J => ?_
  have r102 := E9.at 102 rfl; have r104 := E9.at 104 rfl
  refine op2 r102 r104 fun ρ qc qf qg q102 q104 => ?_; go_simp; (try go_bits); (try clear qc qf qg r102 q102 r104 q104)
  (try clear r102 r104)
  refine Ln E9 J fun a_10 E10 => ?_; clear J K' E9
  refine Lp fun K' J => op1 (E10.at 105 rfl) fun ρ qc qf qg q105 => ?_; go_simp; (try clear qc qf qg q105)
  refine Ln E10 J fun a_11 E11 => ?_; clear J K' E10
  refine Ly E11 106 fun K' J => ?_
  have r5 := E11.at 5 rfl
  refine wp_load_mid 35 (.tmp 5) rfl X 0 (eval_of r5) (bkV EA al.length L 5 { chBk 1 with ear := ⟨al, mu, sl⟩ }) _ (fun j u hu => by rw [Nat.zero_add]; exact (hC5.below h6).2 j u hu) Try.underlying35 rfl (by kernel_rfl) ?_
  (try clear r5)
  refine Ln E11 J fun a_12 E12 => ?_; clear J K' E11
  refine Ly E12 106 fun K' J => ?_
  refine op1 (E12.at 107 rfl) fun ρ qc qf qg q107 => ?_; go_simp; (try go_bits); (try clear qc qf qg q107)
  go_at_call 44; refine (HCk.out _ L ((hT5.below h6).more h6.size) ((hL5.below h6).more h6.size)).mono ?_; rintro e w7 ⟨rfl, h7⟩
  (try clear r107)
  refine Ln E12 J fun a_13 E13 => ?_; clear J K' E12
  refine Ly E13 106 fun K' J => ?_
  refine op1 (E13.at 108 rfl) fun ρ qc qf qg q108 => ?_; go_simp; (try go_bits); (try clear qc qf qg q108)
  refine Ln E13 J fun a_14 E14 => ?_; clear J K' E13
  refine Lp fun K' J => ?_
  have r106 := E14.at 106 rfl; have r109 := E14.at 109 rfl
  refine op2 r106 r109 fun ρ qc qf qg q106 q109 => ?_; go_simp; (try go_bits); (try clear qc qf qg r106 q106 r109 q109)
  (try clear r106 r109)
  refine Ln E14 J fun a_15 E15 => ?_; clear J K' E14
  refine late_done [1, 2, 110] E15 hK (fun a hE => ?_); clear hK K Q' E15; simp only [lk, pick, Nat.reduceEqDiff, ↓reduceIte] at hE
  have hW7 := hW5.trans ((h6.trans (h7.mono h6.size)).mono hW5.size)
  (repeat with_reducible first|refine ctl ?_|refine miss ?_)
  refine cond_no hE (t := 110) rfl ?_
  (repeat with_reducible first|refine ctl ?_|refine miss ?_)
  refine Rs 3 fun Q' K hK => ?_
  refine Lp fun K' J => op1 (hE.at 2 rfl) fun ρ qc qf qg q2 => ?_; go_simp; (try clear qc qf qg q2)
  refine Ln hE J fun a_1 E1 => ?_; clear J K' hE a
  refine Lp fun K' J => ?_
  have r80 := E1.at 80 rfl; refine op1 r80 fun ρ qc qf qg q80 => ?_; go_simp; (try go_bits); (try simp (disch := omega) only [IntWalk.i64_in]); (try clear qc qf qg r80 q80)
  refine Ln E1 J fun a_2 E2 => ?_; clear J K' E1
  refine Lp fun K' J => op1 (E2.at 81 rfl) fun ρ qc qf qg q81 => ?_; go_simp; (try clear qc qf qg q81)
  refine Ln E2 J fun a_3 E3 => ?_; clear J K' E2
  refine late_done [1, 2] E3 hK (fun a hE => ?_); clear hK K Q' E3; simp only [lk, pick, Nat.reduceEqDiff, ↓reduceIte] at hE
  (repeat with_reducible first|refine ctl ?_|refine miss ?_)
  exact ⟨i + 1, ⟨hlt, by simpa using hE, hW7⟩, by omega⟩
 ·(repeat with_reducible first|refine ctlE ?_|refine miss ?_)
  exact HN.out w _ (hb1.trans (hW.mono hb1.size)) _ _ hE
end Go.Proofs.Ytbimkcjdodgojaa
