/- Name: the law of truths, walked: what follows behind its calls. -/
import Derived.Test.YtbimkcjdodgojaaNch
namespace Go.Proofs.Ytbimkcjdodgojaa
set_option linter.unusedSimpArgs false
set_option linter.unusedVariables false
open Go Go.RowKit
attribute [local go_sem high] cell_set_wr
attribute [local go_sem low] cell_wr frozen_wr
attribute [local go_sem] wr_set wr_drew wr_drewN wr_alloc wr_new Rho.c Rho.n Rho.g
section
variable (A : Option Addr) (cap : Nat) (L : Option Addr) (lcap : Nat) (b : Bk)
set_option maxRecDepth 100000 in
set_option maxHeartbeats 4000000 in
theorem truths_midA (hs : b.small cap lcap) (t : Prs) (HH : Hid (∀ W O oc, BkAt W A L b → Arr W W.heap.size O (pairsV t) → Calls Try.prog 31 #[.agg (bkV A cap L lcap b).toArray, .slice O t.length oc] W fun e w' => e = .returned (.bool false) ∧ Below W.heap.size W w'))
    (O : Option Addr) (oc : Nat) (Z : Option Addr) (zc B S : Nat) (w V : World) (hM : BkAt V A L b) (hb : Below w.heap.size w V) (hCB : Cells V B (bkV A cap L lcap b)) (hO : Arr V V.heap.size O (pairsV t)) (a : Act)
    (hE : Fits 167 [(2, .pointer (some ⟨B, 0, none⟩)), (5, .slice O t.length oc), (6, .bool false), (7, .int .i64 0), (8, .int .i64 0), (9, .int .i64 0), (10, .slice Z 0 zc), (11, .int .i64 22), (12, .pointer (some ⟨S, 0, none⟩)), (13, .int .i64 22)] a) :
    (cr 7 (bodyOf Try.f6)).wp Try.prog (bodyPost Try.prog Try.f6 fun e w' => e = .returned (.bool true) ∧ Below w.heap.size w w') a V := by
 have hCB' := hCB
 simp only [bkV] at HH hCB
 have nB := hCB.1; have cB0 := hCB.2 0 _ rfl; have cB1 := hCB.2 1 _ rfl; have cB2 := hCB.2 2 _ rfl; have cB3 := hCB.2 3 _ rfl; have cB4 := hCB.2 4 _ rfl; have cB5 := hCB.2 5 _ rfl; have cB6 := hCB.2 6 _ rfl
 refine wp_seq ?_; refine Ks ?_
 refine Rs 45 fun Q' K hK => ?_
 refine M1 hE 7 fun K' Kh ρ q7 => ?_; go_simp; (try clear q7)
 refine Ln hE Kh fun _ Eb => ?_; clear Kh K' hE a
 refine M1 Eb 46 fun K' Kh ρ q46 => ?_; go_simp; (try go_bits); (try clear q46)
 refine Ln Eb Kh fun _ Ea => ?_; clear Kh K' Eb
 replace Ea := Ea.turn 47 (v' := .bool false) rfl (by (first | rfl | simp))
 refine M1 Ea 47 fun K' Kh ρ q47 => ?_; go_simp; (try clear q47)
 refine Ln Ea Kh fun _ Eb => ?_; clear Kh K' Ea
 refine N1 Eb 48 9 fun K' Kh ρ q9 => ?_; go_simp; (try clear q9)
 refine Ln Eb Kh fun _ Ea => ?_; clear Kh K' Eb
 refine N1 Ea 48 49 fun K' Kh ρ q49 => ?_; go_simp; (try go_bits); (try clear q49)
 refine Ln Ea Kh fun _ Eb => ?_; clear Kh K' Ea
 replace Eb := Eb.turn 50 (v' := .bool false) rfl (by (first | rfl | simp))
 refine M2 Eb 48 50 fun K' Kh ρ q48 q50 => ?_; go_simp; (try go_bits); (try clear q48 q50)
 refine Ln Eb Kh fun _ Ea => ?_; clear Kh K' Eb
 refine M1 Ea 51 fun K' Kh ρ q51 => ?_; go_simp; (try clear q51)
 refine Ln Ea Kh fun _ Eb => ?_; clear Kh K' Ea
 refine N1 Eb 52 6 fun K' Kh ρ q6 => ?_; go_simp; (try clear q6)
 refine Ln Eb Kh fun _ Ea => ?_; clear Kh K' Eb
 refine N1 Ea 52 2 fun K' Kh ρ q2 => ?_; go_simp; (try clear q2)
 refine Ln Ea Kh fun _ Eb => ?_; clear Kh K' Ea
 refine N1 Eb 52 5 fun K' Kh ρ q5 => ?_; go_simp; (try clear q5)
 refine Ln Eb Kh fun _ Ea => ?_; clear Kh K' Eb
 refine N2 Ea 52 54 55 fun K' Kh ρ q54 q55 => ?_; go_simp; (try go_bits); (try clear q54 q55)
 go_at_call 31; refine (HH.out _ _ _ hM hO).mono ?_; rintro e w2 ⟨rfl, h2⟩
 (try clear r54 r55)
 refine Ln Ea Kh fun _ Eb => ?_; clear Kh K' Ea
 refine N2 Eb 52 53 56 fun K' Kh ρ q53 q56 => ?_; go_simp; (try go_bits); (try clear q53 q56)
 refine Ln Eb Kh fun _ Ea => ?_; clear Kh K' Eb
 replace Ea := Ea.turn 57 (v' := .bool false) rfl (by (first | rfl | simp))
 refine M2 Ea 52 57 fun K' Kh ρ q52 q57 => ?_; go_simp; (try go_bits); (try clear q52 q57)
 refine Ln Ea Kh fun _ Eb => ?_; clear Kh K' Ea
 refine M1 Eb 58 fun K' Kh ρ q58 => ?_; go_simp; (try clear q58)
 refine Ln Eb Kh fun _ Ea => ?_; clear Kh K' Eb
 refine N1 Ea 59 6 fun K' Kh ρ q6 => ?_; go_simp; (try clear q6)
 refine Ln Ea Kh fun _ Eb => ?_; clear Kh K' Ea
 refine N1 Eb 59 60 fun K' Kh ρ q60 => ?_; go_simp; (try clear q60)
 refine Ln Eb Kh fun _ Ea => ?_; clear Kh K' Eb
 refine Lno Ea 61 ?_
 refine Lu Ea fun _ Eb => ?_
 refine Lno Eb 61 ?_
 refine Lu Eb fun _ Ea => ?_
 refine N2 Ea 59 61 63 fun K' Kh ρ q61 q63 => ?_; go_simp; (try go_bits); (try clear q61 q63)
 refine Ln Ea Kh fun _ Eb => ?_; clear Kh K' Ea
 refine M2 Eb 59 64 fun K' Kh ρ q59 q64 => ?_; go_simp; (try go_bits); (try clear q59 q64)
 refine Ln Eb Kh fun _ Ea => ?_; clear Kh K' Eb
 refine M1 Ea 65 fun K' Kh ρ q65 => ?_; go_simp; (try clear q65)
 refine Ln Ea Kh fun _ Eb => ?_; clear Kh K' Ea
 refine N1 Eb 66 11 fun K' Kh ρ q11 => ?_; go_simp; (try clear q11)
 refine Ln Eb Kh fun _ Ea => ?_; clear Kh K' Eb
 refine N1 Ea 66 67 fun K' Kh ρ q67 => ?_; go_simp; (try go_bits); (try clear q67)
 refine Ln Ea Kh fun _ Eb => ?_; clear Kh K' Ea
 replace Eb := Eb.turn 68 (v' := .bool false) rfl (by (first | rfl | simp))
 refine N1 Eb 66 8 fun K' Kh ρ q8 => ?_; go_simp; (try clear q8)
 refine Ln Eb Kh fun _ Ea => ?_; clear Kh K' Eb
 refine N1 Ea 66 69 fun K' Kh ρ q69 => ?_; go_simp; (try go_bits); (try clear q69)
 refine Ln Ea Kh fun _ Eb => ?_; clear Kh K' Ea
 replace Eb := Eb.turn 70 (v' := .bool false) rfl (by (first | rfl | simp))
 refine N2 Eb 66 68 70 fun K' Kh ρ q68 q70 => ?_; go_simp; (try go_bits); (try clear q68 q70)
 refine Ln Eb Kh fun _ Ea => ?_; clear Kh K' Eb
 replace Ea := Ea.turn 71 (v' := .bool false) rfl (by (first | rfl | simp))
 refine M2 Ea 66 71 fun K' Kh ρ q66 q71 => ?_; go_simp; (try go_bits); (try clear q66 q71)
 refine Ln Ea Kh fun _ Eb => ?_; clear Kh K' Ea
 refine M1 Eb 72 fun K' Kh ρ q72 => ?_; go_simp; (try clear q72)
 refine Ln Eb Kh fun _ Ea => ?_; clear Kh K' Eb
 refine N1 Ea 73 13 fun K' Kh ρ q13 => ?_; go_simp; (try clear q13)
 refine Ln Ea Kh fun _ Eb => ?_; clear Kh K' Ea
 refine N1 Eb 73 11 fun K' Kh ρ q11 => ?_; go_simp; (try clear q11)
 refine Ln Eb Kh fun _ Ea => ?_; clear Kh K' Eb
 refine N2 Ea 73 74 75 fun K' Kh ρ q74 q75 => ?_; go_simp; (try go_bits); (try clear q74 q75)
 refine Ln Ea Kh fun _ Eb => ?_; clear Kh K' Ea
 replace Eb := Eb.turn 76 (v' := .bool false) rfl (by (first | rfl | simp))
 refine M2 Eb 73 76 fun K' Kh ρ q73 q76 => ?_; go_simp; (try go_bits); (try clear q73 q76)
 refine Ln Eb Kh fun _ Ea => ?_; clear Kh K' Eb
 refine M1 Ea 77 fun K' Kh ρ q77 => ?_; go_simp; (try clear q77)
 refine Ln Ea Kh fun _ Eb => ?_; clear Kh K' Ea
 refine N1 Eb 78 11 fun K' Kh ρ q11 => ?_; go_simp; (try clear q11)
 refine Ln Eb Kh fun _ Ea => ?_; clear Kh K' Eb
 refine N1 Ea 78 79 fun K' Kh ρ q79 => ?_; go_simp; (try go_bits); (try clear q79)
 refine Ln Ea Kh fun _ Eb => ?_; clear Kh K' Ea
 replace Eb := Eb.turn 80 (v' := .bool true) rfl (by (first | rfl | simp))
 refine N1 Eb 78 80 fun K' Kh ρ q80 => ?_; go_simp; (try clear q80)
 refine Ln Eb Kh fun _ Ea => ?_; clear Kh K' Eb
 refine N1 Ea 81 11 fun K' Kh ρ q11 => ?_; go_simp; (try clear q11)
 refine Ln Ea Kh fun _ Eb => ?_; clear Kh K' Ea
 refine N1 Eb 81 82 fun K' Kh ρ q82 => ?_; go_simp; (try go_bits); (try clear q82)
 refine Ln Eb Kh fun _ Ea => ?_; clear Kh K' Eb
 replace Ea := Ea.turn 83 (v' := .bool false) rfl (by (first | rfl | simp))
 refine N1 Ea 81 83 fun K' Kh ρ q83 => ?_; go_simp; (try clear q83)
 refine Ln Ea Kh fun _ Eb => ?_; clear Kh K' Ea
 refine N1 Eb 84 10 fun K' Kh ρ q10 => ?_; go_simp; (try clear q10)
 refine Ln Eb Kh fun _ Ea => ?_; clear Kh K' Eb
 refine N1 Ea 84 85 fun K' Kh ρ q85 => ?_; go_simp; (try go_bits); (try clear q85)
 refine Ln Ea Kh fun _ Eb => ?_; clear Kh K' Ea
 refine N1 Eb 84 86 fun K' Kh ρ q86 => ?_; go_simp; (try go_bits); (try clear q86)
 refine Ln Eb Kh fun _ Ea => ?_; clear Kh K' Eb
 replace Ea := Ea.turn 87 (v' := .bool false) rfl (by (first | rfl | simp))
 refine N2 Ea 81 84 87 fun K' Kh ρ q84 q87 => ?_; go_simp; (try go_bits); (try clear q84 q87)
 refine Ln Ea Kh fun _ Eb => ?_; clear Kh K' Ea
 replace Eb := Eb.turn 88 (v' := .bool false) rfl (by (first | rfl | simp))
 refine N2 Eb 78 81 88 fun K' Kh ρ q81 q88 => ?_; go_simp; (try go_bits); (try clear q81 q88)
 refine Ln Eb Kh fun _ Ea => ?_; clear Kh K' Eb
 refine M2 Ea 78 89 fun K' Kh ρ q78 q89 => ?_; go_simp; (try go_bits); (try clear q78 q89)
 refine Ln Ea Kh fun _ Eb => ?_; clear Kh K' Ea
 refine late_done [2, 5, 6, 8, 10, 12, 90] Eb hK (fun a hE => ?_); clear hK K Q' Eb; simp only [lk, pick, Nat.reduceEqDiff, ↓reduceIte] at hE
 refine Ks ?_
 refine cond_no hE (t := 90) rfl ?_
 refine Ks ?_
 refine Rs 2 fun Q' K hK => ?_
 refine M1 hE 6 fun K' Kh ρ q6 => ?_; go_simp; (try clear q6)
 refine Ln hE Kh fun _ Eb => ?_; clear Kh K' hE a
 refine M1 Eb 91 fun K' Kh ρ q91 => ?_; go_simp; (try go_bits); (try simp (disch := omega) only [IntWalk.i64_in]); (try clear q91)
 refine Ln Eb Kh fun _ Ea => ?_; clear Kh K' Eb
 refine late_done [92] Ea hK (fun a hE => ?_); clear hK K Q' Ea; simp only [lk, pick, Nat.reduceEqDiff, ↓reduceIte] at hE
 refine Ks ?_
 refine cond_yes hE (t := 92) rfl ?_
 refine Ks ?_
 refine Rs 2 fun Q' K hK => ?_
 refine M0 fun K' Kh ρ => ?_; go_simp; (try go_bits);
 go_at_call 15; refine (written_any _).mono ?_; rintro e w3 ⟨rfl, h3⟩
 refine Ln hE Kh fun _ Eb => ?_; clear Kh K' hE a
 refine M1 Eb 93 fun K' Kh ρ q93 => ?_; go_simp; (try clear q93)
 refine Ln Eb Kh fun _ Ea => ?_; clear Kh K' Eb
 refine late_done [4] Ea hK (fun a hE => ?_); clear hK K Q' Ea; simp only [lk, pick, Nat.reduceEqDiff, ↓reduceIte] at hE
 refine Ks ?_
 exact ret_one hE rfl rfl ⟨rfl, hb.trans ((h2.trans (h3.mono h2.size)).mono hb.size)⟩
set_option maxRecDepth 100000 in
set_option maxHeartbeats 4000000 in
theorem truths_midB (hs : b.small cap lcap) (t : Prs) (m : Nat) (hm : 0 < m) (J : Prs) (HH : Hid (∀ W O oc, BkAt W A L b → Arr W W.heap.size O (pairsV t) → Calls Try.prog 31 #[.agg (bkV A cap L lcap b).toArray, .slice O t.length oc] W fun e w' => e = .returned (.bool false) ∧ Below W.heap.size W w'))
    (O : Option Addr) (oc : Nat) (Z : Option Addr) (zc B S : Nat) (w V : World) (hM : BkAt V A L b) (hb : Below w.heap.size w V) (hCB : Cells V B (bkV A cap L lcap b)) (hO : Arr V V.heap.size O (pairsV t)) (a : Act)
    (hE : Fits 167 [(2, .pointer (some ⟨B, 0, none⟩)), (5, .slice O t.length oc), (6, .bool false), (7, .int .i64 0), (8, .int .i64 m), (9, .int .i64 0), (10, .slice Z J.length zc), (11, .int .i64 0), (12, .pointer (some ⟨S, 0, none⟩)), (13, .int .i64 0)] a) :
    (cr 7 (bodyOf Try.f6)).wp Try.prog (bodyPost Try.prog Try.f6 fun e w' => e = .returned (.bool true) ∧ Below w.heap.size w w') a V := by
 have hCB' := hCB
 simp only [bkV] at HH hCB
 have nB := hCB.1; have cB0 := hCB.2 0 _ rfl; have cB1 := hCB.2 1 _ rfl; have cB2 := hCB.2 2 _ rfl; have cB3 := hCB.2 3 _ rfl; have cB4 := hCB.2 4 _ rfl; have cB5 := hCB.2 5 _ rfl; have cB6 := hCB.2 6 _ rfl
 refine wp_seq ?_; refine Ks ?_
 refine Rs 45 fun Q' K hK => ?_
 refine M1 hE 7 fun K' Kh ρ q7 => ?_; go_simp; (try clear q7)
 refine Ln hE Kh fun _ Eb => ?_; clear Kh K' hE a
 refine M1 Eb 46 fun K' Kh ρ q46 => ?_; go_simp; (try go_bits); (try clear q46)
 refine Ln Eb Kh fun _ Ea => ?_; clear Kh K' Eb
 replace Ea := Ea.turn 47 (v' := .bool false) rfl (by (first | rfl | simp))
 refine M1 Ea 47 fun K' Kh ρ q47 => ?_; go_simp; (try clear q47)
 refine Ln Ea Kh fun _ Eb => ?_; clear Kh K' Ea
 refine N1 Eb 48 9 fun K' Kh ρ q9 => ?_; go_simp; (try clear q9)
 refine Ln Eb Kh fun _ Ea => ?_; clear Kh K' Eb
 refine N1 Ea 48 49 fun K' Kh ρ q49 => ?_; go_simp; (try go_bits); (try clear q49)
 refine Ln Ea Kh fun _ Eb => ?_; clear Kh K' Ea
 replace Eb := Eb.turn 50 (v' := .bool false) rfl (by (first | rfl | simp))
 refine M2 Eb 48 50 fun K' Kh ρ q48 q50 => ?_; go_simp; (try go_bits); (try clear q48 q50)
 refine Ln Eb Kh fun _ Ea => ?_; clear Kh K' Eb
 refine M1 Ea 51 fun K' Kh ρ q51 => ?_; go_simp; (try clear q51)
 refine Ln Ea Kh fun _ Eb => ?_; clear Kh K' Ea
 refine N1 Eb 52 6 fun K' Kh ρ q6 => ?_; go_simp; (try clear q6)
 refine Ln Eb Kh fun _ Ea => ?_; clear Kh K' Eb
 refine N1 Ea 52 2 fun K' Kh ρ q2 => ?_; go_simp; (try clear q2)
 refine Ln Ea Kh fun _ Eb => ?_; clear Kh K' Ea
 refine N1 Eb 52 5 fun K' Kh ρ q5 => ?_; go_simp; (try clear q5)
 refine Ln Eb Kh fun _ Ea => ?_; clear Kh K' Eb
 refine N2 Ea 52 54 55 fun K' Kh ρ q54 q55 => ?_; go_simp; (try go_bits); (try clear q54 q55)
 go_at_call 31; refine (HH.out _ _ _ hM hO).mono ?_; rintro e w2 ⟨rfl, h2⟩
 (try clear r54 r55)
 refine Ln Ea Kh fun _ Eb => ?_; clear Kh K' Ea
 refine N2 Eb 52 53 56 fun K' Kh ρ q53 q56 => ?_; go_simp; (try go_bits); (try clear q53 q56)
 refine Ln Eb Kh fun _ Ea => ?_; clear Kh K' Eb
 replace Ea := Ea.turn 57 (v' := .bool false) rfl (by (first | rfl | simp))
 refine M2 Ea 52 57 fun K' Kh ρ q52 q57 => ?_; go_simp; (try go_bits); (try clear q52 q57)
 refine Ln Ea Kh fun _ Eb => ?_; clear Kh K' Ea
 refine M1 Eb 58 fun K' Kh ρ q58 => ?_; go_simp; (try clear q58)
 refine Ln Eb Kh fun _ Ea => ?_; clear Kh K' Eb
 refine N1 Ea 59 6 fun K' Kh ρ q6 => ?_; go_simp; (try clear q6)
 refine Ln Ea Kh fun _ Eb => ?_; clear Kh K' Ea
 refine N1 Eb 59 60 fun K' Kh ρ q60 => ?_; go_simp; (try clear q60)
 refine Ln Eb Kh fun _ Ea => ?_; clear Kh K' Eb
 refine Lno Ea 61 ?_
 refine Lu Ea fun _ Eb => ?_
 refine Lno Eb 61 ?_
 refine Lu Eb fun _ Ea => ?_
 refine N2 Ea 59 61 63 fun K' Kh ρ q61 q63 => ?_; go_simp; (try go_bits); (try clear q61 q63)
 refine Ln Ea Kh fun _ Eb => ?_; clear Kh K' Ea
 refine M2 Eb 59 64 fun K' Kh ρ q59 q64 => ?_; go_simp; (try go_bits); (try clear q59 q64)
 refine Ln Eb Kh fun _ Ea => ?_; clear Kh K' Eb
 refine M1 Ea 65 fun K' Kh ρ q65 => ?_; go_simp; (try clear q65)
 refine Ln Ea Kh fun _ Eb => ?_; clear Kh K' Ea
 refine N1 Eb 66 11 fun K' Kh ρ q11 => ?_; go_simp; (try clear q11)
 refine Ln Eb Kh fun _ Ea => ?_; clear Kh K' Eb
 refine N1 Ea 66 67 fun K' Kh ρ q67 => ?_; go_simp; (try go_bits); (try clear q67)
 refine Ln Ea Kh fun _ Eb => ?_; clear Kh K' Ea
 replace Eb := Eb.turn 68 (v' := .bool true) rfl (by (first | rfl | simp))
 refine N1 Eb 66 8 fun K' Kh ρ q8 => ?_; go_simp; (try clear q8)
 refine Ln Eb Kh fun _ Ea => ?_; clear Kh K' Eb
 refine N1 Ea 66 69 fun K' Kh ρ q69 => ?_; go_simp; (try go_bits); (try clear q69)
 refine Ln Ea Kh fun _ Eb => ?_; clear Kh K' Ea
 replace Eb := Eb.turn 70 (v' := .bool true) rfl (by (first | (simp; done) | (simp; omega)))
 refine N2 Eb 66 68 70 fun K' Kh ρ q68 q70 => ?_; go_simp; (try go_bits); (try clear q68 q70)
 refine Ln Eb Kh fun _ Ea => ?_; clear Kh K' Eb
 replace Ea := Ea.turn 71 (v' := .bool false) rfl (by (first | rfl | simp))
 refine M2 Ea 66 71 fun K' Kh ρ q66 q71 => ?_; go_simp; (try go_bits); (try clear q66 q71)
 refine Ln Ea Kh fun _ Eb => ?_; clear Kh K' Ea
 refine M1 Eb 72 fun K' Kh ρ q72 => ?_; go_simp; (try clear q72)
 refine Ln Eb Kh fun _ Ea => ?_; clear Kh K' Eb
 refine N1 Ea 73 13 fun K' Kh ρ q13 => ?_; go_simp; (try clear q13)
 refine Ln Ea Kh fun _ Eb => ?_; clear Kh K' Ea
 refine N1 Eb 73 11 fun K' Kh ρ q11 => ?_; go_simp; (try clear q11)
 refine Ln Eb Kh fun _ Ea => ?_; clear Kh K' Eb
 refine N2 Ea 73 74 75 fun K' Kh ρ q74 q75 => ?_; go_simp; (try go_bits); (try clear q74 q75)
 refine Ln Ea Kh fun _ Eb => ?_; clear Kh K' Ea
 replace Eb := Eb.turn 76 (v' := .bool false) rfl (by (first | rfl | simp))
 refine M2 Eb 73 76 fun K' Kh ρ q73 q76 => ?_; go_simp; (try go_bits); (try clear q73 q76)
 refine Ln Eb Kh fun _ Ea => ?_; clear Kh K' Eb
 refine M1 Ea 77 fun K' Kh ρ q77 => ?_; go_simp; (try clear q77)
 refine Ln Ea Kh fun _ Eb => ?_; clear Kh K' Ea
 refine N1 Eb 78 11 fun K' Kh ρ q11 => ?_; go_simp; (try clear q11)
 refine Ln Eb Kh fun _ Ea => ?_; clear Kh K' Eb
 refine N1 Ea 78 79 fun K' Kh ρ q79 => ?_; go_simp; (try go_bits); (try clear q79)
 refine Ln Ea Kh fun _ Eb => ?_; clear Kh K' Ea
 replace Eb := Eb.turn 80 (v' := .bool false) rfl (by (first | rfl | simp))
 refine N1 Eb 78 80 fun K' Kh ρ q80 => ?_; go_simp; (try clear q80)
 refine Ln Eb Kh fun _ Ea => ?_; clear Kh K' Eb
 refine Lno Ea 81 ?_
 refine Lu Ea fun _ Eb => ?_
 refine Lno Eb 81 ?_
 refine Lu Eb fun _ Ea => ?_
 refine Lno Ea 81 ?_
 refine Lu Ea fun _ Eb => ?_
 refine Lun Eb 84 ?_
 refine Lu Eb fun _ Ea => ?_
 refine Lun Ea 84 ?_
 refine Lu Ea fun _ Eb => ?_
 refine Lun Eb 84 ?_
 refine Lu Eb fun _ Ea => ?_
 refine Lno Ea 81 ?_
 refine Lu Ea fun _ Eb => ?_
 refine N2 Eb 78 81 88 fun K' Kh ρ q81 q88 => ?_; go_simp; (try go_bits); (try clear q81 q88)
 refine Ln Eb Kh fun _ Ea => ?_; clear Kh K' Eb
 refine M2 Ea 78 89 fun K' Kh ρ q78 q89 => ?_; go_simp; (try go_bits); (try clear q78 q89)
 refine Ln Ea Kh fun _ Eb => ?_; clear Kh K' Ea
 refine late_done [2, 5, 6, 8, 10, 12, 90] Eb hK (fun a hE => ?_); clear hK K Q' Eb; simp only [lk, pick, Nat.reduceEqDiff, ↓reduceIte] at hE
 refine Ks ?_
 refine cond_no hE (t := 90) rfl ?_
 refine Ks ?_
 refine Rs 2 fun Q' K hK => ?_
 refine M1 hE 6 fun K' Kh ρ q6 => ?_; go_simp; (try clear q6)
 refine Ln hE Kh fun _ Eb => ?_; clear Kh K' hE a
 refine M1 Eb 91 fun K' Kh ρ q91 => ?_; go_simp; (try go_bits); (try simp (disch := omega) only [IntWalk.i64_in]); (try clear q91)
 refine Ln Eb Kh fun _ Ea => ?_; clear Kh K' Eb
 refine late_done [92] Ea hK (fun a hE => ?_); clear hK K Q' Ea; simp only [lk, pick, Nat.reduceEqDiff, ↓reduceIte] at hE
 refine Ks ?_
 refine cond_yes hE (t := 92) rfl ?_
 refine Ks ?_
 refine Rs 2 fun Q' K hK => ?_
 refine M0 fun K' Kh ρ => ?_; go_simp; (try go_bits);
 go_at_call 15; refine (written_any _).mono ?_; rintro e w3 ⟨rfl, h3⟩
 refine Ln hE Kh fun _ Eb => ?_; clear Kh K' hE a
 refine M1 Eb 93 fun K' Kh ρ q93 => ?_; go_simp; (try clear q93)
 refine Ln Eb Kh fun _ Ea => ?_; clear Kh K' Eb
 refine late_done [4] Ea hK (fun a hE => ?_); clear hK K Q' Ea; simp only [lk, pick, Nat.reduceEqDiff, ↓reduceIte] at hE
 refine Ks ?_
 exact ret_one hE rfl rfl ⟨rfl, hb.trans ((h2.trans (h3.mono h2.size)).mono hb.size)⟩
set_option maxRecDepth 100000 in
set_option maxHeartbeats 4000000 in
theorem truths_midC (hs : b.small cap lcap) (t : Prs) (m : Nat) (hm : 0 < m) (J : Prs) (hJ81 : J.length ≤ 81) (HH : Hid (∀ W O oc, BkAt W A L b → Arr W W.heap.size O (pairsV t) → Calls Try.prog 31 #[.agg (bkV A cap L lcap b).toArray, .slice O t.length oc] W fun e w' => e = .returned (.bool true) ∧ Below W.heap.size W w'))
    (O : Option Addr) (oc : Nat) (Z : Option Addr) (zc B S : Nat) (w V : World) (hM : BkAt V A L b) (hb : Below w.heap.size w V) (hCB : Cells V B (bkV A cap L lcap b)) (hO : Arr V V.heap.size O (pairsV t)) (a : Act)
    (hE : Fits 167 [(2, .pointer (some ⟨B, 0, none⟩)), (5, .slice O t.length oc), (6, .bool true), (7, .int .i64 0), (8, .int .i64 m), (9, .int .i64 0), (10, .slice Z J.length zc), (11, .int .i64 0), (12, .pointer (some ⟨S, 0, none⟩)), (13, .int .i64 0)] a)
    (HL : Hid (∀ W (a : Act), BkAt W A L b → Below V.heap.size V W → Cells W B (bkV A cap L lcap b) → Fits 167 [(2, .pointer (some ⟨B, 0, none⟩)), (5, .slice O t.length oc), (8, .int .i64 m), (10, .slice Z J.length zc), (12, .pointer (some ⟨S, 0, none⟩))] a → (cr 9 (bodyOf Try.f6)).wp Try.prog (bodyPost Try.prog Try.f6 fun e w' => e = .returned (.bool true) ∧ Below w.heap.size w w') a W)) :
    (cr 7 (bodyOf Try.f6)).wp Try.prog (bodyPost Try.prog Try.f6 fun e w' => e = .returned (.bool true) ∧ Below w.heap.size w w') a V := by
 have hCB' := hCB
 simp only [bkV] at HH hCB
 have nB := hCB.1; have cB0 := hCB.2 0 _ rfl; have cB1 := hCB.2 1 _ rfl; have cB2 := hCB.2 2 _ rfl; have cB3 := hCB.2 3 _ rfl; have cB4 := hCB.2 4 _ rfl; have cB5 := hCB.2 5 _ rfl; have cB6 := hCB.2 6 _ rfl
 refine wp_seq ?_; refine Ks ?_
 refine Rs 45 fun Q' K hK => ?_
 refine M1 hE 7 fun K' Kh ρ q7 => ?_; go_simp; (try clear q7)
 refine Ln hE Kh fun _ Eb => ?_; clear Kh K' hE a
 refine M1 Eb 46 fun K' Kh ρ q46 => ?_; go_simp; (try go_bits); (try clear q46)
 refine Ln Eb Kh fun _ Ea => ?_; clear Kh K' Eb
 replace Ea := Ea.turn 47 (v' := .bool false) rfl (by (first | rfl | simp))
 refine M1 Ea 47 fun K' Kh ρ q47 => ?_; go_simp; (try clear q47)
 refine Ln Ea Kh fun _ Eb => ?_; clear Kh K' Ea
 refine N1 Eb 48 9 fun K' Kh ρ q9 => ?_; go_simp; (try clear q9)
 refine Ln Eb Kh fun _ Ea => ?_; clear Kh K' Eb
 refine N1 Ea 48 49 fun K' Kh ρ q49 => ?_; go_simp; (try go_bits); (try clear q49)
 refine Ln Ea Kh fun _ Eb => ?_; clear Kh K' Ea
 replace Eb := Eb.turn 50 (v' := .bool false) rfl (by (first | rfl | simp))
 refine M2 Eb 48 50 fun K' Kh ρ q48 q50 => ?_; go_simp; (try go_bits); (try clear q48 q50)
 refine Ln Eb Kh fun _ Ea => ?_; clear Kh K' Eb
 refine M1 Ea 51 fun K' Kh ρ q51 => ?_; go_simp; (try clear q51)
 refine Ln Ea Kh fun _ Eb => ?_; clear Kh K' Ea
 refine N1 Eb 52 6 fun K' Kh ρ q6 => ?_; go_simp; (try clear q6)
 refine Ln Eb Kh fun _ Ea => ?_; clear Kh K' Eb
 refine N1 Ea 52 2 fun K' Kh ρ q2 => ?_; go_simp; (try clear q2)
 refine Ln Ea Kh fun _ Eb => ?_; clear Kh K' Ea
 refine N1 Eb 52 5 fun K' Kh ρ q5 => ?_; go_simp; (try clear q5)
 refine Ln Eb Kh fun _ Ea => ?_; clear Kh K' Eb
 refine N2 Ea 52 54 55 fun K' Kh ρ q54 q55 => ?_; go_simp; (try go_bits); (try clear q54 q55)
 go_at_call 31; refine (HH.out _ _ _ hM hO).mono ?_; rintro e w2 ⟨rfl, h2⟩
 (try clear r54 r55)
 refine Ln Ea Kh fun _ Eb => ?_; clear Kh K' Ea
 refine N2 Eb 52 53 56 fun K' Kh ρ q53 q56 => ?_; go_simp; (try go_bits); (try clear q53 q56)
 refine Ln Eb Kh fun _ Ea => ?_; clear Kh K' Eb
 replace Ea := Ea.turn 57 (v' := .bool false) rfl (by (first | rfl | simp))
 refine M2 Ea 52 57 fun K' Kh ρ q52 q57 => ?_; go_simp; (try go_bits); (try clear q52 q57)
 refine Ln Ea Kh fun _ Eb => ?_; clear Kh K' Ea
 refine M1 Eb 58 fun K' Kh ρ q58 => ?_; go_simp; (try clear q58)
 refine Ln Eb Kh fun _ Ea => ?_; clear Kh K' Eb
 refine N1 Ea 59 6 fun K' Kh ρ q6 => ?_; go_simp; (try clear q6)
 refine Ln Ea Kh fun _ Eb => ?_; clear Kh K' Ea
 refine N1 Eb 59 60 fun K' Kh ρ q60 => ?_; go_simp; (try clear q60)
 refine Ln Eb Kh fun _ Ea => ?_; clear Kh K' Eb
 refine N1 Ea 61 8 fun K' Kh ρ q8 => ?_; go_simp; (try clear q8)
 refine Ln Ea Kh fun _ Eb => ?_; clear Kh K' Ea
 refine N1 Eb 61 62 fun K' Kh ρ q62 => ?_; go_simp; (try go_bits); (try clear q62)
 refine Ln Eb Kh fun _ Ea => ?_; clear Kh K' Eb
 replace Ea := Ea.turn 63 (v' := .bool false) rfl (by (first | (simp; done) | (simp; omega)))
 refine N2 Ea 59 61 63 fun K' Kh ρ q61 q63 => ?_; go_simp; (try go_bits); (try clear q61 q63)
 refine Ln Ea Kh fun _ Eb => ?_; clear Kh K' Ea
 refine M2 Eb 59 64 fun K' Kh ρ q59 q64 => ?_; go_simp; (try go_bits); (try clear q59 q64)
 refine Ln Eb Kh fun _ Ea => ?_; clear Kh K' Eb
 refine M1 Ea 65 fun K' Kh ρ q65 => ?_; go_simp; (try clear q65)
 refine Ln Ea Kh fun _ Eb => ?_; clear Kh K' Ea
 refine N1 Eb 66 11 fun K' Kh ρ q11 => ?_; go_simp; (try clear q11)
 refine Ln Eb Kh fun _ Ea => ?_; clear Kh K' Eb
 refine N1 Ea 66 67 fun K' Kh ρ q67 => ?_; go_simp; (try go_bits); (try clear q67)
 refine Ln Ea Kh fun _ Eb => ?_; clear Kh K' Ea
 replace Eb := Eb.turn 68 (v' := .bool true) rfl (by (first | rfl | simp))
 refine N1 Eb 66 8 fun K' Kh ρ q8 => ?_; go_simp; (try clear q8)
 refine Ln Eb Kh fun _ Ea => ?_; clear Kh K' Eb
 refine N1 Ea 66 69 fun K' Kh ρ q69 => ?_; go_simp; (try go_bits); (try clear q69)
 refine Ln Ea Kh fun _ Eb => ?_; clear Kh K' Ea
 replace Eb := Eb.turn 70 (v' := .bool true) rfl (by (first | (simp; done) | (simp; omega)))
 refine N2 Eb 66 68 70 fun K' Kh ρ q68 q70 => ?_; go_simp; (try go_bits); (try clear q68 q70)
 refine Ln Eb Kh fun _ Ea => ?_; clear Kh K' Eb
 replace Ea := Ea.turn 71 (v' := .bool false) rfl (by (first | rfl | simp))
 refine M2 Ea 66 71 fun K' Kh ρ q66 q71 => ?_; go_simp; (try go_bits); (try clear q66 q71)
 refine Ln Ea Kh fun _ Eb => ?_; clear Kh K' Ea
 refine M1 Eb 72 fun K' Kh ρ q72 => ?_; go_simp; (try clear q72)
 refine Ln Eb Kh fun _ Ea => ?_; clear Kh K' Eb
 refine N1 Ea 73 13 fun K' Kh ρ q13 => ?_; go_simp; (try clear q13)
 refine Ln Ea Kh fun _ Eb => ?_; clear Kh K' Ea
 refine N1 Eb 73 11 fun K' Kh ρ q11 => ?_; go_simp; (try clear q11)
 refine Ln Eb Kh fun _ Ea => ?_; clear Kh K' Eb
 refine N2 Ea 73 74 75 fun K' Kh ρ q74 q75 => ?_; go_simp; (try go_bits); (try clear q74 q75)
 refine Ln Ea Kh fun _ Eb => ?_; clear Kh K' Ea
 replace Eb := Eb.turn 76 (v' := .bool false) rfl (by (first | rfl | simp))
 refine M2 Eb 73 76 fun K' Kh ρ q73 q76 => ?_; go_simp; (try go_bits); (try clear q73 q76)
 refine Ln Eb Kh fun _ Ea => ?_; clear Kh K' Eb
 refine M1 Ea 77 fun K' Kh ρ q77 => ?_; go_simp; (try clear q77)
 refine Ln Ea Kh fun _ Eb => ?_; clear Kh K' Ea
 refine N1 Eb 78 11 fun K' Kh ρ q11 => ?_; go_simp; (try clear q11)
 refine Ln Eb Kh fun _ Ea => ?_; clear Kh K' Eb
 refine N1 Ea 78 79 fun K' Kh ρ q79 => ?_; go_simp; (try go_bits); (try clear q79)
 refine Ln Ea Kh fun _ Eb => ?_; clear Kh K' Ea
 replace Eb := Eb.turn 80 (v' := .bool false) rfl (by (first | rfl | simp))
 refine N1 Eb 78 80 fun K' Kh ρ q80 => ?_; go_simp; (try clear q80)
 refine Ln Eb Kh fun _ Ea => ?_; clear Kh K' Eb
 refine Lno Ea 81 ?_
 refine Lu Ea fun _ Eb => ?_
 refine Lno Eb 81 ?_
 refine Lu Eb fun _ Ea => ?_
 refine Lno Ea 81 ?_
 refine Lu Ea fun _ Eb => ?_
 refine Lun Eb 84 ?_
 refine Lu Eb fun _ Ea => ?_
 refine Lun Ea 84 ?_
 refine Lu Ea fun _ Eb => ?_
 refine Lun Eb 84 ?_
 refine Lu Eb fun _ Ea => ?_
 refine Lno Ea 81 ?_
 refine Lu Ea fun _ Eb => ?_
 refine N2 Eb 78 81 88 fun K' Kh ρ q81 q88 => ?_; go_simp; (try go_bits); (try clear q81 q88)
 refine Ln Eb Kh fun _ Ea => ?_; clear Kh K' Eb
 refine M2 Ea 78 89 fun K' Kh ρ q78 q89 => ?_; go_simp; (try go_bits); (try clear q78 q89)
 refine Ln Ea Kh fun _ Eb => ?_; clear Kh K' Ea
 refine late_done [2, 5, 6, 8, 10, 12, 90] Eb hK (fun a hE => ?_); clear hK K Q' Eb; simp only [lk, pick, Nat.reduceEqDiff, ↓reduceIte] at hE
 refine Ks ?_
 refine cond_no hE (t := 90) rfl ?_
 refine Ks ?_
 refine Rs 2 fun Q' K hK => ?_
 refine M1 hE 6 fun K' Kh ρ q6 => ?_; go_simp; (try clear q6)
 refine Ln hE Kh fun _ Eb => ?_; clear Kh K' hE a
 refine M1 Eb 91 fun K' Kh ρ q91 => ?_; go_simp; (try go_bits); (try simp (disch := omega) only [IntWalk.i64_in]); (try clear q91)
 refine Ln Eb Kh fun _ Ea => ?_; clear Kh K' Eb
 refine late_done [2, 5, 8, 10, 12, 92] Ea hK (fun a hE => ?_); clear hK K Q' Ea; simp only [lk, pick, Nat.reduceEqDiff, ↓reduceIte] at hE
 refine Ks ?_
 refine cond_no hE (t := 92) rfl ?_
 refine wp_skip ?_
 refine KsE ?_
 exact HL.out w2 _ (hM.below h2) h2 (hCB'.below h2) (hE.keep [2, 5, 8, 10, 12])
set_option maxRecDepth 100000 in
set_option maxHeartbeats 4000000 in
theorem truths_bad (ho : b.ok = false) (T : Option Addr) (tc : Nat) (ns : List Int) (w : World) (hM : BkAt w A L b) (hs : b.small cap lcap) : Calls Try.prog 6 #[.agg (bkV A cap L lcap b).toArray, .slice T ns.length tc] w fun e w' => e = .returned (.bool true) ∧ Below w.heap.size w w' := by
 have C2 : Hid (∀ W, BkAt W A L b → Calls Try.prog 16 #[.agg (bkV A cap L lcap b).toArray] W fun e w' => e = .returned (.bool false) ∧ Below W.heap.size W w') := hid fun W hW => by
  have h := sound_any A cap L lcap b W hW hs
  rw [ho] at h
  exact h
 clear ho
 simp only [bkV] at C2 ⊢
 refine enterE Try.func6 rfl Try.ntmps6 (by simp) (fun a hE => ?_); simp only [envOf, Nat.zero_add, Nat.reduceAdd] at hE
 refine Ks ?_
 refine Rs 2 fun Q' K hK => ?_
 refine M1 hE 0 fun K' Kh ρ q0 => ?_; go_simp; (try clear q0)
 refine Ln hE Kh fun _ Eb => ?_; clear Kh K' hE a
 refine M0 fun K' Kh ρ => ?_; go_simp;
 refine Ln Eb Kh fun _ Ea => ?_; clear Kh K' Eb
 refine late_done [2] Ea hK (fun a hE => ?_); clear hK K Q' Ea; simp only [lk, pick, Nat.reduceEqDiff, ↓reduceIte] at hE
 obtain ⟨B, hBe⟩ : ∃ B, B = w.heap.size := ⟨_, rfl⟩; rw [← hBe] at hE; refine world_cut (fun wt => Below w.heap.size w wt ∧ Cells wt B (bkV A cap L lcap b)) ⟨(Below.refl _ _).alloc (Nat.le_refl _) _, by rw [hBe]; exact cells_new _ _ _⟩ (fun w1 hCut => ?_); obtain ⟨hbw1, hCB⟩ := hCut; clear hBe
 have hM1 := hM.below hbw1
 simp only [bkV] at hCB
 have nB := hCB.1; have cB0 := hCB.2 0 _ rfl; have cB1 := hCB.2 1 _ rfl; have cB2 := hCB.2 2 _ rfl; have cB3 := hCB.2 3 _ rfl; have cB4 := hCB.2 4 _ rfl; have cB5 := hCB.2 5 _ rfl; have cB6 := hCB.2 6 _ rfl
 refine Ks ?_
 refine Rs 3 fun Q' K hK => ?_
 refine M1 hE 2 fun K' Kh ρ q2 => ?_; go_simp; (try clear q2)
 refine Ln hE Kh fun _ Eb => ?_; clear Kh K' hE a
 refine M1 Eb 18 fun K' Kh ρ q18 => ?_; go_simp; (try go_bits); (try clear q18)
 go_at_call 16; refine (C2.out _ hM1).mono ?_; rintro e w2 ⟨rfl, h2⟩
 (try clear r18)
 refine Ln Eb Kh fun _ Ea => ?_; clear Kh K' Eb
 refine M1 Ea 19 fun K' Kh ρ q19 => ?_; go_simp; (try go_bits); (try simp (disch := omega) only [IntWalk.i64_in]); (try clear q19)
 refine Ln Ea Kh fun _ Eb => ?_; clear Kh K' Ea
 refine late_done [2, 20] Eb hK (fun a hE => ?_); clear hK K Q' Eb; simp only [lk, pick, Nat.reduceEqDiff, ↓reduceIte] at hE
 refine Ks ?_
 refine cond_yes hE (t := 20) rfl ?_
 refine Ks ?_
 refine Rs 2 fun Q' K hK => ?_
 refine M0 fun K' Kh ρ => ?_; go_simp; (try go_bits);
 go_at_call 15; refine (written_any _).mono ?_; rintro e w3 ⟨rfl, h3⟩
 refine Ln hE Kh fun _ Eb => ?_; clear Kh K' hE a
 refine M1 Eb 21 fun K' Kh ρ q21 => ?_; go_simp; (try clear q21)
 refine Ln Eb Kh fun _ Ea => ?_; clear Kh K' Eb
 refine late_done [4] Ea hK (fun a hE => ?_); clear hK K Q' Ea; simp only [lk, pick, Nat.reduceEqDiff, ↓reduceIte] at hE
 refine Ks ?_
 exact ret_one hE rfl rfl ⟨rfl, hbw1.trans ((h2.trans (h3.mono h2.size)).mono hbw1.size)⟩
set_option maxRecDepth 100000 in
set_option maxHeartbeats 4000000 in
theorem truths_good (ho : b.ok = true) (T : Option Addr) (tc : Nat) (ns : List Int) (w : World) (hM : BkAt w A L b) (hs : b.small cap lcap) (hT : Arr w w.heap.size T (ints ns)) (hn : ns.length ≤ 9223372036854775807) : Calls Try.prog 6 #[.agg (bkV A cap L lcap b).toArray, .slice T ns.length tc] w fun e w' => e = .returned (.bool true) ∧ Below w.heap.size w w' := by
 have h9 := ok_nine ho
 have HO := hid ho
 have C2 : Hid (∀ W, BkAt W A L b → Calls Try.prog 16 #[.agg (bkV A cap L lcap b).toArray] W fun e w' => e = .returned (.bool true) ∧ Below W.heap.size W w') := hid fun W hW => by
  have h := sound_any A cap L lcap b W hW hs
  rw [ho] at h
  exact h
 have C3 := hid fun W (hW : BkAt W A L b) (hTW : Arr W W.heap.size T (ints ns)) => drawn_any A cap L lcap b ho T tc ns W hW hs hTW hn
 have C4 : Hid (∀ (t : Prs) O oc W, t.length ≤ 9 → BkAt W A L b → Arr W W.heap.size O (pairsV t) → Calls Try.prog 18 #[.agg (bkV A cap L lcap b).toArray, .slice O t.length oc] W fun e w' => e = .returned (.tuple #[.bool (decide (t ∈ b.ts)), .int .i64 0]) ∧ Below W.heap.size W w') := hid fun t O oc W ht hW hO => by
  have h := pIsTruth_any A cap L lcap b O oc (t.map castP) W hW hs (by rw [pairs_cast]; exact hO) (by rw [List.length_map]; omega)
  rw [is_truth ho, List.length_map] at h
  exact h
 obtain ⟨m, hm⟩ : ∃ m, b.ts.length = m := ⟨_, rfl⟩
 have C5 : Hid (∀ W, BkAt W A L b → Calls Try.prog 30 #[.agg (bkV A cap L lcap b).toArray] W fun e w' => e = .returned (.tuple #[.int .i64 m, .int .i64 0]) ∧ Below W.heap.size W w') := hid fun W hW => by
  have h := pTruths_any A cap L lcap b W hW hs
  unfold pTruthsR at h
  rw [ho, hm] at h
  exact h
 obtain ⟨J, hJ⟩ : ∃ J, pJoinedL b = J := ⟨_, rfl⟩
 obtain ⟨e, he⟩ : ∃ e, setE b true = e := ⟨_, rfl⟩
 obtain ⟨P, hP⟩ : ∃ P, pPeopleR b = P := ⟨_, rfl⟩
 have C6 : Hid (∀ W, BkAt W A L b → Calls Try.prog 19 #[.agg (bkV A cap L lcap b).toArray] W fun e' w' => (∃ Z c, e' = .returned (.tuple #[.slice Z J.length c, .int .i64 e]) ∧ Arr w' w'.heap.size Z (pairsV J)) ∧ Below W.heap.size W w') := hid fun W hW => by
  have h := pJoined_any A cap L lcap b W hW hs
  rw [hJ, he] at h
  exact h
 have C7 : Hid (∀ W, BkAt W A L b → Calls Try.prog 20 #[.agg (bkV A cap L lcap b).toArray] W fun e' w' => e' = .returned (.tuple #[.agg #[.int .i64 P.1, .int .i64 P.2], .int .i64 e]) ∧ Below W.heap.size W w') := hid fun W hW => by
  have h := pPeople_any A cap L lcap b W hW hs
  rw [hP, he] at h
  exact h
 have HM := hid hm
 have HJ := hid hJ
 have HE := hid he
 have HP := hid hP
 clear hm hJ he hP ho
 simp only [bkV] at C2 C3 C4 C5 C6 C7 ⊢
 refine enterE Try.func6 rfl Try.ntmps6 (by simp) (fun a hE => ?_); simp only [envOf, Nat.zero_add, Nat.reduceAdd] at hE
 refine Ks ?_
 refine Rs 2 fun Q' K hK => ?_
 refine M1 hE 0 fun K' Kh ρ q0 => ?_; go_simp; (try clear q0)
 refine Ln hE Kh fun _ Eb => ?_; clear Kh K' hE a
 refine M0 fun K' Kh ρ => ?_; go_simp;
 refine Ln Eb Kh fun _ Ea => ?_; clear Kh K' Eb
 refine late_done [1, 2] Ea hK (fun a hE => ?_); clear hK K Q' Ea; simp only [lk, pick, Nat.reduceEqDiff, ↓reduceIte] at hE
 obtain ⟨B, hBe⟩ : ∃ B, B = w.heap.size := ⟨_, rfl⟩; rw [← hBe] at hE; refine world_cut (fun wt => Below w.heap.size w wt ∧ Cells wt B (bkV A cap L lcap b)) ⟨(Below.refl _ _).alloc (Nat.le_refl _) _, by rw [hBe]; exact cells_new _ _ _⟩ (fun w1 hCut => ?_); obtain ⟨hbw1, hCB⟩ := hCut; clear hBe
 have hM1 := hM.below hbw1
 simp only [bkV] at hCB
 have nB := hCB.1; have cB0 := hCB.2 0 _ rfl; have cB1 := hCB.2 1 _ rfl; have cB2 := hCB.2 2 _ rfl; have cB3 := hCB.2 3 _ rfl; have cB4 := hCB.2 4 _ rfl; have cB5 := hCB.2 5 _ rfl; have cB6 := hCB.2 6 _ rfl
 refine Ks ?_
 refine Rs 3 fun Q' K hK => ?_
 refine M1 hE 2 fun K' Kh ρ q2 => ?_; go_simp; (try clear q2)
 refine Ln hE Kh fun _ Eb => ?_; clear Kh K' hE a
 refine M1 Eb 18 fun K' Kh ρ q18 => ?_; go_simp; (try go_bits); (try clear q18)
 go_at_call 16; refine (C2.out _ hM1).mono ?_; rintro e2 w2 ⟨rfl, h2⟩
 (try clear r18)
 refine Ln Eb Kh fun _ Ea => ?_; clear Kh K' Eb
 refine M1 Ea 19 fun K' Kh ρ q19 => ?_; go_simp; (try go_bits); (try simp (disch := omega) only [IntWalk.i64_in]); (try clear q19)
 refine Ln Ea Kh fun _ Eb => ?_; clear Kh K' Ea
 refine late_done [1, 2, 20] Eb hK (fun a hE => ?_); clear hK K Q' Eb; simp only [lk, pick, Nat.reduceEqDiff, ↓reduceIte] at hE
 have hb2 := hbw1.trans (h2.mono hbw1.size)
 replace hCB := hCB.below h2
 have hM2 := hM.below hb2
 have hT2 := (hT.below hb2).more hb2.size
 clear nB cB0 cB1 cB2 cB3 cB4 cB5 cB6 hM1 h2 hbw1
 have nB := hCB.1; have cB0 := hCB.2 0 _ rfl; have cB1 := hCB.2 1 _ rfl; have cB2 := hCB.2 2 _ rfl; have cB3 := hCB.2 3 _ rfl; have cB4 := hCB.2 4 _ rfl; have cB5 := hCB.2 5 _ rfl; have cB6 := hCB.2 6 _ rfl
 refine Ks ?_
 refine cond_no hE (t := 20) rfl ?_
 refine Ks ?_
 refine Rs 4 fun Q' K hK => ?_
 refine M1 hE 2 fun K' Kh ρ q2 => ?_; go_simp; (try clear q2)
 refine Ln hE Kh fun _ Eb => ?_; clear Kh K' hE a
 refine M1 Eb 1 fun K' Kh ρ q1 => ?_; go_simp; (try clear q1)
 refine Ln Eb Kh fun _ Ea => ?_; clear Kh K' Eb
 refine M2 Ea 22 23 fun K' Kh ρ q22 q23 => ?_; go_simp; (try go_bits); (try clear q22 q23)
 go_at_call 29; refine (C3.out _ hM2 hT2).mono ?_; rintro e3 w3 ⟨⟨O, oc, t, rfl, hOk, hO⟩, h3⟩
 (try clear r22 r23)
 refine Ln Ea Kh fun _ Eb => ?_; clear Kh K' Ea
 refine M1 Eb 24 fun K' Kh ρ q24 => ?_; go_simp; (try clear q24)
 refine Ln Eb Kh fun _ Ea => ?_; clear Kh K' Eb
 refine late_done [2, 5] Ea hK (fun a hE => ?_); clear hK K Q' Ea; simp only [lk, pick, Nat.reduceEqDiff, ↓reduceIte] at hE
 have ht9 : t.length ≤ 9 := by
  rcases hOk.len with h | h
  ·omega
  ·rw [h]; exact Nat.zero_le _
 have HOK := hid hOk
 clear hOk
 have hb3 := hb2.trans (h3.mono hb2.size)
 replace hCB := hCB.below h3
 have hM3 := hM.below hb3
 obtain ⟨q, hq⟩ : ∃ q, decide (t ∈ b.ts) = q := ⟨_, rfl⟩
 have C4' : Hid (∀ W, BkAt W A L b → Arr W W.heap.size O (pairsV t) → _) := hid fun W hW hO => C4.out t O oc W ht9 hW hO
 rw [hq] at C4'
 have HQ := hid hq
 clear nB cB0 cB1 cB2 cB3 cB4 cB5 cB6 hM2 hT2 h3 hb2 hq C4
 have nB := hCB.1; have cB0 := hCB.2 0 _ rfl; have cB1 := hCB.2 1 _ rfl; have cB2 := hCB.2 2 _ rfl; have cB3 := hCB.2 3 _ rfl; have cB4 := hCB.2 4 _ rfl; have cB5 := hCB.2 5 _ rfl; have cB6 := hCB.2 6 _ rfl
 refine Ks ?_
 refine Rs 8 fun Q' K hK => ?_
 refine M1 hE 2 fun K' Kh ρ q2 => ?_; go_simp; (try clear q2)
 refine Ln hE Kh fun _ Eb => ?_; clear Kh K' hE a
 refine M1 Eb 5 fun K' Kh ρ q5 => ?_; go_simp; (try clear q5)
 refine Ln Eb Kh fun _ Ea => ?_; clear Kh K' Eb
 refine M2 Ea 26 27 fun K' Kh ρ q26 q27 => ?_; go_simp; (try go_bits); (try clear q26 q27)
 go_at_call 18; refine (C4'.out _ hM3 hO).mono ?_; rintro e4 w4 ⟨rfl, h4⟩
 (try clear r26 r27)
 refine Ln Ea Kh fun _ Eb => ?_; clear Kh K' Ea
 refine M1 Eb 28 fun K' Kh ρ q28 => ?_; go_simp; (try clear q28)
 refine Ln Eb Kh fun _ Ea => ?_; clear Kh K' Eb
 refine M1 Ea 25 fun K' Kh ρ q25 => ?_; go_simp; (try clear q25)
 refine Ln Ea Kh fun _ Eb => ?_; clear Kh K' Ea
 refine M1 Eb 25 fun K' Kh ρ q25 => ?_; go_simp; (try clear q25)
 refine Ln Eb Kh fun _ Ea => ?_; clear Kh K' Eb
 refine M1 Ea 29 fun K' Kh ρ q29 => ?_; go_simp; (try clear q29)
 refine Ln Ea Kh fun _ Eb => ?_; clear Kh K' Ea
 refine M1 Eb 30 fun K' Kh ρ q30 => ?_; go_simp; (try clear q30)
 refine Ln Eb Kh fun _ Ea => ?_; clear Kh K' Eb
 refine late_done [2, 5, 6, 7] Ea hK (fun a hE => ?_); clear hK K Q' Ea; simp only [lk, pick, Nat.reduceEqDiff, ↓reduceIte] at hE
 have hb4 := hb3.trans (h4.mono hb3.size)
 replace hCB := hCB.below h4
 replace hO := (hO.below h4).more h4.size
 have hM4 := hM.below hb4
 clear nB cB0 cB1 cB2 cB3 cB4 cB5 cB6 hM3 h4 hb3
 have nB := hCB.1; have cB0 := hCB.2 0 _ rfl; have cB1 := hCB.2 1 _ rfl; have cB2 := hCB.2 2 _ rfl; have cB3 := hCB.2 3 _ rfl; have cB4 := hCB.2 4 _ rfl; have cB5 := hCB.2 5 _ rfl; have cB6 := hCB.2 6 _ rfl
 refine Ks ?_
 refine Rs 7 fun Q' K hK => ?_
 refine M1 hE 2 fun K' Kh ρ q2 => ?_; go_simp; (try clear q2)
 refine Ln hE Kh fun _ Eb => ?_; clear Kh K' hE a
 refine M1 Eb 32 fun K' Kh ρ q32 => ?_; go_simp; (try go_bits); (try clear q32)
 go_at_call 30; refine (C5.out _ hM4).mono ?_; rintro e5 w5 ⟨rfl, h5⟩
 (try clear r32)
 refine Ln Eb Kh fun _ Ea => ?_; clear Kh K' Eb
 refine M1 Ea 33 fun K' Kh ρ q33 => ?_; go_simp; (try clear q33)
 refine Ln Ea Kh fun _ Eb => ?_; clear Kh K' Ea
 refine M1 Eb 31 fun K' Kh ρ q31 => ?_; go_simp; (try clear q31)
 refine Ln Eb Kh fun _ Ea => ?_; clear Kh K' Eb
 refine M1 Ea 31 fun K' Kh ρ q31 => ?_; go_simp; (try clear q31)
 refine Ln Ea Kh fun _ Eb => ?_; clear Kh K' Ea
 refine M1 Eb 34 fun K' Kh ρ q34 => ?_; go_simp; (try clear q34)
 refine Ln Eb Kh fun _ Ea => ?_; clear Kh K' Eb
 refine M1 Ea 35 fun K' Kh ρ q35 => ?_; go_simp; (try clear q35)
 refine Ln Ea Kh fun _ Eb => ?_; clear Kh K' Ea
 refine late_done [2, 5, 6, 7, 8, 9] Eb hK (fun a hE => ?_); clear hK K Q' Eb; simp only [lk, pick, Nat.reduceEqDiff, ↓reduceIte] at hE
 have hb5 := hb4.trans (h5.mono hb4.size)
 replace hCB := hCB.below h5
 replace hO := (hO.below h5).more h5.size
 have hM5 := hM.below hb5
 clear nB cB0 cB1 cB2 cB3 cB4 cB5 cB6 hM4 h5 hb4
 have nB := hCB.1; have cB0 := hCB.2 0 _ rfl; have cB1 := hCB.2 1 _ rfl; have cB2 := hCB.2 2 _ rfl; have cB3 := hCB.2 3 _ rfl; have cB4 := hCB.2 4 _ rfl; have cB5 := hCB.2 5 _ rfl; have cB6 := hCB.2 6 _ rfl
 refine Ks ?_
 refine Rs 7 fun Q' K hK => ?_
 refine M1 hE 2 fun K' Kh ρ q2 => ?_; go_simp; (try clear q2)
 refine Ln hE Kh fun _ Eb => ?_; clear Kh K' hE a
 refine M1 Eb 37 fun K' Kh ρ q37 => ?_; go_simp; (try go_bits); (try clear q37)
 go_at_call 19; refine (C6.out _ hM5).mono ?_; rintro e6 w6 ⟨⟨Z, zc, rfl, hZ⟩, h6⟩
 (try clear r37)
 refine Ln Eb Kh fun _ Ea => ?_; clear Kh K' Eb
 refine M1 Ea 38 fun K' Kh ρ q38 => ?_; go_simp; (try clear q38)
 refine Ln Ea Kh fun _ Eb => ?_; clear Kh K' Ea
 refine M1 Eb 36 fun K' Kh ρ q36 => ?_; go_simp; (try clear q36)
 refine Ln Eb Kh fun _ Ea => ?_; clear Kh K' Eb
 refine M1 Ea 36 fun K' Kh ρ q36 => ?_; go_simp; (try clear q36)
 refine Ln Ea Kh fun _ Eb => ?_; clear Kh K' Ea
 refine M1 Eb 39 fun K' Kh ρ q39 => ?_; go_simp; (try clear q39)
 refine Ln Eb Kh fun _ Ea => ?_; clear Kh K' Eb
 refine M1 Ea 40 fun K' Kh ρ q40 => ?_; go_simp; (try clear q40)
 refine Ln Ea Kh fun _ Eb => ?_; clear Kh K' Ea
 refine late_done [2, 5, 6, 7, 8, 9, 10, 11] Eb hK (fun a hE => ?_); clear hK K Q' Eb; simp only [lk, pick, Nat.reduceEqDiff, ↓reduceIte] at hE
 have hb6 := hb5.trans (h6.mono hb5.size)
 replace hCB := hCB.below h6
 replace hO := (hO.below h6).more h6.size
 have hM6 := hM.below hb6
 clear nB cB0 cB1 cB2 cB3 cB4 cB5 cB6 hM5 h6 hb5
 have nB := hCB.1; have cB0 := hCB.2 0 _ rfl; have cB1 := hCB.2 1 _ rfl; have cB2 := hCB.2 2 _ rfl; have cB3 := hCB.2 3 _ rfl; have cB4 := hCB.2 4 _ rfl; have cB5 := hCB.2 5 _ rfl; have cB6 := hCB.2 6 _ rfl
 refine Ks ?_
 refine Rs 8 fun Q' K hK => ?_
 refine M1 hE 2 fun K' Kh ρ q2 => ?_; go_simp; (try clear q2)
 refine Ln hE Kh fun _ Eb => ?_; clear Kh K' hE a
 refine M1 Eb 42 fun K' Kh ρ q42 => ?_; go_simp; (try go_bits); (try clear q42)
 go_at_call 20; refine (C7.out _ hM6).mono ?_; rintro e7 w7 ⟨rfl, h7⟩
 (try clear r42)
 refine Ln Eb Kh fun _ Ea => ?_; clear Kh K' Eb
 refine M1 Ea 43 fun K' Kh ρ q43 => ?_; go_simp; (try clear q43)
 refine Ln Ea Kh fun _ Eb => ?_; clear Kh K' Ea
 refine M1 Eb 41 fun K' Kh ρ q41 => ?_; go_simp; (try clear q41)
 refine Ln Eb Kh fun _ Ea => ?_; clear Kh K' Eb
 refine M1 Ea 41 fun K' Kh ρ q41 => ?_; go_simp; (try clear q41)
 refine Ln Ea Kh fun _ Eb => ?_; clear Kh K' Ea
 refine M0 fun K' Kh ρ => ?_; go_simp;
 refine Ln Eb Kh fun _ Ea => ?_; clear Kh K' Eb
 refine M2 Ea 12 44 fun K' Kh ρ q12 q44 => ?_; go_simp; (try clear q12 q44)
 refine late_skip Ea Kh (fun _ Eb => ?_); clear Kh K'; clear Ea
 refine M1 Eb 45 fun K' Kh ρ q45 => ?_; go_simp; (try clear q45)
 refine Ln Eb Kh fun _ Ea => ?_; clear Kh K' Eb
 refine late_done [2, 5, 6, 7, 8, 9, 10, 11, 12, 13] Ea hK (fun a hE => ?_); clear hK K Q' Ea; simp only [lk, pick, Nat.reduceEqDiff, ↓reduceIte] at hE
 obtain ⟨S, hSe⟩ : ∃ B, B = w7.heap.size := ⟨_, rfl⟩; rw [← hSe] at hE; refine world_cut (fun wt => Below w7.heap.size w7 wt ∧ Cells wt S [.int .i64 P.1, .int .i64 P.2]) ⟨(Below.refl _ _).alloc (Nat.le_refl _) _, by rw [hSe]; exact cells_new _ _ _⟩ (fun w8 hCut => ?_); obtain ⟨hbw8, hCS⟩ := hCut; clear hSe
 have h68 := h7.trans (hbw8.mono h7.size)
 have hb8 := hb6.trans (h68.mono hb6.size)
 replace hCB := hCB.below h68
 replace hO := (hO.below h68).more h68.size
 replace hZ := (hZ.below h68).more h68.size
 have hM8 := hM.below hb8
 clear nB cB0 cB1 cB2 cB3 cB4 cB5 cB6 hM6 h7 hbw8 hb6
 have hH : ∀ W O oc, BkAt W A L b → Arr W W.heap.size O (pairsV t) → Calls Try.prog 31 #[.agg (bkV A cap L lcap b).toArray, .slice O t.length oc] W fun e w' => e = .returned (.bool q) ∧ Below W.heap.size W w' := fun W O oc hW hO => by
  have h := held_any A cap L lcap b HO.out O oc t HOK.out W hW hs hO
  rw [← in_ts HOK.out, HQ.out] at h
  exact h
 have hset := set_ok HO.out
 rw [HE.out, HM.out] at hset
 cases hqv : q
 ·rw [hqv] at hH hE
  by_cases hm0 : m = 0
  ·have hJ0 : J.length = 0 := by
    have : pJoinedL b = [] := by unfold pJoinedL; rw [HE.out, hset, if_pos hm0]; rfl
    rw [← HJ.out, this]; rfl
   rw [if_pos hm0] at hset
   rw [hset, hm0, hJ0] at hE
   exact truths_midA A cap L lcap b hs t (hid hH) O oc Z zc B S w w8 hM8 hb8 hCB hO _ (hE.keep [2, 5, 6, 7, 8, 9, 10, 11, 12, 13])
  ·rw [if_neg hm0] at hset
   rw [hset] at hE
   exact truths_midB A cap L lcap b hs t m (by omega) J (hid hH) O oc Z zc B S w w8 hM8 hb8 hCB hO _ (hE.keep [2, 5, 6, 7, 8, 9, 10, 11, 12, 13])
 ·rw [hqv] at hH hE
  have hts : t ∈ b.ts := of_decide_eq_true (HQ.out.trans hqv)
  have hm0 : ¬ m = 0 := fun e => by
   rw [← HM.out] at e
   rw [List.eq_nil_of_length_eq_zero e] at hts; cases hts
  rw [if_neg hm0] at hset
  rw [hset] at hE
  have hJ81 : J.length ≤ 81 := by rw [← HJ.out]; exact joined_len h9
  have hP2 := peo_in HO.out hts
  rw [HP.out] at hP2
  refine truths_midC A cap L lcap b hs t m (by omega) J hJ81 (hid hH) O oc Z zc B S w w8 hM8 hb8 hCB hO _ (hE.keep [2, 5, 6, 7, 8, 9, 10, 11, 12, 13]) (hid fun W a' hMW hbW hCW hEW => ?_)
  refine truths_loops A cap L lcap b hs h9 t J m P.1 P.2 ht9 hJ81 (hid fun k hk => ?_) (hid fun k hk => ?_) (hid hP2) O oc Z zc B S w W hMW (hb8.trans (hbW.mono hb8.size)) hCW (hCS.below hbW) ((hO.below hbW).more hbW.size) ((hZ.below hbW).more hbW.size) a' hEW
  ·exact join_in HO.out hts (by rw [HJ.out]; exact List.getElem_mem hk)
  ·obtain ⟨kk, k1, k2, k3⟩ := kind_in HO.out hts (List.getElem_mem hk)
   rw [HJ.out, HM.out] at k2
   refine ⟨kk, k1, k2, fun W hW => ?_⟩
   have h := pKind_any A cap L lcap b t[k].1 t[k].2 W hW hs
   rw [k3] at h
   exact h
theorem ntruths_any (T : Option Addr) (tc : Nat) (ns : List Int) (w : World) (hM : BkAt w A L b) (hs : b.small cap lcap) (hT : Arr w w.heap.size T (ints ns)) (hn : ns.length ≤ 9223372036854775807) : Calls Try.prog 6 #[.agg (bkV A cap L lcap b).toArray, .slice T ns.length tc] w fun e w' => e = .returned (.bool true) ∧ Below w.heap.size w w' := by
 cases ho : b.ok
 ·exact truths_bad A cap L lcap b ho T tc ns w hM hs
 ·exact truths_good A cap L lcap b ho T tc ns w hM hs hT hn
end
end Go.Proofs.Ytbimkcjdodgojaa
