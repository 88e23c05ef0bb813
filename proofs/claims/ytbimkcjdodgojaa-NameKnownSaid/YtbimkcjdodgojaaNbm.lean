/- Name: the closed law, its last parts. -/
import Derived.Test.YtbimkcjdodgojaaNbf
namespace Go.Proofs.Ytbimkcjdodgojaa
set_option linter.unusedSimpArgs false
set_option linter.unusedVariables false
open Go Go.RowKit
attribute [local go_sem high] cell_set_wr
attribute [local go_sem low] cell_wr frozen_wr
attribute [local go_sem] wr_set wr_drew wr_drewN wr_alloc wr_new

set_option maxRecDepth 100000
def zeroBk : Bk := ⟨⟨[], ⟨#[]⟩, 0⟩, [], 0, 0, 0⟩
theorem zero_small : zeroBk.small 0 0 := ⟨by decide, by decide, by decide, by decide, by decide, fun i h => absurd h (by simp [zeroBk])⟩
theorem zero_at (w : World) : BkAt w none none zeroBk := ⟨Arr.nil _ _ _, Arr.nil _ _ _⟩
section
variable {w : World} {A L : Option Addr}
theorem xNear {s t : ByteArray} {r e : Int} (hv : pNearR chEar s t = (r, e)) (hs : s.size ≤ 9223372036854775807) (ht : t.size ≤ 9223372036854775807) {G : Nat} (hG : Arr w w.heap.size (some ⟨G, 0, none⟩) (txts chEar.alike)) : Calls Try.prog 11 #[.agg #[.slice (some ⟨G, 0, none⟩) 2 2, .string ⟨#[104]⟩, .int .i64 1], .string s, .string t] w fun x w' => x = .returned (.tuple #[.int .i64 r, .int .i64 e]) ∧ Below w.heap.size w w' := by
 have h := pNear_any (some ⟨G, 0, none⟩) 2 chEar.alike ⟨#[104]⟩ 1 s t w hG (by decide) (by decide) (by decide) hs ht
 rw [show pNearR ⟨chEar.alike, ⟨#[104]⟩, 1⟩ s t = (r, e) from hv] at h
 exact h
theorem xKind {n x y r e : Int} (hv : pKindR (chBk n) x y = (r, e)) (hM : BkAt w A L (chBk n)) : Calls Try.prog 24 #[.agg (bkV A 2 L 5 (chBk n)).toArray, .int .i64 x, .int .i64 y] w fun z w' => z = .returned (.tuple #[.int .i64 r, .int .i64 e]) ∧ Below w.heap.size w w' := by
 have h := pKind_any A 2 L 5 (chBk n) x y w hM (ch_small n)
 rw [hv] at h
 exact h
theorem xCan {n x y e : Int} {r : Bool} (hv : pCanR (chBk n) x y = (r, e)) (hM : BkAt w A L (chBk n)) : Calls Try.prog 23 #[.agg (bkV A 2 L 5 (chBk n)).toArray, .int .i64 x, .int .i64 y] w fun z w' => z = .returned (.tuple #[.bool r, .int .i64 e]) ∧ Below w.heap.size w w' := by
 have h := pCan_any A 2 L 5 (chBk n) x y w hM (ch_small n)
 rw [hv] at h
 exact h
theorem xIs {n e : Int} {r : Bool} {ps : IPrs} {G c : Nat} (hv : pIsTruthR (chBk n) ps = (r, e)) (hp : ps.length ≤ 9) (hM : BkAt w A L (chBk n)) (hG : Arr w w.heap.size (some ⟨G, 0, none⟩) (pairsI ps)) : Calls Try.prog 18 #[.agg (bkV A 2 L 5 (chBk n)).toArray, .slice (some ⟨G, 0, none⟩) ps.length c] w fun z w' => z = .returned (.tuple #[.bool r, .int .i64 e]) ∧ Below w.heap.size w w' := by
 have h := pIsTruth_any A 2 L 5 (chBk n) (some ⟨G, 0, none⟩) c ps w hM (ch_small n) hG (by omega)
 rw [hv] at h
 exact h
theorem xTruths {n r e : Int} (hv : pTruthsR (chBk n) = (r, e)) (hM : BkAt w A L (chBk n)) : Calls Try.prog 30 #[.agg (bkV A 2 L 5 (chBk n)).toArray] w fun z w' => z = .returned (.tuple #[.int .i64 r, .int .i64 e]) ∧ Below w.heap.size w w' := by
 have h := pTruths_any A 2 L 5 (chBk n) w hM (ch_small n)
 rw [hv] at h
 exact h
theorem xJoined {n e : Int} {l : Prs} (h1 : setE (chBk n) true = e) (h2 : pJoinedL (chBk n) = l) (hM : BkAt w A L (chBk n)) : Calls Try.prog 19 #[.agg (bkV A 2 L 5 (chBk n)).toArray] w fun z w' => (∃ T c, z = .returned (.tuple #[.slice T l.length c, .int .i64 e])) ∧ Below w.heap.size w w' := by
 have h := pJoined_any A 2 L 5 (chBk n) w hM (ch_small n)
 rw [h1, h2] at h
 exact h.mono (by rintro z w' ⟨⟨T, c, rfl, _⟩, hb⟩; exact ⟨⟨T, c, rfl⟩, hb⟩)
theorem xPeople {n e x y : Int} (h1 : setE (chBk n) true = e) (h2 : pPeopleR (chBk n) = (x, y)) (hM : BkAt w A L (chBk n)) : Calls Try.prog 20 #[.agg (bkV A 2 L 5 (chBk n)).toArray] w fun z w' => z = .returned (.tuple #[.agg #[.int .i64 x, .int .i64 y], .int .i64 e]) ∧ Below w.heap.size w w' := by
 have h := pPeople_any A 2 L 5 (chBk n) w hM (ch_small n)
 rw [h1, h2] at h
 exact h
theorem xWrong {n e : Int} {l : List Nat} (h1 : bkE (chBk n) = e) (h2 : pWrongL (chBk n) = l) (hM : BkAt w A L (chBk n)) : Calls Try.prog 21 #[.agg (bkV A 2 L 5 (chBk n)).toArray] w fun z w' => (∃ T c, z = .returned (.tuple #[.slice T l.length c, .int .i64 e])) ∧ Below w.heap.size w w' := by
 have h := pWrong_any A 2 L 5 (chBk n) w hM (ch_small n)
 rw [h1, h2] at h
 exact h.mono (by rintro z w' ⟨⟨T, c, rfl, _⟩, hb⟩; exact ⟨⟨T, c, rfl⟩, hb⟩)
theorem xAsk {n r e : Int} (hv : pAskR (chBk n) = (r, e)) (hM : BkAt w A L (chBk n)) : Calls Try.prog 41 #[.agg (bkV A 2 L 5 (chBk n)).toArray] w fun z w' => z = .returned (.tuple #[.int .i64 r, .int .i64 e]) ∧ Below w.heap.size w w' := by
 have h := pAsk_any A 2 L 5 (chBk n) w hM (ch_small n)
 rw [hv] at h
 exact h
theorem zTruths (h : pTruthsR zeroBk = (1, 0)) : Calls Try.prog 30 #[.agg #[.slice none 0 0, .string ⟨#[]⟩, .int .i64 0, .slice none 0 0, .int .i64 0, .int .i64 0, .int .i64 0]] w fun z w' => z = .returned (.tuple #[.int .i64 1, .int .i64 0]) ∧ Below w.heap.size w w' := by
 have h' := pTruths_any none 0 none 0 zeroBk w (zero_at w) zero_small
 rw [h] at h'
 exact h'
theorem zAsk (h : pAskR zeroBk = (0, 4)) : Calls Try.prog 41 #[.agg #[.slice none 0 0, .string ⟨#[]⟩, .int .i64 0, .slice none 0 0, .int .i64 0, .int .i64 0, .int .i64 0]] w fun z w' => z = .returned (.tuple #[.int .i64 0, .int .i64 4]) ∧ Below w.heap.size w w' := by
 have h' := pAsk_any none 0 none 0 zeroBk w (zero_at w) zero_small
 rw [h] at h'
 exact h'
end
theorem kv55 : pKindR (chBk 1) 1 3 = (2, 0) := by decide +kernel
theorem kv56 : pKindR (chBk 1) 1 2 = (0, 0) := by decide +kernel
theorem kv57a : setE (chBk 1) true = 0 := by decide +kernel
theorem kv57b : pPeopleR (chBk 1) = (3, 3) := by decide +kernel
theorem kv58a : bkE (chBk 1) = 0 := by decide +kernel
theorem kv58b : pWrongL (chBk 1) = [] := by decide +kernel
theorem kv59 : pTruthsR (chBk 5) = (6, 0) := by decide +kernel
theorem kv60 : pTruthsR zeroBk = (1, 0) := by decide +kernel
theorem kv61 : pAskR zeroBk = (0, 4) := by decide +kernel
theorem kv62 : pAskR (chBk 1) = (0, 0) := by decide +kernel
theorem kv47 : pNearR chEar ⟨#[104, 97, 110, 115]⟩ ⟨#[97, 110, 115]⟩ = (0, 0) := by decide +kernel
theorem kv48 : pNearR chEar ⟨#[104, 104]⟩ ⟨#[104]⟩ = (0, 0) := by decide +kernel
theorem kv49 : pCanR (chBk 1) 2 4 = (false, 0) := by decide +kernel
theorem kv50 : pIsTruthR (chBk 1) [(1, 3), (0, 2)] = (false, 0) := by decide +kernel
theorem kv51 : pIsTruthR (chBk 1) [(0, 2)] = (false, 0) := by decide +kernel
theorem kv52 : pIsTruthR (chBk 1) [(0, 2), (1, 3)] = (true, 0) := by decide +kernel
theorem kv39 : pNearR chEar ⟨#[112, 101, 116, 101, 114]⟩ ⟨#[80, 101, 116, 101, 114]⟩ = (0, 21) := by decide +kernel
theorem kv40 : pNearR chEar ⟨#[98, 101, 116, 101, 114]⟩ ⟨#[112, 101, 100, 101, 114]⟩ = (0, 4) := by decide +kernel
theorem kv41 : pNearR chEar ⟨#[112, 101, 116, 101, 114]⟩ ⟨#[104, 97, 110, 115]⟩ = (0, 4) := by decide +kernel
theorem kv42 : pKindR (chBk 0) 0 2 = (0, 22) := by decide +kernel
theorem kv43a : setE (chBk 0) true = 22 := by decide +kernel
theorem kv43b : pJoinedL (chBk 0) = [] := by decide +kernel
theorem kv44 : pPeopleR (chBk 0) = (0, 0) := by decide +kernel
set_option maxHeartbeats 4000000 in
theorem known_c (w V : World) (hb : Below w.heap.size w V) (e : Env) (a : Act) (hE : Fits 562 e a) : (cr 28 (bodyOf Try.f10)).wp Try.prog (bodyPost Try.prog Try.f10 fun e w' => e = .returned (.bool true) ∧ Below w.heap.size w w') a V := by
 refine wp_seq ?_; (repeat with_reducible first|refine ctl ?_|refine miss ?_)
 refine Rs 7 fun Q' K hK => ?_
 refine Lp fun K' J => ?_
 refine op0 fun ρ qc qf qg => ?_; go_simp; (try go_bits); (try clear qc qf qg)
 go_at_call 43; refine (books_any 1 _).mono ?_; rintro e v1 ⟨⟨A, L, rfl, hM⟩, h1⟩
 refine Ln hE J fun a_1 E1 => ?_; clear J K' hE a
 refine Lp fun K' J => op1 (E1.at 458 rfl) fun ρ qc qf qg q458 => ?_; go_simp; (try go_bits); (try clear qc qf qg q458)
 go_at_call 24; refine (xKind (x := 1) (y := 3) kv55 hM).mono ?_; rintro e v2 ⟨rfl, h2⟩
 (try clear r458)
 refine Ln E1 J fun a_2 E2 => ?_; clear J K' E1
 refine Lp fun K' J => op1 (E2.at 459 rfl) fun ρ qc qf qg q459 => ?_; go_simp; (try clear qc qf qg q459)
 refine Ln E2 J fun a_3 E3 => ?_; clear J K' E2
 refine Lp fun K' J => op1 (E3.at 457 rfl) fun ρ qc qf qg q457 => ?_; go_simp; (try clear qc qf qg q457)
 refine Ln E3 J fun a_4 E4 => ?_; clear J K' E3
 refine Lp fun K' J => op1 (E4.at 457 rfl) fun ρ qc qf qg q457 => ?_; go_simp; (try clear qc qf qg q457)
 refine Ln E4 J fun a_5 E5 => ?_; clear J K' E4
 refine Lp fun K' J => op1 (E5.at 460 rfl) fun ρ qc qf qg q460 => ?_; go_simp; (try clear qc qf qg q460)
 refine Ln E5 J fun a_6 E6 => ?_; clear J K' E5
 refine Lp fun K' J => op1 (E6.at 461 rfl) fun ρ qc qf qg q461 => ?_; go_simp; (try clear qc qf qg q461)
 refine Ln E6 J fun a_7 E7 => ?_; clear J K' E6
 refine late_done [31, 48] E7 hK (fun a hE => ?_); clear hK K Q' E7; simp only [lk, pick, Nat.reduceEqDiff, ↓reduceIte] at hE
 have hx := (h1.trans (h2.mono h1.size))
 replace hb := hb.trans (hx.mono hb.size)
 clear hM h1 h2 hx
 (repeat with_reducible first|refine ctl ?_|refine miss ?_)
 refine Rs 7 fun Q' K hK => ?_
 refine Lp fun K' J => ?_
 refine op0 fun ρ qc qf qg => ?_; go_simp; (try go_bits); (try clear qc qf qg)
 go_at_call 43; refine (books_any 1 _).mono ?_; rintro e v3 ⟨⟨A, L, rfl, hM⟩, h1⟩
 refine Ln hE J fun a_1 E1 => ?_; clear J K' hE a
 refine Lp fun K' J => op1 (E1.at 463 rfl) fun ρ qc qf qg q463 => ?_; go_simp; (try go_bits); (try clear qc qf qg q463)
 go_at_call 24; refine (xKind (x := 1) (y := 2) kv56 hM).mono ?_; rintro e v4 ⟨rfl, h2⟩
 (try clear r463)
 refine Ln E1 J fun a_2 E2 => ?_; clear J K' E1
 refine Lp fun K' J => op1 (E2.at 464 rfl) fun ρ qc qf qg q464 => ?_; go_simp; (try clear qc qf qg q464)
 refine Ln E2 J fun a_3 E3 => ?_; clear J K' E2
 refine Lp fun K' J => op1 (E3.at 462 rfl) fun ρ qc qf qg q462 => ?_; go_simp; (try clear qc qf qg q462)
 refine Ln E3 J fun a_4 E4 => ?_; clear J K' E3
 refine Lp fun K' J => op1 (E4.at 462 rfl) fun ρ qc qf qg q462 => ?_; go_simp; (try clear qc qf qg q462)
 refine Ln E4 J fun a_5 E5 => ?_; clear J K' E4
 refine Lp fun K' J => op1 (E5.at 465 rfl) fun ρ qc qf qg q465 => ?_; go_simp; (try clear qc qf qg q465)
 refine Ln E5 J fun a_6 E6 => ?_; clear J K' E5
 refine Lp fun K' J => op1 (E6.at 466 rfl) fun ρ qc qf qg q466 => ?_; go_simp; (try clear qc qf qg q466)
 refine Ln E6 J fun a_7 E7 => ?_; clear J K' E6
 refine late_done [31, 33, 48, 49] E7 hK (fun a hE => ?_); clear hK K Q' E7; simp only [lk, pick, Nat.reduceEqDiff, ↓reduceIte] at hE
 have hx := (h1.trans (h2.mono h1.size))
 replace hb := hb.trans (hx.mono hb.size)
 clear hM h1 h2 hx
 (repeat with_reducible first|refine ctl ?_|refine miss ?_)
 refine Rs 8 fun Q' K hK => ?_
 refine Lp fun K' J => ?_
 refine op0 fun ρ qc qf qg => ?_; go_simp; (try go_bits); (try clear qc qf qg)
 go_at_call 43; refine (books_any 1 _).mono ?_; rintro e v5 ⟨⟨A, L, rfl, hM⟩, h1⟩
 refine Ln hE J fun a_1 E1 => ?_; clear J K' hE a
 refine Lp fun K' J => op1 (E1.at 468 rfl) fun ρ qc qf qg q468 => ?_; go_simp; (try go_bits); (try clear qc qf qg q468)
 go_at_call 20; refine (xPeople kv57a kv57b hM).mono ?_; rintro e v6 ⟨rfl, h2⟩
 (try clear r468)
 refine Ln E1 J fun a_2 E2 => ?_; clear J K' E1
 refine Lp fun K' J => op1 (E2.at 469 rfl) fun ρ qc qf qg q469 => ?_; go_simp; (try clear qc qf qg q469)
 refine Ln E2 J fun a_3 E3 => ?_; clear J K' E2
 refine Lp fun K' J => op1 (E3.at 467 rfl) fun ρ qc qf qg q467 => ?_; go_simp; (try clear qc qf qg q467)
 refine Ln E3 J fun a_4 E4 => ?_; clear J K' E3
 refine Lp fun K' J => op1 (E4.at 467 rfl) fun ρ qc qf qg q467 => ?_; go_simp; (try clear qc qf qg q467)
 refine Ln E4 J fun a_5 E5 => ?_; clear J K' E4
 refine Lp fun K' J => ?_
 refine op0 fun ρ qc qf qg => ?_; go_simp; (try clear qc qf qg)
 refine Ln E5 J fun a_6 E6 => ?_; clear J K' E5
 refine Lp fun K' J => ?_
 have r50 := E6.at 50 rfl; have r470 := E6.at 470 rfl
 refine op2 r50 r470 fun ρ qc qf qg q50 q470 => ?_; go_simp; (try clear qc qf qg r50 q50 r470 q470)
 (try clear r50 r470)
 refine late_skip E6 J (fun a_7 E7 => ?_); clear J K'; clear E6
 refine Lp fun K' J => op1 (E7.at 471 rfl) fun ρ qc qf qg q471 => ?_; go_simp; (try clear qc qf qg q471)
 refine Ln E7 J fun a_8 E8 => ?_; clear J K' E7
 refine late_done [31, 33, 35, 48, 49, 50] E8 hK (fun a hE => ?_); clear hK K Q' E8; simp only [lk, pick, Nat.reduceEqDiff, ↓reduceIte] at hE
 obtain ⟨S, hSe⟩ : ∃ B, B = v6.heap.size := ⟨_, rfl⟩; rw [← hSe] at hE; refine world_cut (fun wt => Below v6.heap.size v6 wt ∧ Cells wt S [.int .i64 3, .int .i64 3]) ⟨(Below.refl _ _).alloc (Nat.le_refl _) _, by rw [hSe]; exact cells_new _ _ _⟩ (fun v7 hCut => ?_); obtain ⟨hbv7, hCS⟩ := hCut; clear hSe
 have hx := (h1.trans ((h2.trans (hbv7.mono h2.size)).mono h1.size))
 replace hb := hb.trans (hx.mono hb.size)
 clear hM h1 h2 hx hbv7
 (repeat with_reducible first|refine ctl ?_|refine miss ?_)
 refine Rs 7 fun Q' K hK => ?_
 refine Lp fun K' J => ?_
 refine op0 fun ρ qc qf qg => ?_; go_simp; (try go_bits); (try clear qc qf qg)
 go_at_call 43; refine (books_any 1 _).mono ?_; rintro e v8 ⟨⟨A, L, rfl, hM⟩, h1⟩
 refine Ln hE J fun a_1 E1 => ?_; clear J K' hE a
 refine Lp fun K' J => op1 (E1.at 473 rfl) fun ρ qc qf qg q473 => ?_; go_simp; (try go_bits); (try clear qc qf qg q473)
 go_at_call 21; refine (xWrong kv58a kv58b hM).mono ?_; rintro e v9 ⟨⟨T, c, rfl⟩, h2⟩
 (try clear r473)
 refine Ln E1 J fun a_2 E2 => ?_; clear J K' E1
 refine Lp fun K' J => op1 (E2.at 474 rfl) fun ρ qc qf qg q474 => ?_; go_simp; (try clear qc qf qg q474)
 refine Ln E2 J fun a_3 E3 => ?_; clear J K' E2
 refine Lp fun K' J => op1 (E3.at 472 rfl) fun ρ qc qf qg q472 => ?_; go_simp; (try clear qc qf qg q472)
 refine Ln E3 J fun a_4 E4 => ?_; clear J K' E3
 refine Lp fun K' J => op1 (E4.at 472 rfl) fun ρ qc qf qg q472 => ?_; go_simp; (try clear qc qf qg q472)
 refine Ln E4 J fun a_5 E5 => ?_; clear J K' E4
 refine Lp fun K' J => op1 (E5.at 475 rfl) fun ρ qc qf qg q475 => ?_; go_simp; (try clear qc qf qg q475)
 refine Ln E5 J fun a_6 E6 => ?_; clear J K' E5
 refine Lp fun K' J => op1 (E6.at 476 rfl) fun ρ qc qf qg q476 => ?_; go_simp; (try clear qc qf qg q476)
 refine Ln E6 J fun a_7 E7 => ?_; clear J K' E6
 refine late_done [31, 33, 35, 37, 48, 49, 50, 51] E7 hK (fun a hE => ?_); clear hK K Q' E7; simp only [lk, pick, Nat.reduceEqDiff, ↓reduceIte] at hE
 have hx := (h1.trans (h2.mono h1.size))
 replace hb := hb.trans (hx.mono hb.size)
 replace hCS := hCS.below hx
 clear hM h1 h2 hx
 (repeat with_reducible first|refine ctl ?_|refine miss ?_)
 refine Rs 7 fun Q' K hK => ?_
 refine Lp fun K' J => ?_
 refine op0 fun ρ qc qf qg => ?_; go_simp; (try go_bits); (try clear qc qf qg)
 go_at_call 43; refine (books_any 5 _).mono ?_; rintro e v10 ⟨⟨A, L, rfl, hM⟩, h1⟩
 refine Ln hE J fun a_1 E1 => ?_; clear J K' hE a
 refine Lp fun K' J => op1 (E1.at 478 rfl) fun ρ qc qf qg q478 => ?_; go_simp; (try go_bits); (try clear qc qf qg q478)
 go_at_call 30; refine (xTruths kv59 hM).mono ?_; rintro e v11 ⟨rfl, h2⟩
 (try clear r478)
 refine Ln E1 J fun a_2 E2 => ?_; clear J K' E1
 refine Lp fun K' J => op1 (E2.at 479 rfl) fun ρ qc qf qg q479 => ?_; go_simp; (try clear qc qf qg q479)
 refine Ln E2 J fun a_3 E3 => ?_; clear J K' E2
 refine Lp fun K' J => op1 (E3.at 477 rfl) fun ρ qc qf qg q477 => ?_; go_simp; (try clear qc qf qg q477)
 refine Ln E3 J fun a_4 E4 => ?_; clear J K' E3
 refine Lp fun K' J => op1 (E4.at 477 rfl) fun ρ qc qf qg q477 => ?_; go_simp; (try clear qc qf qg q477)
 refine Ln E4 J fun a_5 E5 => ?_; clear J K' E4
 refine Lp fun K' J => op1 (E5.at 480 rfl) fun ρ qc qf qg q480 => ?_; go_simp; (try clear qc qf qg q480)
 refine Ln E5 J fun a_6 E6 => ?_; clear J K' E5
 refine Lp fun K' J => op1 (E6.at 481 rfl) fun ρ qc qf qg q481 => ?_; go_simp; (try clear qc qf qg q481)
 refine Ln E6 J fun a_7 E7 => ?_; clear J K' E6
 refine late_done [31, 33, 35, 37, 39, 48, 49, 50, 51, 52] E7 hK (fun a hE => ?_); clear hK K Q' E7; simp only [lk, pick, Nat.reduceEqDiff, ↓reduceIte] at hE
 have hx := (h1.trans (h2.mono h1.size))
 replace hb := hb.trans (hx.mono hb.size)
 replace hCS := hCS.below hx
 clear hM h1 h2 hx
 (repeat with_reducible first|refine ctl ?_|refine miss ?_)
 refine Rs 7 fun Q' K hK => ?_
 refine Lp fun K' J => ?_
 refine op0 fun ρ qc qf qg => ?_; go_simp; (try clear qc qf qg)
 refine Ln hE J fun a_1 E1 => ?_; clear J K' hE a
 refine Lp fun K' J => op1 (E1.at 483 rfl) fun ρ qc qf qg q483 => ?_; go_simp; (try go_bits); (try clear qc qf qg q483)
 go_at_call 30; refine (zTruths kv60).mono ?_; rintro e v12 ⟨rfl, h2⟩
 (try clear r483)
 refine Ln E1 J fun a_2 E2 => ?_; clear J K' E1
 refine Lp fun K' J => op1 (E2.at 484 rfl) fun ρ qc qf qg q484 => ?_; go_simp; (try clear qc qf qg q484)
 refine Ln E2 J fun a_3 E3 => ?_; clear J K' E2
 refine Lp fun K' J => op1 (E3.at 482 rfl) fun ρ qc qf qg q482 => ?_; go_simp; (try clear qc qf qg q482)
 refine Ln E3 J fun a_4 E4 => ?_; clear J K' E3
 refine Lp fun K' J => op1 (E4.at 482 rfl) fun ρ qc qf qg q482 => ?_; go_simp; (try clear qc qf qg q482)
 refine Ln E4 J fun a_5 E5 => ?_; clear J K' E4
 refine Lp fun K' J => op1 (E5.at 485 rfl) fun ρ qc qf qg q485 => ?_; go_simp; (try clear qc qf qg q485)
 refine Ln E5 J fun a_6 E6 => ?_; clear J K' E5
 refine Lp fun K' J => op1 (E6.at 486 rfl) fun ρ qc qf qg q486 => ?_; go_simp; (try clear qc qf qg q486)
 refine Ln E6 J fun a_7 E7 => ?_; clear J K' E6
 refine late_done [31, 33, 35, 37, 39, 41, 48, 49, 50, 51, 52, 53] E7 hK (fun a hE => ?_); clear hK K Q' E7; simp only [lk, pick, Nat.reduceEqDiff, ↓reduceIte] at hE
 have hx := h2
 replace hb := hb.trans (hx.mono hb.size)
 replace hCS := hCS.below hx
 clear h2 hx
 (repeat with_reducible first|refine ctl ?_|refine miss ?_)
 refine Rs 7 fun Q' K hK => ?_
 refine Lp fun K' J => ?_
 refine op0 fun ρ qc qf qg => ?_; go_simp; (try clear qc qf qg)
 refine Ln hE J fun a_1 E1 => ?_; clear J K' hE a
 refine Lp fun K' J => op1 (E1.at 488 rfl) fun ρ qc qf qg q488 => ?_; go_simp; (try go_bits); (try clear qc qf qg q488)
 go_at_call 41; refine (zAsk kv61).mono ?_; rintro e v13 ⟨rfl, h2⟩
 (try clear r488)
 refine Ln E1 J fun a_2 E2 => ?_; clear J K' E1
 refine Lp fun K' J => op1 (E2.at 489 rfl) fun ρ qc qf qg q489 => ?_; go_simp; (try clear qc qf qg q489)
 refine Ln E2 J fun a_3 E3 => ?_; clear J K' E2
 refine Lp fun K' J => op1 (E3.at 487 rfl) fun ρ qc qf qg q487 => ?_; go_simp; (try clear qc qf qg q487)
 refine Ln E3 J fun a_4 E4 => ?_; clear J K' E3
 refine Lp fun K' J => op1 (E4.at 487 rfl) fun ρ qc qf qg q487 => ?_; go_simp; (try clear qc qf qg q487)
 refine Ln E4 J fun a_5 E5 => ?_; clear J K' E4
 refine Lp fun K' J => op1 (E5.at 490 rfl) fun ρ qc qf qg q490 => ?_; go_simp; (try clear qc qf qg q490)
 refine Ln E5 J fun a_6 E6 => ?_; clear J K' E5
 refine Lp fun K' J => op1 (E6.at 491 rfl) fun ρ qc qf qg q491 => ?_; go_simp; (try clear qc qf qg q491)
 refine Ln E6 J fun a_7 E7 => ?_; clear J K' E6
 refine late_done [31, 33, 35, 37, 39, 41, 48, 49, 50, 51, 52, 53, 54, 55] E7 hK (fun a hE => ?_); clear hK K Q' E7; simp only [lk, pick, Nat.reduceEqDiff, ↓reduceIte] at hE
 have hx := h2
 replace hb := hb.trans (hx.mono hb.size)
 replace hCS := hCS.below hx
 clear h2 hx
 (repeat with_reducible first|refine ctl ?_|refine miss ?_)
 refine Rs 7 fun Q' K hK => ?_
 refine Lp fun K' J => ?_
 refine op0 fun ρ qc qf qg => ?_; go_simp; (try go_bits); (try clear qc qf qg)
 go_at_call 43; refine (books_any 1 _).mono ?_; rintro e v14 ⟨⟨A, L, rfl, hM⟩, h1⟩
 refine Ln hE J fun a_1 E1 => ?_; clear J K' hE a
 refine Lp fun K' J => op1 (E1.at 493 rfl) fun ρ qc qf qg q493 => ?_; go_simp; (try go_bits); (try clear qc qf qg q493)
 go_at_call 41; refine (xAsk kv62 hM).mono ?_; rintro e v15 ⟨rfl, h2⟩
 (try clear r493)
 refine Ln E1 J fun a_2 E2 => ?_; clear J K' E1
 refine Lp fun K' J => op1 (E2.at 494 rfl) fun ρ qc qf qg q494 => ?_; go_simp; (try clear qc qf qg q494)
 refine Ln E2 J fun a_3 E3 => ?_; clear J K' E2
 refine Lp fun K' J => op1 (E3.at 492 rfl) fun ρ qc qf qg q492 => ?_; go_simp; (try clear qc qf qg q492)
 refine Ln E3 J fun a_4 E4 => ?_; clear J K' E3
 refine Lp fun K' J => op1 (E4.at 492 rfl) fun ρ qc qf qg q492 => ?_; go_simp; (try clear qc qf qg q492)
 refine Ln E4 J fun a_5 E5 => ?_; clear J K' E4
 refine Lp fun K' J => op1 (E5.at 495 rfl) fun ρ qc qf qg q495 => ?_; go_simp; (try clear qc qf qg q495)
 refine Ln E5 J fun a_6 E6 => ?_; clear J K' E5
 refine Lp fun K' J => op1 (E6.at 496 rfl) fun ρ qc qf qg q496 => ?_; go_simp; (try clear qc qf qg q496)
 refine Ln E6 J fun a_7 E7 => ?_; clear J K' E6
 refine late_done [31, 33, 35, 37, 39, 41, 48, 49, 50, 51, 52, 53, 54, 55, 56, 57] E7 hK (fun a hE => ?_); clear hK K Q' E7; simp only [lk, pick, Nat.reduceEqDiff, ↓reduceIte] at hE
 have hx := (h1.trans (h2.mono h1.size))
 replace hb := hb.trans (hx.mono hb.size)
 replace hCS := hCS.below hx
 clear hM h1 h2 hx
 (repeat with_reducible first|refine ctl ?_|refine miss ?_)
 have nS := hCS.1; have cS0 := hCS.2 0 _ rfl; have cS1 := hCS.2 1 _ rfl
 refine Rd [65] (fun wt => Below v15.heap.size v15 wt) (fun w1 w2 => Below w1.heap.size w1 w2) [(0, some 497), (1, some 498), (2, some 499), (3, some 500), (4, some 501), (5, some 502), (6, some 503), (7, some 504), (8, some 505), (9, some 506), (10, some 507), (11, some 508), (12, some 509), (13, some 510), (14, some 511), (15, some 512), (16, some 513), (17, some 514), (18, some 515), (19, some 516), (20, some 517), (21, some 518), (22, some 519), (23, some 520), (24, some 521), (25, some 522), (26, some 523), (27, some 524), (28, some 525), (29, some 526), (30, some 527), (31, some 528), (32, some 529), (33, some 530), (34, some 531), (35, some 532), (36, some 533), (37, some 534), (38, some 535), (39, some 536), (40, some 537), (41, some 538), (42, some 539), (43, some 540), (44, some 541), (45, some 542), (46, some 543), (47, some 544), (48, some 545), (49, some 546), (50, some 547), (51, some 548), (52, some 549), (53, some 550), (54, some 551), (55, some 552), (56, some 553), (57, some 554), (58, some 555), (59, some 556), (60, some 557), (61, some 558), (62, some 559), (63, some 560), (64, some 561)] [497, 498, 499, 500, 501, 502, 503, 504, 505, 506, 507, 508, 509, 510, 511, 512, 513, 514, 515, 516, 517, 518, 519, 520, 521, 522, 523, 524, 525, 526, 527, 528, 529, 530, 531, 532, 533, 534, 535, 536, 537, 538, 539, 540, 541, 542, 543, 544, 545, 546, 547, 548, 549, 550, 551, 552, 553, 554, 555, 556, 557, 558, 559, 560, 561] #[true, true, true, true, true, true, true, true, true, true, true, true, true, true, true, true, true, true, true, true, true, true, true, true, true, true, true, true, true, true, true, true, true, true, true, true, true, true, true, true, true, true, true, true, true, true, true, true, true, true, true, true, true, true, true, true, true, true, true, true, true, true, true, true, true, false] [0] hE ((Below.refl _ _).drew) fun Q' K hK => ?_
 refine SeqOps.val ?_ (Sp fun ax wx hS hT' hd K' J => ?_) ?_; rotate_left 1
 ·have r31 := hS.at 31 (by decide) (hE.at 31 rfl); obtain ⟨hcT, hfT, hlT, hmT, hwT, hzT⟩ := bT hT'
  refine op1 r31 fun ρ qc qf qg q31 => ?_; go_simp;
  refine J.out _ _ _ rfl ?_ hT' (Below.refl _ _); rfl
 refine SeqOps.val ?_ (Sp fun ax wx hS hT' hd K' J => ?_) ?_; rotate_left 1
 ·have r497 := Tv hd 0 0 497; obtain ⟨hcT, hfT, hlT, hmT, hwT, hzT⟩ := bT hT'
  refine op1 r497 fun ρ qc qf qg q497 => ?_; go_simp; (try go_bits);
  refine J.out _ _ _ rfl ?_ hT' (Below.refl _ _); rfl
 refine SeqOps.val ?_ (Sp fun ax wx hS hT' hd K' J => ?_) ?_; rotate_left 1
 ·have r498 := Tv hd 0 1 498; obtain ⟨hcT, hfT, hlT, hmT, hwT, hzT⟩ := bT hT'
  refine op1 r498 fun ρ qc qf qg q498 => ?_; go_simp;
  refine J.out _ _ _ rfl ?_ hT' (Below.refl _ _); rfl
 refine SeqOps.val ?_ (Sy 0 499 fun ax wx hS hT' hd K' J => ?_) ?_; rotate_left 1
 ·have r48 := hS.at 48 (by decide) (hE.at 48 rfl); obtain ⟨hcT, hfT, hlT, hmT, hwT, hzT⟩ := bT hT'
  refine op1 r48 fun ρ qc qf qg q48 => ?_; go_simp;
  refine J.out _ _ _ rfl ?_ hT' (Below.refl _ _); rfl
 refine SeqOps.val ?_ (Sy 1 499 fun ax wx hS hT' hd K' J => ?_) ?_; rotate_left 1
 ·have r500 := Tv hd 0 3 500; obtain ⟨hcT, hfT, hlT, hmT, hwT, hzT⟩ := bT hT'
  refine op1 r500 fun ρ qc qf qg q500 => ?_; go_simp; (try go_bits);
  refine J.out _ _ _ rfl ?_ hT' (Below.refl _ _); rfl
 refine SeqOps.val ?_ (Sp fun ax wx hS hT' hd K' J => ?_) ?_; rotate_left 1
 ·have r499 := Tv hd 2 2 499; have r501 := Tv hd 0 4 501; obtain ⟨hcT, hfT, hlT, hmT, hwT, hzT⟩ := bT hT'
  refine op2 r499 r501 fun ρ qc qf qg q499 q501 => ?_; go_simp; (try go_bits);
  refine J.out _ _ _ rfl ?_ hT' (Below.refl _ _); rfl
 refine SeqOps.val ?_ (Sp fun ax wx hS hT' hd K' J => ?_) ?_; rotate_left 1
 ·have r502 := Tv hd 0 5 502; obtain ⟨hcT, hfT, hlT, hmT, hwT, hzT⟩ := bT hT'
  refine op1 r502 fun ρ qc qf qg q502 => ?_; go_simp;
  refine J.out _ _ _ rfl ?_ hT' (Below.refl _ _); rfl
 refine SeqOps.val ?_ (Sy 0 503 fun ax wx hS hT' hd K' J => ?_) ?_; rotate_left 1
 ·have r33 := hS.at 33 (by decide) (hE.at 33 rfl); obtain ⟨hcT, hfT, hlT, hmT, hwT, hzT⟩ := bT hT'
  refine op1 r33 fun ρ qc qf qg q33 => ?_; go_simp;
  refine J.out _ _ _ rfl ?_ hT' (Below.refl _ _); rfl
 refine SeqOps.val ?_ (Sy 1 503 fun ax wx hS hT' hd K' J => ?_) ?_; rotate_left 1
 ·have r504 := Tv hd 0 7 504; obtain ⟨hcT, hfT, hlT, hmT, hwT, hzT⟩ := bT hT'
  refine op1 r504 fun ρ qc qf qg q504 => ?_; go_simp; (try go_bits);
  refine J.out _ _ _ rfl ?_ hT' (Below.refl _ _); rfl
 refine SeqOps.val ?_ (Sp fun ax wx hS hT' hd K' J => ?_) ?_; rotate_left 1
 ·have r503 := Tv hd 2 6 503; have r505 := Tv hd 0 8 505; obtain ⟨hcT, hfT, hlT, hmT, hwT, hzT⟩ := bT hT'
  refine op2 r503 r505 fun ρ qc qf qg q503 q505 => ?_; go_simp; (try go_bits);
  refine J.out _ _ _ rfl ?_ hT' (Below.refl _ _); rfl
 refine SeqOps.val ?_ (Sp fun ax wx hS hT' hd K' J => ?_) ?_; rotate_left 1
 ·have r506 := Tv hd 0 9 506; obtain ⟨hcT, hfT, hlT, hmT, hwT, hzT⟩ := bT hT'
  refine op1 r506 fun ρ qc qf qg q506 => ?_; go_simp;
  refine J.out _ _ _ rfl ?_ hT' (Below.refl _ _); rfl
 refine SeqOps.val ?_ (Sy 0 507 fun ax wx hS hT' hd K' J => ?_) ?_; rotate_left 1
 ·have r49 := hS.at 49 (by decide) (hE.at 49 rfl); obtain ⟨hcT, hfT, hlT, hmT, hwT, hzT⟩ := bT hT'
  refine op1 r49 fun ρ qc qf qg q49 => ?_; go_simp;
  refine J.out _ _ _ rfl ?_ hT' (Below.refl _ _); rfl
 refine SeqOps.val ?_ (Sy 1 507 fun ax wx hS hT' hd K' J => ?_) ?_; rotate_left 1
 ·have r508 := Tv hd 0 11 508; obtain ⟨hcT, hfT, hlT, hmT, hwT, hzT⟩ := bT hT'
  refine op1 r508 fun ρ qc qf qg q508 => ?_; go_simp; (try go_bits);
  refine J.out _ _ _ rfl ?_ hT' (Below.refl _ _); rfl
 refine SeqOps.val ?_ (Sp fun ax wx hS hT' hd K' J => ?_) ?_; rotate_left 1
 ·have r507 := Tv hd 2 10 507; have r509 := Tv hd 0 12 509; obtain ⟨hcT, hfT, hlT, hmT, hwT, hzT⟩ := bT hT'
  refine op2 r507 r509 fun ρ qc qf qg q507 q509 => ?_; go_simp; (try go_bits);
  refine J.out _ _ _ rfl ?_ hT' (Below.refl _ _); rfl
 refine SeqOps.val ?_ (Sp fun ax wx hS hT' hd K' J => ?_) ?_; rotate_left 1
 ·have r510 := Tv hd 0 13 510; obtain ⟨hcT, hfT, hlT, hmT, hwT, hzT⟩ := bT hT'
  refine op1 r510 fun ρ qc qf qg q510 => ?_; go_simp;
  refine J.out _ _ _ rfl ?_ hT' (Below.refl _ _); rfl
 refine SeqOps.val ?_ (Sy 0 511 fun ax wx hS hT' hd K' J => ?_) ?_; rotate_left 1
 ·have r35 := hS.at 35 (by decide) (hE.at 35 rfl); obtain ⟨hcT, hfT, hlT, hmT, hwT, hzT⟩ := bT hT'
  refine op1 r35 fun ρ qc qf qg q35 => ?_; go_simp;
  refine J.out _ _ _ rfl ?_ hT' (Below.refl _ _); rfl
 refine SeqOps.val ?_ (Sy 1 511 fun ax wx hS hT' hd K' J => ?_) ?_; rotate_left 1
 ·have r512 := Tv hd 0 15 512; obtain ⟨hcT, hfT, hlT, hmT, hwT, hzT⟩ := bT hT'
  refine op1 r512 fun ρ qc qf qg q512 => ?_; go_simp; (try go_bits);
  refine J.out _ _ _ rfl ?_ hT' (Below.refl _ _); rfl
 refine SeqOps.val ?_ (Sp fun ax wx hS hT' hd K' J => ?_) ?_; rotate_left 1
 ·have r511 := Tv hd 2 14 511; have r513 := Tv hd 0 16 513; obtain ⟨hcT, hfT, hlT, hmT, hwT, hzT⟩ := bT hT'
  refine op2 r511 r513 fun ρ qc qf qg q511 q513 => ?_; go_simp; (try go_bits);
  refine J.out _ _ _ rfl ?_ hT' (Below.refl _ _); rfl
 refine SeqOps.val ?_ (Sp fun ax wx hS hT' hd K' J => ?_) ?_; rotate_left 1
 ·have r514 := Tv hd 0 17 514; obtain ⟨hcT, hfT, hlT, hmT, hwT, hzT⟩ := bT hT'
  refine op1 r514 fun ρ qc qf qg q514 => ?_; go_simp;
  refine J.out _ _ _ rfl ?_ hT' (Below.refl _ _); rfl
 refine SeqOps.val ?_ (Sy 0 515 fun ax wx hS hT' hd K' J => ?_) ?_; rotate_left 1
 ·have r50 := hS.at 50 (by decide) (hE.at 50 rfl); obtain ⟨hcT, hfT, hlT, hmT, hwT, hzT⟩ := bT hT'
  refine op1 r50 fun ρ qc qf qg q50 => ?_; go_simp;
  refine J.out _ _ _ rfl ?_ hT' (Below.refl _ _); rfl
 refine SeqOps.val ?_ (Sy 1 515 fun ax wx hS hT' hd K' J => ?_) ?_; rotate_left 1
 ·obtain ⟨hcT, hfT, hlT, hmT, hwT, hzT⟩ := bT hT'
  refine op0 fun ρ qc qf qg => ?_; go_simp; (try go_bits);
  go_at_call 39; refine (to_any _ _ _).mono ?_; rintro e g1 ⟨rfl, k1⟩
  refine J.out _ _ _ rfl ?_ (hT'.trans (k1.mono hT'.size)) k1; rfl
 refine SeqOps.val ?_ (Sy 2 515 fun ax wx hS hT' hd K' J => ?_) ?_; rotate_left 1
 ·have r516 := Tv hd 1 19 516; have r517 := Tv hd 0 20 517; obtain ⟨hcT, hfT, hlT, hmT, hwT, hzT⟩ := bT hT'
  refine op2 r516 r517 fun ρ qc qf qg q516 q517 => ?_; go_simp; (try go_bits);
  refine J.out _ _ _ rfl ?_ hT' (Below.refl _ _); rfl
 refine SeqOps.val ?_ (Sp fun ax wx hS hT' hd K' J => ?_) ?_; rotate_left 1
 ·have r515 := Tv hd 3 18 515; have r518 := Tv hd 0 21 518; obtain ⟨hcT, hfT, hlT, hmT, hwT, hzT⟩ := bT hT'
  refine op2 r515 r518 fun ρ qc qf qg q515 q518 => ?_; go_simp; (try go_bits);
  refine J.out _ _ _ rfl ?_ hT' (Below.refl _ _); rfl
 refine SeqOps.val ?_ (Sp fun ax wx hS hT' hd K' J => ?_) ?_; rotate_left 1
 ·have r519 := Tv hd 0 22 519; obtain ⟨hcT, hfT, hlT, hmT, hwT, hzT⟩ := bT hT'
  refine op1 r519 fun ρ qc qf qg q519 => ?_; go_simp;
  refine J.out _ _ _ rfl ?_ hT' (Below.refl _ _); rfl
 refine SeqOps.val ?_ (Sy 0 520 fun ax wx hS hT' hd K' J => ?_) ?_; rotate_left 1
 ·have r37 := hS.at 37 (by decide) (hE.at 37 rfl); obtain ⟨hcT, hfT, hlT, hmT, hwT, hzT⟩ := bT hT'
  refine op1 r37 fun ρ qc qf qg q37 => ?_; go_simp;
  refine J.out _ _ _ rfl ?_ hT' (Below.refl _ _); rfl
 refine SeqOps.val ?_ (Sy 1 520 fun ax wx hS hT' hd K' J => ?_) ?_; rotate_left 1
 ·have r521 := Tv hd 0 24 521; obtain ⟨hcT, hfT, hlT, hmT, hwT, hzT⟩ := bT hT'
  refine op1 r521 fun ρ qc qf qg q521 => ?_; go_simp; (try go_bits);
  refine J.out _ _ _ rfl ?_ hT' (Below.refl _ _); rfl
 refine SeqOps.val ?_ (Sp fun ax wx hS hT' hd K' J => ?_) ?_; rotate_left 1
 ·have r520 := Tv hd 2 23 520; have r522 := Tv hd 0 25 522; obtain ⟨hcT, hfT, hlT, hmT, hwT, hzT⟩ := bT hT'
  refine op2 r520 r522 fun ρ qc qf qg q520 q522 => ?_; go_simp; (try go_bits);
  refine J.out _ _ _ rfl ?_ hT' (Below.refl _ _); rfl
 refine SeqOps.val ?_ (Sp fun ax wx hS hT' hd K' J => ?_) ?_; rotate_left 1
 ·have r523 := Tv hd 0 26 523; obtain ⟨hcT, hfT, hlT, hmT, hwT, hzT⟩ := bT hT'
  refine op1 r523 fun ρ qc qf qg q523 => ?_; go_simp;
  refine J.out _ _ _ rfl ?_ hT' (Below.refl _ _); rfl
 refine SeqOps.val ?_ (Sy 0 524 fun ax wx hS hT' hd K' J => ?_) ?_; rotate_left 1
 ·have r51 := hS.at 51 (by decide) (hE.at 51 rfl); obtain ⟨hcT, hfT, hlT, hmT, hwT, hzT⟩ := bT hT'
  refine op1 r51 fun ρ qc qf qg q51 => ?_; go_simp;
  refine J.out _ _ _ rfl ?_ hT' (Below.refl _ _); rfl
 refine SeqOps.val ?_ (Sy 1 524 fun ax wx hS hT' hd K' J => ?_) ?_; rotate_left 1
 ·have r525 := Tv hd 0 28 525; obtain ⟨hcT, hfT, hlT, hmT, hwT, hzT⟩ := bT hT'
  refine op1 r525 fun ρ qc qf qg q525 => ?_; go_simp; (try go_bits);
  refine J.out _ _ _ rfl ?_ hT' (Below.refl _ _); rfl
 refine SeqOps.val ?_ (Sy 2 524 fun ax wx hS hT' hd K' J => ?_) ?_; rotate_left 1
 ·have r526 := Tv hd 0 29 526; obtain ⟨hcT, hfT, hlT, hmT, hwT, hzT⟩ := bT hT'
  refine op1 r526 fun ρ qc qf qg q526 => ?_; go_simp; (try go_bits);
  refine J.out _ _ _ rfl ?_ hT' (Below.refl _ _); rfl
 refine SeqOps.val ?_ (Sp fun ax wx hS hT' hd K' J => ?_) ?_; rotate_left 1
 ·have r524 := Tv hd 3 27 524; have r527 := Tv hd 0 30 527; obtain ⟨hcT, hfT, hlT, hmT, hwT, hzT⟩ := bT hT'
  refine op2 r524 r527 fun ρ qc qf qg q524 q527 => ?_; go_simp; (try go_bits);
  refine J.out _ _ _ rfl ?_ hT' (Below.refl _ _); rfl
 refine SeqOps.val ?_ (Sp fun ax wx hS hT' hd K' J => ?_) ?_; rotate_left 1
 ·have r528 := Tv hd 0 31 528; obtain ⟨hcT, hfT, hlT, hmT, hwT, hzT⟩ := bT hT'
  refine op1 r528 fun ρ qc qf qg q528 => ?_; go_simp;
  refine J.out _ _ _ rfl ?_ hT' (Below.refl _ _); rfl
 refine SeqOps.val ?_ (Sy 0 529 fun ax wx hS hT' hd K' J => ?_) ?_; rotate_left 1
 ·have r39 := hS.at 39 (by decide) (hE.at 39 rfl); obtain ⟨hcT, hfT, hlT, hmT, hwT, hzT⟩ := bT hT'
  refine op1 r39 fun ρ qc qf qg q39 => ?_; go_simp;
  refine J.out _ _ _ rfl ?_ hT' (Below.refl _ _); rfl
 refine SeqOps.val ?_ (Sy 1 529 fun ax wx hS hT' hd K' J => ?_) ?_; rotate_left 1
 ·have r530 := Tv hd 0 33 530; obtain ⟨hcT, hfT, hlT, hmT, hwT, hzT⟩ := bT hT'
  refine op1 r530 fun ρ qc qf qg q530 => ?_; go_simp; (try go_bits);
  refine J.out _ _ _ rfl ?_ hT' (Below.refl _ _); rfl
 refine SeqOps.val ?_ (Sp fun ax wx hS hT' hd K' J => ?_) ?_; rotate_left 1
 ·have r529 := Tv hd 2 32 529; have r531 := Tv hd 0 34 531; obtain ⟨hcT, hfT, hlT, hmT, hwT, hzT⟩ := bT hT'
  refine op2 r529 r531 fun ρ qc qf qg q529 q531 => ?_; go_simp; (try go_bits);
  refine J.out _ _ _ rfl ?_ hT' (Below.refl _ _); rfl
 refine SeqOps.val ?_ (Sp fun ax wx hS hT' hd K' J => ?_) ?_; rotate_left 1
 ·have r532 := Tv hd 0 35 532; obtain ⟨hcT, hfT, hlT, hmT, hwT, hzT⟩ := bT hT'
  refine op1 r532 fun ρ qc qf qg q532 => ?_; go_simp;
  refine J.out _ _ _ rfl ?_ hT' (Below.refl _ _); rfl
 refine SeqOps.val ?_ (Sy 0 533 fun ax wx hS hT' hd K' J => ?_) ?_; rotate_left 1
 ·have r52 := hS.at 52 (by decide) (hE.at 52 rfl); obtain ⟨hcT, hfT, hlT, hmT, hwT, hzT⟩ := bT hT'
  refine op1 r52 fun ρ qc qf qg q52 => ?_; go_simp;
  refine J.out _ _ _ rfl ?_ hT' (Below.refl _ _); rfl
 refine SeqOps.val ?_ (Sy 1 533 fun ax wx hS hT' hd K' J => ?_) ?_; rotate_left 1
 ·have r534 := Tv hd 0 37 534; obtain ⟨hcT, hfT, hlT, hmT, hwT, hzT⟩ := bT hT'
  refine op1 r534 fun ρ qc qf qg q534 => ?_; go_simp; (try go_bits);
  refine J.out _ _ _ rfl ?_ hT' (Below.refl _ _); rfl
 refine SeqOps.val ?_ (Sp fun ax wx hS hT' hd K' J => ?_) ?_; rotate_left 1
 ·have r533 := Tv hd 2 36 533; have r535 := Tv hd 0 38 535; obtain ⟨hcT, hfT, hlT, hmT, hwT, hzT⟩ := bT hT'
  refine op2 r533 r535 fun ρ qc qf qg q533 q535 => ?_; go_simp; (try go_bits);
  refine J.out _ _ _ rfl ?_ hT' (Below.refl _ _); rfl
 refine SeqOps.val ?_ (Sp fun ax wx hS hT' hd K' J => ?_) ?_; rotate_left 1
 ·have r536 := Tv hd 0 39 536; obtain ⟨hcT, hfT, hlT, hmT, hwT, hzT⟩ := bT hT'
  refine op1 r536 fun ρ qc qf qg q536 => ?_; go_simp;
  refine J.out _ _ _ rfl ?_ hT' (Below.refl _ _); rfl
 refine SeqOps.val ?_ (Sy 0 537 fun ax wx hS hT' hd K' J => ?_) ?_; rotate_left 1
 ·have r41 := hS.at 41 (by decide) (hE.at 41 rfl); obtain ⟨hcT, hfT, hlT, hmT, hwT, hzT⟩ := bT hT'
  refine op1 r41 fun ρ qc qf qg q41 => ?_; go_simp;
  refine J.out _ _ _ rfl ?_ hT' (Below.refl _ _); rfl
 refine SeqOps.val ?_ (Sy 1 537 fun ax wx hS hT' hd K' J => ?_) ?_; rotate_left 1
 ·have r538 := Tv hd 0 41 538; obtain ⟨hcT, hfT, hlT, hmT, hwT, hzT⟩ := bT hT'
  refine op1 r538 fun ρ qc qf qg q538 => ?_; go_simp; (try go_bits);
  refine J.out _ _ _ rfl ?_ hT' (Below.refl _ _); rfl
 refine SeqOps.val ?_ (Sp fun ax wx hS hT' hd K' J => ?_) ?_; rotate_left 1
 ·have r537 := Tv hd 2 40 537; have r539 := Tv hd 0 42 539; obtain ⟨hcT, hfT, hlT, hmT, hwT, hzT⟩ := bT hT'
  refine op2 r537 r539 fun ρ qc qf qg q537 q539 => ?_; go_simp; (try go_bits);
  refine J.out _ _ _ rfl ?_ hT' (Below.refl _ _); rfl
 refine SeqOps.val ?_ (Sp fun ax wx hS hT' hd K' J => ?_) ?_; rotate_left 1
 ·have r540 := Tv hd 0 43 540; obtain ⟨hcT, hfT, hlT, hmT, hwT, hzT⟩ := bT hT'
  refine op1 r540 fun ρ qc qf qg q540 => ?_; go_simp;
  refine J.out _ _ _ rfl ?_ hT' (Below.refl _ _); rfl
 refine SeqOps.val ?_ (Sy 0 541 fun ax wx hS hT' hd K' J => ?_) ?_; rotate_left 1
 ·have r53 := hS.at 53 (by decide) (hE.at 53 rfl); obtain ⟨hcT, hfT, hlT, hmT, hwT, hzT⟩ := bT hT'
  refine op1 r53 fun ρ qc qf qg q53 => ?_; go_simp;
  refine J.out _ _ _ rfl ?_ hT' (Below.refl _ _); rfl
 refine SeqOps.val ?_ (Sy 1 541 fun ax wx hS hT' hd K' J => ?_) ?_; rotate_left 1
 ·have r542 := Tv hd 0 45 542; obtain ⟨hcT, hfT, hlT, hmT, hwT, hzT⟩ := bT hT'
  refine op1 r542 fun ρ qc qf qg q542 => ?_; go_simp; (try go_bits);
  refine J.out _ _ _ rfl ?_ hT' (Below.refl _ _); rfl
 refine SeqOps.val ?_ (Sp fun ax wx hS hT' hd K' J => ?_) ?_; rotate_left 1
 ·have r541 := Tv hd 2 44 541; have r543 := Tv hd 0 46 543; obtain ⟨hcT, hfT, hlT, hmT, hwT, hzT⟩ := bT hT'
  refine op2 r541 r543 fun ρ qc qf qg q541 q543 => ?_; go_simp; (try go_bits);
  refine J.out _ _ _ rfl ?_ hT' (Below.refl _ _); rfl
 refine SeqOps.val ?_ (Sp fun ax wx hS hT' hd K' J => ?_) ?_; rotate_left 1
 ·have r544 := Tv hd 0 47 544; obtain ⟨hcT, hfT, hlT, hmT, hwT, hzT⟩ := bT hT'
  refine op1 r544 fun ρ qc qf qg q544 => ?_; go_simp;
  refine J.out _ _ _ rfl ?_ hT' (Below.refl _ _); rfl
 refine SeqOps.val ?_ (Sy 0 545 fun ax wx hS hT' hd K' J => ?_) ?_; rotate_left 1
 ·have r55 := hS.at 55 (by decide) (hE.at 55 rfl); obtain ⟨hcT, hfT, hlT, hmT, hwT, hzT⟩ := bT hT'
  refine op1 r55 fun ρ qc qf qg q55 => ?_; go_simp;
  refine J.out _ _ _ rfl ?_ hT' (Below.refl _ _); rfl
 refine SeqOps.val ?_ (Sy 1 545 fun ax wx hS hT' hd K' J => ?_) ?_; rotate_left 1
 ·have r546 := Tv hd 0 49 546; obtain ⟨hcT, hfT, hlT, hmT, hwT, hzT⟩ := bT hT'
  refine op1 r546 fun ρ qc qf qg q546 => ?_; go_simp; (try go_bits);
  refine J.out _ _ _ rfl ?_ hT' (Below.refl _ _); rfl
 refine SeqOps.val ?_ (Sp fun ax wx hS hT' hd K' J => ?_) ?_; rotate_left 1
 ·have r545 := Tv hd 2 48 545; have r547 := Tv hd 0 50 547; obtain ⟨hcT, hfT, hlT, hmT, hwT, hzT⟩ := bT hT'
  refine op2 r545 r547 fun ρ qc qf qg q545 q547 => ?_; go_simp; (try go_bits);
  refine J.out _ _ _ rfl ?_ hT' (Below.refl _ _); rfl
 refine SeqOps.val ?_ (Sp fun ax wx hS hT' hd K' J => ?_) ?_; rotate_left 1
 ·have r548 := Tv hd 0 51 548; obtain ⟨hcT, hfT, hlT, hmT, hwT, hzT⟩ := bT hT'
  refine op1 r548 fun ρ qc qf qg q548 => ?_; go_simp;
  refine J.out _ _ _ rfl ?_ hT' (Below.refl _ _); rfl
 refine SeqOps.val ?_ (Sy 0 549 fun ax wx hS hT' hd K' J => ?_) ?_; rotate_left 1
 ·have r57 := hS.at 57 (by decide) (hE.at 57 rfl); obtain ⟨hcT, hfT, hlT, hmT, hwT, hzT⟩ := bT hT'
  refine op1 r57 fun ρ qc qf qg q57 => ?_; go_simp;
  refine J.out _ _ _ rfl ?_ hT' (Below.refl _ _); rfl
 refine SeqOps.val ?_ (Sy 1 549 fun ax wx hS hT' hd K' J => ?_) ?_; rotate_left 1
 ·have r550 := Tv hd 0 53 550; obtain ⟨hcT, hfT, hlT, hmT, hwT, hzT⟩ := bT hT'
  refine op1 r550 fun ρ qc qf qg q550 => ?_; go_simp; (try go_bits);
  refine J.out _ _ _ rfl ?_ hT' (Below.refl _ _); rfl
 refine SeqOps.val ?_ (Sp fun ax wx hS hT' hd K' J => ?_) ?_; rotate_left 1
 ·have r549 := Tv hd 2 52 549; have r551 := Tv hd 0 54 551; obtain ⟨hcT, hfT, hlT, hmT, hwT, hzT⟩ := bT hT'
  refine op2 r549 r551 fun ρ qc qf qg q549 q551 => ?_; go_simp; (try go_bits);
  refine J.out _ _ _ rfl ?_ hT' (Below.refl _ _); rfl
 refine SeqOps.val ?_ (Sp fun ax wx hS hT' hd K' J => ?_) ?_; rotate_left 1
 ·have r552 := Tv hd 0 55 552; obtain ⟨hcT, hfT, hlT, hmT, hwT, hzT⟩ := bT hT'
  refine op1 r552 fun ρ qc qf qg q552 => ?_; go_simp;
  refine J.out _ _ _ rfl ?_ hT' (Below.refl _ _); rfl
 refine SeqOps.val ?_ (Sy 0 553 fun ax wx hS hT' hd K' J => ?_) ?_; rotate_left 1
 ·have r56 := hS.at 56 (by decide) (hE.at 56 rfl); obtain ⟨hcT, hfT, hlT, hmT, hwT, hzT⟩ := bT hT'
  refine op1 r56 fun ρ qc qf qg q56 => ?_; go_simp;
  refine J.out _ _ _ rfl ?_ hT' (Below.refl _ _); rfl
 refine SeqOps.val ?_ (Sy 1 553 fun ax wx hS hT' hd K' J => ?_) ?_; rotate_left 1
 ·have r554 := Tv hd 0 57 554; obtain ⟨hcT, hfT, hlT, hmT, hwT, hzT⟩ := bT hT'
  refine op1 r554 fun ρ qc qf qg q554 => ?_; go_simp; (try go_bits);
  refine J.out _ _ _ rfl ?_ hT' (Below.refl _ _); rfl
 refine SeqOps.val ?_ (Sp fun ax wx hS hT' hd K' J => ?_) ?_; rotate_left 1
 ·have r553 := Tv hd 2 56 553; have r555 := Tv hd 0 58 555; obtain ⟨hcT, hfT, hlT, hmT, hwT, hzT⟩ := bT hT'
  refine op2 r553 r555 fun ρ qc qf qg q553 q555 => ?_; go_simp; (try go_bits);
  refine J.out _ _ _ rfl ?_ hT' (Below.refl _ _); rfl
 refine SeqOps.val ?_ (Sp fun ax wx hS hT' hd K' J => ?_) ?_; rotate_left 1
 ·have r556 := Tv hd 0 59 556; obtain ⟨hcT, hfT, hlT, hmT, hwT, hzT⟩ := bT hT'
  refine op1 r556 fun ρ qc qf qg q556 => ?_; go_simp;
  refine J.out _ _ _ rfl ?_ hT' (Below.refl _ _); rfl
 refine SeqOps.val ?_ (Sp fun ax wx hS hT' hd K' J => ?_) ?_; rotate_left 1
 ·have r557 := Tv hd 0 60 557; obtain ⟨hcT, hfT, hlT, hmT, hwT, hzT⟩ := bT hT'
  refine op1 r557 fun ρ qc qf qg q557 => ?_; go_simp; (try go_bits);
  refine J.out _ _ _ rfl ?_ hT' (Below.refl _ _); rfl
 refine SeqOps.val ?_ (Sp fun ax wx hS hT' hd K' J => ?_) ?_; rotate_left 1
 ·have r558 := Tv hd 0 61 558; obtain ⟨hcT, hfT, hlT, hmT, hwT, hzT⟩ := bT hT'
  refine op1 r558 fun ρ qc qf qg q558 => ?_; go_simp;
  refine J.out _ _ _ rfl ?_ hT' (Below.refl _ _); rfl
 refine SeqOps.val ?_ (Sy 0 559 fun ax wx hS hT' hd K' J => ?_) ?_; rotate_left 1
 ·obtain ⟨hcT, hfT, hlT, hmT, hwT, hzT⟩ := bT hT'
  refine op0 fun ρ qc qf qg => ?_; go_simp; (try go_bits);
  go_at_call 15; refine (written_any _).mono ?_; rintro e g1 ⟨rfl, k1⟩
  refine J.out _ _ _ rfl ?_ (hT'.trans (k1.mono hT'.size)) k1; rfl
 refine SeqOps.val ?_ (Sp fun ax wx hS hT' hd K' J => ?_) ?_; rotate_left 1
 ·have r559 := Tv hd 1 62 559; have r560 := Tv hd 0 63 560; obtain ⟨hcT, hfT, hlT, hmT, hwT, hzT⟩ := bT hT'
  refine op2 r559 r560 fun ρ qc qf qg q559 q560 => ?_; go_simp; (try go_bits);
  refine J.out _ _ _ rfl ?_ hT' (Below.refl _ _); rfl
 refine SeqOps.nil ?_
 intro vz hBl; (refine fun v h => ?_; obtain rfl := h); (refine fun v h => ?_; obtain rfl := h); (refine fun v h => ?_; obtain rfl := h); (refine fun v h => ?_; obtain rfl := h); (refine fun v h => ?_; obtain rfl := h); (refine fun v h => ?_; obtain rfl := h); (refine fun v h => ?_; obtain rfl := h); (refine fun v h => ?_; obtain rfl := h); (refine fun v h => ?_; obtain rfl := h); (refine fun v h => ?_; obtain rfl := h); (refine fun v h => ?_; obtain rfl := h); (refine fun v h => ?_; obtain rfl := h); (refine fun v h => ?_; obtain rfl := h); (refine fun v h => ?_; obtain rfl := h); (refine fun v h => ?_; obtain rfl := h); (refine fun v h => ?_; obtain rfl := h); (refine fun v h => ?_; obtain rfl := h); (refine fun v h => ?_; obtain rfl := h); (refine fun v h => ?_; obtain rfl := h); (refine fun v h => ?_; obtain rfl := h); (refine fun v h => ?_; obtain rfl := h); (refine fun v h => ?_; obtain rfl := h); (refine fun v h => ?_; obtain rfl := h); (refine fun v h => ?_; obtain rfl := h); (refine fun v h => ?_; obtain rfl := h); (refine fun v h => ?_; obtain rfl := h); (refine fun v h => ?_; obtain rfl := h); (refine fun v h => ?_; obtain rfl := h); (refine fun v h => ?_; obtain rfl := h); (refine fun v h => ?_; obtain rfl := h); (refine fun v h => ?_; obtain rfl := h); (refine fun v h => ?_; obtain rfl := h); (refine fun v h => ?_; obtain rfl := h); (refine fun v h => ?_; obtain rfl := h); (refine fun v h => ?_; obtain rfl := h); (refine fun v h => ?_; obtain rfl := h); (refine fun v h => ?_; obtain rfl := h); (refine fun v h => ?_; obtain rfl := h); (refine fun v h => ?_; obtain rfl := h); (refine fun v h => ?_; obtain rfl := h); (refine fun v h => ?_; obtain rfl := h); (refine fun v h => ?_; obtain rfl := h); (refine fun v h => ?_; obtain rfl := h); (refine fun v h => ?_; obtain rfl := h); (refine fun v h => ?_; obtain rfl := h); (refine fun v h => ?_; obtain rfl := h); (refine fun v h => ?_; obtain rfl := h); (refine fun v h => ?_; obtain rfl := h); (refine fun v h => ?_; obtain rfl := h); (refine fun v h => ?_; obtain rfl := h); (refine fun v h => ?_; obtain rfl := h); (refine fun v h => ?_; obtain rfl := h); (refine fun v h => ?_; obtain rfl := h); (refine fun v h => ?_; obtain rfl := h); (refine fun v h => ?_; obtain rfl := h); (refine fun v h => ?_; obtain rfl := h); (refine fun v h => ?_; obtain rfl := h); (refine fun v h => ?_; obtain rfl := h); (refine fun v h => ?_; obtain rfl := h); (refine fun v h => ?_; obtain rfl := h); (refine fun v h => ?_; obtain rfl := h); (refine fun v h => ?_; obtain rfl := h); (refine fun v h => ?_; obtain rfl := h); (refine fun v h => ?_; obtain rfl := h); (refine fun v h => ?_; obtain rfl := h);
 refine fun ax hEx => ?_
 simp only [lk, pick, Nat.reduceEqDiff, ↓reduceIte] at hEx
 refine Lp fun K' J => op1 (hEx.at 561 rfl) fun ρ qc qf qg q561 => ?_; go_simp; (try clear qc qf qg q561)
 refine Ln hEx J fun a_1 E1 => ?_; clear J K' hEx
 refine late_done [0] E1 hK (fun a hE => ?_); clear hK K Q' E1; simp only [lk, pick, Nat.reduceEqDiff, ↓reduceIte] at hE
 (repeat with_reducible first|refine ctl ?_|refine miss ?_)
 exact ret_one hE rfl rfl ⟨rfl, hb.trans (hBl.mono hb.size)⟩
set_option maxHeartbeats 4000000 in
theorem known_b (w V : World) (hb : Below w.heap.size w V) (e : Env) (a : Act) (hE : Fits 562 e a) : (cr 21 (bodyOf Try.f10)).wp Try.prog (bodyPost Try.prog Try.f10 fun e w' => e = .returned (.bool true) ∧ Below w.heap.size w w') a V := by
 refine wp_seq ?_; (repeat with_reducible first|refine ctl ?_|refine miss ?_)
 refine Rs 7 fun Q' K hK => ?_
 refine Lp fun K' J => ?_
 refine op0 fun ρ qc qf qg => ?_; go_simp; (try go_bits); (try clear qc qf qg)
 go_at_call 45; refine (ear_any _).mono ?_; rintro e v1 ⟨⟨G, rfl, _, hG⟩, h1⟩
 refine Ln hE J fun a_1 E1 => ?_; clear J K' hE a
 refine Lp fun K' J => op1 (E1.at 377 rfl) fun ρ qc qf qg q377 => ?_; go_simp; (try go_bits); (try clear qc qf qg q377)
 go_at_call 11; refine (xNear (s := ⟨#[104, 97, 110, 115]⟩) (t := ⟨#[97, 110, 115]⟩) kv47 (by decide) (by decide) hG).mono ?_; rintro e v2 ⟨rfl, h2⟩
 (try clear r377)
 refine Ln E1 J fun a_2 E2 => ?_; clear J K' E1
 refine Lp fun K' J => op1 (E2.at 378 rfl) fun ρ qc qf qg q378 => ?_; go_simp; (try clear qc qf qg q378)
 refine Ln E2 J fun a_3 E3 => ?_; clear J K' E2
 refine Lp fun K' J => op1 (E3.at 376 rfl) fun ρ qc qf qg q376 => ?_; go_simp; (try clear qc qf qg q376)
 refine Ln E3 J fun a_4 E4 => ?_; clear J K' E3
 refine Lp fun K' J => op1 (E4.at 376 rfl) fun ρ qc qf qg q376 => ?_; go_simp; (try clear qc qf qg q376)
 refine Ln E4 J fun a_5 E5 => ?_; clear J K' E4
 refine Lp fun K' J => op1 (E5.at 379 rfl) fun ρ qc qf qg q379 => ?_; go_simp; (try clear qc qf qg q379)
 refine Ln E5 J fun a_6 E6 => ?_; clear J K' E5
 refine Lp fun K' J => op1 (E6.at 380 rfl) fun ρ qc qf qg q380 => ?_; go_simp; (try clear qc qf qg q380)
 refine Ln E6 J fun a_7 E7 => ?_; clear J K' E6
 refine late_done [31, 42] E7 hK (fun a hE => ?_); clear hK K Q' E7; simp only [lk, pick, Nat.reduceEqDiff, ↓reduceIte] at hE
 have hx := (h1.trans (h2.mono h1.size))
 replace hb := hb.trans (hx.mono hb.size)
 clear hG h1 h2 hx
 (repeat with_reducible first|refine ctl ?_|refine miss ?_)
 refine Rs 7 fun Q' K hK => ?_
 refine Lp fun K' J => ?_
 refine op0 fun ρ qc qf qg => ?_; go_simp; (try go_bits); (try clear qc qf qg)
 go_at_call 45; refine (ear_any _).mono ?_; rintro e v3 ⟨⟨G, rfl, _, hG⟩, h1⟩
 refine Ln hE J fun a_1 E1 => ?_; clear J K' hE a
 refine Lp fun K' J => op1 (E1.at 382 rfl) fun ρ qc qf qg q382 => ?_; go_simp; (try go_bits); (try clear qc qf qg q382)
 go_at_call 11; refine (xNear (s := ⟨#[104, 104]⟩) (t := ⟨#[104]⟩) kv48 (by decide) (by decide) hG).mono ?_; rintro e v4 ⟨rfl, h2⟩
 (try clear r382)
 refine Ln E1 J fun a_2 E2 => ?_; clear J K' E1
 refine Lp fun K' J => op1 (E2.at 383 rfl) fun ρ qc qf qg q383 => ?_; go_simp; (try clear qc qf qg q383)
 refine Ln E2 J fun a_3 E3 => ?_; clear J K' E2
 refine Lp fun K' J => op1 (E3.at 381 rfl) fun ρ qc qf qg q381 => ?_; go_simp; (try clear qc qf qg q381)
 refine Ln E3 J fun a_4 E4 => ?_; clear J K' E3
 refine Lp fun K' J => op1 (E4.at 381 rfl) fun ρ qc qf qg q381 => ?_; go_simp; (try clear qc qf qg q381)
 refine Ln E4 J fun a_5 E5 => ?_; clear J K' E4
 refine Lp fun K' J => op1 (E5.at 384 rfl) fun ρ qc qf qg q384 => ?_; go_simp; (try clear qc qf qg q384)
 refine Ln E5 J fun a_6 E6 => ?_; clear J K' E5
 refine Lp fun K' J => op1 (E6.at 385 rfl) fun ρ qc qf qg q385 => ?_; go_simp; (try clear qc qf qg q385)
 refine Ln E6 J fun a_7 E7 => ?_; clear J K' E6
 refine late_done [31, 33, 42, 43] E7 hK (fun a hE => ?_); clear hK K Q' E7; simp only [lk, pick, Nat.reduceEqDiff, ↓reduceIte] at hE
 have hx := (h1.trans (h2.mono h1.size))
 replace hb := hb.trans (hx.mono hb.size)
 clear hG h1 h2 hx
 (repeat with_reducible first|refine ctl ?_|refine miss ?_)
 refine Rs 7 fun Q' K hK => ?_
 refine Lp fun K' J => ?_
 refine op0 fun ρ qc qf qg => ?_; go_simp; (try go_bits); (try clear qc qf qg)
 go_at_call 43; refine (books_any 1 _).mono ?_; rintro e v5 ⟨⟨A, L, rfl, hM⟩, h1⟩
 refine Ln hE J fun a_1 E1 => ?_; clear J K' hE a
 refine Lp fun K' J => op1 (E1.at 387 rfl) fun ρ qc qf qg q387 => ?_; go_simp; (try go_bits); (try clear qc qf qg q387)
 go_at_call 23; refine (xCan (x := 2) (y := 4) kv49 hM).mono ?_; rintro e v6 ⟨rfl, h2⟩
 (try clear r387)
 refine Ln E1 J fun a_2 E2 => ?_; clear J K' E1
 refine Lp fun K' J => op1 (E2.at 388 rfl) fun ρ qc qf qg q388 => ?_; go_simp; (try clear qc qf qg q388)
 refine Ln E2 J fun a_3 E3 => ?_; clear J K' E2
 refine Lp fun K' J => op1 (E3.at 386 rfl) fun ρ qc qf qg q386 => ?_; go_simp; (try clear qc qf qg q386)
 refine Ln E3 J fun a_4 E4 => ?_; clear J K' E3
 refine Lp fun K' J => op1 (E4.at 386 rfl) fun ρ qc qf qg q386 => ?_; go_simp; (try clear qc qf qg q386)
 refine Ln E4 J fun a_5 E5 => ?_; clear J K' E4
 refine Lp fun K' J => op1 (E5.at 389 rfl) fun ρ qc qf qg q389 => ?_; go_simp; (try clear qc qf qg q389)
 refine Ln E5 J fun a_6 E6 => ?_; clear J K' E5
 refine Lp fun K' J => op1 (E6.at 390 rfl) fun ρ qc qf qg q390 => ?_; go_simp; (try clear qc qf qg q390)
 refine Ln E6 J fun a_7 E7 => ?_; clear J K' E6
 refine late_done [31, 33, 35, 42, 43, 44] E7 hK (fun a hE => ?_); clear hK K Q' E7; simp only [lk, pick, Nat.reduceEqDiff, ↓reduceIte] at hE
 have hx := (h1.trans (h2.mono h1.size))
 replace hb := hb.trans (hx.mono hb.size)
 clear hM h1 h2 hx
 (repeat with_reducible first|refine ctl ?_|refine miss ?_)
 refine Rs 10 fun Q' K hK => ?_
 refine Lp fun K' J => ?_
 refine op0 fun ρ qc qf qg => ?_; go_simp; (try go_bits); (try clear qc qf qg)
 go_at_call 43; refine (books_any 1 _).mono ?_; rintro e v7 ⟨⟨A, L, rfl, hM⟩, h1⟩
 refine Ln hE J fun a_1 E1 => ?_; clear J K' hE a
 refine Lp fun K' J => ?_
 refine op0 fun ρ qc qf qg => ?_; go_simp; (try go_bits); (try clear qc qf qg)
 go_at_call 46; refine (lpair_any _ _ _).mono ?_; rintro e v9 ⟨rfl, k0⟩
 refine Ln E1 J fun a_2 E2 => ?_; clear J K' E1
 refine Lp fun K' J => ?_
 refine op0 fun ρ qc qf qg => ?_; go_simp; (try go_bits); (try clear qc qf qg)
 go_at_call 46; refine (lpair_any _ _ _).mono ?_; rintro e v10 ⟨rfl, k1⟩
 have hk := h1.trans ((k0.trans (k1.mono k0.size)).mono h1.size)
 have hM2 := hM.below (k0.trans (k1.mono k0.size))
 refine Ln E2 J fun a_3 E3 => ?_; clear J K' E2
 refine Lp fun K' J => ?_
 have r393 := E3.at 393 rfl; have r394 := E3.at 394 rfl
 refine op2 r393 r394 fun ρ qc qf qg q393 q394 => ?_; go_simp; (try clear qc qf qg r393 q393 r394 q394)
 (try clear r393 r394)
 refine Ln E3 J fun a_4 E4 => ?_; clear J K' E3
 refine Lp fun K' J => ?_
 have r392 := E4.at 392 rfl; have r395 := E4.at 395 rfl
 refine op2 r392 r395 fun ρ qc qf qg q392 q395 => ?_; go_simp; (try go_bits); (try clear qc qf qg r392 q392 r395 q395)
 go_at_call 18; refine (xIs (ps := [(1, 3), (0, 2)]) kv50 (by decide) (hM2.below ((Below.refl _ _).alloc (Nat.le_refl _) _)) ((arr_new v10 _ _).more (by simp))).mono ?_; rintro e v8 ⟨rfl, h2⟩
 (try clear r392 r395)
 refine Ln E4 J fun a_5 E5 => ?_; clear J K' E4
 refine Lp fun K' J => op1 (E5.at 396 rfl) fun ρ qc qf qg q396 => ?_; go_simp; (try clear qc qf qg q396)
 refine Ln E5 J fun a_6 E6 => ?_; clear J K' E5
 refine Lp fun K' J => op1 (E6.at 391 rfl) fun ρ qc qf qg q391 => ?_; go_simp; (try clear qc qf qg q391)
 refine Ln E6 J fun a_7 E7 => ?_; clear J K' E6
 refine Lp fun K' J => op1 (E7.at 391 rfl) fun ρ qc qf qg q391 => ?_; go_simp; (try clear qc qf qg q391)
 refine Ln E7 J fun a_8 E8 => ?_; clear J K' E7
 refine Lp fun K' J => op1 (E8.at 397 rfl) fun ρ qc qf qg q397 => ?_; go_simp; (try clear qc qf qg q397)
 refine Ln E8 J fun a_9 E9 => ?_; clear J K' E8
 refine Lp fun K' J => op1 (E9.at 398 rfl) fun ρ qc qf qg q398 => ?_; go_simp; (try clear qc qf qg q398)
 refine Ln E9 J fun a_10 E10 => ?_; clear J K' E9
 refine late_done [31, 33, 35, 37, 42, 43, 44, 45] E10 hK (fun a hE => ?_); clear hK K Q' E10; simp only [lk, pick, Nat.reduceEqDiff, ↓reduceIte] at hE
 have hx := hk.trans ((((Below.refl v10.heap.size v10).alloc (Nat.le_refl _) _).trans (h2.mono (by simp))).mono hk.size)
 replace hb := hb.trans (hx.mono hb.size)
 clear hM hM2 h1 h2 hk hx k0 k1
 (repeat with_reducible first|refine ctl ?_|refine miss ?_)
 refine Rs 9 fun Q' K hK => ?_
 refine Lp fun K' J => ?_
 refine op0 fun ρ qc qf qg => ?_; go_simp; (try go_bits); (try clear qc qf qg)
 go_at_call 43; refine (books_any 1 _).mono ?_; rintro e v11 ⟨⟨A, L, rfl, hM⟩, h1⟩
 refine Ln hE J fun a_1 E1 => ?_; clear J K' hE a
 refine Lp fun K' J => ?_
 refine op0 fun ρ qc qf qg => ?_; go_simp; (try go_bits); (try clear qc qf qg)
 go_at_call 46; refine (lpair_any _ _ _).mono ?_; rintro e v13 ⟨rfl, k0⟩
 have hk := h1.trans (k0.mono h1.size)
 have hM2 := hM.below k0
 refine Ln E1 J fun a_2 E2 => ?_; clear J K' E1
 refine Lp fun K' J => op1 (E2.at 401 rfl) fun ρ qc qf qg q401 => ?_; go_simp; (try clear qc qf qg q401)
 refine Ln E2 J fun a_3 E3 => ?_; clear J K' E2
 refine Lp fun K' J => ?_
 have r400 := E3.at 400 rfl; have r402 := E3.at 402 rfl
 refine op2 r400 r402 fun ρ qc qf qg q400 q402 => ?_; go_simp; (try go_bits); (try clear qc qf qg r400 q400 r402 q402)
 go_at_call 18; refine (xIs (ps := [(0, 2)]) kv51 (by decide) (hM2.below ((Below.refl _ _).alloc (Nat.le_refl _) _)) ((arr_new v13 _ _).more (by simp))).mono ?_; rintro e v12 ⟨rfl, h2⟩
 (try clear r400 r402)
 refine Ln E3 J fun a_4 E4 => ?_; clear J K' E3
 refine Lp fun K' J => op1 (E4.at 403 rfl) fun ρ qc qf qg q403 => ?_; go_simp; (try clear qc qf qg q403)
 refine Ln E4 J fun a_5 E5 => ?_; clear J K' E4
 refine Lp fun K' J => op1 (E5.at 399 rfl) fun ρ qc qf qg q399 => ?_; go_simp; (try clear qc qf qg q399)
 refine Ln E5 J fun a_6 E6 => ?_; clear J K' E5
 refine Lp fun K' J => op1 (E6.at 399 rfl) fun ρ qc qf qg q399 => ?_; go_simp; (try clear qc qf qg q399)
 refine Ln E6 J fun a_7 E7 => ?_; clear J K' E6
 refine Lp fun K' J => op1 (E7.at 404 rfl) fun ρ qc qf qg q404 => ?_; go_simp; (try clear qc qf qg q404)
 refine Ln E7 J fun a_8 E8 => ?_; clear J K' E7
 refine Lp fun K' J => op1 (E8.at 405 rfl) fun ρ qc qf qg q405 => ?_; go_simp; (try clear qc qf qg q405)
 refine Ln E8 J fun a_9 E9 => ?_; clear J K' E8
 refine late_done [31, 33, 35, 37, 39, 42, 43, 44, 45, 46] E9 hK (fun a hE => ?_); clear hK K Q' E9; simp only [lk, pick, Nat.reduceEqDiff, ↓reduceIte] at hE
 have hx := hk.trans ((((Below.refl v13.heap.size v13).alloc (Nat.le_refl _) _).trans (h2.mono (by simp))).mono hk.size)
 replace hb := hb.trans (hx.mono hb.size)
 clear hM hM2 h1 h2 hk hx k0
 (repeat with_reducible first|refine ctl ?_|refine miss ?_)
 refine Rs 10 fun Q' K hK => ?_
 refine Lp fun K' J => ?_
 refine op0 fun ρ qc qf qg => ?_; go_simp; (try go_bits); (try clear qc qf qg)
 go_at_call 43; refine (books_any 1 _).mono ?_; rintro e v14 ⟨⟨A, L, rfl, hM⟩, h1⟩
 refine Ln hE J fun a_1 E1 => ?_; clear J K' hE a
 refine Lp fun K' J => ?_
 refine op0 fun ρ qc qf qg => ?_; go_simp; (try go_bits); (try clear qc qf qg)
 go_at_call 46; refine (lpair_any _ _ _).mono ?_; rintro e v16 ⟨rfl, k0⟩
 refine Ln E1 J fun a_2 E2 => ?_; clear J K' E1
 refine Lp fun K' J => ?_
 refine op0 fun ρ qc qf qg => ?_; go_simp; (try go_bits); (try clear qc qf qg)
 go_at_call 46; refine (lpair_any _ _ _).mono ?_; rintro e v17 ⟨rfl, k1⟩
 have hk := h1.trans ((k0.trans (k1.mono k0.size)).mono h1.size)
 have hM2 := hM.below (k0.trans (k1.mono k0.size))
 refine Ln E2 J fun a_3 E3 => ?_; clear J K' E2
 refine Lp fun K' J => ?_
 have r408 := E3.at 408 rfl; have r409 := E3.at 409 rfl
 refine op2 r408 r409 fun ρ qc qf qg q408 q409 => ?_; go_simp; (try clear qc qf qg r408 q408 r409 q409)
 (try clear r408 r409)
 refine Ln E3 J fun a_4 E4 => ?_; clear J K' E3
 refine Lp fun K' J => ?_
 have r407 := E4.at 407 rfl; have r410 := E4.at 410 rfl
 refine op2 r407 r410 fun ρ qc qf qg q407 q410 => ?_; go_simp; (try go_bits); (try clear qc qf qg r407 q407 r410 q410)
 go_at_call 18; refine (xIs (ps := [(0, 2), (1, 3)]) kv52 (by decide) (hM2.below ((Below.refl _ _).alloc (Nat.le_refl _) _)) ((arr_new v17 _ _).more (by simp))).mono ?_; rintro e v15 ⟨rfl, h2⟩
 (try clear r407 r410)
 refine Ln E4 J fun a_5 E5 => ?_; clear J K' E4
 refine Lp fun K' J => op1 (E5.at 411 rfl) fun ρ qc qf qg q411 => ?_; go_simp; (try clear qc qf qg q411)
 refine Ln E5 J fun a_6 E6 => ?_; clear J K' E5
 refine Lp fun K' J => op1 (E6.at 406 rfl) fun ρ qc qf qg q406 => ?_; go_simp; (try clear qc qf qg q406)
 refine Ln E6 J fun a_7 E7 => ?_; clear J K' E6
 refine Lp fun K' J => op1 (E7.at 406 rfl) fun ρ qc qf qg q406 => ?_; go_simp; (try clear qc qf qg q406)
 refine Ln E7 J fun a_8 E8 => ?_; clear J K' E7
 refine Lp fun K' J => op1 (E8.at 412 rfl) fun ρ qc qf qg q412 => ?_; go_simp; (try clear qc qf qg q412)
 refine Ln E8 J fun a_9 E9 => ?_; clear J K' E8
 refine Lp fun K' J => op1 (E9.at 413 rfl) fun ρ qc qf qg q413 => ?_; go_simp; (try clear qc qf qg q413)
 refine Ln E9 J fun a_10 E10 => ?_; clear J K' E9
 refine late_done [31, 33, 35, 37, 39, 41, 42, 43, 44, 45, 46, 47] E10 hK (fun a hE => ?_); clear hK K Q' E10; simp only [lk, pick, Nat.reduceEqDiff, ↓reduceIte] at hE
 have hx := hk.trans ((((Below.refl v17.heap.size v17).alloc (Nat.le_refl _) _).trans (h2.mono (by simp))).mono hk.size)
 replace hb := hb.trans (hx.mono hb.size)
 clear hM hM2 h1 h2 hk hx k0 k1
 (repeat with_reducible first|refine ctl ?_|refine miss ?_)
 refine Rs 43 fun Q' K hK => ?_
 refine Lp fun K' J => op1 (hE.at 31 rfl) fun ρ qc qf qg q31 => ?_; go_simp; (try clear qc qf qg q31)
 refine Ln hE J fun a_1 E1 => ?_; clear J K' hE a
 refine Lp fun K' J => op1 (E1.at 414 rfl) fun ρ qc qf qg q414 => ?_; go_simp; (try go_bits); (try clear qc qf qg q414)
 refine Ln E1 J fun a_2 E2 => ?_; clear J K' E1
 refine Lp fun K' J => op1 (E2.at 415 rfl) fun ρ qc qf qg q415 => ?_; go_simp; (try clear qc qf qg q415)
 refine Ln E2 J fun a_3 E3 => ?_; clear J K' E2
 refine Ly E3 416 fun K' J => ?_
 refine op1 (E3.at 33 rfl) fun ρ qc qf qg q33 => ?_; go_simp; (try clear qc qf qg q33)
 refine Ln E3 J fun a_4 E4 => ?_; clear J K' E3
 refine Ly E4 416 fun K' J => ?_
 refine op1 (E4.at 417 rfl) fun ρ qc qf qg q417 => ?_; go_simp; (try go_bits); (try clear qc qf qg q417)
 refine Ln E4 J fun a_5 E5 => ?_; clear J K' E4
 refine Lp fun K' J => ?_
 have r416 := E5.at 416 rfl; have r418 := E5.at 418 rfl
 refine op2 r416 r418 fun ρ qc qf qg q416 q418 => ?_; go_simp; (try go_bits); (try clear qc qf qg r416 q416 r418 q418)
 (try clear r416 r418)
 refine Ln E5 J fun a_6 E6 => ?_; clear J K' E5
 refine Lp fun K' J => op1 (E6.at 419 rfl) fun ρ qc qf qg q419 => ?_; go_simp; (try clear qc qf qg q419)
 refine Ln E6 J fun a_7 E7 => ?_; clear J K' E6
 refine Ly E7 420 fun K' J => ?_
 refine op1 (E7.at 35 rfl) fun ρ qc qf qg q35 => ?_; go_simp; (try clear qc qf qg q35)
 refine Ln E7 J fun a_8 E8 => ?_; clear J K' E7
 refine Ly E8 420 fun K' J => ?_
 refine op1 (E8.at 421 rfl) fun ρ qc qf qg q421 => ?_; go_simp; (try go_bits); (try clear qc qf qg q421)
 refine Ln E8 J fun a_9 E9 => ?_; clear J K' E8
 refine Lp fun K' J => ?_
 have r420 := E9.at 420 rfl; have r422 := E9.at 422 rfl
 refine op2 r420 r422 fun ρ qc qf qg q420 q422 => ?_; go_simp; (try go_bits); (try clear qc qf qg r420 q420 r422 q422)
 (try clear r420 r422)
 refine Ln E9 J fun a_10 E10 => ?_; clear J K' E9
 refine Lp fun K' J => op1 (E10.at 423 rfl) fun ρ qc qf qg q423 => ?_; go_simp; (try clear qc qf qg q423)
 refine Ln E10 J fun a_11 E11 => ?_; clear J K' E10
 refine Ly E11 424 fun K' J => ?_
 refine op1 (E11.at 37 rfl) fun ρ qc qf qg q37 => ?_; go_simp; (try clear qc qf qg q37)
 refine Ln E11 J fun a_12 E12 => ?_; clear J K' E11
 refine Ly E12 424 fun K' J => ?_
 refine op1 (E12.at 425 rfl) fun ρ qc qf qg q425 => ?_; go_simp; (try go_bits); (try clear qc qf qg q425)
 refine Ln E12 J fun a_13 E13 => ?_; clear J K' E12
 refine Lp fun K' J => ?_
 have r424 := E13.at 424 rfl; have r426 := E13.at 426 rfl
 refine op2 r424 r426 fun ρ qc qf qg q424 q426 => ?_; go_simp; (try go_bits); (try clear qc qf qg r424 q424 r426 q426)
 (try clear r424 r426)
 refine Ln E13 J fun a_14 E14 => ?_; clear J K' E13
 refine Lp fun K' J => op1 (E14.at 427 rfl) fun ρ qc qf qg q427 => ?_; go_simp; (try clear qc qf qg q427)
 refine Ln E14 J fun a_15 E15 => ?_; clear J K' E14
 refine Ly E15 428 fun K' J => ?_
 refine op1 (E15.at 39 rfl) fun ρ qc qf qg q39 => ?_; go_simp; (try clear qc qf qg q39)
 refine Ln E15 J fun a_16 E16 => ?_; clear J K' E15
 refine Ly E16 428 fun K' J => ?_
 refine op1 (E16.at 429 rfl) fun ρ qc qf qg q429 => ?_; go_simp; (try go_bits); (try clear qc qf qg q429)
 refine Ln E16 J fun a_17 E17 => ?_; clear J K' E16
 refine Lp fun K' J => ?_
 have r428 := E17.at 428 rfl; have r430 := E17.at 430 rfl
 refine op2 r428 r430 fun ρ qc qf qg q428 q430 => ?_; go_simp; (try go_bits); (try clear qc qf qg r428 q428 r430 q430)
 (try clear r428 r430)
 refine Ln E17 J fun a_18 E18 => ?_; clear J K' E17
 refine Lp fun K' J => op1 (E18.at 431 rfl) fun ρ qc qf qg q431 => ?_; go_simp; (try clear qc qf qg q431)
 refine Ln E18 J fun a_19 E19 => ?_; clear J K' E18
 refine Ly E19 432 fun K' J => ?_
 refine op1 (E19.at 41 rfl) fun ρ qc qf qg q41 => ?_; go_simp; (try clear qc qf qg q41)
 refine Ln E19 J fun a_20 E20 => ?_; clear J K' E19
 refine Ly E20 432 fun K' J => ?_
 refine op1 (E20.at 433 rfl) fun ρ qc qf qg q433 => ?_; go_simp; (try go_bits); (try clear qc qf qg q433)
 refine Ln E20 J fun a_21 E21 => ?_; clear J K' E20
 refine Lp fun K' J => ?_
 have r432 := E21.at 432 rfl; have r434 := E21.at 434 rfl
 refine op2 r432 r434 fun ρ qc qf qg q432 q434 => ?_; go_simp; (try go_bits); (try clear qc qf qg r432 q432 r434 q434)
 (try clear r432 r434)
 refine Ln E21 J fun a_22 E22 => ?_; clear J K' E21
 refine Lp fun K' J => op1 (E22.at 435 rfl) fun ρ qc qf qg q435 => ?_; go_simp; (try clear qc qf qg q435)
 refine Ln E22 J fun a_23 E23 => ?_; clear J K' E22
 refine Ly E23 436 fun K' J => ?_
 refine op1 (E23.at 42 rfl) fun ρ qc qf qg q42 => ?_; go_simp; (try clear qc qf qg q42)
 refine Ln E23 J fun a_24 E24 => ?_; clear J K' E23
 refine Ly E24 436 fun K' J => ?_
 refine op1 (E24.at 437 rfl) fun ρ qc qf qg q437 => ?_; go_simp; (try go_bits); (try clear qc qf qg q437)
 refine Ln E24 J fun a_25 E25 => ?_; clear J K' E24
 refine Lp fun K' J => ?_
 have r436 := E25.at 436 rfl; have r438 := E25.at 438 rfl
 refine op2 r436 r438 fun ρ qc qf qg q436 q438 => ?_; go_simp; (try go_bits); (try clear qc qf qg r436 q436 r438 q438)
 (try clear r436 r438)
 refine Ln E25 J fun a_26 E26 => ?_; clear J K' E25
 refine Lp fun K' J => op1 (E26.at 439 rfl) fun ρ qc qf qg q439 => ?_; go_simp; (try clear qc qf qg q439)
 refine Ln E26 J fun a_27 E27 => ?_; clear J K' E26
 refine Ly E27 440 fun K' J => ?_
 refine op1 (E27.at 43 rfl) fun ρ qc qf qg q43 => ?_; go_simp; (try clear qc qf qg q43)
 refine Ln E27 J fun a_28 E28 => ?_; clear J K' E27
 refine Ly E28 440 fun K' J => ?_
 refine op1 (E28.at 441 rfl) fun ρ qc qf qg q441 => ?_; go_simp; (try go_bits); (try clear qc qf qg q441)
 refine Ln E28 J fun a_29 E29 => ?_; clear J K' E28
 refine Lp fun K' J => ?_
 have r440 := E29.at 440 rfl; have r442 := E29.at 442 rfl
 refine op2 r440 r442 fun ρ qc qf qg q440 q442 => ?_; go_simp; (try go_bits); (try clear qc qf qg r440 q440 r442 q442)
 (try clear r440 r442)
 refine Ln E29 J fun a_30 E30 => ?_; clear J K' E29
 refine Lp fun K' J => op1 (E30.at 443 rfl) fun ρ qc qf qg q443 => ?_; go_simp; (try clear qc qf qg q443)
 refine Ln E30 J fun a_31 E31 => ?_; clear J K' E30
 refine Ly E31 444 fun K' J => ?_
 refine op1 (E31.at 44 rfl) fun ρ qc qf qg q44 => ?_; go_simp; (try clear qc qf qg q44)
 refine Ln E31 J fun a_32 E32 => ?_; clear J K' E31
 refine Lp fun K' J => ?_
 have r444 := E32.at 444 rfl; have r445 := E32.at 445 rfl
 refine op2 r444 r445 fun ρ qc qf qg q444 q445 => ?_; go_simp; (try go_bits); (try clear qc qf qg r444 q444 r445 q445)
 (try clear r444 r445)
 refine Ln E32 J fun a_33 E33 => ?_; clear J K' E32
 refine Lp fun K' J => op1 (E33.at 446 rfl) fun ρ qc qf qg q446 => ?_; go_simp; (try clear qc qf qg q446)
 refine Ln E33 J fun a_34 E34 => ?_; clear J K' E33
 refine Ly E34 447 fun K' J => ?_
 refine op1 (E34.at 45 rfl) fun ρ qc qf qg q45 => ?_; go_simp; (try clear qc qf qg q45)
 refine Ln E34 J fun a_35 E35 => ?_; clear J K' E34
 refine Lp fun K' J => ?_
 have r447 := E35.at 447 rfl; have r448 := E35.at 448 rfl
 refine op2 r447 r448 fun ρ qc qf qg q447 q448 => ?_; go_simp; (try go_bits); (try clear qc qf qg r447 q447 r448 q448)
 (try clear r447 r448)
 refine Ln E35 J fun a_36 E36 => ?_; clear J K' E35
 refine Lp fun K' J => op1 (E36.at 449 rfl) fun ρ qc qf qg q449 => ?_; go_simp; (try clear qc qf qg q449)
 refine Ln E36 J fun a_37 E37 => ?_; clear J K' E36
 refine Ly E37 450 fun K' J => ?_
 refine op1 (E37.at 46 rfl) fun ρ qc qf qg q46 => ?_; go_simp; (try clear qc qf qg q46)
 refine Ln E37 J fun a_38 E38 => ?_; clear J K' E37
 refine Lp fun K' J => ?_
 have r450 := E38.at 450 rfl; have r451 := E38.at 451 rfl
 refine op2 r450 r451 fun ρ qc qf qg q450 q451 => ?_; go_simp; (try go_bits); (try clear qc qf qg r450 q450 r451 q451)
 (try clear r450 r451)
 refine Ln E38 J fun a_39 E39 => ?_; clear J K' E38
 refine Lp fun K' J => op1 (E39.at 452 rfl) fun ρ qc qf qg q452 => ?_; go_simp; (try clear qc qf qg q452)
 refine Ln E39 J fun a_40 E40 => ?_; clear J K' E39
 refine Ly E40 453 fun K' J => ?_
 refine op1 (E40.at 47 rfl) fun ρ qc qf qg q47 => ?_; go_simp; (try clear qc qf qg q47)
 refine Ln E40 J fun a_41 E41 => ?_; clear J K' E40
 refine Ly E41 453 fun K' J => ?_
 have r454 := E41.at 454 rfl; refine op1 r454 fun ρ qc qf qg q454 => ?_; go_simp; (try go_bits); (try simp (disch := omega) only [IntWalk.i64_in]); (try clear qc qf qg r454 q454)
 refine Ln E41 J fun a_42 E42 => ?_; clear J K' E41
 refine Lp fun K' J => ?_
 have r453 := E42.at 453 rfl; have r455 := E42.at 455 rfl
 refine op2 r453 r455 fun ρ qc qf qg q453 q455 => ?_; go_simp; (try go_bits); (try clear qc qf qg r453 q453 r455 q455)
 (try clear r453 r455)
 refine Ln E42 J fun a_43 E43 => ?_; clear J K' E42
 refine late_done [456] E43 hK (fun a hE => ?_); clear hK K Q' E43; simp only [lk, pick, Nat.reduceEqDiff, ↓reduceIte] at hE
 (repeat with_reducible first|refine ctl ?_|refine miss ?_)
 refine cond_no hE (t := 456) rfl ?_
 refine wp_skip ?_
 (repeat with_reducible first|refine ctlE ?_|refine miss ?_)
 exact known_c w _ hb _ _ hE
set_option maxHeartbeats 4000000 in
theorem known_a (w V : World) (hb : Below w.heap.size w V) (e : Env) (a : Act) (hE : Fits 562 e a) : (cr 14 (bodyOf Try.f10)).wp Try.prog (bodyPost Try.prog Try.f10 fun e w' => e = .returned (.bool true) ∧ Below w.heap.size w w') a V := by
 refine wp_seq ?_; (repeat with_reducible first|refine ctl ?_|refine miss ?_)
 refine Rs 7 fun Q' K hK => ?_
 refine Lp fun K' J => ?_
 refine op0 fun ρ qc qf qg => ?_; go_simp; (try go_bits); (try clear qc qf qg)
 go_at_call 45; refine (ear_any _).mono ?_; rintro e v1 ⟨⟨G, rfl, _, hG⟩, h1⟩
 refine Ln hE J fun a_1 E1 => ?_; clear J K' hE a
 refine Lp fun K' J => op1 (E1.at 325 rfl) fun ρ qc qf qg q325 => ?_; go_simp; (try go_bits); (try clear qc qf qg q325)
 go_at_call 11; refine (xNear (s := ⟨#[112, 101, 116, 101, 114]⟩) (t := ⟨#[80, 101, 116, 101, 114]⟩) kv39 (by decide) (by decide) hG).mono ?_; rintro e v2 ⟨rfl, h2⟩
 (try clear r325)
 refine Ln E1 J fun a_2 E2 => ?_; clear J K' E1
 refine Lp fun K' J => op1 (E2.at 326 rfl) fun ρ qc qf qg q326 => ?_; go_simp; (try clear qc qf qg q326)
 refine Ln E2 J fun a_3 E3 => ?_; clear J K' E2
 refine Lp fun K' J => op1 (E3.at 324 rfl) fun ρ qc qf qg q324 => ?_; go_simp; (try clear qc qf qg q324)
 refine Ln E3 J fun a_4 E4 => ?_; clear J K' E3
 refine Lp fun K' J => op1 (E4.at 324 rfl) fun ρ qc qf qg q324 => ?_; go_simp; (try clear qc qf qg q324)
 refine Ln E4 J fun a_5 E5 => ?_; clear J K' E4
 refine Lp fun K' J => op1 (E5.at 327 rfl) fun ρ qc qf qg q327 => ?_; go_simp; (try clear qc qf qg q327)
 refine Ln E5 J fun a_6 E6 => ?_; clear J K' E5
 refine Lp fun K' J => op1 (E6.at 328 rfl) fun ρ qc qf qg q328 => ?_; go_simp; (try clear qc qf qg q328)
 refine Ln E6 J fun a_7 E7 => ?_; clear J K' E6
 refine late_done [30, 31] E7 hK (fun a hE => ?_); clear hK K Q' E7; simp only [lk, pick, Nat.reduceEqDiff, ↓reduceIte] at hE
 have hx := (h1.trans (h2.mono h1.size))
 replace hb := hb.trans (hx.mono hb.size)
 clear hG h1 h2 hx
 (repeat with_reducible first|refine ctl ?_|refine miss ?_)
 refine Rs 7 fun Q' K hK => ?_
 refine Lp fun K' J => ?_
 refine op0 fun ρ qc qf qg => ?_; go_simp; (try go_bits); (try clear qc qf qg)
 go_at_call 45; refine (ear_any _).mono ?_; rintro e v3 ⟨⟨G, rfl, _, hG⟩, h1⟩
 refine Ln hE J fun a_1 E1 => ?_; clear J K' hE a
 refine Lp fun K' J => op1 (E1.at 330 rfl) fun ρ qc qf qg q330 => ?_; go_simp; (try go_bits); (try clear qc qf qg q330)
 go_at_call 11; refine (xNear (s := ⟨#[98, 101, 116, 101, 114]⟩) (t := ⟨#[112, 101, 100, 101, 114]⟩) kv40 (by decide) (by decide) hG).mono ?_; rintro e v4 ⟨rfl, h2⟩
 (try clear r330)
 refine Ln E1 J fun a_2 E2 => ?_; clear J K' E1
 refine Lp fun K' J => op1 (E2.at 331 rfl) fun ρ qc qf qg q331 => ?_; go_simp; (try clear qc qf qg q331)
 refine Ln E2 J fun a_3 E3 => ?_; clear J K' E2
 refine Lp fun K' J => op1 (E3.at 329 rfl) fun ρ qc qf qg q329 => ?_; go_simp; (try clear qc qf qg q329)
 refine Ln E3 J fun a_4 E4 => ?_; clear J K' E3
 refine Lp fun K' J => op1 (E4.at 329 rfl) fun ρ qc qf qg q329 => ?_; go_simp; (try clear qc qf qg q329)
 refine Ln E4 J fun a_5 E5 => ?_; clear J K' E4
 refine Lp fun K' J => op1 (E5.at 332 rfl) fun ρ qc qf qg q332 => ?_; go_simp; (try clear qc qf qg q332)
 refine Ln E5 J fun a_6 E6 => ?_; clear J K' E5
 refine Lp fun K' J => op1 (E6.at 333 rfl) fun ρ qc qf qg q333 => ?_; go_simp; (try clear qc qf qg q333)
 refine Ln E6 J fun a_7 E7 => ?_; clear J K' E6
 refine late_done [30, 31, 32, 33] E7 hK (fun a hE => ?_); clear hK K Q' E7; simp only [lk, pick, Nat.reduceEqDiff, ↓reduceIte] at hE
 have hx := (h1.trans (h2.mono h1.size))
 replace hb := hb.trans (hx.mono hb.size)
 clear hG h1 h2 hx
 (repeat with_reducible first|refine ctl ?_|refine miss ?_)
 refine Rs 7 fun Q' K hK => ?_
 refine Lp fun K' J => ?_
 refine op0 fun ρ qc qf qg => ?_; go_simp; (try go_bits); (try clear qc qf qg)
 go_at_call 45; refine (ear_any _).mono ?_; rintro e v5 ⟨⟨G, rfl, _, hG⟩, h1⟩
 refine Ln hE J fun a_1 E1 => ?_; clear J K' hE a
 refine Lp fun K' J => op1 (E1.at 335 rfl) fun ρ qc qf qg q335 => ?_; go_simp; (try go_bits); (try clear qc qf qg q335)
 go_at_call 11; refine (xNear (s := ⟨#[112, 101, 116, 101, 114]⟩) (t := ⟨#[104, 97, 110, 115]⟩) kv41 (by decide) (by decide) hG).mono ?_; rintro e v6 ⟨rfl, h2⟩
 (try clear r335)
 refine Ln E1 J fun a_2 E2 => ?_; clear J K' E1
 refine Lp fun K' J => op1 (E2.at 336 rfl) fun ρ qc qf qg q336 => ?_; go_simp; (try clear qc qf qg q336)
 refine Ln E2 J fun a_3 E3 => ?_; clear J K' E2
 refine Lp fun K' J => op1 (E3.at 334 rfl) fun ρ qc qf qg q334 => ?_; go_simp; (try clear qc qf qg q334)
 refine Ln E3 J fun a_4 E4 => ?_; clear J K' E3
 refine Lp fun K' J => op1 (E4.at 334 rfl) fun ρ qc qf qg q334 => ?_; go_simp; (try clear qc qf qg q334)
 refine Ln E4 J fun a_5 E5 => ?_; clear J K' E4
 refine Lp fun K' J => op1 (E5.at 337 rfl) fun ρ qc qf qg q337 => ?_; go_simp; (try clear qc qf qg q337)
 refine Ln E5 J fun a_6 E6 => ?_; clear J K' E5
 refine Lp fun K' J => op1 (E6.at 338 rfl) fun ρ qc qf qg q338 => ?_; go_simp; (try clear qc qf qg q338)
 refine Ln E6 J fun a_7 E7 => ?_; clear J K' E6
 refine late_done [30, 31, 32, 33, 34, 35] E7 hK (fun a hE => ?_); clear hK K Q' E7; simp only [lk, pick, Nat.reduceEqDiff, ↓reduceIte] at hE
 have hx := (h1.trans (h2.mono h1.size))
 replace hb := hb.trans (hx.mono hb.size)
 clear hG h1 h2 hx
 (repeat with_reducible first|refine ctl ?_|refine miss ?_)
 refine Rs 7 fun Q' K hK => ?_
 refine Lp fun K' J => ?_
 refine op0 fun ρ qc qf qg => ?_; go_simp; (try go_bits); (try clear qc qf qg)
 go_at_call 43; refine (books_any 0 _).mono ?_; rintro e v7 ⟨⟨A, L, rfl, hM⟩, h1⟩
 refine Ln hE J fun a_1 E1 => ?_; clear J K' hE a
 refine Lp fun K' J => op1 (E1.at 340 rfl) fun ρ qc qf qg q340 => ?_; go_simp; (try go_bits); (try clear qc qf qg q340)
 go_at_call 24; refine (xKind (x := 0) (y := 2) kv42 hM).mono ?_; rintro e v8 ⟨rfl, h2⟩
 (try clear r340)
 refine Ln E1 J fun a_2 E2 => ?_; clear J K' E1
 refine Lp fun K' J => op1 (E2.at 341 rfl) fun ρ qc qf qg q341 => ?_; go_simp; (try clear qc qf qg q341)
 refine Ln E2 J fun a_3 E3 => ?_; clear J K' E2
 refine Lp fun K' J => op1 (E3.at 339 rfl) fun ρ qc qf qg q339 => ?_; go_simp; (try clear qc qf qg q339)
 refine Ln E3 J fun a_4 E4 => ?_; clear J K' E3
 refine Lp fun K' J => op1 (E4.at 339 rfl) fun ρ qc qf qg q339 => ?_; go_simp; (try clear qc qf qg q339)
 refine Ln E4 J fun a_5 E5 => ?_; clear J K' E4
 refine Lp fun K' J => op1 (E5.at 342 rfl) fun ρ qc qf qg q342 => ?_; go_simp; (try clear qc qf qg q342)
 refine Ln E5 J fun a_6 E6 => ?_; clear J K' E5
 refine Lp fun K' J => op1 (E6.at 343 rfl) fun ρ qc qf qg q343 => ?_; go_simp; (try clear qc qf qg q343)
 refine Ln E6 J fun a_7 E7 => ?_; clear J K' E6
 refine late_done [30, 31, 32, 33, 34, 35, 36, 37] E7 hK (fun a hE => ?_); clear hK K Q' E7; simp only [lk, pick, Nat.reduceEqDiff, ↓reduceIte] at hE
 have hx := (h1.trans (h2.mono h1.size))
 replace hb := hb.trans (hx.mono hb.size)
 clear hM h1 h2 hx
 (repeat with_reducible first|refine ctl ?_|refine miss ?_)
 refine Rs 7 fun Q' K hK => ?_
 refine Lp fun K' J => ?_
 refine op0 fun ρ qc qf qg => ?_; go_simp; (try go_bits); (try clear qc qf qg)
 go_at_call 43; refine (books_any 0 _).mono ?_; rintro e v9 ⟨⟨A, L, rfl, hM⟩, h1⟩
 refine Ln hE J fun a_1 E1 => ?_; clear J K' hE a
 refine Lp fun K' J => op1 (E1.at 345 rfl) fun ρ qc qf qg q345 => ?_; go_simp; (try go_bits); (try clear qc qf qg q345)
 go_at_call 19; refine (xJoined kv43a kv43b hM).mono ?_; rintro e v10 ⟨⟨T, c, rfl⟩, h2⟩
 (try clear r345)
 refine Ln E1 J fun a_2 E2 => ?_; clear J K' E1
 refine Lp fun K' J => op1 (E2.at 346 rfl) fun ρ qc qf qg q346 => ?_; go_simp; (try clear qc qf qg q346)
 refine Ln E2 J fun a_3 E3 => ?_; clear J K' E2
 refine Lp fun K' J => op1 (E3.at 344 rfl) fun ρ qc qf qg q344 => ?_; go_simp; (try clear qc qf qg q344)
 refine Ln E3 J fun a_4 E4 => ?_; clear J K' E3
 refine Lp fun K' J => op1 (E4.at 344 rfl) fun ρ qc qf qg q344 => ?_; go_simp; (try clear qc qf qg q344)
 refine Ln E4 J fun a_5 E5 => ?_; clear J K' E4
 refine Lp fun K' J => op1 (E5.at 347 rfl) fun ρ qc qf qg q347 => ?_; go_simp; (try clear qc qf qg q347)
 refine Ln E5 J fun a_6 E6 => ?_; clear J K' E5
 refine Lp fun K' J => op1 (E6.at 348 rfl) fun ρ qc qf qg q348 => ?_; go_simp; (try clear qc qf qg q348)
 refine Ln E6 J fun a_7 E7 => ?_; clear J K' E6
 refine late_done [30, 31, 32, 33, 34, 35, 36, 37, 38, 39] E7 hK (fun a hE => ?_); clear hK K Q' E7; simp only [lk, pick, Nat.reduceEqDiff, ↓reduceIte] at hE
 have hx := (h1.trans (h2.mono h1.size))
 replace hb := hb.trans (hx.mono hb.size)
 clear hM h1 h2 hx
 (repeat with_reducible first|refine ctl ?_|refine miss ?_)
 refine Rs 8 fun Q' K hK => ?_
 refine Lp fun K' J => ?_
 refine op0 fun ρ qc qf qg => ?_; go_simp; (try go_bits); (try clear qc qf qg)
 go_at_call 43; refine (books_any 0 _).mono ?_; rintro e v11 ⟨⟨A, L, rfl, hM⟩, h1⟩
 refine Ln hE J fun a_1 E1 => ?_; clear J K' hE a
 refine Lp fun K' J => op1 (E1.at 350 rfl) fun ρ qc qf qg q350 => ?_; go_simp; (try go_bits); (try clear qc qf qg q350)
 go_at_call 20; refine (xPeople kv43a kv44 hM).mono ?_; rintro e v12 ⟨rfl, h2⟩
 (try clear r350)
 refine Ln E1 J fun a_2 E2 => ?_; clear J K' E1
 refine Lp fun K' J => op1 (E2.at 351 rfl) fun ρ qc qf qg q351 => ?_; go_simp; (try clear qc qf qg q351)
 refine Ln E2 J fun a_3 E3 => ?_; clear J K' E2
 refine Lp fun K' J => op1 (E3.at 349 rfl) fun ρ qc qf qg q349 => ?_; go_simp; (try clear qc qf qg q349)
 refine Ln E3 J fun a_4 E4 => ?_; clear J K' E3
 refine Lp fun K' J => op1 (E4.at 349 rfl) fun ρ qc qf qg q349 => ?_; go_simp; (try clear qc qf qg q349)
 refine Ln E4 J fun a_5 E5 => ?_; clear J K' E4
 refine Lp fun K' J => ?_
 refine op0 fun ρ qc qf qg => ?_; go_simp; (try clear qc qf qg)
 refine Ln E5 J fun a_6 E6 => ?_; clear J K' E5
 refine Lp fun K' J => ?_
 have r40 := E6.at 40 rfl; have r352 := E6.at 352 rfl
 refine op2 r40 r352 fun ρ qc qf qg q40 q352 => ?_; go_simp; (try clear qc qf qg r40 q40 r352 q352)
 (try clear r40 r352)
 refine late_skip E6 J (fun a_7 E7 => ?_); clear J K'; clear E6
 refine Lp fun K' J => op1 (E7.at 353 rfl) fun ρ qc qf qg q353 => ?_; go_simp; (try clear qc qf qg q353)
 refine Ln E7 J fun a_8 E8 => ?_; clear J K' E7
 refine late_done [30, 31, 32, 33, 34, 35, 36, 37, 38, 39, 40, 41] E8 hK (fun a hE => ?_); clear hK K Q' E8; simp only [lk, pick, Nat.reduceEqDiff, ↓reduceIte] at hE
 obtain ⟨S, hSe⟩ : ∃ B, B = v12.heap.size := ⟨_, rfl⟩; rw [← hSe] at hE; refine world_cut (fun wt => Below v12.heap.size v12 wt ∧ Cells wt S [.int .i64 0, .int .i64 0]) ⟨(Below.refl _ _).alloc (Nat.le_refl _) _, by rw [hSe]; exact cells_new _ _ _⟩ (fun v13 hCut => ?_); obtain ⟨hbv13, hCS⟩ := hCut; clear hSe
 have hx := (h1.trans ((h2.trans (hbv13.mono h2.size)).mono h1.size))
 replace hb := hb.trans (hx.mono hb.size)
 clear hM h1 h2 hx hbv13
 (repeat with_reducible first|refine ctl ?_|refine miss ?_)
 refine Rs 22 fun Q' K hK => ?_
 refine Lp fun K' J => op1 (hE.at 31 rfl) fun ρ qc qf qg q31 => ?_; go_simp; (try clear qc qf qg q31)
 refine Ln hE J fun a_1 E1 => ?_; clear J K' hE a
 refine Lp fun K' J => op1 (E1.at 354 rfl) fun ρ qc qf qg q354 => ?_; go_simp; (try go_bits); (try clear qc qf qg q354)
 refine Ln E1 J fun a_2 E2 => ?_; clear J K' E1
 refine Lp fun K' J => op1 (E2.at 355 rfl) fun ρ qc qf qg q355 => ?_; go_simp; (try clear qc qf qg q355)
 refine Ln E2 J fun a_3 E3 => ?_; clear J K' E2
 refine Ly E3 356 fun K' J => ?_
 refine op1 (E3.at 33 rfl) fun ρ qc qf qg q33 => ?_; go_simp; (try clear qc qf qg q33)
 refine Ln E3 J fun a_4 E4 => ?_; clear J K' E3
 refine Ly E4 356 fun K' J => ?_
 refine op1 (E4.at 357 rfl) fun ρ qc qf qg q357 => ?_; go_simp; (try go_bits); (try clear qc qf qg q357)
 refine Ln E4 J fun a_5 E5 => ?_; clear J K' E4
 refine Lp fun K' J => ?_
 have r356 := E5.at 356 rfl; have r358 := E5.at 358 rfl
 refine op2 r356 r358 fun ρ qc qf qg q356 q358 => ?_; go_simp; (try go_bits); (try clear qc qf qg r356 q356 r358 q358)
 (try clear r356 r358)
 refine Ln E5 J fun a_6 E6 => ?_; clear J K' E5
 refine Lp fun K' J => op1 (E6.at 359 rfl) fun ρ qc qf qg q359 => ?_; go_simp; (try clear qc qf qg q359)
 refine Ln E6 J fun a_7 E7 => ?_; clear J K' E6
 refine Ly E7 360 fun K' J => ?_
 refine op1 (E7.at 35 rfl) fun ρ qc qf qg q35 => ?_; go_simp; (try clear qc qf qg q35)
 refine Ln E7 J fun a_8 E8 => ?_; clear J K' E7
 refine Ly E8 360 fun K' J => ?_
 refine op1 (E8.at 361 rfl) fun ρ qc qf qg q361 => ?_; go_simp; (try go_bits); (try clear qc qf qg q361)
 refine Ln E8 J fun a_9 E9 => ?_; clear J K' E8
 refine Lp fun K' J => ?_
 have r360 := E9.at 360 rfl; have r362 := E9.at 362 rfl
 refine op2 r360 r362 fun ρ qc qf qg q360 q362 => ?_; go_simp; (try go_bits); (try clear qc qf qg r360 q360 r362 q362)
 (try clear r360 r362)
 refine Ln E9 J fun a_10 E10 => ?_; clear J K' E9
 refine Lp fun K' J => op1 (E10.at 363 rfl) fun ρ qc qf qg q363 => ?_; go_simp; (try clear qc qf qg q363)
 refine Ln E10 J fun a_11 E11 => ?_; clear J K' E10
 refine Ly E11 364 fun K' J => ?_
 refine op1 (E11.at 37 rfl) fun ρ qc qf qg q37 => ?_; go_simp; (try clear qc qf qg q37)
 refine Ln E11 J fun a_12 E12 => ?_; clear J K' E11
 refine Ly E12 364 fun K' J => ?_
 refine op1 (E12.at 365 rfl) fun ρ qc qf qg q365 => ?_; go_simp; (try go_bits); (try clear qc qf qg q365)
 refine Ln E12 J fun a_13 E13 => ?_; clear J K' E12
 refine Lp fun K' J => ?_
 have r364 := E13.at 364 rfl; have r366 := E13.at 366 rfl
 refine op2 r364 r366 fun ρ qc qf qg q364 q366 => ?_; go_simp; (try go_bits); (try clear qc qf qg r364 q364 r366 q366)
 (try clear r364 r366)
 refine Ln E13 J fun a_14 E14 => ?_; clear J K' E13
 refine Lp fun K' J => op1 (E14.at 367 rfl) fun ρ qc qf qg q367 => ?_; go_simp; (try clear qc qf qg q367)
 refine Ln E14 J fun a_15 E15 => ?_; clear J K' E14
 refine Ly E15 368 fun K' J => ?_
 refine op1 (E15.at 39 rfl) fun ρ qc qf qg q39 => ?_; go_simp; (try clear qc qf qg q39)
 refine Ln E15 J fun a_16 E16 => ?_; clear J K' E15
 refine Ly E16 368 fun K' J => ?_
 refine op1 (E16.at 369 rfl) fun ρ qc qf qg q369 => ?_; go_simp; (try go_bits); (try clear qc qf qg q369)
 refine Ln E16 J fun a_17 E17 => ?_; clear J K' E16
 refine Lp fun K' J => ?_
 have r368 := E17.at 368 rfl; have r370 := E17.at 370 rfl
 refine op2 r368 r370 fun ρ qc qf qg q368 q370 => ?_; go_simp; (try go_bits); (try clear qc qf qg r368 q368 r370 q370)
 (try clear r368 r370)
 refine Ln E17 J fun a_18 E18 => ?_; clear J K' E17
 refine Lp fun K' J => op1 (E18.at 371 rfl) fun ρ qc qf qg q371 => ?_; go_simp; (try clear qc qf qg q371)
 refine Ln E18 J fun a_19 E19 => ?_; clear J K' E18
 refine Ly E19 372 fun K' J => ?_
 refine op1 (E19.at 41 rfl) fun ρ qc qf qg q41 => ?_; go_simp; (try clear qc qf qg q41)
 refine Ln E19 J fun a_20 E20 => ?_; clear J K' E19
 refine Ly E20 372 fun K' J => ?_
 refine op1 (E20.at 373 rfl) fun ρ qc qf qg q373 => ?_; go_simp; (try go_bits); (try clear qc qf qg q373)
 refine Ln E20 J fun a_21 E21 => ?_; clear J K' E20
 refine Lp fun K' J => ?_
 have r372 := E21.at 372 rfl; have r374 := E21.at 374 rfl
 refine op2 r372 r374 fun ρ qc qf qg q372 q374 => ?_; go_simp; (try go_bits); (try clear qc qf qg r372 q372 r374 q374)
 (try clear r372 r374)
 refine Ln E21 J fun a_22 E22 => ?_; clear J K' E21
 refine late_done [375] E22 hK (fun a hE => ?_); clear hK K Q' E22; simp only [lk, pick, Nat.reduceEqDiff, ↓reduceIte] at hE
 (repeat with_reducible first|refine ctl ?_|refine miss ?_)
 refine cond_no hE (t := 375) rfl ?_
 refine wp_skip ?_
 (repeat with_reducible first|refine ctlE ?_|refine miss ?_)
 exact known_b w _ hb _ _ hE
end Go.Proofs.Ytbimkcjdodgojaa
