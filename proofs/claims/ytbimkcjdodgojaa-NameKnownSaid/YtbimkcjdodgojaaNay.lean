/- Name: a range over a map of counts, whatever order it takes. -/
import Derived.Test.YtbimkcjdodgojaaNao
import Derived.Maps.Range
namespace Go.Proofs.Ytbimkcjdodgojaa
set_option linter.unusedSimpArgs false
set_option linter.unusedVariables false
open Go Go.RowKit Go.WideMaps Go.Maps Go.ChangeMaps

set_option maxRecDepth 100000 in
theorem k_inv {v : Value} {kl : Lit} (h : keyOf Try.prog 143 v = some kl) : ∃ l o, v = mval l o ∧ WfI l ∧ WfI o := by
 obtain ⟨xs, L, rfl, hl, _⟩ := keyOf_top k_wide h
 obtain ⟨m, hs⟩ : ∃ m, Try.prog.types.size = m + 1 := k_size
 have hc := k_cells
 have h1 := k_cell
 have inv : ∀ (n : Nat) (cs : List Value) (L : List Lit), Try.prog.keyLits n 3 cs = some L → ∃ x, cs = [.int .i64 x] ∧ WfI x := fun n cs L h => by
  cases n with
  | zero => simp [Program.keyLits] at h
  | succ n =>
   unfold Program.keyLits at h
   simp only [Try.underlying3] at h
   split at h
   all_goals first | (cases ‹_ = _›; done) | skip
   all_goals simp at h
   all_goals simp_all [WfI]
 rw [hs] at hl
 unfold Program.keyLits at hl
 simp only [Try.underlying143, hc] at hl
 split at hl
 ·rename_i hlen
  simp only [Option.map_eq_some_iff] at hl
  obtain ⟨qs, ha, _⟩ := hl
  simp only [List.mapM_cons, List.mapM_nil, h1] at ha
  cases ha0 : Try.prog.keyLits (m + 1) 3 (List.take 1 (List.drop 0 xs.toList)) with
  | none => rw [ha0] at ha; simp at ha
  | some a0 =>
   cases ha1 : Try.prog.keyLits (m + 1) 3 (List.take 1 (List.drop 1 xs.toList)) with
   | none => rw [ha0, ha1] at ha; simp at ha
   | some a1 =>
    obtain ⟨x, hx, wx⟩ := inv _ _ _ ha0
    obtain ⟨y, hy, wy⟩ := inv _ _ _ ha1
    obtain ⟨l⟩ := xs
    have h2 := hlen.1
    match l, h2 with
    | [u, v], _ =>
     simp only [List.drop_zero, List.take_succ_cons, List.take_zero, List.cons.injEq, and_true, List.drop_succ_cons] at hx hy
     exact ⟨x, y, by rw [hx, hy], wx, wy⟩
 ·cases hl
/-- a range over block b, with iterator r, that has handed out all entries but c; done: of which nothing is left to come -/
def TalR (w : World) (b r n : Nat) (cnt : Int → Int → Int) (c : Nat) (done : Int → Int → Prop) : Prop :=
 ∃ (D : DataW Unit) (left : Lit → Bool), w.ranges Try.prog 143 (plainElem Try.prog 3) b r n D left c ∧
  (∀ l o kl, keyOf Try.prog 143 (mval l o) = some kl → D.atKey kl (.lit (.int .i64 0)) = .lit (.int .i64 (cnt l o))) ∧
  ∀ l o kl, keyOf Try.prog 143 (mval l o) = some kl → left kl = false → done l o
theorem TalR.kept {w w' : World} {b r n c : Nat} {cnt : Int → Int → Int} {done : Int → Int → Prop} {row : Option Nat} (h : TalR w b r n cnt c done) (hg : w.grownBy w' row) (hb : some b ≠ row) (hr : some r ≠ row) : TalR w' b r n cnt c done := by
 obtain ⟨D, left, h1, h2⟩ := h
 exact ⟨D, left, h1.kept hg hb hr, h2⟩
theorem TalR.imp {w : World} {b r n c : Nat} {cnt : Int → Int → Int} {done done' : Int → Int → Prop} (h : TalR w b r n cnt c done) (hd : ∀ l o, done l o → done' l o) : TalR w b r n cnt c done' := by
 obtain ⟨D, left, h1, h2, h3⟩ := h
 exact ⟨D, left, h1, h2, fun l o kl hk hl => hd _ _ (h3 l o kl hk hl)⟩
theorem TalR.lt {w : World} {b r n c : Nat} {cnt : Int → Int → Int} {done : Int → Int → Prop} (h : TalR w b r n cnt c done) : b < w.heap.size ∧ r < w.heap.size ∧ r ≠ b := by
 obtain ⟨D, left, h1, _⟩ := h
 exact ⟨h1.owns.lt, h1.lt, h1.ne⟩
theorem Tal.range {w : World} {b n : Nat} {cnt : Int → Int → Int} (h : Tal w b n cnt) : ∃ w' c, (Instr.range 101 (.map (some b))).run Try.prog w = .ok (.pointer (some ⟨w.heap.size, 0, none⟩)) w' ∧
    TalR w' b w.heap.size n cnt c (fun l o => cnt l o = 0) ∧ w.grownBy w' none ∧ w'.heap.size = w.heap.size + 1 := by
 obtain ⟨D, hown, _, hD⟩ := h
 obtain ⟨w', hrun, h1, h2, h3⟩ := hown.range k_law Try.underlying101
 refine ⟨w', _, hrun, ⟨D, _, h1, hD, fun l o kl hk hl => ?_⟩, h2, h3⟩
 have h4 := hD l o kl hk
 rw [atKey_of_not_has hl] at h4
 simpa using h4.symm
theorem TalR.next {w : World} {b r n c : Nat} {cnt : Int → Int → Int} {done : Int → Int → Prop} (h : TalR w b r n cnt c done) (ty : TypeId) :
    (c = 0 ∧ (∀ l o, WfI l → WfI o → done l o) ∧ (Instr.next (.pointer (some ⟨r, 0, none⟩)) false ty).run Try.prog w = .ok (.tuple #[.bool false]) w) ∨
    ∃ l o w' c', WfI l ∧ WfI o ∧ WfI (cnt l o) ∧ (Instr.next (.pointer (some ⟨r, 0, none⟩)) false ty).run Try.prog w = .ok (.tuple #[.bool true, mval l o, .int .i64 (cnt l o)]) w' ∧
     TalR w' b r n cnt c' (fun l' o' => done l' o' ∨ (l' = l ∧ o' = o)) ∧ c' < c ∧ w.grownBy w' (some r) ∧ w'.heap.size = w.heap.size ∧
     (Instr.entry (.pointer (some ⟨r, 0, none⟩))).run Try.prog w' = .ok (.tuple #[mval l o, .int .i64 (cnt l o)]) w' := by
 obtain ⟨D, left, h1, hD, hdone⟩ := h
 rcases h1.next k_law ty with ⟨h0, hl, hrun⟩ | ⟨key, v, kl, y, w', c', hkey, hlk, hv, hat, hrun, hrg, hlt, hgr, hsz, hen⟩
 ·refine .inl ⟨h0, fun l o wl wo => ?_, hrun⟩
  obtain ⟨kl, hk⟩ := k_lits l o wl wo
  exact hdone l o kl hk (hl kl)
 ·obtain ⟨l, o, rfl, wl, wo⟩ := k_inv hkey
  obtain ⟨x, rfl, rfl, wx⟩ := plainElem_int_inv Try.underlying3 hv
  have h4 := hD l o kl hkey
  rw [hat] at h4
  obtain rfl : x = cnt l o := by simpa using h4
  refine .inr ⟨l, o, w', c', wl, wo, wx, hrun, ⟨D, _, hrg, hD, fun l' o' kl' hk' hl' => ?_⟩, hlt, hgr, hsz, hen⟩
  by_cases e : kl' = kl
  ·subst e
   have := k_law.inj hk' hkey
   exact .inr (by simpa [mval] using this)
  ·refine .inl (hdone l' o' kl' hk' ?_)
   simp only [Bool.and_eq_false_iff, Bool.not_eq_false'] at hl'
   rcases hl' with hl' | hl'
   ·exact hl'
   ·exact absurd (WideAt.sameKey_eq hl') e
end Go.Proofs.Ytbimkcjdodgojaa
