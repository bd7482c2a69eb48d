/-
  A hello that came in, opened: its address, its token's four numbers, its ticket's four, and its early bytes.
-/
import Derived.Test.YtimilfnbbimipajGreatDoorRows
import Derived.ProofKit
import Derived.Lib.SmallJoins
namespace Go.Proofs.YtimilfnbbimipajGreatDoor
open Go.ChangeShapes Go.WideShapes Go.ChangeAt Go.RowKit Go.Joins

theorem array10 {α : Type} {cs : Array α} (h : cs.size = 10) : ∃ c0 c1 c2 c3 c4 c5 c6 c7 c8 c9, cs = #[c0, c1, c2, c3, c4, c5, c6, c7, c8, c9] := by
  obtain ⟨l⟩ := cs
  match l, h with
  | [c0, c1, c2, c3, c4, c5, c6, c7, c8, c9], _ => exact ⟨c0, c1, c2, c3, c4, c5, c6, c7, c8, c9, rfl⟩
theorem cellsInt : Tryz.prog.cellsOf 3 = 1 := by kernel_rfl
theorem cellsStr : Tryz.prog.cellsOf 9 = 1 := by kernel_rfl
theorem cellsTok : Tryz.prog.cellsOf 34 = 4 := by kernel_rfl
theorem cellsTic : Tryz.prog.cellsOf 36 = 4 := by kernel_rfl
theorem cellsHel : Tryz.prog.cellsOf 60 = 10 := by kernel_rfl
set_option maxRecDepth 100000 in
theorem open_hello {H : Type} {enc : TypeId × Value → H} {w : World} {base : Nat} {spare : Nat → Bool} {held : Bool} {r : Reach} {b0 : Nat} {v : Value} {d : DataW H} {p : List MemPlace}
    (hv : Value.okWide Tryz.prog w r b0 60 v) (h : DataW.Trod enc Tryz.prog w base spare held 60 v d p) :
    ∃ (a0 a1 a2 a3 a4 a5 a6 a7 a8 : Int) (s : ByteArray), v = .agg #[.int .i64 a0, .int .i64 a1, .int .i64 a2, .int .i64 a3, .int .i64 a4, .int .i64 a5, .int .i64 a6, .int .i64 a7, .int .i64 a8, .string s] ∧
      (Lit.int .i64 a0).wf = true ∧ (Lit.int .i64 a1).wf = true ∧ (Lit.int .i64 a2).wf = true ∧ (Lit.int .i64 a3).wf = true ∧ (Lit.int .i64 a4).wf = true ∧ (Lit.int .i64 a5).wf = true ∧ (Lit.int .i64 a6).wf = true ∧ (Lit.int .i64 a7).wf = true ∧ (Lit.int .i64 a8).wf = true ∧ s.size ≤ maxLen := by
  obtain ⟨cs, rfl, hsz⟩ := okWide_struct Tryz.underlying60 hv
  obtain ⟨c0, c1, c2, c3, c4, c5, c6, c7, c8, c9, rfl⟩ := array10 (hsz.trans cellsHel)
  obtain ⟨fuel, hf⟩ := h
  obtain ⟨y0, y1, y2, y3, n, _, _, h0, h1, h2, h3⟩ := trod_struct4 Tryz.underlying60 hf
  have g0 : DataW.trod enc Tryz.prog w base spare held n 3 [c0] = some y0 := by simpa [Value.cells, cellsInt] using h0
  have g1 : DataW.trod enc Tryz.prog w base spare held n 34 [c1, c2, c3, c4] = some y1 := by simpa [Value.cells, cellsTok] using h1
  have g2 : DataW.trod enc Tryz.prog w base spare held n 36 [c5, c6, c7, c8] = some y2 := by simpa [Value.cells, cellsTic] using h2
  have g3 : DataW.trod enc Tryz.prog w base spare held n 9 [c9] = some y3 := by simpa [Value.cells, cellsStr] using h3
  obtain ⟨t0, t1, t2, t3, m, _, _, k0, k1, k2, k3⟩ := trod_struct4 Tryz.underlying34 g1
  obtain ⟨u0, u1, u2, u3, m', _, _, l0, l1, l2, l3⟩ := trod_struct4 Tryz.underlying36 g2
  obtain ⟨a0, e0, _, w0⟩ := DataW.trod_int Tryz.underlying3 g0
  obtain ⟨s, e9, _, w9⟩ := DataW.trod_string Tryz.underlying9 g3
  obtain ⟨a1, e1, _, w1⟩ := DataW.trod_int Tryz.underlying3 (show DataW.trod enc Tryz.prog w base spare held m 3 [c1] = some t0 by simpa [cellsInt] using k0)
  obtain ⟨a2, e2, _, w2⟩ := DataW.trod_int Tryz.underlying3 (show DataW.trod enc Tryz.prog w base spare held m 3 [c2] = some t1 by simpa [cellsInt] using k1)
  obtain ⟨a3, e3, _, w3⟩ := DataW.trod_int Tryz.underlying3 (show DataW.trod enc Tryz.prog w base spare held m 3 [c3] = some t2 by simpa [cellsInt] using k2)
  obtain ⟨a4, e4, _, w4⟩ := DataW.trod_int Tryz.underlying3 (show DataW.trod enc Tryz.prog w base spare held m 3 [c4] = some t3 by simpa [cellsInt] using k3)
  obtain ⟨a5, e5, _, w5⟩ := DataW.trod_int Tryz.underlying3 (show DataW.trod enc Tryz.prog w base spare held m' 3 [c5] = some u0 by simpa [cellsInt] using l0)
  obtain ⟨a6, e6, _, w6⟩ := DataW.trod_int Tryz.underlying3 (show DataW.trod enc Tryz.prog w base spare held m' 3 [c6] = some u1 by simpa [cellsInt] using l1)
  obtain ⟨a7, e7, _, w7⟩ := DataW.trod_int Tryz.underlying3 (show DataW.trod enc Tryz.prog w base spare held m' 3 [c7] = some u2 by simpa [cellsInt] using l2)
  obtain ⟨a8, e8, _, w8⟩ := DataW.trod_int Tryz.underlying3 (show DataW.trod enc Tryz.prog w base spare held m' 3 [c8] = some u3 by simpa [cellsInt] using l3)
  simp only [List.cons.injEq, and_true] at e0 e1 e2 e3 e4 e5 e6 e7 e8 e9
  subst e0 e1 e2 e3 e4 e5 e6 e7 e8 e9
  exact ⟨a0, a1, a2, a3, a4, a5, a6, a7, a8, s, rfl, w0, w1, w2, w3, w4, w5, w6, w7, w8, w9⟩
end Go.Proofs.YtimilfnbbimipajGreatDoor
