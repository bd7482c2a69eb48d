/-
  Hellos that came in as a slice, opened: each one's ten cells.
-/
import Derived.Test.YtimilfnbbimipajGreatDoorHello
import Derived.Test.YtimilfnbbimipajGreatDoorServerMath
import Derived.Test.YtimilfnbbimipajGreatDoorJudgeWalks
import Derived.Deep.Slices
import Derived.Deep.SlicePairs
namespace Go.Proofs.YtimilfnbbimipajGreatDoor
open Go.ChangeShapes Go.WideShapes Go.ChangeAt Go.RowKit Go.Joins

/-- The cells of a hello. -/
def hcells (z : ServM.Hi) : List Value := nh z.a z.te z.ta z.tt z.tg z.ke z.kn z.ku z.kg z.s
/-- The frame's word for a slice of hellos. -/
def IsHellos (w : World) (a : Option Addr) (len cap : Nat) (Z : Nat → ServM.Hi) : Prop :=
  (a = none ∧ len = 0 ∧ cap = 0) ∨ ∃ x, a = some x ∧ len ≤ cap ∧ cap ≤ maxLen ∧ ∀ i, i < cap → ∀ j v, (hcells (Z i))[j]? = some v → w.cell? (x.add (i * 10 + j)) = some v
set_option maxRecDepth 100000 in
theorem hello_parts {H : Type} {enc : TypeId × Value → H} {w : World} {base : Nat} {spare : Nat → Bool} {held : Bool} {fuel : Nat} {cs : List Value} {y : DataW H × List MemPlace}
    (hl : cs.length = 10) (hf : DataW.trod enc Tryz.prog w base spare held fuel 60 cs = some y) : ∃ z : ServM.Hi, cs = hcells z := by
  match cs, hl with
  | [c0, c1, c2, c3, c4, c5, c6, c7, c8, c9], _ =>
    obtain ⟨y0, y1, y2, y3, n, _, _, h0, h1, h2, h3⟩ := trod_struct4 Tryz.underlying60 hf
    have g0 : DataW.trod enc Tryz.prog w base spare held n 3 [c0] = some y0 := by simpa [cellsInt] using h0
    have g1 : DataW.trod enc Tryz.prog w base spare held n 34 [c1, c2, c3, c4] = some y1 := by simpa [cellsTok] using h1
    have g2 : DataW.trod enc Tryz.prog w base spare held n 36 [c5, c6, c7, c8] = some y2 := by simpa [cellsTic] using h2
    have g3 : DataW.trod enc Tryz.prog w base spare held n 9 [c9] = some y3 := by simpa [cellsStr] using h3
    obtain ⟨t0, t1, t2, t3, m, _, _, k0, k1, k2, k3⟩ := trod_struct4 Tryz.underlying34 g1
    obtain ⟨u0, u1, u2, u3, m', _, _, l0, l1, l2, l3⟩ := trod_struct4 Tryz.underlying36 g2
    obtain ⟨a0, e0, _, w0⟩ := DataW.trod_int Tryz.underlying3 g0
    obtain ⟨s, e9, _, w9⟩ := DataW.trod_string Tryz.underlying9 g3
    obtain ⟨a1, e1, _, w1⟩ := DataW.trod_int Tryz.underlying3 (show DataW.trod enc Tryz.prog w base spare held m 3 [c1] = some t0 by simpa [cellsInt] using k0)
    obtain ⟨a2, e2, _, w2⟩ := DataW.trod_int Tryz.underlying3 (show DataW.trod enc Tryz.prog w base spare held m 3 [c2] = some t1 by simpa [cellsInt] using k1)
    obtain ⟨a3, e3, _, w3⟩ := DataW.trod_int Tryz.underlying3 (show DataW.trod enc Tryz.prog w base spare held m 3 [c3] = some t2 by simpa [cellsInt] using k2)
    obtain ⟨a4, e4, _, w4⟩ := DataW.trod_int Tryz.underlying3 (show DataW.trod enc Tryz.prog w base spare held m 3 [c4] = some t3 by simpa [cellsInt] using k3)
    obtain ⟨a5, e5, _, w5⟩ := DataW.trod_int Tryz.underlying3 (show DataW.trod enc Tryz.prog w base spare held m' 3 [c5] = some u0 by simpa [cellsInt] using l0)
    obtain ⟨a6, e6, _, w6⟩ := DataW.trod_int Tryz.underlying3 (show DataW.trod enc Tryz.prog w base spare held m' 3 [c6] = some u1 by simpa [cellsInt] using l1)
    obtain ⟨a7, e7, _, w7⟩ := DataW.trod_int Tryz.underlying3 (show DataW.trod enc Tryz.prog w base spare held m' 3 [c7] = some u2 by simpa [cellsInt] using l2)
    obtain ⟨a8, e8, _, w8⟩ := DataW.trod_int Tryz.underlying3 (show DataW.trod enc Tryz.prog w base spare held m' 3 [c8] = some u3 by simpa [cellsInt] using l3)
    simp only [List.cons.injEq, and_true] at e0 e1 e2 e3 e4 e5 e6 e7 e8 e9
    subst e0 e1 e2 e3 e4 e5 e6 e7 e8 e9
    exact ⟨⟨a0, a1, a2, a3, a4, a5, a6, a7, a8, s⟩, rfl⟩
set_option maxRecDepth 100000 in
theorem open_hellos {H : Type} {enc : TypeId × Value → H} {w : World} {base : Nat} {held : Bool} {fuel : Nat} {v : Value} {a : Option Addr} {len cap : Nat} {y : DataW H × List MemPlace}
    (hv : v.cells.toList = [.slice a len cap]) (h : DataW.trod enc Tryz.prog w base (fun _ => true) held fuel 23 v.cells.toList = some y) : ∃ Z, IsHellos w a len cap Z := by
  rw [hv] at h
  rcases Go.Deep.open_slice Tryz.underlying23 h with ⟨hcs, _⟩ | ⟨x, l, c, m, n, D, Pl, hcs, _, hl, hm, hmm, _, hx⟩
  · simp at hcs
    obtain ⟨rfl, rfl, rfl⟩ := hcs
    exact ⟨fun _ => ⟨0, 0, 0, 0, 0, 0, 0, 0, 0, ByteArray.empty⟩, .inl ⟨rfl, rfl, rfl⟩⟩
  · simp at hcs
    obtain ⟨rfl, rfl, rfl⟩ := hcs
    have hmc : m = cap := by simpa using hmm
    subst hmc
    have each : ∀ i, i < m → ∃ z : ServM.Hi, ∀ j v, (hcells z)[j]? = some v → w.cell? (x.add (i * 10 + j)) = some v := by
      intro i hi
      obtain ⟨cs', h1, h2⟩ := hx i hi
      rw [cellsHel] at h1
      obtain ⟨_, hlen, hcell⟩ := World.cells?_some h1
      obtain ⟨z, rfl⟩ := hello_parts hlen h2
      refine ⟨z, fun j v hj => ?_⟩
      have hj10 : j < 10 := by
        have := (List.getElem?_eq_some_iff.1 hj).1
        rw [hlen] at this
        exact this
      have e := hcell j hj10
      rw [Go.Deep.add_add] at e
      rw [e]
      exact hj
    haveI : Inhabited ServM.Hi := ⟨⟨0, 0, 0, 0, 0, 0, 0, 0, 0, ByteArray.empty⟩⟩
    obtain ⟨q, hq⟩ := Go.Deep.choose_lt each
    exact ⟨q, .inr ⟨x, rfl, hl, hm, hq⟩⟩
/-- One of them, read. -/
theorem hello_at {w : World} {a : Option Addr} {len cap : Nat} {Z : Nat → ServM.Hi} (h : IsHellos w a len cap Z) {i : Nat} (hi : i < len) :
    ∃ b off, a = some ⟨b, off, none⟩ ∧ ∀ j v, (hcells (Z i))[j]? = some v → w.cell? ⟨b, off + i * 10 + j, none⟩ = some v := by
  rcases h with ⟨_, h0, _⟩ | ⟨x, rfl, hl, hm, hc⟩
  · omega
  · obtain ⟨b, off, spot⟩ := x
    have hspot : spot = none := by simpa [Addr.add] using World.cell?_spot (hc 0 (by omega) 0 (.int .i64 (Z 0).a) rfl)
    subst hspot
    refine ⟨b, off, rfl, fun j v hj => ?_⟩
    have e := hc i (by omega) j v hj
    rw [Go.WideShapes.add_plain] at e
    rw [Nat.add_assoc]
    exact e
end Go.Proofs.YtimilfnbbimipajGreatDoor
