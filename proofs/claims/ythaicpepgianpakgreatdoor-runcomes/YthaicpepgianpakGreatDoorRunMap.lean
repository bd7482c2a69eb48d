/-
  The desk's map: how many numbers each word wants.
-/
import Derived.Test.YthaicpepgianpakGreatDoorRunDesk
import Derived.Maps.Own
import Derived.Maps.OwnOps
namespace Go.Proofs.YthaicpepgianpakGreatDoor
open Go.RowKit
set_option linter.unusedVariables false

theorem keyLaw : Go.Maps.Keyed Tryz.prog 9 := Go.Maps.string_keyed Tryz.underlying9
theorem zeroInt (w : World) : (zeroValue 3).run Tryz.prog w = .ok (.int .i64 0) w := by kernel_rfl
def iv (n : Int) : DataW Unit := .lit (.int .i64 n)
def wantsD : DataW Unit := (((((((DataW.map []).put (.string RunM.wHello) (iv 2)).put (.string RunM.wAgain) (iv 6)).put (.string RunM.wTicket) (iv 1)).put (.string RunM.wPull) (iv 0)).put (.string RunM.wTurn) (iv 0)).put (.string RunM.wCrash) (iv 0)).put (.string RunM.wWaiting) (iv 0)
theorem wantsD_eq : wantsD = .map [(.string RunM.wAgain, iv 6), (.string RunM.wCrash, iv 0), (.string RunM.wHello, iv 2), (.string RunM.wPull, iv 0), (.string RunM.wTicket, iv 1), (.string RunM.wTurn, iv 0), (.string RunM.wWaiting, iv 0)] := by rfl
theorem atKey_wants (l : List UInt8) : wantsD.atKey (.string l) (.lit (.int .i64 0)) = .lit (.int .i64 (((RunM.wants l).getD 0 : Nat) : Int)) := by
  rw [wantsD_eq]
  unfold RunM.wants
  by_cases h1 : l = RunM.wHello
  · subst h1; rfl
  by_cases h2 : l = RunM.wAgain
  · subst h2; rfl
  by_cases h3 : l = RunM.wTicket
  · subst h3; rfl
  by_cases h4 : l = RunM.wPull
  · subst h4; rfl
  by_cases h5 : l = RunM.wTurn
  · subst h5; rfl
  by_cases h6 : l = RunM.wCrash
  · subst h6; rfl
  by_cases h7 : l = RunM.wWaiting
  · subst h7; rfl
  have e : ∀ k : List UInt8, ¬ l = k → Lit.sameKey (.string k) (.string l) = false := fun k hk => by
    simp [Lit.sameKey, Ne.symm hk]
  unfold DataW.atKey
  simp only [List.find?, e _ h1, e _ h2, e _ h3, e _ h4, e _ h5, e _ h6, e _ h7]
  rw [if_neg h1, if_neg h2, if_neg h3, if_neg (by rintro (q | q | q | q) <;> contradiction)]
  rfl
/-- The map lies at mb. -/
def MapIs (w : World) (mb : Nat) : Prop := w.ownsMap Tryz.prog 9 (plainElem (H := Unit) Tryz.prog 3) mb 7 wantsD
theorem MapIs.lt {w : World} {mb : Nat} (h : MapIs w mb) : mb < w.heap.size := World.ownsMap.lt h
theorem MapIs.kept {w w' : World} {mb : Nat} {F : List Nat} (h : MapIs w mb) (hk : Kept F w w') (hn : mb ∉ F) : MapIs w' mb := by
  have hl := h.lt
  obtain ⟨es, clock, hb, r⟩ := h
  exact ⟨es, clock, by rw [hk.block mb hl hn]; exact hb, r⟩
theorem MapIs.later {w w' : World} {mb : Nat} (h : MapIs w mb) (hb : Below w.heap.size w w') : MapIs w' mb := h.kept (F := []) (Kept.of hb) (by simp)
end Go.Proofs.YthaicpepgianpakGreatDoor
