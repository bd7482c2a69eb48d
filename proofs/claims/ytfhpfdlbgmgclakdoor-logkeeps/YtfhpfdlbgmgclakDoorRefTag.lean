/-
  What the reference's In, Tag and Tagged come to.
-/
import Derived.Test.YtfhpfdlbgmgclakDoorTagWalks
namespace Go.Proofs.YtfhpfdlbgmgclakDoor
open Go.RowKit

theorem in_yes (n : Int) (w : World) (h0 : 0 ≤ n) (h1 : n < 999983) :
    Calls Tryd.prog 34 #[.int .i64 n] w fun e w' => e = .returned (.bool true) ∧ w' = w := by
  have h2 : n ≤ 999982 := by omega
  go_enter Tryd.func34, Tryd.ntmps34
  go_wp2
  go_ret
  exact ⟨rfl, rfl⟩

theorem in_no (n : Int) (w : World) (h : n < 0 ∨ 999983 ≤ n) :
    Calls Tryd.prog 34 #[.int .i64 n] w fun e w' => e = .returned (.bool false) ∧ w' = w := by
  by_cases h0 : 0 ≤ n
  · have h1 : ¬ n ≤ 999982 := by omega
    go_enter Tryd.func34, Tryd.ntmps34
    go_wp2
    go_ret
    exact ⟨rfl, rfl⟩
  · go_enter Tryd.func34, Tryd.ntmps34
    go_wp2
    go_ret
    exact ⟨rfl, rfl⟩

theorem in_any (n : Int) (w : World) : Calls Tryd.prog 34 #[.int .i64 n] w fun e w' => e = .returned (.bool (TagM.inB n)) ∧ w' = w := by
  by_cases h : TagM.inB n = true
  · rw [h]; exact in_yes n w ((TagM.inB_iff n).1 h).1 ((TagM.inB_iff n).1 h).2
  · have h' : TagM.inB n = false := by simpa using h
    rw [h']; exact in_no n w ((TagM.inB_not n).1 h')


end Go.Proofs.YtfhpfdlbgmgclakDoor
