/-
  What the calls of package token come to, said of a ring's and a token's numbers: IsTime, fits, Make, Check.
-/
import Derived.Test.YtfhpfdlbgmgclakDoorRingWalks
import Derived.Test.YtfhpfdlbgmgclakDoorTokenMath
namespace Go.Proofs.YtfhpfdlbgmgclakDoor
open Go.RowKit

theorem fits_any (n : Int) (w : World) : Calls Tryd.prog 57 #[.int .i64 n] w fun e w' => e = .returned (.bool (TagM.inB n)) ∧ w' = w := by
  by_cases h : TagM.inB n = true
  · rw [h]; exact fits_yes n w ((TagM.inB_iff n).1 h).1 ((TagM.inB_iff n).1 h).2
  · have h' : TagM.inB n = false := by simpa using h
    rw [h']; exact fits_no n w ((TagM.inB_not n).1 h')

theorem time_any (n : Int) (w : World) : Calls Tryd.prog 45 #[.int .i64 n] w fun e w' => e = .returned (.bool (TokenM.timeB n)) ∧ w' = w := by
  by_cases h0 : 0 ≤ n
  · by_cases h1 : n ≤ 100000
    · rw [(TokenM.timeB_iff n).2 ⟨h0, h1⟩]
      go_enter Tryd.func45, Tryd.ntmps45
      go_wp2
      go_ret
      exact ⟨rfl, rfl⟩
    · rw [(TokenM.timeB_not n).2 (by omega)]
      go_enter Tryd.func45, Tryd.ntmps45
      go_wp2
      go_ret
      exact ⟨rfl, rfl⟩
  · rw [(TokenM.timeB_not n).2 (by omega)]
    go_enter Tryd.func45, Tryd.ntmps45
    go_wp2
    go_ret
    exact ⟨rfl, rfl⟩

/-- Of three numbers that lie in a block. -/
theorem of3_yes (key x y z : Int) (b : Nat) (w : World) (c0 : w.cell? ⟨b, 0, none⟩ = some (.int .i64 x)) (c1 : w.cell? ⟨b, 1, none⟩ = some (.int .i64 y)) (c2 : w.cell? ⟨b, 2, none⟩ = some (.int .i64 z))
    (hk : 0 ≤ key ∧ key < 999983) (hx : TagM.inB x = true) (hy : TagM.inB y = true) (hz : TagM.inB z = true) :
    Calls Tryd.prog 41 #[.int .i64 key, .slice (some ⟨b, 0, none⟩) 3 3] w fun e w' => e = .returned (.tuple #[.int .i64 (TagM.tag key [x, y, z]), .nilIface]) ∧ w' = w :=
  of_ok key b 0 3 [x, y, z] w hk.1 hk.2 (by simp) (by simp [hx, hy, hz]) (fun k hk => by
    match k, hk with
    | 0, _ => exact c0
    | 1, _ => exact c1
    | 2, _ => exact c2
    | k + 3, hk => simp at hk; omega)



end Go.Proofs.YtfhpfdlbgmgclakDoor
