/-
  What the reference's Time and Token come to.
-/
import Derived.Test.YtgjacfiplhnafahDoorRefRing
import Derived.Test.YtgjacfiplhnafahDoorTokenMath
namespace Go.Proofs.YtgjacfiplhnafahDoor
open Go.RowKit
attribute [local go_sem ↓] Go.wp_at_zero Go.wp_at_succ

theorem rtime_any (n : Int) (w : World) : Calls Tryd.prog 7 #[.int .i64 n] w fun e w' => e = .returned (.bool (TokenM.timeB n)) ∧ w' = w := by
  by_cases h0 : 0 ≤ n
  · by_cases h1 : n ≤ 100000
    · rw [(TokenM.timeB_iff n).2 ⟨h0, h1⟩]
      go_enter Tryd.func7, Tryd.ntmps7
      go_wp2
      go_ret
      exact ⟨rfl, rfl⟩
    · rw [(TokenM.timeB_not n).2 (by omega)]
      go_enter Tryd.func7, Tryd.ntmps7
      go_wp2
      go_ret
      exact ⟨rfl, rfl⟩
  · rw [(TokenM.timeB_not n).2 (by omega)]
    go_enter Tryd.func7, Tryd.ntmps7
    go_wp2
    go_ret
    exact ⟨rfl, rfl⟩

theorem tag3 (key x y z : Int) (b : Nat) (w : World) (c0 : w.cell? ⟨b, 0, none⟩ = some (.int .i64 x)) (c1 : w.cell? ⟨b, 1, none⟩ = some (.int .i64 y)) (c2 : w.cell? ⟨b, 2, none⟩ = some (.int .i64 z))
    (hk : 0 ≤ key ∧ key < 999983) (hx : TagM.inB x = true) (hy : TagM.inB y = true) (hz : TagM.inB z = true) :
    Calls Tryd.prog 9 #[.int .i64 key, .slice (some ⟨b, 0, none⟩) 3 3] w fun e w' => e = .returned (.int .i64 (TagM.tag key [x, y, z])) ∧ w' = w :=
  ref_tag key (some ⟨b, 0, none⟩) 3 [x, y, z] w ⟨by simp, fun k hk => ⟨b, 0, rfl, by
    match k, hk with
    | 0, _ => exact c0
    | 1, _ => exact c1
    | 2, _ => exact c2
    | k + 3, hk => simp at hk; omega⟩⟩ (TagM.err_zero.2 ⟨(TagM.inB_iff key).2 hk, by simp, by simp [hx, hy, hz]⟩)

end Go.Proofs.YtgjacfiplhnafahDoor
