/-
  foldtop.one: a tag of two numbers is right.
-/
import Derived.Test.YtfhpfdlbgmgclakDoorTagWalks
namespace Go.Proofs.YtfhpfdlbgmgclakDoor
open Go.RowKit

theorem ints2 {w : World} {b : Nat} {x y : Int} (c0 : w.cell? ⟨b, 0, none⟩ = some (.int .i64 x)) (c1 : w.cell? ⟨b, 1, none⟩ = some (.int .i64 y)) : Ints w (some ⟨b, 0, none⟩) [x, y] :=
  ⟨by simp, fun k hk => ⟨b, 0, rfl, by
    match k, hk with
    | 0, _ => exact c0
    | 1, _ => exact c1
    | k + 2, hk => simp at hk; omega⟩⟩
theorem make2_yes (key x y : Int) (b : Nat) (w : World) (c0 : w.cell? ⟨b, 0, none⟩ = some (.int .i64 x)) (c1 : w.cell? ⟨b, 1, none⟩ = some (.int .i64 y)) (hk : TagM.inB key = true) (hx : TagM.inB x = true) (hy : TagM.inB y = true) :
    Calls Tryd.prog 39 #[.int .i64 key, .slice (some ⟨b, 0, none⟩) 2 2] w fun e w' => e = .returned (.tuple #[.int .i64 (TagM.tag key [x, y]), .nilIface]) ∧ w' = w :=
  make_yes key (some ⟨b, 0, none⟩) 2 [x, y] w (ints2 c0 c1) (TagM.err_zero.2 ⟨hk, by simp, by simp [hx, hy]⟩)
theorem check2_yes (key x y : Int) (b : Nat) (w : World) (c0 : w.cell? ⟨b, 0, none⟩ = some (.int .i64 x)) (c1 : w.cell? ⟨b, 1, none⟩ = some (.int .i64 y)) (hk : TagM.inB key = true) (hx : TagM.inB x = true) (hy : TagM.inB y = true) :
    Calls Tryd.prog 40 #[.int .i64 key, .slice (some ⟨b, 0, none⟩) 2 2, .int .i64 (TagM.tag key [x, y])] w fun e w' => e = .returned (.tuple #[.bool true, .nilIface]) ∧ w' = w := by
  have hb := TagM.tag_bd key [x, y]
  have h := check_yes key (some ⟨b, 0, none⟩) 2 [x, y] (TagM.tag key [x, y]) w (ints2 c0 c1) (TagM.err_zero.2 ⟨hk, by simp, by simp [hx, hy]⟩) hb.1 hb.2
  rw [show (TagM.tag key [x, y] == TagM.tag key [x, y]) = true by simp] at h
  exact h
theorem one_true (w : World) : Calls Tryd.prog 16 #[] w fun e w' => e = .returned (.bool true) ∧ Below w.heap.size w w' := by
  have C1 := hide (fun b w c0 c1 => make2_yes 3 4 5 b w c0 c1 rfl rfl rfl)
  have C2 := hide (fun b w c0 c1 => check2_yes 3 4 5 b w c0 c1 rfl rfl rfl)
  generalize TagM.tag 3 [4, 5] = t at C1 C2
  go_enter Tryd.func16, Tryd.ntmps16
  go_wp2_with fail
  refine (unhide C1 _ _ (by simp) (by simp)).mono ?_
  rintro e w' ⟨rfl, rfl⟩
  go_wp2_with fail
  refine (unhide C2 _ _ (by simp) (by simp)).mono ?_
  rintro e w' ⟨rfl, rfl⟩
  go_wp2
  go_ret
  exact ⟨rfl, (by (repeat' (first | exact Below.refl _ _ | refine Below.alloc ?_ ?_ _ | refine Below.setCell ?_ ?_ _ | refine Below.drew ?_)); all_goals (first | exact Nat.le_refl _ | omega | (simp; done) | (simp; omega)))⟩
end Go.Proofs.YtfhpfdlbgmgclakDoor
