/-
  What the calls of package ring come to, said of a ring's three numbers: isEpoch, New, Check, Turn, Key.
-/
import Derived.Test.YtbclckaddjnjmafTagWalks
import Derived.Test.YtbclckaddjnjmafRingMath
namespace Go.Proofs.Ytbclckaddjnjmaf
open Go.RowKit

/-- An error by its number: 0 is none. -/
def errV (n : Int) : Value := if n = 0 then .nilIface else .iface 47 (.int .i64 n)
theorem errV_zero {n : Int} (h : n = 0) : errV n = .nilIface := if_pos h
theorem errV_pos {n : Int} (h : ¬ n = 0) : errV n = .iface 47 (.int .i64 n) := if_neg h
/-- A ring by its three numbers. -/
def ringV (ep key old : Int) : Value := .agg #[.int .i64 ep, .int .i64 key, .int .i64 old]


theorem of1_yes (key n : Int) (b : Nat) (w : World) (hc : w.cell? ⟨b, 0, none⟩ = some (.int .i64 n)) (h0 : 0 ≤ key) (h1 : key < 999983) (h2 : 0 ≤ n) (h3 : n < 999983) :
    Calls Try.prog 16 #[.int .i64 key, .slice (some ⟨b, 0, none⟩) 1 1] w fun e w' => e = .returned (.tuple #[.int .i64 (TagM.tag key [n]), .nilIface]) ∧ w' = w :=
  of_ok key b 0 1 [n] w h0 h1 (by simp) (by simp [(TagM.inB_iff n).2 ⟨h2, h3⟩]) (fun k hk => by
    obtain rfl : k = 0 := by simp at hk; omega
    exact hc)

end Go.Proofs.Ytbclckaddjnjmaf
