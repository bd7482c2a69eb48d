/-
  The plain mathematics of resets: what is wrong with a secret and a conn, the tag, and that unlike conns have unlike tags. No Go here.
-/
import Derived.Test.YtimilfnbbimipajTagMath
import Derived.Test.YtimilfnbbimipajConnMath
namespace Go.Proofs.Ytimilfnbbimipaj
namespace ResetM

/-- What is wrong. -/
def err (k s m : Int) : Int := if ConnM.bad s m = 0 ∧ TagM.inB k = true then 0 else 1
def isErr (k s m n : Int) : Int := if err k s m = 0 ∧ TagM.inB n = true then 0 else 1
/-- The tag of a right conn. -/
def tag (k s m : Int) : Int := TagM.tag k [3, ConnM.turn (4096 * s + m)]
theorem err_zero {k s m : Int} (h : ConnM.bad s m = 0) (hk : TagM.inB k = true) : err k s m = 0 := if_pos ⟨h, hk⟩
theorem err_conn {k s m : Int} (h : ConnM.bad s m = 1) : err k s m = 1 := if_neg (fun q => by rw [h] at q; exact absurd q.1 (by decide))
theorem err_key {k s m : Int} (h : TagM.inB k = false) : err k s m = 1 := if_neg (fun q => by rw [h] at q; exact absurd q.2 (by decide))
theorem err_two (k s m : Int) : err k s m = 0 ∨ err k s m = 1 := by unfold err; split <;> simp
theorem bad_two (s m : Int) : ConnM.bad s m = 0 ∨ ConnM.bad s m = 1 := by unfold ConnM.bad; split <;> simp
theorem err_both {k s m : Int} (h : err k s m = 0) : ConnM.bad s m = 0 ∧ TagM.inB k = true := by
  unfold err at h
  by_cases q : ConnM.bad s m = 0 ∧ TagM.inB k = true
  · exact q
  · rw [if_neg q] at h; exact absurd h (by decide)
theorem is_zero {k s m n : Int} (h : err k s m = 0) (hn : TagM.inB n = true) : isErr k s m n = 0 := if_pos ⟨h, hn⟩
theorem is_bad {k s m n : Int} (h : err k s m = 1) : isErr k s m n = 1 := if_neg (fun q => by rw [h] at q; exact absurd q.1 (by decide))
theorem is_out {k s m n : Int} (h : TagM.inB n = false) : isErr k s m n = 1 := if_neg (fun q => by rw [h] at q; exact absurd q.2 (by decide))
theorem tag_in (k s m : Int) : 0 ≤ tag k s m ∧ tag k s m < 999983 := TagM.tag_bd _ _
theorem tag_inB (k s m : Int) : TagM.inB (tag k s m) = true := (TagM.inB_iff _).2 (tag_in k s m)
theorem turn_in {s m : Int} (h : ConnM.bad s m = 0) : 0 ≤ ConnM.turn (4096 * s + m) ∧ ConnM.turn (4096 * s + m) < 999983 := by
  have q := ConnM.bad_zero.1 h
  have h0 := ConnM.turn_lo (4096 * s + m)
  have h1 := ConnM.turn_hi (x := 4096 * s + m) (by omega)
  omega
/-- Unlike conns have unlike tags. -/
theorem tag_own {k s m u v : Int} (hk : TagM.inB k = true) (h : ConnM.bad s m = 0) (g : ConnM.bad u v = 0) (e : tag k s m = tag k u v) : s = u ∧ m = v := by
  have a := (TagM.tag_one (key := k) (a := [3]) (c := []) ((TagM.inB_iff _).1 hk) (turn_in h) (turn_in g)).1 e
  have q := ConnM.bad_zero.1 h
  have r := ConnM.bad_zero.1 g
  have := (ConnM.turn_inj (x := 4096 * s + m) (y := 4096 * u + v) (by omega) (by omega)).1 a
  omega
end ResetM
end Go.Proofs.Ytimilfnbbimipaj
