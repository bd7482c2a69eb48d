/-
  What the reference's queue comes to, said of who waits: Place, Offer, Out; and foldsame.Conns of two that read alike.
-/
import Derived.Test.YtimilfnbbimipajGreatDoorQueueWalks
import Derived.Test.YtimilfnbbimipajGreatDoorRefConn
namespace Go.Proofs.YtimilfnbbimipajGreatDoor
open Go.RowKit
attribute [local go_sem ↓] Go.wp_at_zero Go.wp_at_succ


set_option maxHeartbeats 1600000 in
set_option maxRecDepth 8000 in
theorem rplace_at {b j cap : Nat} {a : Option Addr} {L : List (Int × Int)} (s m : Int) (w : World) (c0 : w.cell? ⟨b, j, none⟩ = some (.slice a L.length cap)) (hp : PRow w a L.length cap L) (hl : L.length ≤ 8) :
    Calls Tryz.prog 54 #[.pointer (some ⟨b, j, none⟩), .agg #[.int .i64 s, .int .i64 m]] w fun e w' => e = .returned (.int .i64 (QueueM.place L (s, m))) ∧ Below w.heap.size w w' := by
  have HC0 := hide c0
  have HP := hide hp
  generalize hq : QueueM.place L (s, m) = E
  have HQ := hide hq
  clear hp hq c0
  generalize hn : L.length = n at HC0 HP hl
  have HL := hide hn
  clear hn
  go_enter Tryz.func54, Tryz.ntmps54
  go_wp2
  have HC := hide (Held.fresh (w := w) [.int .i64 s, .int .i64 m] 55 rfl)
  have HB0 := hide (show Below w.heap.size w (w.alloc (.cells #[.int .i64 s, .int .i64 m] 55)) from (by (repeat' (first | exact Below.refl _ _ | refine Below.alloc ?_ ?_ _ | refine Below.setCell ?_ ?_ _ | refine Below.drew ?_)); all_goals (first | exact Nat.le_refl _ | omega | (simp; done) | (simp; omega))))
  go_loopw [5] (fun i wr => ∃ k : Nat, k ≤ n ∧ i = .int .i64 k ∧ Hid ((s, m) ∉ L.take k) ∧ Hid (Held wr w.heap.size [.int .i64 s, .int .i64 m]) ∧ Hid (Below w.heap.size w wr)) (fun i _ => n - (intOf i).toNat)
  case atStart => exact ⟨0, Nat.zero_le _, rfl, hide (by simp), HC, HB0⟩
  case round =>
    obtain ⟨k, hk, rfl, HN, HC, HB⟩ := hrel
    have q0 := cell_later (unhide HB) (unhide HC0)
    have hbr : b < wr.heap.size := World.block_lt_of_cell? _ _ q0
    by_cases hlt : k < n
    · have hs := hide (QueueM.place_at (l := L) (k := k) (c := (s, m)) (by rw [unhide HL]; exact hlt) (unhide HN))
      have hn := hide (QueueM.no_step (l := L) (k := k) (c := (s, m)) (by rw [unhide HL]; exact hlt) (unhide HN))
      obtain ⟨rb, off, rfl, c1, c2⟩ := ((unhide HP).later (unhide HB)).2.2 k (by rw [unhide HL]; exact hlt)
      generalize L.getD k (0, 0) = p at c1 c2 hs hn
      obtain ⟨x, t⟩ := p
      dsimp only at c1 c2 hs hn
      obtain ⟨d1, d2⟩ := (unhide HC).c2.1
      have hk0 : (0 : Int) ≤ (k : Int) := by omega
      have hkc : (k : Int) < (n : Int) := by omega
      by_cases hx : x = s ∧ t = m
      · obtain ⟨rfl, rfl⟩ := hx
        have HE := hide (show E = (k : Int) by rw [← unhide HQ]; exact unhide hs rfl)
        clear hs hn
        have e1 : (x == x) = true := by simp
        have e2 : (t == t) = true := by simp
        go_wp2
        go_quiet (fail)
        go_wp2
        go_ret
        exact ⟨by rw [unhide HE]; rfl, below_drewN (unhide HB) _⟩
      · have hn' := hide (unhide hn (fun e => hx ⟨congrArg Prod.fst e, congrArg Prod.snd e⟩))
        clear hs hn
        by_cases hy : x = s
        · have hz : ¬ t = m := fun e => hx ⟨hy, e⟩
          subst hy
          have e1 : (x == x) = true := by simp
          have e2 : (t == m) = false := by simp [hz]
          go_wp2
          go_quiet (fail)
          go_wp2
          go_roundw
          case rel => exact ⟨k + 1, by omega, by go_num, hn', hide (unhide HC), hide (below_drewN (unhide HB) _)⟩
          case measure => simp [intOf]; omega
        · have e1 : (x == s) = false := by simp [hy]
          go_wp2
          go_quiet (fail)
          go_wp2
          go_roundw
          case rel => exact ⟨k + 1, by omega, by go_num, hn', hide (unhide HC), hide (below_drewN (unhide HB) _)⟩
          case measure => simp [intOf]; omega
    · have HE := hide (show E = -1 by rw [← unhide HQ]; exact QueueM.place_no (QueueM.no_all (by rw [unhide HL]; omega) (unhide HN)))
      go_wp2
      go_ret
      exact ⟨by rw [unhide HE]; rfl, unhide HB⟩

theorem rplace_any {B b : Nat} {o : Option Nat} {L : List (Int × Int)} (s m : Int) (w : World) (h : QAt 47 B w b o L) (hl : L.length ≤ 8) :
    Calls Tryz.prog 54 #[.pointer (some ⟨b, 0, none⟩), .agg #[.int .i64 s, .int .i64 m]] w fun e w' => e = .returned (.int .i64 (QueueM.place L (s, m))) ∧ Below w.heap.size w w' := by
  obtain ⟨_, v, _, h2, h3⟩ := h
  have c0 : w.cell? ⟨b, 0, none⟩ = some v := by rw [Go.Lib.cell_of_heap h2]; rfl
  obtain ⟨a, cap, rfl, hp⟩ := own_row h3
  exact rplace_at s m w c0 hp hl

theorem conn_ok {s m : Int} : (ConnM.bad s m == 0) = !decide (QueueM.bad (s, m)) := by
  rw [bad_iff]
  by_cases h : QueueM.bad (s, m)
  · rw [if_pos h, decide_eq_true h]; rfl
  · rw [if_neg h, decide_eq_false h]; rfl


theorem own_slice {w : World} {base n : Nat} {e : TypeId} {size : Nat} {v : Value} {xs : List Value} (h : w.ownsRow base e size v n xs) : ∃ a cap, v = .slice a n cap := by
  rcases h.2 with ⟨rfl, h0⟩ | ⟨g, cap, cur, rfl, _⟩
  · exact ⟨none, 0, by rw [h0]⟩
  · exact ⟨_, _, rfl⟩

end Go.Proofs.YtimilfnbbimipajGreatDoor
