/-
  What log.written and log.read come to: a record as nine bytes, and back.
-/
import Derived.Test.YtfhpfdlbgmgclakDoorKept
import Derived.Test.YtfhpfdlbgmgclakDoorLogMath
import Derived.Deep.Cut
namespace Go.Proofs.YtfhpfdlbgmgclakDoor
open Go.RowKit

/-- Nine bytes of which the first k are written. -/
def fill (r : LogM.Rec) (k : Nat) : List Value := ((LogM.enc r).take k).map (Value.int .u8) ++ List.replicate (9 - k) (.int .u8 0)
def zeros9 : List Value := List.replicate 9 (.int .u8 0)

set_option maxHeartbeats 3200000 in
set_option maxRecDepth 8000 in
theorem lwritten_any (n u t : Int) (w : World) (hf : LogM.Fits (n, u, t)) :
    Calls Tryd.prog 30 #[.agg #[.int .i64 n, .int .i64 u, .int .i64 t]] w fun e w' => e = .returned (.agg #[.int .u8 (n % 256), .int .u8 (n / 256 % 256), .int .u8 (n / 65536), .int .u8 (u % 256), .int .u8 (u / 256 % 256), .int .u8 (u / 65536), .int .u8 (t % 256), .int .u8 (t / 256 % 256), .int .u8 (t / 65536)]) ∧ Below w.heap.size w w' := by
  obtain ⟨⟨n0, n1⟩, ⟨u0, u1⟩, ⟨t0, t1⟩⟩ := hf
  dsimp only at n0 n1 u0 u1 t0 t1
  go_enter Tryd.func30, Tryd.ntmps30
  go_wp2
  go_loopw [5] (fun i wr => ∃ k : Nat, k ≤ 9 ∧ i = .int .i64 k ∧ Hid (Held wr w.heap.size (n3 n u t)) ∧ Hid (Held wr (w.heap.size + 1) zeros9) ∧ Hid (Held wr (w.heap.size + 1 + 1) (fill (n, u, t) k)) ∧ Hid (Below w.heap.size w wr)) (fun i _ => 9 - (intOf i).toNat)
  case atStart =>
    have h1 := Held.fresh (w := w) (n3 n u t) 72 rfl
    have h2 := Held.fresh (w := w.alloc (.cells (n3 n u t).toArray 72)) (b := w.heap.size + 1) zeros9 70 (by simp)
    have h3 := Held.fresh (w := (w.alloc (.cells (n3 n u t).toArray 72)).alloc (.cells zeros9.toArray 70)) (b := w.heap.size + 1 + 1) zeros9 70 (by simp)
    have g1 := (h1.later (((Below.refl _ _).alloc (Nat.le_refl _) (.cells zeros9.toArray 70)).alloc (by simp) (.cells zeros9.toArray 70)))
    have g2 := h2.later ((Below.refl _ _).alloc (Nat.le_refl _) (.cells zeros9.toArray 70))
    exact ⟨0, by omega, rfl, hide g1, hide g2, hide h3, hide (by (repeat' (first | exact Below.refl _ _ | refine Below.alloc ?_ ?_ _ | refine Below.setCell ?_ ?_ _ | refine Below.drew ?_)); all_goals (first | exact Nat.le_refl _ | omega | (simp; done) | (simp; omega)))⟩
  case round =>
    obtain ⟨k, hk, rfl, HR, HZ, HF, HB⟩ := hrel
    rcases (show k = 0 ∨ k = 1 ∨ k = 2 ∨ k = 3 ∨ k = 4 ∨ k = 5 ∨ k = 6 ∨ k = 7 ∨ k = 8 ∨ k = 9 by omega) with rfl | rfl | rfl | rfl | rfl | rfl | rfl | rfl | rfl | rfl
    · obtain ⟨c0, f0⟩ := (unhide HF).1 0 (.int .u8 0) rfl
      have l0 := (unhide HF).2
      obtain ⟨⟨c1, c2, c3⟩, -⟩ := (unhide HR).c3
      have G1 := hide ((unhide HR).far (c := w.heap.size + 1 + 1) (by omega) 0 (.int .u8 (n % 256)))
      have G2 := hide ((unhide HZ).far (c := w.heap.size + 1 + 1) (by omega) 0 (.int .u8 (n % 256)))
      have G3 := hide ((unhide HF).put 0 (.int .u8 (n % 256)))
      have G4 := hide (Below.setCell (p := ⟨w.heap.size + 1 + 1, 0, none⟩) (unhide HB) (show w.heap.size ≤ w.heap.size + 1 + 1 by omega) (.int .u8 (n % 256)))
      go_wp2
      go_roundw
      case rel => exact ⟨1, by omega, rfl, G1, G2, G3, G4⟩
      case measure => simp [intOf]
    · obtain ⟨c0, f0⟩ := (unhide HF).1 1 (.int .u8 0) rfl
      have l0 := (unhide HF).2
      obtain ⟨⟨c1, c2, c3⟩, -⟩ := (unhide HR).c3
      have G1 := hide ((unhide HR).far (c := w.heap.size + 1 + 1) (by omega) 1 (.int .u8 (n / 256 % 256)))
      have G2 := hide ((unhide HZ).far (c := w.heap.size + 1 + 1) (by omega) 1 (.int .u8 (n / 256 % 256)))
      have G3 := hide ((unhide HF).put 1 (.int .u8 (n / 256 % 256)))
      have G4 := hide (Below.setCell (p := ⟨w.heap.size + 1 + 1, 1, none⟩) (unhide HB) (show w.heap.size ≤ w.heap.size + 1 + 1 by omega) (.int .u8 (n / 256 % 256)))
      go_wp2
      go_roundw
      case rel => exact ⟨2, by omega, rfl, G1, G2, G3, G4⟩
      case measure => simp [intOf]
    · obtain ⟨c0, f0⟩ := (unhide HF).1 2 (.int .u8 0) rfl
      have l0 := (unhide HF).2
      obtain ⟨⟨c1, c2, c3⟩, -⟩ := (unhide HR).c3
      have G1 := hide ((unhide HR).far (c := w.heap.size + 1 + 1) (by omega) 2 (.int .u8 (n / 65536)))
      have G2 := hide ((unhide HZ).far (c := w.heap.size + 1 + 1) (by omega) 2 (.int .u8 (n / 65536)))
      have G3 := hide ((unhide HF).put 2 (.int .u8 (n / 65536)))
      have G4 := hide (Below.setCell (p := ⟨w.heap.size + 1 + 1, 2, none⟩) (unhide HB) (show w.heap.size ≤ w.heap.size + 1 + 1 by omega) (.int .u8 (n / 65536)))
      go_wp2
      go_roundw
      case rel => exact ⟨3, by omega, rfl, G1, G2, G3, G4⟩
      case measure => simp [intOf]
    · obtain ⟨c0, f0⟩ := (unhide HF).1 3 (.int .u8 0) rfl
      have l0 := (unhide HF).2
      obtain ⟨⟨c1, c2, c3⟩, -⟩ := (unhide HR).c3
      have G1 := hide ((unhide HR).far (c := w.heap.size + 1 + 1) (by omega) 3 (.int .u8 (u % 256)))
      have G2 := hide ((unhide HZ).far (c := w.heap.size + 1 + 1) (by omega) 3 (.int .u8 (u % 256)))
      have G3 := hide ((unhide HF).put 3 (.int .u8 (u % 256)))
      have G4 := hide (Below.setCell (p := ⟨w.heap.size + 1 + 1, 3, none⟩) (unhide HB) (show w.heap.size ≤ w.heap.size + 1 + 1 by omega) (.int .u8 (u % 256)))
      go_wp2
      go_roundw
      case rel => exact ⟨4, by omega, rfl, G1, G2, G3, G4⟩
      case measure => simp [intOf]
    · obtain ⟨c0, f0⟩ := (unhide HF).1 4 (.int .u8 0) rfl
      have l0 := (unhide HF).2
      obtain ⟨⟨c1, c2, c3⟩, -⟩ := (unhide HR).c3
      have G1 := hide ((unhide HR).far (c := w.heap.size + 1 + 1) (by omega) 4 (.int .u8 (u / 256 % 256)))
      have G2 := hide ((unhide HZ).far (c := w.heap.size + 1 + 1) (by omega) 4 (.int .u8 (u / 256 % 256)))
      have G3 := hide ((unhide HF).put 4 (.int .u8 (u / 256 % 256)))
      have G4 := hide (Below.setCell (p := ⟨w.heap.size + 1 + 1, 4, none⟩) (unhide HB) (show w.heap.size ≤ w.heap.size + 1 + 1 by omega) (.int .u8 (u / 256 % 256)))
      go_wp2
      go_roundw
      case rel => exact ⟨5, by omega, rfl, G1, G2, G3, G4⟩
      case measure => simp [intOf]
    · obtain ⟨c0, f0⟩ := (unhide HF).1 5 (.int .u8 0) rfl
      have l0 := (unhide HF).2
      obtain ⟨⟨c1, c2, c3⟩, -⟩ := (unhide HR).c3
      have G1 := hide ((unhide HR).far (c := w.heap.size + 1 + 1) (by omega) 5 (.int .u8 (u / 65536)))
      have G2 := hide ((unhide HZ).far (c := w.heap.size + 1 + 1) (by omega) 5 (.int .u8 (u / 65536)))
      have G3 := hide ((unhide HF).put 5 (.int .u8 (u / 65536)))
      have G4 := hide (Below.setCell (p := ⟨w.heap.size + 1 + 1, 5, none⟩) (unhide HB) (show w.heap.size ≤ w.heap.size + 1 + 1 by omega) (.int .u8 (u / 65536)))
      go_wp2
      go_roundw
      case rel => exact ⟨6, by omega, rfl, G1, G2, G3, G4⟩
      case measure => simp [intOf]
    · obtain ⟨c0, f0⟩ := (unhide HF).1 6 (.int .u8 0) rfl
      have l0 := (unhide HF).2
      obtain ⟨⟨c1, c2, c3⟩, -⟩ := (unhide HR).c3
      have G1 := hide ((unhide HR).far (c := w.heap.size + 1 + 1) (by omega) 6 (.int .u8 (t % 256)))
      have G2 := hide ((unhide HZ).far (c := w.heap.size + 1 + 1) (by omega) 6 (.int .u8 (t % 256)))
      have G3 := hide ((unhide HF).put 6 (.int .u8 (t % 256)))
      have G4 := hide (Below.setCell (p := ⟨w.heap.size + 1 + 1, 6, none⟩) (unhide HB) (show w.heap.size ≤ w.heap.size + 1 + 1 by omega) (.int .u8 (t % 256)))
      go_wp2
      go_roundw
      case rel => exact ⟨7, by omega, rfl, G1, G2, G3, G4⟩
      case measure => simp [intOf]
    · obtain ⟨c0, f0⟩ := (unhide HF).1 7 (.int .u8 0) rfl
      have l0 := (unhide HF).2
      obtain ⟨⟨c1, c2, c3⟩, -⟩ := (unhide HR).c3
      have G1 := hide ((unhide HR).far (c := w.heap.size + 1 + 1) (by omega) 7 (.int .u8 (t / 256 % 256)))
      have G2 := hide ((unhide HZ).far (c := w.heap.size + 1 + 1) (by omega) 7 (.int .u8 (t / 256 % 256)))
      have G3 := hide ((unhide HF).put 7 (.int .u8 (t / 256 % 256)))
      have G4 := hide (Below.setCell (p := ⟨w.heap.size + 1 + 1, 7, none⟩) (unhide HB) (show w.heap.size ≤ w.heap.size + 1 + 1 by omega) (.int .u8 (t / 256 % 256)))
      go_wp2
      go_roundw
      case rel => exact ⟨8, by omega, rfl, G1, G2, G3, G4⟩
      case measure => simp [intOf]
    · obtain ⟨c0, f0⟩ := (unhide HF).1 8 (.int .u8 0) rfl
      have l0 := (unhide HF).2
      obtain ⟨⟨c1, c2, c3⟩, -⟩ := (unhide HR).c3
      have G1 := hide ((unhide HR).far (c := w.heap.size + 1 + 1) (by omega) 8 (.int .u8 (t / 65536)))
      have G2 := hide ((unhide HZ).far (c := w.heap.size + 1 + 1) (by omega) 8 (.int .u8 (t / 65536)))
      have G3 := hide ((unhide HF).put 8 (.int .u8 (t / 65536)))
      have G4 := hide (Below.setCell (p := ⟨w.heap.size + 1 + 1, 8, none⟩) (unhide HB) (show w.heap.size ≤ w.heap.size + 1 + 1 by omega) (.int .u8 (t / 65536)))
      go_wp2
      go_roundw
      case rel => exact ⟨9, by omega, rfl, G1, G2, G3, G4⟩
      case measure => simp [intOf]
    · obtain ⟨c0, f0⟩ := (unhide HF).1 0 (.int .u8 (n % 256)) rfl
      obtain ⟨c1, f1⟩ := (unhide HF).1 1 (.int .u8 (n / 256 % 256)) rfl
      obtain ⟨c2, f2⟩ := (unhide HF).1 2 (.int .u8 (n / 65536)) rfl
      obtain ⟨c3, f3⟩ := (unhide HF).1 3 (.int .u8 (u % 256)) rfl
      obtain ⟨c4, f4⟩ := (unhide HF).1 4 (.int .u8 (u / 256 % 256)) rfl
      obtain ⟨c5, f5⟩ := (unhide HF).1 5 (.int .u8 (u / 65536)) rfl
      obtain ⟨c6, f6⟩ := (unhide HF).1 6 (.int .u8 (t % 256)) rfl
      obtain ⟨c7, f7⟩ := (unhide HF).1 7 (.int .u8 (t / 256 % 256)) rfl
      obtain ⟨c8, f8⟩ := (unhide HF).1 8 (.int .u8 (t / 65536)) rfl
      obtain ⟨d0, e0⟩ := (unhide HZ).1 0 (.int .u8 0) rfl
      obtain ⟨d1, e1⟩ := (unhide HZ).1 1 (.int .u8 0) rfl
      obtain ⟨d2, e2⟩ := (unhide HZ).1 2 (.int .u8 0) rfl
      obtain ⟨d3, e3⟩ := (unhide HZ).1 3 (.int .u8 0) rfl
      obtain ⟨d4, e4⟩ := (unhide HZ).1 4 (.int .u8 0) rfl
      obtain ⟨d5, e5⟩ := (unhide HZ).1 5 (.int .u8 0) rfl
      obtain ⟨d6, e6⟩ := (unhide HZ).1 6 (.int .u8 0) rfl
      obtain ⟨d7, e7⟩ := (unhide HZ).1 7 (.int .u8 0) rfl
      obtain ⟨d8, e8⟩ := (unhide HZ).1 8 (.int .u8 0) rfl
      have l0 := (unhide HF).2
      have l1 := (unhide HZ).2
      go_wp2
      refine bodyPost_ret (v := .agg #[.int .u8 (n % 256), .int .u8 (n / 256 % 256), .int .u8 (n / 65536), .int .u8 (u % 256), .int .u8 (u / 256 % 256), .int .u8 (u / 65536), .int .u8 (t % 256), .int .u8 (t / 256 % 256), .int .u8 (t / 65536)]) (by simp [results, Tryd.results30, go_sem, d0, d1, d2, d3, d4, d5, d6, d7, d8]) rfl ⟨rfl, ?_⟩
      exact Below.setCell (p := ⟨w.heap.size + 1, 8, none⟩) (Below.setCell (p := ⟨w.heap.size + 1, 7, none⟩) (Below.setCell (p := ⟨w.heap.size + 1, 6, none⟩) (Below.setCell (p := ⟨w.heap.size + 1, 5, none⟩) (Below.setCell (p := ⟨w.heap.size + 1, 4, none⟩) (Below.setCell (p := ⟨w.heap.size + 1, 3, none⟩) (Below.setCell (p := ⟨w.heap.size + 1, 2, none⟩) (Below.setCell (p := ⟨w.heap.size + 1, 1, none⟩) (Below.setCell (p := ⟨w.heap.size + 1, 0, none⟩) (unhide HB) (show w.heap.size ≤ w.heap.size + 1 by omega) _) (show w.heap.size ≤ w.heap.size + 1 by omega) _) (show w.heap.size ≤ w.heap.size + 1 by omega) _) (show w.heap.size ≤ w.heap.size + 1 by omega) _) (show w.heap.size ≤ w.heap.size + 1 by omega) _) (show w.heap.size ≤ w.heap.size + 1 by omega) _) (show w.heap.size ≤ w.heap.size + 1 by omega) _) (show w.heap.size ≤ w.heap.size + 1 by omega) _) (show w.heap.size ≤ w.heap.size + 1 by omega) _

theorem lor_nat (a b : Nat) (ha : a < 2 ^ 63) (hb : b < 2 ^ 63) : bits .or .i64 (a : Int) (b : Int) = ((a ||| b : Nat) : Int) :=
  (bits_nat .i64 63 (by decide) (fun n h0 h1 => by rw [IntKind.wrap_i64]; have : (2 : Int) ^ 63 = 9223372036854775808 := rfl; omega) a b ha hb).2
theorem lor0 {n : Int} (h0 : 0 ≤ n) : bits .or .i64 0 (n % 256) = n % 256 := by
  obtain ⟨N, rfl⟩ := Int.eq_ofNat_of_zero_le h0
  have h : N % 256 < 2 ^ 63 := by omega
  have e := lor_nat 0 (N % 256) (by decide) h
  rw [Nat.zero_or, show ((N % 256 : Nat) : Int) = (N : Int) % 256 by omega] at e
  exact e
theorem lor1 {n : Int} (h0 : 0 ≤ n) : bits .or .i64 (n % 256) (n / 256 % 256 * 256) = n % 65536 := by
  obtain ⟨N, rfl⟩ := Int.eq_ofNat_of_zero_le h0
  have h1 : N % 256 < 2 ^ 63 := by omega
  have h2 : N / 256 % 256 * 256 < 2 ^ 63 := by omega
  have e := lor_nat (N % 256) (N / 256 % 256 * 256) h1 h2
  have q := Nat.two_pow_add_eq_or_of_lt (i := 8) (b := N % 256) (by omega) (N / 256 % 256)
  rw [Nat.or_comm, show N / 256 % 256 * 256 = 2 ^ 8 * (N / 256 % 256) by omega, ← q, show 2 ^ 8 * (N / 256 % 256) + N % 256 = N % 65536 by omega] at e
  rw [show 2 ^ 8 * (N / 256 % 256) = N / 256 % 256 * 256 by omega, show ((N / 256 % 256 * 256 : Nat) : Int) = (N : Int) / 256 % 256 * 256 by omega, show ((N % 256 : Nat) : Int) = (N : Int) % 256 by omega, show ((N % 65536 : Nat) : Int) = (N : Int) % 65536 by omega] at e
  exact e
theorem lor2 {n : Int} (h0 : 0 ≤ n) (h1 : n < 16777216) : bits .or .i64 (n % 65536) (n / 65536 * 65536) = n := by
  obtain ⟨N, rfl⟩ := Int.eq_ofNat_of_zero_le h0
  have g1 : N % 65536 < 2 ^ 63 := by omega
  have g2 : N / 65536 * 65536 < 2 ^ 63 := by omega
  have e := lor_nat (N % 65536) (N / 65536 * 65536) g1 g2
  have q := Nat.two_pow_add_eq_or_of_lt (i := 16) (b := N % 65536) (by omega) (N / 65536)
  rw [Nat.or_comm, show N / 65536 * 65536 = 2 ^ 16 * (N / 65536) by omega, ← q, show 2 ^ 16 * (N / 65536) + N % 65536 = N by omega] at e
  rw [show 2 ^ 16 * (N / 65536) = N / 65536 * 65536 by omega, show ((N / 65536 * 65536 : Nat) : Int) = (N : Int) / 65536 * 65536 by omega, show ((N % 65536 : Nat) : Int) = (N : Int) % 65536 by omega] at e
  exact e
/-- A record of which k bytes were read. -/
def part (n : Int) (k : Nat) : Int := if k = 0 then 0 else if k = 1 then n % 256 else if k = 2 then n % 65536 else n
def parts (n u t : Int) (k : Nat) : List Value := n3 (part n k) (part u (k - 3)) (part t (k - 6))
set_option maxHeartbeats 3200000 in
set_option maxRecDepth 8000 in
theorem lread_any (n u t : Int) (b off cap : Nat) (w : World) (hf : LogM.Fits (n, u, t)) (hc : ∀ i v, [n % 256, n / 256 % 256, n / 65536, u % 256, u / 256 % 256, u / 65536, t % 256, t / 256 % 256, t / 65536][i]? = some v → w.cell? ⟨b, off + i, none⟩ = some (.int .u8 v)) :
    Calls Tryd.prog 63 #[.slice (some ⟨b, off, none⟩) 9 cap] w fun e w' => e = .returned (.agg #[.int .i64 n, .int .i64 u, .int .i64 t]) ∧ Below w.heap.size w w' := by
  obtain ⟨⟨n0, n1⟩, ⟨u0, u1⟩, ⟨t0, t1⟩⟩ := hf
  dsimp only at n0 n1 u0 u1 t0 t1
  have HC := hide hc
  clear hc
  go_enter Tryd.func63, Tryd.ntmps63
  go_wp2
  go_loopw [8] (fun i wr => ∃ k : Nat, k ≤ 9 ∧ i = .int .i64 k ∧ Hid (Held wr w.heap.size (n3 0 0 0)) ∧ Hid (Held wr (w.heap.size + 1) (parts n u t k)) ∧ Hid (Below w.heap.size w wr)) (fun i _ => 9 - (intOf i).toNat)
  case atStart =>
    have h2 := Held.fresh (w := w) (n3 0 0 0) 72 rfl
    have h3 := Held.fresh (w := w.alloc (.cells (n3 0 0 0).toArray 72)) (b := w.heap.size + 1) (n3 0 0 0) 72 (by simp)
    have g2 := h2.later ((Below.refl _ _).alloc (Nat.le_refl _) (.cells (n3 0 0 0).toArray 72))
    exact ⟨0, by omega, rfl, hide g2, hide h3, hide (by (repeat' (first | exact Below.refl _ _ | refine Below.alloc ?_ ?_ _ | refine Below.setCell ?_ ?_ _ | refine Below.drew ?_)); all_goals (first | exact Nat.le_refl _ | omega | (simp; done) | (simp; omega)))⟩
  case round =>
    obtain ⟨k, hk, rfl, HZ, HF, HB⟩ := hrel
    rcases (show k = 0 ∨ k = 1 ∨ k = 2 ∨ k = 3 ∨ k = 4 ∨ k = 5 ∨ k = 6 ∨ k = 7 ∨ k = 8 ∨ k = 9 by omega) with rfl | rfl | rfl | rfl | rfl | rfl | rfl | rfl | rfl | rfl
    · have c0 : wr.cell? ⟨b, off, none⟩ = some (.int .u8 (n % 256)) := cell_later (unhide HB) (unhide HC 0 (n % 256) rfl)
      have HF' : Hid (Held wr (w.heap.size + 1) (n3 (0) (0) (0))) := hide (unhide HF)
      obtain ⟨⟨c1, c2, c3⟩, ⟨f1, f2, f3⟩⟩ := (unhide HF').c3
      have l0 := (unhide HF').2
      have b0 : 0 ≤ n % 256 := by omega
      have b1 : n % 256 < 256 := by omega
      have HR := hide (lor0 n0)
      have G1 := hide ((unhide HZ).far (c := w.heap.size + 1) (by omega) 0 (.int .i64 (n % 256)))
      have G3 : Hid (Held (wr.setCell ⟨w.heap.size + 1, 0, none⟩ (.int .i64 (n % 256))) (w.heap.size + 1) (parts n u t 1)) := hide ((unhide HF').put 0 (.int .i64 (n % 256)))
      have G4 := hide (Below.setCell (p := ⟨w.heap.size + 1, 0, none⟩) (unhide HB) (show w.heap.size ≤ w.heap.size + 1 by omega) (.int .i64 (n % 256)))
      have hor := unhide HR
      go_wp2
      go_region
      go_wp2
      go_roundw
      case rel => exact ⟨1, by omega, rfl, hide ((unhide G1).later ((Below.refl _ _).drew)), hide ((unhide G3).later ((Below.refl _ _).drew)), hide (unhide G4).drew⟩
      case measure => simp [intOf]
    · have c0 : wr.cell? ⟨b, off + 1, none⟩ = some (.int .u8 (n / 256 % 256)) := cell_later (unhide HB) (unhide HC 1 (n / 256 % 256) rfl)
      have HF' : Hid (Held wr (w.heap.size + 1) (n3 (n % 256) (0) (0))) := hide (unhide HF)
      obtain ⟨⟨c1, c2, c3⟩, ⟨f1, f2, f3⟩⟩ := (unhide HF').c3
      have l0 := (unhide HF').2
      have b0 : 0 ≤ n / 256 % 256 := by omega
      have b1 : n / 256 % 256 < 256 := by omega
      have HR := hide (lor1 n0)
      have G1 := hide ((unhide HZ).far (c := w.heap.size + 1) (by omega) 0 (.int .i64 (n % 65536)))
      have G3 : Hid (Held (wr.setCell ⟨w.heap.size + 1, 0, none⟩ (.int .i64 (n % 65536))) (w.heap.size + 1) (parts n u t 2)) := hide ((unhide HF').put 0 (.int .i64 (n % 65536)))
      have G4 := hide (Below.setCell (p := ⟨w.heap.size + 1, 0, none⟩) (unhide HB) (show w.heap.size ≤ w.heap.size + 1 by omega) (.int .i64 (n % 65536)))
      have hor := unhide HR
      go_wp2
      go_region
      go_wp2
      go_roundw
      case rel => exact ⟨2, by omega, rfl, hide ((unhide G1).later ((Below.refl _ _).drew)), hide ((unhide G3).later ((Below.refl _ _).drew)), hide (unhide G4).drew⟩
      case measure => simp [intOf]
    · have c0 : wr.cell? ⟨b, off + 2, none⟩ = some (.int .u8 (n / 65536)) := cell_later (unhide HB) (unhide HC 2 (n / 65536) rfl)
      have HF' : Hid (Held wr (w.heap.size + 1) (n3 (n % 65536) (0) (0))) := hide (unhide HF)
      obtain ⟨⟨c1, c2, c3⟩, ⟨f1, f2, f3⟩⟩ := (unhide HF').c3
      have l0 := (unhide HF').2
      have b0 : 0 ≤ n / 65536 := by omega
      have b1 : n / 65536 < 256 := by omega
      have HR := hide (lor2 n0 n1)
      have G1 := hide ((unhide HZ).far (c := w.heap.size + 1) (by omega) 0 (.int .i64 (n)))
      have G3 : Hid (Held (wr.setCell ⟨w.heap.size + 1, 0, none⟩ (.int .i64 (n))) (w.heap.size + 1) (parts n u t 3)) := hide ((unhide HF').put 0 (.int .i64 (n)))
      have G4 := hide (Below.setCell (p := ⟨w.heap.size + 1, 0, none⟩) (unhide HB) (show w.heap.size ≤ w.heap.size + 1 by omega) (.int .i64 (n)))
      have hor := unhide HR
      go_wp2
      go_region
      go_wp2
      go_roundw
      case rel => exact ⟨3, by omega, rfl, hide ((unhide G1).later ((Below.refl _ _).drew)), hide ((unhide G3).later ((Below.refl _ _).drew)), hide (unhide G4).drew⟩
      case measure => simp [intOf]
    · have c0 : wr.cell? ⟨b, off + 3, none⟩ = some (.int .u8 (u % 256)) := cell_later (unhide HB) (unhide HC 3 (u % 256) rfl)
      have HF' : Hid (Held wr (w.heap.size + 1) (n3 (n) (0) (0))) := hide (unhide HF)
      obtain ⟨⟨c1, c2, c3⟩, ⟨f1, f2, f3⟩⟩ := (unhide HF').c3
      have l0 := (unhide HF').2
      have b0 : 0 ≤ u % 256 := by omega
      have b1 : u % 256 < 256 := by omega
      have HR := hide (lor0 u0)
      have G1 := hide ((unhide HZ).far (c := w.heap.size + 1) (by omega) 1 (.int .i64 (u % 256)))
      have G3 : Hid (Held (wr.setCell ⟨w.heap.size + 1, 1, none⟩ (.int .i64 (u % 256))) (w.heap.size + 1) (parts n u t 4)) := hide ((unhide HF').put 1 (.int .i64 (u % 256)))
      have G4 := hide (Below.setCell (p := ⟨w.heap.size + 1, 1, none⟩) (unhide HB) (show w.heap.size ≤ w.heap.size + 1 by omega) (.int .i64 (u % 256)))
      have hor := unhide HR
      go_wp2
      go_region
      go_wp2
      go_roundw
      case rel => exact ⟨4, by omega, rfl, hide ((unhide G1).later ((Below.refl _ _).drew)), hide ((unhide G3).later ((Below.refl _ _).drew)), hide (unhide G4).drew⟩
      case measure => simp [intOf]
    · have c0 : wr.cell? ⟨b, off + 4, none⟩ = some (.int .u8 (u / 256 % 256)) := cell_later (unhide HB) (unhide HC 4 (u / 256 % 256) rfl)
      have HF' : Hid (Held wr (w.heap.size + 1) (n3 (n) (u % 256) (0))) := hide (unhide HF)
      obtain ⟨⟨c1, c2, c3⟩, ⟨f1, f2, f3⟩⟩ := (unhide HF').c3
      have l0 := (unhide HF').2
      have b0 : 0 ≤ u / 256 % 256 := by omega
      have b1 : u / 256 % 256 < 256 := by omega
      have HR := hide (lor1 u0)
      have G1 := hide ((unhide HZ).far (c := w.heap.size + 1) (by omega) 1 (.int .i64 (u % 65536)))
      have G3 : Hid (Held (wr.setCell ⟨w.heap.size + 1, 1, none⟩ (.int .i64 (u % 65536))) (w.heap.size + 1) (parts n u t 5)) := hide ((unhide HF').put 1 (.int .i64 (u % 65536)))
      have G4 := hide (Below.setCell (p := ⟨w.heap.size + 1, 1, none⟩) (unhide HB) (show w.heap.size ≤ w.heap.size + 1 by omega) (.int .i64 (u % 65536)))
      have hor := unhide HR
      go_wp2
      go_region
      go_wp2
      go_roundw
      case rel => exact ⟨5, by omega, rfl, hide ((unhide G1).later ((Below.refl _ _).drew)), hide ((unhide G3).later ((Below.refl _ _).drew)), hide (unhide G4).drew⟩
      case measure => simp [intOf]
    · have c0 : wr.cell? ⟨b, off + 5, none⟩ = some (.int .u8 (u / 65536)) := cell_later (unhide HB) (unhide HC 5 (u / 65536) rfl)
      have HF' : Hid (Held wr (w.heap.size + 1) (n3 (n) (u % 65536) (0))) := hide (unhide HF)
      obtain ⟨⟨c1, c2, c3⟩, ⟨f1, f2, f3⟩⟩ := (unhide HF').c3
      have l0 := (unhide HF').2
      have b0 : 0 ≤ u / 65536 := by omega
      have b1 : u / 65536 < 256 := by omega
      have HR := hide (lor2 u0 u1)
      have G1 := hide ((unhide HZ).far (c := w.heap.size + 1) (by omega) 1 (.int .i64 (u)))
      have G3 : Hid (Held (wr.setCell ⟨w.heap.size + 1, 1, none⟩ (.int .i64 (u))) (w.heap.size + 1) (parts n u t 6)) := hide ((unhide HF').put 1 (.int .i64 (u)))
      have G4 := hide (Below.setCell (p := ⟨w.heap.size + 1, 1, none⟩) (unhide HB) (show w.heap.size ≤ w.heap.size + 1 by omega) (.int .i64 (u)))
      have hor := unhide HR
      go_wp2
      go_region
      go_wp2
      go_roundw
      case rel => exact ⟨6, by omega, rfl, hide ((unhide G1).later ((Below.refl _ _).drew)), hide ((unhide G3).later ((Below.refl _ _).drew)), hide (unhide G4).drew⟩
      case measure => simp [intOf]
    · have c0 : wr.cell? ⟨b, off + 6, none⟩ = some (.int .u8 (t % 256)) := cell_later (unhide HB) (unhide HC 6 (t % 256) rfl)
      have HF' : Hid (Held wr (w.heap.size + 1) (n3 (n) (u) (0))) := hide (unhide HF)
      obtain ⟨⟨c1, c2, c3⟩, ⟨f1, f2, f3⟩⟩ := (unhide HF').c3
      have l0 := (unhide HF').2
      have b0 : 0 ≤ t % 256 := by omega
      have b1 : t % 256 < 256 := by omega
      have HR := hide (lor0 t0)
      have G1 := hide ((unhide HZ).far (c := w.heap.size + 1) (by omega) 2 (.int .i64 (t % 256)))
      have G3 : Hid (Held (wr.setCell ⟨w.heap.size + 1, 2, none⟩ (.int .i64 (t % 256))) (w.heap.size + 1) (parts n u t 7)) := hide ((unhide HF').put 2 (.int .i64 (t % 256)))
      have G4 := hide (Below.setCell (p := ⟨w.heap.size + 1, 2, none⟩) (unhide HB) (show w.heap.size ≤ w.heap.size + 1 by omega) (.int .i64 (t % 256)))
      have hor := unhide HR
      go_wp2
      go_region
      go_wp2
      go_roundw
      case rel => exact ⟨7, by omega, rfl, hide ((unhide G1).later ((Below.refl _ _).drew)), hide ((unhide G3).later ((Below.refl _ _).drew)), hide (unhide G4).drew⟩
      case measure => simp [intOf]
    · have c0 : wr.cell? ⟨b, off + 7, none⟩ = some (.int .u8 (t / 256 % 256)) := cell_later (unhide HB) (unhide HC 7 (t / 256 % 256) rfl)
      have HF' : Hid (Held wr (w.heap.size + 1) (n3 (n) (u) (t % 256))) := hide (unhide HF)
      obtain ⟨⟨c1, c2, c3⟩, ⟨f1, f2, f3⟩⟩ := (unhide HF').c3
      have l0 := (unhide HF').2
      have b0 : 0 ≤ t / 256 % 256 := by omega
      have b1 : t / 256 % 256 < 256 := by omega
      have HR := hide (lor1 t0)
      have G1 := hide ((unhide HZ).far (c := w.heap.size + 1) (by omega) 2 (.int .i64 (t % 65536)))
      have G3 : Hid (Held (wr.setCell ⟨w.heap.size + 1, 2, none⟩ (.int .i64 (t % 65536))) (w.heap.size + 1) (parts n u t 8)) := hide ((unhide HF').put 2 (.int .i64 (t % 65536)))
      have G4 := hide (Below.setCell (p := ⟨w.heap.size + 1, 2, none⟩) (unhide HB) (show w.heap.size ≤ w.heap.size + 1 by omega) (.int .i64 (t % 65536)))
      have hor := unhide HR
      go_wp2
      go_region
      go_wp2
      go_roundw
      case rel => exact ⟨8, by omega, rfl, hide ((unhide G1).later ((Below.refl _ _).drew)), hide ((unhide G3).later ((Below.refl _ _).drew)), hide (unhide G4).drew⟩
      case measure => simp [intOf]
    · have c0 : wr.cell? ⟨b, off + 8, none⟩ = some (.int .u8 (t / 65536)) := cell_later (unhide HB) (unhide HC 8 (t / 65536) rfl)
      have HF' : Hid (Held wr (w.heap.size + 1) (n3 (n) (u) (t % 65536))) := hide (unhide HF)
      obtain ⟨⟨c1, c2, c3⟩, ⟨f1, f2, f3⟩⟩ := (unhide HF').c3
      have l0 := (unhide HF').2
      have b0 : 0 ≤ t / 65536 := by omega
      have b1 : t / 65536 < 256 := by omega
      have HR := hide (lor2 t0 t1)
      have G1 := hide ((unhide HZ).far (c := w.heap.size + 1) (by omega) 2 (.int .i64 (t)))
      have G3 : Hid (Held (wr.setCell ⟨w.heap.size + 1, 2, none⟩ (.int .i64 (t))) (w.heap.size + 1) (parts n u t 9)) := hide ((unhide HF').put 2 (.int .i64 (t)))
      have G4 := hide (Below.setCell (p := ⟨w.heap.size + 1, 2, none⟩) (unhide HB) (show w.heap.size ≤ w.heap.size + 1 by omega) (.int .i64 (t)))
      have hor := unhide HR
      go_wp2
      go_region
      go_wp2
      go_roundw
      case rel => exact ⟨9, by omega, rfl, hide ((unhide G1).later ((Below.refl _ _).drew)), hide ((unhide G3).later ((Below.refl _ _).drew)), hide (unhide G4).drew⟩
      case measure => simp [intOf]
    · have HF' : Hid (Held wr (w.heap.size + 1) (n3 n u t)) := hide (unhide HF)
      obtain ⟨⟨c1, c2, c3⟩, ⟨f1, f2, f3⟩⟩ := (unhide HF').c3
      obtain ⟨⟨d1, d2, d3⟩, ⟨e1, e2, e3⟩⟩ := (unhide HZ).c3
      have l0 := (unhide HF').2
      have l1 := (unhide HZ).2
      go_wp2
      refine bodyPost_ret (v := .agg #[.int .i64 n, .int .i64 u, .int .i64 t]) (by simp [results, Tryd.results63, go_sem, d1, d2, d3]) rfl ⟨rfl, ?_⟩
      exact Below.setCell (p := ⟨w.heap.size, 2, none⟩) (Below.setCell (p := ⟨w.heap.size, 1, none⟩) (Below.setCell (p := ⟨w.heap.size, 0, none⟩) (unhide HB) (Nat.le_refl _) _) (Nat.le_refl _) _) (Nat.le_refl _) _
end Go.Proofs.YtfhpfdlbgmgclakDoor
