/-
  What a log's Crash comes to.
-/
import Derived.Test.YtfhpfdlbgmgclakDoorLogSpend
namespace Go.Proofs.YtfhpfdlbgmgclakDoor
open Go.RowKit
attribute [local go_sem ↓] Go.wp_at_zero Go.wp_at_succ

theorem own_cut {w : World} {base n cap P : Nat} {e : TypeId} {b : Option Addr} {xs : List Value} (h : w.ownsRow base e 1 (.slice b n cap) n xs) (hP : P ≤ n) : w.ownsRow base e 1 (.slice b P cap) P (xs.take P) := by
  have hl := h.1
  refine ⟨by rw [List.length_take]; omega, ?_⟩
  rcases h.2 with ⟨h0, h1⟩ | ⟨g, cap', cur, h0, h1, h2, h3, h4, h5, h6⟩
  · simp only [Value.slice.injEq] at h0
    obtain ⟨rfl, -, rfl⟩ := h0
    obtain rfl : P = 0 := by omega
    exact .inl ⟨rfl, rfl⟩
  · simp only [Value.slice.injEq] at h0
    obtain ⟨rfl, -, rfl⟩ := h0
    refine .inr ⟨g, cap, cur, rfl, h1, h2, by omega, h4, h5, ?_⟩
    rw [← h6, List.take_take, Nat.min_eq_left (by omega), Nat.mul_one]
/-- All five cells of a log written. -/
theorem log_stored {B j : Nat} {W w0 : World} {cs : Array Value} (h : W.heap[j]? = some (.cells cs 66 (0, 0))) (hn : cs.size = 5) (A0 A1 A2 A3 A4 : Value) (hB : Below B w0 W) (hj : B ≤ j) :
    (((((W.setCell ⟨j, 0, none⟩ A0).setCell ⟨j, 1, none⟩ A1).setCell ⟨j, 2, none⟩ A2).setCell ⟨j, 3, none⟩ A3).setCell ⟨j, 4, none⟩ A4).heap[j]? = some (.cells #[A0, A1, A2, A3, A4] 66 (0, 0)) ∧
    Still [66] W (((((W.setCell ⟨j, 0, none⟩ A0).setCell ⟨j, 1, none⟩ A1).setCell ⟨j, 2, none⟩ A2).setCell ⟨j, 3, none⟩ A3).setCell ⟨j, 4, none⟩ A4) ∧
    Below B w0 (((((W.setCell ⟨j, 0, none⟩ A0).setCell ⟨j, 1, none⟩ A1).setCell ⟨j, 2, none⟩ A2).setCell ⟨j, 3, none⟩ A3).setCell ⟨j, 4, none⟩ A4) := by
  obtain ⟨l⟩ := cs
  match l, hn with
  | [x0, x1, x2, x3, x4], _ =>
    have s0 : Still [66] W _ := Still.set h (by simp) 0 A0
    have h0 := heap_put (i := 0) h A0
    have s1 : Still [66] _ _ := Still.set h0 (by simp) 1 A1
    have h1 := heap_put (i := 1) h0 A1
    have s2 : Still [66] _ _ := Still.set h1 (by simp) 2 A2
    have h2 := heap_put (i := 2) h1 A2
    have s3 : Still [66] _ _ := Still.set h2 (by simp) 3 A3
    have h3 := heap_put (i := 3) h2 A3
    have s4 : Still [66] _ _ := Still.set h3 (by simp) 4 A4
    have h4 := heap_put (i := 4) h3 A4
    exact ⟨h4, (((s0.trans s1).trans s2).trans s3).trans s4, ((((hB.setCell (p := ⟨j, 0, none⟩) hj A0).setCell (p := ⟨j, 1, none⟩) hj A1).setCell (p := ⟨j, 2, none⟩) hj A2).setCell (p := ⟨j, 3, none⟩) hj A3).setCell (p := ⟨j, 4, none⟩) hj A4⟩
theorem LogIn.recs {B j n c cap K : Nat} {w : World} {x : LogM.St} {a b : Option Addr} (h : LogIn B w j x a n c (.slice b (LogM.size x) cap)) (hK : K ≤ x.R.length) :
    9 * K ≤ cap ∧ ((x.R.take K).length = 0 ∨ ∃ g, b = some ⟨g, 0, none⟩ ∧ g < w.heap.size ∧ RecsAt w g (x.R.take K)) := by
  have hr := h.row
  rcases hr.2 with ⟨h0, h1⟩ | ⟨g, cap', cur, h0, _, h2, h3, _⟩
  · simp only [Value.slice.injEq] at h0
    unfold LogM.size at h1
    exact ⟨by omega, .inl (by rw [List.length_take]; omega)⟩
  · simp only [Value.slice.injEq] at h0
    obtain ⟨rfl, -, rfl⟩ := h0
    unfold LogM.size at h3
    refine ⟨by omega, .inr ⟨g, rfl, (Array.getElem?_eq_some_iff.1 h2).1, fun k hk i v hv => ?_⟩⟩
    have hk' : k < K ∧ k < x.R.length := by rw [List.length_take] at hk; omega
    have hi : i < 9 := by have := (List.getElem?_eq_some_iff.1 hv).1; rwa [LogM.enc_length] at this
    have e : (x.R.take K).getD k (0, 0, 0) = x.R.getD k (0, 0, 0) := by simp [List.getD, hk'.1]
    rw [e, ← LogM.bytes_at x.R k i hk'.2 hi] at hv
    rw [hr.cellAt (9 * k + i) (by unfold LogM.size; omega)]
    unfold LogBytes
    rw [List.getElem?_map, List.getElem?_append_left (by rw [LogM.bytes_length]; omega), hv]
    rfl
/-- What the records left come to. -/
theorem lreplay_at {B j n c cap K P : Nat} {w : World} {x : LogM.St} {a b : Option Addr} (h : LogIn B w j x a n c (.slice b (LogM.size x) cap)) (hK : K ≤ x.R.length) (hP : P = 9 * K) :
    Calls Tryd.prog 32 #[.slice b P cap] w fun e w' => ∃ a n c, e = .returned (.slice a n c) ∧ KRow w' a n c (LogM.hist (x.R.take K)) ∧ Below w.heap.size w w' := by
  obtain ⟨h1, h2⟩ := h.recs hK
  have hl : (x.R.take K).length = K := by rw [List.length_take]; omega
  have hg := h.good
  have h30 : (x.R.take K).length ≤ 30 := by have := hg.len; omega
  rw [show P = 9 * (x.R.take K).length by omega]
  rcases h2 with h2 | ⟨g, e, h3, h4⟩
  · exact lreplayed_any (x.R.take K) (hg.well.take K) h30 0 cap b (by omega) w (.inl h2) (fun k hk => by omega)
  · exact lreplayed_any (x.R.take K) (hg.well.take K) h30 g cap b (by omega) w (.inr ⟨e, h3⟩) h4

set_option maxHeartbeats 1600000 in
set_option maxRecDepth 8000 in
theorem lcrash_any {B j : Nat} {x : LogM.St} (keep : Int) (w w0 : World) (h : LogAt B w j x) (hB : Below B w0 w) (hBs : B ≤ w.heap.size) (k0 : -9223372036854775808 ≤ keep) (k1 : keep ≤ 9223372036854775807) :
    Calls Tryd.prog 8 #[.pointer (some ⟨j, 0, none⟩), .int .i64 keep] w fun e w' => e = .returned (.tuple #[]) ∧ LogAt B w' j (LogM.crash x keep) ∧ Below B w0 w' ∧ Still logS w w' := by
  obtain ⟨a, k, c, v, h⟩ := h
  obtain ⟨⟨c0, c1, c2, -, c4⟩, hf⟩ := h.at
  have hl := h.lt
  have hj := h.base
  obtain ⟨b, cap, rfl, hbn, hbs⟩ := h.form
  have H := hide h
  have HB := hide hB
  have hsz := LogM.size_le h.good
  have hsl : LogM.size x ≤ 274 := by have := h.good.len; have := h.good.half; unfold LogM.size; omega
  generalize hS : LogM.size x = S at *
  generalize hs9 : 9 * x.s = s9 at *
  have hd0 : (0 : Int) ≤ (S : Int) - (s9 : Int) := by omega
  obtain ⟨M, hM⟩ : ∃ M : Nat, M = (min (max keep 0) ((S : Int) - (s9 : Int))).toNat := ⟨_, rfl⟩
  have HM := hide (show (if (S : Int) - (s9 : Int) < (if keep < 0 then 0 else keep) then (S : Int) - (s9 : Int) else if keep < 0 then 0 else keep) = (M : Int) by rw [hM]; split <;> split <;> omega)
  have hM2 : M ≤ S - s9 := by omega
  obtain ⟨T, hT⟩ : ∃ T : Nat, T = s9 + M := ⟨_, rfl⟩
  have hTS : T ≤ S := by omega
  have HK := hide (show LogM.keeps x keep = T / 9 by unfold LogM.keeps; rw [hS, show (9 * (x.s : Int)) = (s9 : Int) by omega, hs9, hT, hM])
  have hKR := LogM.keeps_le h.good keep
  rw [unhide HK] at hKR
  obtain ⟨P, hP⟩ : ∃ P : Nat, P = 9 * (T / 9) := ⟨_, rfl⟩
  have HP := hide hP
  have HPT := hide (show (T : Int) - (T : Int) % 9 = (P : Int) by omega)
  have hPS : P ≤ S := by omega
  have hPc : P ≤ cap := by have := (LogIn.recs (hS ▸ h) hKR).1; omega
  have CR := hide (fun (W : World) (hW : Below w.heap.size w W) => lreplay_at (P := P) (hS ▸ h.later hW) hKR hP)
  have HT := hide (show (s9 : Int) + (M : Int) = (T : Int) by omega)
  clear h hB hf hM
  go_enter Tryd.func8, Tryd.ntmps8
  go_wp2
  go_region
  rw [unhide HM]
  generalize (if keep < 0 then (0 : Int) else keep) = q0
  clear hT hP
  have hst := unhide HT
  have hT0 : (0 : Int) ≤ (T : Int) := by omega
  have hT1 : (T : Int) ≤ 274 := by omega
  go_wp2
  rw [unhide HPT]
  clear hst hT0 hT1
  have hP0 : (0 : Int) ≤ (P : Int) := by omega
  have hP1 : (P : Int) ≤ (cap : Int) := by omega
  have e1 : w.drew.cell? ⟨j, 1, none⟩ = some (.slice b S cap) := by rw [World.cell?_drew]; exact c1
  clear c0 c2 c4 c1
  go_region_with (go_at_call 32; refine (unhide CR _ (by repeat' (first | exact Below.refl _ _ | refine Below.drew ?_))).mono ?_; rintro e w1 ⟨a1, n1, m1, rfl, hk1, hb1⟩; have hq : Below w.heap.size w w1 := (by refine Below.trans ?_ (hb1.mono ?_) <;> (repeat' (first | exact Below.refl _ _ | refine Below.drew ?_ | exact Nat.le_refl _))); have h1 := (unhide H).later hq; have HQ := hide hq; have HK1 := hide hk1; clear hb1 hk1 hq; have hl1 := h1.lt; obtain ⟨⟨d0, d1, d2, d3, d4⟩, hf1⟩ := h1.at; have f0 := hf1 0; have f1 := hf1 1; have f2 := hf1 2; have f3 := hf1 3; have f4 := hf1 4; have H1 := hide h1; clear h1 hf1)
  all_goals
    go_end0
    have g := (unhide H1).good
    have hB1 : Below B w0 w1 := (unhide HB).trans ((unhide HQ).mono hBs)
    obtain ⟨st1, st2, st3⟩ := log_stored (unhide H1).cells rfl (.slice a1 n1 m1) (.slice b P cap) (.int .i64 (P : Int)) (.int .i64 (-1)) (.bool false) hB1 hj
    have hc : LogM.crash x keep = ⟨x.R.take (T / 9), [], T / 9, -1, false⟩ := by unfold LogM.crash; rw [unhide HK]
    have hPK : P = 9 * (T / 9) := unhide HP
    refine ⟨rfl, ⟨a1, n1, m1, .slice b P cap, LogM.crash_good g keep, hj, ?_, ?_, ?_⟩, st3, (Still.of (unhide HQ)).trans (st2.mono (fun T hT => by simp [logS] at hT ⊢; exact .inl hT))⟩
    · rw [st1, hc, hPK]; rfl
    · rw [hc]; exact (unhide HK1).still st2 (by decide)
    · have hR : (x.R.take (T / 9)).length = T / 9 := by rw [List.length_take]; omega
      have e1 : LogM.size (LogM.crash x keep) = P := by rw [hc]; unfold LogM.size; dsimp only; rw [hR, List.length_nil]; omega
      have e2 : LogBytes (LogM.crash x keep) = (LogBytes x).take P := by
        rw [hc]
        unfold LogBytes
        rw [← List.map_take, List.take_append_of_le_length (by rw [LogM.bytes_length]; omega), hPK, LogM.bytes_take x.R (T / 9) hKR, List.append_nil]
      rw [e1, e2]
      have hrow := st2.own (unhide H1).row (by decide)
      rw [hS] at hrow
      exact own_cut hrow hPS
end Go.Proofs.YtfhpfdlbgmgclakDoor
