/-
  Texts joined: RunAs ConnWalks InRows.
-/
import Derived.Test.YthaicpepgianpakGreatDoorAs
import Derived.Test.YthaicpepgianpakGreatDoorRingWalks
import Derived.Test.YthaicpepgianpakGreatDoorJoinedConnMath
import Derived.Test.YthaicpepgianpakGreatDoorJoinedVaultMath
import Derived.Test.YthaicpepgianpakGreatDoorJoinedHeld
namespace Go.Proofs.YthaicpepgianpakGreatDoor
open Go.RowKit Go.Extern.Stop Go.Stop Go.Extern
set_option linter.unusedVariables false

theorem as_typeOfU (v : Value) (w : World) : (ReflectliteType.typeOf #[.iface 101 v]).run Tryz.prog w = .ok (.iface 161 (.agg #[.pointer (some ⟨9, 101, none⟩)])) w := by kernel_rfl
theorem as_assignableU (w : World) : (ReflectliteType.relation "AssignableTo" ReflectliteType.assignableTo #[.agg #[.pointer (some ⟨9, 101, none⟩)], .iface 161 (.agg #[.pointer (some ⟨9, 85, none⟩)])]).run Tryz.prog w = .ok (.bool false) w := by kernel_rfl
theorem as_lackA (v : Value) (xT : TypeId) (w : World) : (Instr.typeAssert (.iface 101 v) xT 166 true).run Tryz.prog w = .ok (.tuple #[.nilIface, .bool false]) w := run_typeAssert_lacksB Tryz.underlying166 (by kernel_rfl) (by kernel_rfl) v xT w
theorem as_lackU (v : Value) (xT : TypeId) (w : World) : (Instr.typeAssert (.iface 101 v) xT 169 true).run Tryz.prog w = .ok (.tuple #[.nilIface, .bool false]) w := run_typeAssert_lacksB Tryz.underlying169 (by kernel_rfl) (by kernel_rfl) v xT w
theorem as_lackM (v : Value) (xT : TypeId) (w : World) : (Instr.typeAssert (.iface 101 v) xT 170 true).run Tryz.prog w = .ok (.tuple #[.nilIface, .bool false]) w := run_typeAssert_lacksB Tryz.underlying170 (by kernel_rfl) (by kernel_rfl) v xT w
set_option maxRecDepth 100000 in
set_option maxHeartbeats 4000000 in
theorem as_miss (u : Value) (t : Addr) (old : Value) (w : World) (hg : w.cell? ⟨0, 0, none⟩ = some (.iface 161 (.agg #[.pointer (some ⟨9, 36, none⟩)]))) (ht0 : w.cell? t = some old) (hf0 : w.frozen? t = false) :
    Calls Tryz.prog 29 #[.iface 101 u, .iface 87 (.pointer (some t))] w fun ev w' => ev = .returned (.bool false) ∧ Below w.heap.size w w' := by
  have h6 := @run_callFunc_extern Tryz.prog 52 _ (fun args => ReflectliteValue.unpack (args.getD 0 (.tuple #[]))) Tryz.func52 (by kernel_rfl) (by kernel_rfl) (by kernel_rfl) (by kernel_rfl)
  have h7 := @run_callFunc_extern Tryz.prog 53 _ (ReflectliteValue.methodAny (ReflectliteValue.valueError "reflectlite.Value.Type" 0) (fun t _ _ _ => ReflectliteType.toType t)) Tryz.func53 (by kernel_rfl) (by kernel_rfl) (by kernel_rfl) (by kernel_rfl)
  have h8 := @run_callFunc_extern Tryz.prog 54 _ (ReflectliteValue.method (ReflectliteValue.valueError "reflectlite.Value.IsNil" 0) ReflectliteValue.isNil) Tryz.func54 (by kernel_rfl) (by kernel_rfl) (by kernel_rfl) (by kernel_rfl)
  have h27 := @run_callFunc_extern Tryz.prog 187 _ (ReflectliteType.abiMethod fun t => do pure (.int .u8 (← Rtype.kind t))) Tryz.func187 (by kernel_rfl) (by kernel_rfl) (by kernel_rfl) (by kernel_rfl)
  have h37 := @run_callFunc_extern Tryz.prog 197 _ (ReflectliteType.method ReflectliteType.elem) Tryz.func197 (by kernel_rfl) (by kernel_rfl) (by kernel_rfl) (by kernel_rfl)
  have h38 := @run_callFunc_extern Tryz.prog 198 _ (ReflectliteType.relation "Implements" ReflectliteType.implements_) Tryz.func198 (by kernel_rfl) (by kernel_rfl) (by kernel_rfl) (by kernel_rfl)
  have h10 := @run_callFunc_extern Tryz.prog 76 _ ReflectliteType.typeOf Tryz.func76 (by kernel_rfl) (by kernel_rfl) (by kernel_rfl) (by kernel_rfl)
  have h35 := @run_callFunc_extern Tryz.prog 195 _ (ReflectliteType.relation "AssignableTo" ReflectliteType.assignableTo) Tryz.func195 (by kernel_rfl) (by kernel_rfl) (by kernel_rfl) (by kernel_rfl)
  have h11 := @run_callFunc_extern Tryz.prog 77 _ (ReflectliteValue.method (ReflectliteValue.valueError "reflectlite.Value.Elem" 0) ReflectliteValue.elem) Tryz.func77 (by kernel_rfl) (by kernel_rfl) (by kernel_rfl) (by kernel_rfl)
  have h12 := @run_callFunc_extern Tryz.prog 78 _ ReflectliteValue.set Tryz.func78 (by kernel_rfl) (by kernel_rfl) (by kernel_rfl) (by kernel_rfl)
  have lA := as_lackA
  have lU := as_lackU
  have lM := as_lackM
  have tO := as_typeOfU
  have mA := as_methodAssignableTo
  have a25 := as_assignableU
  have v25 := as_valueOfE
  have f6 := as_valueOfP
  have f7 := as_typeP
  have mK := as_methodKind
  have mE := as_methodElem
  have mI := as_methodImplements
  have k27 := as_kindP
  have k25 := as_kindE
  have e27 := as_elemP
  have i25 := as_implementsE
  have n8 := as_isNilP ⟨w.heap.size, 0, none⟩ t ((w.alloc (.cells #[.pointer (some t)] 87)).alloc (.cells #[.pointer (some ⟨9, 87, none⟩), .pointer (some ⟨w.heap.size, 0, none⟩), .int .u64 150] 125)) (by simp)
  have hlt : 0 < w.heap.size := World.block_lt_of_cell? _ _ hg
  have hg2 : ((w.alloc (.cells #[.pointer (some t)] 87)).alloc (.cells #[.pointer (some ⟨9, 87, none⟩), .pointer (some ⟨w.heap.size, 0, none⟩), .int .u64 150] 125)).cell? ⟨0, 0, none⟩ = some (.iface 161 (.agg #[.pointer (some ⟨9, 36, none⟩)])) := by
    rw [World.cell?_alloc_lt _ _ ⟨0, 0, none⟩ (by simp <;> omega), World.cell?_alloc_lt _ _ ⟨0, 0, none⟩ hlt]; exact hg
  have htl : t.block < w.heap.size := World.block_lt_of_cell? _ _ ht0
  go_enter Tryz.func29, Tryz.ntmps29
  go_wp2
  refine wp_loop_rounds 1 ?_
  rw [rounds_succ]
  go_wp2
  go_ret
  exact ⟨rfl, (by (repeat' (first | exact Below.refl _ _ | refine Below.alloc ?_ ?_ _ | refine Below.setCell ?_ ?_ _ | refine Below.drew ?_)); all_goals (first | exact Nat.le_refl _ | omega | (simp; done) | (simp; omega)))⟩


end Go.Proofs.YthaicpepgianpakGreatDoor
namespace Go.Proofs.YthaicpepgianpakGreatDoor
open Go.RowKit

set_option maxHeartbeats 1600000 in
set_option maxRecDepth 8000 in
theorem cnumber_any (s m : Int) (w : World) : Calls Tryz.prog 61 #[.agg #[.int .i64 s, .int .i64 m]] w fun e w' => e = .returned (.tuple #[.int .i64 (ConnM.told (ConnM.bad s m) (ConnM.turn (4096 * s + m))), errV (ConnM.bad s m)]) ∧ Below w.heap.size w w' := by
  by_cases h1 : s < 0
  · rw [ConnM.bad_one.2 (by omega), ConnM.told_pos (by omega), errV_pos (by omega)]
    go_enter Tryz.func61, Tryz.ntmps61
    go_wp2
    exact bodyPost_ret (v := .tuple #[.int .i64 0, .iface 85 (.int .i64 1)]) (by simp [results, Tryz.results61, go_sem]) rfl ⟨rfl, (by (repeat' (first | exact Below.refl _ _ | refine Below.alloc ?_ ?_ _ | refine Below.setCell ?_ ?_ _ | refine Below.drew ?_)); all_goals (first | exact Nat.le_refl _ | omega | (simp; done) | (simp; omega)))⟩
  · skip
    by_cases h2 : 16 ≤ s
    · rw [ConnM.bad_one.2 (by omega), ConnM.told_pos (by omega), errV_pos (by omega)]
      go_enter Tryz.func61, Tryz.ntmps61
      go_wp2
      exact bodyPost_ret (v := .tuple #[.int .i64 0, .iface 85 (.int .i64 1)]) (by simp [results, Tryz.results61, go_sem]) rfl ⟨rfl, (by (repeat' (first | exact Below.refl _ _ | refine Below.alloc ?_ ?_ _ | refine Below.setCell ?_ ?_ _ | refine Below.drew ?_)); all_goals (first | exact Nat.le_refl _ | omega | (simp; done) | (simp; omega)))⟩
    · skip
      by_cases h3 : m < 0
      · rw [ConnM.bad_one.2 (by omega), ConnM.told_pos (by omega), errV_pos (by omega)]
        go_enter Tryz.func61, Tryz.ntmps61
        go_wp2
        exact bodyPost_ret (v := .tuple #[.int .i64 0, .iface 85 (.int .i64 1)]) (by simp [results, Tryz.results61, go_sem]) rfl ⟨rfl, (by (repeat' (first | exact Below.refl _ _ | refine Below.alloc ?_ ?_ _ | refine Below.setCell ?_ ?_ _ | refine Below.drew ?_)); all_goals (first | exact Nat.le_refl _ | omega | (simp; done) | (simp; omega)))⟩
      · skip
        by_cases h4 : 4096 ≤ m
        · rw [ConnM.bad_one.2 (by omega), ConnM.told_pos (by omega), errV_pos (by omega)]
          go_enter Tryz.func61, Tryz.ntmps61
          go_wp2
          exact bodyPost_ret (v := .tuple #[.int .i64 0, .iface 85 (.int .i64 1)]) (by simp [results, Tryz.results61, go_sem]) rfl ⟨rfl, (by (repeat' (first | exact Below.refl _ _ | refine Below.alloc ?_ ?_ _ | refine Below.setCell ?_ ?_ _ | refine Below.drew ?_)); all_goals (first | exact Nat.le_refl _ | omega | (simp; done) | (simp; omega)))⟩
        · skip
          rw [ConnM.bad_zero.2 (by omega), ConnM.told_zero rfl, errV_zero rfl]
          have hx := ConnM.xor_eq (x := 4096 * s + m) (by omega) (by omega)
          rw [Int.mul_comm 4096 s] at hx ⊢
          generalize ConnM.turn (s * 4096 + m) = x at hx ⊢
          go_enter Tryz.func61, Tryz.ntmps61
          go_wp2
          exact bodyPost_ret (v := .tuple #[.int .i64 x, .nilIface]) (by simp [results, Tryz.results61, go_sem]) rfl ⟨rfl, (by (repeat' (first | exact Below.refl _ _ | refine Below.alloc ?_ ?_ _ | refine Below.setCell ?_ ?_ _ | refine Below.drew ?_)); all_goals (first | exact Nat.le_refl _ | omega | (simp; done) | (simp; omega)))⟩

end Go.Proofs.YthaicpepgianpakGreatDoor
namespace Go.Proofs.YthaicpepgianpakGreatDoor
open Go.RowKit

/-- A slice lies in one of these blocks, if it lies anywhere. -/
def InR (R : List Nat) (a : Option Addr) : Prop := ∀ g off, a = some ⟨g, off, none⟩ → g ∈ R
theorem nil_in (R : List Nat) : InR R none := fun _ _ h => by cases h
theorem PRow.keptIn {R F : List Nat} {w w' : World} {n c : Nat} {a : Option Addr} {l : List (Int × Int)} (h : PRow w a n c l) (hR : InR R a) (hk : Kept F w w') (hF : ∀ g, g ∈ R → g ∉ F) : PRow w' a n c l :=
  ⟨h.1, h.2.1, fun k hlt => by
    obtain ⟨b, off, e, h1, h2⟩ := h.2.2 k hlt
    have hl := World.block_lt_of_cell? _ _ h1
    have hn := hF b (hR b off e)
    exact ⟨b, off, e, by rw [hk.cell hl hn]; exact h1, by rw [hk.cell hl hn]; exact h2⟩⟩
theorem own_keptIn {F : List Nat} {w w' : World} {B n : Nat} {e : TypeId} {size : Nat} {v : Value} {xs : List Value} (h : w.ownsRow B e size v n xs) (hk : Kept F w w') (hF : ∀ g, v.ownBlock = some g → g ∉ F) : w'.ownsRow B e size v n xs := by
  refine ⟨h.1, ?_⟩
  rcases h.2 with q | ⟨g, cap, cur, rfl, q1, q2, q3⟩
  · exact .inl q
  · refine .inr ⟨g, cap, cur, rfl, q1, ?_, q3⟩
    rw [hk.block g (Array.getElem?_eq_some_iff.1 q2).1 (hF g rfl)]
    exact q2
/-- An answer's cells. -/
def na (k e a t g c : Int) (b : Bool) : List Value := [.int .i64 k, .int .i64 e, .int .i64 a, .int .i64 t, .int .i64 g, .int .i64 0, .int .i64 c, .bool b]
theorem below_set {w W : World} {c : Nat} (b : Below w.heap.size w W) (hc : w.heap.size ≤ c) (i : Nat) (v : Value) : Below w.heap.size w (W.setCell ⟨c, i, none⟩ v) := Below.setCell b (show w.heap.size ≤ c from hc) v
theorem below_alloc {w W : World} (b : Below w.heap.size w W) (o : Obj) : Below w.heap.size w (W.alloc o) := Below.alloc b b.size o
theorem below_drew {w W : World} (b : Below w.heap.size w W) : Below w.heap.size w W.drew := b.drew
theorem Held.alloc {W : World} {b : Nat} {vs : List Value} (h : Held W b vs) (o : Obj) : Held (W.alloc o) b vs := h.later (Below.alloc (Below.refl _ _) (Nat.le_refl _) o)
theorem Held.drew {W : World} {b : Nat} {vs : List Value} (h : Held W b vs) : Held W.drew b vs := h
theorem Held.c8 {W : World} {b : Nat} {v0 v1 v2 v3 v4 v5 v6 v7 : Value} (h : Held W b [v0, v1, v2, v3, v4, v5, v6, v7]) :
    (W.cell? ⟨b, 0, none⟩ = some v0 ∧ W.cell? ⟨b, 1, none⟩ = some v1 ∧ W.cell? ⟨b, 2, none⟩ = some v2 ∧ W.cell? ⟨b, 3, none⟩ = some v3 ∧ W.cell? ⟨b, 4, none⟩ = some v4 ∧ W.cell? ⟨b, 5, none⟩ = some v5 ∧ W.cell? ⟨b, 6, none⟩ = some v6 ∧ W.cell? ⟨b, 7, none⟩ = some v7) ∧
    (W.frozen? ⟨b, 0, none⟩ = false ∧ W.frozen? ⟨b, 1, none⟩ = false ∧ W.frozen? ⟨b, 2, none⟩ = false ∧ W.frozen? ⟨b, 3, none⟩ = false ∧ W.frozen? ⟨b, 4, none⟩ = false ∧ W.frozen? ⟨b, 5, none⟩ = false ∧ W.frozen? ⟨b, 6, none⟩ = false ∧ W.frozen? ⟨b, 7, none⟩ = false) :=
  ⟨⟨(h.1 0 v0 rfl).1, (h.1 1 v1 rfl).1, (h.1 2 v2 rfl).1, (h.1 3 v3 rfl).1, (h.1 4 v4 rfl).1, (h.1 5 v5 rfl).1, (h.1 6 v6 rfl).1, (h.1 7 v7 rfl).1⟩,
   ⟨(h.1 0 v0 rfl).2, (h.1 1 v1 rfl).2, (h.1 2 v2 rfl).2, (h.1 3 v3 rfl).2, (h.1 4 v4 rfl).2, (h.1 5 v5 rfl).2, (h.1 6 v6 rfl).2, (h.1 7 v7 rfl).2⟩⟩
end Go.Proofs.YthaicpepgianpakGreatDoor
