/-
  A Builder beside other things: what is written to it, where its row lies, what is kept.
-/
import Derived.Test.YthaicpepgianpakGreatDoorRunLib
import Derived.Test.YthaicpepgianpakGreatDoorQueueMem
namespace Go.Proofs.YthaicpepgianpakGreatDoor
open Go.RowKit
set_option linter.unusedVariables false

/-- An append of a string's bytes: the row's block is the old one, or a new one. -/
theorem run_append_str_lies {P : Program} (w : World) (base : Nat) (t u ty e : TypeId) (i : TypeInfo) (ht : P.underlying t = some (.slice e)) (hu : P.underlying u = some .string) (hi : P.info? e = some i) (hz : i.zero = some (.int .u8 0))
    (hsize : i.size = 1) (hby : i.bytes = 1) (v : Value) (n : Nat) (xs : List Value) (hown : w.ownsRow base e 1 v n xs) (s : ByteArray)
    (h63 : n + s.size ≤ maxLen) (hbytes : n + s.size ≤ 140737488355328) (hbase : base ≤ w.heap.size) :
    ∃ v' w', (Builtin.append_ #[t, u] ty #[v, .string s]).run P w = .ok v' w' ∧ w'.ownsRow base e 1 v' (n + s.size) (xs ++ Go.Lib.strCells s) ∧ w.grownBy w' v.ownBlock ∧ (∀ k, v'.ownBlock = some k → v.ownBlock = some k ∨ w.heap.size ≤ k) := by
  rcases hown.2 with ⟨rfl, rfl⟩ | ⟨g, cap, cur, rfl, hbg, hg, hnc, hcm, hcs, htake⟩
  · have hx : xs = [] := List.eq_nil_of_length_eq_zero (by simpa using hown.1)
    subst hx
    obtain ⟨v', w', h1, h2, h3, -⟩ := Go.Lib.run_append_own_string (P := P) w w.heap.size t u ty e i ht hu hi hz hsize hby (.slice none 0 0) 0 [] (World.ownsRow_nil w _ e 1) s h63 hbytes (Nat.le_refl _)
    exact ⟨v', w', h1, Go.Joins.ownsRow_le h2 hbase, h3, fun k hk => .inr (h2.lt k hk).1⟩
  · have hxl : xs.length = n := by simpa using hown.1
    have hcs' : cur.size = cap := by simpa using hcs
    obtain ⟨v', w', h1, h2, h3, -⟩ := Go.Lib.run_append_own_string (P := P) w base t u ty e i ht hu hi hz hsize hby (.slice (some ⟨g, 0, none⟩) n cap) n xs hown s h63 hbytes hbase
    refine ⟨v', w', h1, h2, h3, fun k hk => ?_⟩
    have hsm : n + s.size ≤ 9223372036854775807 := by simp only [maxLen] at h63; omega
    by_cases hroom : n + s.size ≤ cap
    · have hr := Go.Lib.run_append_room_string (P := P) w t u ty e i ht hu hi hsize g n cap cur hg s hroom (by omega)
      rw [hr] at h1
      injection h1 with h1 _
      rw [← h1] at hk
      exact .inl hk
    · have holds : ∀ j u, xs[j]? = some u → w.cell? ((⟨g, 0, none⟩ : Addr).add j) = some u := hown.cells (g := g) rfl
      have hr := Go.Lib.run_append_grow_string (P := P) w t u ty e i (.int .u8 0) ht hu hi hz ⟨g, 0, none⟩ n cap xs (by rw [hsize]; simpa using hxl) holds s (by omega) (by omega) (by rw [hby]; exact growslice_fits (by omega) (by omega))
      rw [hr] at h1
      injection h1 with h1 _
      rw [← h1] at hk
      simp only [Value.ownBlock, Option.some.injEq] at hk
      exact .inr (by omega)
theorem wpList_append_str_lies {P : Program} (w : World) {ops : Array Oper} {rest : List Oper} {o : Oper} {a : Act} {Q : Exit → Act → World → Prop} (hgd : o.guard = none) (sl x : Operand) (t u : TypeId)
    (ho : o.op = .call { callee := .builtin .append, args := #[sl, x], argTypes := #[t, u] })
    (base : Nat) (e : TypeId) (i : TypeInfo) (ht : P.underlying t = some (.slice e)) (hu : P.underlying u = some .string) (hi : P.info? e = some i) (hz : i.zero = some (.int .u8 0))
    (hsize : i.size = 1) (hby : i.bytes = 1)
    (v : Value) (n : Nat) (xs : List Value) (hs : a.eval sl = v) (hown : w.ownsRow base e 1 v n xs) (s : ByteArray) (hx : a.eval x = .string s)
    (h63 : n + s.size ≤ maxLen) (hbytes : n + s.size ≤ 140737488355328) (hbase : base ≤ w.heap.size)
    (h : ∀ v' w', w'.ownsRow base e 1 v' (n + s.size) (xs ++ Go.Lib.strCells s) → w.grownBy w' v.ownBlock → (∀ k, v'.ownBlock = some k → v.ownBlock = some k ∨ w.heap.size ≤ k) → wpList P ops Q rest (a.put o.dst v') w') : wpList P ops Q (o :: rest) a w := by
  refine wpList_plain hgd fun K hK => ?_
  obtain ⟨v', w', hr, h2, h3, h4⟩ := run_append_str_lies (P := P) w base t u o.type e i ht hu hi hz hsize hby v n xs hown s h63 hbytes hbase
  unfold Oper.wp execOp
  simp only [ho, resolve, invoke, builtin, Sem.run_bind, Sem.run_pure, Result.andThen_ok, List.map_toArray, List.map_cons, List.map_nil, hs, hx, hr]
  exact hK _ _ (h v' w' h2 h3 h4)

/-- A Builder lies at b, its bytes' row is the block o, if it has one; nothing of it lies below B. -/
def BOwn (B : Nat) (w : World) (b : Nat) (o : Option Nat) (l : List UInt8) : Prop :=
  B ≤ b ∧ ∃ p v, v.ownBlock = o ∧ (p = .pointer none ∨ p = .pointer (some ⟨b, 0, none⟩)) ∧ w.heap[b]? = some (.cells #[p, v] 43 (0, 0)) ∧ w.ownsRow B 5 1 v l.length (Go.Lib.byteCells l)
/-- What a write leaves. -/
def BStep (B : Nat) (w w' : World) (b : Nat) (o : Option Nat) (l : List UInt8) : Prop :=
  ∃ o', BOwn B w' b o' l ∧ (∀ k, o' = some k → o = some k ∨ w.heap.size ≤ k) ∧ Kept (b :: o.toList) w w'
theorem BOwn.lt {B : Nat} {w : World} {b : Nat} {o : Option Nat} {l : List UInt8} (h : BOwn B w b o l) : b < w.heap.size := by
  obtain ⟨_, p, v, _, _, h2, _⟩ := h
  exact (Array.getElem?_eq_some_iff.1 h2).1
theorem BOwn.row {B : Nat} {w : World} {b : Nat} {o : Option Nat} {l : List UInt8} (h : BOwn B w b o l) {k : Nat} (hk : o = some k) : B ≤ k ∧ k < w.heap.size := by
  obtain ⟨_, p, v, h1, _, _, h3⟩ := h
  exact h3.lt k (h1.trans hk)
theorem BOwn.cel {B : Nat} {w : World} {b : Nat} {o : Option Nat} {l : List UInt8} (h : BOwn B w b o l) : ∀ k, k ∈ b :: o.toList → ∃ cs T fr, w.heap[k]? = some (.cells cs T fr) := fun k hk => by
  obtain ⟨_, p, v, h1, _, h2, h3⟩ := h
  rcases List.mem_cons.1 hk with e | e
  · rw [e]; exact ⟨_, _, _, h2⟩
  · have e : o = some k := by simpa using e
    rw [← h1] at e
    rcases h3.2 with ⟨rfl, _⟩ | ⟨g, cap, cur, rfl, _, hg, _⟩
    · simp [Value.ownBlock] at e
    · simp only [Value.ownBlock, Option.some.injEq] at e
      rw [← e]; exact ⟨_, _, _, hg⟩
theorem BOwn.kept {B : Nat} {F : List Nat} {w w' : World} {b : Nat} {o : Option Nat} {l : List UInt8} (h : BOwn B w b o l) (hk : Kept F w w') (hb : b ∉ F) (ho : ∀ k, o = some k → k ∉ F) : BOwn B w' b o l := by
  have hl := h.lt
  have hr : ∀ k, o = some k → k < w.heap.size := fun k e => (h.row e).2
  obtain ⟨h0, p, v, h1, hp, h2, h3⟩ := h
  refine ⟨h0, p, v, h1, hp, by rw [hk.block b hl hb]; exact h2, ⟨h3.1, ?_⟩⟩
  rcases h3.2 with q | ⟨g, cap, cur, rfl, q1, q2, q3⟩
  · exact .inl q
  · refine .inr ⟨g, cap, cur, rfl, q1, ?_, q3⟩
    rw [hk.block g (Array.getElem?_eq_some_iff.1 q2).1 (ho g (h1.symm.trans rfl))]
    exact q2
theorem BOwn.later {B : Nat} {w w' : World} {b : Nat} {o : Option Nat} {l : List UInt8} (h : BOwn B w b o l) (hb : Below w.heap.size w w') : BOwn B w' b o l :=
  h.kept (F := []) (Kept.of hb) (by simp) (by simp)
theorem BOwn.fresh {B : Nat} {w : World} (hB : B ≤ w.heap.size) : BOwn B (w.alloc (.cells #[.pointer none, .slice none 0 0] 43)) w.heap.size none [] :=
  ⟨hB, _, _, rfl, .inl rfl, heap_alloc_new w _, World.ownsRow_nil _ _ _ _⟩
theorem BOwn.is {B : Nat} {w : World} {b : Nat} {o : Option Nat} {l : List UInt8} (h : BOwn B w b o l) : Go.Lib.IsBuilder 43 5 B b (Go.Lib.byteCells l) w := by
  obtain ⟨h0, p, v, h1, hp, h2, h3⟩ := h
  have hn : v.ownBlock ≠ some b := row_not h3 h2 (by decide)
  rcases hp with rfl | rfl
  · exact .inl ⟨h0, v, h2, by rw [Go.Lib.byteCells_length]; exact h3, hn⟩
  · exact .inr ⟨h0, v, h2, by rw [Go.Lib.byteCells_length]; exact h3, hn⟩
theorem copy_check {B : Nat} {w : World} {b : Nat} {o : Option Nat} {l : List UInt8} (h : BOwn B w b o l) :
    Calls Tryz.prog 42 #[.pointer (some ⟨b, 0, none⟩)] w fun e w' => e = .returned (.tuple #[]) ∧ BOwn B w' b o l ∧ Kept [b] w w' := by
  have h' := h
  obtain ⟨h0, p, v, h1, hp, h2, h3⟩ := h'
  have hn : v.ownBlock ≠ some b := row_not h3 h2 (by decide)
  have c0 : w.cell? ⟨b, 0, none⟩ = some p := by rw [Go.Lib.cell_of_heap h2]; rfl
  rcases hp with rfl | rfl
  · refine (Any.Builder_copyCheck_fresh { sh_lays156 with } sh_Builder_Extra_156.toX72 b w c0 (by simp only [World.shape?, h2]; rfl) (Go.Lib.frozen_of_heap h2 0)).mono ?_
    rintro e w' ⟨rfl, rfl⟩
    have hk : Kept [b] w (w.setCell ⟨b, 0, none⟩ (.pointer (some ⟨b, 0, none⟩))) := (Kept.refl [b] w).setCell (.inl (List.mem_singleton.2 rfl)) _
    refine ⟨rfl, ⟨h0, .pointer (some ⟨b, 0, none⟩), v, h1, .inr rfl, by rw [heap_put h2 _]; rfl, h3.kept (row := some b) hk.grows (.inr hn)⟩, hk⟩
  · refine (Any.Builder_copyCheck_used { sh_lays156 with } sh_Builder_Extra_156.toX72 b w c0).mono ?_
    rintro e w' ⟨rfl, rfl⟩
    exact ⟨rfl, h, Kept.refl _ _⟩
theorem infoByte5 : (Tryz.prog.info? 5).map (fun i => (i.zero, i.size, i.bytes)) = some (some (.int .u8 0), 1, 1) := by kernel_rfl
theorem cells_add (l : List UInt8) (s : ByteArray) : Go.Lib.byteCells l ++ Go.Lib.strCells s = Go.Lib.byteCells (l ++ s.data.toList) := by
  simp [Go.Lib.byteCells, Go.Lib.strCells]
theorem BStep.of {B : Nat} {w w1 w2 : World} {b : Nat} {v v' : Value} {l l' : List UInt8} (h1 : BOwn B w1 b v.ownBlock l) (hk : Kept [b] w w1) (hp : ∃ p, (p = .pointer none ∨ p = .pointer (some ⟨b, 0, none⟩)) ∧ w1.heap[b]? = some (.cells #[p, v] 43 (0, 0))) (hn : v.ownBlock ≠ some b)
    (hown : w2.ownsRow B 5 1 v' l'.length (Go.Lib.byteCells l')) (hg : Kept v.ownBlock.toList w1 w2) (hat : ∀ k, v'.ownBlock = some k → v.ownBlock = some k ∨ w.heap.size ≤ k) : BStep B w (w2.setCell ⟨b, 1, none⟩ v') b v.ownBlock l' := by
  obtain ⟨p, hp1, hp2⟩ := hp
  have hl := h1.lt
  have h2 : w2.heap[b]? = some (.cells #[p, v] 43 (0, 0)) := by rw [hg.block b hl (by simpa using hn)]; exact hp2
  have hn' : v'.ownBlock ≠ some b := row_not hown h2 (by decide)
  have hk2 : Kept [b] w2 (w2.setCell ⟨b, 1, none⟩ v') := (Kept.refl [b] w2).setCell (.inl (List.mem_singleton.2 rfl)) _
  refine ⟨v'.ownBlock, ⟨h1.1, p, v', rfl, hp1, by rw [heap_put h2 _]; rfl, hown.kept (row := some b) hk2.grows (.inr hn')⟩, hat, ?_⟩
  refine ((hk.mono (fun k hk => .inl (by rw [List.mem_singleton.1 hk]; exact List.mem_cons_self ..))).trans (hg.mono (fun k hk => .inl (List.mem_cons_of_mem _ hk)))).trans (hk2.mono (fun k hk => .inl (by rw [List.mem_singleton.1 hk]; exact List.mem_cons_self ..)))
set_option maxHeartbeats 2000000 in
theorem write_string {B : Nat} {w : World} {b : Nat} {o : Option Nat} {l : List UInt8} (s : ByteArray) (h : BOwn B w b o l) (hl : l.length + s.size ≤ 100000000) (hB : B ≤ w.heap.size) :
    Calls Tryz.prog 15 #[.pointer (some ⟨b, 0, none⟩), .string s] w fun e w' => e = .returned (.tuple #[.int .i64 s.size, .nilIface]) ∧ BStep B w w' b o (l ++ s.data.toList) := by
  have C := hide (copy_check h)
  have hbl := h.lt
  clear h
  obtain ⟨i0, hi, hz0, hz1, hz2⟩ := info_parts infoByte5
  go_enter Tryz.func15, Tryz.ntmps15
  go_wp2_with fail
  refine (unhide C).mono ?_
  rintro e w1 ⟨rfl, h1, hk1⟩
  have H1 := hide h1
  have HK1 := hide hk1
  obtain ⟨h0, p, v, rfl, hp, hh, hown⟩ := h1
  have hn : v.ownBlock ≠ some b := row_not hown hh (by decide)
  have HH := hide (show ∃ p, (p = .pointer none ∨ p = .pointer (some ⟨b, 0, none⟩)) ∧ w1.heap[b]? = some (.cells #[p, v] 43 (0, 0)) from ⟨p, hp, hh⟩)
  have HN := hide hn
  have c1 : w1.cell? ⟨b, 1, none⟩ = some v := by rw [Go.Lib.cell_of_heap hh]; rfl
  have hz := hk1.size
  have HO := hide hown
  have hcs := hide (cells_add l s)
  clear hk1 hp hh hn hown
  go_wp2_with (at_builtin; refine wpList_append_str_lies _ rfl _ _ 41 9 rfl B 5 i0 Tryz.underlying41 Tryz.underlying9 hi hz0 hz1 hz2 _ _ _ rfl (unhide HO) s rfl ?c3 ?c4 ?c5 ?_)
  case c3 => unfold maxLen; omega
  case c4 => omega
  case c5 => omega
  intro v' w2 hown2 hgrow hat
  rw [unhide hcs] at hown2
  have hown2 : w2.ownsRow B 5 1 v' (l ++ s.data.toList).length (Go.Lib.byteCells (l ++ s.data.toList)) := by
    have e : (l ++ s.data.toList).length = l.length + s.size := by rw [List.length_append, ← Go.Lib.size_eq]
    rw [e]; exact hown2
  have S := hide (BStep.of (unhide H1) (unhide HK1) (unhide HH) (unhide HN) hown2 (grown_kept hgrow) (fun k hk => (hat k hk).imp_right (fun q => by omega)))
  obtain ⟨pp, _, hh2⟩ := unhide HH
  have hh3 : w2.heap[b]? = some (.cells #[pp, v] 43 (0, 0)) := by rw [(grown_kept hgrow).block b (unhide H1).lt (by simpa using unhide HN)]; exact hh2
  have d1 : w2.cell? ⟨b, 1, none⟩ = some v := by rw [Go.Lib.cell_of_heap hh3]; rfl
  have f1 : w2.frozen? ⟨b, 1, none⟩ = false := Go.Lib.frozen_of_heap hh3 1
  have bl2 : b < w2.heap.size := (Array.getElem?_eq_some_iff.1 hh3).1
  obtain ⟨ao, n', cap, rfl⟩ : ∃ ao n' cap, v' = .slice ao n' cap := by
    rcases hown2.2 with ⟨hv, _⟩ | ⟨g, cap, cur, hv, _⟩
    · exact ⟨_, _, _, hv⟩
    · exact ⟨_, _, _, hv⟩
  clear hh2 hh3 hown2 hgrow hat c1
  go_wp2
  go_ret2
  exact ⟨rfl, unhide S⟩
set_option maxHeartbeats 2000000 in
theorem write_byte {B : Nat} {w : World} {b : Nat} {o : Option Nat} {l : List UInt8} (h : BOwn B w b o l) (hl : l.length ≤ 100000000) (hB : B ≤ w.heap.size) :
    Calls Tryz.prog 16 #[.pointer (some ⟨b, 0, none⟩), .int .u8 10] w fun e w' => e = .returned .nilIface ∧ BStep B w w' b o (l ++ [10]) := by
  have C := hide (copy_check h)
  have hbl := h.lt
  clear h
  obtain ⟨i0, hi, hz0, hz1, hz2⟩ := info_parts infoByte5
  go_enter Tryz.func16, Tryz.ntmps16
  go_wp2_with fail
  refine (unhide C).mono ?_
  rintro e w1 ⟨rfl, h1, hk1⟩
  have H1 := hide h1
  have HK1 := hide hk1
  obtain ⟨h0, p, v, rfl, hp, hh, hown⟩ := h1
  have hn : v.ownBlock ≠ some b := row_not hown hh (by decide)
  have HH := hide (show ∃ p, (p = .pointer none ∨ p = .pointer (some ⟨b, 0, none⟩)) ∧ w1.heap[b]? = some (.cells #[p, v] 43 (0, 0)) from ⟨p, hp, hh⟩)
  have HN := hide hn
  have c1 : w1.cell? ⟨b, 1, none⟩ = some v := by rw [Go.Lib.cell_of_heap hh]; rfl
  have hz := hk1.size
  have HO := hide hown
  have hcs := hide (show Go.Lib.byteCells l ++ [.int .u8 10] = Go.Lib.byteCells (l ++ [10]) by simp [Go.Lib.byteCells])
  have hbl1 := (unhide H1).lt
  clear hk1 hp hh hn hown
  go_wp2_with (at_builtin; refine wpList_append_lies _ rfl _ _ 41 rfl B 5 i0 (.int .u8 0) 1 1 Tryz.underlying41 hi hz0 hz1 hz2 rfl (by decide) v l.length (Go.Lib.byteCells l) rfl ((unhide HO).alloc _) ⟨w1.heap.size, 0, none⟩ 1 1 [.int .u8 10] rfl rfl ?c1 ?c2 (by omega) ?c3 ?c4 ?c5 (w1.heap.size + 1) ?c6 ?_)
  case c1 => exact World.news_of_block (cs := #[.int .u8 10]) (t := 5) (fr := (0, 0)) (heap_alloc_new w1 _)
  case c2 => simp [Value.oneCell']
  case c3 => unfold maxLen; omega
  case c4 => omega
  case c5 => simp; omega
  case c6 => simp
  intro g cap w2 hown2 hgrow hat hlt
  rw [unhide hcs] at hown2
  have hown2 : w2.ownsRow B 5 1 (.slice (some ⟨g, 0, none⟩) (l.length + 1) cap) (l ++ [10]).length (Go.Lib.byteCells (l ++ [10])) := by
    rw [List.length_append]; exact hown2
  have hk2 : Kept v.ownBlock.toList w1 w2 := ((Kept.refl _ w1).alloc _).trans (grown_kept hgrow)
  have S := hide (BStep.of (unhide H1) (unhide HK1) (unhide HH) (unhide HN) hown2 hk2 (fun k hk => by
    simp only [Value.ownBlock, Option.some.injEq] at hk
    subst hk
    exact hat.imp_right (fun q => by omega)))
  obtain ⟨pp, _, hh2⟩ := unhide HH
  have hh3 : w2.heap[b]? = some (.cells #[pp, v] 43 (0, 0)) := by rw [hk2.block b (unhide H1).lt (by simpa using unhide HN)]; exact hh2
  have d1 : w2.cell? ⟨b, 1, none⟩ = some v := by rw [Go.Lib.cell_of_heap hh3]; rfl
  have f1 : w2.frozen? ⟨b, 1, none⟩ = false := Go.Lib.frozen_of_heap hh3 1
  have bl2 : b < w2.heap.size := (Array.getElem?_eq_some_iff.1 hh3).1
  clear hh2 hh3 hown2 hgrow hat c1 hk2
  go_wp2
  go_ret
  exact ⟨rfl, unhide S⟩
end Go.Proofs.YthaicpepgianpakGreatDoor
