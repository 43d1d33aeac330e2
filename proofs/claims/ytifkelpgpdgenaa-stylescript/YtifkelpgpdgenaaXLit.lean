/-
  What is proved here: an append to a list of settings that was just made leaves numbers alone in its block, to the last cell of its capacity (for StyleScript).
-/
import Derived.Test.YtifkelpgpdgenaaXSheetC
namespace Go.Proofs.Ytifkelpgpdgenaa
open Go.RowKit Go.Shelf

/-- A list's block holds numbers alone. -/
def Ints (W : World) (v : Value) : Prop := ∀ r, v.ownBlock = some r → ∃ cur : Array Value, W.heap[r]? = some (.cells cur 37 (0, 0)) ∧ ∀ u ∈ cur.toList, ∃ n, u = .int .i64 n

theorem zero_ints {n : Nat} {u : Value} (hu : u ∈ (Builtin.zeroCells (Value.agg #[.int .i64 0, .int .i64 0]).cells n).toList) : ∃ k, u = .int .i64 k := by
  simp only [Builtin.zeroCells, Value.cells, Array.toList_map, List.mem_map] at hu
  obtain ⟨i, _, rfl⟩ := hu
  have h2 : i % 2 < 2 := Nat.mod_lt _ (by decide)
  rcases (by omega : i % 2 = 0 ∨ i % 2 = 1) with h | h <;> exact ⟨0, by simp [h]⟩

theorem run_append_ints {P : Program} (w : World) (base g : Nat) (t ty : TypeId) (i : TypeInfo) (ht : P.underlying t = some (.slice 37)) (hi : P.info? 37 = some i) (hz : i.zero = some (.agg #[.int .i64 0, .int .i64 0])) (hsize : i.size = 2) (hby : i.bytes = 16)
    (hg : w.heap[g]? = some (.cells #[] 37 (0, 0))) (hbg : base ≤ g) (x : Value) (m : Nat) (news : List Value) (hx : Srcs w 2 x m news) (hn : ∀ u ∈ news, ∃ k, u = .int .i64 k)
    (h63 : m ≤ maxLen) (hbytes : m * 16 ≤ 140737488355328) (hbase : base ≤ w.heap.size) :
    ∃ v' w', (Builtin.append_ #[t, t] ty #[.slice (some ⟨g, 0, none⟩) 0 0, x]).run P w = .ok v' w' ∧ w'.ownsRow base 37 2 v' m news ∧ w.grownBy w' (some g) ∧ Ints w' v' := by
  have hown : w.ownsRow base 37 2 (.slice (some ⟨g, 0, none⟩) 0 0) 0 [] := ⟨by simp, .inr ⟨g, 0, #[], rfl, hbg, hg, by omega, by unfold maxLen; omega, by simp, by simp⟩⟩
  obtain ⟨hl, h1, hx⟩ := hx
  rcases hx with ⟨rfl, c, rfl⟩ | ⟨a, c, rfl, hc⟩
  · have hnn : news = [] := List.eq_nil_of_length_eq_zero (by simpa using hl)
    subst hnn
    refine ⟨_, w, ?_, hown, World.grownBy.refl _ _, fun r e => ?_⟩
    · have := run_append_room_src (P := P) w t t ty 37 i ht hi g 0 0 0 (.slice none 0 c) 0 [] (Src.ofNil w ht c) (by omega) (by simp) (by simp)
      rw [this]
      simp [World.setCells]
    · cases e
      exact ⟨#[], hg, by simp⟩
  · obtain ⟨v', w', hrun, r1, r2, _⟩ := run_append_own (P := P) w base t ty 37 i _ 2 16 ht hi hz hsize hby rfl (by decide) _ 0 [] hown a m c news hl hc h1 (by omega) (by omega) hbase
    rw [Nat.zero_add, List.nil_append] at r1
    refine ⟨v', w', hrun, r1, r2, ?_⟩
    by_cases hm : m = 0
    · subst hm
      have hnn : news = [] := List.eq_nil_of_length_eq_zero (by simpa using hl)
      subst hnn
      have hr := run_append_room (P := P) w t ty 37 i ht hi g 0 0 #[] hg a 0 c [] (by simp) hc h1 (by omega) (by simp)
      rw [hrun] at hr
      injection hr with e1 e2
      intro r e
      rw [e1] at e
      cases e
      rw [e2]
      exact ⟨_, setRow_heap w g #[] _ 37 _ hg, by simp⟩
    · have hr := run_append_grow (P := P) w t ty 37 i _ ht hi hz ⟨g, 0, none⟩ 0 0 [] (by simp) (by simp) a m c news (by rw [hsize]; exact hl) hc (by omega) (by unfold maxLen at h63; omega) (by rw [hby]; exact growslice_fits (by omega) (by omega))
      rw [hrun] at hr
      injection hr with e1 e2
      intro r e
      rw [e1] at e
      cases e
      rw [e2]
      refine ⟨_, heap_new w.drew _, fun u hu => ?_⟩
      rw [Array.toList_append, List.mem_append] at hu
      rcases hu with hu | hu
      · exact hn u (by simpa using hu)
      · exact zero_ints hu

theorem se_ints (L : List (Int × Int)) : ∀ u ∈ seRow L, ∃ k, u = .int .i64 k := by
  intro u hu
  obtain ⟨p, _, hp⟩ := List.mem_flatMap.1 hu
  simp [seCells] at hp
  rcases hp with rfl | rfl
  · exact ⟨_, rfl⟩
  · exact ⟨_, rfl⟩

theorem wpList_append_ints {P : Program} (w : World) {ops : Array Oper} {rest : List Oper} {o : Oper} {a : Act} {Q : Exit → Act → World → Prop} (hgd : o.guard = none) (sl x : Operand) (t : TypeId)
    (ho : o.op = .call { callee := .builtin .append, args := #[sl, x], argTypes := #[t, t] })
    (base g : Nat) (i : TypeInfo) (ht : P.underlying t = some (.slice 37)) (hi : P.info? 37 = some i) (hz : i.zero = some (.agg #[.int .i64 0, .int .i64 0])) (hsize : i.size = 2) (hby : i.bytes = 16)
    (hs : a.eval sl = .slice (some ⟨g, 0, none⟩) 0 0) (hg : w.heap[g]? = some (.cells #[] 37 (0, 0))) (hbg : base ≤ g) (m : Nat) (news : List Value) (u : Value) (hxe : a.eval x = u) (hx : Srcs w 2 u m news) (hn : ∀ u ∈ news, ∃ k, u = .int .i64 k)
    (h63 : m ≤ maxLen) (hbytes : m * 16 ≤ 140737488355328) (hbase : base ≤ w.heap.size)
    (h : ∀ v' w', w'.ownsRow base 37 2 v' m news → w.grownBy w' (some g) → Ints w' v' → wpList P ops Q rest (a.put o.dst v') w') : wpList P ops Q (o :: rest) a w := by
  refine wpList_plain hgd fun K hK => ?_
  obtain ⟨v', w', hr, h2, h3, h4⟩ := run_append_ints (P := P) w base g t o.type i ht hi hz hsize hby hg hbg u m news hx hn h63 hbytes hbase
  unfold Oper.wp execOp
  simp only [ho, resolve, invoke, builtin, Sem.run_bind, Sem.run_pure, Result.andThen_ok, List.map_toArray, List.map_cons, List.map_nil, hs, hxe, hr]
  exact hK _ _ (h v' w' h2 h3 h4)
end Go.Proofs.Ytifkelpgpdgenaa
