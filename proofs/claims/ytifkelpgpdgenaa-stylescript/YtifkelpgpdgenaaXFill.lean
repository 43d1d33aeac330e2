/-
  What is proved here: an append of a text to a row of texts leaves no cell of the row's block, to the last of its capacity, that is neither empty nor one of the row's (for StyleScript).
-/
import Derived.Test.YtifkelpgpdgenaaRow
import Derived.OwnWalkIn
import Derived.RangeFuncFrom
namespace Go.Proofs.Ytifkelpgpdgenaa
open Go.RowKit Go.Shelf

/-- Each cell of a row's block, to its capacity, is the empty text or one of these. -/
def Fill (W : World) (v : Value) (xs : List Value) : Prop :=
  ∀ g n cap cur, v = .slice (some ⟨g, 0, none⟩) n cap → W.heap[g]? = some (.cells cur 9 (0, 0)) → ∀ u ∈ cur.toList, u = .string ⟨#[]⟩ ∨ u ∈ xs

theorem zero_fill {n : Nat} {u : Value} (hu : u ∈ (Builtin.zeroCells (Value.string ⟨#[]⟩).cells n).toList) : u = .string ⟨#[]⟩ := by
  simp only [Builtin.zeroCells, Value.cells, Array.toList_map, List.mem_map] at hu
  obtain ⟨i, _, rfl⟩ := hu
  simp [Nat.mod_one]

theorem run_append_fill {P : Program} (w : World) (base : Nat) (t ty : TypeId) (i : TypeInfo) (ht : P.underlying t = some (.slice 9)) (hi : P.info? 9 = some i) (hz : i.zero = some (.string ⟨#[]⟩)) (hsize : i.size = 1) (hby : i.bytes = 16)
    (v : Value) (n : Nat) (xs : List Value) (hown : w.ownsRow base 9 1 v n xs) (hfill : Fill w v xs) (a : Addr) (c : Nat) (u : Value) (hu : w.cell? a = some u) (h1 : u.oneCell' = true)
    (h63 : n + 1 ≤ maxLen) (hbytes : (n + 1) * 16 ≤ 140737488355328) (hbase : base ≤ w.heap.size) :
    ∃ v' w', (Builtin.append_ #[t, t] ty #[v, .slice (some a) 1 c]).run P w = .ok v' w' ∧ w'.ownsRow base 9 1 v' (n + 1) (xs ++ [u]) ∧ w.grownBy w' v.ownBlock ∧ Fill w' v' (xs ++ [u]) := by
  have hc : ∀ j x, [u][j]? = some x → w.cell? (a.add j) = some x := fun j x hx => by
    match j with
    | 0 => cases hx; rw [show a.add 0 = a from if_pos rfl]; exact hu
    | j + 1 => simp at hx
  have h1' : ∀ x ∈ [u], x.oneCell' = true := fun x hx => by rw [List.mem_singleton.1 hx]; exact h1
  obtain ⟨v', w', hrun, r1, r2, _⟩ := run_append_own (P := P) w base t ty 9 i (.string ⟨#[]⟩) 1 16 ht hi hz hsize hby rfl (by decide) v n xs hown a 1 c [u] rfl hc h1' h63 hbytes hbase
  refine ⟨v', w', hrun, r1, r2, ?_⟩
  have hsmall : n + 1 ≤ 9223372036854775807 := by simp only [maxLen] at h63; omega
  have hfresh : ∀ (cs : Array Value) (m k : Nat), v' = .slice (some ⟨w.heap.size, 0, none⟩) m k → w' = w.drew.alloc (.cells cs 9) → (∀ x ∈ cs.toList, x = .string ⟨#[]⟩ ∨ x ∈ xs ++ [u]) → Fill w' v' (xs ++ [u]) := by
    intro cs m k hv hw hx g n' cap' cur e hg
    rw [hv] at e
    cases e
    rw [hw] at hg
    have := World.alloc_heap_new w.drew (.cells cs 9)
    rw [show w.drew.heap.size = w.heap.size from rfl] at this
    rw [this] at hg
    cases hg
    exact hx
  rcases hown.2 with ⟨rfl, rfl⟩ | ⟨g, cap, cur, rfl, hbg, hg, hnc, hcm, hcs, htake⟩
  · have hx : xs = [] := List.eq_nil_of_length_eq_zero (by simpa using hown.1)
    subst hx
    have hr := run_append_nil (P := P) w t ty 9 i (.string ⟨#[]⟩) ht hi hz a 1 c [u] (by rw [hsize]; rfl) hc (by omega) (by omega) (by rw [hby]; omega)
    rw [hrun] at hr
    injection hr with e1 e2
    refine hfresh _ _ _ e1 e2 fun x hx => ?_
    rw [Array.toList_append, List.mem_append] at hx
    rcases hx with hx | hx
    · exact .inr (by simpa using hx)
    · exact .inl (zero_fill hx)
  · by_cases hroom : n + 1 ≤ cap
    · have hfit : n * i.size + [u].length ≤ cur.size := by rw [hsize, hcs]; simp; omega
      have hr := run_append_room (P := P) w t ty 9 i ht hi g n cap cur hg a 1 c [u] (by rw [hsize]; rfl) hc h1' hroom hfit
      rw [hrun] at hr
      injection hr with e1 e2
      intro g' n' cap' cur' e hg'
      rw [e1] at e
      cases e
      rw [e2, setRow_heap w g cur _ 9 _ hg] at hg'
      cases hg'
      intro x hx
      simp only [List.mem_append] at hx
      rcases hx with (hx | hx) | hx
      · exact (hfill g n cap cur rfl hg x (List.mem_of_mem_take hx)).imp id (fun h => List.mem_append_left _ h)
      · exact .inr (List.mem_append_right _ hx)
      · exact (hfill g n cap cur rfl hg x (List.mem_of_mem_drop hx)).imp id (fun h => List.mem_append_left _ h)
    · have holds : ∀ j u, xs[j]? = some u → w.cell? ((⟨g, 0, none⟩ : Addr).add j) = some u := hown.cells (g := g) rfl
      have hr := run_append_grow (P := P) w t ty 9 i (.string ⟨#[]⟩) ht hi hz ⟨g, 0, none⟩ n cap xs (by rw [hsize]; exact hown.1) holds a 1 c [u] (by rw [hsize]; rfl) hc (by omega) (by omega) (by rw [hby]; exact growslice_fits (by omega) hbytes)
      rw [hrun] at hr
      injection hr with e1 e2
      refine hfresh _ _ _ e1 e2 fun x hx => ?_
      rw [Array.toList_append, List.mem_append] at hx
      rcases hx with hx | hx
      · exact .inr (by simpa using hx)
      · exact .inl (zero_fill hx)

theorem wpListIn_append_fill {F : Fence} {k : Nat} {P : Program} (w : World) {ops : Array Oper} {rest : List Oper} {o : Oper} {a : Act} {Q : Exit → Act → World → Prop}
    (hg : o.guard = none) (s x : Operand) (t : TypeId) (hop : o.op = Op.call { callee := Callee.builtin Builtin.append, args := #[s, x], argTypes := #[t, t] })
    (base : Nat) (i : TypeInfo) (ht : P.underlying t = some (.slice 9)) (hi : P.info? 9 = some i) (hz : i.zero = some (.string ⟨#[]⟩)) (hsize : i.size = 1) (hby : i.bytes = 16)
    (v : Value) (n : Nat) (xs : List Value) (hs : a.eval s = v) (hown : w.ownsRow base 9 1 v n xs) (hfill : Fill w v xs) (ad : Addr) (c : Nat) (u : Value) (hx : a.eval x = .slice (some ad) 1 c) (hu : w.cell? ad = some u) (h1 : u.oneCell' = true)
    (h63 : n + 1 ≤ maxLen) (hbytes : (n + 1) * 16 ≤ 140737488355328) (hbase : base ≤ w.heap.size)
    (hK : ∀ v' w', w'.ownsRow base 9 1 v' (n + 1) (xs ++ [u]) → w.grownBy w' v.ownBlock → Fill w' v' (xs ++ [u]) → wpListIn F k P ops Q rest (a.put o.dst v') w') :
    wpListIn F k P ops Q (o :: rest) a w := by
  refine wpListIn_plain hg fun K hK' => ?_
  obtain ⟨v', w', hrun, r1, r2, r3⟩ := run_append_fill (P := P) w base t o.type i ht hi hz hsize hby v n xs hown hfill ad c u hu h1 h63 hbytes hbase
  unfold Oper.wpIn
  refine ⟨?_, ?_⟩
  · simp [Oper.about, hop, resolve, Target.leads, Sem.run_pure]
  · rw [Oper.semAt_plain F _ _ (by rw [hop]; intro c hc'; cases hc')]
    simp [execOp, hop, resolve, invoke, builtin, hs, hx, hrun, Result.andThen]
    exact hK' _ _ (hK v' w' r1 r2 r3)
end Go.Proofs.Ytifkelpgpdgenaa
