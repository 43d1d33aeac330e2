/-
  What is proved here: items that fill a block; what LentItems answers.
  What is proved here: what LentItems answers.
-/
import Derived.Test.YthcphnifnfnceaaGreatDoorG4
import Derived.Test.YthcphnifnfnceaaGreatDoorG12
import Derived.Deep.MidRow
import Derived.Lib.SlBuf
import Derived.Laws.CopyRow
import Derived.Test.YthcphnifnfnceaaGreatDoorG34
import Derived.Test.YthcphnifnfnceaaGreatDoorG35
namespace Go.Proofs.YthcphnifnfnceaaGreatDoor
open Go.RowKit Go.Shelf

/-- Items that lie in a block from its first cell on, and may be written. -/
structure IB (W : World) (g : Nat) (L : List It) : Prop where
  lt : g < W.heap.size
  all : ∀ i (hi : i < L.length) (j : Nat) v, (itL L[i])[j]? = some v → W.cell? ⟨g, i * 8 + j, none⟩ = some v ∧ W.frozen? ⟨g, i * 8 + j, none⟩ = false
theorem IB.its {W : World} {g : Nat} {L : List It} (h : IB W g L) {n cap : Nat} (hn : n ≤ L.length) (hc : n ≤ cap) : ItsAt W (.slice (some ⟨g, 0, none⟩) n cap) (L.take n) := by
  refine ⟨⟨some ⟨g, 0, none⟩, cap, by rw [List.length_take, Nat.min_eq_left hn], .inr ⟨g, 0, rfl, h.lt, fun i hi j v hv => ?_⟩⟩, fun a n' c e => ?_⟩
  · have hil : i < L.length := by rw [List.length_take] at hi; omega
    rw [List.getElem_take] at hv
    have := (h.all i hil j v hv).1
    rw [Nat.zero_add]
    exact this
  · cases e
    exact hc
theorem IB.below {W W' : World} {g : Nat} {L : List It} (h : IB W g L) {n : Nat} (hb : Below n W W') (hn : g < n) : IB W' g L := ⟨Nat.lt_of_lt_of_le h.lt hb.size, fun i hi j v hv => by
  have := h.all i hi j v hv
  have hbk := hb.block g hn
  have e1 : W'.cell? ⟨g, i * 8 + j, none⟩ = W.cell? ⟨g, i * 8 + j, none⟩ := by unfold World.cell?; rw [hbk]
  have e2 : W'.frozen? ⟨g, i * 8 + j, none⟩ = W.frozen? ⟨g, i * 8 + j, none⟩ := by unfold World.frozen?; rw [hbk]
  rw [e1, e2]; exact this⟩
theorem turns_setCells {X : Nat → Prop} {g : Nat} (hg : X g) : ∀ (vs : List Value) (o : Nat) (W : World), Turns X W (W.setCells g o vs)
  | [], _, _W => Turns.refl _ _
  | v :: r, o, W => (Turns.setCell W (p := ⟨g, o, none⟩) hg v).trans (turns_setCells hg r (o + 1) _)
theorem IB.there {W : World} {g : Nat} {L : List It} (h : IB W g L) {p : Nat} (hp : p < L.length) : W.there g (p * 8) 8 := fun j hj => by
  obtain ⟨v, hv⟩ : ∃ v, (itL L[p])[j]? = some v := ⟨(itL L[p])[j]'(by rw [itL_len]; exact hj), List.getElem?_eq_getElem _⟩
  have := h.all p hp j v hv
  exact ⟨by rw [this.1]; rfl, this.2⟩
theorem IB.set {W : World} {g : Nat} {L : List It} (h : IB W g L) {p : Nat} (hp : p < L.length) (x : It) : IB (W.setCells g (p * 8) (itL x)) g (L.set p x) := by
  refine ⟨Nat.lt_of_lt_of_le h.lt (turns_setCells (X := fun _ => True) trivial _ _ _).size, fun i hi j v hv => ?_⟩
  have hi' : i < L.length := by simpa using hi
  have hj : j < 8 := by have := (List.getElem?_eq_some_iff.1 hv).1; rw [itL_len] at this; exact this
  rw [World.frozen?_setCells]
  by_cases e : p = i
  · subst e
    rw [List.getElem_set_self] at hv
    have := (World.rangeAt_setCells_same W g (p * 8) (itL x) (by rw [itL_len]; exact h.there hp)) j v hv
    refine ⟨this, ?_⟩
    exact ((h.there hp) j hj).2
  · rw [List.getElem_set_ne e] at hv
    have := h.all i hi' j v hv
    refine ⟨?_, this.2⟩
    rw [World.cell?_setCells_out g (itL x) (p * 8) W ⟨g, i * 8 + j, none⟩ (fun _ _ => by rw [itL_len]; show i * 8 + j < p * 8 ∨ p * 8 + 8 ≤ i * 8 + j; omega)]
    exact this.1
theorem IB.of_row {W : World} {g : Nat} {L : List It} {cur : Array Value} (hg : W.heap[g]? = some (.cells cur 51 (0, 0))) (hc : ∀ i (hi : i < L.length) (j : Nat) v, (itL L[i])[j]? = some v → cur[i * 8 + j]? = some v) : IB W g L :=
  ⟨(Array.getElem?_eq_some_iff.1 hg).1, fun i hi j v hv => ⟨by rw [Lib.cell_of_heap hg]; exact hc i hi j v hv, Lib.frozen_of_heap hg _⟩⟩
theorem flat_at (L : List It) : ∀ i (hi : i < L.length) (j : Nat) v, (itL L[i])[j]? = some v → (L.flatMap itL)[i * 8 + j]? = some v := by
  induction L with
  | nil => intro i hi; simp at hi
  | cons x L ih =>
    intro i hi j v hv
    have hj : j < 8 := by have := (List.getElem?_eq_some_iff.1 hv).1; rw [itL_len] at this; exact this
    rw [List.flatMap_cons]
    cases i with
    | zero =>
      rw [List.getElem?_append_left (by rw [itL_len]; omega)]
      simpa using hv
    | succ i =>
      rw [List.getElem?_append_right (by rw [itL_len]; omega), itL_len, show (i + 1) * 8 + j - 8 = i * 8 + j by omega]
      exact ih i (by simpa using hi) j v hv
theorem flat_len (L : List It) : (L.flatMap itL).length = L.length * 8 := by
  induction L with
  | nil => rfl
  | cons x L ih => rw [List.flatMap_cons, List.length_append, ih, itL_len, List.length_cons]; omega
theorem made29 (n : Nat) : madeCells (itL it0).toArray (n * 8) = ((List.replicate n it0).flatMap itL).toArray := by
  apply Array.ext
  · rw [size_madeCells]; simp only [List.size_toArray]; rw [flat_len, List.length_replicate]
  · intro i h1 h2
    have hi : i / 8 < (List.replicate n it0).length := by simp [madeCells] at h1; simp; omega
    have hv := flat_at (List.replicate n it0) (i / 8) hi (i % 8) ((itL it0)[i % 8]'(by rw [itL_len]; omega)) (by rw [List.getElem_replicate]; exact List.getElem?_eq_getElem _)
    rw [show i / 8 * 8 + i % 8 = i by omega] at hv
    have : ((List.replicate n it0).flatMap itL)[i]? = some (((List.replicate n it0).flatMap itL).toArray[i]'h2) := by simp
    rw [this] at hv
    have hm : (madeCells (itL it0).toArray (n * 8))[i] = (itL it0).toArray[i % (itL it0).toArray.size]! := by simp [madeCells]
    rw [hm, Option.some.inj hv]
    have h8 : (itL it0).toArray.size = 8 := rfl
    rw [h8, getElem!_pos _ _ (by rw [h8]; omega)]
    simp
theorem make29 {n : Nat} (h : n ≤ 9100) (W : World) : (Instr.makeSlice 29 (.int .i64 (n : Int)) (.int .i64 (n : Int))).run Tryz.prog W = .ok (.slice (some ⟨W.heap.size, 0, none⟩) n n) (W.alloc (.cells ((List.replicate n it0).flatMap itL).toArray 51)) := by
  obtain ⟨i9, hi⟩ := Option.isSome_iff_exists.1 (show (Tryz.prog.info? 51).isSome = true by kernel_rfl)
  have hz0 : i9.zero = some (.agg (itL it0).toArray) := by
    have h : (Tryz.prog.info? 51).map (·.zero) = some (some (.agg (itL it0).toArray)) := by kernel_rfl
    rw [hi] at h; simpa using h
  have hz1 : i9.size = 8 := by
    have h : (Tryz.prog.info? 51).map (·.size) = some 8 := by kernel_rfl
    rw [hi] at h; simpa using h
  have hz2 : i9.bytes = 64 := by
    have h : (Tryz.prog.info? 51).map (·.bytes) = some 64 := by kernel_rfl
    rw [hi] at h; simpa using h
  have := run_makeSlice (P := Tryz.prog) (w := W) 29 51 i9 _ Tryz.underlying29 hi hz0 .i64 .i64 n n (by omega) (by omega) (by rw [hz1]; omega) (by rw [hz2]; omega) (by omega)
  rw [hz1, Int.toNat_natCast] at this
  rw [← made29]
  exact this
theorem run_copy_wide {P : Program} (w : World) (dT sT ty elem : TypeId) (g dLen dCap : Nat) (a : Addr) (sLen sCap : Nat) (cur : Array Value) (t : TypeId) (cs : List Value) (k : Nat)
    (hu : P.underlying dT = some (.slice elem)) (hs : (P.info? elem).map (·.size) = some k)
    (hg : w.heap[g]? = some (.cells cur t (0, 0))) (n : Nat) (hnn : Nat.min sLen dLen = n) (hn : cs.length = n * k)
    (hsrc : ∀ j v, cs[j]? = some v → w.cell? (a.add j) = some v) (hfit : cs.length ≤ cur.size) (h1 : ∀ v ∈ cs, v.oneCell' = true) :
    (Builtin.copy_ #[dT, sT] ty #[.slice (some ⟨g, 0, none⟩) dLen dCap, .slice (some a) sLen sCap]).run P w =
      .ok (goInt n) (w.setRow g (cs ++ cur.toList.drop cs.length).toArray) := by
  have hl := run_loadCells_list (P := P) w a cs hsrc
  have hst := run_storeCells_at P g 0 t cs 0 cur w hg (by simpa using hfit) h1
  rw [hn] at hl
  cases hq : P.info? elem with
  | none => simp [hq] at hs
  | some i =>
    have hi : i.size = k := by simpa [hq] using hs
    simp [Builtin.copy_, run_underlying hu, Builtin.lenOf, Builtin.firstCells, sizeOf, typeInfo, hq, hi, hnn, hl, hst]

def lentIt (i : Nat) : It := ⟨77, 0, 0, i, 0, 0, 0, false⟩
def lentL (n : Nat) : List It := [lentIt n, lentIt (n + 1), lentIt (n + 2)]
/-- What is there while the marks are set. -/
def lentK (l : List It) (k : Nat) : List It := l ++ ((lentL l.length).take k ++ List.replicate (3 - k) it0)
theorem lentK_len (l : List It) {k : Nat} (hk : k ≤ 3) : (lentK l k).length = l.length + 3 := by
  unfold lentK
  rw [List.length_append, List.length_append, List.length_take, List.length_replicate]
  have : (lentL l.length).length = 3 := rfl
  rw [this]; omega
theorem lentK_set (l : List It) {k : Nat} (hk : k < 3) : (lentK l k).set (l.length + k) (lentIt (l.length + k)) = lentK l (k + 1) := by
  unfold lentK
  rw [List.set_append_right _ _ (by omega), Nat.add_sub_cancel_left]
  obtain rfl | rfl | rfl : k = 0 ∨ k = 1 ∨ k = 2 := by omega
  all_goals rfl
theorem lentK_all (l : List It) : lentK l 3 = l ++ lentL l.length := by unfold lentK; simp [lentL]
theorem flat_drop (A C : List It) : ((A ++ C).flatMap itL).drop (A.length * 8) = C.flatMap itL := by
  rw [List.flatMap_append, List.drop_append_of_le_length (by rw [flat_len]; exact Nat.le_refl _), List.drop_of_length_le (by rw [flat_len]; exact Nat.le_refl _), List.nil_append]
theorem rep_drop (n : Nat) : ((List.replicate (n + 3) it0).flatMap itL).drop (n * 8) = (List.replicate 3 it0).flatMap itL := by
  have := flat_drop (List.replicate n it0) (List.replicate 3 it0)
  rw [List.replicate_append_replicate, List.length_replicate] at this
  exact this
theorem copy_zero {P : Program} (w : World) (dT sT ty elem : TypeId) (g dLen dCap : Nat) (a : Option Addr) (sCap : Nat) (hu : P.underlying dT = some (.slice elem)) (hs : ((P.info? elem).map (·.size)).isSome = true) :
    (Builtin.copy_ #[dT, sT] ty #[.slice (some ⟨g, 0, none⟩) dLen dCap, .slice a 0 sCap]).run P w = .ok (goInt 0) w := by
  cases hq : P.info? elem with
  | none => simp [hq] at hs
  | some i =>
    cases a with
    | none => simp [Builtin.copy_, run_underlying hu, Builtin.lenOf, Builtin.firstCells, sizeOf, typeInfo, hq, storeCells]
    | some a =>
      have hl := run_loadCells_list (P := P) w a [] (fun j v hv => by simp at hv)
      simp at hl
      simp [Builtin.copy_, run_underlying hu, Builtin.lenOf, Builtin.firstCells, sizeOf, typeInfo, hq, storeCells, hl]
theorem copy29 {W : World} {g c1 : Nat} {a1 : Option Addr} {l : List It} (hg : W.heap[g]? = some (.cells ((List.replicate (l.length + 3) it0).flatMap itL).toArray 51 (0, 0))) (ht : ItsAt W (.slice a1 l.length c1) l) :
    ∃ W', (Builtin.copy_ #[29, 29] 3 #[.slice (some ⟨g, 0, none⟩) (l.length + 3) (l.length + 3), .slice a1 l.length c1]).run Tryz.prog W = .ok (.int .i64 (l.length : Int)) W' ∧ IB W' g (lentK l 0) ∧ Turns (fun k => k = g) W W' := by
  have hsz : (Tryz.prog.info? 51).map (·.size) = some 8 := by kernel_rfl
  obtain ⟨a', c', e, h2⟩ := ht.ex
  cases e
  have hk0 : lentK l 0 = l ++ List.replicate 3 it0 := rfl
  rcases h2 with h2 | ⟨b, o, rfl, hb, hc⟩
  · subst h2
    refine ⟨W, copy_zero W 29 29 3 51 g _ _ a1 c1 Tryz.underlying29 (by rw [hsz]; rfl), IB.of_row hg (fun i hi j v hv => ?_), Turns.refl _ _⟩
    have h3 := flat_at _ i hi j v hv
    rw [hk0, List.nil_append] at h3
    rw [List.getElem?_toArray]
    exact h3
  · have hr := run_copy_wide (P := Tryz.prog) W 29 29 3 51 g (l.length + 3) (l.length + 3) ⟨b, o, none⟩ l.length c1 _ 51 (l.flatMap itL) 8 Tryz.underlying29 hsz hg l.length (Nat.min_eq_left (by omega)) (flat_len l)
      (fun j v hv => by
        rw [addr_add]
        have hjl : j < l.length * 8 := by have := (List.getElem?_eq_some_iff.1 hv).1; rw [flat_len] at this; exact this
        have hi : j / 8 < l.length := by omega
        obtain ⟨u, hu⟩ : ∃ u, (itL l[j / 8])[j % 8]? = some u := ⟨(itL l[j / 8])[j % 8]'(by rw [itL_len]; omega), List.getElem?_eq_getElem _⟩
        have h1 := flat_at l (j / 8) hi (j % 8) u hu
        rw [show j / 8 * 8 + j % 8 = j by omega, hv] at h1
        have h2 := hc (j / 8) hi (j % 8) u hu
        rw [show o + j / 8 * 8 + j % 8 = o + j by omega] at h2
        rw [h2, ← h1])
      (by simp only [List.size_toArray]; rw [flat_len, flat_len, List.length_replicate]; omega)
      (fun v hv => by
        obtain ⟨x, _, hx⟩ := List.mem_flatMap.1 hv
        exact itL_one x v hx)
    refine ⟨_, hr, ?_, Turns.setRow (X := fun k => k = g) _ rfl _⟩
    have hrow : (W.setRow g (l.flatMap itL ++ ((List.replicate (l.length + 3) it0).flatMap itL).drop (l.flatMap itL).length).toArray).heap[g]? = some (.cells (l.flatMap itL ++ ((List.replicate (l.length + 3) it0).flatMap itL).drop (l.flatMap itL).length).toArray 51 (0, 0)) := setRow_heap _ _ _ _ 51 _ hg
    refine IB.of_row (cur := (l.flatMap itL ++ ((List.replicate (l.length + 3) it0).flatMap itL).drop (l.flatMap itL).length).toArray) hrow (fun i hi j v hv => ?_)
    have e : l.flatMap itL ++ ((List.replicate (l.length + 3) it0).flatMap itL).drop (l.flatMap itL).length = (lentK l 0).flatMap itL := by
      rw [hk0, List.flatMap_append]
      rw [flat_len, rep_drop]
    rw [e, List.getElem?_toArray]
    exact flat_at _ i hi j v hv
end Go.Proofs.YthcphnifnfnceaaGreatDoor

namespace Go.Proofs.YthcphnifnfnceaaGreatDoor
open Go.RowKit Go.Shelf

theorem info_it (x : It) : (Tryz.prog.info? 51).map (·.size) = some (itL x).toArray.size := by show _ = some 8; kernel_rfl
theorem itL_all (x : It) : (itL x).toArray.all (·.oneCell') = true := all_oneCell_toArray (itL_one x)
def r15_6 : Code := (Code.region 6 #[{ dst := some 20, op := Op.move (Operand.tmp 3), type := 29, pos := "items.go:22", after := #[], guard := none }, { dst := some 21, op := Op.move (Operand.tmp 4), type := 3, pos := "items.go:22", after := #[], guard := none }, { dst := some 22, op := Op.move (Operand.tmp 4), type := 3, pos := "items.go:22", after := #[], guard := none }, { dst := some 23, op := Op.build 51 #[(0, Operand.const (Value.int IntKind.i64 77)), (3, Operand.tmp 22)], type := 51, pos := "items.go:22", after := #[{ on := 2, ground := Ground.data }], guard := none }, { dst := some 24, op := Op.indexAddr 29 (Operand.tmp 20) (Operand.tmp 21), type := 0, pos := "items.go:22", after := #[{ on := 0, ground := Ground.data }, { on := 1, ground := Ground.data }, { on := 0, ground := Ground.phase }, { on := 1, ground := Ground.phase }, { on := 2, ground := Ground.phase }, { on := 3, ground := Ground.phase }], guard := none }, { dst := none, op := Op.store 51 (Operand.tmp 24) (Operand.tmp 23), type := 0, pos := "items.go:22", after := #[{ on := 4, ground := Ground.data }, { on := 3, ground := Ground.data }, { on := 0, ground := Ground.phase }, { on := 1, ground := Ground.phase }, { on := 2, ground := Ground.phase }, { on := 3, ground := Ground.phase }], guard := none }] false)
def fr15 (v0 v1 v2 v3 v4 v5 v6 v7 v8 v9 v10 v11 v12 v13 v14 v15 v16 v17 v18 v19 v20 v21 v22 v23 v24 v25 v26 v27 v28 : Value) : Act := { tmps := #[v0, v1, v2, v3, v4, v5, v6, v7, v8, v9, v10, v11, v12, v13, v14, v15, v16, v17, v18, v19, v20, v21, v22, v23, v24, v25, v26, v27, v28], defers := [] }
def o15_0 (ps : String) : Oper := { dst := some 20, op := Op.move (Operand.tmp 3), type := 29, pos := ps, after := #[], guard := none }
def o15_1 (ps : String) : Oper := { dst := some 21, op := Op.move (Operand.tmp 4), type := 3, pos := ps, after := #[], guard := none }
def o15_2 (ps : String) : Oper := { dst := some 22, op := Op.move (Operand.tmp 4), type := 3, pos := ps, after := #[], guard := none }
def o15_3 (ps : String) : Oper := { dst := some 23, op := Op.build 51 #[(0, Operand.const (Value.int IntKind.i64 77)), (3, Operand.tmp 22)], type := 51, pos := ps, after := #[{ on := 2, ground := Ground.data }], guard := none }
def o15_4 (ps : String) : Oper := { dst := some 24, op := Op.indexAddr 29 (Operand.tmp 20) (Operand.tmp 21), type := 0, pos := ps, after := #[{ on := 0, ground := Ground.data }, { on := 1, ground := Ground.data }, { on := 0, ground := Ground.phase }, { on := 1, ground := Ground.phase }, { on := 2, ground := Ground.phase }, { on := 3, ground := Ground.phase }], guard := none }
def o15_5 (ps : String) : Oper := { dst := none, op := Op.store 51 (Operand.tmp 24) (Operand.tmp 23), type := 0, pos := ps, after := #[{ on := 4, ground := Ground.data }, { on := 3, ground := Ground.data }, { on := 0, ground := Ground.phase }, { on := 1, ground := Ground.phase }, { on := 2, ground := Ground.phase }, { on := 3, ground := Ground.phase }], guard := none }
def o15 (ps : String) : Array Oper := #[o15_0 ps, o15_1 ps, o15_2 ps, o15_3 ps, o15_4 ps, o15_5 ps]

set_option maxRecDepth 100000 in
set_option maxHeartbeats 2000000 in
theorem lent_r6 (Q : Exit → Act → World → Prop) (id : Nat) (ps : String) {v0 v1 v2 v5 v6 v7 v8 v9 v10 v11 v12 v13 v14 v15 v16 v17 v18 v19 v20 v21 v22 v23 v24 v25 v26 v27 v28 : Value} (g n nn : Nat) (w : World)
    (hn : (nn : Int) < n)
    (ht : w.there g (nn * 8) 8)
    (hq : Q .normal (fr15 v0 v1 v2 (.slice (some ⟨g, 0, none⟩) n n) (.int .i64 ((nn : Nat))) v5 v6 v7 v8 v9 v10 v11 v12 v13 v14 v15 v16 v17 v18 v19 (.slice (some ⟨g, 0, none⟩) n n) (.int .i64 ((nn : Nat))) (.int .i64 ((nn : Nat))) (.agg #[.int .i64 77, .int .i64 0, .int .i64 0, .int .i64 (nn : Nat), .int .i64 0, .int .i64 0, .int .i64 0, .bool false]) (.pointer (some ⟨g, nn * 8, none⟩)) v25 v26 v27 v28) (w.setCells g (nn * 8) (itL ⟨77, 0, 0, (nn : Nat), 0, 0, 0, false⟩))) :
    (Code.region id (o15 ps) false).wp Tryz.prog Q (fr15 v0 v1 v2 (.slice (some ⟨g, 0, none⟩) n n) (.int .i64 ((nn : Nat))) v5 v6 v7 v8 v9 v10 v11 v12 v13 v14 v15 v16 v17 v18 v19 v20 v21 v22 v23 v24 v25 v26 v27 v28) w := by
  refine wp_region_list ?_
  change wpList _ _ _ (List.drop 0 (o15 ps).toList) _ _
  refine pures_i 0 3 ?fa1 ?hh1 ?_
  case fa1 => exact (fr15 v0 v1 v2 (.slice (some ⟨g, 0, none⟩) n n) (.int .i64 ((nn : Nat))) v5 v6 v7 v8 v9 v10 v11 v12 v13 v14 v15 v16 v17 v18 v19 (.slice (some ⟨g, 0, none⟩) n n) (.int .i64 ((nn : Nat))) (.int .i64 ((nn : Nat))) v23 v24 v25 v26 v27 v28)
  case hh1 => kernel_rfl
  refine take_i 3 (oi := o15_3 ps) (v := (.agg #[.int .i64 77, .int .i64 0, .int .i64 0, .int .i64 (nn : Nat), .int .i64 0, .int .i64 0, .int .i64 0, .bool false])) (fr15 v0 v1 v2 (.slice (some ⟨g, 0, none⟩) n n) (.int .i64 ((nn : Nat))) v5 v6 v7 v8 v9 v10 v11 v12 v13 v14 v15 v16 v17 v18 v19 (.slice (some ⟨g, 0, none⟩) n n) (.int .i64 ((nn : Nat))) (.int .i64 ((nn : Nat))) (.agg #[.int .i64 77, .int .i64 0, .int .i64 0, .int .i64 (nn : Nat), .int .i64 0, .int .i64 0, .int .i64 0, .bool false]) v24 v25 v26 v27 v28) (by kernel_rfl) (by kernel_rfl) (by kernel_rfl) (by kernel_rfl) ?_
  refine take_i 4 (oi := o15_4 ps) (v := (.pointer (some ⟨g, nn * 8, none⟩))) (fr15 v0 v1 v2 (.slice (some ⟨g, 0, none⟩) n n) (.int .i64 ((nn : Nat))) v5 v6 v7 v8 v9 v10 v11 v12 v13 v14 v15 v16 v17 v18 v19 (.slice (some ⟨g, 0, none⟩) n n) (.int .i64 ((nn : Nat))) (.int .i64 ((nn : Nat))) (.agg #[.int .i64 77, .int .i64 0, .int .i64 0, .int .i64 (nn : Nat), .int .i64 0, .int .i64 0, .int .i64 0, .bool false]) (.pointer (some ⟨g, nn * 8, none⟩)) v25 v26 v27 v28) (by kernel_rfl) (by kernel_rfl) (by unfold fr15 o15_4; go_simp) (by kernel_rfl) ?_
  refine want_i 5 (oi := o15_5 ps) (by kernel_rfl) (by kernel_rfl) fun K hK => ?_
  refine wp_store_mid 51 (.tmp 24) (.tmp 23) rfl g (nn * 8) (itL ⟨77, 0, 0, (nn : Nat), 0, 0, 0, false⟩).toArray rfl rfl ht (info_it ⟨77, 0, 0, (nn : Nat), 0, 0, 0, false⟩) (itL_all ⟨77, 0, 0, (nn : Nat), 0, 0, 0, false⟩) ?_
  refine hK _ _ (cast_l (fr15 v0 v1 v2 (.slice (some ⟨g, 0, none⟩) n n) (.int .i64 ((nn : Nat))) v5 v6 v7 v8 v9 v10 v11 v12 v13 v14 v15 v16 v17 v18 v19 (.slice (some ⟨g, 0, none⟩) n n) (.int .i64 ((nn : Nat))) (.int .i64 ((nn : Nat))) (.agg #[.int .i64 77, .int .i64 0, .int .i64 0, .int .i64 (nn : Nat), .int .i64 0, .int .i64 0, .int .i64 0, .bool false]) (.pointer (some ⟨g, nn * 8, none⟩)) v25 v26 v27 v28) (by kernel_rfl) ?_)
  clear hK K
  exact end_i 6 (by kernel_rfl) hq
set_option maxRecDepth 100000 in
set_option maxHeartbeats 700000 in
theorem ilent_any (v1 : Value) (l : List It) (hl : l.length ≤ 9000) (w : World) (t1 : ItsAt w v1 l) :
    Calls Tryz.prog 15 #[v1] w fun e w' => e = .returned (.slice (some ⟨w.heap.size, 0, none⟩) l.length (l.length + 3)) ∧ Below w.heap.size w w' ∧ IB w' w.heap.size (l ++ lentL l.length) := by
  obtain ⟨a1, c1, rfl, -⟩ := t1.ex
  have hmk : (Instr.makeSlice 29 (.int .i64 ((l.length : Int) + 3)) (.int .i64 ((l.length : Int) + 3))).run Tryz.prog w = .ok (.slice (some ⟨w.heap.size, 0, none⟩) (l.length + 3) (l.length + 3)) (w.alloc (.cells ((List.replicate (l.length + 3) it0).flatMap itL).toArray 51)) := by
    have := make29 (n := l.length + 3) (by omega) w
    rwa [show (((l.length + 3 : Nat)) : Int) = (l.length : Int) + 3 by omega] at this
  have hb1 : Below w.heap.size w (w.alloc (.cells ((List.replicate (l.length + 3) it0).flatMap itL).toArray 51)) := (Below.refl _ _).alloc (Nat.le_refl _) _
  obtain ⟨w2, hcp, hS2, hT2⟩ := copy29 (W := w.alloc (.cells ((List.replicate (l.length + 3) it0).flatMap itL).toArray 51)) (World.alloc_heap_new w _) (t1.below hb1 (Nat.le_refl _))
  have hb2 : Below w.heap.size w w2 := hb1.trans (hT2.below hb1.size (fun k hk => by omega))
  generalize w.alloc (.cells ((List.replicate (l.length + 3) it0).flatMap itL).toArray 51) = w1 at *
  have hS2h : Hid (IB w2 w.heap.size (lentK l 0)) := hS2
  clear hS2 hT2 t1
  have hbs : Hid (∀ (W : World) (o : Nat) (vs : List Value), Below w.heap.size w W → Below w.heap.size w (W.setCells w.heap.size o vs)) := fun W o vs h => h.trans ((turns_setCells (X := fun k => k = w.heap.size) rfl vs o W).below h.size (fun k hk => by omega))
  obtain ⟨g, hg⟩ : ∃ g, w.heap.size = g := ⟨_, rfl⟩
  rw [hg] at hmk hcp hb1 hb2 hS2h hbs ⊢
  clear hg
  have hset : Hid (∀ (W : World) (k : Nat), k < 3 → IB W g (lentK l k) → IB (W.setCells g ((l.length + k) * 8) (itL (lentIt (l.length + k)))) g (lentK l (k + 1))) := fun W k hk h => by
    have := h.set (p := l.length + k) (by rw [lentK_len l (by omega)]; omega) (lentIt (l.length + k))
    rw [lentK_set l hk] at this
    exact this
  have hth : Hid (∀ (W : World) (k : Nat), k < 3 → IB W g (lentK l k) → W.there g ((l.length + k) * 8) 8) := fun W k hk h => h.there (by rw [lentK_len l (by omega)]; omega)
  have hfin : Hid (lentK l 3 = l ++ lentL l.length) := lentK_all l
  go_enter Tryz.func15, Tryz.ntmps15
  go_wp2_with (at_builtin; refine Lib.wpList_copy_run _ rfl _ _ 29 29 rfl _ _ rfl rfl hcp ?_)
  clear hcp hmk
  go_loopw [4] (fun i wr => ∃ k : Nat, k ≤ 3 ∧ i = .int .i64 ((l.length + k : Nat) : Int) ∧ Below g w wr ∧ Hid (IB wr g (lentK l k))) (fun i _ => l.length + 3 - (intOf i).toNat)
  case atStart => exact ⟨0, by omega, rfl, hb2, hS2h⟩
  case round =>
    obtain ⟨k, hk, rfl, hbl, hS⟩ := hrel
    change Code.wp Tryz.prog (((Code.region 4 #[{ dst := some 14, op := Op.move (Operand.tmp 4), type := 3, pos := "items.go:21", after := #[], guard := none }, { dst := some 15, op := Op.move (Operand.tmp 3), type := 29, pos := "items.go:21", after := #[], guard := none }, { dst := some 16, op := Op.call { callee := Callee.builtin Builtin.len, args := #[Operand.tmp 15], argTypes := #[29] }, type := 3, pos := "items.go:21", after := #[{ on := 1, ground := Ground.data }], guard := none }, { dst := some 17, op := Op.binOp BinOp.lss 3 (Operand.tmp 14) (Operand.tmp 16) 3, type := 4, pos := "items.go:21", after := #[{ on := 0, ground := Ground.data }, { on := 2, ground := Ground.data }], guard := none }] false).seq (Code.cond (Operand.tmp 17) Code.skip (Code.exit 0))).seq ((Code.block 1 r15_6).seq (Code.region 5 #[{ dst := some 18, op := Op.move (Operand.tmp 4), type := 3, pos := "items.go:21", after := #[], guard := none }, { dst := some 19, op := Op.binOp BinOp.add 3 (Operand.tmp 18) (Operand.const (Value.int IntKind.i64 1)) 3, type := 3, pos := "items.go:21", after := #[{ on := 0, ground := Ground.data }], guard := none }, { dst := some 4, op := Op.assign (Operand.tmp 19), type := 3, pos := "items.go:21", after := #[{ on := 1, ground := Ground.data }, { on := 0, ground := Ground.phase }, { on := 1, ground := Ground.phase }], guard := none }] false))) _ _ _
    by_cases hlt : k < 3
    · have hkl : ((l.length + k : Nat) : Int) < (l.length : Int) + 3 := by omega
      have hs2 : Hid (IB (wr.setCells g ((l.length + k) * 8) (itL (lentIt (l.length + k)))) g (lentK l (k + 1))) := hset.out wr k hlt hS.out
      have ht2 : Hid (wr.there g ((l.length + k) * 8) 8) := hth.out wr k hlt hS.out
      have hb3 : Hid (Below g w (wr.setCells g ((l.length + k) * 8) (itL (lentIt (l.length + k))))) := hbs.out _ _ _ hbl
      have hnx : Hid (((l.length + k : Nat) : Int) + 1 = ((l.length + (k + 1) : Nat) : Int)) := by show _ = _; omega
      have hnb : ((l.length + k : Nat) : Int) ≤ 9100 := by omega
      have hlt2 : l.length + k < l.length + 3 := by omega
      have hme : Hid (l.length + 3 - (l.length + (k + 1)) < l.length + 3 - (l.length + k)) := by show _ < _; omega
      clear hset hth hbs hS hfin
      unfold lentIt at hs2 hb3
      generalize hNN : l.length + k = nn at *
      go_wp2_with fail
      unfold r15_6
      refine lent_r6 _ _ _ g _ nn _ (by simpa using hkl) ht2.out ?_
      unfold fr15
      replace hb3 : Hid _ := hb3
      generalize wr.setCells g (nn * 8) (itL ⟨77, 0, 0, nn, 0, 0, 0, false⟩) = wn at *
      go_wp2_with fail
      go_roundw
      case rel => exact ⟨k + 1, by omega, by rw [← hnx.out], hb3.out, hs2⟩
      case measure => simp [intOf]; omega
    · obtain rfl : k = 3 := by omega
      have hkl : ¬ ((l.length + 3 : Nat) : Int) < (l.length : Int) + 3 := by omega
      have hSf : Hid (IB wr g (l ++ lentL l.length)) := by
        have h := hS.out
        rw [hfin.out] at h
        exact h
      clear hS hset hth hbs hfin
      generalize ((l.length + 3 : Nat) : Int) = nn at *
      go_wp2_with fail
      go_ret
      exact ⟨rfl, hbl, hSf.out⟩
end Go.Proofs.YthcphnifnfnceaaGreatDoor
