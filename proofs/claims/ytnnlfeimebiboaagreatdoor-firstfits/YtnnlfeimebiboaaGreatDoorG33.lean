/-
  What is proved here: slots that fill a block; what SameSlots, LentSlots and KeptSlots answer.
-/
import Derived.Test.YtnnlfeimebiboaaGreatDoorG6
import Derived.Test.YtnnlfeimebiboaaGreatDoorG32
namespace Go.Proofs.YtnnlfeimebiboaaGreatDoor
open Go.RowKit Go.Shelf
theorem slL_one (s : Sl) : ∀ u ∈ slL s, u.oneCell' = true := fun u hu => by simp [slL] at hu; rcases hu with rfl | rfl <;> rfl


/-- Items that lie in a block from its first cell on, and may be written. -/
structure SB2 (W : World) (g : Nat) (L : List Sl) : Prop where
  lt : g < W.heap.size
  all : ∀ i (hi : i < L.length) (j : Nat) v, (slL L[i])[j]? = some v → W.cell? ⟨g, i * 2 + j, none⟩ = some v ∧ W.frozen? ⟨g, i * 2 + j, none⟩ = false
theorem SB2.its {W : World} {g : Nat} {L : List Sl} (h : SB2 W g L) {n cap : Nat} (hn : n ≤ L.length) (hc : n ≤ cap) : SlsAt W (.slice (some ⟨g, 0, none⟩) n cap) (L.take n) := by
  refine ⟨⟨some ⟨g, 0, none⟩, cap, by rw [List.length_take, Nat.min_eq_left hn], .inr ⟨g, 0, rfl, h.lt, fun i hi j v hv => ?_⟩⟩, fun a n' c e => ?_⟩
  · have hil : i < L.length := by rw [List.length_take] at hi; omega
    rw [List.getElem_take] at hv
    have := (h.all i hil j v hv).1
    rw [Nat.zero_add]
    exact this
  · cases e
    exact hc
theorem SB2.below {W W' : World} {g : Nat} {L : List Sl} (h : SB2 W g L) {n : Nat} (hb : Below n W W') (hn : g < n) : SB2 W' g L := ⟨Nat.lt_of_lt_of_le h.lt hb.size, fun i hi j v hv => by
  have := h.all i hi j v hv
  have hbk := hb.block g hn
  have e1 : W'.cell? ⟨g, i * 2 + j, none⟩ = W.cell? ⟨g, i * 2 + j, none⟩ := by unfold World.cell?; rw [hbk]
  have e2 : W'.frozen? ⟨g, i * 2 + j, none⟩ = W.frozen? ⟨g, i * 2 + j, none⟩ := by unfold World.frozen?; rw [hbk]
  rw [e1, e2]; exact this⟩
theorem SB2.there {W : World} {g : Nat} {L : List Sl} (h : SB2 W g L) {p : Nat} (hp : p < L.length) : W.there g (p * 2) 2 := fun j hj => by
  obtain ⟨v, hv⟩ : ∃ v, (slL L[p])[j]? = some v := ⟨(slL L[p])[j]'(by rw [slL_len]; exact hj), List.getElem?_eq_getElem _⟩
  have := h.all p hp j v hv
  exact ⟨by rw [this.1]; rfl, this.2⟩
theorem SB2.set {W : World} {g : Nat} {L : List Sl} (h : SB2 W g L) {p : Nat} (hp : p < L.length) (x : Sl) : SB2 (W.setCells g (p * 2) (slL x)) g (L.set p x) := by
  refine ⟨Nat.lt_of_lt_of_le h.lt (turns_setCells (X := fun _ => True) trivial _ _ _).size, fun i hi j v hv => ?_⟩
  have hi' : i < L.length := by simpa using hi
  have hj : j < 2 := by have := (List.getElem?_eq_some_iff.1 hv).1; rw [slL_len] at this; exact this
  rw [World.frozen?_setCells]
  by_cases e : p = i
  · subst e
    rw [List.getElem_set_self] at hv
    have := (World.rangeAt_setCells_same W g (p * 2) (slL x) (by rw [slL_len]; exact h.there hp)) j v hv
    refine ⟨this, ?_⟩
    exact ((h.there hp) j hj).2
  · rw [List.getElem_set_ne e] at hv
    have := h.all i hi' j v hv
    refine ⟨?_, this.2⟩
    rw [World.cell?_setCells_out g (slL x) (p * 2) W ⟨g, i * 2 + j, none⟩ (fun _ _ => by rw [slL_len]; show i * 2 + j < p * 2 ∨ p * 2 + 2 ≤ i * 2 + j; omega)]
    exact this.1
theorem SB2.of_row {W : World} {g : Nat} {L : List Sl} {cur : Array Value} (hg : W.heap[g]? = some (.cells cur 25 (0, 0))) (hc : ∀ i (hi : i < L.length) (j : Nat) v, (slL L[i])[j]? = some v → cur[i * 2 + j]? = some v) : SB2 W g L :=
  ⟨(Array.getElem?_eq_some_iff.1 hg).1, fun i hi j v hv => ⟨by rw [Lib.cell_of_heap hg]; exact hc i hi j v hv, Lib.frozen_of_heap hg _⟩⟩
theorem sflat_at (L : List Sl) : ∀ i (hi : i < L.length) (j : Nat) v, (slL L[i])[j]? = some v → (L.flatMap slL)[i * 2 + j]? = some v := by
  induction L with
  | nil => intro i hi; simp at hi
  | cons x L ih =>
    intro i hi j v hv
    have hj : j < 2 := by have := (List.getElem?_eq_some_iff.1 hv).1; rw [slL_len] at this; exact this
    rw [List.flatMap_cons]
    cases i with
    | zero =>
      rw [List.getElem?_append_left (by rw [slL_len]; omega)]
      simpa using hv
    | succ i =>
      rw [List.getElem?_append_right (by rw [slL_len]; omega), slL_len, show (i + 1) * 2 + j - 2 = i * 2 + j by omega]
      exact ih i (by simpa using hi) j v hv
theorem sflat_len (L : List Sl) : (L.flatMap slL).length = L.length * 2 := by
  induction L with
  | nil => rfl
  | cons x L ih => rw [List.flatMap_cons, List.length_append, ih, slL_len, List.length_cons]; omega
theorem made23 (n : Nat) : madeCells (slL sl0).toArray (n * 2) = ((List.replicate n sl0).flatMap slL).toArray := by
  apply Array.ext
  · rw [size_madeCells]; simp only [List.size_toArray]; rw [sflat_len, List.length_replicate]
  · intro i h1 h2
    have hi : i / 2 < (List.replicate n sl0).length := by simp [madeCells] at h1; simp; omega
    have hv := sflat_at (List.replicate n sl0) (i / 2) hi (i % 2) ((slL sl0)[i % 2]'(by rw [slL_len]; omega)) (by rw [List.getElem_replicate]; exact List.getElem?_eq_getElem _)
    rw [show i / 2 * 2 + i % 2 = i by omega] at hv
    have : ((List.replicate n sl0).flatMap slL)[i]? = some (((List.replicate n sl0).flatMap slL).toArray[i]'h2) := by simp
    rw [this] at hv
    have hm : (madeCells (slL sl0).toArray (n * 2))[i] = (slL sl0).toArray[i % (slL sl0).toArray.size]! := by simp [madeCells]
    rw [hm, Option.some.inj hv]
    have h2x : (slL sl0).toArray.size = 2 := rfl
    rw [h2x, getElem!_pos _ _ (by rw [h2x]; omega)]
    simp
theorem make23 {n : Nat} (h : n ≤ 9100) (W : World) : (Instr.makeSlice 23 (.int .i64 (n : Int)) (.int .i64 (n : Int))).run Tryz.prog W = .ok (.slice (some ⟨W.heap.size, 0, none⟩) n n) (W.alloc (.cells ((List.replicate n sl0).flatMap slL).toArray 25)) := by
  obtain ⟨i9, hi⟩ := Option.isSome_iff_exists.1 (show (Tryz.prog.info? 25).isSome = true by kernel_rfl)
  have hz0 : i9.zero = some (.agg (slL sl0).toArray) := by
    have h : (Tryz.prog.info? 25).map (·.zero) = some (some (.agg (slL sl0).toArray)) := by kernel_rfl
    rw [hi] at h; simpa using h
  have hz1 : i9.size = 2 := by
    have h : (Tryz.prog.info? 25).map (·.size) = some 2 := by kernel_rfl
    rw [hi] at h; simpa using h
  have hz2 : i9.bytes = 16 := by
    have h : (Tryz.prog.info? 25).map (·.bytes) = some 16 := by kernel_rfl
    rw [hi] at h; simpa using h
  have := run_makeSlice (P := Tryz.prog) (w := W) 23 25 i9 _ Tryz.underlying23 hi hz0 .i64 .i64 n n (by omega) (by omega) (by rw [hz1]; omega) (by rw [hz2]; omega) (by omega)
  rw [hz1, Int.toNat_natCast] at this
  rw [← made23]
  exact this
def lentSl (i : Nat) : Sl := ⟨777, i⟩
def slentL (n : Nat) : List Sl := [lentSl n, lentSl (n + 1), lentSl (n + 2)]
/-- What is there while the marks are set. -/
def slentK (l : List Sl) (k : Nat) : List Sl := l ++ ((slentL l.length).take k ++ List.replicate (3 - k) sl0)
theorem slentK_len (l : List Sl) {k : Nat} (hk : k ≤ 3) : (slentK l k).length = l.length + 3 := by
  unfold slentK
  rw [List.length_append, List.length_append, List.length_take, List.length_replicate]
  have : (slentL l.length).length = 3 := rfl
  rw [this]; omega
theorem slentK_set (l : List Sl) {k : Nat} (hk : k < 3) : (slentK l k).set (l.length + k) (lentSl (l.length + k)) = slentK l (k + 1) := by
  unfold slentK
  rw [List.set_append_right _ _ (by omega), Nat.add_sub_cancel_left]
  obtain rfl | rfl | rfl : k = 0 ∨ k = 1 ∨ k = 2 := by omega
  all_goals rfl
theorem slentK_all (l : List Sl) : slentK l 3 = l ++ slentL l.length := by unfold slentK; simp [slentL]
theorem sflat_drop (A C : List Sl) : ((A ++ C).flatMap slL).drop (A.length * 2) = C.flatMap slL := by
  rw [List.flatMap_append, List.drop_append_of_le_length (by rw [sflat_len]; exact Nat.le_refl _), List.drop_of_length_le (by rw [sflat_len]; exact Nat.le_refl _), List.nil_append]
theorem srep_drop (n : Nat) : ((List.replicate (n + 3) sl0).flatMap slL).drop (n * 2) = (List.replicate 3 sl0).flatMap slL := by
  have := sflat_drop (List.replicate n sl0) (List.replicate 3 sl0)
  rw [List.replicate_append_replicate, List.length_replicate] at this
  exact this
theorem copy23 {W : World} {g c1 : Nat} {a1 : Option Addr} {l : List Sl} (hg : W.heap[g]? = some (.cells ((List.replicate (l.length + 3) sl0).flatMap slL).toArray 25 (0, 0))) (ht : SlsAt W (.slice a1 l.length c1) l) :
    ∃ W', (Builtin.copy_ #[23, 23] 3 #[.slice (some ⟨g, 0, none⟩) (l.length + 3) (l.length + 3), .slice a1 l.length c1]).run Tryz.prog W = .ok (.int .i64 (l.length : Int)) W' ∧ SB2 W' g (slentK l 0) ∧ Turns (fun k => k = g) W W' := by
  have hsz : (Tryz.prog.info? 25).map (·.size) = some 2 := by kernel_rfl
  obtain ⟨a', c', e, h2⟩ := ht.ex
  cases e
  have hk0 : slentK l 0 = l ++ List.replicate 3 sl0 := rfl
  rcases h2 with h2 | ⟨b, o, rfl, hb, hc⟩
  · subst h2
    refine ⟨W, copy_zero W 23 23 3 25 g _ _ a1 c1 Tryz.underlying23 (by rw [hsz]; rfl), SB2.of_row hg (fun i hi j v hv => ?_), Turns.refl _ _⟩
    have h3 := sflat_at _ i hi j v hv
    rw [hk0, List.nil_append] at h3
    rw [List.getElem?_toArray]
    exact h3
  · have hr := run_copy_wide (P := Tryz.prog) W 23 23 3 25 g (l.length + 3) (l.length + 3) ⟨b, o, none⟩ l.length c1 _ 25 (l.flatMap slL) 2 Tryz.underlying23 hsz hg l.length (Nat.min_eq_left (by omega)) (sflat_len l)
      (fun j v hv => by
        rw [addr_add]
        have hjl : j < l.length * 2 := by have := (List.getElem?_eq_some_iff.1 hv).1; rw [sflat_len] at this; exact this
        have hi : j / 2 < l.length := by omega
        obtain ⟨u, hu⟩ : ∃ u, (slL l[j / 2])[j % 2]? = some u := ⟨(slL l[j / 2])[j % 2]'(by rw [slL_len]; omega), List.getElem?_eq_getElem _⟩
        have h1 := sflat_at l (j / 2) hi (j % 2) u hu
        rw [show j / 2 * 2 + j % 2 = j by omega, hv] at h1
        have h2 := hc (j / 2) hi (j % 2) u hu
        rw [show o + j / 2 * 2 + j % 2 = o + j by omega] at h2
        rw [h2, ← h1])
      (by simp only [List.size_toArray]; rw [sflat_len, sflat_len, List.length_replicate]; omega)
      (fun v hv => by
        obtain ⟨x, _, hx⟩ := List.mem_flatMap.1 hv
        exact slL_one x v hx)
    refine ⟨_, hr, ?_, Turns.setRow (X := fun k => k = g) _ rfl _⟩
    have hrow : (W.setRow g (l.flatMap slL ++ ((List.replicate (l.length + 3) sl0).flatMap slL).drop (l.flatMap slL).length).toArray).heap[g]? = some (.cells (l.flatMap slL ++ ((List.replicate (l.length + 3) sl0).flatMap slL).drop (l.flatMap slL).length).toArray 25 (0, 0)) := setRow_heap _ _ _ _ 25 _ hg
    refine SB2.of_row (cur := (l.flatMap slL ++ ((List.replicate (l.length + 3) sl0).flatMap slL).drop (l.flatMap slL).length).toArray) hrow (fun i hi j v hv => ?_)
    have e : l.flatMap slL ++ ((List.replicate (l.length + 3) sl0).flatMap slL).drop (l.flatMap slL).length = (slentK l 0).flatMap slL := by
      rw [hk0, List.flatMap_append]
      rw [sflat_len, srep_drop]
    rw [e, List.getElem?_toArray]
    exact sflat_at _ i hi j v hv

set_option maxRecDepth 100000 in
set_option maxHeartbeats 4000000 in
theorem sameSlots_yes (v u : Value) (qs : List Sl) (w : World) (hl : qs.length ≤ 9223372036854775807) (hS : SlsAt w v qs) (hR : SlsAt w u qs) :
    Calls Tryz.prog 32 #[v, u] w fun e w' => e = .returned (.bool true) ∧ Below w.heap.size w w' := by
  obtain ⟨a, cap, rfl, h2⟩ := hS.ex
  obtain ⟨a', cap', rfl, h3⟩ := hR.ex
  clear hS hR
  go_enter Tryz.func32, Tryz.ntmps32
  go_wp2_with fail
  go_loopw [5] (fun i wr => ∃ k : Nat, k ≤ qs.length ∧ i = .int .i64 k ∧ Below w.heap.size w wr) (fun i _ => qs.length - (intOf i).toNat)
  case atStart => exact ⟨0, by omega, rfl, Below.refl _ _⟩
  case round =>
    obtain ⟨k, hk, rfl, hb⟩ := hrel
    by_cases hlt : k < qs.length
    · rcases h2 with h2 | ⟨b, o, rfl, hbl, hc⟩
      · rw [h2] at hlt; simp at hlt
      · rcases h3 with h3 | ⟨b', o', rfl, hbl', hc'⟩
        · rw [h3] at hlt; simp at hlt
        · have hlt' : (k : Int) < qs.length := by omega
          have c0 : wr.cell? ⟨b, o + k * 2, none⟩ = some (.int .i64 qs[k].x) := (hb.cell hbl).trans (hc k hlt 0 _ rfl)
          have d0 : wr.cell? ⟨b', o' + k * 2, none⟩ = some (.int .i64 qs[k].x) := (hb.cell hbl').trans (hc' k hlt 0 _ rfl)
          have c1 : wr.cell? ⟨b, o + k * 2 + 1, none⟩ = some (.int .i64 qs[k].w) := (hb.cell hbl).trans (hc k hlt 1 _ rfl)
          have d1 : wr.cell? ⟨b', o' + k * 2 + 1, none⟩ = some (.int .i64 qs[k].w) := (hb.cell hbl').trans (hc' k hlt 1 _ rfl)
          clear hc hc'
          generalize qs[k].x = x0 at *
          generalize qs[k].w = x1 at *
          go_wp2_with fail
          go_quiet (fail)
          go_wp2_with fail
          go_roundw
          case rel => exact ⟨k + 1, by omega, by simp, below_drewN hb _⟩
          case measure => simp [intOf]; omega
    · have hge : ¬ (k : Int) < qs.length := by omega
      go_wp2_with fail
      go_ret
      exact ⟨rfl, hb⟩


theorem info_sl (x : Sl) : (Tryz.prog.info? 25).map (·.size) = some (slL x).toArray.size := by show _ = some 2; kernel_rfl
theorem slL_all2 (x : Sl) : (slL x).toArray.all (·.oneCell') = true := all_oneCell_toArray (slL_one x)
def r7_6 : Code := (Code.region 6 #[{ dst := some 20, op := Op.move (Operand.tmp 3), type := 23, pos := "pieces.go:22", after := #[], guard := none }, { dst := some 21, op := Op.move (Operand.tmp 4), type := 3, pos := "pieces.go:22", after := #[], guard := none }, { dst := some 22, op := Op.move (Operand.tmp 4), type := 3, pos := "pieces.go:22", after := #[], guard := none }, { dst := some 23, op := Op.build 25 #[(0, Operand.const (Value.int IntKind.i64 777)), (1, Operand.tmp 22)], type := 25, pos := "pieces.go:22", after := #[{ on := 2, ground := Ground.data }], guard := none }, { dst := some 24, op := Op.indexAddr 23 (Operand.tmp 20) (Operand.tmp 21), type := 0, pos := "pieces.go:22", after := #[{ on := 0, ground := Ground.data }, { on := 1, ground := Ground.data }, { on := 0, ground := Ground.phase }, { on := 1, ground := Ground.phase }, { on := 2, ground := Ground.phase }, { on := 3, ground := Ground.phase }], guard := none }, { dst := none, op := Op.store 25 (Operand.tmp 24) (Operand.tmp 23), type := 0, pos := "pieces.go:22", after := #[{ on := 4, ground := Ground.data }, { on := 3, ground := Ground.data }, { on := 0, ground := Ground.phase }, { on := 1, ground := Ground.phase }, { on := 2, ground := Ground.phase }, { on := 3, ground := Ground.phase }], guard := none }] false)
def fr7 (v0 v1 v2 v3 v4 v5 v6 v7 v8 v9 v10 v11 v12 v13 v14 v15 v16 v17 v18 v19 v20 v21 v22 v23 v24 v25 v26 v27 v28 : Value) : Act := { tmps := #[v0, v1, v2, v3, v4, v5, v6, v7, v8, v9, v10, v11, v12, v13, v14, v15, v16, v17, v18, v19, v20, v21, v22, v23, v24, v25, v26, v27, v28], defers := [] }
def o7_0 (ps : String) : Oper := { dst := some 20, op := Op.move (Operand.tmp 3), type := 23, pos := ps, after := #[], guard := none }
def o7_1 (ps : String) : Oper := { dst := some 21, op := Op.move (Operand.tmp 4), type := 3, pos := ps, after := #[], guard := none }
def o7_2 (ps : String) : Oper := { dst := some 22, op := Op.move (Operand.tmp 4), type := 3, pos := ps, after := #[], guard := none }
def o7_3 (ps : String) : Oper := { dst := some 23, op := Op.build 25 #[(0, Operand.const (Value.int IntKind.i64 777)), (1, Operand.tmp 22)], type := 25, pos := ps, after := #[{ on := 2, ground := Ground.data }], guard := none }
def o7_4 (ps : String) : Oper := { dst := some 24, op := Op.indexAddr 23 (Operand.tmp 20) (Operand.tmp 21), type := 0, pos := ps, after := #[{ on := 0, ground := Ground.data }, { on := 1, ground := Ground.data }, { on := 0, ground := Ground.phase }, { on := 1, ground := Ground.phase }, { on := 2, ground := Ground.phase }, { on := 3, ground := Ground.phase }], guard := none }
def o7_5 (ps : String) : Oper := { dst := none, op := Op.store 25 (Operand.tmp 24) (Operand.tmp 23), type := 0, pos := ps, after := #[{ on := 4, ground := Ground.data }, { on := 3, ground := Ground.data }, { on := 0, ground := Ground.phase }, { on := 1, ground := Ground.phase }, { on := 2, ground := Ground.phase }, { on := 3, ground := Ground.phase }], guard := none }
def o7 (ps : String) : Array Oper := #[o7_0 ps, o7_1 ps, o7_2 ps, o7_3 ps, o7_4 ps, o7_5 ps]

set_option maxRecDepth 100000 in
set_option maxHeartbeats 2000000 in
theorem slent_r6 (Q : Exit → Act → World → Prop) (id : Nat) (ps : String) {v0 v1 v2 v5 v6 v7 v8 v9 v10 v11 v12 v13 v14 v15 v16 v17 v18 v19 v20 v21 v22 v23 v24 v25 v26 v27 v28 : Value} (g n nn : Nat) (w : World)
    (hn : (nn : Int) < n)
    (ht : w.there g (nn * 2) 2)
    (hq : Q .normal (fr7 v0 v1 v2 (.slice (some ⟨g, 0, none⟩) n n) (.int .i64 ((nn : Nat))) v5 v6 v7 v8 v9 v10 v11 v12 v13 v14 v15 v16 v17 v18 v19 (.slice (some ⟨g, 0, none⟩) n n) (.int .i64 ((nn : Nat))) (.int .i64 ((nn : Nat))) (.agg #[.int .i64 777, .int .i64 (nn : Nat)]) (.pointer (some ⟨g, nn * 2, none⟩)) v25 v26 v27 v28) (w.setCells g (nn * 2) (slL ⟨777, (nn : Nat)⟩))) :
    (Code.region id (o7 ps) false).wp Tryz.prog Q (fr7 v0 v1 v2 (.slice (some ⟨g, 0, none⟩) n n) (.int .i64 ((nn : Nat))) v5 v6 v7 v8 v9 v10 v11 v12 v13 v14 v15 v16 v17 v18 v19 v20 v21 v22 v23 v24 v25 v26 v27 v28) w := by
  refine wp_region_list ?_
  change wpList _ _ _ (List.drop 0 (o7 ps).toList) _ _
  refine pures_i 0 3 ?fa1 ?hh1 ?_
  case fa1 => exact (fr7 v0 v1 v2 (.slice (some ⟨g, 0, none⟩) n n) (.int .i64 ((nn : Nat))) v5 v6 v7 v8 v9 v10 v11 v12 v13 v14 v15 v16 v17 v18 v19 (.slice (some ⟨g, 0, none⟩) n n) (.int .i64 ((nn : Nat))) (.int .i64 ((nn : Nat))) v23 v24 v25 v26 v27 v28)
  case hh1 => kernel_rfl
  refine take_i 3 (oi := o7_3 ps) (v := (.agg #[.int .i64 777, .int .i64 (nn : Nat)])) (fr7 v0 v1 v2 (.slice (some ⟨g, 0, none⟩) n n) (.int .i64 ((nn : Nat))) v5 v6 v7 v8 v9 v10 v11 v12 v13 v14 v15 v16 v17 v18 v19 (.slice (some ⟨g, 0, none⟩) n n) (.int .i64 ((nn : Nat))) (.int .i64 ((nn : Nat))) (.agg #[.int .i64 777, .int .i64 (nn : Nat)]) v24 v25 v26 v27 v28) (by kernel_rfl) (by kernel_rfl) (by kernel_rfl) (by kernel_rfl) ?_
  refine take_i 4 (oi := o7_4 ps) (v := (.pointer (some ⟨g, nn * 2, none⟩))) (fr7 v0 v1 v2 (.slice (some ⟨g, 0, none⟩) n n) (.int .i64 ((nn : Nat))) v5 v6 v7 v8 v9 v10 v11 v12 v13 v14 v15 v16 v17 v18 v19 (.slice (some ⟨g, 0, none⟩) n n) (.int .i64 ((nn : Nat))) (.int .i64 ((nn : Nat))) (.agg #[.int .i64 777, .int .i64 (nn : Nat)]) (.pointer (some ⟨g, nn * 2, none⟩)) v25 v26 v27 v28) (by kernel_rfl) (by kernel_rfl) (by unfold fr7 o7_4; go_simp) (by kernel_rfl) ?_
  refine want_i 5 (oi := o7_5 ps) (by kernel_rfl) (by kernel_rfl) fun K hK => ?_
  refine wp_store_mid 25 (.tmp 24) (.tmp 23) rfl g (nn * 2) (slL ⟨777, (nn : Nat)⟩).toArray rfl rfl ht (info_sl ⟨777, (nn : Nat)⟩) (slL_all2 ⟨777, (nn : Nat)⟩) ?_
  refine hK _ _ (cast_l (fr7 v0 v1 v2 (.slice (some ⟨g, 0, none⟩) n n) (.int .i64 ((nn : Nat))) v5 v6 v7 v8 v9 v10 v11 v12 v13 v14 v15 v16 v17 v18 v19 (.slice (some ⟨g, 0, none⟩) n n) (.int .i64 ((nn : Nat))) (.int .i64 ((nn : Nat))) (.agg #[.int .i64 777, .int .i64 (nn : Nat)]) (.pointer (some ⟨g, nn * 2, none⟩)) v25 v26 v27 v28) (by kernel_rfl) ?_)
  clear hK K
  exact end_i 6 (by kernel_rfl) hq
set_option maxRecDepth 100000 in
set_option maxHeartbeats 700000 in
theorem slent_any (v1 : Value) (l : List Sl) (hl : l.length ≤ 9000) (w : World) (t1 : SlsAt w v1 l) :
    Calls Tryz.prog 7 #[v1] w fun e w' => e = .returned (.slice (some ⟨w.heap.size, 0, none⟩) l.length (l.length + 3)) ∧ Below w.heap.size w w' ∧ SB2 w' w.heap.size (l ++ slentL l.length) := by
  obtain ⟨a1, c1, rfl, -⟩ := t1.ex
  have hmk : (Instr.makeSlice 23 (.int .i64 ((l.length : Int) + 3)) (.int .i64 ((l.length : Int) + 3))).run Tryz.prog w = .ok (.slice (some ⟨w.heap.size, 0, none⟩) (l.length + 3) (l.length + 3)) (w.alloc (.cells ((List.replicate (l.length + 3) sl0).flatMap slL).toArray 25)) := by
    have := make23 (n := l.length + 3) (by omega) w
    rwa [show (((l.length + 3 : Nat)) : Int) = (l.length : Int) + 3 by omega] at this
  have hb1 : Below w.heap.size w (w.alloc (.cells ((List.replicate (l.length + 3) sl0).flatMap slL).toArray 25)) := (Below.refl _ _).alloc (Nat.le_refl _) _
  obtain ⟨w2, hcp, hS2, hT2⟩ := copy23 (W := w.alloc (.cells ((List.replicate (l.length + 3) sl0).flatMap slL).toArray 25)) (World.alloc_heap_new w _) (t1.below hb1 (Nat.le_refl _))
  have hb2 : Below w.heap.size w w2 := hb1.trans (hT2.below hb1.size (fun k hk => by omega))
  generalize w.alloc (.cells ((List.replicate (l.length + 3) sl0).flatMap slL).toArray 25) = w1 at *
  have hS2h : Hid (SB2 w2 w.heap.size (slentK l 0)) := hS2
  clear hS2 hT2 t1
  have hbs : Hid (∀ (W : World) (o : Nat) (vs : List Value), Below w.heap.size w W → Below w.heap.size w (W.setCells w.heap.size o vs)) := fun W o vs h => h.trans ((turns_setCells (X := fun k => k = w.heap.size) rfl vs o W).below h.size (fun k hk => by omega))
  obtain ⟨g, hg⟩ : ∃ g, w.heap.size = g := ⟨_, rfl⟩
  rw [hg] at hmk hcp hb1 hb2 hS2h hbs ⊢
  clear hg
  have hset : Hid (∀ (W : World) (k : Nat), k < 3 → SB2 W g (slentK l k) → SB2 (W.setCells g ((l.length + k) * 2) (slL (lentSl (l.length + k)))) g (slentK l (k + 1))) := fun W k hk h => by
    have := h.set (p := l.length + k) (by rw [slentK_len l (by omega)]; omega) (lentSl (l.length + k))
    rw [slentK_set l hk] at this
    exact this
  have hth : Hid (∀ (W : World) (k : Nat), k < 3 → SB2 W g (slentK l k) → W.there g ((l.length + k) * 2) 2) := fun W k hk h => h.there (by rw [slentK_len l (by omega)]; omega)
  have hfin : Hid (slentK l 3 = l ++ slentL l.length) := slentK_all l
  go_enter Tryz.func7, Tryz.ntmps7
  go_wp2_with (at_builtin; refine Lib.wpList_copy_run _ rfl _ _ 23 23 rfl _ _ rfl rfl hcp ?_)
  clear hcp hmk
  go_loopw [4] (fun i wr => ∃ k : Nat, k ≤ 3 ∧ i = .int .i64 ((l.length + k : Nat) : Int) ∧ Below g w wr ∧ Hid (SB2 wr g (slentK l k))) (fun i _ => l.length + 3 - (intOf i).toNat)
  case atStart => exact ⟨0, by omega, rfl, hb2, hS2h⟩
  case round =>
    obtain ⟨k, hk, rfl, hbl, hS⟩ := hrel
    change Code.wp Tryz.prog (((Code.region 4 #[{ dst := some 14, op := Op.move (Operand.tmp 4), type := 3, pos := "pieces.go:21", after := #[], guard := none }, { dst := some 15, op := Op.move (Operand.tmp 3), type := 23, pos := "pieces.go:21", after := #[], guard := none }, { dst := some 16, op := Op.call { callee := Callee.builtin Builtin.len, args := #[Operand.tmp 15], argTypes := #[23] }, type := 3, pos := "pieces.go:21", after := #[{ on := 1, ground := Ground.data }], guard := none }, { dst := some 17, op := Op.binOp BinOp.lss 3 (Operand.tmp 14) (Operand.tmp 16) 3, type := 4, pos := "pieces.go:21", after := #[{ on := 0, ground := Ground.data }, { on := 2, ground := Ground.data }], guard := none }] false).seq (Code.cond (Operand.tmp 17) Code.skip (Code.exit 0))).seq ((Code.block 1 r7_6).seq (Code.region 5 #[{ dst := some 18, op := Op.move (Operand.tmp 4), type := 3, pos := "pieces.go:21", after := #[], guard := none }, { dst := some 19, op := Op.binOp BinOp.add 3 (Operand.tmp 18) (Operand.const (Value.int IntKind.i64 1)) 3, type := 3, pos := "pieces.go:21", after := #[{ on := 0, ground := Ground.data }], guard := none }, { dst := some 4, op := Op.assign (Operand.tmp 19), type := 3, pos := "pieces.go:21", after := #[{ on := 1, ground := Ground.data }, { on := 0, ground := Ground.phase }, { on := 1, ground := Ground.phase }], guard := none }] false))) _ _ _
    by_cases hlt : k < 3
    · have hkl : ((l.length + k : Nat) : Int) < (l.length : Int) + 3 := by omega
      have hs2 : Hid (SB2 (wr.setCells g ((l.length + k) * 2) (slL (lentSl (l.length + k)))) g (slentK l (k + 1))) := hset.out wr k hlt hS.out
      have ht2 : Hid (wr.there g ((l.length + k) * 2) 2) := hth.out wr k hlt hS.out
      have hb3 : Hid (Below g w (wr.setCells g ((l.length + k) * 2) (slL (lentSl (l.length + k))))) := hbs.out _ _ _ hbl
      have hnx : Hid (((l.length + k : Nat) : Int) + 1 = ((l.length + (k + 1) : Nat) : Int)) := by show _ = _; omega
      have hnb : ((l.length + k : Nat) : Int) ≤ 9100 := by omega
      have hlt2 : l.length + k < l.length + 3 := by omega
      have hme : Hid (l.length + 3 - (l.length + (k + 1)) < l.length + 3 - (l.length + k)) := by show _ < _; omega
      clear hset hth hbs hS hfin
      unfold lentSl at hs2 hb3
      generalize hNN : l.length + k = nn at *
      go_wp2_with fail
      unfold r7_6
      refine slent_r6 _ _ _ g _ nn _ (by simpa using hkl) ht2.out ?_
      unfold fr7
      replace hb3 : Hid _ := hb3
      generalize wr.setCells g (nn * 2) (slL ⟨777, nn⟩) = wn at *
      go_wp2_with fail
      go_roundw
      case rel => exact ⟨k + 1, by omega, by rw [← hnx.out], hb3.out, hs2⟩
      case measure => simp [intOf]; omega
    · obtain rfl : k = 3 := by omega
      have hkl : ¬ ((l.length + 3 : Nat) : Int) < (l.length : Int) + 3 := by omega
      have hSf : Hid (SB2 wr g (l ++ slentL l.length)) := by
        have h := hS.out
        rw [hfin.out] at h
        exact h
      clear hS hset hth hbs hfin
      generalize ((l.length + 3 : Nat) : Int) = nn at *
      go_wp2_with fail
      go_ret
      exact ⟨rfl, hbl, hSf.out⟩

def fr16 (v0 v1 v2 v3 v4 v5 v6 v7 v8 v9 v10 v11 v12 v13 v14 v15 v16 v17 v18 v19 v20 v21 v22 : Value) : Act := { tmps := #[v0, v1, v2, v3, v4, v5, v6, v7, v8, v9, v10, v11, v12, v13, v14, v15, v16, v17, v18, v19, v20, v21, v22], defers := [] }
def ops16_1 (ps : String) : Array Oper := #[{ dst := some 5, op := Op.move (Operand.tmp 0), type := 23, pos := ps, after := #[], guard := none }, { dst := some 6, op := Op.call { callee := Callee.builtin Builtin.len, args := #[Operand.tmp 5], argTypes := #[23] }, type := 3, pos := ps, after := #[{ on := 0, ground := Ground.data }], guard := none }, { dst := some 7, op := Op.move (Operand.tmp 1), type := 23, pos := ps, after := #[], guard := none }, { dst := some 8, op := Op.call { callee := Callee.builtin Builtin.len, args := #[Operand.tmp 7], argTypes := #[23] }, type := 3, pos := ps, after := #[{ on := 2, ground := Ground.data }], guard := none }, { dst := some 9, op := Op.binOp BinOp.eql 3 (Operand.tmp 6) (Operand.tmp 8) 3, type := 4, pos := ps, after := #[{ on := 1, ground := Ground.data }, { on := 3, ground := Ground.data }], guard := none }, { dst := some 10, op := Op.move (Operand.tmp 9), type := 4, pos := ps, after := #[{ on := 4, ground := Ground.data }], guard := none }, { dst := some 11, op := Op.move (Operand.tmp 0), type := 23, pos := ps, after := #[{ on := 5, ground := Ground.guard }], guard := some (5, true) }, { dst := some 12, op := Op.move (Operand.tmp 0), type := 23, pos := ps, after := #[{ on := 5, ground := Ground.guard }], guard := some (5, true) }, { dst := some 13, op := Op.call { callee := Callee.builtin Builtin.cap, args := #[Operand.tmp 12], argTypes := #[23] }, type := 3, pos := ps, after := #[{ on := 7, ground := Ground.data }, { on := 5, ground := Ground.guard }], guard := some (5, true) }, { dst := some 14, op := Op.slice 23 (Operand.tmp 11) none (some (Operand.tmp 13)) none, type := 23, pos := ps, after := #[{ on := 6, ground := Ground.data }, { on := 8, ground := Ground.data }, { on := 5, ground := Ground.guard }], guard := some (5, true) }, { dst := some 15, op := Op.move (Operand.tmp 1), type := 23, pos := ps, after := #[{ on := 5, ground := Ground.guard }], guard := some (5, true) }, { dst := some 16, op := Op.call { callee := Callee.value (Operand.func 7), args := #[Operand.tmp 15], argTypes := #[23] }, type := 23, pos := ps, after := #[{ on := 10, ground := Ground.data }, { on := 5, ground := Ground.chain }, { on := 5, ground := Ground.guard }], guard := some (5, true) }, { dst := some 17, op := Op.move (Operand.tmp 1), type := 23, pos := ps, after := #[{ on := 5, ground := Ground.guard }], guard := some (5, true) }, { dst := some 18, op := Op.call { callee := Callee.builtin Builtin.len, args := #[Operand.tmp 17], argTypes := #[23] }, type := 3, pos := ps, after := #[{ on := 12, ground := Ground.data }, { on := 5, ground := Ground.guard }], guard := some (5, true) }, { dst := some 19, op := Op.binOp BinOp.add 3 (Operand.tmp 18) (Operand.const (Value.int IntKind.i64 3)) 3, type := 3, pos := ps, after := #[{ on := 13, ground := Ground.data }, { on := 5, ground := Ground.guard }], guard := some (5, true) }, { dst := some 20, op := Op.slice 23 (Operand.tmp 16) none (some (Operand.tmp 19)) none, type := 23, pos := ps, after := #[{ on := 11, ground := Ground.data }, { on := 14, ground := Ground.data }, { on := 5, ground := Ground.guard }], guard := some (5, true) }, { dst := some 21, op := Op.call { callee := Callee.value (Operand.func 32), args := #[Operand.tmp 14, Operand.tmp 20], argTypes := #[23, 23] }, type := 4, pos := ps, after := #[{ on := 9, ground := Ground.data }, { on := 15, ground := Ground.data }, { on := 11, ground := Ground.chain }, { on := 5, ground := Ground.guard }], guard := some (5, true) }, { dst := some 22, op := Op.pick (Operand.tmp 10) (Operand.tmp 21) (Operand.const (Value.bool false)), type := 4, pos := ps, after := #[{ on := 5, ground := Ground.data }, { on := 16, ground := Ground.data }], guard := none }, { dst := some 4, op := Op.assign (Operand.tmp 22), type := 4, pos := ps, after := #[{ on := 17, ground := Ground.data }, { on := 16, ground := Ground.chain }, { on := 0, ground := Ground.phase }, { on := 1, ground := Ground.phase }, { on := 2, ground := Ground.phase }, { on := 3, ground := Ground.phase }, { on := 4, ground := Ground.phase }, { on := 5, ground := Ground.phase }, { on := 6, ground := Ground.phase }, { on := 7, ground := Ground.phase }, { on := 8, ground := Ground.phase }, { on := 9, ground := Ground.phase }, { on := 10, ground := Ground.phase }, { on := 11, ground := Ground.phase }, { on := 12, ground := Ground.phase }, { on := 13, ground := Ground.phase }, { on := 14, ground := Ground.phase }, { on := 15, ground := Ground.phase }, { on := 16, ground := Ground.phase }, { on := 17, ground := Ground.phase }], guard := none }]

set_option maxRecDepth 100000 in
set_option maxHeartbeats 4000000 in
theorem skept_region (Q : Exit → Act → World → Prop) (hQ : ∀ c x (n : Nat) v w, Q (.panic c) (x.put (some n) v) w → Q (.panic c) x w) (id : Nat) (ps : String) {v2 v3 v4 v5 v6 v7 v8 v9 v10 v11 v12 v13 v14 v15 v16 v17 v18 v19 v20 v21 v22 : Value}
    (g n c c1 : Nat) (a1 : Option Addr) (h3 : (n : Int) + 3 = (c : Nat)) (hn : n ≤ 9000) (hcn : n ≤ c) (hw : IntKind.i64.wrap (c : Int) = (c : Int)) (w0 : World) (P : Nat → World → Prop)
    (hL : ∀ W, Below w0.heap.size w0 W → Calls Tryz.prog 7 #[.slice a1 n c1] W fun e w' => ∃ m, e = .returned (.slice (some ⟨m, 0, none⟩) n c) ∧ Below w0.heap.size w0 w' ∧ P m w')
    (hA : ∀ W m, Below w0.heap.size w0 W → P m W → Calls Tryz.prog 32 #[.slice (some ⟨g, 0, none⟩) c c, .slice (some ⟨m, 0, none⟩) c c] W fun e w' => e = .returned (.bool true) ∧ Below w0.heap.size w0 w')
    (hq : ∀ (m : Nat) (w' : World), Below w0.heap.size w0 w' → Q .normal (fr16 (.slice (some ⟨g, 0, none⟩) n c) (.slice a1 n c1) v2 v3 (.bool true) (.slice (some ⟨g, 0, none⟩) n c) (.int .i64 (n : Nat)) (.slice a1 n c1) (.int .i64 (n : Nat)) (.bool true) (.bool true) (.slice (some ⟨g, 0, none⟩) n c) (.slice (some ⟨g, 0, none⟩) n c) (.int .i64 (c : Nat)) (.slice (some ⟨g, 0, none⟩) c c) (.slice a1 n c1) (.slice (some ⟨m, 0, none⟩) n c) (.slice a1 n c1) (.int .i64 (n : Nat)) (.int .i64 (c : Nat)) (.slice (some ⟨m, 0, none⟩) c c) (.bool true) (.bool true)) w') :
    (Code.region id (ops16_1 ps) true).wp Tryz.prog Q (fr16 (.slice (some ⟨g, 0, none⟩) n c) (.slice a1 n c1) v2 v3 v4 v5 v6 v7 v8 v9 v10 v11 v12 v13 v14 v15 v16 v17 v18 v19 v20 v21 v22) w0 := by
  refine wp_region_held (S := fun W => Below w0.heap.size w0 W) (by kernel_rfl) ?_
  change wpAnyH _ _ _ _ _ 19 _ _ (World.drew w0)
  have C0 : Below w0.heap.size w0 w0.drew := ⟨rfl, rfl, rfl, Nat.le_refl _, fun _ _ => rfl⟩
  generalize w0.drew = wd at C0 ⊢
  refine take_h (i := 0) (oi := { dst := some 5, op := Op.move (Operand.tmp 0), type := 23, pos := ps, after := #[], guard := none }) (fuel := 18) (v := (.slice (some ⟨g, 0, none⟩) n c)) (fr16 (.slice (some ⟨g, 0, none⟩) n c) (.slice a1 n c1) v2 v3 v4 (.slice (some ⟨g, 0, none⟩) n c) v6 v7 v8 v9 v10 v11 v12 v13 v14 v15 v16 v17 v18 v19 v20 v21 v22) (by kernel_rfl) (by kernel_rfl) (by kernel_rfl) (by kernel_rfl) (fun c x w => hQ c x _ _ w) (by kernel_rfl) (fun w _ => by kernel_rfl) (by kernel_rfl) C0 ?_
  refine take_h (i := 1) (oi := { dst := some 6, op := Op.call { callee := Callee.builtin Builtin.len, args := #[Operand.tmp 5], argTypes := #[23] }, type := 3, pos := ps, after := #[{ on := 0, ground := Ground.data }], guard := none }) (fuel := 17) (v := (.int .i64 (n : Nat))) (fr16 (.slice (some ⟨g, 0, none⟩) n c) (.slice a1 n c1) v2 v3 v4 (.slice (some ⟨g, 0, none⟩) n c) (.int .i64 (n : Nat)) v7 v8 v9 v10 v11 v12 v13 v14 v15 v16 v17 v18 v19 v20 v21 v22) (by kernel_rfl) (by kernel_rfl) (by kernel_rfl) (by kernel_rfl) (fun c x w => hQ c x _ _ w) (by kernel_rfl) (fun w hS => by have h1 := h3; have h2 := hn; have h4 := hcn; have h5 := hw; unfold fr16; go_simp) (by kernel_rfl) C0 ?_
  refine take_h (i := 2) (oi := { dst := some 7, op := Op.move (Operand.tmp 1), type := 23, pos := ps, after := #[], guard := none }) (fuel := 16) (v := (.slice a1 n c1)) (fr16 (.slice (some ⟨g, 0, none⟩) n c) (.slice a1 n c1) v2 v3 v4 (.slice (some ⟨g, 0, none⟩) n c) (.int .i64 (n : Nat)) (.slice a1 n c1) v8 v9 v10 v11 v12 v13 v14 v15 v16 v17 v18 v19 v20 v21 v22) (by kernel_rfl) (by kernel_rfl) (by kernel_rfl) (by kernel_rfl) (fun c x w => hQ c x _ _ w) (by kernel_rfl) (fun w _ => by kernel_rfl) (by kernel_rfl) C0 ?_
  refine take_h (i := 3) (oi := { dst := some 8, op := Op.call { callee := Callee.builtin Builtin.len, args := #[Operand.tmp 7], argTypes := #[23] }, type := 3, pos := ps, after := #[{ on := 2, ground := Ground.data }], guard := none }) (fuel := 15) (v := (.int .i64 (n : Nat))) (fr16 (.slice (some ⟨g, 0, none⟩) n c) (.slice a1 n c1) v2 v3 v4 (.slice (some ⟨g, 0, none⟩) n c) (.int .i64 (n : Nat)) (.slice a1 n c1) (.int .i64 (n : Nat)) v9 v10 v11 v12 v13 v14 v15 v16 v17 v18 v19 v20 v21 v22) (by kernel_rfl) (by kernel_rfl) (by kernel_rfl) (by kernel_rfl) (fun c x w => hQ c x _ _ w) (by kernel_rfl) (fun w hS => by have h1 := h3; have h2 := hn; have h4 := hcn; have h5 := hw; unfold fr16; go_simp) (by kernel_rfl) C0 ?_
  refine take_h (i := 4) (oi := { dst := some 9, op := Op.binOp BinOp.eql 3 (Operand.tmp 6) (Operand.tmp 8) 3, type := 4, pos := ps, after := #[{ on := 1, ground := Ground.data }, { on := 3, ground := Ground.data }], guard := none }) (fuel := 14) (v := (.bool true)) (fr16 (.slice (some ⟨g, 0, none⟩) n c) (.slice a1 n c1) v2 v3 v4 (.slice (some ⟨g, 0, none⟩) n c) (.int .i64 (n : Nat)) (.slice a1 n c1) (.int .i64 (n : Nat)) (.bool true) v10 v11 v12 v13 v14 v15 v16 v17 v18 v19 v20 v21 v22) (by kernel_rfl) (by kernel_rfl) (by kernel_rfl) (by kernel_rfl) (fun c x w => hQ c x _ _ w) (by kernel_rfl) (fun w hS => by have h1 := h3; have h2 := hn; have h4 := hcn; have h5 := hw; unfold fr16; go_simp) (by kernel_rfl) C0 ?_
  refine take_h (i := 5) (oi := { dst := some 10, op := Op.move (Operand.tmp 9), type := 4, pos := ps, after := #[{ on := 4, ground := Ground.data }], guard := none }) (fuel := 13) (v := (.bool true)) (fr16 (.slice (some ⟨g, 0, none⟩) n c) (.slice a1 n c1) v2 v3 v4 (.slice (some ⟨g, 0, none⟩) n c) (.int .i64 (n : Nat)) (.slice a1 n c1) (.int .i64 (n : Nat)) (.bool true) (.bool true) v11 v12 v13 v14 v15 v16 v17 v18 v19 v20 v21 v22) (by kernel_rfl) (by kernel_rfl) (by kernel_rfl) (by kernel_rfl) (fun c x w => hQ c x _ _ w) (by kernel_rfl) (fun w _ => by kernel_rfl) (by kernel_rfl) C0 ?_
  refine take_h (i := 6) (oi := { dst := some 11, op := Op.move (Operand.tmp 0), type := 23, pos := ps, after := #[{ on := 5, ground := Ground.guard }], guard := some (5, true) }) (fuel := 12) (v := (.slice (some ⟨g, 0, none⟩) n c)) (fr16 (.slice (some ⟨g, 0, none⟩) n c) (.slice a1 n c1) v2 v3 v4 (.slice (some ⟨g, 0, none⟩) n c) (.int .i64 (n : Nat)) (.slice a1 n c1) (.int .i64 (n : Nat)) (.bool true) (.bool true) (.slice (some ⟨g, 0, none⟩) n c) v12 v13 v14 v15 v16 v17 v18 v19 v20 v21 v22) (by kernel_rfl) (by kernel_rfl) (by kernel_rfl) (by kernel_rfl) (fun c x w => hQ c x _ _ w) (by kernel_rfl) (fun w _ => by kernel_rfl) (by kernel_rfl) C0 ?_
  refine take_h (i := 7) (oi := { dst := some 12, op := Op.move (Operand.tmp 0), type := 23, pos := ps, after := #[{ on := 5, ground := Ground.guard }], guard := some (5, true) }) (fuel := 11) (v := (.slice (some ⟨g, 0, none⟩) n c)) (fr16 (.slice (some ⟨g, 0, none⟩) n c) (.slice a1 n c1) v2 v3 v4 (.slice (some ⟨g, 0, none⟩) n c) (.int .i64 (n : Nat)) (.slice a1 n c1) (.int .i64 (n : Nat)) (.bool true) (.bool true) (.slice (some ⟨g, 0, none⟩) n c) (.slice (some ⟨g, 0, none⟩) n c) v13 v14 v15 v16 v17 v18 v19 v20 v21 v22) (by kernel_rfl) (by kernel_rfl) (by kernel_rfl) (by kernel_rfl) (fun c x w => hQ c x _ _ w) (by kernel_rfl) (fun w _ => by kernel_rfl) (by kernel_rfl) C0 ?_
  refine take_h (i := 8) (oi := { dst := some 13, op := Op.call { callee := Callee.builtin Builtin.cap, args := #[Operand.tmp 12], argTypes := #[23] }, type := 3, pos := ps, after := #[{ on := 7, ground := Ground.data }, { on := 5, ground := Ground.guard }], guard := some (5, true) }) (fuel := 10) (v := (.int .i64 (c : Nat))) (fr16 (.slice (some ⟨g, 0, none⟩) n c) (.slice a1 n c1) v2 v3 v4 (.slice (some ⟨g, 0, none⟩) n c) (.int .i64 (n : Nat)) (.slice a1 n c1) (.int .i64 (n : Nat)) (.bool true) (.bool true) (.slice (some ⟨g, 0, none⟩) n c) (.slice (some ⟨g, 0, none⟩) n c) (.int .i64 (c : Nat)) v14 v15 v16 v17 v18 v19 v20 v21 v22) (by kernel_rfl) (by kernel_rfl) (by kernel_rfl) (by kernel_rfl) (fun c x w => hQ c x _ _ w) (by kernel_rfl) (fun w hS => by have h1 := h3; have h2 := hn; have h4 := hcn; have h5 := hw; unfold fr16; go_simp) (by kernel_rfl) C0 ?_
  refine take_h (i := 9) (oi := { dst := some 14, op := Op.slice 23 (Operand.tmp 11) none (some (Operand.tmp 13)) none, type := 23, pos := ps, after := #[{ on := 6, ground := Ground.data }, { on := 8, ground := Ground.data }, { on := 5, ground := Ground.guard }], guard := some (5, true) }) (fuel := 9) (v := (.slice (some ⟨g, 0, none⟩) c c)) (fr16 (.slice (some ⟨g, 0, none⟩) n c) (.slice a1 n c1) v2 v3 v4 (.slice (some ⟨g, 0, none⟩) n c) (.int .i64 (n : Nat)) (.slice a1 n c1) (.int .i64 (n : Nat)) (.bool true) (.bool true) (.slice (some ⟨g, 0, none⟩) n c) (.slice (some ⟨g, 0, none⟩) n c) (.int .i64 (c : Nat)) (.slice (some ⟨g, 0, none⟩) c c) v15 v16 v17 v18 v19 v20 v21 v22) (by kernel_rfl) (by kernel_rfl) (by kernel_rfl) (by kernel_rfl) (fun c x w => hQ c x _ _ w) (by kernel_rfl) (fun w hS => by have h1 := h3; have h2 := hn; have h4 := hcn; have h5 := hw; unfold fr16; go_simp) (by kernel_rfl) C0 ?_
  refine take_h (i := 10) (oi := { dst := some 15, op := Op.move (Operand.tmp 1), type := 23, pos := ps, after := #[{ on := 5, ground := Ground.guard }], guard := some (5, true) }) (fuel := 8) (v := (.slice a1 n c1)) (fr16 (.slice (some ⟨g, 0, none⟩) n c) (.slice a1 n c1) v2 v3 v4 (.slice (some ⟨g, 0, none⟩) n c) (.int .i64 (n : Nat)) (.slice a1 n c1) (.int .i64 (n : Nat)) (.bool true) (.bool true) (.slice (some ⟨g, 0, none⟩) n c) (.slice (some ⟨g, 0, none⟩) n c) (.int .i64 (c : Nat)) (.slice (some ⟨g, 0, none⟩) c c) (.slice a1 n c1) v16 v17 v18 v19 v20 v21 v22) (by kernel_rfl) (by kernel_rfl) (by kernel_rfl) (by kernel_rfl) (fun c x w => hQ c x _ _ w) (by kernel_rfl) (fun w _ => by kernel_rfl) (by kernel_rfl) C0 ?_
  refine take_h (i := 12) (oi := { dst := some 17, op := Op.move (Operand.tmp 1), type := 23, pos := ps, after := #[{ on := 5, ground := Ground.guard }], guard := some (5, true) }) (fuel := 7) (v := (.slice a1 n c1)) (fr16 (.slice (some ⟨g, 0, none⟩) n c) (.slice a1 n c1) v2 v3 v4 (.slice (some ⟨g, 0, none⟩) n c) (.int .i64 (n : Nat)) (.slice a1 n c1) (.int .i64 (n : Nat)) (.bool true) (.bool true) (.slice (some ⟨g, 0, none⟩) n c) (.slice (some ⟨g, 0, none⟩) n c) (.int .i64 (c : Nat)) (.slice (some ⟨g, 0, none⟩) c c) (.slice a1 n c1) v16 (.slice a1 n c1) v18 v19 v20 v21 v22) (by kernel_rfl) (by kernel_rfl) (by kernel_rfl) (by kernel_rfl) (fun c x w => hQ c x _ _ w) (by kernel_rfl) (fun w _ => by kernel_rfl) (by kernel_rfl) C0 ?_
  refine take_h (i := 13) (oi := { dst := some 18, op := Op.call { callee := Callee.builtin Builtin.len, args := #[Operand.tmp 17], argTypes := #[23] }, type := 3, pos := ps, after := #[{ on := 12, ground := Ground.data }, { on := 5, ground := Ground.guard }], guard := some (5, true) }) (fuel := 6) (v := (.int .i64 (n : Nat))) (fr16 (.slice (some ⟨g, 0, none⟩) n c) (.slice a1 n c1) v2 v3 v4 (.slice (some ⟨g, 0, none⟩) n c) (.int .i64 (n : Nat)) (.slice a1 n c1) (.int .i64 (n : Nat)) (.bool true) (.bool true) (.slice (some ⟨g, 0, none⟩) n c) (.slice (some ⟨g, 0, none⟩) n c) (.int .i64 (c : Nat)) (.slice (some ⟨g, 0, none⟩) c c) (.slice a1 n c1) v16 (.slice a1 n c1) (.int .i64 (n : Nat)) v19 v20 v21 v22) (by kernel_rfl) (by kernel_rfl) (by kernel_rfl) (by kernel_rfl) (fun c x w => hQ c x _ _ w) (by kernel_rfl) (fun w hS => by have h1 := h3; have h2 := hn; have h4 := hcn; have h5 := hw; unfold fr16; go_simp) (by kernel_rfl) C0 ?_
  refine take_h (i := 14) (oi := { dst := some 19, op := Op.binOp BinOp.add 3 (Operand.tmp 18) (Operand.const (Value.int IntKind.i64 3)) 3, type := 3, pos := ps, after := #[{ on := 13, ground := Ground.data }, { on := 5, ground := Ground.guard }], guard := some (5, true) }) (fuel := 5) (v := (.int .i64 (c : Nat))) (fr16 (.slice (some ⟨g, 0, none⟩) n c) (.slice a1 n c1) v2 v3 v4 (.slice (some ⟨g, 0, none⟩) n c) (.int .i64 (n : Nat)) (.slice a1 n c1) (.int .i64 (n : Nat)) (.bool true) (.bool true) (.slice (some ⟨g, 0, none⟩) n c) (.slice (some ⟨g, 0, none⟩) n c) (.int .i64 (c : Nat)) (.slice (some ⟨g, 0, none⟩) c c) (.slice a1 n c1) v16 (.slice a1 n c1) (.int .i64 (n : Nat)) (.int .i64 (c : Nat)) v20 v21 v22) (by kernel_rfl) (by kernel_rfl) (by kernel_rfl) (by kernel_rfl) (fun c x w => hQ c x _ _ w) (by kernel_rfl) (fun w hS => by have h1 := h3; have h2 := hn; have h4 := hcn; have h5 := hw; unfold fr16; go_simp) (by kernel_rfl) C0 ?_
  refine want_h (i := 11) (oi := { dst := some 16, op := Op.call { callee := Callee.value (Operand.func 7), args := #[Operand.tmp 15], argTypes := #[23] }, type := 23, pos := ps, after := #[{ on := 10, ground := Ground.data }, { on := 5, ground := Ground.chain }, { on := 5, ground := Ground.guard }], guard := some (5, true) }) (fuel := 4) (by kernel_rfl) (by kernel_rfl) (by kernel_rfl) fun K hK => ?_
  unfold fr16
  go_simp
  refine (hL _ C0).mono ?_
  rintro e z1 ⟨m, rfl, hb1, hSm⟩
  refine hK _ _ hb1 (cast_h (fr16 (.slice (some ⟨g, 0, none⟩) n c) (.slice a1 n c1) v2 v3 v4 (.slice (some ⟨g, 0, none⟩) n c) (.int .i64 (n : Nat)) (.slice a1 n c1) (.int .i64 (n : Nat)) (.bool true) (.bool true) (.slice (some ⟨g, 0, none⟩) n c) (.slice (some ⟨g, 0, none⟩) n c) (.int .i64 (c : Nat)) (.slice (some ⟨g, 0, none⟩) c c) (.slice a1 n c1) (.slice (some ⟨m, 0, none⟩) n c) (.slice a1 n c1) (.int .i64 (n : Nat)) (.int .i64 (c : Nat)) v20 v21 v22) (by kernel_rfl) ?_)
  clear hK K
  refine take_h (i := 15) (oi := { dst := some 20, op := Op.slice 23 (Operand.tmp 16) none (some (Operand.tmp 19)) none, type := 23, pos := ps, after := #[{ on := 11, ground := Ground.data }, { on := 14, ground := Ground.data }, { on := 5, ground := Ground.guard }], guard := some (5, true) }) (fuel := 3) (v := (.slice (some ⟨m, 0, none⟩) c c)) (fr16 (.slice (some ⟨g, 0, none⟩) n c) (.slice a1 n c1) v2 v3 v4 (.slice (some ⟨g, 0, none⟩) n c) (.int .i64 (n : Nat)) (.slice a1 n c1) (.int .i64 (n : Nat)) (.bool true) (.bool true) (.slice (some ⟨g, 0, none⟩) n c) (.slice (some ⟨g, 0, none⟩) n c) (.int .i64 (c : Nat)) (.slice (some ⟨g, 0, none⟩) c c) (.slice a1 n c1) (.slice (some ⟨m, 0, none⟩) n c) (.slice a1 n c1) (.int .i64 (n : Nat)) (.int .i64 (c : Nat)) (.slice (some ⟨m, 0, none⟩) c c) v21 v22) (by kernel_rfl) (by kernel_rfl) (by kernel_rfl) (by kernel_rfl) (fun c x w => hQ c x _ _ w) (by kernel_rfl) (fun w hS => by have h1 := h3; have h2 := hn; have h4 := hcn; have h5 := hw; unfold fr16; go_simp) (by kernel_rfl) hb1 ?_
  refine want_h (i := 16) (oi := { dst := some 21, op := Op.call { callee := Callee.value (Operand.func 32), args := #[Operand.tmp 14, Operand.tmp 20], argTypes := #[23, 23] }, type := 4, pos := ps, after := #[{ on := 9, ground := Ground.data }, { on := 15, ground := Ground.data }, { on := 11, ground := Ground.chain }, { on := 5, ground := Ground.guard }], guard := some (5, true) }) (fuel := 2) (by kernel_rfl) (by kernel_rfl) (by kernel_rfl) fun K hK => ?_
  unfold fr16
  go_simp
  refine (hA _ m hb1 hSm).mono ?_
  rintro e z2 ⟨rfl, hb2⟩
  refine hK _ _ hb2 (cast_h (fr16 (.slice (some ⟨g, 0, none⟩) n c) (.slice a1 n c1) v2 v3 v4 (.slice (some ⟨g, 0, none⟩) n c) (.int .i64 (n : Nat)) (.slice a1 n c1) (.int .i64 (n : Nat)) (.bool true) (.bool true) (.slice (some ⟨g, 0, none⟩) n c) (.slice (some ⟨g, 0, none⟩) n c) (.int .i64 (c : Nat)) (.slice (some ⟨g, 0, none⟩) c c) (.slice a1 n c1) (.slice (some ⟨m, 0, none⟩) n c) (.slice a1 n c1) (.int .i64 (n : Nat)) (.int .i64 (c : Nat)) (.slice (some ⟨m, 0, none⟩) c c) (.bool true) v22) (by kernel_rfl) ?_)
  clear hK K
  refine take_h (i := 17) (oi := { dst := some 22, op := Op.pick (Operand.tmp 10) (Operand.tmp 21) (Operand.const (Value.bool false)), type := 4, pos := ps, after := #[{ on := 5, ground := Ground.data }, { on := 16, ground := Ground.data }], guard := none }) (fuel := 1) (v := (.bool true)) (fr16 (.slice (some ⟨g, 0, none⟩) n c) (.slice a1 n c1) v2 v3 v4 (.slice (some ⟨g, 0, none⟩) n c) (.int .i64 (n : Nat)) (.slice a1 n c1) (.int .i64 (n : Nat)) (.bool true) (.bool true) (.slice (some ⟨g, 0, none⟩) n c) (.slice (some ⟨g, 0, none⟩) n c) (.int .i64 (c : Nat)) (.slice (some ⟨g, 0, none⟩) c c) (.slice a1 n c1) (.slice (some ⟨m, 0, none⟩) n c) (.slice a1 n c1) (.int .i64 (n : Nat)) (.int .i64 (c : Nat)) (.slice (some ⟨m, 0, none⟩) c c) (.bool true) (.bool true)) (by kernel_rfl) (by kernel_rfl) (by kernel_rfl) (by kernel_rfl) (fun c x w => hQ c x _ _ w) (by kernel_rfl) (fun w _ => by kernel_rfl) (by kernel_rfl) hb2 ?_
  refine take_h (i := 18) (oi := { dst := some 4, op := Op.assign (Operand.tmp 22), type := 4, pos := ps, after := #[{ on := 17, ground := Ground.data }, { on := 16, ground := Ground.chain }, { on := 0, ground := Ground.phase }, { on := 1, ground := Ground.phase }, { on := 2, ground := Ground.phase }, { on := 3, ground := Ground.phase }, { on := 4, ground := Ground.phase }, { on := 5, ground := Ground.phase }, { on := 6, ground := Ground.phase }, { on := 7, ground := Ground.phase }, { on := 8, ground := Ground.phase }, { on := 9, ground := Ground.phase }, { on := 10, ground := Ground.phase }, { on := 11, ground := Ground.phase }, { on := 12, ground := Ground.phase }, { on := 13, ground := Ground.phase }, { on := 14, ground := Ground.phase }, { on := 15, ground := Ground.phase }, { on := 16, ground := Ground.phase }, { on := 17, ground := Ground.phase }], guard := none }) (fuel := 0) (v := (.bool true)) (fr16 (.slice (some ⟨g, 0, none⟩) n c) (.slice a1 n c1) v2 v3 (.bool true) (.slice (some ⟨g, 0, none⟩) n c) (.int .i64 (n : Nat)) (.slice a1 n c1) (.int .i64 (n : Nat)) (.bool true) (.bool true) (.slice (some ⟨g, 0, none⟩) n c) (.slice (some ⟨g, 0, none⟩) n c) (.int .i64 (c : Nat)) (.slice (some ⟨g, 0, none⟩) c c) (.slice a1 n c1) (.slice (some ⟨m, 0, none⟩) n c) (.slice a1 n c1) (.int .i64 (n : Nat)) (.int .i64 (c : Nat)) (.slice (some ⟨m, 0, none⟩) c c) (.bool true) (.bool true)) (by kernel_rfl) (by kernel_rfl) (by kernel_rfl) (by kernel_rfl) (fun c x w => hQ c x _ _ w) (by kernel_rfl) (fun w _ => by kernel_rfl) (by kernel_rfl) hb2 ?_
  exact wpAnyH_done (by kernel_rfl) (hq _ _ hb2) _
set_option maxRecDepth 100000 in
set_option maxHeartbeats 1000000 in
theorem skept_any (g : Nat) (v1 : Value) (l : List Sl) (hl : l.length ≤ 9000) (w : World) (h : SB2 w g (l ++ slentL l.length)) (t1 : SlsAt w v1 l) :
    Calls Tryz.prog 16 #[.slice (some ⟨g, 0, none⟩) l.length (l.length + 3), v1] w fun e w' => e = .returned (.bool true) ∧ Below w.heap.size w w' := by
  have hLe : Hid (∀ W, Below w.heap.size w W → Calls Tryz.prog 7 #[v1] W fun e w' => ∃ m, e = .returned (.slice (some ⟨m, 0, none⟩) l.length (l.length + 3)) ∧ Below w.heap.size w w' ∧ SB2 w' m (l ++ slentL l.length)) := fun W hb => by
    refine (slent_any v1 l hl W (t1.below hb (Nat.le_refl _))).mono ?_
    rintro e w' ⟨rfl, h1, h2⟩
    exact ⟨_, rfl, hb.trans (h1.mono hb.size), h2⟩
  have hlen3 : (l ++ slentL l.length).length = l.length + 3 := by simp [slentL]
  have hSa : Hid (∀ W m, Below w.heap.size w W → SB2 W m (l ++ slentL l.length) → Calls Tryz.prog 32 #[.slice (some ⟨g, 0, none⟩) (l.length + 3) (l.length + 3), .slice (some ⟨m, 0, none⟩) (l.length + 3) (l.length + 3)] W fun e w' => e = .returned (.bool true) ∧ Below w.heap.size w w') := fun W m hb hm => by
    have x1 := (h.below hb h.lt).its (n := l.length + 3) (cap := l.length + 3) (by omega) (Nat.le_refl _)
    have x2 := hm.its (n := l.length + 3) (cap := l.length + 3) (by omega) (Nat.le_refl _)
    rw [List.take_of_length_le (by omega)] at x1 x2
    refine (sameSlots_yes _ _ _ W (by omega) x1 x2).mono ?_
    rintro e w' ⟨rfl, h1⟩
    exact ⟨rfl, hb.trans (h1.mono hb.size)⟩
  obtain ⟨a1, c1, rfl, -⟩ := t1.ex
  clear h t1 hlen3
  obtain ⟨c, hc⟩ : ∃ c, l.length + 3 = c := ⟨_, rfl⟩
  rw [hc] at hLe hSa ⊢
  have hLe' := hLe.out
  have hSa' := hSa.out
  go_enter Tryz.func16, Tryz.ntmps16
  go_wp2_with fail
  refine skept_region _ (fun _ _ _ _ _ h => h) _ _ g l.length c c1 a1 (by omega) hl (by omega) (by simp [IntKind.wrap, IntKind.bits]; omega) w (fun m w' => SB2 w' m (l ++ slentL l.length)) hLe' hSa' ?_
  intro m w' hb
  unfold fr16
  go_wp2_with fail
  go_ret
  exact ⟨rfl, hb⟩
end Go.Proofs.YtnnlfeimebiboaaGreatDoor
