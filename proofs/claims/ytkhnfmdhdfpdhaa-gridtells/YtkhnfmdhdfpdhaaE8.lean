/-
  What is proved here: what LentTexts hands back, what KeptTexts answers of what is kept.
-/
import Derived.Test.YtkhnfmdhdfpdhaaE6
import Derived.Test.YtkhnfmdhdfpdhaaE7
import Derived.Lib.SlBuf
import Derived.Laws.CopyRow
namespace Go.Proofs.Ytkhnfmdhdfpdhaa
open Go.RowKit Go.Shelf

theorem fm_one {α : Type} {f : α → List Value} (h1 : ∀ a, ∀ u ∈ f a, u.oneCell' = true) (ps : List α) : ∀ u ∈ ps.flatMap f, u.oneCell' = true := by
  intro u hu
  obtain ⟨p, _, hp⟩ := List.mem_flatMap.1 hu
  exact h1 p u hp

theorem rec_srcs {α : Type} {k : Nat} {f : α → List Value} (hf : ∀ a, (f a).length = k) (h1 : ∀ a, ∀ u ∈ f a, u.oneCell' = true) (hk : 0 < k) {W : World} {v : Value} {rs : List α} (h : RecAt k f W v rs) : Srcs W k v rs.length (rs.flatMap f) := by
  refine ⟨fm_len hf rs, fm_one h1 rs, ?_⟩
  obtain ⟨a, cap, rfl, h2⟩ := h.ex
  rcases h2 with rfl | ⟨b, o, rfl, hlt, hc⟩
  · cases a with
    | none => exact .inl ⟨rfl, cap, rfl⟩
    | some a => exact .inr ⟨a, cap, rfl, fun j u hu => by simp at hu⟩
  · refine .inr ⟨_, cap, rfl, fun j u hu => ?_⟩
    have hj : j < rs.length * k := by rw [← fm_len hf]; exact (List.getElem?_eq_some_iff.1 hu).1
    have hi : j / k < rs.length := by rw [Nat.div_lt_iff_lt_mul hk]; omega
    have hm : j % k < k := Nat.mod_lt _ hk
    have hg := fm_get hf rs hi (j % k) hm
    have hjj : j / k * k + j % k = j := by have := Nat.div_add_mod j k; rw [Nat.mul_comm] at this; exact this
    rw [hjj, hu] at hg
    have := hc (j / k) hi (j % k) u hg.symm
    rw [addr_add]
    rw [← this]
    congr 2
    omega
abbrev TxAt (W : World) (v : Value) (ss : List ByteArray) : Prop := RecAt 1 (fun s : ByteArray => [Value.string s]) W v ss
def strs (ss : List ByteArray) : List Value := ss.map Value.string
theorem below_one {w W : World} (h : Below w.heap.size w W) (o : Obj) : Below w.heap.size w (W.alloc o) := h.alloc h.size _
theorem TxAt.next {W : World} {v : Value} {ss : List ByteArray} (h : TxAt W v ss) (o : Obj) : TxAt (W.alloc o) v ss := h.below ((Below.refl _ _).alloc (Nat.le_refl _) _) (Nat.le_refl _)
theorem tx_of_strs {W : World} {v : Value} {ss : List ByteArray} (h : StrsAt W v ss) : TxAt W v ss := by
  have hle := h.le
  obtain ⟨a, cap, rfl, h2⟩ := h.ex
  refine ⟨⟨a, cap, rfl, ?_⟩, hle⟩
  rcases h2 with h2 | ⟨b, o, rfl, hb, hc⟩
  · exact .inl h2
  · refine .inr ⟨b, o, rfl, hb, fun i hi j u hu => ?_⟩
    cases j with
    | zero =>
      simp at hu
      subst hu
      have := hc i hi
      rwa [show o + i * 1 + 0 = o + i by omega]
    | succ j => simp at hu
theorem flat_str (ss : List ByteArray) : ss.flatMap (fun s : ByteArray => [Value.string s]) = strs ss := by
  induction ss with
  | nil => rfl
  | cons x l ih => rw [List.flatMap_cons, ih]; rfl
theorem tx_srcs {W : World} {v : Value} {ss : List ByteArray} (h : TxAt W v ss) : Srcs W 1 v ss.length (strs ss) := by
  have := rec_srcs (k := 1) (f := fun s : ByteArray => [Value.string s]) (fun _ => rfl) (fun a u hu => by simp at hu; subst hu; rfl) (by decide) h
  rwa [flat_str] at this
/-- Texts that fill a block. -/
def SBk (W : World) (g : Nat) (l : List ByteArray) : Prop := W.heap[g]? = some (.cells (strs l).toArray 9 (0, 0))
theorem SBk.lt {W : World} {g : Nat} {l : List ByteArray} (h : SBk W g l) : g < W.heap.size := (Array.getElem?_eq_some_iff.1 h).1
theorem SBk.cell {W : World} {g : Nat} {l : List ByteArray} (h : SBk W g l) {k : Nat} (hk : k < l.length) : W.cell? ⟨g, k, none⟩ = some (.string (l[k]'hk)) ∧ W.frozen? ⟨g, k, none⟩ = false := by
  refine ⟨?_, Lib.frozen_of_heap h _⟩
  rw [Lib.cell_of_heap h]
  simp [strs, hk]
theorem SBk.set {W : World} {g : Nat} {l : List ByteArray} (h : SBk W g l) (k : Nat) (x : ByteArray) : SBk (W.setCell ⟨g, k, none⟩ (.string x)) g (l.set k x) := by
  have := heap_setCell_same W g k (strs l).toArray 9 (.string x) h
  unfold SBk
  rw [this]
  congr 2
  apply Array.ext'
  simp [strs, List.map_set]
theorem SBk.turns {W W' : World} {g : Nat} {l : List ByteArray} (h : SBk W g l) {X : Nat → Prop} (ht : Turns X W W') (hX : ¬ X g) : SBk W' g l := (ht.block g h.lt hX).trans h
theorem SBk.below {W W' : World} {g : Nat} {l : List ByteArray} (h : SBk W g l) {n : Nat} (hb : Below n W W') (hn : g < n) : SBk W' g l := (hb.block g hn).trans h
theorem SBk.tx {W : World} {g : Nat} {l : List ByteArray} (h : SBk W g l) (n cap : Nat) (hn : n ≤ l.length) (_hc : cap ≤ maxLen) (hnc : n ≤ cap) (hlc : l.length = cap) : TxAt W (.slice (some ⟨g, 0, none⟩) n cap) (l.take n) := by
  refine ⟨⟨some ⟨g, 0, none⟩, cap, by rw [List.length_take, Nat.min_eq_left hn], .inr ⟨g, 0, rfl, h.lt, fun i hi j v hv => ?_⟩⟩, fun a n' c e => ?_⟩
  · have hil : i < l.length := by rw [List.length_take] at hi; omega
    cases j with
    | zero =>
      simp at hv
      subst hv
      have := (h.cell hil).1
      rw [show (0 + i * 1 + 0) = i by omega, this]
    | succ j => simp at hv
  · cases e
    exact hnc
theorem made22 (n : Nat) : madeCells #[.string ⟨#[]⟩] n = (strs (List.replicate n ⟨#[]⟩)).toArray := by
  apply Array.ext
  · simp [madeCells, strs]
  · intro i h1 h2
    simp [madeCells, strs, Nat.mod_one]
theorem make22 {n : Nat} (h : n ≤ 400) (W : World) : (Instr.makeSlice 22 (.int .i64 (n : Int)) (.int .i64 (n : Int))).run Try.prog W = .ok (.slice (some ⟨W.heap.size, 0, none⟩) n n) (W.alloc (.cells (strs (List.replicate n ⟨#[]⟩)).toArray 9)) := by
  obtain ⟨i9, hi⟩ := Option.isSome_iff_exists.1 (show (Try.prog.info? 9).isSome = true by kernel_rfl)
  have hz0 : i9.zero = some (.string ⟨#[]⟩) := by
    have h : (Try.prog.info? 9).map (·.zero) = some (some (.string ⟨#[]⟩)) := by kernel_rfl
    rw [hi] at h; simpa using h
  have hz1 : i9.size = 1 := by
    have h : (Try.prog.info? 9).map (·.size) = some 1 := by kernel_rfl
    rw [hi] at h; simpa using h
  have hz2 : i9.bytes = 16 := by
    have h : (Try.prog.info? 9).map (·.bytes) = some 16 := by kernel_rfl
    rw [hi] at h; simpa using h
  have := run_makeSlice (P := Try.prog) (w := W) 22 9 i9 _ Try.underlying22 hi hz0 .i64 .i64 n n (by omega) (by omega) (by rw [hz1]; omega) (by rw [hz2]; omega) (by omega)
  rw [hz1, Int.toNat_natCast, Nat.mul_one] at this
  rw [← made22]
  exact this
theorem copy22 {W : World} {g c1 : Nat} {a1 : Option Addr} {ss : List ByteArray} (h : SBk W g (List.replicate (ss.length + 3) ⟨#[]⟩)) (ht : TxAt W (.slice a1 ss.length c1) ss) :
    ∃ W', (Builtin.copy_ #[22, 22] 3 #[.slice (some ⟨g, 0, none⟩) (ss.length + 3) (ss.length + 3), .slice a1 ss.length c1]).run Try.prog W = .ok (.int .i64 (ss.length : Int)) W' ∧ SBk W' g (ss ++ List.replicate 3 ⟨#[]⟩) ∧ Turns (fun k => k = g) W W' := by
  have hsz : (Try.prog.info? 9).map (·.size) = some 1 := by kernel_rfl
  obtain ⟨hs1, hs2, hs3⟩ := tx_srcs ht
  rcases hs3 with ⟨h0, c, hx⟩ | ⟨a, c, hx, hcell⟩
  · have : ss = [] := List.eq_nil_of_length_eq_zero h0
    subst this
    refine ⟨W, run_copy_none (P := Try.prog) W 22 22 3 9 _ a1 _ _ 0 c1 Try.underlying22 hsz (by simp), by simpa using h, Turns.refl _ _⟩
  · cases hx
    have hr := run_copy_row (P := Try.prog) W 22 22 3 9 g 0 (ss.length + 3) (ss.length + 3) a ss.length c1 _ 9 (strs ss) Try.underlying22 hsz h (by rw [show ss.length.min (ss.length + 3) = ss.length from Nat.min_eq_left (by omega)]; simp [strs]) hcell (by simp [strs]) hs2
    have hlen : (strs ss).length = ss.length := by simp [strs]
    rw [hlen] at hr
    refine ⟨_, hr, ?_, ?_⟩
    · show (World.setRow W g _).heap[g]? = _
      rw [setRow_heap W g _ _ 9 _ h]
      have e : (List.take 0 (strs (List.replicate (ss.length + 3) (⟨#[]⟩ : ByteArray))).toArray.toList ++ strs ss ++ List.drop (0 + ss.length) (strs (List.replicate (ss.length + 3) (⟨#[]⟩ : ByteArray))).toArray.toList).toArray = (strs (ss ++ List.replicate 3 (⟨#[]⟩ : ByteArray))).toArray := by
        unfold strs
        rw [List.take_zero, List.nil_append, Nat.zero_add, ← List.map_drop, List.drop_replicate, Nat.add_sub_cancel_left, List.map_append]
      rw [e]
    · exact ⟨rfl, rfl, rfl, by simp [World.setRow], fun k hk hne => by
        have hne' : ¬ g = k := fun e => hne e.symm
        simp [World.setRow, Array.getElem?_modify, hne']⟩
def lentS : ByteArray := ⟨#[108, 101, 110, 116]⟩
theorem lent_set (ss : List ByteArray) (k : Nat) (hk : k < 3) : (ss ++ (List.replicate k lentS ++ List.replicate (3 - k) (⟨#[]⟩ : ByteArray))).set (ss.length + k) lentS = ss ++ (List.replicate (k + 1) lentS ++ List.replicate (3 - (k + 1)) (⟨#[]⟩ : ByteArray)) := by
  rw [List.set_append_right _ _ (by omega), Nat.add_sub_cancel_left]
  obtain rfl | rfl | rfl : k = 0 ∨ k = 1 ∨ k = 2 := by omega
  all_goals rfl
set_option maxRecDepth 100000 in
set_option maxHeartbeats 4000000 in
theorem lent_any (v1 : Value) (ss : List ByteArray) (hl : ss.length ≤ 300) (w : World) (t1 : TxAt w v1 ss) :
    Calls Try.prog 26 #[v1] w fun e w' => e = .returned (.slice (some ⟨w.heap.size, 0, none⟩) ss.length (ss.length + 3)) ∧ Below w.heap.size w w' ∧ SBk w' w.heap.size (ss ++ List.replicate 3 lentS) := by
  obtain ⟨a1, c1, rfl, -⟩ := t1.ex
  have hmk : (Instr.makeSlice 22 (.int .i64 ((ss.length : Int) + 3)) (.int .i64 ((ss.length : Int) + 3))).run Try.prog w = .ok (.slice (some ⟨w.heap.size, 0, none⟩) (ss.length + 3) (ss.length + 3)) (w.alloc (.cells (strs (List.replicate (ss.length + 3) ⟨#[]⟩)).toArray 9)) := by
    have := make22 (n := ss.length + 3) (by omega) w
    rwa [show (((ss.length + 3 : Nat)) : Int) = (ss.length : Int) + 3 by omega] at this
  have hb1 : Below w.heap.size w (w.alloc (.cells (strs (List.replicate (ss.length + 3) ⟨#[]⟩)).toArray 9)) := below_one (Below.refl _ _) _
  have hI1 : SBk (w.alloc (.cells (strs (List.replicate (ss.length + 3) ⟨#[]⟩)).toArray 9)) w.heap.size (List.replicate (ss.length + 3) ⟨#[]⟩) := World.alloc_heap_new w _
  obtain ⟨w2, hcp, hS2, hT2⟩ := copy22 hI1 (t1.next _)
  have hb2 : Below w.heap.size w w2 := hb1.trans (hT2.below hb1.size (fun k hk => by omega))
  generalize w.alloc (.cells (strs (List.replicate (ss.length + 3) ⟨#[]⟩)).toArray 9) = w1 at *
  have hS2h : Hid (SBk w2 w.heap.size (ss ++ (List.replicate 0 lentS ++ List.replicate (3 - 0) ⟨#[]⟩))) := hS2
  clear hS2 hT2 hI1 t1
  obtain ⟨g, hg⟩ : ∃ g, w.heap.size = g := ⟨_, rfl⟩
  rw [hg] at hmk hcp hb1 hb2 hS2h ⊢
  clear hg
  go_enter Try.func26, Try.ntmps26
  go_wp2_with (at_builtin; refine Lib.wpList_copy_run _ rfl _ _ 22 22 rfl _ _ rfl rfl hcp ?_)
  clear hcp hmk
  go_loopw [4] (fun i wr => ∃ k : Nat, k ≤ 3 ∧ i = .int .i64 ((ss.length + k : Nat) : Int) ∧ Below g w wr ∧ Hid (SBk wr g (ss ++ (List.replicate k lentS ++ List.replicate (3 - k) ⟨#[]⟩)))) (fun i _ => ss.length + 3 - (intOf i).toNat)
  case atStart => exact ⟨0, by omega, rfl, hb2, hS2h⟩
  case round =>
    obtain ⟨k, hk, rfl, hbl, hS⟩ := hrel
    by_cases hlt : k < 3
    · have hkl : ((ss.length + k : Nat) : Int) < (ss.length : Int) + 3 := by omega
      have hlen : ss.length + k < (ss ++ (List.replicate k lentS ++ List.replicate (3 - k) (⟨#[]⟩ : ByteArray))).length := by simp; omega
      obtain ⟨c0, f0⟩ := hS.out.cell hlen
      have hset := hS.out.set (ss.length + k) lentS
      rw [lent_set ss k hlt] at hset
      have hseth : Hid (SBk (wr.setCell ⟨g, ss.length + k, none⟩ (.string ⟨#[108, 101, 110, 116]⟩)) g (ss ++ (List.replicate (k + 1) lentS ++ List.replicate (3 - (k + 1)) ⟨#[]⟩))) := hset
      have hbn : Below g w (wr.setCell ⟨g, ss.length + k, none⟩ (.string ⟨#[108, 101, 110, 116]⟩)) := hbl.setCell (p := ⟨g, ss.length + k, none⟩) (Nat.le_refl _) _
      have hlt2 : ss.length + k < ss.length + 3 := by omega
      generalize (ss ++ (List.replicate k lentS ++ List.replicate (3 - k) (⟨#[]⟩ : ByteArray)))[ss.length + k]'hlen = x0 at *
      have hnx : Hid (((ss.length + k : Nat) : Int) + 1 = ((ss.length + (k + 1) : Nat) : Int)) := by show _ = _; omega
      have hnb : ((ss.length + k : Nat) : Int) ≤ 400 := by omega
      generalize hNN : ss.length + k = nn at *
      clear hset hS hlen
      go_wp2_with fail
      go_roundw
      case rel => exact ⟨k + 1, by omega, by rw [← hnx.out], hbn, hseth⟩
      case measure => simp [intOf]; omega
    · obtain rfl : k = 3 := by omega
      have hkl : ¬ ((ss.length + 3 : Nat) : Int) < (ss.length : Int) + 3 := by omega
      have hSf : Hid (SBk wr g (ss ++ List.replicate 3 lentS)) := by
        have h := hS.out
        simp at h
        exact h
      clear hS
      generalize ((ss.length + 3 : Nat) : Int) = nn at *
      go_wp2_with fail
      go_ret
      exact ⟨rfl, hbl, hSf.out⟩
def fr12 (v0 v1 v2 v3 v4 v5 v6 v7 v8 v9 v10 v11 v12 v13 v14 v15 v16 v17 v18 v19 v20 v21 v22 : Value) : Act := { tmps := #[v0, v1, v2, v3, v4, v5, v6, v7, v8, v9, v10, v11, v12, v13, v14, v15, v16, v17, v18, v19, v20, v21, v22], defers := [] }
def ops12_1 (ps : String) : Array Oper := #[{ dst := some 5, op := Op.move (Operand.tmp 0), type := 22, pos := ps, after := #[], guard := none }, { dst := some 6, op := Op.call { callee := Callee.builtin Builtin.len, args := #[Operand.tmp 5], argTypes := #[22] }, type := 3, pos := ps, after := #[{ on := 0, ground := Ground.data }], guard := none }, { dst := some 7, op := Op.move (Operand.tmp 1), type := 22, pos := ps, after := #[], guard := none }, { dst := some 8, op := Op.call { callee := Callee.builtin Builtin.len, args := #[Operand.tmp 7], argTypes := #[22] }, type := 3, pos := ps, after := #[{ on := 2, ground := Ground.data }], guard := none }, { dst := some 9, op := Op.binOp BinOp.eql 3 (Operand.tmp 6) (Operand.tmp 8) 3, type := 4, pos := ps, after := #[{ on := 1, ground := Ground.data }, { on := 3, ground := Ground.data }], guard := none }, { dst := some 10, op := Op.move (Operand.tmp 9), type := 4, pos := ps, after := #[{ on := 4, ground := Ground.data }], guard := none }, { dst := some 11, op := Op.move (Operand.tmp 0), type := 22, pos := ps, after := #[{ on := 5, ground := Ground.guard }], guard := some (5, true) }, { dst := some 12, op := Op.move (Operand.tmp 0), type := 22, pos := ps, after := #[{ on := 5, ground := Ground.guard }], guard := some (5, true) }, { dst := some 13, op := Op.call { callee := Callee.builtin Builtin.cap, args := #[Operand.tmp 12], argTypes := #[22] }, type := 3, pos := ps, after := #[{ on := 7, ground := Ground.data }, { on := 5, ground := Ground.guard }], guard := some (5, true) }, { dst := some 14, op := Op.slice 22 (Operand.tmp 11) none (some (Operand.tmp 13)) none, type := 22, pos := ps, after := #[{ on := 6, ground := Ground.data }, { on := 8, ground := Ground.data }, { on := 5, ground := Ground.guard }], guard := some (5, true) }, { dst := some 15, op := Op.move (Operand.tmp 1), type := 22, pos := ps, after := #[{ on := 5, ground := Ground.guard }], guard := some (5, true) }, { dst := some 16, op := Op.call { callee := Callee.value (Operand.func 26), args := #[Operand.tmp 15], argTypes := #[22] }, type := 22, pos := ps, after := #[{ on := 10, ground := Ground.data }, { on := 5, ground := Ground.chain }, { on := 5, ground := Ground.guard }], guard := some (5, true) }, { dst := some 17, op := Op.move (Operand.tmp 1), type := 22, pos := ps, after := #[{ on := 5, ground := Ground.guard }], guard := some (5, true) }, { dst := some 18, op := Op.call { callee := Callee.builtin Builtin.len, args := #[Operand.tmp 17], argTypes := #[22] }, type := 3, pos := ps, after := #[{ on := 12, ground := Ground.data }, { on := 5, ground := Ground.guard }], guard := some (5, true) }, { dst := some 19, op := Op.binOp BinOp.add 3 (Operand.tmp 18) (Operand.const (Value.int IntKind.i64 3)) 3, type := 3, pos := ps, after := #[{ on := 13, ground := Ground.data }, { on := 5, ground := Ground.guard }], guard := some (5, true) }, { dst := some 20, op := Op.slice 22 (Operand.tmp 16) none (some (Operand.tmp 19)) none, type := 22, pos := ps, after := #[{ on := 11, ground := Ground.data }, { on := 14, ground := Ground.data }, { on := 5, ground := Ground.guard }], guard := some (5, true) }, { dst := some 21, op := Op.call { callee := Callee.value (Operand.func 36), args := #[Operand.tmp 14, Operand.tmp 20], argTypes := #[22, 22] }, type := 4, pos := ps, after := #[{ on := 9, ground := Ground.data }, { on := 15, ground := Ground.data }, { on := 11, ground := Ground.chain }, { on := 5, ground := Ground.guard }], guard := some (5, true) }, { dst := some 22, op := Op.pick (Operand.tmp 10) (Operand.tmp 21) (Operand.const (Value.bool false)), type := 4, pos := ps, after := #[{ on := 5, ground := Ground.data }, { on := 16, ground := Ground.data }], guard := none }, { dst := some 4, op := Op.assign (Operand.tmp 22), type := 4, pos := ps, after := #[{ on := 17, ground := Ground.data }, { on := 16, ground := Ground.chain }, { on := 0, ground := Ground.phase }, { on := 1, ground := Ground.phase }, { on := 2, ground := Ground.phase }, { on := 3, ground := Ground.phase }, { on := 4, ground := Ground.phase }, { on := 5, ground := Ground.phase }, { on := 6, ground := Ground.phase }, { on := 7, ground := Ground.phase }, { on := 8, ground := Ground.phase }, { on := 9, ground := Ground.phase }, { on := 10, ground := Ground.phase }, { on := 11, ground := Ground.phase }, { on := 12, ground := Ground.phase }, { on := 13, ground := Ground.phase }, { on := 14, ground := Ground.phase }, { on := 15, ground := Ground.phase }, { on := 16, ground := Ground.phase }, { on := 17, ground := Ground.phase }], guard := none }]

set_option maxRecDepth 100000 in
set_option maxHeartbeats 4000000 in
theorem kept_region (Q : Exit → Act → World → Prop) (hQ : ∀ c x (n : Nat) v w, Q (.panic c) (x.put (some n) v) w → Q (.panic c) x w) (id : Nat) (ps : String) {v2 v3 v4 v5 v6 v7 v8 v9 v10 v11 v12 v13 v14 v15 v16 v17 v18 v19 v20 v21 v22 : Value}
    (g n c c1 : Nat) (a1 : Option Addr) (h3 : (n : Int) + 3 = (c : Nat)) (hn : n ≤ 300) (hcn : n ≤ c) (hw : IntKind.i64.wrap (c : Int) = (c : Int)) (w0 : World) (P : Nat → World → Prop)
    (hL : ∀ W, Below w0.heap.size w0 W → Calls Try.prog 26 #[.slice a1 n c1] W fun e w' => ∃ m, e = .returned (.slice (some ⟨m, 0, none⟩) n c) ∧ Below w0.heap.size w0 w' ∧ P m w')
    (hA : ∀ W m, Below w0.heap.size w0 W → P m W → Calls Try.prog 36 #[.slice (some ⟨g, 0, none⟩) c c, .slice (some ⟨m, 0, none⟩) c c] W fun e w' => e = .returned (.bool true) ∧ Below w0.heap.size w0 w')
    (hq : ∀ (m : Nat) (w' : World), Below w0.heap.size w0 w' → Q .normal (fr12 (.slice (some ⟨g, 0, none⟩) n c) (.slice a1 n c1) v2 v3 (.bool true) (.slice (some ⟨g, 0, none⟩) n c) (.int .i64 (n : Nat)) (.slice a1 n c1) (.int .i64 (n : Nat)) (.bool true) (.bool true) (.slice (some ⟨g, 0, none⟩) n c) (.slice (some ⟨g, 0, none⟩) n c) (.int .i64 (c : Nat)) (.slice (some ⟨g, 0, none⟩) c c) (.slice a1 n c1) (.slice (some ⟨m, 0, none⟩) n c) (.slice a1 n c1) (.int .i64 (n : Nat)) (.int .i64 (c : Nat)) (.slice (some ⟨m, 0, none⟩) c c) (.bool true) (.bool true)) w') :
    (Code.region id (ops12_1 ps) true).wp Try.prog Q (fr12 (.slice (some ⟨g, 0, none⟩) n c) (.slice a1 n c1) v2 v3 v4 v5 v6 v7 v8 v9 v10 v11 v12 v13 v14 v15 v16 v17 v18 v19 v20 v21 v22) w0 := by
  refine wp_region_held (S := fun W => Below w0.heap.size w0 W) (by kernel_rfl) ?_
  change wpAnyH _ _ _ _ _ 19 _ _ (World.drew w0)
  have C0 : Below w0.heap.size w0 w0.drew := ⟨rfl, rfl, rfl, Nat.le_refl _, fun _ _ => rfl⟩
  generalize w0.drew = wd at C0 ⊢
  refine take_h (i := 0) (oi := { dst := some 5, op := Op.move (Operand.tmp 0), type := 22, pos := ps, after := #[], guard := none }) (fuel := 18) (v := (.slice (some ⟨g, 0, none⟩) n c)) (fr12 (.slice (some ⟨g, 0, none⟩) n c) (.slice a1 n c1) v2 v3 v4 (.slice (some ⟨g, 0, none⟩) n c) v6 v7 v8 v9 v10 v11 v12 v13 v14 v15 v16 v17 v18 v19 v20 v21 v22) (by kernel_rfl) (by kernel_rfl) (by kernel_rfl) (by kernel_rfl) (fun c x w => hQ c x _ _ w) (by kernel_rfl) (fun w _ => by kernel_rfl) (by kernel_rfl) C0 ?_
  refine take_h (i := 1) (oi := { dst := some 6, op := Op.call { callee := Callee.builtin Builtin.len, args := #[Operand.tmp 5], argTypes := #[22] }, type := 3, pos := ps, after := #[{ on := 0, ground := Ground.data }], guard := none }) (fuel := 17) (v := (.int .i64 (n : Nat))) (fr12 (.slice (some ⟨g, 0, none⟩) n c) (.slice a1 n c1) v2 v3 v4 (.slice (some ⟨g, 0, none⟩) n c) (.int .i64 (n : Nat)) v7 v8 v9 v10 v11 v12 v13 v14 v15 v16 v17 v18 v19 v20 v21 v22) (by kernel_rfl) (by kernel_rfl) (by kernel_rfl) (by kernel_rfl) (fun c x w => hQ c x _ _ w) (by kernel_rfl) (fun w hS => by have h1 := h3; have h2 := hn; have h4 := hcn; have h5 := hw; unfold fr12; go_simp) (by kernel_rfl) C0 ?_
  refine take_h (i := 2) (oi := { dst := some 7, op := Op.move (Operand.tmp 1), type := 22, pos := ps, after := #[], guard := none }) (fuel := 16) (v := (.slice a1 n c1)) (fr12 (.slice (some ⟨g, 0, none⟩) n c) (.slice a1 n c1) v2 v3 v4 (.slice (some ⟨g, 0, none⟩) n c) (.int .i64 (n : Nat)) (.slice a1 n c1) v8 v9 v10 v11 v12 v13 v14 v15 v16 v17 v18 v19 v20 v21 v22) (by kernel_rfl) (by kernel_rfl) (by kernel_rfl) (by kernel_rfl) (fun c x w => hQ c x _ _ w) (by kernel_rfl) (fun w _ => by kernel_rfl) (by kernel_rfl) C0 ?_
  refine take_h (i := 3) (oi := { dst := some 8, op := Op.call { callee := Callee.builtin Builtin.len, args := #[Operand.tmp 7], argTypes := #[22] }, type := 3, pos := ps, after := #[{ on := 2, ground := Ground.data }], guard := none }) (fuel := 15) (v := (.int .i64 (n : Nat))) (fr12 (.slice (some ⟨g, 0, none⟩) n c) (.slice a1 n c1) v2 v3 v4 (.slice (some ⟨g, 0, none⟩) n c) (.int .i64 (n : Nat)) (.slice a1 n c1) (.int .i64 (n : Nat)) v9 v10 v11 v12 v13 v14 v15 v16 v17 v18 v19 v20 v21 v22) (by kernel_rfl) (by kernel_rfl) (by kernel_rfl) (by kernel_rfl) (fun c x w => hQ c x _ _ w) (by kernel_rfl) (fun w hS => by have h1 := h3; have h2 := hn; have h4 := hcn; have h5 := hw; unfold fr12; go_simp) (by kernel_rfl) C0 ?_
  refine take_h (i := 4) (oi := { dst := some 9, op := Op.binOp BinOp.eql 3 (Operand.tmp 6) (Operand.tmp 8) 3, type := 4, pos := ps, after := #[{ on := 1, ground := Ground.data }, { on := 3, ground := Ground.data }], guard := none }) (fuel := 14) (v := (.bool true)) (fr12 (.slice (some ⟨g, 0, none⟩) n c) (.slice a1 n c1) v2 v3 v4 (.slice (some ⟨g, 0, none⟩) n c) (.int .i64 (n : Nat)) (.slice a1 n c1) (.int .i64 (n : Nat)) (.bool true) v10 v11 v12 v13 v14 v15 v16 v17 v18 v19 v20 v21 v22) (by kernel_rfl) (by kernel_rfl) (by kernel_rfl) (by kernel_rfl) (fun c x w => hQ c x _ _ w) (by kernel_rfl) (fun w hS => by have h1 := h3; have h2 := hn; have h4 := hcn; have h5 := hw; unfold fr12; go_simp) (by kernel_rfl) C0 ?_
  refine take_h (i := 5) (oi := { dst := some 10, op := Op.move (Operand.tmp 9), type := 4, pos := ps, after := #[{ on := 4, ground := Ground.data }], guard := none }) (fuel := 13) (v := (.bool true)) (fr12 (.slice (some ⟨g, 0, none⟩) n c) (.slice a1 n c1) v2 v3 v4 (.slice (some ⟨g, 0, none⟩) n c) (.int .i64 (n : Nat)) (.slice a1 n c1) (.int .i64 (n : Nat)) (.bool true) (.bool true) v11 v12 v13 v14 v15 v16 v17 v18 v19 v20 v21 v22) (by kernel_rfl) (by kernel_rfl) (by kernel_rfl) (by kernel_rfl) (fun c x w => hQ c x _ _ w) (by kernel_rfl) (fun w _ => by kernel_rfl) (by kernel_rfl) C0 ?_
  refine take_h (i := 6) (oi := { dst := some 11, op := Op.move (Operand.tmp 0), type := 22, pos := ps, after := #[{ on := 5, ground := Ground.guard }], guard := some (5, true) }) (fuel := 12) (v := (.slice (some ⟨g, 0, none⟩) n c)) (fr12 (.slice (some ⟨g, 0, none⟩) n c) (.slice a1 n c1) v2 v3 v4 (.slice (some ⟨g, 0, none⟩) n c) (.int .i64 (n : Nat)) (.slice a1 n c1) (.int .i64 (n : Nat)) (.bool true) (.bool true) (.slice (some ⟨g, 0, none⟩) n c) v12 v13 v14 v15 v16 v17 v18 v19 v20 v21 v22) (by kernel_rfl) (by kernel_rfl) (by kernel_rfl) (by kernel_rfl) (fun c x w => hQ c x _ _ w) (by kernel_rfl) (fun w _ => by kernel_rfl) (by kernel_rfl) C0 ?_
  refine take_h (i := 7) (oi := { dst := some 12, op := Op.move (Operand.tmp 0), type := 22, pos := ps, after := #[{ on := 5, ground := Ground.guard }], guard := some (5, true) }) (fuel := 11) (v := (.slice (some ⟨g, 0, none⟩) n c)) (fr12 (.slice (some ⟨g, 0, none⟩) n c) (.slice a1 n c1) v2 v3 v4 (.slice (some ⟨g, 0, none⟩) n c) (.int .i64 (n : Nat)) (.slice a1 n c1) (.int .i64 (n : Nat)) (.bool true) (.bool true) (.slice (some ⟨g, 0, none⟩) n c) (.slice (some ⟨g, 0, none⟩) n c) v13 v14 v15 v16 v17 v18 v19 v20 v21 v22) (by kernel_rfl) (by kernel_rfl) (by kernel_rfl) (by kernel_rfl) (fun c x w => hQ c x _ _ w) (by kernel_rfl) (fun w _ => by kernel_rfl) (by kernel_rfl) C0 ?_
  refine take_h (i := 8) (oi := { dst := some 13, op := Op.call { callee := Callee.builtin Builtin.cap, args := #[Operand.tmp 12], argTypes := #[22] }, type := 3, pos := ps, after := #[{ on := 7, ground := Ground.data }, { on := 5, ground := Ground.guard }], guard := some (5, true) }) (fuel := 10) (v := (.int .i64 (c : Nat))) (fr12 (.slice (some ⟨g, 0, none⟩) n c) (.slice a1 n c1) v2 v3 v4 (.slice (some ⟨g, 0, none⟩) n c) (.int .i64 (n : Nat)) (.slice a1 n c1) (.int .i64 (n : Nat)) (.bool true) (.bool true) (.slice (some ⟨g, 0, none⟩) n c) (.slice (some ⟨g, 0, none⟩) n c) (.int .i64 (c : Nat)) v14 v15 v16 v17 v18 v19 v20 v21 v22) (by kernel_rfl) (by kernel_rfl) (by kernel_rfl) (by kernel_rfl) (fun c x w => hQ c x _ _ w) (by kernel_rfl) (fun w hS => by have h1 := h3; have h2 := hn; have h4 := hcn; have h5 := hw; unfold fr12; go_simp) (by kernel_rfl) C0 ?_
  refine take_h (i := 9) (oi := { dst := some 14, op := Op.slice 22 (Operand.tmp 11) none (some (Operand.tmp 13)) none, type := 22, pos := ps, after := #[{ on := 6, ground := Ground.data }, { on := 8, ground := Ground.data }, { on := 5, ground := Ground.guard }], guard := some (5, true) }) (fuel := 9) (v := (.slice (some ⟨g, 0, none⟩) c c)) (fr12 (.slice (some ⟨g, 0, none⟩) n c) (.slice a1 n c1) v2 v3 v4 (.slice (some ⟨g, 0, none⟩) n c) (.int .i64 (n : Nat)) (.slice a1 n c1) (.int .i64 (n : Nat)) (.bool true) (.bool true) (.slice (some ⟨g, 0, none⟩) n c) (.slice (some ⟨g, 0, none⟩) n c) (.int .i64 (c : Nat)) (.slice (some ⟨g, 0, none⟩) c c) v15 v16 v17 v18 v19 v20 v21 v22) (by kernel_rfl) (by kernel_rfl) (by kernel_rfl) (by kernel_rfl) (fun c x w => hQ c x _ _ w) (by kernel_rfl) (fun w hS => by have h1 := h3; have h2 := hn; have h4 := hcn; have h5 := hw; unfold fr12; go_simp) (by kernel_rfl) C0 ?_
  refine take_h (i := 10) (oi := { dst := some 15, op := Op.move (Operand.tmp 1), type := 22, pos := ps, after := #[{ on := 5, ground := Ground.guard }], guard := some (5, true) }) (fuel := 8) (v := (.slice a1 n c1)) (fr12 (.slice (some ⟨g, 0, none⟩) n c) (.slice a1 n c1) v2 v3 v4 (.slice (some ⟨g, 0, none⟩) n c) (.int .i64 (n : Nat)) (.slice a1 n c1) (.int .i64 (n : Nat)) (.bool true) (.bool true) (.slice (some ⟨g, 0, none⟩) n c) (.slice (some ⟨g, 0, none⟩) n c) (.int .i64 (c : Nat)) (.slice (some ⟨g, 0, none⟩) c c) (.slice a1 n c1) v16 v17 v18 v19 v20 v21 v22) (by kernel_rfl) (by kernel_rfl) (by kernel_rfl) (by kernel_rfl) (fun c x w => hQ c x _ _ w) (by kernel_rfl) (fun w _ => by kernel_rfl) (by kernel_rfl) C0 ?_
  refine take_h (i := 12) (oi := { dst := some 17, op := Op.move (Operand.tmp 1), type := 22, pos := ps, after := #[{ on := 5, ground := Ground.guard }], guard := some (5, true) }) (fuel := 7) (v := (.slice a1 n c1)) (fr12 (.slice (some ⟨g, 0, none⟩) n c) (.slice a1 n c1) v2 v3 v4 (.slice (some ⟨g, 0, none⟩) n c) (.int .i64 (n : Nat)) (.slice a1 n c1) (.int .i64 (n : Nat)) (.bool true) (.bool true) (.slice (some ⟨g, 0, none⟩) n c) (.slice (some ⟨g, 0, none⟩) n c) (.int .i64 (c : Nat)) (.slice (some ⟨g, 0, none⟩) c c) (.slice a1 n c1) v16 (.slice a1 n c1) v18 v19 v20 v21 v22) (by kernel_rfl) (by kernel_rfl) (by kernel_rfl) (by kernel_rfl) (fun c x w => hQ c x _ _ w) (by kernel_rfl) (fun w _ => by kernel_rfl) (by kernel_rfl) C0 ?_
  refine take_h (i := 13) (oi := { dst := some 18, op := Op.call { callee := Callee.builtin Builtin.len, args := #[Operand.tmp 17], argTypes := #[22] }, type := 3, pos := ps, after := #[{ on := 12, ground := Ground.data }, { on := 5, ground := Ground.guard }], guard := some (5, true) }) (fuel := 6) (v := (.int .i64 (n : Nat))) (fr12 (.slice (some ⟨g, 0, none⟩) n c) (.slice a1 n c1) v2 v3 v4 (.slice (some ⟨g, 0, none⟩) n c) (.int .i64 (n : Nat)) (.slice a1 n c1) (.int .i64 (n : Nat)) (.bool true) (.bool true) (.slice (some ⟨g, 0, none⟩) n c) (.slice (some ⟨g, 0, none⟩) n c) (.int .i64 (c : Nat)) (.slice (some ⟨g, 0, none⟩) c c) (.slice a1 n c1) v16 (.slice a1 n c1) (.int .i64 (n : Nat)) v19 v20 v21 v22) (by kernel_rfl) (by kernel_rfl) (by kernel_rfl) (by kernel_rfl) (fun c x w => hQ c x _ _ w) (by kernel_rfl) (fun w hS => by have h1 := h3; have h2 := hn; have h4 := hcn; have h5 := hw; unfold fr12; go_simp) (by kernel_rfl) C0 ?_
  refine take_h (i := 14) (oi := { dst := some 19, op := Op.binOp BinOp.add 3 (Operand.tmp 18) (Operand.const (Value.int IntKind.i64 3)) 3, type := 3, pos := ps, after := #[{ on := 13, ground := Ground.data }, { on := 5, ground := Ground.guard }], guard := some (5, true) }) (fuel := 5) (v := (.int .i64 (c : Nat))) (fr12 (.slice (some ⟨g, 0, none⟩) n c) (.slice a1 n c1) v2 v3 v4 (.slice (some ⟨g, 0, none⟩) n c) (.int .i64 (n : Nat)) (.slice a1 n c1) (.int .i64 (n : Nat)) (.bool true) (.bool true) (.slice (some ⟨g, 0, none⟩) n c) (.slice (some ⟨g, 0, none⟩) n c) (.int .i64 (c : Nat)) (.slice (some ⟨g, 0, none⟩) c c) (.slice a1 n c1) v16 (.slice a1 n c1) (.int .i64 (n : Nat)) (.int .i64 (c : Nat)) v20 v21 v22) (by kernel_rfl) (by kernel_rfl) (by kernel_rfl) (by kernel_rfl) (fun c x w => hQ c x _ _ w) (by kernel_rfl) (fun w hS => by have h1 := h3; have h2 := hn; have h4 := hcn; have h5 := hw; unfold fr12; go_simp) (by kernel_rfl) C0 ?_
  refine want_h (i := 11) (oi := { dst := some 16, op := Op.call { callee := Callee.value (Operand.func 26), args := #[Operand.tmp 15], argTypes := #[22] }, type := 22, pos := ps, after := #[{ on := 10, ground := Ground.data }, { on := 5, ground := Ground.chain }, { on := 5, ground := Ground.guard }], guard := some (5, true) }) (fuel := 4) (by kernel_rfl) (by kernel_rfl) (by kernel_rfl) fun K hK => ?_
  unfold fr12
  go_simp
  refine (hL _ C0).mono ?_
  rintro e z1 ⟨m, rfl, hb1, hSm⟩
  refine hK _ _ hb1 (cast_h (fr12 (.slice (some ⟨g, 0, none⟩) n c) (.slice a1 n c1) v2 v3 v4 (.slice (some ⟨g, 0, none⟩) n c) (.int .i64 (n : Nat)) (.slice a1 n c1) (.int .i64 (n : Nat)) (.bool true) (.bool true) (.slice (some ⟨g, 0, none⟩) n c) (.slice (some ⟨g, 0, none⟩) n c) (.int .i64 (c : Nat)) (.slice (some ⟨g, 0, none⟩) c c) (.slice a1 n c1) (.slice (some ⟨m, 0, none⟩) n c) (.slice a1 n c1) (.int .i64 (n : Nat)) (.int .i64 (c : Nat)) v20 v21 v22) (by kernel_rfl) ?_)
  clear hK K
  refine take_h (i := 15) (oi := { dst := some 20, op := Op.slice 22 (Operand.tmp 16) none (some (Operand.tmp 19)) none, type := 22, pos := ps, after := #[{ on := 11, ground := Ground.data }, { on := 14, ground := Ground.data }, { on := 5, ground := Ground.guard }], guard := some (5, true) }) (fuel := 3) (v := (.slice (some ⟨m, 0, none⟩) c c)) (fr12 (.slice (some ⟨g, 0, none⟩) n c) (.slice a1 n c1) v2 v3 v4 (.slice (some ⟨g, 0, none⟩) n c) (.int .i64 (n : Nat)) (.slice a1 n c1) (.int .i64 (n : Nat)) (.bool true) (.bool true) (.slice (some ⟨g, 0, none⟩) n c) (.slice (some ⟨g, 0, none⟩) n c) (.int .i64 (c : Nat)) (.slice (some ⟨g, 0, none⟩) c c) (.slice a1 n c1) (.slice (some ⟨m, 0, none⟩) n c) (.slice a1 n c1) (.int .i64 (n : Nat)) (.int .i64 (c : Nat)) (.slice (some ⟨m, 0, none⟩) c c) v21 v22) (by kernel_rfl) (by kernel_rfl) (by kernel_rfl) (by kernel_rfl) (fun c x w => hQ c x _ _ w) (by kernel_rfl) (fun w hS => by have h1 := h3; have h2 := hn; have h4 := hcn; have h5 := hw; unfold fr12; go_simp) (by kernel_rfl) hb1 ?_
  refine want_h (i := 16) (oi := { dst := some 21, op := Op.call { callee := Callee.value (Operand.func 36), args := #[Operand.tmp 14, Operand.tmp 20], argTypes := #[22, 22] }, type := 4, pos := ps, after := #[{ on := 9, ground := Ground.data }, { on := 15, ground := Ground.data }, { on := 11, ground := Ground.chain }, { on := 5, ground := Ground.guard }], guard := some (5, true) }) (fuel := 2) (by kernel_rfl) (by kernel_rfl) (by kernel_rfl) fun K hK => ?_
  unfold fr12
  go_simp
  refine (hA _ m hb1 hSm).mono ?_
  rintro e z2 ⟨rfl, hb2⟩
  refine hK _ _ hb2 (cast_h (fr12 (.slice (some ⟨g, 0, none⟩) n c) (.slice a1 n c1) v2 v3 v4 (.slice (some ⟨g, 0, none⟩) n c) (.int .i64 (n : Nat)) (.slice a1 n c1) (.int .i64 (n : Nat)) (.bool true) (.bool true) (.slice (some ⟨g, 0, none⟩) n c) (.slice (some ⟨g, 0, none⟩) n c) (.int .i64 (c : Nat)) (.slice (some ⟨g, 0, none⟩) c c) (.slice a1 n c1) (.slice (some ⟨m, 0, none⟩) n c) (.slice a1 n c1) (.int .i64 (n : Nat)) (.int .i64 (c : Nat)) (.slice (some ⟨m, 0, none⟩) c c) (.bool true) v22) (by kernel_rfl) ?_)
  clear hK K
  refine take_h (i := 17) (oi := { dst := some 22, op := Op.pick (Operand.tmp 10) (Operand.tmp 21) (Operand.const (Value.bool false)), type := 4, pos := ps, after := #[{ on := 5, ground := Ground.data }, { on := 16, ground := Ground.data }], guard := none }) (fuel := 1) (v := (.bool true)) (fr12 (.slice (some ⟨g, 0, none⟩) n c) (.slice a1 n c1) v2 v3 v4 (.slice (some ⟨g, 0, none⟩) n c) (.int .i64 (n : Nat)) (.slice a1 n c1) (.int .i64 (n : Nat)) (.bool true) (.bool true) (.slice (some ⟨g, 0, none⟩) n c) (.slice (some ⟨g, 0, none⟩) n c) (.int .i64 (c : Nat)) (.slice (some ⟨g, 0, none⟩) c c) (.slice a1 n c1) (.slice (some ⟨m, 0, none⟩) n c) (.slice a1 n c1) (.int .i64 (n : Nat)) (.int .i64 (c : Nat)) (.slice (some ⟨m, 0, none⟩) c c) (.bool true) (.bool true)) (by kernel_rfl) (by kernel_rfl) (by kernel_rfl) (by kernel_rfl) (fun c x w => hQ c x _ _ w) (by kernel_rfl) (fun w _ => by kernel_rfl) (by kernel_rfl) hb2 ?_
  refine take_h (i := 18) (oi := { dst := some 4, op := Op.assign (Operand.tmp 22), type := 4, pos := ps, after := #[{ on := 17, ground := Ground.data }, { on := 16, ground := Ground.chain }, { on := 0, ground := Ground.phase }, { on := 1, ground := Ground.phase }, { on := 2, ground := Ground.phase }, { on := 3, ground := Ground.phase }, { on := 4, ground := Ground.phase }, { on := 5, ground := Ground.phase }, { on := 6, ground := Ground.phase }, { on := 7, ground := Ground.phase }, { on := 8, ground := Ground.phase }, { on := 9, ground := Ground.phase }, { on := 10, ground := Ground.phase }, { on := 11, ground := Ground.phase }, { on := 12, ground := Ground.phase }, { on := 13, ground := Ground.phase }, { on := 14, ground := Ground.phase }, { on := 15, ground := Ground.phase }, { on := 16, ground := Ground.phase }, { on := 17, ground := Ground.phase }], guard := none }) (fuel := 0) (v := (.bool true)) (fr12 (.slice (some ⟨g, 0, none⟩) n c) (.slice a1 n c1) v2 v3 (.bool true) (.slice (some ⟨g, 0, none⟩) n c) (.int .i64 (n : Nat)) (.slice a1 n c1) (.int .i64 (n : Nat)) (.bool true) (.bool true) (.slice (some ⟨g, 0, none⟩) n c) (.slice (some ⟨g, 0, none⟩) n c) (.int .i64 (c : Nat)) (.slice (some ⟨g, 0, none⟩) c c) (.slice a1 n c1) (.slice (some ⟨m, 0, none⟩) n c) (.slice a1 n c1) (.int .i64 (n : Nat)) (.int .i64 (c : Nat)) (.slice (some ⟨m, 0, none⟩) c c) (.bool true) (.bool true)) (by kernel_rfl) (by kernel_rfl) (by kernel_rfl) (by kernel_rfl) (fun c x w => hQ c x _ _ w) (by kernel_rfl) (fun w _ => by kernel_rfl) (by kernel_rfl) hb2 ?_
  exact wpAnyH_done (by kernel_rfl) (hq _ _ hb2) _
set_option maxRecDepth 100000 in
set_option maxHeartbeats 4000000 in
theorem kept_any (g : Nat) (v1 : Value) (ss : List ByteArray) (hl : ss.length ≤ 300) (w : World) (h : SBk w g (ss ++ List.replicate 3 lentS)) (t1 : TxAt w v1 ss) :
    Calls Try.prog 20 #[.slice (some ⟨g, 0, none⟩) ss.length (ss.length + 3), v1] w fun e w' => e = .returned (.bool true) ∧ Below w.heap.size w w' := by
  have hLe : Hid (∀ W, Below w.heap.size w W → Calls Try.prog 26 #[v1] W fun e w' => ∃ m, e = .returned (.slice (some ⟨m, 0, none⟩) ss.length (ss.length + 3)) ∧ Below w.heap.size w w' ∧ SBk w' m (ss ++ List.replicate 3 lentS)) := fun W hb => by
    refine (lent_any v1 ss hl W (t1.below hb (Nat.le_refl _))).mono ?_
    rintro e w' ⟨rfl, h1, h2⟩
    exact ⟨_, rfl, hb.trans (h1.mono hb.size), h2⟩
  have hlen3 : (ss ++ List.replicate 3 lentS).length = ss.length + 3 := by simp
  have hSa : Hid (∀ W m, Below w.heap.size w W → SBk W m (ss ++ List.replicate 3 lentS) → Calls Try.prog 36 #[.slice (some ⟨g, 0, none⟩) (ss.length + 3) (ss.length + 3), .slice (some ⟨m, 0, none⟩) (ss.length + 3) (ss.length + 3)] W fun e w' => e = .returned (.bool true) ∧ Below w.heap.size w w') := fun W m hb hm => by
    have x1 := (h.below hb h.lt).tx (ss.length + 3) (ss.length + 3) (by omega) (by unfold maxLen; omega) (Nat.le_refl _) hlen3
    have x2 := hm.tx (ss.length + 3) (ss.length + 3) (by omega) (by unfold maxLen; omega) (Nat.le_refl _) hlen3
    rw [List.take_of_length_le (by omega)] at x1 x2
    refine (sameTexts_yes _ _ _ W (by omega) (strs_of_rec x1) (strs_of_rec x2)).mono ?_
    rintro e w' ⟨rfl, h1⟩
    exact ⟨rfl, hb.trans (h1.mono hb.size)⟩
  obtain ⟨a1, c1, rfl, -⟩ := t1.ex
  have hlr : ss.length + 3 = (ss ++ List.replicate 3 lentS).length := hlen3.symm
  clear h t1 hlen3 hlr
  obtain ⟨c, hc⟩ : ∃ c, ss.length + 3 = c := ⟨_, rfl⟩
  rw [hc] at hLe hSa ⊢
  have hLe' := hLe.out
  have hSa' := hSa.out
  go_enter Try.func20, Try.ntmps20
  go_wp2_with fail
  refine kept_region _ (fun _ _ _ _ _ h => h) _ _ g ss.length c c1 a1 (by omega) hl (by omega) (by simp [IntKind.wrap, IntKind.bits]; omega) w (fun m w' => SBk w' m (ss ++ List.replicate 3 lentS)) hLe' hSa' ?_
  intro m w' hb
  unfold fr12
  go_wp2_with fail
  go_ret
  exact ⟨rfl, hb⟩
end Go.Proofs.Ytkhnfmdhdfpdhaa
