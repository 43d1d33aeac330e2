/-
  What is proved here: what lay of digits does.
-/
import Derived.Test.YtfblhpkndfbhgaaDoorWalkA
namespace Go.Proofs.YtfblhpkndfbhgaaDoor
open Go.RowKit Go.Shelf

def ints (d : List Int) : List Value := d.map (Value.int .i64)
theorem ints_one (d : List Int) : ∀ u ∈ ints d, u.oneCell' = true := by
  intro u hu
  obtain ⟨x, _, rfl⟩ := List.mem_map.1 hu
  rfl
theorem ints_append (d e : List Int) : ints (d ++ e) = ints d ++ ints e := List.map_append ..
/-- A block of cells. -/
def Blk (w : World) (b : Nat) (cs : Array Value) (t : TypeId) : Prop := w.heap[b]? = some (.cells cs t (0, 0))
theorem Blk.lt {w : World} {b : Nat} {cs : Array Value} {t : TypeId} (h : Blk w b cs t) : b < w.heap.size := (Array.getElem?_eq_some_iff.1 h).1
theorem Blk.cell {w : World} {b : Nat} {cs : Array Value} {t : TypeId} (h : Blk w b cs t) (o : Nat) : w.cell? ⟨b, o, none⟩ = cs[o]? := by rw [Lib.cell_of_heap h]
theorem Blk.free {w : World} {b : Nat} {cs : Array Value} {t : TypeId} (h : Blk w b cs t) (o : Nat) : w.frozen? ⟨b, o, none⟩ = false := Lib.frozen_of_heap h o
theorem Blk.set {w : World} {b : Nat} {cs : Array Value} {t : TypeId} (h : Blk w b cs t) (o : Nat) (v : Value) : Blk (w.setCell ⟨b, o, none⟩ v) b (cs.setIfInBounds o v) t := heap_setCell_same w b o cs t v h
theorem Blk.other {w : World} {b c : Nat} {cs : Array Value} {t : TypeId} (h : Blk w b cs t) (o : Nat) (v : Value) (hne : b ≠ c) : Blk (w.setCell ⟨c, o, none⟩ v) b cs t := (Below.heap_setCell _ _ _ b hne).trans h
theorem Blk.turns {w w' : World} {b : Nat} {cs : Array Value} {t : TypeId} {X : Nat → Prop} (h : Blk w b cs t) (ht : Turns X w w') (hx : ¬ X b) : Blk w' b cs t := (ht.block b h.lt hx).trans h
theorem setSelf {cs : Array Value} {o : Nat} {v : Value} (h : cs[o]? = some v) : cs.setIfInBounds o v = cs := by
  have hl := (Array.getElem?_eq_some_iff.1 h).1
  apply Array.ext_getElem?
  intro i
  by_cases e : o = i
  · subst e
    rw [Array.getElem?_setIfInBounds_self_of_lt hl, h]
  · rw [Array.getElem?_setIfInBounds_ne e]
theorem setSet (cs : Array Value) (o : Nat) (v u : Value) : (cs.setIfInBounds o v).setIfInBounds o u = cs.setIfInBounds o u := by
  apply Array.ext_getElem?
  intro i
  simp only [Array.getElem?_setIfInBounds]
  split <;> simp

/-- An append, and where the new row lies. -/
theorem run_append_anyw {P : Program} (w : World) (base : Nat) (t ty e : TypeId) (i : TypeInfo) (z : Value) (size bytes : Nat) (ht : P.underlying t = some (.slice e)) (hi : P.info? e = some i) (hz : i.zero = some z)
    (hsize : i.size = size) (hby : i.bytes = bytes) (hzs : z.cells.size = size) (hsz : 0 < size)
    (v : Value) (n : Nat) (xs : List Value) (hown : w.ownsRow base e size v n xs) (x : Value) (m : Nat) (news : List Value) (hx : Srcs w size x m news)
    (h63 : n + m ≤ maxLen) (hbytes : (n + m) * bytes ≤ 140737488355328) (hbase : base ≤ w.heap.size) :
    ∃ v' w', (Builtin.append_ #[t, t] ty #[v, x]).run P w = .ok v' w' ∧ w'.ownsRow base e size v' (n + m) (xs ++ news) ∧ w.grownBy w' v.ownBlock ∧ (v'.ownBlock = v.ownBlock ∨ ∀ g, v'.ownBlock = some g → w.heap.size ≤ g) := by
  obtain ⟨hl, h1, hx⟩ := hx
  rcases hx with ⟨rfl, c, rfl⟩ | ⟨a, c, rfl, hc⟩
  · have hn : news = [] := List.eq_nil_of_length_eq_zero (by simpa using hl)
    subst hn
    refine ⟨v, w, ?_, by simpa using hown, World.grownBy.refl _ _, .inl rfl⟩
    rcases hown.2 with ⟨rfl, rfl⟩ | ⟨g, cap, cur, rfl, hbg, hg, hnc, hcm, hcs, htake⟩
    · simp [Builtin.append_, run_underlying ht, sizeOf, typeInfo, hi, Builtin.lenOf, run_firstCells_none]
    · have := run_append_room_src (P := P) w t t ty e i ht hi g 0 n cap (.slice none 0 c) 0 [] (Src.ofNil w ht c) (by omega) (by simp) (by simp)
      rw [this]
      simp [World.setCells]
  · exact run_append_where (P := P) w base t ty e i z size bytes ht hi hz hsize hby hzs hsz v n xs hown a m c news hl hc h1 h63 hbytes hbase
theorem wpList_append_anyw {P : Program} (w : World) {ops : Array Oper} {rest : List Oper} {o : Oper} {a : Act} {Q : Exit → Act → World → Prop} (hgd : o.guard = none) (sl x : Operand) (t : TypeId)
    (ho : o.op = .call { callee := .builtin .append, args := #[sl, x], argTypes := #[t, t] })
    (base : Nat) (e : TypeId) (i : TypeInfo) (z : Value) (size bytes : Nat) (ht : P.underlying t = some (.slice e)) (hi : P.info? e = some i) (hz : i.zero = some z) (hsize : i.size = size) (hby : i.bytes = bytes) (hzs : z.cells.size = size) (hsz : 0 < size)
    (v : Value) (n : Nat) (xs : List Value) (hs : a.eval sl = v) (hown : w.ownsRow base e size v n xs) (m : Nat) (news : List Value) (u : Value) (hxe : a.eval x = u) (hx : Srcs w size u m news)
    (h63 : n + m ≤ maxLen) (hbytes : (n + m) * bytes ≤ 140737488355328) (hbase : base ≤ w.heap.size)
    (h : ∀ v' w', w'.ownsRow base e size v' (n + m) (xs ++ news) → w.grownBy w' v.ownBlock → (v'.ownBlock = v.ownBlock ∨ ∀ g, v'.ownBlock = some g → w.heap.size ≤ g) → wpList P ops Q rest (a.put o.dst v') w') : wpList P ops Q (o :: rest) a w := by
  refine wpList_plain hgd fun K hK => ?_
  obtain ⟨v', w', hr, h2, h3, h4⟩ := run_append_anyw (P := P) w base t o.type e i z size bytes ht hi hz hsize hby hzs hsz v n xs hown u m news hx h63 hbytes hbase
  unfold Oper.wp execOp
  simp only [ho, resolve, invoke, builtin, Sem.run_bind, Sem.run_pure, Result.andThen_ok, List.map_toArray, List.map_cons, List.map_nil, hs, hxe, hr]
  exact hK _ _ (h v' w' h2 h3 h4)
/-- One value, built for an append. -/
theorem srcs_one (w : World) (e : TypeId) (u : Value) (h1 : u.oneCell' = true) : Srcs (w.alloc (.cells #[u] e)) 1 (.slice (some ⟨w.heap.size, 0, none⟩) 1 1) 1 [u] := by
  refine ⟨rfl, by simpa using h1, .inr ⟨_, _, rfl, fun j x hj => ?_⟩⟩
  match j, hj with
  | 0, hj =>
    simp at hj
    subst hj
    rw [addr_add0]
    rw [Lib.cell_of_heap (World.alloc_heap_new w (.cells #[u] e (0, 0)))]; rfl
theorem row_val {w : World} {base : Nat} {e : TypeId} {sz : Nat} {v : Value} {n : Nat} {xs : List Value} (h : w.ownsRow base e sz v n xs) : ∃ a cap, v = .slice a n cap := by
  rcases h.2 with ⟨rfl, rfl⟩ | ⟨g, cap, cur, rfl, _⟩
  · exact ⟨_, _, rfl⟩
  · exact ⟨_, _, rfl⟩
/-- A row lies in no block of another type. -/
theorem row_ne {w : World} {base : Nat} {e t : TypeId} {sz : Nat} {v : Value} {n b : Nat} {xs : List Value} {cs : Array Value} (h : w.ownsRow base e sz v n xs) (hB : Blk w b cs t) (ht : t ≠ e) : v.ownBlock ≠ some b := fun hb => by
  rcases h.2 with ⟨rfl, rfl⟩ | ⟨g, cap, cur, rfl, _, hg, _⟩
  · cases hb
  · cases hb
    rw [hB] at hg
    injection hg with hg
    injection hg with h1 h2
    exact ht h2
def lenAt (b o : Nat) (w : World) : Nat := match w.cell? ⟨b, o, none⟩ with
  | some (.slice _ n _) => n
  | _ => 0
theorem lenAt_is {w : World} {b o n cap : Nat} {a : Option Addr} (h : w.cell? ⟨b, o, none⟩ = some (.slice a n cap)) : lenAt b o w = n := by simp [lenAt, h]

set_option maxRecDepth 100000 in
set_option maxHeartbeats 1000000 in
theorem lay_any (b o k : Nat) (x : Int) (w : World) (cs : Array Value) (t : TypeId) (ht : t ≠ 3) (hB : Blk w b cs t) (d : List Int) (v : Value) (hv : cs[o]? = some v) (hr : w.ownsRow 0 3 1 v d.length (ints d)) (hk : k < 1000000) (_hd : d.length < 1000000) :
    Calls Tryd.prog 52 #[.pointer (some ⟨b, o, none⟩), .int .i64 k, .int .i64 x] w fun e w' => e = .returned (.tuple #[]) ∧ ∃ v', Blk w' b (cs.setIfInBounds o v') t ∧ w'.ownsRow 0 3 1 v' (layL d k x).length (ints (layL d k x)) ∧ Turns (fun i => i = b ∨ v.ownBlock = some i) w w' ∧
      (v'.ownBlock = v.ownBlock ∨ ∀ g, v'.ownBlock = some g → w.heap.size ≤ g) := by
  have ho : o < cs.size := (Array.getElem?_eq_some_iff.1 hv).1
  obtain ⟨i3, hi⟩ := Option.isSome_iff_exists.1 (show (Tryd.prog.info? 3).isSome = true by kernel_rfl)
  have hz0 : i3.zero = some (.int .i64 0) := by
    have h : (Tryd.prog.info? 3).map (·.zero) = some (some (.int .i64 0)) := by kernel_rfl
    rw [hi] at h; simpa using h
  have hz1 : i3.size = 1 := by
    have h : (Tryd.prog.info? 3).map (·.size) = some 1 := by kernel_rfl
    rw [hi] at h; simpa using h
  have hz2 : i3.bytes = 8 := by
    have h : (Tryd.prog.info? 3).map (·.bytes) = some 8 := by kernel_rfl
    rw [hi] at h; simpa using h
  go_enter Tryd.func52, Tryd.ntmps52
  go_wp2_with fail
  go_loopw [11] (fun _ wr => ∃ (n : Nat) (v' : Value), n ≤ k + 1 - d.length ∧ Blk wr b (cs.setIfInBounds o v') t ∧ wr.ownsRow 0 3 1 v' (d.length + n) (ints (d ++ List.replicate n 0)) ∧ Turns (fun i => i = b ∨ v.ownBlock = some i) w wr ∧ Hid (v'.ownBlock = v.ownBlock ∨ ∀ g, v'.ownBlock = some g → w.heap.size ≤ g)) (fun _ wr => k + 1 - lenAt b o wr)
  case atStart => exact ⟨0, v, by omega, by rw [setSelf hv]; exact hB, by simpa using hr, Turns.refl _ _, .inl rfl⟩
  case round =>
    obtain ⟨n, v1, hn, hB1, hr1, hT, hw⟩ := hrel
    have c0 : wr.cell? ⟨b, o, none⟩ = some v1 := by rw [hB1.cell]; simp [ho]
    obtain ⟨a1, cap1, rfl⟩ := row_val hr1
    have hm0 : Hid (lenAt b o wr = d.length + n) := lenAt_is c0
    have hne := row_ne hr1 hB1 ht
    by_cases hlt : d.length + n ≤ k
    · have f1 : ((d.length + n : Nat) : Int) ≤ k := by omega
      have hHn : Hid (Blk wr b (cs.setIfInBounds o (.slice a1 (d.length + n) cap1)) t ∧ (Value.slice a1 (d.length + n) cap1).ownBlock ≠ some b) := ⟨hB1, hne⟩
      have hTh : Hid (Turns (fun i => i = b ∨ v.ownBlock = some i) w wr) := hT
      have hdd : Hid (d = d) := rfl
      generalize hL : d.length + n = L at *
      clear hne hB1 hT
      go_wp2_with (at_builtin; refine wpList_append_anyw _ rfl _ _ 43 rfl 0 3 i3 _ 1 8 Tryd.underlying43 hi hz0 hz1 hz2 rfl (by decide) _ L _ rfl (by exact hr1.alloc _) 1 _ _ rfl (by exact srcs_one wr 3 (.int .i64 0) rfl) (by unfold maxLen; omega) (by omega) (by simp) ?_; intro v2 w2 hown hgrow hwh; obtain ⟨a2, cap2, rfl⟩ := row_val hown; have hB2 : Blk w2 b (cs.setIfInBounds o (.slice a1 L cap1)) t := (hgrow.block b (by have := hHn.out.1.lt; simp; omega) (fun e => hHn.out.2 e.symm)).trans ((Below.heap_alloc _ _ _ hHn.out.1.lt).trans hHn.out.1); have f2 := hB2.free o; have c2 : w2.cell? ⟨b, o, none⟩ = some (.slice a1 L cap1) := by rw [hB2.cell]; simp [ho])
      have hrow2 : (w2.setCell ⟨b, o, none⟩ (.slice a2 (L + 1) cap2)).ownsRow 0 3 1 (.slice a2 (L + 1) cap2) (L + 1) (ints (d ++ List.replicate (n + 1) 0)) := by
        have h1 : w2.ownsRow 0 3 1 (.slice a2 (L + 1) cap2) (L + 1) (ints (d ++ List.replicate (n + 1) 0)) := by
          rw [List.replicate_succ', ← List.append_assoc, ints_append]; exact hown
        exact ownsRow_turns h1 (Turns.setCell (X := fun i => i = b) w2 (p := ⟨b, o, none⟩) rfl _) (fun g hg e => row_ne h1 hB2 ht (e ▸ hg))
      have hB3 := hB2.set o (.slice a2 (L + 1) cap2)
      rw [setSet] at hB3
      have hT3 : Turns (fun i => i = b ∨ v.ownBlock = some i) w (w2.setCell ⟨b, o, none⟩ (.slice a2 (L + 1) cap2)) := by
        refine (hTh.out.trans (Turns.alloc _ _ _)).trans' (Y := fun i => i = b ∨ (Value.slice a1 L cap1).ownBlock = some i) (((Turns.of_grownBy hgrow).mono ?_).trans (Turns.setCell w2 (p := ⟨b, o, none⟩) (.inl rfl) _)) ?_
        · intro i hi; exact .inr hi
        · rintro i (rfl | hi)
          · exact .inl (.inl rfl)
          · rcases hw.out with h | h
            · exact .inl (.inr (h ▸ hi))
            · exact .inr (h i hi)
      have hw3 : (Value.slice a2 (L + 1) cap2).ownBlock = v.ownBlock ∨ ∀ g, (Value.slice a2 (L + 1) cap2).ownBlock = some g → w.heap.size ≤ g := by
        rcases hwh with h | h
        · rcases hw.out with h2 | h2
          · exact .inl (h.trans h2)
          · exact .inr fun g hg => h2 g (h.symm.trans hg)
        · refine .inr fun g hg => Nat.le_trans ?_ (h g hg)
          have := hTh.out.size
          simp; omega
      go_roundw
      case rel => exact ⟨n + 1, _, by omega, hB3, by rw [← Nat.add_assoc, hL]; exact hrow2, hT3, hw3⟩
      case measure =>
        rw [hm0.out, lenAt_is (n := L + 1) (a := a2) (cap := cap2) (by rw [hB3.cell]; simp [ho])]; omega
    · have hnn : Hid (d ++ List.replicate (k + 1 - d.length) 0 = d ++ List.replicate n 0) := by
        show _ = _
        rw [show n = k + 1 - d.length by omega]
      have hlen : Hid ((layL d k x).length = d.length + n) := by
        show _ = _
        rw [lay_len]; omega
      have hlay : Hid (layL d k x = (d ++ List.replicate n 0).set k (max (atL d k) x)) := by
        show _ = _
        rw [layL, hnn.out]
      rcases hr1.2 with ⟨h1, h2⟩ | ⟨g, cap, cur, h1, _, hg, hcap, hcm, hcs, htk⟩
      · exfalso; omega
      cases h1
      have hkk : k < d.length + n := by omega
      have hgb : Blk wr g cur 3 := hg
      have hgk : cur[k]? = some (.int .i64 (atL d k)) := by
        have h3 : (cur.toList.take ((d.length + n) * 1))[k]? = (ints (d ++ List.replicate n 0))[k]? := by rw [htk]
        rw [List.getElem?_take_of_lt (by omega)] at h3
        rw [← Array.getElem?_toList, h3, ints, List.getElem?_map, ← atL_pad d n k, atL, List.getD_eq_getElem?_getD, List.getElem?_eq_getElem (by simp; omega)]
        rfl
      have c1 : wr.cell? ⟨g, k, none⟩ = some (.int .i64 (atL d k)) := by rw [hgb.cell]; exact hgk
      have f1 := hgb.free k
      have hH : Hid (wr.ownsRow 0 3 1 (.slice (some ⟨g, 0, none⟩) (d.length + n) cap1) (d.length + n) (ints (d ++ List.replicate n 0)) ∧ g ≠ b) := ⟨hr1, fun e => hne (by rw [e]; rfl)⟩
      have hBh : Hid (Blk wr b (cs.setIfInBounds o (.slice (some ⟨g, 0, none⟩) (d.length + n) cap1)) t) := hB1
      have hTh : Hid (Turns (fun i => i = b ∨ v.ownBlock = some i) w wr) := hT
      have hgh : Hid (Blk wr g cur 3 ∧ (d.length + n ≤ cap1 ∧ cap1 ≤ maxLen ∧ cur.size = cap1 * 1 ∧ cur.toList.take ((d.length + n) * 1) = ints (d ++ List.replicate n 0))) := ⟨hgb, hcap, hcm, hcs, htk⟩
      generalize atL d k = y at *
      have hx : Hid (max y x = max y x) := rfl
      clear hnn hgk hgb htk hcs hcm hcap hg hne hB1 hT hr1 hm0
      go_wp2_with fail
      go_region
      have hfin : ∀ m, m = max y x → Blk (wr.setCell ⟨g, k, none⟩ (.int .i64 m)).drew b (cs.setIfInBounds o (.slice (some ⟨g, 0, none⟩) (d.length + n) cap1)) t ∧
          (wr.setCell ⟨g, k, none⟩ (.int .i64 m)).drew.ownsRow 0 3 1 (.slice (some ⟨g, 0, none⟩) (d.length + n) cap1) (layL d k x).length (ints (layL d k x)) ∧ Turns (fun i => i = b ∨ v.ownBlock = some i) w (wr.setCell ⟨g, k, none⟩ (.int .i64 m)).drew := by
        rintro m rfl
        refine ⟨hBh.out.other k _ hH.out.2.symm, ?_, ?_⟩
        · rw [hlen.out, hlay.out]
          obtain ⟨q0, q1, q2, q3, q4⟩ := hgh.out
          refine ⟨by simp [ints], .inr ⟨g, cap1, cur.setIfInBounds k (.int .i64 (max y x)), rfl, Nat.zero_le _, hgh.out.1.set k _, q1, q2, by simpa using q3, ?_⟩⟩
          rw [Array.toList_setIfInBounds, ints, List.map_set, ← ints, ← q4, List.take_set]
        · refine hTh.out.trans' (Y := fun i => i = g) ((Turns.setCell (X := fun i => i = g) wr (p := ⟨g, k, none⟩) rfl _).trans (Turns.drew _ _)) ?_
          rintro i rfl
          rcases hw.out with h | h
          · exact .inl (.inr (h ▸ rfl))
          · exact .inr (h i rfl)
      go_wp2_with fail
      · rename_i hyx
        go_returns
        obtain ⟨r1, r2, r3⟩ := hfin x (by omega)
        exact ⟨rfl, _, r1, r2, r3, hw.out⟩
      · rename_i hyx
        go_returns
        obtain ⟨r1, r2, r3⟩ := hfin y (by omega)
        exact ⟨rfl, _, r1, r2, r3, hw.out⟩

/-- Digits in memory, and what has turned since a world: their box, their row. -/
def Dig (w0 : World) (v0 : Value) (b o : Nat) (cs : Array Value) (t : TypeId) (d : List Int) (w : World) : Prop :=
  ∃ v, Blk w b (cs.setIfInBounds o v) t ∧ w.ownsRow 0 3 1 v d.length (ints d) ∧ Turns (fun i => i = b ∨ v0.ownBlock = some i) w0 w ∧ (v.ownBlock = v0.ownBlock ∨ ∀ g, v.ownBlock = some g → w0.heap.size ≤ g)
theorem Dig.start {w : World} {b o : Nat} {cs : Array Value} {t : TypeId} {d : List Int} {v : Value} (hB : Blk w b cs t) (hv : cs[o]? = some v) (hr : w.ownsRow 0 3 1 v d.length (ints d)) : Dig w v b o cs t d w :=
  ⟨v, by rw [setSelf hv]; exact hB, hr, Turns.refl _ _, .inl rfl⟩
theorem lay_step {w0 : World} {v0 : Value} {b o : Nat} {cs : Array Value} {t : TypeId} {d : List Int} {w : World} (ho : o < cs.size) (ht : t ≠ 3) (h : Dig w0 v0 b o cs t d w) (k : Nat) (x : Int) (hk : k < 1000000) (hd : d.length < 1000000) :
    Calls Tryd.prog 52 #[.pointer (some ⟨b, o, none⟩), .int .i64 k, .int .i64 x] w fun e w' => e = .returned (.tuple #[]) ∧ Dig w0 v0 b o cs t (layL d k x) w' := by
  obtain ⟨v, hB, hr, hT, hw⟩ := h
  refine (lay_any b o k x w _ t ht hB d v (by simp [ho]) hr hk hd).mono ?_
  rintro e w' ⟨rfl, v', h1, h2, h3, h4⟩
  rw [setSet] at h1
  refine ⟨rfl, v', h1, h2, hT.trans' h3 ?_, ?_⟩
  · rintro i (rfl | hi)
    · exact .inl (.inl rfl)
    · rcases hw with h | h
      · exact .inl (.inr (h ▸ hi))
      · exact .inr (h i hi)
  · rcases h4 with h4 | h4
    · rcases hw with h | h
      · exact .inl (h4.trans h)
      · exact .inr fun g hg => h g (h4.symm.trans hg)
    · exact .inr fun g hg => Nat.le_trans hT.size (h4 g hg)
end Go.Proofs.YtfblhpkndfbhgaaDoor
