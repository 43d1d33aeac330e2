/-
  What is proved here: what lay of digits does.
  What is proved here: what eachDigit does, its digits laid.
  What is proved here: maps in memory, read, turned and kept.
  What is proved here: tries in memory: nodes, kept and turned.
-/
import Derived.Test.YtbdpghjegachaaaGreatDoorG16
import Derived.Maps.OwnSet
namespace Go.Proofs.YtbdpghjegachaaaGreatDoor.Hy
open Go.RowKit Go.Shelf

def ints (d : List Int) : List Value := d.map (Value.int .i64)
theorem ints_append (d e : List Int) : ints (d ++ e) = ints d ++ ints e := List.map_append ..
/-- A block of cells. -/
def Blk (w : World) (b : Nat) (cs : Array Value) (t : TypeId) : Prop := w.heap[b]? = some (.cells cs t (0, 0))
theorem Blk.lt {w : World} {b : Nat} {cs : Array Value} {t : TypeId} (h : Blk w b cs t) : b < w.heap.size := (Array.getElem?_eq_some_iff.1 h).1
theorem Blk.cell {w : World} {b : Nat} {cs : Array Value} {t : TypeId} (h : Blk w b cs t) (o : Nat) : w.cell? ⟨b, o, none⟩ = cs[o]? := by rw [Lib.cell_of_heap h]
theorem Blk.free {w : World} {b : Nat} {cs : Array Value} {t : TypeId} (h : Blk w b cs t) (o : Nat) : w.frozen? ⟨b, o, none⟩ = false := Lib.frozen_of_heap h o
theorem Blk.set {w : World} {b : Nat} {cs : Array Value} {t : TypeId} (h : Blk w b cs t) (o : Nat) (v : Value) : Blk (w.setCell ⟨b, o, none⟩ v) b (cs.setIfInBounds o v) t := heap_setCell_same w b o cs t v h
theorem Blk.other {w : World} {b c : Nat} {cs : Array Value} {t : TypeId} (h : Blk w b cs t) (o : Nat) (v : Value) (hne : b ≠ c) : Blk (w.setCell ⟨c, o, none⟩ v) b cs t := (Below.heap_setCell _ _ _ b hne).trans h
theorem Blk.turns {w w' : World} {b : Nat} {cs : Array Value} {t : TypeId} {X : Nat → Prop} (h : Blk w b cs t) (ht : Turns X w w') (hx : ¬ X b) : Blk w' b cs t := (ht.block b h.lt hx).trans h
theorem setSelf {cs : Array Value} {o : Nat} {v : Value} (h : cs[o]? = some v) : cs.setIfInBounds o v = cs := by
  have hl := (Array.getElem?_eq_some_iff.1 h).1
  apply Array.ext_getElem?
  intro i
  by_cases e : o = i
  · subst e
    rw [Array.getElem?_setIfInBounds_self_of_lt hl, h]
  · rw [Array.getElem?_setIfInBounds_ne e]
theorem setSet (cs : Array Value) (o : Nat) (v u : Value) : (cs.setIfInBounds o v).setIfInBounds o u = cs.setIfInBounds o u := by
  apply Array.ext_getElem?
  intro i
  simp only [Array.getElem?_setIfInBounds]
  split <;> simp

/-- An append, and where the new row lies. -/
theorem run_append_anyw {P : Program} (w : World) (base : Nat) (t ty e : TypeId) (i : TypeInfo) (z : Value) (size bytes : Nat) (ht : P.underlying t = some (.slice e)) (hi : P.info? e = some i) (hz : i.zero = some z)
    (hsize : i.size = size) (hby : i.bytes = bytes) (hzs : z.cells.size = size) (hsz : 0 < size)
    (v : Value) (n : Nat) (xs : List Value) (hown : w.ownsRow base e size v n xs) (x : Value) (m : Nat) (news : List Value) (hx : Srcs w size x m news)
    (h63 : n + m ≤ maxLen) (hbytes : (n + m) * bytes ≤ 140737488355328) (hbase : base ≤ w.heap.size) :
    ∃ v' w', (Builtin.append_ #[t, t] ty #[v, x]).run P w = .ok v' w' ∧ w'.ownsRow base e size v' (n + m) (xs ++ news) ∧ w.grownBy w' v.ownBlock ∧ (v'.ownBlock = v.ownBlock ∨ ∀ g, v'.ownBlock = some g → w.heap.size ≤ g) := by
  obtain ⟨hl, h1, hx⟩ := hx
  rcases hx with ⟨rfl, c, rfl⟩ | ⟨a, c, rfl, hc⟩
  · have hn : news = [] := List.eq_nil_of_length_eq_zero (by simpa using hl)
    subst hn
    refine ⟨v, w, ?_, by simpa using hown, World.grownBy.refl _ _, .inl rfl⟩
    rcases hown.2 with ⟨rfl, rfl⟩ | ⟨g, cap, cur, rfl, hbg, hg, hnc, hcm, hcs, htake⟩
    · simp [Builtin.append_, run_underlying ht, sizeOf, typeInfo, hi, Builtin.lenOf, run_firstCells_none]
    · have := run_append_room_src (P := P) w t t ty e i ht hi g 0 n cap (.slice none 0 c) 0 [] (Src.ofNil w ht c) (by omega) (by simp) (by simp)
      rw [this]
      simp [World.setCells]
  · exact run_append_where (P := P) w base t ty e i z size bytes ht hi hz hsize hby hzs hsz v n xs hown a m c news hl hc h1 h63 hbytes hbase
theorem wpList_append_anyw {P : Program} (w : World) {ops : Array Oper} {rest : List Oper} {o : Oper} {a : Act} {Q : Exit → Act → World → Prop} (hgd : o.guard = none) (sl x : Operand) (t : TypeId)
    (ho : o.op = .call { callee := .builtin .append, args := #[sl, x], argTypes := #[t, t] })
    (base : Nat) (e : TypeId) (i : TypeInfo) (z : Value) (size bytes : Nat) (ht : P.underlying t = some (.slice e)) (hi : P.info? e = some i) (hz : i.zero = some z) (hsize : i.size = size) (hby : i.bytes = bytes) (hzs : z.cells.size = size) (hsz : 0 < size)
    (v : Value) (n : Nat) (xs : List Value) (hs : a.eval sl = v) (hown : w.ownsRow base e size v n xs) (m : Nat) (news : List Value) (u : Value) (hxe : a.eval x = u) (hx : Srcs w size u m news)
    (h63 : n + m ≤ maxLen) (hbytes : (n + m) * bytes ≤ 140737488355328) (hbase : base ≤ w.heap.size)
    (h : ∀ v' w', w'.ownsRow base e size v' (n + m) (xs ++ news) → w.grownBy w' v.ownBlock → (v'.ownBlock = v.ownBlock ∨ ∀ g, v'.ownBlock = some g → w.heap.size ≤ g) → wpList P ops Q rest (a.put o.dst v') w') : wpList P ops Q (o :: rest) a w := by
  refine wpList_plain hgd fun K hK => ?_
  obtain ⟨v', w', hr, h2, h3, h4⟩ := run_append_anyw (P := P) w base t o.type e i z size bytes ht hi hz hsize hby hzs hsz v n xs hown u m news hx h63 hbytes hbase
  unfold Oper.wp execOp
  simp only [ho, resolve, invoke, builtin, Sem.run_bind, Sem.run_pure, Result.andThen_ok, List.map_toArray, List.map_cons, List.map_nil, hs, hxe, hr]
  exact hK _ _ (h v' w' h2 h3 h4)
/-- One value, built for an append. -/
theorem srcs_one (w : World) (e : TypeId) (u : Value) (h1 : u.oneCell' = true) : Srcs (w.alloc (.cells #[u] e)) 1 (.slice (some ⟨w.heap.size, 0, none⟩) 1 1) 1 [u] := by
  refine ⟨rfl, by simpa using h1, .inr ⟨_, _, rfl, fun j x hj => ?_⟩⟩
  match j, hj with
  | 0, hj =>
    simp at hj
    subst hj
    rw [addr_add0]
    rw [Lib.cell_of_heap (World.alloc_heap_new w (.cells #[u] e (0, 0)))]; rfl
theorem row_val {w : World} {base : Nat} {e : TypeId} {sz : Nat} {v : Value} {n : Nat} {xs : List Value} (h : w.ownsRow base e sz v n xs) : ∃ a cap, v = .slice a n cap := by
  rcases h.2 with ⟨rfl, rfl⟩ | ⟨g, cap, cur, rfl, _⟩
  · exact ⟨_, _, rfl⟩
  · exact ⟨_, _, rfl⟩
/-- A row lies in no block of another type. -/
theorem row_ne {w : World} {base : Nat} {e t : TypeId} {sz : Nat} {v : Value} {n b : Nat} {xs : List Value} {cs : Array Value} (h : w.ownsRow base e sz v n xs) (hB : Blk w b cs t) (ht : t ≠ e) : v.ownBlock ≠ some b := fun hb => by
  rcases h.2 with ⟨rfl, rfl⟩ | ⟨g, cap, cur, rfl, _, hg, _⟩
  · cases hb
  · cases hb
    rw [hB] at hg
    injection hg with hg
    injection hg with h1 h2
    exact ht h2
def lenAt (b o : Nat) (w : World) : Nat := match w.cell? ⟨b, o, none⟩ with
  | some (.slice _ n _) => n
  | _ => 0
theorem lenAt_is {w : World} {b o n cap : Nat} {a : Option Addr} (h : w.cell? ⟨b, o, none⟩ = some (.slice a n cap)) : lenAt b o w = n := by simp [lenAt, h]

set_option maxRecDepth 100000 in
set_option maxHeartbeats 1000000 in
theorem lay_any (b o k : Nat) (x : Int) (w : World) (cs : Array Value) (t : TypeId) (ht : t ≠ 3) (hB : Blk w b cs t) (d : List Int) (v : Value) (hv : cs[o]? = some v) (hr : w.ownsRow 0 3 1 v d.length (ints d)) (hk : k < 1000000) (_hd : d.length < 1000000) :
    Calls Tryz.prog 192 #[.pointer (some ⟨b, o, none⟩), .int .i64 k, .int .i64 x] w fun e w' => e = .returned (.tuple #[]) ∧ ∃ v', Blk w' b (cs.setIfInBounds o v') t ∧ w'.ownsRow 0 3 1 v' (layL d k x).length (ints (layL d k x)) ∧ Turns (fun i => i = b ∨ v.ownBlock = some i) w w' ∧
      (v'.ownBlock = v.ownBlock ∨ ∀ g, v'.ownBlock = some g → w.heap.size ≤ g) := by
  have ho : o < cs.size := (Array.getElem?_eq_some_iff.1 hv).1
  obtain ⟨i3, hi⟩ := Option.isSome_iff_exists.1 (show (Tryz.prog.info? 3).isSome = true by kernel_rfl)
  have hz0 : i3.zero = some (.int .i64 0) := by
    have h : (Tryz.prog.info? 3).map (·.zero) = some (some (.int .i64 0)) := by kernel_rfl
    rw [hi] at h; simpa using h
  have hz1 : i3.size = 1 := by
    have h : (Tryz.prog.info? 3).map (·.size) = some 1 := by kernel_rfl
    rw [hi] at h; simpa using h
  have hz2 : i3.bytes = 8 := by
    have h : (Tryz.prog.info? 3).map (·.bytes) = some 8 := by kernel_rfl
    rw [hi] at h; simpa using h
  go_enter Tryz.func192, Tryz.ntmps192
  go_wp2_with fail
  go_loopw [11] (fun _ wr => ∃ (n : Nat) (v' : Value), n ≤ k + 1 - d.length ∧ Blk wr b (cs.setIfInBounds o v') t ∧ wr.ownsRow 0 3 1 v' (d.length + n) (ints (d ++ List.replicate n 0)) ∧ Turns (fun i => i = b ∨ v.ownBlock = some i) w wr ∧ Hid (v'.ownBlock = v.ownBlock ∨ ∀ g, v'.ownBlock = some g → w.heap.size ≤ g)) (fun _ wr => k + 1 - lenAt b o wr)
  case atStart => exact ⟨0, v, by omega, by rw [setSelf hv]; exact hB, by simpa using hr, Turns.refl _ _, .inl rfl⟩
  case round =>
    obtain ⟨n, v1, hn, hB1, hr1, hT, hw⟩ := hrel
    have c0 : wr.cell? ⟨b, o, none⟩ = some v1 := by rw [hB1.cell]; simp [ho]
    obtain ⟨a1, cap1, rfl⟩ := row_val hr1
    have hm0 : Hid (lenAt b o wr = d.length + n) := lenAt_is c0
    have hne := row_ne hr1 hB1 ht
    by_cases hlt : d.length + n ≤ k
    · have f1 : ((d.length + n : Nat) : Int) ≤ k := by omega
      have hHn : Hid (Blk wr b (cs.setIfInBounds o (.slice a1 (d.length + n) cap1)) t ∧ (Value.slice a1 (d.length + n) cap1).ownBlock ≠ some b) := ⟨hB1, hne⟩
      have hTh : Hid (Turns (fun i => i = b ∨ v.ownBlock = some i) w wr) := hT
      have hdd : Hid (d = d) := rfl
      generalize hL : d.length + n = L at *
      clear hne hB1 hT
      go_wp2_with (at_builtin; refine wpList_append_anyw _ rfl _ _ 203 rfl 0 3 i3 _ 1 8 Tryz.underlying203 hi hz0 hz1 hz2 rfl (by decide) _ L _ rfl (by exact hr1.alloc _) 1 _ _ rfl (by exact srcs_one wr 3 (.int .i64 0) rfl) (by unfold maxLen; omega) (by omega) (by simp) ?_; intro v2 w2 hown hgrow hwh; obtain ⟨a2, cap2, rfl⟩ := row_val hown; have hB2 : Blk w2 b (cs.setIfInBounds o (.slice a1 L cap1)) t := (hgrow.block b (by have := hHn.out.1.lt; simp; omega) (fun e => hHn.out.2 e.symm)).trans ((Below.heap_alloc _ _ _ hHn.out.1.lt).trans hHn.out.1); have f2 := hB2.free o; have c2 : w2.cell? ⟨b, o, none⟩ = some (.slice a1 L cap1) := by rw [hB2.cell]; simp [ho])
      have hrow2 : (w2.setCell ⟨b, o, none⟩ (.slice a2 (L + 1) cap2)).ownsRow 0 3 1 (.slice a2 (L + 1) cap2) (L + 1) (ints (d ++ List.replicate (n + 1) 0)) := by
        have h1 : w2.ownsRow 0 3 1 (.slice a2 (L + 1) cap2) (L + 1) (ints (d ++ List.replicate (n + 1) 0)) := by
          rw [List.replicate_succ', ← List.append_assoc, ints_append]; exact hown
        exact ownsRow_turns h1 (Turns.setCell (X := fun i => i = b) w2 (p := ⟨b, o, none⟩) rfl _) (fun g hg e => row_ne h1 hB2 ht (e ▸ hg))
      have hB3 := hB2.set o (.slice a2 (L + 1) cap2)
      rw [setSet] at hB3
      have hT3 : Turns (fun i => i = b ∨ v.ownBlock = some i) w (w2.setCell ⟨b, o, none⟩ (.slice a2 (L + 1) cap2)) := by
        refine (hTh.out.trans (Turns.alloc _ _ _)).trans' (Y := fun i => i = b ∨ (Value.slice a1 L cap1).ownBlock = some i) (((Turns.of_grownBy hgrow).mono ?_).trans (Turns.setCell w2 (p := ⟨b, o, none⟩) (.inl rfl) _)) ?_
        · intro i hi; exact .inr hi
        · rintro i (rfl | hi)
          · exact .inl (.inl rfl)
          · rcases hw.out with h | h
            · exact .inl (.inr (h ▸ hi))
            · exact .inr (h i hi)
      have hw3 : (Value.slice a2 (L + 1) cap2).ownBlock = v.ownBlock ∨ ∀ g, (Value.slice a2 (L + 1) cap2).ownBlock = some g → w.heap.size ≤ g := by
        rcases hwh with h | h
        · rcases hw.out with h2 | h2
          · exact .inl (h.trans h2)
          · exact .inr fun g hg => h2 g (h.symm.trans hg)
        · refine .inr fun g hg => Nat.le_trans ?_ (h g hg)
          have := hTh.out.size
          simp; omega
      go_roundw
      case rel => exact ⟨n + 1, _, by omega, hB3, by rw [← Nat.add_assoc, hL]; exact hrow2, hT3, hw3⟩
      case measure =>
        rw [hm0.out, lenAt_is (n := L + 1) (a := a2) (cap := cap2) (by rw [hB3.cell]; simp [ho])]; omega
    · have hnn : Hid (d ++ List.replicate (k + 1 - d.length) 0 = d ++ List.replicate n 0) := by
        show _ = _
        rw [show n = k + 1 - d.length by omega]
      have hlen : Hid ((layL d k x).length = d.length + n) := by
        show _ = _
        rw [lay_len]; omega
      have hlay : Hid (layL d k x = (d ++ List.replicate n 0).set k (max (atL d k) x)) := by
        show _ = _
        rw [layL, hnn.out]
      rcases hr1.2 with ⟨h1, h2⟩ | ⟨g, cap, cur, h1, _, hg, hcap, hcm, hcs, htk⟩
      · exfalso; omega
      cases h1
      have hkk : k < d.length + n := by omega
      have hgb : Blk wr g cur 3 := hg
      have hgk : cur[k]? = some (.int .i64 (atL d k)) := by
        have h3 : (cur.toList.take ((d.length + n) * 1))[k]? = (ints (d ++ List.replicate n 0))[k]? := by rw [htk]
        rw [List.getElem?_take_of_lt (by omega)] at h3
        rw [← Array.getElem?_toList, h3, ints, List.getElem?_map, ← atL_pad d n k, atL, List.getD_eq_getElem?_getD, List.getElem?_eq_getElem (by simp; omega)]
        rfl
      have c1 : wr.cell? ⟨g, k, none⟩ = some (.int .i64 (atL d k)) := by rw [hgb.cell]; exact hgk
      have f1 := hgb.free k
      have hH : Hid (wr.ownsRow 0 3 1 (.slice (some ⟨g, 0, none⟩) (d.length + n) cap1) (d.length + n) (ints (d ++ List.replicate n 0)) ∧ g ≠ b) := ⟨hr1, fun e => hne (by rw [e]; rfl)⟩
      have hBh : Hid (Blk wr b (cs.setIfInBounds o (.slice (some ⟨g, 0, none⟩) (d.length + n) cap1)) t) := hB1
      have hTh : Hid (Turns (fun i => i = b ∨ v.ownBlock = some i) w wr) := hT
      have hgh : Hid (Blk wr g cur 3 ∧ (d.length + n ≤ cap1 ∧ cap1 ≤ maxLen ∧ cur.size = cap1 * 1 ∧ cur.toList.take ((d.length + n) * 1) = ints (d ++ List.replicate n 0))) := ⟨hgb, hcap, hcm, hcs, htk⟩
      generalize atL d k = y at *
      have hx : Hid (max y x = max y x) := rfl
      clear hnn hgk hgb htk hcs hcm hcap hg hne hB1 hT hr1 hm0
      go_wp2_with fail
      go_region
      have hfin : ∀ m, m = max y x → Blk (wr.setCell ⟨g, k, none⟩ (.int .i64 m)).drew b (cs.setIfInBounds o (.slice (some ⟨g, 0, none⟩) (d.length + n) cap1)) t ∧
          (wr.setCell ⟨g, k, none⟩ (.int .i64 m)).drew.ownsRow 0 3 1 (.slice (some ⟨g, 0, none⟩) (d.length + n) cap1) (layL d k x).length (ints (layL d k x)) ∧ Turns (fun i => i = b ∨ v.ownBlock = some i) w (wr.setCell ⟨g, k, none⟩ (.int .i64 m)).drew := by
        rintro m rfl
        refine ⟨hBh.out.other k _ hH.out.2.symm, ?_, ?_⟩
        · rw [hlen.out, hlay.out]
          obtain ⟨q0, q1, q2, q3, q4⟩ := hgh.out
          refine ⟨by simp [ints], .inr ⟨g, cap1, cur.setIfInBounds k (.int .i64 (max y x)), rfl, Nat.zero_le _, hgh.out.1.set k _, q1, q2, by simpa using q3, ?_⟩⟩
          rw [Array.toList_setIfInBounds, ints, List.map_set, ← ints, ← q4, List.take_set]
        · refine hTh.out.trans' (Y := fun i => i = g) ((Turns.setCell (X := fun i => i = g) wr (p := ⟨g, k, none⟩) rfl _).trans (Turns.drew _ _)) ?_
          rintro i rfl
          rcases hw.out with h | h
          · exact .inl (.inr (h ▸ rfl))
          · exact .inr (h i rfl)
      go_wp2_with fail
      · rename_i hyx
        go_returns
        obtain ⟨r1, r2, r3⟩ := hfin x (by omega)
        exact ⟨rfl, _, r1, r2, r3, hw.out⟩
      · rename_i hyx
        go_returns
        obtain ⟨r1, r2, r3⟩ := hfin y (by omega)
        exact ⟨rfl, _, r1, r2, r3, hw.out⟩

/-- Digits in memory, and what has turned since a world: their box, their row. -/
def Dig (w0 : World) (v0 : Value) (b o : Nat) (cs : Array Value) (t : TypeId) (d : List Int) (w : World) : Prop :=
  ∃ v, Blk w b (cs.setIfInBounds o v) t ∧ w.ownsRow 0 3 1 v d.length (ints d) ∧ Turns (fun i => i = b ∨ v0.ownBlock = some i) w0 w ∧ (v.ownBlock = v0.ownBlock ∨ ∀ g, v.ownBlock = some g → w0.heap.size ≤ g)
theorem Dig.start {w : World} {b o : Nat} {cs : Array Value} {t : TypeId} {d : List Int} {v : Value} (hB : Blk w b cs t) (hv : cs[o]? = some v) (hr : w.ownsRow 0 3 1 v d.length (ints d)) : Dig w v b o cs t d w :=
  ⟨v, by rw [setSelf hv]; exact hB, hr, Turns.refl _ _, .inl rfl⟩
theorem lay_step {w0 : World} {v0 : Value} {b o : Nat} {cs : Array Value} {t : TypeId} {d : List Int} {w : World} (ho : o < cs.size) (ht : t ≠ 3) (h : Dig w0 v0 b o cs t d w) (k : Nat) (x : Int) (hk : k < 1000000) (hd : d.length < 1000000) :
    Calls Tryz.prog 192 #[.pointer (some ⟨b, o, none⟩), .int .i64 k, .int .i64 x] w fun e w' => e = .returned (.tuple #[]) ∧ Dig w0 v0 b o cs t (layL d k x) w' := by
  obtain ⟨v, hB, hr, hT, hw⟩ := h
  refine (lay_any b o k x w _ t ht hB d v (by simp [ho]) hr hk hd).mono ?_
  rintro e w' ⟨rfl, v', h1, h2, h3, h4⟩
  rw [setSet] at h1
  refine ⟨rfl, v', h1, h2, hT.trans' h3 ?_, ?_⟩
  · rintro i (rfl | hi)
    · exact .inl (.inl rfl)
    · rcases hw with h | h
      · exact .inl (.inr (h ▸ hi))
      · exact .inr (h i hi)
  · rcases h4 with h4 | h4
    · rcases hw with h | h
      · exact .inl (h4.trans h)
      · exact .inr fun g hg => h g (h4.symm.trans hg)
    · exact .inr fun g hg => Nat.le_trans hT.size (h4 g hg)
end Go.Proofs.YtbdpghjegachaaaGreatDoor.Hy

namespace Go.Proofs.YtbdpghjegachaaaGreatDoor.Hy
open Go.RowKit Go.Shelf

theorem take_succ_ba {p : ByteArray} {k : Nat} (h : k < p.size) : p.data.toList.take (k + 1) = p.data.toList.take k ++ [p[k]'h] := by
  have hl : k < p.data.toList.length := by simpa using h
  rw [List.take_succ_eq_append_getElem hl]
  simp [ByteArray.getElem_eq_getElem_data]
theorem take_all_ba (p : ByteArray) : p.data.toList.take p.size = p.data.toList := List.take_of_length_le (by show p.data.toList.length ≤ p.data.size; simp)
theorem ltrs_snoc (q : Bs) (c : UInt8) : ltrs (q ++ [c]) = if dgt c then ltrs q else ltrs q ++ [c] := by
  unfold ltrs
  rw [List.filter_append]
  by_cases h : dgt c <;> simp [h]
theorem digs_snoc (q : Bs) (c : UInt8) : digs 0 (q ++ [c]) = if dgt c then digs 0 q ++ [((ltrs q).length, (c.toNat : Int) - 48)] else digs 0 q := by
  rw [digs_append]
  by_cases h : dgt c
  · rw [if_pos h, digs, if_pos h]; simp [digs]
  · rw [if_neg h, digs, if_neg h]; simp [digs]
theorem ltrs_le (q : Bs) : (ltrs q).length ≤ q.length := List.length_filter_le _ _

set_option maxRecDepth 100000 in
set_option maxHeartbeats 1000000 in
theorem eachDigit_any (p : ByteArray) (hp : p.size ≤ 200) {w0 : World} {v0 : Value} {b o : Nat} {cs : Array Value} {t : TypeId} {d : List Int} {w : World} (ho : o < cs.size) (ht : t ≠ 3) (h : Dig w0 v0 b o cs t d w) (hd : d.length ≤ 1000) :
    Calls Tryz.prog 202 #[.string p, .func (.func 192) #[.pointer (some ⟨b, o, none⟩)] #[]] w fun e w' => e = .returned (.tuple #[]) ∧ Dig w0 v0 b o cs t (layAll d (digs 0 p.data.toList)) w' := by
  have hW : Hid (p.data.toList.take p.size = p.data.toList) := take_all_ba p
  go_enter Tryz.func202, Tryz.ntmps202
  go_wp2_with fail
  go_loopw [4, 8] (fun n i wr => ∃ (k m : Nat) (d1 : List Int), k ≤ p.size ∧ i = .int .i64 k ∧ n = .int .i64 m ∧ m ≤ k ∧ Hid (m = (ltrs (p.data.toList.take k)).length) ∧ Hid (d1 = layAll d (digs 0 (p.data.toList.take k))) ∧ d1.length ≤ 1000 ∧ Dig w0 v0 b o cs t d1 wr) (fun _ i _ => p.size - (intOf i).toNat)
  case atStart => exact ⟨0, 0, d, by omega, rfl, rfl, by omega, rfl, rfl, hd, h⟩
  case round =>
    obtain ⟨k, m, d1, hk, rfl, rfl, hmk, hm, hd1, hl1, hD⟩ := hrel
    by_cases hlt : k < p.size
    · have ht1 := take_succ_ba hlt
      cases hc : dgI ((p[k]'hlt).toNat : Int) with
      | true =>
        have hr := dgI_rng hc
        have hm2 : Hid (m = (ltrs (p.data.toList.take (k + 1))).length) := by
          show _ = _
          rw [ht1, ltrs_snoc, show dgt (p[k]'hlt) = true from hc, if_pos rfl]; exact hm.out
        have hd2 : Hid (layL d1 m (((p[k]'hlt).toNat : Int) - 48) = layAll d (digs 0 (p.data.toList.take (k + 1)))) := by
          show _ = _
          rw [ht1, digs_snoc, show dgt (p[k]'hlt) = true from hc, if_pos rfl, layAll_append, ← hd1.out, ← hm.out]; rfl
        have hS := lay_step ho ht hD m (((p[k]'hlt).toNat : Int) - 48) (by omega) (by omega)
        have hl2 : (layL d1 m (((p[k]'hlt).toNat : Int) - 48)).length ≤ 1000 := by rw [lay_len]; omega
        have hI := isDigit_any ((p[k]'hlt).toNat : Int)
        rw [hc] at hI
        clear ht1 hm hd1 hc
        generalize layL d1 m (((p[k]'hlt).toNat : Int) - 48) = d2 at hd2 hS hl2
        obtain ⟨hr1, hr2⟩ := hr
        go_wp2_with (first | (go_at_call 199; refine (hI _).mono ?_; rintro e w' ⟨rfl, hww⟩; subst w') | (go_at_call 192; refine hS.mono ?_; rintro e w' ⟨rfl, hD2⟩))
        go_roundw
        case rel => exact ⟨k + 1, m, d2, by omega, by simp, rfl, by omega, hm2, hd2, hl2, hD2⟩
        case measure => simp [intOf]; omega
      | false =>
        have hm2 : Hid (m + 1 = (ltrs (p.data.toList.take (k + 1))).length) := by
          show _ = _
          rw [ht1, ltrs_snoc, show dgt (p[k]'hlt) = false from hc]; simp [hm.out]
        have hd2 : Hid (d1 = layAll d (digs 0 (p.data.toList.take (k + 1)))) := by
          show _ = _
          rw [ht1, digs_snoc, show dgt (p[k]'hlt) = false from hc]; simpa using hd1.out
        have hI := isDigit_any ((p[k]'hlt).toNat : Int)
        rw [hc] at hI
        clear ht1 hm hd1 hc
        go_wp2_with (go_at_call 199; refine (hI _).mono ?_; rintro e w' ⟨rfl, hww⟩; subst w')
        go_roundw
        case rel => exact ⟨k + 1, m + 1, d1, by omega, by simp, by simp, by omega, hm2, hd2, hl1, hD⟩
        case measure => simp [intOf]; omega
    · obtain rfl : k = p.size := by omega
      rw [hW.out] at hd1
      have := hd1.out
      subst this
      clear hW hm hd1
      go_wp2_with fail
      go_returns
      exact ⟨rfl, hD⟩

end Go.Proofs.YtbdpghjegachaaaGreatDoor.Hy

namespace Go.Proofs.YtbdpghjegachaaaGreatDoor.Hy
open Go.RowKit Go.Shelf
open Go.Maps (Keyed)

/-- How an element reads: as itself. -/
def R0 (v : Value) : Option (DataW Value × List MemPlace) := some (.held v, [])
/-- A map in memory: its block, what it has of each key, and a bound on how many there are. -/
def MapAt {κ : Type} (kt : TypeId) (enc : κ → Lit) (w : World) (mb : Nat) (f : κ → Option Value) (M : Nat) : Prop :=
  ∃ D, w.ownsMap Tryz.prog kt R0 mb M D ∧ ∀ c z, D.atKey (enc c) z = (f c).elim z .held
section
variable {κ : Type} {kt : TypeId} {enc : κ → Lit} {w w' : World} {mb M : Nat} {f : κ → Option Value}
theorem MapAt.lt (h : MapAt kt enc w mb f M) : mb < w.heap.size := by obtain ⟨D, h1, _⟩ := h; exact h1.lt
theorem MapAt.isMap (h : MapAt kt enc w mb f M) : ∃ es clock, w.heap[mb]? = some (.map es clock) := by
  obtain ⟨D, ⟨es, clock, hb, _⟩, _⟩ := h; exact ⟨es, clock, hb⟩
theorem MapAt.mono {M' : Nat} (h : MapAt kt enc w mb f M) (hM : M ≤ M') : MapAt kt enc w mb f M' := by
  obtain ⟨D, h1, h2⟩ := h; exact ⟨D, h1.mono hM, h2⟩
theorem MapAt.turns {X : Nat → Prop} (h : MapAt kt enc w mb f M) (ht : Turns X w w') (hx : ¬ X mb) : MapAt kt enc w' mb f M := by
  have hlt := h.lt
  obtain ⟨D, ⟨es, clock, hb, r⟩, h2⟩ := h
  exact ⟨D, ⟨es, clock, (ht.block mb hlt hx).trans hb, r⟩, h2⟩
theorem MapAt.made (w : World) : MapAt kt enc (w.alloc (.map #[] 0)) w.heap.size (fun _ => none) 0 :=
  ⟨.map [], World.ownsMap_made w Tryz.prog kt R0, fun c z => by
    show DataW.atKey (.map []) (enc c) z = z
    rfl⟩
theorem MapAt.look (h : MapAt kt enc w mb f M) (K : Keyed Tryz.prog kt) {t e : TypeId} (ht : Tryz.prog.underlying t = some (.map kt e)) {z : Value} (hz : (zeroValue e).run Tryz.prog w = .ok z w) {key : Value} (c : κ) (hkey : keyOf Tryz.prog kt key = some (enc c)) :
    (Instr.lookup t (.map (some mb)) key false).run Tryz.prog w = .ok ((f c).getD z) w := by
  obtain ⟨D, h1, h2⟩ := h
  obtain ⟨v, ps, hrun, hv⟩ := h1.lookup K ht hz (zd := .held z) (zp := []) rfl hkey
  simp only [R0, Option.some.injEq, Prod.mk.injEq] at hv
  obtain ⟨hv, _⟩ := hv
  rw [h2] at hv
  rw [hrun]
  cases hf : f c with
  | none => rw [hf] at hv; cases hv; rfl
  | some u => rw [hf] at hv; cases hv; rfl
theorem MapAt.has (h : MapAt kt enc w mb f M) : ∃ D, w.ownsMap Tryz.prog kt R0 mb M D ∧ (∀ c z, D.atKey (enc c) z = (f c).elim z .held) ∧ ∀ c, Maps.has D (enc c) = (f c).isSome := by
  obtain ⟨D, h1, h2⟩ := h
  refine ⟨D, h1, h2, fun c => ?_⟩
  cases hf : f c with
  | none => exact Maps.has_false_of_atKey fun z => by rw [h2, hf]; rfl
  | some u => exact Maps.has_true_of_atKey (y := .held u) fun z => by rw [h2, hf]; rfl
theorem MapAt.look_ok (h : MapAt kt enc w mb f M) (K : Keyed Tryz.prog kt) {t e : TypeId} (ht : Tryz.prog.underlying t = some (.map kt e)) {z : Value} (hz : (zeroValue e).run Tryz.prog w = .ok z w) {key : Value} (c : κ) (hkey : keyOf Tryz.prog kt key = some (enc c)) :
    (Instr.lookup t (.map (some mb)) key true).run Tryz.prog w = .ok (.tuple #[(f c).getD z, .bool (f c).isSome]) w := by
  obtain ⟨D, h1, h2, h3⟩ := h.has
  obtain ⟨v, ps, hrun, hv⟩ := h1.look_ok K ht hz (zd := .held z) (zp := []) rfl hkey
  simp only [R0, Option.some.injEq, Prod.mk.injEq] at hv
  obtain ⟨hv, _⟩ := hv
  rw [h2] at hv
  rw [hrun, h3]
  cases hf : f c with
  | none => rw [hf] at hv; cases hv; rfl
  | some u => rw [hf] at hv; cases hv; rfl
theorem MapAt.put [DecidableEq κ] (h : MapAt kt enc w mb f M) (K : Keyed Tryz.prog kt) {t e : TypeId} (ht : Tryz.prog.underlying t = some (.map kt e)) (hM : M < maxLen) {key : Value} (c : κ) (hkey : keyOf Tryz.prog kt key = some (enc c)) (v : Value)
    (hi : ∀ a b, enc a = enc b → a = b) (hl : ∀ a, WideAt.IsKeyLit (enc a)) :
    ∃ w', (Instr.mapUpdate t (.map (some mb)) key v).run Tryz.prog w = .ok () w' ∧ MapAt kt enc w' mb (fun a => if a = c then some v else f a) (M + 1) ∧ Turns (fun k => k = mb) w w' := by
  obtain ⟨D, h1, h2⟩ := h
  obtain ⟨w', hrun, ho, hg⟩ := h1.update K ht hM hkey (val := v) (d := .held v) (ps := []) rfl
  refine ⟨w', hrun, ⟨_, ho, fun a z => ?_⟩, ⟨hg.os, hg.tape, hg.output, hg.size, fun k hk hx => hg.block k hk (by simp; exact hx)⟩⟩
  by_cases e : a = c
  · subst e
    simp only [if_true]
    exact Maps.atKey_put_same h1.isMap (hl _) _ _
  · simp only [e, if_false]
    rw [Maps.atKey_put_other (fun h => e (hi _ _ h)), h2]
end
def encB (c : UInt8) : Lit := .int .u8 c.toNat
theorem encB_inj (a b : UInt8) (h : encB a = encB b) : a = b := by
  simp [encB] at h
  exact UInt8.toNat_inj.1 (by omega)
theorem law5 : Keyed Tryz.prog 5 := Maps.int_keyed Tryz.underlying5
theorem keyOf5 (c : UInt8) : keyOf Tryz.prog 5 (.int .u8 c.toNat) = some (encB c) := Maps.keyOf_int_mk Tryz.underlying5 (by
  have := c.toNat_lt
  have h0 : IntKind.u8.min = 0 := rfl
  have h1 : IntKind.u8.max = 255 := rfl
  simp [Lit.wf]
  omega)
theorem zero79 (w : World) : (zeroValue 238).run Tryz.prog w = .ok (.pointer none) w := by kernel_rfl
def encS (s : ByteArray) : Lit := .string s.data.toList
theorem encS_inj (a b : ByteArray) (h : encS a = encS b) : a = b := by
  have h1 : a.data.toList = b.data.toList := by simpa [encS] using h
  have h2 : a.data = b.data := Array.toList_inj.1 h1
  obtain ⟨a⟩ := a; obtain ⟨b⟩ := b; simp at h2; rw [h2]
theorem law9 : Keyed Tryz.prog 9 := Maps.string_keyed Tryz.underlying9
theorem keyOf9 {s : ByteArray} (h : s.size ≤ maxLen) : keyOf Tryz.prog 9 (.string s) = some (encS s) := Go.WideMaps.keyOf_string_mk Tryz.underlying9 h
theorem zero34 (w : World) : (zeroValue 44).run Tryz.prog w = .ok (.slice none 0 0) w := by kernel_rfl
end Go.Proofs.YtbdpghjegachaaaGreatDoor.Hy

namespace Go.Proofs.YtbdpghjegachaaaGreatDoor.Hy
open Go.RowKit Go.Shelf

/-- A node in memory: its block, where in it, the block's cells and type, its map's block, its digits' row. -/
structure Nd where
  b : Nat
  o : Nat
  cs : Array Value
  t : TypeId
  m : Option Nat
  v : Value
def Nd.at (x : Nd) : Value := .pointer (some ⟨x.b, x.o, none⟩)
def Nd.Own (x : Nd) (k : Nat) : Prop := k = x.b ∨ x.m = some k ∨ x.v.ownBlock = some k
structure Loc (w : World) (M : Nat) (x : Nd) (d : List Int) (ch : UInt8 → Option Value) : Prop where
  blk : Blk w x.b x.cs x.t
  cm : x.cs[x.o]? = some (.map x.m)
  ce : x.cs[x.o + 1]? = some x.v
  ty : x.t ≠ 3
  row : w.ownsRow 0 3 1 x.v d.length (ints d)
  len : d.length ≤ 1000
  nomap : x.m = none → ∀ c, ch c = none
  map : ∀ mb, x.m = some mb → MapAt 5 encB w mb ch M
theorem row_lt {w : World} {base : Nat} {e : TypeId} {sz : Nat} {v : Value} {n g : Nat} {xs : List Value} (h : w.ownsRow base e sz v n xs) (hg : v.ownBlock = some g) : g < w.heap.size := (h.lt g hg).2
theorem Loc.lt {w : World} {M : Nat} {x : Nd} {d : List Int} {ch : UInt8 → Option Value} (h : Loc w M x d ch) {k : Nat} (hk : x.Own k) : k < w.heap.size := by
  rcases hk with rfl | hk | hk
  · exact h.blk.lt
  · exact (h.map k hk).lt
  · exact row_lt h.row hk
theorem Loc.turns {w w' : World} {M : Nat} {x : Nd} {d : List Int} {ch : UInt8 → Option Value} {X : Nat → Prop} (h : Loc w M x d ch) (ht : Turns X w w') (hx : ∀ k, X k → ¬ x.Own k) : Loc w' M x d ch :=
  ⟨h.blk.turns ht (fun hX => hx _ hX (.inl rfl)), h.cm, h.ce, h.ty, ownsRow_turns h.row ht (fun g hg hX => hx g hX (.inr (.inr hg))), h.len, h.nomap, fun mb hm => (h.map mb hm).turns ht (fun hX => hx mb hX (.inr (.inl hm)))⟩
theorem Loc.mono {w : World} {M M' : Nat} {x : Nd} {d : List Int} {ch : UInt8 → Option Value} (h : Loc w M x d ch) (hM : M ≤ M') : Loc w M' x d ch :=
  ⟨h.blk, h.cm, h.ce, h.ty, h.row, h.len, h.nomap, fun mb hm => (h.map mb hm).mono hM⟩

abbrev Ns := Bs → Option Nd
def kids (N : Ns) (L : Bs) : UInt8 → Option Value := fun c => (N (L ++ [c])).map Nd.at
/-- A trie in memory: its root's block, of which the first and the last cell are something else's. -/
structure TrieAt (w : World) (rb : Nat) (s e : Value) (T : Tr) (N : Ns) (M : Nat) : Prop where
  dom : ∀ L, (N L).isSome = (T L).isSome
  root : ∃ x, N [] = some x ∧ x.b = rb ∧ x.o = 1 ∧ x.t = 208 ∧ x.cs = #[s, .map x.m, x.v, e]
  loc : ∀ L x d, N L = some x → T L = some d → Loc w M x d (kids N L)
  ap : ∀ L L' x y, N L = some x → N L' = some y → L ≠ L' → ∀ k, x.Own k → ¬ y.Own k
  cl : ∀ L c, T L = none → T (L ++ [c]) = none
/-- The blocks of a trie. -/
def NOwn (N : Ns) (k : Nat) : Prop := ∃ L x, N L = some x ∧ x.Own k
section
variable {w w' : World} {rb : Nat} {s e : Value} {T : Tr} {N : Ns} {M : Nat}
theorem TrieAt.get (h : TrieAt w rb s e T N M) {L : Bs} {x : Nd} (hx : N L = some x) : ∃ d, T L = some d := by
  have := h.dom L
  rw [hx] at this
  exact Option.isSome_iff_exists.1 this.symm
theorem TrieAt.none_iff (h : TrieAt w rb s e T N M) {L : Bs} : N L = none ↔ T L = none := by
  have := h.dom L
  cases h1 : N L <;> cases h2 : T L <;> simp_all
theorem TrieAt.lt (h : TrieAt w rb s e T N M) {k : Nat} (hk : NOwn N k) : k < w.heap.size := by
  obtain ⟨L, x, hx, hk⟩ := hk
  obtain ⟨d, hd⟩ := h.get hx
  exact (h.loc L x d hx hd).lt hk
theorem TrieAt.turns {X : Nat → Prop} (h : TrieAt w rb s e T N M) (ht : Turns X w w') (hx : ∀ k, X k → ¬ NOwn N k) : TrieAt w' rb s e T N M :=
  ⟨h.dom, h.root, fun L x d h1 h2 => (h.loc L x d h1 h2).turns ht (fun k hX hk => hx k hX ⟨L, x, h1, hk⟩), h.ap, h.cl⟩
theorem TrieAt.mono {M' : Nat} (h : TrieAt w rb s e T N M) (hM : M ≤ M') : TrieAt w rb s e T N M' :=
  ⟨h.dom, h.root, fun L x d h1 h2 => (h.loc L x d h1 h2).mono hM, h.ap, h.cl⟩

def setN (N : Ns) (L : Bs) (x : Nd) : Ns := fun K => if K = L then some x else N K
theorem setN_same (N : Ns) (L : Bs) (x : Nd) : setN N L x L = some x := if_pos rfl
theorem setN_other (N : Ns) {L K : Bs} (x : Nd) (h : K ≠ L) : setN N L x K = N K := if_neg h
theorem kids_setN {L K : Bs} {x x' : Nd} (hx : N L = some x) (hat : x'.at = x.at) : kids (setN N L x') K = kids N K := by
  funext c
  unfold kids
  by_cases h : K ++ [c] = L
  · rw [h, setN_same, hx]; simp [hat]
  · rw [setN_other _ _ h]
theorem NOwn_setN {L : Bs} {x x' : Nd} (hx : N L = some x) {S : Nat → Prop} (ho : ∀ k, x'.Own k → x.Own k ∨ S k) {k : Nat} (hk : NOwn (setN N L x') k) : NOwn N k ∨ S k := by
  obtain ⟨K, y, hy, hk⟩ := hk
  by_cases e : K = L
  · subst e
    rw [setN_same] at hy
    cases hy
    exact (ho k hk).imp (fun h => ⟨K, x, hx, h⟩) id
  · rw [setN_other _ _ e] at hy
    exact .inl ⟨K, y, hy, hk⟩
/-- A node turns: its own blocks alone, or new ones. -/
theorem TrieAt.change (h : TrieAt w rb s e T N M) {L : Bs} {x x' : Nd} (hx : N L = some x) (hat : x'.at = x.at) {d' : List Int} {X : Nat → Prop} (ht : Turns X w w') (hX : ∀ k, X k → x.Own k)
    (ho : ∀ k, x'.Own k → x.Own k ∨ w.heap.size ≤ k) (hl : Loc w' M x' d' (kids N L)) (hr : L = [] → x'.t = 208 ∧ x'.cs = #[s, .map x'.m, x'.v, e]) : TrieAt w' rb s e (putT T L d') (setN N L x') M := by
  have hb : x'.b = x.b ∧ x'.o = x.o := by
    unfold Nd.at at hat
    injection hat with h1
    injection h1 with h1
    injection h1 with h1 h2
    exact ⟨h1, h2⟩
  refine ⟨fun K => ?_, ?_, fun K y d hy hd => ?_, fun K K' y z hy hz hne k hk hk' => ?_, fun K c hK => ?_⟩
  · by_cases e : K = L
    · subst e; simp [setN, putT]
    · rw [setN_other _ _ e, putT, if_neg e]; exact h.dom K
  · obtain ⟨r, h1, h2, h3, h4, h5⟩ := h.root
    by_cases e : L = []
    · subst e
      rw [hx] at h1
      cases h1
      exact ⟨x', setN_same _ _ _, hb.1.trans h2, hb.2.trans h3, hr rfl⟩
    · exact ⟨r, by rw [setN_other _ _ (fun e' => e e'.symm)]; exact h1, h2, h3, h4, h5⟩
  · rw [kids_setN hx hat]
    by_cases e : K = L
    · subst e
      rw [setN_same] at hy
      rw [putT, if_pos rfl] at hd
      cases hy; cases hd
      exact hl
    · rw [setN_other _ _ e] at hy
      rw [putT, if_neg e] at hd
      exact (h.loc K y d hy hd).turns ht (fun k hk hk' => h.ap L K x y hx hy (fun e' => e e'.symm) k (hX k hk) hk')
  · by_cases e : K = L
    · subst e
      rw [setN_same] at hy; cases hy
      rw [setN_other _ _ (fun e' => hne e'.symm)] at hz
      rcases ho k hk with h1 | h1
      · exact h.ap _ _ _ _ hx hz hne k h1 hk'
      · have := h.lt ⟨K', z, hz, hk'⟩; omega
    · rw [setN_other _ _ e] at hy
      by_cases e2 : K' = L
      · subst e2
        rw [setN_same] at hz; cases hz
        rcases ho k hk' with h1 | h1
        · exact h.ap _ _ _ _ hy hx hne k hk h1
        · have := h.lt ⟨K, y, hy, hk⟩; omega
      · rw [setN_other _ _ e2] at hz
        exact h.ap _ _ _ _ hy hz hne k hk hk'
  · obtain ⟨d0, hd0⟩ := h.get hx
    unfold putT at hK ⊢
    by_cases e : K = L
    · rw [if_pos e] at hK; cases hK
    · rw [if_neg e] at hK
      have := h.cl K c hK
      by_cases e2 : K ++ [c] = L
      · rw [e2, hd0] at this; cases this
      · rw [if_neg e2]; exact this
theorem putT_self {L : Bs} {d : List Int} (h : T L = some d) : putT T L d = T := by
  funext K
  unfold putT
  by_cases e : K = L
  · rw [if_pos e, e, h]
  · rw [if_neg e]
/-- A node more. -/
theorem TrieAt.more (h : TrieAt w rb s e T N M) {L : Bs} {x : Nd} (hx : N L = some x) {c : UInt8} (hc : N (L ++ [c]) = none) {y : Nd} {mb : Nat} (hm : x.m = some mb) (ht : Turns (fun k => k = mb) w w')
    (hM : MapAt 5 encB w' mb (fun a => if a = c then some y.at else kids N L a) (M + 1)) (hy : ∀ k, y.Own k → w.heap.size ≤ k) (hl : Loc w' (M + 1) y [] (fun _ => none)) :
    TrieAt w' rb s e (putT T (L ++ [c]) []) (setN N (L ++ [c]) y) (M + 1) := by
  have hne : L ≠ L ++ [c] := fun e => by have := congrArg List.length e; simp at this
  have hkid : ∀ K, K ≠ L → kids (setN N (L ++ [c]) y) K = kids N K := fun K hK => by
    funext a
    unfold kids
    rw [setN_other]
    intro e
    have := List.append_inj' e rfl
    exact hK this.1
  have hT : T (L ++ [c]) = none := h.none_iff.1 hc
  refine ⟨fun K => ?_, ?_, fun K z d hz hd => ?_, fun K K' z z' hz hz' hne' k hk hk' => ?_, fun K a hK => ?_⟩
  · by_cases e : K = L ++ [c]
    · subst e; simp [setN, putT]
    · rw [setN_other _ _ e, putT, if_neg e]; exact h.dom K
  · obtain ⟨r, h1, h2⟩ := h.root
    exact ⟨r, by rw [setN_other _ _ (by simp)]; exact h1, h2⟩
  · by_cases e : K = L ++ [c]
    · subst e
      rw [setN_same] at hz
      rw [putT, if_pos rfl] at hd
      cases hz; cases hd
      have e2 : kids (setN N (L ++ [c]) y) (L ++ [c]) = fun _ => none := by
        rw [hkid _ (fun e => hne e.symm)]
        funext a
        unfold kids
        rw [h.none_iff.2 (h.cl _ a hT)]; rfl
      rw [e2]; exact hl
    · rw [setN_other _ _ e] at hz
      rw [putT, if_neg e] at hd
      have h0 := (h.loc K z d hz hd)
      by_cases e2 : K = L
      · subst e2
        rw [hx] at hz; cases hz
        have hmb : ∀ k, k = mb → k = x.b ∨ x.v.ownBlock = some k → False := fun k hk hk' => by
          subst hk
          obtain ⟨es, cl, hmm⟩ := (h0.map k hm).isMap
          rcases hk' with rfl | hk'
          · have := h0.blk; rw [Blk, hmm] at this; cases this
          · rcases h0.row.2 with ⟨h1, _⟩ | ⟨g, cap, cur, h1, _, hg, _⟩
            · rw [h1] at hk'; cases hk'
            · rw [h1] at hk'; cases hk'; rw [hmm] at hg; cases hg
        refine ⟨h0.blk.turns ht (fun hX => hmb _ hX (.inl rfl)), h0.cm, h0.ce, h0.ty, ownsRow_turns h0.row ht (fun g hg hX => hmb _ hX (.inr hg)), h0.len, fun hn => ?_, fun mb' hm' => ?_⟩
        · rw [hm] at hn; cases hn
        · rw [hm] at hm'; cases hm'
          have e3 : kids (setN N (K ++ [c]) y) K = fun a => if a = c then some y.at else kids N K a := by
            funext a
            by_cases ea : a = c
            · subst ea; simp [kids, setN_same]
            · rw [if_neg ea]
              unfold kids
              rw [setN_other]
              intro e
              have := (List.append_inj' e rfl).2
              simp at this
              exact ea this
          rw [e3]; exact hM
      · rw [hkid K e2]
        exact (h0.turns ht (fun k hk hk' => by subst hk; exact h.ap _ _ _ _ hx hz (fun e => e2 e.symm) k (.inr (.inl hm)) hk')).mono (by omega)
  · by_cases e1 : K = L ++ [c]
    · subst e1
      rw [setN_same] at hz; cases hz
      rw [setN_other _ _ (fun e' => hne' e'.symm)] at hz'
      have := h.lt ⟨K', z', hz', hk'⟩
      have := hy k hk
      omega
    · rw [setN_other _ _ e1] at hz
      by_cases e2 : K' = L ++ [c]
      · subst e2
        rw [setN_same] at hz'; cases hz'
        have := h.lt ⟨K, z, hz, hk⟩
        have := hy k hk'
        omega
      · rw [setN_other _ _ e2] at hz'
        exact h.ap _ _ _ _ hz hz' hne' k hk hk'
  · obtain ⟨d0, hd0⟩ := h.get hx
    unfold putT at hK ⊢
    by_cases e1 : K = L ++ [c]
    · rw [if_pos e1] at hK; cases hK
    · rw [if_neg e1] at hK
      have := h.cl K a hK
      by_cases e2 : K ++ [a] = L ++ [c]
      · have := (List.append_inj' e2 rfl).1
        subst this
        rw [hd0] at hK; cases hK
      · rw [if_neg e2]; exact this
end
end Go.Proofs.YtbdpghjegachaaaGreatDoor.Hy
