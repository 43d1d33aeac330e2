/-
  What is proved here: what LentTexts, SameTexts, KeptTexts and OverTexts answer and do.
-/
import Derived.Test.YtfblhpkndfbhgaaDoorFolds
import Derived.Test.YtfblhpkndfbhgaaDoorTakeA
import Derived.Lib.SlBuf
import Derived.Laws.CopyRow
namespace Go.Proofs.YtfblhpkndfbhgaaDoor
open Go.RowKit Go.Shelf

/-- Texts that fill a block. -/
def SBk (W : World) (g : Nat) (l : List ByteArray) : Prop := W.heap[g]? = some (.cells (strs l).toArray 9 (0, 0))
theorem SBk.lt {W : World} {g : Nat} {l : List ByteArray} (h : SBk W g l) : g < W.heap.size := (Array.getElem?_eq_some_iff.1 h).1
theorem SBk.cell {W : World} {g : Nat} {l : List ByteArray} (h : SBk W g l) {k : Nat} (hk : k < l.length) : W.cell? ⟨g, k, none⟩ = some (.string (l[k]'hk)) ∧ W.frozen? ⟨g, k, none⟩ = false := by
  refine ⟨?_, Lib.frozen_of_heap h _⟩
  rw [Lib.cell_of_heap h]
  simp [strs, hk]
theorem SBk.set {W : World} {g : Nat} {l : List ByteArray} (h : SBk W g l) (k : Nat) (x : ByteArray) : SBk (W.setCell ⟨g, k, none⟩ (.string x)) g (l.set k x) := by
  have := Lib.heap_setCell_same (i := k) h (.string x)
  unfold SBk
  rw [this]
  congr 2
  apply Array.ext'
  simp [strs, List.map_set]
theorem SBk.turns {W W' : World} {g : Nat} {l : List ByteArray} (h : SBk W g l) {X : Nat → Prop} (ht : Turns X W W') (hX : ¬ X g) : SBk W' g l := (ht.block g h.lt hX).trans h
theorem SBk.below {W W' : World} {g : Nat} {l : List ByteArray} (h : SBk W g l) {n : Nat} (hb : Below n W W') (hn : g < n) : SBk W' g l := (hb.block g hn).trans h
theorem SBk.tx {W : World} {g : Nat} {l : List ByteArray} (h : SBk W g l) (n cap : Nat) (hn : n ≤ l.length) (_hc : cap ≤ maxLen) (hnc : n ≤ cap) (hlc : l.length = cap) : TxAt W (.slice (some ⟨g, 0, none⟩) n cap) (l.take n) := by
  refine ⟨⟨some ⟨g, 0, none⟩, cap, by rw [List.length_take, Nat.min_eq_left hn], .inr ⟨g, 0, rfl, h.lt, fun i hi j v hv => ?_⟩⟩, fun a n' c e => ?_⟩
  · have hil : i < l.length := by rw [List.length_take] at hi; omega
    cases j with
    | zero =>
      simp at hv
      subst hv
      have := (h.cell hil).1
      rw [show (0 + i * 1 + 0) = i by omega, this]
    | succ j => simp at hv
  · cases e
    exact hnc
theorem made22 (n : Nat) : madeCells #[.string ⟨#[]⟩] n = (strs (List.replicate n ⟨#[]⟩)).toArray := by
  apply Array.ext
  · simp [madeCells, strs]
  · intro i h1 h2
    simp [madeCells, strs, Nat.mod_one]
theorem make22 {n : Nat} (h : n ≤ 400) (W : World) : (Instr.makeSlice 22 (.int .i64 (n : Int)) (.int .i64 (n : Int))).run Tryd.prog W = .ok (.slice (some ⟨W.heap.size, 0, none⟩) n n) (W.alloc (.cells (strs (List.replicate n ⟨#[]⟩)).toArray 9)) := by
  obtain ⟨i9, hi⟩ := Option.isSome_iff_exists.1 (show (Tryd.prog.info? 9).isSome = true by kernel_rfl)
  have hz0 : i9.zero = some (.string ⟨#[]⟩) := by
    have h : (Tryd.prog.info? 9).map (·.zero) = some (some (.string ⟨#[]⟩)) := by kernel_rfl
    rw [hi] at h; simpa using h
  have hz1 : i9.size = 1 := by
    have h : (Tryd.prog.info? 9).map (·.size) = some 1 := by kernel_rfl
    rw [hi] at h; simpa using h
  have hz2 : i9.bytes = 16 := by
    have h : (Tryd.prog.info? 9).map (·.bytes) = some 16 := by kernel_rfl
    rw [hi] at h; simpa using h
  have := run_makeSlice (P := Tryd.prog) (w := W) 22 9 i9 _ Tryd.underlying22 hi hz0 .i64 .i64 n n (by omega) (by omega) (by rw [hz1]; omega) (by rw [hz2]; omega) (by omega)
  rw [hz1, Int.toNat_natCast, Nat.mul_one] at this
  rw [← made22]
  exact this
theorem copy22 {W : World} {g c1 : Nat} {a1 : Option Addr} {ss : List ByteArray} (h : SBk W g (List.replicate (ss.length + 3) ⟨#[]⟩)) (ht : TxAt W (.slice a1 ss.length c1) ss) :
    ∃ W', (Builtin.copy_ #[22, 22] 3 #[.slice (some ⟨g, 0, none⟩) (ss.length + 3) (ss.length + 3), .slice a1 ss.length c1]).run Tryd.prog W = .ok (.int .i64 (ss.length : Int)) W' ∧ SBk W' g (ss ++ List.replicate 3 ⟨#[]⟩) ∧ Turns (fun k => k = g) W W' := by
  have hsz : (Tryd.prog.info? 9).map (·.size) = some 1 := by kernel_rfl
  obtain ⟨hs1, hs2, hs3⟩ := tx_srcs ht
  rcases hs3 with ⟨h0, c, hx⟩ | ⟨a, c, hx, hcell⟩
  · have : ss = [] := List.eq_nil_of_length_eq_zero h0
    subst this
    refine ⟨W, run_copy_none (P := Tryd.prog) W 22 22 3 9 _ a1 _ _ 0 c1 Tryd.underlying22 hsz (by simp), by simpa using h, Turns.refl _ _⟩
  · cases hx
    have hr := run_copy_row (P := Tryd.prog) W 22 22 3 9 g 0 (ss.length + 3) (ss.length + 3) a ss.length c1 _ 9 (strs ss) Tryd.underlying22 hsz h (by rw [show ss.length.min (ss.length + 3) = ss.length from Nat.min_eq_left (by omega)]; simp [strs]) hcell (by simp [strs]) hs2
    have hlen : (strs ss).length = ss.length := by simp [strs]
    rw [hlen] at hr
    refine ⟨_, hr, ?_, ?_⟩
    · show (World.setRow W g _).heap[g]? = _
      rw [setRow_heap W g _ _ 9 _ h]
      have e : (List.take 0 (strs (List.replicate (ss.length + 3) (⟨#[]⟩ : ByteArray))).toArray.toList ++ strs ss ++ List.drop (0 + ss.length) (strs (List.replicate (ss.length + 3) (⟨#[]⟩ : ByteArray))).toArray.toList).toArray = (strs (ss ++ List.replicate 3 (⟨#[]⟩ : ByteArray))).toArray := by
        unfold strs
        rw [List.take_zero, List.nil_append, Nat.zero_add, ← List.map_drop, List.drop_replicate, Nat.add_sub_cancel_left, List.map_append]
      rw [e]
    · exact ⟨rfl, rfl, rfl, by simp [World.setRow], fun k hk hne => by
        have hne' : ¬ g = k := fun e => hne e.symm
        simp [World.setRow, Array.getElem?_modify, hne']⟩
def lentS : ByteArray := ⟨#[108, 101, 110, 116]⟩
theorem lent_set (ss : List ByteArray) (k : Nat) (hk : k < 3) : (ss ++ (List.replicate k lentS ++ List.replicate (3 - k) (⟨#[]⟩ : ByteArray))).set (ss.length + k) lentS = ss ++ (List.replicate (k + 1) lentS ++ List.replicate (3 - (k + 1)) (⟨#[]⟩ : ByteArray)) := by
  rw [List.set_append_right _ _ (by omega), Nat.add_sub_cancel_left]
  obtain rfl | rfl | rfl : k = 0 ∨ k = 1 ∨ k = 2 := by omega
  all_goals rfl
set_option maxRecDepth 100000 in
set_option maxHeartbeats 4000000 in
theorem lent_any (v1 : Value) (ss : List ByteArray) (hl : ss.length ≤ 300) (w : World) (t1 : TxAt w v1 ss) :
    Calls Tryd.prog 9 #[v1] w fun e w' => e = .returned (.slice (some ⟨w.heap.size, 0, none⟩) ss.length (ss.length + 3)) ∧ Below w.heap.size w w' ∧ SBk w' w.heap.size (ss ++ List.replicate 3 lentS) := by
  obtain ⟨a1, c1, rfl, -⟩ := t1.ex
  have hmk : (Instr.makeSlice 22 (.int .i64 ((ss.length : Int) + 3)) (.int .i64 ((ss.length : Int) + 3))).run Tryd.prog w = .ok (.slice (some ⟨w.heap.size, 0, none⟩) (ss.length + 3) (ss.length + 3)) (w.alloc (.cells (strs (List.replicate (ss.length + 3) ⟨#[]⟩)).toArray 9)) := by
    have := make22 (n := ss.length + 3) (by omega) w
    rwa [show (((ss.length + 3 : Nat)) : Int) = (ss.length : Int) + 3 by omega] at this
  have hb1 : Below w.heap.size w (w.alloc (.cells (strs (List.replicate (ss.length + 3) ⟨#[]⟩)).toArray 9)) := below_one (Below.refl _ _) _
  have hI1 : SBk (w.alloc (.cells (strs (List.replicate (ss.length + 3) ⟨#[]⟩)).toArray 9)) w.heap.size (List.replicate (ss.length + 3) ⟨#[]⟩) := World.alloc_heap_new w _
  obtain ⟨w2, hcp, hS2, hT2⟩ := copy22 hI1 (t1.next _)
  have hb2 : Below w.heap.size w w2 := hb1.trans (hT2.below hb1.size (fun k hk => by omega))
  generalize w.alloc (.cells (strs (List.replicate (ss.length + 3) ⟨#[]⟩)).toArray 9) = w1 at *
  have hS2h : Hid (SBk w2 w.heap.size (ss ++ (List.replicate 0 lentS ++ List.replicate (3 - 0) ⟨#[]⟩))) := hS2
  clear hS2 hT2 hI1 t1
  obtain ⟨g, hg⟩ : ∃ g, w.heap.size = g := ⟨_, rfl⟩
  rw [hg] at hmk hcp hb1 hb2 hS2h ⊢
  clear hg
  go_enter Tryd.func9, Tryd.ntmps9
  go_wp2_with (at_builtin; refine Lib.wpList_copy_run _ rfl _ _ 22 22 rfl _ _ rfl rfl hcp ?_)
  clear hcp hmk
  go_loopw [4] (fun i wr => ∃ k : Nat, k ≤ 3 ∧ i = .int .i64 ((ss.length + k : Nat) : Int) ∧ Below g w wr ∧ Hid (SBk wr g (ss ++ (List.replicate k lentS ++ List.replicate (3 - k) ⟨#[]⟩)))) (fun i _ => ss.length + 3 - (intOf i).toNat)
  case atStart => exact ⟨0, by omega, rfl, hb2, hS2h⟩
  case round =>
    obtain ⟨k, hk, rfl, hbl, hS⟩ := hrel
    by_cases hlt : k < 3
    · have hkl : ((ss.length + k : Nat) : Int) < (ss.length : Int) + 3 := by omega
      have hlen : ss.length + k < (ss ++ (List.replicate k lentS ++ List.replicate (3 - k) (⟨#[]⟩ : ByteArray))).length := by simp; omega
      obtain ⟨c0, f0⟩ := hS.out.cell hlen
      have hset := hS.out.set (ss.length + k) lentS
      rw [lent_set ss k hlt] at hset
      have hseth : Hid (SBk (wr.setCell ⟨g, ss.length + k, none⟩ (.string ⟨#[108, 101, 110, 116]⟩)) g (ss ++ (List.replicate (k + 1) lentS ++ List.replicate (3 - (k + 1)) ⟨#[]⟩))) := hset
      have hbn : Below g w (wr.setCell ⟨g, ss.length + k, none⟩ (.string ⟨#[108, 101, 110, 116]⟩)) := hbl.setCell (p := ⟨g, ss.length + k, none⟩) (Nat.le_refl _) _
      have hlt2 : ss.length + k < ss.length + 3 := by omega
      generalize (ss ++ (List.replicate k lentS ++ List.replicate (3 - k) (⟨#[]⟩ : ByteArray)))[ss.length + k]'hlen = x0 at *
      have hnx : Hid (((ss.length + k : Nat) : Int) + 1 = ((ss.length + (k + 1) : Nat) : Int)) := by show _ = _; omega
      have hnb : ((ss.length + k : Nat) : Int) ≤ 400 := by omega
      generalize hNN : ss.length + k = nn at *
      clear hset hS hlen
      go_wp2_with fail
      go_roundw
      case rel => exact ⟨k + 1, by omega, by rw [← hnx.out], hbn, hseth⟩
      case measure => simp [intOf]; omega
    · obtain rfl : k = 3 := by omega
      have hkl : ¬ ((ss.length + 3 : Nat) : Int) < (ss.length : Int) + 3 := by omega
      have hSf : Hid (SBk wr g (ss ++ List.replicate 3 lentS)) := by
        have h := hS.out
        simp at h
        exact h
      clear hS
      generalize ((ss.length + 3 : Nat) : Int) = nn at *
      go_wp2_with fail
      go_ret
      exact ⟨rfl, hbl, hSf.out⟩
set_option maxRecDepth 100000 in
set_option maxHeartbeats 4000000 in
theorem sameTexts_yes (v1 v2 : Value) (ss : List ByteArray) (hl : ss.length ≤ 1000) (w : World) (t1 : TxAt w v1 ss) (t2 : TxAt w v2 ss) :
    Calls Tryd.prog 34 #[v1, v2] w fun e w' => e = .returned (.bool true) ∧ Below w.heap.size w w' := by
  have T1 : Hid (∀ W, Below w.heap.size w W → TxAt W v1 ss) := fun W hb => t1.below hb (Nat.le_refl _)
  have T2 : Hid (∀ W, Below w.heap.size w W → TxAt W v2 ss) := fun W hb => t2.below hb (Nat.le_refl _)
  obtain ⟨a1, c1, rfl, -⟩ := t1.ex
  obtain ⟨a2, c2, rfl, -⟩ := t2.ex
  clear t1 t2
  go_enter Tryd.func34, Tryd.ntmps34
  go_wp2_with fail
  go_loopw [5] (fun i wr => ∃ k : Nat, k ≤ ss.length ∧ i = .int .i64 k ∧ Below w.heap.size w wr) (fun i _ => ss.length - (intOf i).toNat)
  case atStart => exact ⟨0, by omega, rfl, Below.refl _ _⟩
  case round =>
    obtain ⟨k, hk, rfl, hbl⟩ := hrel
    by_cases hlt : k < ss.length
    · have hkl : (k : Int) < ss.length := by omega
      obtain ⟨b1, o1, hab1, d1⟩ := tx_cell (T1.out _ hbl) hlt
      obtain ⟨b2, o2, hab2, d2⟩ := tx_cell (T2.out _ hbl) hlt
      subst hab1
      subst hab2
      have e1 : wr.drew.cell? ⟨b1, o1 + k, none⟩ = some (.string (ss[k]'hlt)) := d1
      have e2 : wr.drew.cell? ⟨b2, o2 + k, none⟩ = some (.string (ss[k]'hlt)) := d2
      have hbd : Below w.heap.size w wr.drew := ⟨hbl.1, hbl.2, hbl.3, hbl.4, hbl.5⟩
      generalize ss[k]'hlt = x at *
      go_wp2_with fail
      go_region
      all_goals go_wp2_with fail
      all_goals exact ⟨⟨k + 1, by omega, by simp, hbd⟩, by simp [intOf]; omega⟩
    · have hkl : ¬ (k : Int) < ss.length := by omega
      go_wp2_with fail
      go_ret
      exact ⟨rfl, hbl⟩
set_option maxRecDepth 100000 in
set_option maxHeartbeats 4000000 in
theorem over_any (g n : Nat) (l : List ByteArray) (hn : n + 3 = l.length) (hl : l.length ≤ 400) (hs : ∀ x ∈ l, x.size ≤ 1000) (w : World) (h : SBk w g l) :
    Calls Tryd.prog 13 #[.slice (some ⟨g, 0, none⟩) n (n + 3)] w fun e w' => e = .returned (.tuple #[]) ∧ Turns (fun k => k = g) w w' := by
  have hsh : Hid (∀ x ∈ l, x.size ≤ 1000) := hs
  have hh : Hid (SBk w g l) := h
  clear hs h
  obtain ⟨cap, hcap⟩ : ∃ cap, n + 3 = cap := ⟨_, rfl⟩
  have hnc : n ≤ cap := by omega
  rw [hcap] at hn ⊢
  clear hcap
  go_enter Tryd.func13, Tryd.ntmps13
  go_wp2_with fail
  go_loopw [3] (fun i wr => ∃ (k : Nat) (l2 : List ByteArray), k ≤ cap ∧ i = .int .i64 k ∧ Hid (Turns (fun k => k = g) w wr) ∧ l2.length = cap ∧ Hid (SBk wr g l2) ∧ Hid (∀ (j : Nat) (h : j < l2.length), k ≤ j → (l2[j]'h).size ≤ 1000)) (fun i _ => cap - (intOf i).toNat)
  case atStart => exact ⟨0, l, by omega, rfl, Turns.refl _ _, hn.symm, hh, fun j h _ => hsh.out _ (List.getElem_mem h)⟩
  case round =>
    obtain ⟨k, l2, hk, rfl, hT, hl2, hS, hsz⟩ := hrel
    by_cases hlt : k < cap
    · have hkl : (k : Int) < cap := by omega
      have hk2 : k < l2.length := by omega
      obtain ⟨c0, f0⟩ := hS.out.cell hk2
      have hx := hsz.out k hk2 (Nat.le_refl _)
      have hS2 : Hid (SBk (wr.setCell ⟨g, k, none⟩ (.string ((l2[k]'hk2) ++ ⟨#[33]⟩))) g (l2.set k ((l2[k]'hk2) ++ ⟨#[33]⟩))) := hS.out.set k _
      have hT2 : Hid (Turns (fun k => k = g) w (wr.setCell ⟨g, k, none⟩ (.string ((l2[k]'hk2) ++ ⟨#[33]⟩)))) := hT.out.trans (Turns.setCell (X := fun k => k = g) wr (p := ⟨g, k, none⟩) rfl _)
      have hsz2 : Hid (∀ (j : Nat) (h : j < (l2.set k ((l2[k]'hk2) ++ ⟨#[33]⟩)).length), k + 1 ≤ j → ((l2.set k ((l2[k]'hk2) ++ ⟨#[33]⟩))[j]'h).size ≤ 1000) := fun j h hj => by
        rw [List.getElem_set_ne (by omega)]
        exact hsz.out j (by simpa using h) (by omega)
      have hl3 : (l2.set k ((l2[k]'hk2) ++ ⟨#[33]⟩)).length = cap := by simpa using hl2
      generalize hgs : l2.set k ((l2[k]'hk2) ++ ⟨#[33]⟩) = l3 at *
      generalize l2[k]'hk2 = x at *
      have hxx : ¬ 9223372036854775807 < x.size + 1 := by omega
      clear hgs hS hT hsz
      go_wp2_with fail
      go_roundw
      case rel => exact ⟨k + 1, l3, by omega, by simp, hT2, hl3, hS2, hsz2⟩
      case measure => simp [intOf]; omega
    · have hkl : ¬ (k : Int) < cap := by omega
      clear hsz hS
      go_wp2_with fail
      go_returns
      exact ⟨rfl, hT.out⟩
end Go.Proofs.YtfblhpkndfbhgaaDoor
