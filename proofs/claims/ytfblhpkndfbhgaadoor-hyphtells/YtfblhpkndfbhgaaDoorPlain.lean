/-
  What is proved here: what SameInts and Plain answer.
-/
import Derived.Test.YtfblhpkndfbhgaaDoorPoints
namespace Go.Proofs.YtfblhpkndfbhgaaDoor
open Go.RowKit Go.Shelf

/-- The table of blanks lies as the program's text lays it. -/
structure Tab (w : World) : Prop where
  tab : Lib.TabIs Tryd.prog w "strings.asciiSpace" .u8 Lib.asciiSpaceTab
theorem Tab.below {w w' : World} (h : Tab w) (hb : Below w.heap.size w w') : Tab w' := by
  refine ⟨?_⟩
  have := h.tab
  unfold Lib.TabIs World.var? at this ⊢
  cases hg : Tryd.prog.globalNamed "strings.asciiSpace" with
  | none => rw [hg] at this; cases this
  | some g =>
    rw [hg] at this
    simp only [Option.bind_some] at this ⊢
    cases hw : w.heap[g]? with
    | none => rw [hw] at this; cases this
    | some o =>
      rw [hw] at this
      rw [hb.block g (Array.getElem?_eq_some_iff.1 hw).1, hw]
      exact this

/-- A list of numbers in memory. -/
abbrev IntsAt (W : World) (v : Value) (d : List Int) : Prop := RecAt 1 (fun x : Int => [Value.int .i64 x]) W v d
theorem flat_one {α β : Type} (g : α → β) : ∀ l : List α, l.flatMap (fun x => [g x]) = l.map g
  | [] => rfl
  | a :: l => by rw [List.flatMap_cons, flat_one g l]; rfl
theorem ints_of_row {W : World} {base : Nat} {v : Value} {d : List Int} (h : W.ownsRow base 3 1 v d.length (ints d)) : IntsAt W v d :=
  rec_of_row (k := 1) (f := fun x : Int => [Value.int .i64 x]) (fun _ => rfl) (base := base) (e := 3) (n := d.length) rfl (by rw [flat_one]; exact h)
theorem int_cell {W : World} {a : Option Addr} {cap n : Nat} {d : List Int} (h : IntsAt W (.slice a n cap) d) {k : Nat} (hk : k < d.length) : ∃ b o, a = some ⟨b, o, none⟩ ∧ W.cell? ⟨b, o + k, none⟩ = some (.int .i64 (d[k]'hk)) := by
  obtain ⟨a', cap', h1, h2⟩ := h.ex
  cases h1
  rcases h2 with h2 | ⟨b, o, rfl, hb, hc⟩
  · subst h2; simp at hk
  · have := hc k hk 0 (.int .i64 (d[k]'hk)) rfl
    exact ⟨b, o, rfl, by simpa using this⟩
set_option maxRecDepth 100000 in
set_option maxHeartbeats 1000000 in
theorem same_any (va vb : Value) (da db : List Int) (w : World) (ha : IntsAt w va da) (hb : IntsAt w vb db) (hl : da.length ≤ 1000000) :
    Calls Tryd.prog 16 #[va, vb] w fun e w' => e = .returned (.bool (decide (da = db))) ∧ Below w.heap.size w w' := by
  obtain ⟨aa, ca, rfl, _⟩ := ha.ex
  obtain ⟨ab, cb, rfl, _⟩ := hb.ex
  by_cases hlen : da.length = db.length
  · have hno : Hid (∀ (k : Nat) (h : k < da.length) (h' : k < db.length), da[k]'h ≠ db[k]'h' → decide (da = db) = false) := fun k h h' hk => by
      show _ = _
      rw [decide_eq_false]
      intro e; subst e; exact hk rfl
    have hyes : Hid ((∀ (k : Nat) (h : k < da.length) (h' : k < db.length), da[k]'h = db[k]'h') → decide (da = db) = true) := fun h => by
      show _ = _
      rw [decide_eq_true (List.ext_getElem hlen h)]
    generalize decide (da = db) = r at *
    have hq : ((da.length : Int) == db.length) = true := by rw [hlen]; simp
    go_enter Tryd.func16, Tryd.ntmps16
    go_wp2_with fail
    go_loopw [5] (fun i wr => ∃ k : Nat, k ≤ da.length ∧ i = .int .i64 k ∧ Below w.heap.size w wr ∧ Hid (∀ (j : Nat) (h : j < da.length) (h' : j < db.length), j < k → da[j]'h = db[j]'h')) (fun i _ => da.length - (intOf i).toNat)
    case atStart => exact ⟨0, by omega, rfl, Below.refl _ _, fun j _ _ hj => by omega⟩
    case round =>
      obtain ⟨k, hk, rfl, hbl, hall⟩ := hrel
      by_cases hlt : k < da.length
      · have hlt2 : k < db.length := by omega
        obtain ⟨b0, o0, rfl, c0⟩ := int_cell ha hlt
        obtain ⟨b1, o1, rfl, c1⟩ := int_cell hb hlt2
        have c0' : wr.cell? ⟨b0, o0 + k, none⟩ = some (.int .i64 (da[k]'hlt)) := by rw [← c0]; exact World.cell?_of_block (hbl.block b0 (cell_lt c0))
        have c1' : wr.cell? ⟨b1, o1 + k, none⟩ = some (.int .i64 (db[k]'hlt2)) := by rw [← c1]; exact World.cell?_of_block (hbl.block b1 (cell_lt c1))
        have hkl : (k : Int) < da.length := by omega
        have hkl2 : (k : Int) < db.length := by omega
        have hbd : Below w.heap.size w wr.drew := ⟨hbl.1, hbl.2, hbl.3, hbl.4, hbl.5⟩
        by_cases he : da[k]'hlt = db[k]'hlt2
        · have hall2 : Hid (∀ (j : Nat) (h : j < da.length) (h' : j < db.length), j < k + 1 → da[j]'h = db[j]'h') := fun j h h' hj => by
            by_cases hh : j < k
            · exact hall.out j h h' hh
            · obtain rfl : j = k := by omega
              exact he
          rw [← he] at c1'
          generalize da[k]'hlt = x at *
          clear hno hyes hall he ha hb
          go_wp2_with fail
          go_region
          go_wp2_with fail
          go_roundw
          case rel => exact ⟨k + 1, by omega, by simp, hbd, hall2⟩
          case measure => simp [intOf]; omega
        · have hr := hno.out k hlt hlt2 he
          subst hr
          generalize da[k]'hlt = x at *
          generalize db[k]'hlt2 = y at *
          have heq : (x == y) = false := by simpa using he
          clear hno hyes hall ha hb he
          go_wp2_with fail
          go_region
          go_wp2_with fail
          go_ret
          exact ⟨rfl, hbd⟩
      · have hr := hyes.out (fun j h h' => hall.out j h h' (by omega))
        subst hr
        have hkl : ¬ (k : Int) < da.length := by omega
        clear hno hyes hall
        go_wp2_with fail
        go_ret
        exact ⟨rfl, hbl⟩
  · have e : decide (da = db) = false := by rw [decide_eq_false]; intro e; subst e; exact hlen rfl
    rw [e]
    have hq : ((da.length : Int) == db.length) = false := by rw [beq_eq_false_iff_ne]; omega
    clear e
    go_enter Tryd.func16, Tryd.ntmps16
    go_wp2_with fail
    go_ret
    exact ⟨rfl, Below.refl _ _⟩

def plainP : ByteArray := ⟨#[49, 116, 97, 32, 49, 116, 101, 32, 49, 116, 105, 32, 49, 116, 111, 32, 49, 110, 97, 32, 49, 110, 101, 32, 49, 110, 105, 32, 49, 108, 97, 32, 49, 108, 101, 32, 49, 108, 105, 32, 49, 114, 97, 32, 49, 114, 101, 32, 49, 109, 97, 32, 49, 109, 101, 32, 49, 112, 97, 32, 49, 112, 101, 32, 49, 99, 97, 32, 49, 99, 111, 32, 49, 100, 101, 32, 49, 115, 97, 32, 49, 103, 101, 32, 49, 98, 108, 32, 116, 50, 116, 101, 32, 108, 50, 108, 101, 32, 110, 50, 110, 101, 32, 114, 50, 114, 101, 32, 50, 98, 108, 101, 46, 32, 52, 108, 101, 46, 32, 46, 114, 101, 51, 97, 32, 49, 112, 104, 101]⟩
def plainX : ByteArray := ⟨#[116, 97, 45, 98, 108, 101, 32, 112, 114, 111, 45, 106, 101, 99, 116, 32, 104, 121, 45, 112, 104, 101, 110, 45, 97, 45, 116, 105, 111, 110]⟩
def PP : List Bs := [[49, 116, 97], [49, 116, 101], [49, 116, 105], [49, 116, 111], [49, 110, 97], [49, 110, 101], [49, 110, 105], [49, 108, 97], [49, 108, 101], [49, 108, 105], [49, 114, 97], [49, 114, 101], [49, 109, 97], [49, 109, 101], [49, 112, 97], [49, 112, 101], [49, 99, 97], [49, 99, 111], [49, 100, 101], [49, 115, 97], [49, 103, 101], [49, 98, 108], [116, 50, 116, 101], [108, 50, 108, 101], [110, 50, 110, 101], [114, 50, 114, 101], [50, 98, 108, 101, 46], [52, 108, 101, 46], [46, 114, 101, 51, 97], [49, 112, 104, 101]]
def PX : List Bs := [[116, 97, 45, 98, 108, 101], [112, 114, 111, 45, 106, 101, 99, 116], [104, 121, 45, 112, 104, 101, 110, 45, 97, 45, 116, 105, 111, 110]]
theorem fields_P : Lib.fields plainP.data.toList = PP := by decide +kernel
theorem fields_X : Lib.fields plainX.data.toList = PX := by decide +kernel
theorem ascii_P : ∀ (j : Nat) (b : UInt8), plainP.data.toList[j]? = some b → b.toNat < 128 := fun j b h =>
  (show ∀ b ∈ plainP.data.toList, b.toNat < 128 by decide +kernel) b (List.mem_of_getElem? h)
theorem ascii_X : ∀ (j : Nat) (b : UInt8), plainX.data.toList[j]? = some b → b.toNat < 128 := fun j b h =>
  (show ∀ b ∈ plainX.data.toList, b.toNat < 128 by decide +kernel) b (List.mem_of_getElem? h)
theorem good_P : PP.all patB = true := by decide +kernel
theorem good_X : PX.all excB = true := by decide +kernel
theorem fresh_X : freshB [] PX = true := by decide +kernel
theorem size_X : ∀ l ∈ PX, l.length ≤ 200 := by decide +kernel
def tx (l : List Bs) : List ByteArray := l.map (fun x => ⟨x.toArray⟩)
theorem tx_bs (l : List Bs) : (tx l).map bs = l := by
  unfold tx
  rw [List.map_map]
  conv => rhs; rw [← List.map_id l]
  rfl
theorem tx_new (w : World) (l : List Bs) : TxAt (w.alloc (.cells (l.map fun x => Value.string ⟨x.toArray⟩).toArray 9)) (.slice (some ⟨w.heap.size, 0, none⟩) l.length l.length) (tx l) := by
  have h := rec_new (α := ByteArray) (k := 1) (f := fun s => [Value.string s]) (fun _ => rfl) w 9 (tx l)
  have e : (tx l).flatMap (fun s => [Value.string s]) = l.map fun x => Value.string ⟨x.toArray⟩ := by
    rw [flat_one]
    unfold tx
    rw [List.map_map]; rfl
  rw [e, show (tx l).length = l.length by simp [tx]] at h
  exact h
set_option maxRecDepth 100000 in
set_option maxHeartbeats 1000000 in
theorem plain_any (w : World) (ht : Tab w) : Calls Tryd.prog 17 #[] w fun e w' => Below w.heap.size w w' ∧ ∃ hb N em M V, e = .returned (.pointer (some ⟨hb, 0, none⟩)) ∧ HyphAt w' w.heap.size hb (trie PP) (exE PX) N em M V := by
  have h1 : Hid (Calls Tryd.prog 41 #[.string plainP] w fun e w' => e = .returned (.slice (some ⟨w.heap.size, 0, none⟩) PP.length PP.length) ∧ w' = w.alloc (.cells (PP.map fun l => Value.string ⟨l.toArray⟩).toArray 9)) := by
    have := Tryd.strings_Fields plainP w (by decide) ascii_P ht.tab
    rw [fields_P] at this; exact this
  obtain ⟨w1, hw1⟩ : ∃ w1, w.alloc (.cells (PP.map fun l => Value.string ⟨l.toArray⟩).toArray 9) = w1 := ⟨_, rfl⟩
  have hb1 : Below w.heap.size w w1 := by rw [← hw1]; exact (Below.refl _ _).alloc (Nat.le_refl _) _
  have t1 : TxAt w1 (.slice (some ⟨w.heap.size, 0, none⟩) PP.length PP.length) (tx PP) := by rw [← hw1]; exact tx_new w PP
  rw [hw1] at h1
  have h2 : Hid (Calls Tryd.prog 41 #[.string plainX] w1 fun e w' => e = .returned (.slice (some ⟨w1.heap.size, 0, none⟩) PX.length PX.length) ∧ w' = w1.alloc (.cells (PX.map fun l => Value.string ⟨l.toArray⟩).toArray 9)) := by
    have := Tryd.strings_Fields plainX w1 (by decide) ascii_X (ht.below hb1).tab
    rw [fields_X] at this; exact this
  obtain ⟨w2, hw2⟩ : ∃ w2, w1.alloc (.cells (PX.map fun l => Value.string ⟨l.toArray⟩).toArray 9) = w2 := ⟨_, rfl⟩
  have hb2' : Below w1.heap.size w1 w2 := by rw [← hw2]; exact (Below.refl _ _).alloc (Nat.le_refl _) _
  have hb2 : Below w.heap.size w w2 := hb1.trans (hb2'.mono hb1.size)
  have t2 : TxAt w2 (.slice (some ⟨w1.heap.size, 0, none⟩) PX.length PX.length) (tx PX) := by rw [← hw2]; exact tx_new w1 PX
  rw [hw2] at h2
  have hN := new_good _ _ (tx PP) (tx PX) w2 (t1.below hb2' (Nat.le_refl _)) t2 (by decide) (by decide) (fun s hs => by
      unfold tx at hs
      obtain ⟨l, hl, rfl⟩ := List.mem_map.1 hs
      exact size_X l hl) (by
      have := good_P
      unfold tx
      rw [List.all_map]; exact this) (by
      have := good_X
      unfold tx
      rw [List.all_map]; exact this)
  rw [tx_bs, tx_bs] at hN
  have hNh : Hid (Calls Tryd.prog 10 #[.slice (some ⟨w.heap.size, 0, none⟩) PP.length PP.length, .slice (some ⟨w1.heap.size, 0, none⟩) PX.length PX.length] w2 fun e w' => ∃ hb N em M V, e = .returned (.tuple #[.pointer (some ⟨hb, 0, none⟩), .int .i64 0]) ∧ Below w2.heap.size w2 w' ∧ HyphAt w' w2.heap.size hb (trie PP) (exE PX) N em M V) := by
    refine hN.mono ?_
    rintro e w' ⟨q1, q2⟩
    rw [if_pos fresh_X] at q2
    obtain ⟨hb, N, em, M, V, q3, q4, _⟩ := q2
    exact ⟨hb, N, em, M, V, q3, q1, q4⟩
  clear hN t1 t2 hw1 hw2
  unfold plainP at h1
  unfold plainX at h2
  generalize PP.length = np at *
  generalize PX.length = nx at *
  go_enter Tryd.func17, Tryd.ntmps17
  go_wp2_with (first | (go_at_call 41; first | (with_reducible refine h1.out.mono ?_; rintro e w' ⟨rfl, hww⟩; subst hww) | (with_reducible refine h2.out.mono ?_; rintro e w' ⟨rfl, hww⟩; subst hww)) | (go_at_call 10; refine hNh.out.mono ?_; rintro e w' ⟨hb, N, em, M, V, rfl, q1, q2⟩))
  go_ret
  exact ⟨hb2.trans (q1.mono hb2.size), hb, N, em, M, V, rfl, q2.trie, q2.emap, q2.rows, q2.dom, q2.ape, q2.apr, fun k hk => Nat.le_trans hb2.size (q2.young k hk)⟩
end Go.Proofs.YtfblhpkndfbhgaaDoor
