/-
  What is proved here: two pairs of sheets, of which one turns (for StyleScript).
  What is proved here: what stands within a round of StyleScript: the two pairs, the act, and what is handed in.
-/
import Derived.Test.YtifkelpgpdgenaaXCmpReg
import Derived.Test.YtifkelpgpdgenaaXNamesG
import Derived.Test.YtifkelpgpdgenaaXLit
import Derived.Test.YtifkelpgpdgenaaXActs
namespace Go.Proofs.Ytifkelpgpdgenaa
open Go.RowKit Go.Shelf

variable {X : Nat → Prop}

/-- What stands between two calls: two pairs, each of one's own. -/
structure Sta (X : Nat → Prop) (w : World) (t b g o c v : Nat) (W : World) : Prop where
  below : Below w.heap.size w W
  one : ∃ T, PairAt X W t b g T
  two : ∃ T, PairAt X W o c v T
  bc : b ≠ c
  gv : g ≠ v
  b0 : w.heap.size ≤ b
  g0 : w.heap.size ≤ g
  c0 : w.heap.size ≤ c
  v0 : w.heap.size ≤ v
theorem Sta.next {w : World} {t b g o c v : Nat} {W W' : World} (h : Sta X w t b g o c v W) (hb : Below W.heap.size W W') : Sta X w t b g o c v W' :=
  ⟨h.below.trans (hb.mono h.below.size), h.one.imp fun _ k => k.below hb, h.two.imp fun _ k => k.below hb, h.bc, h.gv, h.b0, h.g0, h.c0, h.v0⟩
theorem Sta.swap {w : World} {t b g o c v : Nat} {W : World} (h : Sta X w t b g o c v W) : Sta X w o c v t b g W := ⟨h.below, h.two, h.one, h.bc.symm, h.gv.symm, h.c0, h.v0, h.b0, h.g0⟩
theorem Sta.change {w : World} {t b g o c v : Nat} {W : World} (h : Sta X w t b g o c v W) {Y : Nat → Prop} (hY : ∀ r, Y r → W.heap.size ≤ r) : Sta Y w t b g o c v W :=
  ⟨h.below, h.one.imp fun _ k => k.change hY, h.two.imp fun _ k => k.change hY, h.bc, h.gv, h.b0, h.g0, h.c0, h.v0⟩
/-- A row that both pairs keep clear of may turn. -/
theorem Sta.poke {w : World} {t b g o c v r : Nat} {W W' : World} (h : Sta X w t b g o c v W) (hr : X r) (hr0 : w.heap.size ≤ r) {cs : Array Value} (hc : W.heap[r]? = some (.cells cs 37 (0, 0))) (hn : ∀ u ∈ cs.toList, ∃ n, u = .int .i64 n) (ho : Only r W W') : Sta X w t b g o c v W' := by
  have hs : ∀ j s, W.cell? ⟨r, j, none⟩ ≠ some (.string s) := fun j s e => by
    rw [Lib.cell_of_heap hc] at e
    obtain ⟨n, hn'⟩ := hn _ (by rw [← Array.getElem?_toList] at e; exact List.mem_of_getElem? e)
    cases hn'
  exact ⟨Only.below h.below hr0 (Nat.le_refl _) ho, h.one.imp fun _ k => k.poke hr hc hs ho, h.two.imp fun _ k => k.poke hr hc hs ho, h.bc, h.gv, h.b0, h.g0, h.c0, h.v0⟩
/-- What else stays where a map and one of the document's own turn. -/
def Stays (b g : Nat) (W W' : World) : Prop := W.heap.size ≤ W'.heap.size ∧ ∀ r, r < W.heap.size → r ≠ b → r ≠ g → W'.heap[r]? = W.heap[r]?
theorem stays_of {b g : Nat} {W W1 W2 : World} (h1 : Only b W W1) (h2 : Only g W1 W2) : Stays b g W W2 :=
  ⟨Nat.le_trans h1.size h2.size, fun r hr hb hg => (h2.block r (Nat.lt_of_lt_of_le hr h1.size) (by simp; exact hg)).trans (h1.block r hr (by simp; exact hb))⟩
/-- A block of cells of another kind is neither. -/
theorem PairAt.free {W : World} {t b g r : Nat} {T : Stys} (h : PairAt X W t b g T) {cs : Array Value} {ty : TypeId} {fr : Nat × Nat} (hr : W.heap[r]? = some (.cells cs ty fr)) (hty : ty ≠ 50) : r ≠ b ∧ r ≠ g := by
  refine ⟨fun e => ?_, fun e => ?_⟩
  · subst e; exact h.sh.noCells _ _ _ hr
  · subst e
    obtain ⟨u, hu⟩ := h.rf.obj
    rw [hu] at hr
    injection hr with hr
    injection hr with _ h2 _
    exact hty h2.symm
theorem Stays.get {b g r : Nat} {W W' : World} (h : Stays b g W W') {ob : Obj} (hr : W.heap[r]? = some ob) (hb : r ≠ b) (hg : r ≠ g) : W'.heap[r]? = some ob :=
  (h.2 r (Array.getElem?_eq_some_iff.1 hr).1 hb hg).trans hr

/-- Behind Define of both. -/
theorem Sta.defined {w : World} {t b g o c v : Nat} {W W1 W2 : World} (h : Sta X w t b g o c v W) {T : Stys} (hT : PairAt X W t b g T) {name parent : Str} {L : List (Int × Int)} {e1 e2 : Ending}
    (h1 : defPost X W t b T.length (shOf T) name parent L e1 W1) (h2 : rdefPost X W1 g T name parent L e2 W2) : ∃ k, e1 = .returned (.int .i64 k) ∧ e2 = .returned (.int .i64 k) ∧ Sta X w t b g o c v W2 ∧ Stays b g W W2 := by
  obtain ⟨k, r1, r2, hp⟩ := hT.defined h1 h2
  obtain ⟨T', h'⟩ := h.two
  exact ⟨k, r1, r2, ⟨Only.below (Only.below h.below h.b0 (Nat.le_refl _) h1.2.1) h.g0 (Nat.le_refl _) h2.2.1, hp, ⟨T', hT.other h' h.bc.symm h.gv.symm h1.2.1 h2.2.1⟩, h.bc, h.gv, h.b0, h.g0, h.c0, h.v0⟩, stays_of h1.2.1 h2.2.1⟩
/-- Behind Remove of both. -/
theorem Sta.removed {w : World} {t b g o c v : Nat} {W W1 W2 : World} (h : Sta X w t b g o c v W) {T : Stys} (hT : PairAt X W t b g T) {name : Str} {e1 e2 : Ending}
    (h1 : remPost X W t b T.length (shOf T) name e1 W1) (h2 : rremPost X W1 g T name e2 W2) : ∃ k, e1 = .returned (.int .i64 k) ∧ e2 = .returned (.int .i64 k) ∧ Sta X w t b g o c v W2 ∧ Stays b g W W2 := by
  obtain ⟨k, r1, r2, hp⟩ := hT.removed h1 h2
  obtain ⟨T', h'⟩ := h.two
  exact ⟨k, r1, r2, ⟨Only.below (Only.below h.below h.b0 (Nat.le_refl _) h1.2.1) h.g0 (Nat.le_refl _) h2.2.1, hp, ⟨T', hT.other h' h.bc.symm h.gv.symm h1.2.1 h2.2.1⟩, h.bc, h.gv, h.b0, h.g0, h.c0, h.v0⟩, stays_of h1.2.1 h2.2.1⟩
/-- told answers true of the first pair. -/
theorem Sta.told {w : World} {t b g o c v : Nat} {W : World} (h : Sta X w t b g o c v W) (name : Str) (hnl : name.size ≤ maxLen) (u : Value) (own : List (Int × Int)) (hL : SetsAt w u own) :
    Calls Try.prog 27 #[.pointer (some ⟨t, 0, none⟩), .pointer (some ⟨g, 0, none⟩), .string name, u] W fun e w' => e = .returned (.bool true) ∧ Below W.heap.size W w' := by
  obtain ⟨T, hT⟩ := h.one
  exact told_any t b _ g T hT.so hT.few hT.wf name hnl u own W hT.sh hT.rf (hL.below h.below) fun W' h' => names_give t b _ _ hT.wf W' h'
/-- A clone of the first pair, which goes on; the first one is the other. -/
theorem Sta.clone {w : World} {t b g o c v : Nat} {W : World} (h : Sta X w t b g o c v W) (hXL : XL X W) :
    Calls Try.prog 21 #[.pointer (some ⟨t, 0, none⟩)] W fun e W1 => ∃ t2 b2, e = .returned (.pointer (some ⟨t2, 0, none⟩)) ∧ Below W.heap.size W W1 ∧
      Hid (Calls Try.prog 22 #[.pointer (some ⟨g, 0, none⟩)] W1 fun e W2 => ∃ g2, e = .returned (.pointer (some ⟨g2, 0, none⟩)) ∧ Below W.heap.size W W2 ∧ Sta X w t2 b2 g2 t b g W2) := by
  obtain ⟨T, hT⟩ := h.one
  refine (clone_any t b _ _ hT.wf W hT.sh hXL).mono ?_
  rintro e W1 ⟨t2, b2, rfl, ht2, hb2, hs, B1⟩
  refine ⟨t2, b2, rfl, B1, ?_⟩
  have hT1 := hT.below B1
  refine (refClone_any g T hT.few W1 hT1.rf (hXL.mono B1.size)).mono ?_
  rintro e W2 ⟨g2, rfl, hg2, hr, B2⟩
  have B12 := B1.trans (B2.mono B1.size)
  have e1 := h.below.size
  have e2 := B1.size
  have lt1 := hT.sh.lt2
  have lt2 := hT.rf.lt
  exact ⟨g2, rfl, B12, h.below.trans (B12.mono h.below.size), ⟨T, hs.below B2, hr, hT.so, hT.wf⟩, ⟨T, hT.below B12⟩, by omega, by omega, by omega, by omega, h.b0, h.g0⟩
end Go.Proofs.Ytifkelpgpdgenaa

namespace Go.Proofs.Ytifkelpgpdgenaa
open Go.RowKit Go.Shelf

/-- Within a round: k settings of what is handed in are written over. -/
structure Rnd (w : World) (t b g o c v A : Nat) (iv : Value) (kd : Int) (name parent : Str) (y : Option Addr) (c2 : Nat) (L : List (Int × Int)) (k : Nat) (W : World) : Prop where
  sta : Sta (fun r => iv.ownBlock = some r) w t b g o c v W
  act : W.heap[A]? = some (.cells #[.int .i64 kd, .string name, .string parent, .slice y L.length c2] 53 (0, 0))
  row : L = [] ∨ ∃ I cap cur, iv = .slice (some ⟨I, 0, none⟩) L.length cap ∧ w.heap.size ≤ I ∧ W.heap[I]? = some (.cells cur 37 (0, 0)) ∧ (∀ u ∈ cur.toList, ∃ n, u = .int .i64 n) ∧ ∀ j (hj : j < L.length), k ≤ j → cur[j * 2]? = some (.int .i64 L[j].1) ∧ cur[j * 2 + 1]? = some (.int .i64 L[j].2)
  xl : XL (fun r => iv.ownBlock = some r) W
  few : L.length ≤ 9223372036854775807

section
variable {w : World} {t b g o c v A : Nat} {iv : Value} {kd : Int} {name parent : Str} {y : Option Addr} {c2 : Nat} {L : List (Int × Int)} {k : Nat} {W W' : World}

theorem Rnd.below (h : Rnd w t b g o c v A iv kd name parent y c2 L k W) (hb : Below W.heap.size W W') : Rnd w t b g o c v A iv kd name parent y c2 L k W' := by
  refine ⟨h.sta.next hb, (hb.block A (Array.getElem?_eq_some_iff.1 h.act).1).trans h.act, ?_, h.xl.mono hb.size, h.few⟩
  rcases h.row with h0 | ⟨I, cap, cur, e, hI, hc, r⟩
  · exact .inl h0
  · exact .inr ⟨I, cap, cur, e, hI, (hb.block I (Array.getElem?_eq_some_iff.1 hc).1).trans hc, r⟩
/-- The two pairs may be others. -/
theorem Rnd.with {t' b' g' o' c' v' : Nat} (h : Rnd w t b g o c v A iv kd name parent y c2 L k W) (hs : Sta (fun r => iv.ownBlock = some r) w t' b' g' o' c' v' W) : Rnd w t' b' g' o' c' v' A iv kd name parent y c2 L k W := ⟨hs, h.act, h.row, h.xl, h.few⟩
theorem Rnd.turn (h : Rnd w t b g o c v A iv kd name parent y c2 L k W) (hs : Sta (fun r => iv.ownBlock = some r) w t b g o c v W') (hst : Stays b g W W') : Rnd w t b g o c v A iv kd name parent y c2 L k W' := by
  obtain ⟨T, hT⟩ := h.sta.one
  have fA := hT.free h.act (by decide)
  refine ⟨hs, hst.get h.act fA.1 fA.2, ?_, h.xl.mono hst.1, h.few⟩
  rcases h.row with h0 | ⟨I, cap, cur, e, hI, hc, r⟩
  · exact .inl h0
  · have fI := hT.free hc (by decide)
    exact .inr ⟨I, cap, cur, e, hI, hst.get hc fI.1 fI.2, r⟩
/-- What is handed in, as a list of settings. -/
theorem Rnd.sets (h : Rnd w t b g o c v A iv kd name parent y c2 L 0 W) (hiv : ∃ a cap, iv = .slice a L.length cap) : SetsAt W iv L := by
  obtain ⟨a, cp, rfl⟩ := hiv
  refine ⟨⟨a, cp, rfl, ?_⟩, h.few⟩
  rcases h.row with h0 | ⟨I, cap, cur, e, hI, hc, _, r⟩
  · exact .inl h0
  · cases e
    refine .inr ⟨I, 0, rfl, (Array.getElem?_eq_some_iff.1 hc).1, fun i hi => ?_⟩
    have := r i hi (Nat.zero_le _)
    rw [Lib.cell_of_heap hc, Lib.cell_of_heap hc, Nat.zero_add]
    exact this
theorem Rnd.cells (h : Rnd w t b g o c v A iv kd name parent y c2 L k W) : W.cell? ⟨A, 0, none⟩ = some (.int .i64 kd) ∧ W.cell? ⟨A, 1, none⟩ = some (.string name) ∧ W.cell? ⟨A, 2, none⟩ = some (.string parent) ∧ W.cell? ⟨A, 3, none⟩ = some (.slice y L.length c2) := by
  refine ⟨?_, ?_, ?_, ?_⟩ <;> (rw [Lib.cell_of_heap h.act]; rfl)

/-- One setting is written over. -/
theorem Rnd.step {I cap : Nat} (h : Rnd w t b g o c v A (.slice (some ⟨I, 0, none⟩) L.length cap) kd name parent y c2 L k W) (hk : k < L.length) :
    Rnd w t b g o c v A (.slice (some ⟨I, 0, none⟩) L.length cap) kd name parent y c2 L (k + 1) ((W.drew.setCell ⟨I, k * 2, none⟩ (.int .i64 1)).setCell ⟨I, k * 2 + 1, none⟩ (.int .i64 1)) := by
  obtain ⟨T, hT⟩ := h.sta.one
  have hrow := h.row
  rcases hrow with h0 | ⟨I', cap', cur, e, hI, hc, hint, r⟩
  · rw [h0] at hk; simp at hk
  cases e
  have hc1 : W.drew.heap[I]? = some (.cells cur 37 (0, 0)) := hc
  have hc2 := heap_setCell_same W.drew I (k * 2) cur 37 (.int .i64 1) hc1
  have hc3 := heap_setCell_same _ I (k * 2 + 1) _ 37 (.int .i64 1) hc2
  have ho : Only I W ((W.drew.setCell ⟨I, k * 2, none⟩ (.int .i64 1)).setCell ⟨I, k * 2 + 1, none⟩ (.int .i64 1)) := by
    refine ⟨rfl, rfl, rfl, ?_, fun r hr hne => ?_⟩
    · simp
    · have hne' : r ≠ I := fun e => hne (by rw [e])
      exact (Below.heap_setCell _ _ _ r hne').trans (Below.heap_setCell _ _ _ r hne')
  have hA : A ≠ I := fun e => by
    have := h.act
    rw [e, hc] at this
    injection this with this
    injection this with _ h2 _
    revert h2; decide
  refine ⟨h.sta.poke rfl hI hc hint ho, (ho.block A (Array.getElem?_eq_some_iff.1 h.act).1 (by simp; exact hA)).trans h.act, .inr ⟨I, cap, _, rfl, hI, hc3, ?_, ?_⟩, h.xl.mono ho.size, h.few⟩
  · intro u hu
    rw [Array.mem_toList_iff] at hu
    rcases Array.mem_or_eq_of_mem_setIfInBounds hu with hu | hu
    · rcases Array.mem_or_eq_of_mem_setIfInBounds hu with hu | hu
      · exact hint u (by simpa using hu)
      · exact ⟨1, hu⟩
    · exact ⟨1, hu⟩
  · intro j hj hkj
    obtain ⟨r0, r1⟩ := r j hj (by omega)
    exact ⟨by rw [Array.getElem?_setIfInBounds_ne (by omega), Array.getElem?_setIfInBounds_ne (by omega)]; exact r0, by rw [Array.getElem?_setIfInBounds_ne (by omega), Array.getElem?_setIfInBounds_ne (by omega)]; exact r1⟩
end

/-- A list that was just made is what is handed in. -/
theorem Rnd.start {X : Nat → Prop} {w : World} {t b g o c v : Nat} {kd : Int} {name parent : Str} {y : Option Addr} {c2 : Nat} {L : List (Int × Int)} {wr w2 : World} {iv : Value} (hs : Sta X w t b g o c v wr)
    (hl : L.length ≤ 9223372036854775807) (hown : w2.ownsRow (wr.heap.size + 1) 37 2 iv L.length (seRow L)) (hint : Ints w2 iv) (hg : ((wr.alloc (.cells #[.int .i64 kd, .string name, .string parent, .slice y L.length c2] 53)).alloc (.cells #[] 37)).grownBy w2 (some (wr.heap.size + 1))) :
    Rnd w t b g o c v wr.heap.size iv kd name parent y c2 L 0 w2 := by
  have hB1 := (Below.refl wr.heap.size wr).alloc (Nat.le_refl _) (.cells #[.int .i64 kd, .string name, .string parent, .slice y L.length c2] 53)
  have hB2 := hB1.alloc hB1.size (.cells #[] 37)
  have hBw : Below (wr.heap.size + 1) (wr.alloc (.cells #[.int .i64 kd, .string name, .string parent, .slice y L.length c2] 53)) w2 := by
    have := ((Below.refl (wr.heap.size + 1) (wr.alloc (.cells #[.int .i64 kd, .string name, .string parent, .slice y L.length c2] 53))).alloc (by simp) (.cells #[] 37)).grown hg (by simp) (fun k e => by cases e; exact Nat.le_refl _)
    exact this
  have hA : (wr.alloc (.cells #[.int .i64 kd, .string name, .string parent, .slice y L.length c2] 53)).heap[wr.heap.size]? = some (.cells #[.int .i64 kd, .string name, .string parent, .slice y L.length c2] 53 (0, 0)) := heap_new wr _
  have hw := hs.below.size
  have hW : Sta (fun r => iv.ownBlock = some r) w t b g o c v w2 := by
    have h1 : Sta (fun r => iv.ownBlock = some r) w t b g o c v wr := hs.change fun r hr => by have := (hown.lt r hr).1; omega
    exact h1.next (hB1.trans (hBw.mono (by omega)))
  refine ⟨hW, (hBw.block _ (by omega)).trans hA, ?_, fun r hr => (hown.lt r hr).2, hl⟩
  rcases hown.2 with ⟨_, h0⟩ | ⟨I, cap, cur, rfl, hbI, hc, _, _, hsz, htake⟩
  · exact .inl (List.eq_nil_of_length_eq_zero h0)
  · refine .inr ⟨I, cap, cur, rfl, by omega, hc, ?_, fun j hj _ => ?_⟩
    · obtain ⟨cur', hc', hi⟩ := hint I rfl
      rw [hc] at hc'
      cases hc'
      exact hi
    · have hx : ∀ q, q < 2 → cur[j * 2 + q]? = (seCells L[j])[q]? := fun q hq => by
        rw [← seRow_get L hj q hq, ← htake, List.getElem?_take_of_lt (by omega), Array.getElem?_toList]
      exact ⟨hx 0 (by omega), hx 1 (by omega)⟩
end Go.Proofs.Ytifkelpgpdgenaa
