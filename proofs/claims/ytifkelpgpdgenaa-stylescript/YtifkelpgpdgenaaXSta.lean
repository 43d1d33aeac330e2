/-
  What is proved here: two pairs of sheets, of which one turns (for StyleScript).
-/
import Derived.Test.YtifkelpgpdgenaaXCmpReg
import Derived.Test.YtifkelpgpdgenaaXNamesG
import Derived.Test.YtifkelpgpdgenaaXLit
namespace Go.Proofs.Ytifkelpgpdgenaa
open Go.RowKit Go.Shelf

variable {X : Nat → Prop}

/-- What stands between two calls: two pairs, each of one's own. -/
structure Sta (X : Nat → Prop) (w : World) (t b g o c v : Nat) (W : World) : Prop where
  below : Below w.heap.size w W
  one : ∃ T, PairAt X W t b g T
  two : ∃ T, PairAt X W o c v T
  bc : b ≠ c
  gv : g ≠ v
  b0 : w.heap.size ≤ b
  g0 : w.heap.size ≤ g
  c0 : w.heap.size ≤ c
  v0 : w.heap.size ≤ v
theorem Sta.next {w : World} {t b g o c v : Nat} {W W' : World} (h : Sta X w t b g o c v W) (hb : Below W.heap.size W W') : Sta X w t b g o c v W' :=
  ⟨h.below.trans (hb.mono h.below.size), h.one.imp fun _ k => k.below hb, h.two.imp fun _ k => k.below hb, h.bc, h.gv, h.b0, h.g0, h.c0, h.v0⟩
theorem Sta.swap {w : World} {t b g o c v : Nat} {W : World} (h : Sta X w t b g o c v W) : Sta X w o c v t b g W := ⟨h.below, h.two, h.one, h.bc.symm, h.gv.symm, h.c0, h.v0, h.b0, h.g0⟩
theorem Sta.change {w : World} {t b g o c v : Nat} {W : World} (h : Sta X w t b g o c v W) {Y : Nat → Prop} (hY : ∀ r, Y r → W.heap.size ≤ r) : Sta Y w t b g o c v W :=
  ⟨h.below, h.one.imp fun _ k => k.change hY, h.two.imp fun _ k => k.change hY, h.bc, h.gv, h.b0, h.g0, h.c0, h.v0⟩
/-- A row that both pairs keep clear of may turn. -/
theorem Sta.poke {w : World} {t b g o c v r : Nat} {W W' : World} (h : Sta X w t b g o c v W) (hr : X r) (hr0 : w.heap.size ≤ r) {cs : Array Value} (hc : W.heap[r]? = some (.cells cs 37 (0, 0))) (hn : ∀ u ∈ cs.toList, ∃ n, u = .int .i64 n) (ho : Only r W W') : Sta X w t b g o c v W' := by
  have hs : ∀ j s, W.cell? ⟨r, j, none⟩ ≠ some (.string s) := fun j s e => by
    rw [Lib.cell_of_heap hc] at e
    obtain ⟨n, hn'⟩ := hn _ (by rw [← Array.getElem?_toList] at e; exact List.mem_of_getElem? e)
    cases hn'
  exact ⟨Only.below h.below hr0 (Nat.le_refl _) ho, h.one.imp fun _ k => k.poke hr hc hs ho, h.two.imp fun _ k => k.poke hr hc hs ho, h.bc, h.gv, h.b0, h.g0, h.c0, h.v0⟩
/-- What else stays where a map and one of the document's own turn. -/
def Stays (b g : Nat) (W W' : World) : Prop := W.heap.size ≤ W'.heap.size ∧ ∀ r, r < W.heap.size → r ≠ b → r ≠ g → W'.heap[r]? = W.heap[r]?
theorem stays_of {b g : Nat} {W W1 W2 : World} (h1 : Only b W W1) (h2 : Only g W1 W2) : Stays b g W W2 :=
  ⟨Nat.le_trans h1.size h2.size, fun r hr hb hg => (h2.block r (Nat.lt_of_lt_of_le hr h1.size) (by simp; exact hg)).trans (h1.block r hr (by simp; exact hb))⟩
/-- A block of cells of another kind is neither. -/
theorem PairAt.free {W : World} {t b g r : Nat} {T : Stys} (h : PairAt X W t b g T) {cs : Array Value} {ty : TypeId} {fr : Nat × Nat} (hr : W.heap[r]? = some (.cells cs ty fr)) (hty : ty ≠ 50) : r ≠ b ∧ r ≠ g := by
  refine ⟨fun e => ?_, fun e => ?_⟩
  · subst e; exact h.sh.noCells _ _ _ hr
  · subst e
    obtain ⟨u, hu⟩ := h.rf.obj
    rw [hu] at hr
    injection hr with hr
    injection hr with _ h2 _
    exact hty h2.symm
theorem Stays.get {b g r : Nat} {W W' : World} (h : Stays b g W W') {ob : Obj} (hr : W.heap[r]? = some ob) (hb : r ≠ b) (hg : r ≠ g) : W'.heap[r]? = some ob :=
  (h.2 r (Array.getElem?_eq_some_iff.1 hr).1 hb hg).trans hr

/-- Behind Define of both. -/
theorem Sta.defined {w : World} {t b g o c v : Nat} {W W1 W2 : World} (h : Sta X w t b g o c v W) {T : Stys} (hT : PairAt X W t b g T) {name parent : Str} {L : List (Int × Int)} {e1 e2 : Ending}
    (h1 : defPost X W t b T.length (shOf T) name parent L e1 W1) (h2 : rdefPost X W1 g T name parent L e2 W2) : ∃ k, e1 = .returned (.int .i64 k) ∧ e2 = .returned (.int .i64 k) ∧ Sta X w t b g o c v W2 ∧ Stays b g W W2 := by
  obtain ⟨k, r1, r2, hp⟩ := hT.defined h1 h2
  obtain ⟨T', h'⟩ := h.two
  exact ⟨k, r1, r2, ⟨Only.below (Only.below h.below h.b0 (Nat.le_refl _) h1.2.1) h.g0 (Nat.le_refl _) h2.2.1, hp, ⟨T', hT.other h' h.bc.symm h.gv.symm h1.2.1 h2.2.1⟩, h.bc, h.gv, h.b0, h.g0, h.c0, h.v0⟩, stays_of h1.2.1 h2.2.1⟩
/-- Behind Remove of both. -/
theorem Sta.removed {w : World} {t b g o c v : Nat} {W W1 W2 : World} (h : Sta X w t b g o c v W) {T : Stys} (hT : PairAt X W t b g T) {name : Str} {e1 e2 : Ending}
    (h1 : remPost X W t b T.length (shOf T) name e1 W1) (h2 : rremPost X W1 g T name e2 W2) : ∃ k, e1 = .returned (.int .i64 k) ∧ e2 = .returned (.int .i64 k) ∧ Sta X w t b g o c v W2 ∧ Stays b g W W2 := by
  obtain ⟨k, r1, r2, hp⟩ := hT.removed h1 h2
  obtain ⟨T', h'⟩ := h.two
  exact ⟨k, r1, r2, ⟨Only.below (Only.below h.below h.b0 (Nat.le_refl _) h1.2.1) h.g0 (Nat.le_refl _) h2.2.1, hp, ⟨T', hT.other h' h.bc.symm h.gv.symm h1.2.1 h2.2.1⟩, h.bc, h.gv, h.b0, h.g0, h.c0, h.v0⟩, stays_of h1.2.1 h2.2.1⟩
/-- told answers true of the first pair. -/
theorem Sta.told {w : World} {t b g o c v : Nat} {W : World} (h : Sta X w t b g o c v W) (name : Str) (hnl : name.size ≤ maxLen) (u : Value) (own : List (Int × Int)) (hL : SetsAt w u own) :
    Calls Try.prog 27 #[.pointer (some ⟨t, 0, none⟩), .pointer (some ⟨g, 0, none⟩), .string name, u] W fun e w' => e = .returned (.bool true) ∧ Below W.heap.size W w' := by
  obtain ⟨T, hT⟩ := h.one
  exact told_any t b _ g T hT.so hT.few hT.wf name hnl u own W hT.sh hT.rf (hL.below h.below) fun W' h' => names_give t b _ _ hT.wf W' h'
/-- A clone of the first pair, which goes on; the first one is the other. -/
theorem Sta.clone {w : World} {t b g o c v : Nat} {W : World} (h : Sta X w t b g o c v W) (hXL : XL X W) :
    Calls Try.prog 21 #[.pointer (some ⟨t, 0, none⟩)] W fun e W1 => ∃ t2 b2, e = .returned (.pointer (some ⟨t2, 0, none⟩)) ∧ Below W.heap.size W W1 ∧
      Hid (Calls Try.prog 22 #[.pointer (some ⟨g, 0, none⟩)] W1 fun e W2 => ∃ g2, e = .returned (.pointer (some ⟨g2, 0, none⟩)) ∧ Below W.heap.size W W2 ∧ Sta X w t2 b2 g2 t b g W2) := by
  obtain ⟨T, hT⟩ := h.one
  refine (clone_any t b _ _ hT.wf W hT.sh hXL).mono ?_
  rintro e W1 ⟨t2, b2, rfl, ht2, hb2, hs, B1⟩
  refine ⟨t2, b2, rfl, B1, ?_⟩
  have hT1 := hT.below B1
  refine (refClone_any g T hT.few W1 hT1.rf (hXL.mono B1.size)).mono ?_
  rintro e W2 ⟨g2, rfl, hg2, hr, B2⟩
  have B12 := B1.trans (B2.mono B1.size)
  have e1 := h.below.size
  have e2 := B1.size
  have lt1 := hT.sh.lt2
  have lt2 := hT.rf.lt
  exact ⟨g2, rfl, B12, h.below.trans (B12.mono h.below.size), ⟨T, hs.below B2, hr, hT.so, hT.wf⟩, ⟨T, hT.below B12⟩, by omega, by omega, by omega, by omega, h.b0, h.g0⟩
end Go.Proofs.Ytifkelpgpdgenaa
