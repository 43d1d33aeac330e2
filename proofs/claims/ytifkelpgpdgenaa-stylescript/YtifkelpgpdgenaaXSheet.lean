/-
  What is proved here: sheets in memory: which styles there are, kept and turned.
-/
import Derived.Test.YtifkelpgpdgenaaWalkD
import Derived.Maps.OwnSet
namespace Go.Proofs.Ytifkelpgpdgenaa
open Go.RowKit Go.Shelf

variable {X : Nat → Prop}
open Go.Maps (Keyed)

/-- Nothing that was there has changed but one block. -/
def Only (t : Nat) (w w' : World) : Prop := w.grownBy w' (some t)
theorem only_of_below {t : Nat} {w w' : World} (h : Below w.heap.size w w') : Only t w w' := ⟨h.1, h.2, h.3, h.4, fun k hk _ => h.5 k hk⟩
theorem Only.trans {t : Nat} {w w1 w2 : World} (h : Only t w w1) (h2 : Only t w1 w2) : Only t w w2 :=
  ⟨h2.os.trans h.os, h2.tape.trans h.tape, h2.output.trans h.output, Nat.le_trans h.size h2.size, fun k hk hne => (h2.block k (Nat.lt_of_lt_of_le hk h.size) hne).trans (h.block k hk hne)⟩
/-- What was made behind a world may turn. -/
theorem Only.below {t n : Nat} {w w1 w2 : World} (hb : Below n w w1) (hn : n ≤ t) (hnw : n ≤ w.heap.size) (h : Only t w1 w2) : Below n w w2 :=
  ⟨h.os.trans hb.1, h.tape.trans hb.2, h.output.trans hb.3, Nat.le_trans hb.size h.size, fun k hk => (h.block k (by have := hb.size; omega) (by simp; omega)).trans (hb.block k hk)⟩

abbrev Str := ByteArray
/-- A style: its parent, its settings. -/
abbrev Sty := Str × List (Int × Int)
abbrev Sh := Str → Option Sty
noncomputable def upd (S : Sh) (s : Str) (x : Sty) : Sh := by classical exact fun u => if u = s then some x else S u
theorem upd_same (S : Sh) (s : Str) (x : Sty) : upd S s x s = some x := by classical simp [upd]
theorem upd_other (S : Sh) {s u : Str} (x : Sty) (h : u ≠ s) : upd S s x u = S u := by classical simp [upd, h]

/-- How a style in the map reads: as itself. -/
def R0 (v : Value) : Option (DataW Value × List MemPlace) := some (.held v, [])
def keyL (s : Str) : Lit := .string s.data.toList
theorem keyL_ne {s u : Str} (h : s ≠ u) : keyL s ≠ keyL u := fun e => h (by
  have h1 : s.data.toList = u.data.toList := by simpa [keyL] using e
  have h2 : s.data = u.data := Array.toList_inj.1 h1
  obtain ⟨s⟩ := s; obtain ⟨u⟩ := u; simp at h2; rw [h2])
theorem law9 : Keyed Try.prog 9 := Maps.string_keyed Try.underlying9
theorem keyOf9 {s : Str} (h : s.size ≤ maxLen) : keyOf Try.prog 9 (.string s) = some (keyL s) := Go.WideMaps.keyOf_string_mk Try.underlying9 h
theorem zero82 (w : World) : (zeroValue 82).run Try.prog w = .ok (.agg #[.string ⟨#[]⟩, .slice none 0 0]) w := by kernel_rfl

def styV (p : Str) (sl : Value) : Value := .agg #[.string p, sl]

/-- Settings whose row lies in none of some blocks. -/
structure SetsX (X : Nat → Prop) (w : World) (v : Value) (L : List (Int × Int)) : Prop extends SetsAt w v L where
  av : L = [] ∨ ∀ b o l c, v = .slice (some ⟨b, o, none⟩) l c → ¬ X b
/-- All of them are there. -/
def XL (X : Nat → Prop) (w : World) : Prop := ∀ b, X b → b < w.heap.size
theorem XL.mono {w w' : World} (h : XL X w) (hs : w.heap.size ≤ w'.heap.size) : XL X w' := fun b hb => Nat.lt_of_lt_of_le (h b hb) hs

/-- What the map has of one name. -/
def Entry (X : Nat → Prop) (w : World) (D : DataW Value) (s : Str) : Option Sty → Prop
  | none => Maps.has D (keyL s) = false
  | some (p, L) => ∃ a cap, (∀ z, D.atKey (keyL s) z = .held (styV p (.slice a L.length cap))) ∧ SetsX X w (.slice a L.length cap) L

/-- A sheet in memory: its block, its map's, how many styles there are, and which. -/
structure SheetAt (X : Nat → Prop) (w : World) (t b n : Nat) (S : Sh) : Prop where
  obj : w.heap[t]? = some (.cells #[.pointer (some ⟨t, 0, none⟩), .map (some b)] 60 (0, 0))
  own : ∃ D, w.ownsMap Try.prog 9 R0 b n D ∧ Maps.size D = n ∧ ∀ s, Entry X w D s (S s)
  few : n ≤ 32

theorem SheetAt.lt {w : World} {t b n : Nat} {S : Sh} (h : SheetAt X w t b n S) : t < w.heap.size := (Array.getElem?_eq_some_iff.1 h.obj).1
theorem SheetAt.lt2 {w : World} {t b n : Nat} {S : Sh} (h : SheetAt X w t b n S) : b < w.heap.size := by obtain ⟨D, h1, _⟩ := h.own; exact h1.lt
theorem SheetAt.isMap {w : World} {t b n : Nat} {S : Sh} (h : SheetAt X w t b n S) : ∃ es clock, w.heap[b]? = some (.map es clock) := by
  obtain ⟨D, ⟨es, clock, hb, _⟩, _⟩ := h.own; exact ⟨es, clock, hb⟩
theorem SheetAt.ne {w : World} {t b n : Nat} {S : Sh} (h : SheetAt X w t b n S) : t ≠ b := fun e => by
  obtain ⟨es, clock, hb⟩ := h.isMap
  rw [← e, h.obj] at hb; cases hb

theorem SetsAt.only {W W' : World} {b : Nat} {es : Array MapEntry} {clock : Nat} {v : Value} {qs : List (Int × Int)} (h : SetsAt W v qs) (hm : W.heap[b]? = some (.map es clock)) (ho : Only b W W') : SetsAt W' v qs := by
  obtain ⟨a, cap, rfl, h2⟩ := h.ex
  refine ⟨⟨a, cap, rfl, ?_⟩, h.few⟩
  rcases h2 with h2 | ⟨g, o, rfl, hlt, hc⟩
  · exact .inl h2
  · refine .inr ⟨g, o, rfl, Nat.lt_of_lt_of_le hlt ho.size, fun i hi => ?_⟩
    obtain ⟨c0, c1⟩ := hc i hi
    have hg : g ≠ b := fun e => by
      subst e
      simp [World.cell?, hm] at c0
    have hw : ∀ j v, W.cell? ⟨g, j, none⟩ = some v → W'.cell? ⟨g, j, none⟩ = some v := fun j v hv => by
      rw [← hv]
      have := ho.block g hlt (by simp; exact hg)
      simp only [World.cell?, this]
    exact ⟨hw _ _ c0, hw _ _ c1⟩

theorem Entry.mono {w w' : World} {D : DataW Value} {s : Str} {x : Option Sty} (h : Entry X w D s x) (hs : ∀ v qs, SetsAt w v qs → SetsAt w' v qs) : Entry X w' D s x := by
  cases x with
  | none => exact h
  | some x => obtain ⟨a, cap, h1, h2⟩ := h; exact ⟨a, cap, h1, ⟨hs _ _ h2.toSetsAt, h2.av⟩⟩

theorem SheetAt.below {w w' : World} {t b n : Nat} {S : Sh} (h : SheetAt X w t b n S) (hb : Below w.heap.size w w') : SheetAt X w' t b n S := by
  obtain ⟨D, h1, h2, h3⟩ := h.own
  exact ⟨(hb.block t h.lt).trans h.obj, ⟨D, h1.kept (row := none) ⟨hb.1, hb.2, hb.3, hb.4, fun k hk _ => hb.5 k hk⟩ (by simp), h2, fun s => (h3 s).mono fun v qs hq => hq.below hb⟩, h.few⟩

/-- Another sheet's map may turn. -/
theorem SheetAt.only {w w' : World} {t b n b' : Nat} {S : Sh} (h : SheetAt X w t b n S) (ho : Only b' w w') (hne : b ≠ b') {es : Array MapEntry} {clock : Nat} (hm : w.heap[b']? = some (.map es clock)) : SheetAt X w' t b n S := by
  obtain ⟨D, h1, h2, h3⟩ := h.own
  refine ⟨(ho.block t h.lt (by simp; intro e; subst e; rw [h.obj] at hm; cases hm)).trans h.obj, ⟨D, h1.kept ho (by simp; exact hne), h2, fun s => (h3 s).mono fun v qs hq => hq.only hm ho⟩, h.few⟩

/-- Other blocks may be kept free, those that are not there yet. -/
theorem SheetAt.change {w : World} {t b n : Nat} {S : Sh} (h : SheetAt X w t b n S) {Y : Nat → Prop} (hY : ∀ b, Y b → w.heap.size ≤ b) : SheetAt Y w t b n S := by
  obtain ⟨D, h1, h2, h3⟩ := h.own
  refine ⟨h.obj, ⟨D, h1, h2, fun s => ?_⟩, h.few⟩
  have := h3 s
  cases hx : S s with
  | none => rw [hx] at this; exact this
  | some x =>
    rw [hx] at this
    obtain ⟨a, cap, e1, e2⟩ := this
    refine ⟨a, cap, e1, ⟨e2.toSetsAt, ?_⟩⟩
    obtain ⟨a', cap', he, e3⟩ := e2.ex
    cases he
    rcases e3 with e3 | ⟨b', o, rfl, hlt, _⟩
    · exact .inl e3
    · refine .inr fun b o l c hv hb => ?_
      cases hv
      have := hY _ hb
      omega
theorem SetsX.poke {W W' : World} {b : Nat} {v : Value} {qs : List (Int × Int)} (h : SetsX X W v qs) (hb : X b) (ho : Only b W W') : SetsAt W' v qs := by
  obtain ⟨a, cap, rfl, h2⟩ := h.ex
  refine ⟨⟨a, cap, rfl, ?_⟩, h.few⟩
  rcases h2 with h2 | ⟨g, o, rfl, hlt, hc⟩
  · exact .inl h2
  · rcases h.av with h3 | h3
    · exact .inl h3
    refine .inr ⟨g, o, rfl, Nat.lt_of_lt_of_le hlt ho.size, fun i hi => ?_⟩
    obtain ⟨c0, c1⟩ := hc i hi
    have hg : g ≠ b := fun e => h3 _ _ _ _ rfl (e ▸ hb)
    have hw : ∀ j v, W.cell? ⟨g, j, none⟩ = some v → W'.cell? ⟨g, j, none⟩ = some v := fun j v hv => by
      rw [← hv]
      have := ho.block g hlt (by simp; exact hg)
      simp only [World.cell?, this]
    exact ⟨hw _ _ c0, hw _ _ c1⟩
/-- A row of settings that it keeps clear of may turn. -/
theorem SheetAt.poke {w w' : World} {t b n r : Nat} {S : Sh} (h : SheetAt X w t b n S) (hr : X r) {cs : Array Value} {fr : Nat × Nat} (hc : w.heap[r]? = some (.cells cs 37 fr)) (ho : Only r w w') : SheetAt X w' t b n S := by
  obtain ⟨D, h1, h2, h3⟩ := h.own
  have hbr : b ≠ r := fun e => by
    obtain ⟨es, clock, hm⟩ := h.isMap
    rw [e, hc] at hm; cases hm
  have htr : t ≠ r := fun e => by
    have := h.obj
    rw [e, hc] at this; cases this
  refine ⟨(ho.block t h.lt (by simp; exact htr)).trans h.obj, ⟨D, h1.kept ho (by simp; exact hbr), h2, fun s => ?_⟩, h.few⟩
  have := h3 s
  cases hx : S s with
  | none => rw [hx] at this; exact this
  | some x =>
    rw [hx] at this
    obtain ⟨a, cap, e1, e2⟩ := this
    exact ⟨a, cap, e1, ⟨e2.poke hr ho, e2.av⟩⟩

theorem SheetAt.cells {w : World} {t b n : Nat} {S : Sh} (h : SheetAt X w t b n S) : w.cell? ⟨t, 0, none⟩ = some (.pointer (some ⟨t, 0, none⟩)) ∧ w.cell? ⟨t, 1, none⟩ = some (.map (some b)) := by
  constructor <;> (rw [Lib.cell_of_heap h.obj]; rfl)

/-- What is looked up. -/
def valOf (D : DataW Value) (s : Str) : DataW Value := D.atKey (keyL s) (.held (styV ⟨#[]⟩ (.slice none 0 0)))
theorem look_false {w : World} {b n : Nat} {D : DataW Value} {s : Str} {x : Option Sty} (h : w.ownsMap Try.prog 9 R0 b n D) (hs : s.size ≤ maxLen) (he : Entry X w D s x) :
    ∃ a cap, (Instr.lookup 58 (.map (some b)) (.string s) false).run Try.prog w = .ok (styV ((x.map (·.1)).getD ⟨#[]⟩) (.slice a ((x.map (·.2)).getD []).length cap)) w ∧ SetsAt w (.slice a ((x.map (·.2)).getD []).length cap) ((x.map (·.2)).getD []) := by
  obtain ⟨v, ps, hrun, hv⟩ := h.lookup law9 Try.underlying58 (zero82 w) (zd := .held (styV ⟨#[]⟩ (.slice none 0 0))) (zp := []) rfl (keyOf9 hs)
  simp only [R0, Option.some.injEq, Prod.mk.injEq] at hv
  cases x with
  | none =>
    rw [Maps.atKey_of_not_has he] at hv
    obtain ⟨hv, _⟩ := hv
    cases hv
    exact ⟨none, 0, hrun, ⟨none, 0, rfl, .inl rfl⟩, by simp⟩
  | some x =>
    obtain ⟨a, cap, h1, h2⟩ := he
    rw [h1] at hv
    obtain ⟨hv, _⟩ := hv
    cases hv
    exact ⟨a, cap, hrun, h2.toSetsAt⟩
theorem look_true {w : World} {b n : Nat} {D : DataW Value} {s : Str} {x : Option Sty} (h : w.ownsMap Try.prog 9 R0 b n D) (hs : s.size ≤ maxLen) (he : Entry X w D s x) :
    ∃ p a l cap, (Instr.lookup 58 (.map (some b)) (.string s) true).run Try.prog w = .ok (.tuple #[.agg #[.string p, .slice a l cap], .bool x.isSome]) w := by
  obtain ⟨v, ps, hrun, hv⟩ := h.look_ok law9 Try.underlying58 (zero82 w) (zd := .held (styV ⟨#[]⟩ (.slice none 0 0))) (zp := []) rfl (keyOf9 hs)
  simp only [R0, Option.some.injEq, Prod.mk.injEq] at hv
  cases x with
  | none =>
    have he' : Maps.has D (keyL s) = false := he
    rw [Maps.atKey_of_not_has he] at hv
    obtain ⟨hv, _⟩ := hv
    cases hv
    rw [he'] at hrun
    exact ⟨_, _, _, _, hrun⟩
  | some x =>
    obtain ⟨a, cap, h1, h2⟩ := he
    rw [h1] at hv
    obtain ⟨hv, _⟩ := hv
    cases hv
    rw [Maps.has_true_of_atKey h1] at hrun
    exact ⟨_, _, _, _, hrun⟩
end Go.Proofs.Ytifkelpgpdgenaa
