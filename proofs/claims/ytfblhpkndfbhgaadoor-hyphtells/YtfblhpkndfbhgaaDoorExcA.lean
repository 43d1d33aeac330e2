/-
  What is proved here: the two boxes of except: a word that grows, and places.
-/
import Derived.Test.YtfblhpkndfbhgaaDoorExc
namespace Go.Proofs.YtfblhpkndfbhgaaDoor
open Go.RowKit Go.Shelf

/-- The word of the first parts; the places. -/
def wordTo (ps : List Bs) (j : Nat) : Bs := (ps.take j).flatten
def plTo (ps : List Bs) : Nat → List Int
  | 0 => []
  | j + 1 => if 0 < (wordTo ps j).length then plTo ps j ++ [((wordTo ps j).length : Int)] else plTo ps j
theorem wordTo_succ {ps : List Bs} {j : Nat} (h : j < ps.length) : wordTo ps (j + 1) = wordTo ps j ++ ps[j]'h := by
  unfold wordTo
  rw [List.take_succ_eq_append_getElem h, List.flatten_append]; simp
theorem plTo_len (ps : List Bs) : ∀ j, (plTo ps j).length ≤ j
  | 0 => by simp [plTo]
  | j + 1 => by
    have := plTo_len ps j
    rw [plTo]
    split <;> simp <;> omega
theorem strCells_eq (s : ByteArray) : Lib.strCells s = Lib.byteCells s.data.toList := by
  first | rfl | simp [Lib.strCells, Lib.byteCells]
theorem byteCells_append (a b : Bs) : Lib.byteCells (a ++ b) = Lib.byteCells a ++ Lib.byteCells b := by simp [Lib.byteCells]

structure S2 (w1 : World) (b0 b1 : Nat) (wv pv : Value) (wd : Bs) (pl : List Int) (X : Nat → Prop) (W : World) : Prop where
  base : Base w1 (fun k => k = b0 ∨ k = b1) X W
  bw : Blk W b0 #[wv] 71
  bp : Blk W b1 #[pv] 34
  rw : W.ownsRow w1.heap.size 5 1 wv wd.length (Lib.byteCells wd)
  rp : W.ownsRow w1.heap.size 3 1 pv pl.length (ints pl)
  xw : ∀ g, wv.ownBlock = some g → ¬ X g
  xp : ∀ g, pv.ownBlock = some g → ¬ X g
theorem rows_ne {W : World} {e e' : TypeId} {base base' n n' s s' g : Nat} {v v' : Value} {xs xs' : List Value} (h : W.ownsRow base e s v n xs) (h' : W.ownsRow base' e' s' v' n' xs') (he : e ≠ e') (hg : v.ownBlock = some g) : v'.ownBlock ≠ some g := fun hg' => by
  rcases h.2 with ⟨rfl, _⟩ | ⟨a, cap, cur, rfl, _, ha, _⟩
  · cases hg
  · cases hg
    rcases h'.2 with ⟨rfl, _⟩ | ⟨a', cap', cur', rfl, _, ha', _⟩
    · cases hg'
    · cases hg'
      rw [ha] at ha'
      injection ha' with e1
      injection e1 with e2 e3
      exact he e3
section
variable {w1 W W' : World} {b0 b1 : Nat} {wv pv : Value} {wd : Bs} {pl : List Int} {X : Nat → Prop}
theorem Base.turn {own : Nat → Prop} (h : Base w1 own X W) {Y : Nat → Prop} (ht : Turns Y W W') (hY : ∀ k, Y k → own k ∨ w1.heap.size ≤ k) : Base w1 own X W' :=
  ⟨h.turns.trans' ht hY, fun k hk => by have := h.young k hk; have := ht.size; omega⟩
theorem S2.places (h : S2 w1 b0 b1 wv pv wd pl X W) (hne : b0 ≠ b1) (hb1 : b1 < w1.heap.size) {pv' : Value} {pl' : List Int} (ht : Turns (fun k => k = b1 ∨ pv.ownBlock = some k) W W') (hb : Blk W' b1 #[pv'] 34)
    (hr : W'.ownsRow w1.heap.size 3 1 pv' pl'.length (ints pl')) (hw : pv'.ownBlock = pv.ownBlock ∨ ∀ g, pv'.ownBlock = some g → W.heap.size ≤ g) : S2 w1 b0 b1 wv pv' wd pl' X W' ∧ Keeps X W W' := by
  refine ⟨⟨h.base.turn ht ?_, h.bw.turns ht ?_, hb, ownsRow_turns h.rw ht ?_, hr, h.xw, ?_⟩, Keeps.of_turns ht ?_⟩
  · rintro k (rfl | hk)
    · exact .inl (.inr rfl)
    · exact .inr (h.rp.lt k hk).1
  · rintro (rfl | hk)
    · exact hne rfl
    · exact row_ne h.rp h.bw (by decide) hk
  · rintro g hg (rfl | hk)
    · exact row_ne h.rw h.bp (by decide) hg
    · exact rows_ne h.rw h.rp (by decide) hg hk
  · intro g hg hx
    rcases hw with hw | hw
    · exact h.xp g (hw ▸ hg) hx
    · have := hw g hg; have := (h.base.young g hx).2; omega
  · rintro k hk (rfl | hk')
    · have := (h.base.young k hk).1; omega
    · exact h.xp k hk' hk
theorem S2.word (h : S2 w1 b0 b1 wv pv wd pl X W) (hne : b0 ≠ b1) (hb0 : b0 < w1.heap.size) {wv' : Value} {wd' : Bs} (ht : Turns (fun k => k = b0 ∨ wv.ownBlock = some k) W W') (hb : Blk W' b0 #[wv'] 71)
    (hr : W'.ownsRow w1.heap.size 5 1 wv' wd'.length (Lib.byteCells wd')) (hw : wv'.ownBlock = wv.ownBlock ∨ ∀ g, wv'.ownBlock = some g → W.heap.size ≤ g) : S2 w1 b0 b1 wv' pv wd' pl X W' ∧ Keeps X W W' := by
  refine ⟨⟨h.base.turn ht ?_, hb, h.bp.turns ht ?_, hr, ownsRow_turns h.rp ht ?_, ?_, h.xp⟩, Keeps.of_turns ht ?_⟩
  · rintro k (rfl | hk)
    · exact .inl (.inl rfl)
    · exact .inr (h.rw.lt k hk).1
  · rintro (rfl | hk)
    · exact hne rfl
    · exact row_ne h.rw h.bp (by decide) hk
  · rintro g hg (rfl | hk)
    · exact row_ne h.rp h.bw (by decide) hg
    · exact rows_ne h.rp h.rw (by decide) hg hk
  · intro g hg hx
    rcases hw with hw | hw
    · exact h.xw g (hw ▸ hg) hx
    · have := hw g hg; have := (h.base.young g hx).2; omega
  · rintro k hk (rfl | hk')
    · have := (h.base.young k hk).1; omega
    · exact h.xw k hk' hk
theorem S2.steady (w1 : World) (b0 b1 : Nat) (hb0 : b0 < w1.heap.size) (hb1 : b1 < w1.heap.size) (wd : Nat → Bs) (pl : Nat → List Int) : Steady (fun j X W => ∃ wv pv, S2 w1 b0 b1 wv pv (wd j) (pl j) X W) :=
  fun j X X' W W' hs ht hx => by
    obtain ⟨wv, pv, h⟩ := hs
    refine ⟨wv, pv, h.base.step ht hx, (h.base.keep ht hb0).trans h.bw, (h.base.keep ht hb1).trans h.bp, ownsRow_turns h.rw ht h.xw, ownsRow_turns h.rp ht h.xp, fun g hg hX => ?_, fun g hg hX => ?_⟩
    · have := (h.rw.lt g hg).2
      exact (hx g hX).elim (h.xw g hg) (fun h => by omega)
    · have := (h.rp.lt g hg).2
      exact (hx g hX).elim (h.xp g hg) (fun h => by omega)
end
theorem wpListIn_append_where_string {F : Fence} {n : Nat} {P : Program} (w : World) {ops : Array Oper} {rest : List Oper} {o : Oper} {a : Act} {Q : Exit → Act → World → Prop} (hgd : o.guard = none) (sl x : Operand) (t u : TypeId)
    (hop : o.op = .call { callee := .builtin .append, args := #[sl, x], argTypes := #[t, u] })
    (base : Nat) (e : TypeId) (i : TypeInfo) (ht : P.underlying t = some (.slice e)) (hu : P.underlying u = some .string) (hi : P.info? e = some i) (hz : i.zero = some (.int .u8 0))
    (hsize : i.size = 1) (hby : i.bytes = 1) (v : Value) (m : Nat) (xs : List Value) (hs : a.eval sl = v) (hown : w.ownsRow base e 1 v m xs) (s : ByteArray) (hx : a.eval x = .string s)
    (h63 : m + s.size ≤ maxLen) (hbytes : m + s.size ≤ 140737488355328) (hbase : base ≤ w.heap.size)
    (hK : ∀ v' w', w'.ownsRow base e 1 v' (m + s.size) (xs ++ Lib.strCells s) → w.grownBy w' v.ownBlock → (v'.ownBlock = v.ownBlock ∨ ∀ g, v'.ownBlock = some g → w.heap.size ≤ g) → wpListIn F n P ops Q rest (a.put o.dst v') w') : wpListIn F n P ops Q (o :: rest) a w := by
  refine wpListIn_plain hgd fun K hK' => ?_
  obtain ⟨v', w', hrun, r1, r2, r3⟩ := run_append_where_string (P := P) w base t u o.type e i ht hu hi hz hsize hby v m xs hown s h63 hbytes hbase
  unfold Oper.wpIn
  refine ⟨?_, ?_⟩
  · simp [Oper.about, hop, resolve, Target.leads, Sem.run_pure]
  · rw [Oper.semAt_plain F _ _ (by rw [hop]; intro c hc'; cases hc')]
    simp [execOp, hop, resolve, invoke, builtin, hs, hx, hrun, Result.andThen]
    exact hK' _ _ (hK v' w' r1 r2 r3)
end Go.Proofs.YtfblhpkndfbhgaaDoor
