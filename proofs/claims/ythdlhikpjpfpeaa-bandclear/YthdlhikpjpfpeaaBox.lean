/-
  What is proved here: records in boxes, and records that fill a block (no function of the program is named).
-/
import Derived.Test.YthdlhikpjpfpeaaReg
import Derived.Test.YthdlhikpjpfpeaaRec
import Derived.Deep.MidRow
import Derived.OrdersHeld
import Derived.Laws.ResultCell
namespace Go.Proofs.Ythdlhikpjpfpeaa
open Go.RowKit Go.Shelf

theorem below_drewN {n : Nat} {w w' : World} (h : Below n w w') (q : Nat) : Below n w (w'.drewN q) := ⟨h.1, h.2, h.3, h.4, h.5⟩
theorem heap_new (w : World) (o : Obj) : (w.alloc o).heap[w.heap.size]? = some o := by show (w.heap.push o)[w.heap.size]? = _; simp
theorem Turns.setRow {X : Nat → Prop} (W : World) {r : Nat} (hp : X r) (cs : Array Value) : Turns X W (W.setRow r cs) :=
  ⟨rfl, rfl, rfl, by simp, fun k _ hk => setRow_other W r k cs (fun e => hk (e ▸ hp))⟩
theorem below_row {n b : Nat} {w W : World} (h : Below n w W) (hn : n ≤ W.heap.size) (hb : n ≤ b) (cs : Array Value) : Below n w (W.setRow b cs) :=
  h.trans ((Turns.setRow (X := fun k => k = b) W rfl cs).below hn (fun k hk => by omega))
theorem results_cell_row2 {P : Program} {fn : Func} {p u : Tmp} {ty : TypeId} (h : fn.results = #[.cell p ty, .tmp u]) (tmps : Array Value) (w : World) (g : Nat) (t : TypeId) (cs : Array Value) (fr : Nat × Nat) (d : TypeDesc)
    (hp : tmps.getD p undef = .pointer (some ⟨g, 0, none⟩)) (hg : w.heap[g]? = some (.cells cs t fr))
    (hu : P.underlying ty = some d) (hd : (match d with | .struct _ | .array _ _ => true | _ => false) = true) (hi : (P.info? ty).map (·.size) = some cs.size) :
    (results fn tmps).run P w = .ok (.tuple #[.agg cs, tmps.getD u undef]) w := by
  have hp' : tmps[p]?.getD undef = .pointer (some ⟨g, 0, none⟩) := by simpa using hp
  rw [results_cell_tmp h]
  simp [hp', asAddr, run_loadVar_row w g t ty cs fr d hg hu hd hi, Result.andThen]
/-- Records that lie in a block from its first cell on, and may be written. -/
structure RB {α : Type} (k : Nat) (f : α → List Value) (W : World) (g : Nat) (L : List α) : Prop where
  lt : g < W.heap.size
  all : ∀ i (hi : i < L.length) (j : Nat) v, (f L[i])[j]? = some v → W.cell? ⟨g, i * k + j, none⟩ = some v ∧ W.frozen? ⟨g, i * k + j, none⟩ = false
section
variable {α : Type} {k : Nat} {f : α → List Value} {W W' : World} {g : Nat} {L : List α}
theorem RB.recs (h : RB k f W g L) {n cap : Nat} (hn : n ≤ L.length) (hc : n ≤ cap) : RecAt k f W (.slice (some ⟨g, 0, none⟩) n cap) (L.take n) := by
  refine ⟨⟨some ⟨g, 0, none⟩, cap, by rw [List.length_take, Nat.min_eq_left hn], .inr ⟨g, 0, rfl, h.lt, fun i hi j v hv => ?_⟩⟩, fun a n' c e => ?_⟩
  · have hil : i < L.length := by rw [List.length_take] at hi; omega
    rw [List.getElem_take] at hv
    have := (h.all i hil j v hv).1
    rw [Nat.zero_add]
    exact this
  · cases e
    exact hc
theorem RB.same (h : RB k f W g L) (hs : W.heap.size ≤ W'.heap.size) (hbk : W'.heap[g]? = W.heap[g]?) : RB k f W' g L := ⟨Nat.lt_of_lt_of_le h.lt hs, fun i hi j v hv => by
  have := h.all i hi j v hv
  have e1 : W'.cell? ⟨g, i * k + j, none⟩ = W.cell? ⟨g, i * k + j, none⟩ := by unfold World.cell?; rw [hbk]
  have e2 : W'.frozen? ⟨g, i * k + j, none⟩ = W.frozen? ⟨g, i * k + j, none⟩ := by unfold World.frozen?; rw [hbk]
  rw [e1, e2]; exact this⟩
theorem RB.below {n : Nat} (h : RB k f W g L) (hb : Below n W W') (hn : g < n) : RB k f W' g L := h.same hb.size (hb.block g hn)
theorem RB.turns {X : Nat → Prop} (h : RB k f W g L) (hb : Turns X W W') (hn : ¬ X g) : RB k f W' g L := h.same hb.size (hb.block g h.lt hn)
theorem turns_setCells {X : Nat → Prop} {g : Nat} (hg : X g) : ∀ (vs : List Value) (o : Nat) (W : World), Turns X W (W.setCells g o vs)
  | [], _, _W => Turns.refl _ _
  | v :: r, o, W => (Turns.setCell W (p := ⟨g, o, none⟩) hg v).trans (turns_setCells hg r (o + 1) _)
theorem RB.there (hf : ∀ a, (f a).length = k) (h : RB k f W g L) {p : Nat} (hp : p < L.length) : W.there g (p * k) k := fun j hj => by
  obtain ⟨v, hv⟩ : ∃ v, (f L[p])[j]? = some v := ⟨(f L[p])[j]'(by rw [hf]; exact hj), List.getElem?_eq_getElem _⟩
  have := h.all p hp j v hv
  exact ⟨by rw [this.1]; rfl, this.2⟩
theorem apart_mul {i p j k : Nat} (hj : j < k) (e : ¬ p = i) : i * k + j < p * k ∨ p * k + k ≤ i * k + j := by
  rcases Nat.lt_or_gt_of_ne e with h | h
  · right
    have : (p + 1) * k ≤ i * k := Nat.mul_le_mul_right k h
    rw [Nat.succ_mul] at this
    omega
  · left
    have : (i + 1) * k ≤ p * k := Nat.mul_le_mul_right k h
    rw [Nat.succ_mul] at this
    omega
theorem RB.set (hf : ∀ a, (f a).length = k) (h : RB k f W g L) {p : Nat} (hp : p < L.length) (x : α) : RB k f (W.setCells g (p * k) (f x)) g (L.set p x) := by
  refine ⟨Nat.lt_of_lt_of_le h.lt (turns_setCells (X := fun _ => True) trivial _ _ _).size, fun i hi j v hv => ?_⟩
  have hi' : i < L.length := by simpa using hi
  have hj : j < k := by have := (List.getElem?_eq_some_iff.1 hv).1; rw [hf] at this; exact this
  rw [World.frozen?_setCells]
  by_cases e : p = i
  · subst e
    rw [List.getElem_set_self] at hv
    have := (World.rangeAt_setCells_same W g (p * k) (f x) (by rw [hf]; exact h.there hf hp)) j v hv
    refine ⟨this, ?_⟩
    exact ((h.there hf hp) j hj).2
  · rw [List.getElem_set_ne e] at hv
    have := h.all i hi' j v hv
    refine ⟨?_, this.2⟩
    rw [World.cell?_setCells_out g (f x) (p * k) W ⟨g, i * k + j, none⟩ (fun _ _ => by rw [hf]; exact apart_mul hj e)]
    exact this.1
theorem RB.of_row {t : TypeId} {cur : Array Value} (hg : W.heap[g]? = some (.cells cur t (0, 0))) (hc : ∀ i (hi : i < L.length) (j : Nat) v, (f L[i])[j]? = some v → cur[i * k + j]? = some v) : RB k f W g L :=
  ⟨(Array.getElem?_eq_some_iff.1 hg).1, fun i hi j v hv => ⟨by rw [Lib.cell_of_heap hg]; exact hc i hi j v hv, Lib.frozen_of_heap hg _⟩⟩
theorem made_rec (hf : ∀ a, (f a).length = k) (hk : 0 < k) (z : α) (n : Nat) : madeCells (f z).toArray (n * k) = ((List.replicate n z).flatMap f).toArray := by
  apply Array.ext
  · rw [size_madeCells]; simp only [List.size_toArray]; rw [fm_len hf, List.length_replicate]
  · intro i h1 h2
    have hik : i < n * k := by simpa [madeCells] using h1
    have hdv : i / k < n := Nat.div_lt_of_lt_mul (by rw [Nat.mul_comm]; exact hik)
    have hmd : i % k < k := Nat.mod_lt _ hk
    have hi : i / k < (List.replicate n z).length := by simpa using hdv
    have hv := fm_get hf (List.replicate n z) hi (i % k) hmd
    rw [List.getElem_replicate, show i / k * k + i % k = i by rw [Nat.mul_comm]; exact Nat.div_add_mod i k] at hv
    have : ((List.replicate n z).flatMap f)[i]? = some (((List.replicate n z).flatMap f).toArray[i]'h2) := by simp
    rw [this] at hv
    have hm : (madeCells (f z).toArray (n * k))[i] = (f z).toArray[i % (f z).toArray.size]! := by simp [madeCells]
    have h8 : (f z).toArray.size = k := by simpa using hf z
    rw [hm, h8, getElem!_pos _ _ (by rw [h8]; exact hmd)]
    rw [List.getElem?_eq_getElem (by rw [hf]; exact hmd)] at hv
    rw [Option.some.inj hv]
    simp
end
end Go.Proofs.Ythdlhikpjpfpeaa
