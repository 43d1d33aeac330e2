/-
  What is proved here: a cell's paragraph; the width of a run.
-/
import Derived.Test.YtkhnfmdhdfpdhaaGrB
import Derived.Test.YtkhnfmdhdfpdhaaNatA
import Derived.Test.YtkhnfmdhdfpdhaaExB
namespace Go.Proofs.Ytkhnfmdhdfpdhaa
open Go.RowKit Go.Shelf

set_option maxRecDepth 100000 in
set_option maxHeartbeats 2000000 in
theorem gnatural_any (v : Value) (l : List Ms) (hl : l.length ≤ 9223372036854775807) (w : World) (hR : RecAt 6 msL w v l) : Calls Try.prog 61 #[v] w fun e w' => e = .returned (.int .i64 (natV l 0 l.length)) ∧ Below w.heap.size w w' := by
  have hN := natural_any v l hl 0 l.length w hR
  obtain ⟨a, cap, rfl, _⟩ := hR.ex
  clear hR
  generalize natV l 0 l.length = x at *
  generalize natE l 0 l.length = y at *
  go_enter Try.func61, Try.ntmps61
  go_wp2_with fail
  refine hN.mono ?_
  rintro e w1 ⟨rfl, hb⟩
  go_wp2_with fail
  go_ret
  exact ⟨rfl, hb⟩

theorem info39p (a : Pa) : (Try.prog.info? 39).map (·.size) = some (paC a).size := info34 a
def paZ : Pa := { t := { data := #[] }, sv := .slice none 0 0, p := ⟨0, 0, 0, 0, 0, 0, 0, 0, 0, 0, 0, 0, 0, 0, 0, 0, 0⟩, lb := { data := #[] }, mv := .slice none 0 0, sp := [], ms := [] }
/-- What Cell answers. -/
def CellEnd (t : ByteArray) (w : World) (e : Ending) (w' : World) : Prop := ∃ sv, e = .returned (paV (cellPa t sv)) ∧ PaAt w' (cellPa t sv) ∧ Below w.heap.size w w'

theorem lempty (s : ByteArray) : s.toList.isEmpty = decide (s.size = 0) := by
  rw [ByteArray.toList_eq]
  show s.data.toList.isEmpty = decide (s.data.size = 0)
  rcases h : s.data.toList with _ | ⟨x, r⟩
  · have : s.data.size = 0 := by rw [← Array.length_toList, h]; rfl
    rw [this]; rfl
  · have : s.data.size ≠ 0 := by rw [← Array.length_toList, h]; simp
    rw [decide_eq_false this]; rfl
theorem rec_of_row {α : Type} {k : Nat} {f : α → List Value} (hf : ∀ a, (f a).length = k) {W : World} {base : Nat} {e : TypeId} {v : Value} {rs : List α} {n : Nat} (hn : n = rs.length) (h : W.ownsRow base e k v n (rs.flatMap f)) : RecAt k f W v rs := by
  subst hn
  rcases h.2 with ⟨rfl, hn⟩ | ⟨g, cap, cur, rfl, hb', hg, hnc, _⟩
  · have : rs = [] := List.eq_nil_of_length_eq_zero hn
    exact ⟨⟨none, 0, by rw [hn], .inl this⟩, fun a n c e => by cases e; exact Nat.le_refl _⟩
  · refine ⟨⟨_, cap, rfl, .inr ⟨g, 0, rfl, (Array.getElem?_eq_some_iff.1 hg).1, fun i hi j u hu => ?_⟩⟩, fun a n c e => by cases e; exact hnc⟩
    have hj : j < k := by rw [← hf rs[i]]; exact (List.getElem?_eq_some_iff.1 hu).1
    have hc := h.cells (g := g) rfl (i * k + j) u (by rw [fm_get hf rs hi j hj, hu])
    rw [addr_add0] at hc
    rw [Nat.zero_add]
    exact hc
theorem rec_turns {α : Type} {k : Nat} {f : α → List Value} {X : Nat → Prop} {W W' : World} {g o n c : Nat} {rs : List α} (h : RecAt k f W (.slice (some ⟨g, o, none⟩) n c) rs) (ht : Turns X W W') (hg : ¬ X g) : RecAt k f W' (.slice (some ⟨g, o, none⟩) n c) rs := by
  obtain ⟨⟨a, cap, e, h2⟩, hle⟩ := h
  cases e
  refine ⟨⟨_, _, rfl, ?_⟩, hle⟩
  rcases h2 with h2 | ⟨b, o', e, hlt, hc⟩
  · exact .inl h2
  · cases e
    refine .inr ⟨g, o, rfl, Nat.lt_of_lt_of_le hlt ht.size, fun i hi j u hu => ?_⟩
    rw [← hc i hi j u hu]
    unfold World.cell?
    rw [ht.block g hlt hg]
theorem spL_len4 (r : Sp) : (spL r).length = 4 := rfl
theorem paC_cell (t : ByteArray) (sv : Value) (h : sv.oneCell' = true) : (paC (cellPa t sv)).all (·.oneCell') = true := paC_one _ h rfl
theorem PB.set {w : World} {B : Nat} {a : Pa} (h : PB w B a) (b : Pa) : PB (w.setRow B (paC b)) B b := ⟨setRow_heap _ _ _ _ 39 _ h.row⟩
theorem PB.setS {w : World} {B : Nat} {t : ByteArray} {sv : Value} (h : PB w B (cellPa t sv)) (u : Value) : PB (w.setCell ⟨B, 1, none⟩ u) B (cellPa t u) := ⟨heap_setCell_same w B 1 _ 39 _ h.row⟩
set_option maxRecDepth 100000 in
set_option maxHeartbeats 2000000 in
theorem cell_any (t : ByteArray) (_hsz : t.size ≤ 9223372036854775807) (w : World) : Calls Try.prog 17 #[.string t] w (CellEnd t w) := by
  have hB0 := (Below.refl w.heap.size w).alloc (Nat.le_refl _) (.cells (paC paZ) 39)
  have hP0 := PB.new w paZ
  have hs0 : (w.alloc (.cells (paC paZ) 39)).heap.size = w.heap.size + 1 := World.size_alloc _ _
  have hB1 := hB0.alloc hB0.size (.cells (paC paZ) 39)
  have hP1 := PB.new (w.alloc (.cells (paC paZ) 39)) paZ
  have hP01 := hP0.turns (Turns.alloc Noth _ (.cells (paC paZ) 39)) (fun h => h)
  have hs1 : ((w.alloc (.cells (paC paZ) 39)).alloc (.cells (paC paZ) 39)).heap.size = w.heap.size + 2 := by rw [World.size_alloc, hs0]
  rw [hs0] at hP1
  have hT2 := Turns.setRow (X := fun b => b = w.heap.size + 1) ((w.alloc (.cells (paC paZ) 39)).alloc (.cells (paC paZ) 39)) (r := w.heap.size + 1) rfl (paC (cellPa t (.slice none 0 0)))
  have hP2 := hP1.set (cellPa t (.slice none 0 0))
  have hP02 := hP01.turns hT2 (by omega)
  have hB2 := hB1.trans (hT2.below hB1.size (fun b hb => by omega))
  have hs2 : (((w.alloc (.cells (paC paZ) 39)).alloc (.cells (paC paZ) 39)).setRow (w.heap.size + 1) (paC (cellPa t (.slice none 0 0)))).heap.size = w.heap.size + 2 := by simp
  have hE : Hid (∀ sv W, PaAt W (cellPa t sv) → Below w.heap.size w W → CellEnd t w (.returned (paV (cellPa t sv))) W) := fun sv W h1 h2 => ⟨sv, rfl, h1, h2⟩
  by_cases h0 : t.size = 0
  · have hsp : cellSp t = [] := if_pos h0
    have hq : t.toList.isEmpty = true := by rw [lempty]; exact decide_eq_true h0
    have hA : Hid (∀ W, PaAt W (cellPa t (.slice none 0 0))) := fun W =>
      ⟨⟨⟨none, 0, by show _ = Value.slice none (cellSp t).length 0; rw [hsp]; rfl, .inl hsp⟩, fun a n c e => by cases e; exact Nat.le_refl _⟩, ⟨⟨none, 0, rfl, .inl rfl⟩, fun a n c e => by cases e; exact Nat.le_refl _⟩, by show (cellSp t).length ≤ _ ∧ 0 ≤ _; rw [hsp]; exact ⟨by show 0 ≤ _; omega, by omega⟩⟩
    have hP03 := hP02.set (cellPa t (.slice none 0 0))
    have hB3 := hB2.trans ((Turns.setRow (X := fun b => b = w.heap.size) (((w.alloc (.cells (paC paZ) 39)).alloc (.cells (paC paZ) 39)).setRow (w.heap.size + 1) (paC (cellPa t (.slice none 0 0)))) (r := w.heap.size) rfl (paC (cellPa t (.slice none 0 0)))).below hB2.size (fun b hb => by omega))
    clear h0 hsp hB0 hP0 hP01 hT2 hs0 hs1 hs2 hB1
    go_enter Try.func17, Try.ntmps17
    go_wp2_with (first | (refine wpList_store_row rfl 39 _ _ rfl (w.heap.size + 1) (paC (cellPa t (.slice none 0 0))) rfl rfl 39 _ hP1.row (info39p _) rfl (paC_cell t _ rfl) ?_) | (refine wpList_load_row rfl 39 _ rfl (w.heap.size + 1) rfl 39 _ (0, 0) _ hP2.row Try.underlying39 rfl (info39p (cellPa t (.slice none 0 0))) ?_) | (refine wpList_store_row rfl 39 _ _ rfl w.heap.size (paC (cellPa t (.slice none 0 0))) rfl rfl 39 _ hP02.row (info39p _) rfl (paC_cell t _ rfl) ?_))
    exact bodyPost_ret (results_cell_row rfl _ _ w.heap.size 39 (paC (cellPa t (.slice none 0 0))) (0, 0) _ rfl hP03.row Try.underlying39 rfl (info39p _)) rfl (hE.out _ _ (hA.out _) hB3)
  · have hq : t.toList.isEmpty = false := by rw [lempty]; exact decide_eq_false h0
    have hsp : cellSp t = [⟨t.size, 0, 0, 0⟩] := if_neg h0
    generalize hw2 : ((w.alloc (.cells (paC paZ) 39)).alloc (.cells (paC paZ) 39)).setRow (w.heap.size + 1) (paC (cellPa t (.slice none 0 0))) = w2 at *
    have hT3 := Turns.setCell (X := fun b => b = w.heap.size + 1) w2 (p := ⟨w.heap.size + 1, 1, none⟩) rfl (.slice (some ⟨w.heap.size + 2, 0, none⟩) 1 1)
    have c1 := hP2.c1
    have z1 : w2.frozen? ⟨w.heap.size + 1, 1, none⟩ = false := Lib.frozen_of_heap hP2.row _
    have hP3 := hP2.setS (.slice (some ⟨w.heap.size + 2, 0, none⟩) 1 1)
    have hP03 := hP02.turns hT3 (by omega)
    have hB3 := hB2.trans (hT3.below hB2.size (fun b hb => by omega))
    have hs3 : (w2.setCell ⟨w.heap.size + 1, 1, none⟩ (.slice (some ⟨w.heap.size + 2, 0, none⟩) 1 1)).heap.size = w.heap.size + 2 := by simp; exact hs2
    have hP4 := hP3.turns (Turns.alloc Noth _ (.cells #[.int .i64 (t.size : Nat), .int .i64 0, .int .i64 0, .int .i64 0] 69)) (fun h => h)
    have hP04 := hP03.turns (Turns.alloc Noth _ (.cells #[.int .i64 (t.size : Nat), .int .i64 0, .int .i64 0, .int .i64 0] 69)) (fun h => h)
    have hB4 := hB3.alloc hB3.size (.cells #[.int .i64 (t.size : Nat), .int .i64 0, .int .i64 0, .int .i64 0] 69)
    have hR4 := rec_new (k := 4) spL_len4 (w2.setCell ⟨w.heap.size + 1, 1, none⟩ (.slice (some ⟨w.heap.size + 2, 0, none⟩) 1 1)) 69 [⟨(t.size : Nat), 0, 0, 0⟩]
    rw [hs3] at hR4
    have hP05 := hP04.set (cellPa t (.slice (some ⟨w.heap.size + 2, 0, none⟩) 1 1))
    have hT5 := Turns.setRow (X := fun b => b = w.heap.size) ((w2.setCell ⟨w.heap.size + 1, 1, none⟩ (.slice (some ⟨w.heap.size + 2, 0, none⟩) 1 1)).alloc (.cells #[.int .i64 (t.size : Nat), .int .i64 0, .int .i64 0, .int .i64 0] 69)) (r := w.heap.size) rfl (paC (cellPa t (.slice (some ⟨w.heap.size + 2, 0, none⟩) 1 1)))
    have hB5 := hB4.trans (hT5.below hB4.size (fun b hb => by omega))
    have hA : Hid (∀ W, RecAt 4 spL W (.slice (some ⟨w.heap.size + 2, 0, none⟩) 1 1) [⟨t.size, 0, 0, 0⟩] → PaAt W (cellPa t (.slice (some ⟨w.heap.size + 2, 0, none⟩) 1 1))) := fun W h =>
      ⟨by show RecAt 4 spL W _ (cellSp t); rw [hsp]; exact h, ⟨⟨none, 0, rfl, .inl rfl⟩, fun a n c e => by cases e; exact Nat.le_refl _⟩, by show (cellSp t).length ≤ _ ∧ 0 ≤ _; rw [hsp]; exact ⟨by show 1 ≤ _; omega, by omega⟩⟩
    have hR5 := hA.out _ (rec_turns hR4 hT5 (by omega))
    clear hP0 hP01 hB0 hB1 hT2 hR4 hA hT3 hT5 hB3 hB4 hP3 hs0 hs1 hs3
    have hw2' : Hid (((w.alloc (.cells (paC paZ) 39)).alloc (.cells (paC paZ) 39)).setRow (w.heap.size + 1) (paC (cellPa t (.slice none 0 0))) = w2) := hw2
    clear hw2 hsp h0
    go_enter Try.func17, Try.ntmps17
    go_wp2_with (first | (refine wpList_store_row rfl 39 _ _ rfl (w.heap.size + 1) (paC (cellPa t (.slice none 0 0))) rfl rfl 39 _ hP1.row (info39p _) rfl (paC_cell t _ rfl) ?_; refine Eq.mp (congrArg (wpList Try.prog _ _ _ _) hw2'.out.symm) ?_) | (refine wpList_load_row rfl 39 _ rfl (w.heap.size + 1) rfl 39 _ (0, 0) _ hP4.row Try.underlying39 rfl (info39p (cellPa t (.slice (some ⟨w.heap.size + 2, 0, none⟩) 1 1))) ?_) | (refine wpList_store_row rfl 39 _ _ rfl w.heap.size (paC (cellPa t (.slice (some ⟨w.heap.size + 2, 0, none⟩) 1 1))) rfl rfl 39 _ hP04.row (info39p _) rfl (paC_cell t _ rfl) ?_))
    exact bodyPost_ret (results_cell_row rfl _ _ w.heap.size 39 (paC (cellPa t (.slice (some ⟨w.heap.size + 2, 0, none⟩) 1 1))) (0, 0) _ rfl hP05.row Try.underlying39 rfl (info39p _)) rfl (hE.out _ _ hR5 hB5)

end Go.Proofs.Ytkhnfmdhdfpdhaa
