/-
  What is proved here: what SameInts, example, wide and awake answer.
  What is proved here: a table whose cells are lent.
  What is proved here: what the document's small functions answer: from, bit, visible, shown, Char.
-/
import Derived.Test.YtkhnfmdhdfpdhaaE18
import Derived.Deep.QuietTactic
import Derived.Test.YtkhnfmdhdfpdhaaE8
import Derived.Test.YtkhnfmdhdfpdhaaE6
namespace Go.Proofs.Ytkhnfmdhdfpdhaa
open Go.RowKit Go.Shelf

theorem InAt.cell {W : World} {b o : Nat} {l : List Int} {k : Nat} (hk : k < l.length) (h : ∀ (i : Nat) (h : i < l.length) (j : Nat) (u : Value), (inL l[i])[j]? = some u → W.cell? ⟨b, o + i * 1 + j, none⟩ = some u) : W.cell? ⟨b, o + k, none⟩ = some (.int .i64 l[k]) := by
  have := h k hk 0 _ rfl
  rwa [show o + k * 1 + 0 = o + k by omega] at this
theorem in_of_row {W : World} {base : Nat} {v : Value} {l : List Int} {n : Nat} (hn : n = l.length) (h : W.ownsRow base 3 1 v n (ints l)) : InAt W v l := rec_of_row (f := inL) (fun _ => rfl) hn (by rw [inL_map]; exact h)
theorem in_nil (W : World) : InAt W (.slice none 0 0) [] := ⟨⟨none, 0, rfl, .inl rfl⟩, fun a n c e => by cases e; exact Nat.le_refl _⟩
set_option maxRecDepth 100000 in
set_option maxHeartbeats 2000000 in
theorem sameInts_yes (v1 v2 : Value) (L : List Int) (hlen : L.length ≤ 140737488355328) (w : World) (h1 : InAt w v1 L) (h2 : InAt w v2 L) :
    Calls Try.prog 13 #[v1, v2] w fun e w' => e = .returned (.bool true) ∧ Below w.heap.size w w' := by
  obtain ⟨a1, cap1, rfl, k1⟩ := h1.ex
  obtain ⟨a2, cap2, rfl, k2⟩ := h2.ex
  go_enter Try.func13, Try.ntmps13
  go_wp2_with fail
  go_loopw [5] (fun i wr => ∃ k : Nat, k ≤ L.length ∧ i = .int .i64 k ∧ Below w.heap.size w wr) (fun i _ => L.length - (RowKit.intOf i).toNat)
  case atStart => exact ⟨0, by omega, rfl, Below.refl _ _⟩
  case round =>
    obtain ⟨k, hk, rfl, hb⟩ := hrel
    by_cases hlt : k < L.length
    · rcases k1 with k1 | ⟨b1, o1, rfl, hl1, hc1⟩
      · rw [k1] at hlt; simp at hlt
      · rcases k2 with k2 | ⟨b2, o2, rfl, hl2, hc2⟩
        · rw [k2] at hlt; simp at hlt
        · have d1 : wr.cell? ⟨b1, o1 + k, none⟩ = some (.int .i64 L[k]) := (hb.cell hl1).trans (InAt.cell hlt hc1)
          have d2 : wr.cell? ⟨b2, o2 + k, none⟩ = some (.int .i64 L[k]) := (hb.cell hl2).trans (InAt.cell hlt hc2)
          have hkl : (k : Int) < L.length := by omega
          clear hc1 hc2 h1 h2
          generalize L[k] = s at d1 d2
          go_wp2_with fail
          go_quiet (fail)
          go_wp2_with fail
          go_roundw
          case rel => exact ⟨k + 1, by omega, by simp, ⟨hb.os, hb.tape, hb.output, hb.size, hb.block⟩⟩
          case measure => simp [RowKit.intOf]; omega
    · obtain rfl : k = L.length := by omega
      go_wp2_with fail
      go_ret
      exact ⟨rfl, hb⟩

/-- The chapter's table. -/
def exl : List ByteArray := [⟨#[97, 98, 32, 99]⟩, ⟨#[100, 100]⟩]
theorem info24t (c : Int) (v : Value) : (Try.prog.info? 24).map (·.size) = some (#[Value.int .i64 c, v] : Array Value).size := by show _ = some 2; kernel_rfl
theorem one24 (c : Int) (v : Value) (h : v.oneCell' = true) : (#[Value.int .i64 c, v] : Array Value).all (·.oneCell') = true := by simp [Value.oneCell'] at h ⊢; exact h
set_option maxRecDepth 100000 in
set_option maxHeartbeats 2000000 in
theorem example_any (w : World) : Calls Try.prog 22 #[] w fun e w' => ∃ v, e = .returned (.agg #[.int .i64 2, v]) ∧ StrsAt w' v exl ∧ Below w.heap.size w w' := by
  have hB0 := (Below.refl w.heap.size w).alloc (Nat.le_refl _) (.cells #[.int .i64 0, .slice none 0 0] 24)
  have hr0 := TB.new w 0 (.slice none 0 0)
  have hs0 : (w.alloc (.cells #[.int .i64 0, .slice none 0 0] 24)).heap.size = w.heap.size + 1 := World.size_alloc _ _
  have hS1 := strs_new (w.alloc (.cells #[.int .i64 0, .slice none 0 0] 24)) exl
  have e1 : (exl.map Value.string).toArray = #[.string ⟨#[97, 98, 32, 99]⟩, .string ⟨#[100, 100]⟩] := rfl
  rw [e1] at hS1
  have hr1 := hr0.turns (Turns.alloc Noth _ (.cells #[.string ⟨#[97, 98, 32, 99]⟩, .string ⟨#[100, 100]⟩] 9)) (fun h => h)
  have hB1 := hB0.alloc hB0.size (.cells #[.string ⟨#[97, 98, 32, 99]⟩, .string ⟨#[100, 100]⟩] 9)
  rw [hs0] at hS1
  generalize hw1 : (w.alloc (.cells #[.int .i64 0, .slice none 0 0] 24)).alloc (.cells #[.string ⟨#[97, 98, 32, 99]⟩, .string ⟨#[100, 100]⟩] 9) = w1 at *
  have hT2 := Turns.setRow (X := fun b => b = w.heap.size) w1 (r := w.heap.size) rfl #[.int .i64 2, .slice (some ⟨w.heap.size + 1, 0, none⟩) 2 2]
  have hB2 := hB1.trans (hT2.below hB1.size (fun k hk => by omega))
  have hr2 : TB (w1.setRow w.heap.size #[.int .i64 2, .slice (some ⟨w.heap.size + 1, 0, none⟩) 2 2]) w.heap.size 2 (.slice (some ⟨w.heap.size + 1, 0, none⟩) 2 2) := ⟨setRow_heap _ _ _ _ 24 _ hr1.row⟩
  have hS2 : StrsAt (w1.setRow w.heap.size #[.int .i64 2, .slice (some ⟨w.heap.size + 1, 0, none⟩) 2 2]) (.slice (some ⟨w.heap.size + 1, 0, none⟩) 2 2) exl := by
    obtain ⟨⟨a, cap, e, h2⟩, hle⟩ := hS1
    refine ⟨⟨a, cap, e, ?_⟩, hle⟩
    rcases h2 with h2 | ⟨b, o, rfl, hlt, hc⟩
    · exact absurd h2 (by unfold exl; simp)
    · cases e
      refine .inr ⟨w.heap.size + 1, 0, rfl, Nat.lt_of_lt_of_le hlt hT2.size, fun i hi => ?_⟩
      rw [← hc i hi]
      unfold World.cell?
      rw [hT2.block _ hlt (by omega)]
  clear hS1 hB0 hr0 hB1
  subst hw1
  go_enter Try.func22, Try.ntmps22
  go_wp2_with (refine wpList_store_row rfl 24 _ _ rfl w.heap.size #[.int .i64 2, .slice (some ⟨w.heap.size + 1, 0, none⟩) 2 2] rfl rfl 24 _ hr1.row (info24t _ _) rfl (one24 _ _ rfl) ?_)
  exact bodyPost_ret (results_cell_row rfl _ _ w.heap.size 24 #[.int .i64 2, .slice (some ⟨w.heap.size + 1, 0, none⟩) 2 2] (0, 0) _ rfl hr2.row Try.underlying24 rfl (info24t _ _)) rfl ⟨_, rfl, hS2, hB2⟩

theorem ex_ck : chkG 2 exl = 0 := by kernel_rfl
theorem sizes_ok (l : List ByteArray) (h : ∀ t ∈ l, t.size ≤ 200) : ∀ t ∈ l, t.size ≤ 9223372036854775807 := fun t ht => by have := h t ht; omega
theorem ex_small : ∀ t ∈ exl, t.size ≤ 9223372036854775807 := sizes_ok _ (by decide)
theorem ex_w30 : wdL 2 exl 30 = [16, 14] ∧ decide (30 < sumS 2 exl) = false := by constructor <;> kernel_rfl
set_option maxRecDepth 100000 in
set_option maxHeartbeats 2000000 in
theorem wide_yes (q : Int) (vw : Value) (L : List Int) (tight : Bool) (hq : 0 ≤ q ∧ q ≤ 4095) (hw : wdL 2 exl q = L ∧ decide (q < sumS 2 exl) = tight) (hL : L.length = 2) (w : World) (hI : InAt w vw L) :
    Calls Try.prog 24 #[.int .i64 q, vw, .bool tight] w fun e w' => e = .returned (.bool true) ∧ Below w.heap.size w w' := by
  have hsame := fun v W (h1 : InAt W v L) (h2 : InAt W vw L) => sameInts_yes v vw L (by omega) W h1 h2
  have hwd : ∀ v W, StrsAt W v exl → Calls Try.prog 11 #[.agg #[.int .i64 2, v], .int .i64 q] W fun e w' => ∃ b, e = .returned (.tuple #[.slice (some ⟨b, 0, none⟩) 2 2, .bool tight, .int .i64 0]) ∧ InAt w' (.slice (some ⟨b, 0, none⟩) 2 2) L ∧ Below W.heap.size W w' := fun v W hS => by
    refine (widths_any 2 v exl q (by decide) ex_small W hS).mono ?_
    rintro e w' ⟨hb, h | h | h⟩
    · exact absurd ex_ck h.1
    · exact absurd hq h.2.1
    · obtain ⟨_, _, b, _, he, hi⟩ := h
      rw [show (2 : Int).toNat = 2 from rfl, hw.1] at hi
      rw [show (2 : Int).toNat = 2 from rfl, hw.2] at he
      have := hi.at
      rw [hL] at this
      exact ⟨b, he, this, hb⟩
  have hex := example_any
  clear hw hq
  cases tight
  all_goals
    go_enter Try.func24, Try.ntmps24
    go_wp2_with (first
      | (go_at_call 22; refine (hex _).mono ?_; rintro e w1 ⟨v, rfl, hS1, b1⟩)
      | (go_at_call 11; refine (hwd v _ hS1).mono ?_; rintro e w2 ⟨b, rfl, hI2, b2⟩; have hB2 := b1.trans (b2.mono b1.size); have hI3 := hI.below hB2 (Nat.le_refl _))
      | (go_at_call 13; refine (hsame _ _ hI2 hI3).mono ?_; rintro e w3 ⟨rfl, b3⟩; have hB3 := hB2.trans (b3.mono hB2.size)))
    go_ret
    exact ⟨rfl, hB3⟩
theorem lit26 (w : World) (x y : Int) : InAt (w.alloc (.cells #[.int .i64 x, .int .i64 y] 3)) (.slice (some ⟨w.heap.size, 0, none⟩) 2 2) [x, y] := by
  have := rec_new (f := inL) (k := 1) (fun _ => rfl) w 3 [x, y]
  exact this
set_option maxRecDepth 100000 in
set_option maxHeartbeats 2000000 in
theorem awake_any (w : World) : Calls Try.prog 21 #[] w fun e w' => e = .returned (.bool true) ∧ Below w.heap.size w w' := by
  have hB0 := (Below.refl w.heap.size w).alloc (Nat.le_refl _) (.cells #[.int .i64 16, .int .i64 14] 3)
  have hI := lit26 w 16 14
  have hw := wide_yes 30 _ [16, 14] false ⟨by omega, by omega⟩ ex_w30 rfl _ hI
  go_enter Try.func21, Try.ntmps21
  go_wp2_with (go_at_call 24; refine hw.mono ?_; rintro e w1 ⟨rfl, b1⟩)
  go_ret
  exact ⟨rfl, hB0.trans (b1.mono hB0.size)⟩
end Go.Proofs.Ytkhnfmdhdfpdhaa

namespace Go.Proofs.Ytkhnfmdhdfpdhaa
open Go.RowKit Go.Shelf

def opl1 (ps : String) : Array Oper := #[{ dst := some 3, op := Op.fieldAddr 24 (Operand.tmp 1) 0, type := 0, pos := ps, after := #[], guard := none }, { dst := some 4, op := Op.load 3 (Operand.tmp 3), type := 3, pos := ps, after := #[{ on := 0, ground := Ground.data }], guard := none }, { dst := some 5, op := Op.fieldAddr 24 (Operand.tmp 1) 1, type := 0, pos := ps, after := #[], guard := none }, { dst := some 6, op := Op.load 22 (Operand.tmp 5), type := 22, pos := ps, after := #[{ on := 2, ground := Ground.data }], guard := none }, { dst := some 7, op := Op.call { callee := Callee.value (Operand.func 26), args := #[Operand.tmp 6], argTypes := #[22] }, type := 22, pos := ps, after := #[{ on := 3, ground := Ground.data }], guard := none }, { dst := some 8, op := Op.build 24 #[(0, Operand.tmp 4), (1, Operand.tmp 7)], type := 24, pos := ps, after := #[{ on := 1, ground := Ground.data }, { on := 4, ground := Ground.data }], guard := none }, { dst := none, op := Op.store 24 (Operand.tmp 2) (Operand.tmp 8), type := 0, pos := ps, after := #[{ on := 5, ground := Ground.data }, { on := 4, ground := Ground.chain }, { on := 0, ground := Ground.phase }, { on := 1, ground := Ground.phase }, { on := 2, ground := Ground.phase }, { on := 3, ground := Ground.phase }, { on := 4, ground := Ground.phase }, { on := 5, ground := Ground.phase }], guard := none }]

/-- A table's box. -/
structure TI (W : World) (b : Nat) (c : Int) (v : Value) : Prop where
  row : W.heap[b]? = some (.cells #[.int .i64 c, v] 24)
theorem TI.lt {W : World} {b : Nat} {c : Int} {v : Value} (h : TI W b c v) : b < W.heap.size := (Array.getElem?_eq_some_iff.1 h.row).1
theorem TI.below {W W' : World} {n b : Nat} {c : Int} {v : Value} (h : TI W b c v) (hb : Below n W W') (hn : b < n) : TI W' b c v := ⟨(hb.block b hn).trans h.row⟩
theorem TI.turns {X : Nat → Prop} {W W' : World} {b : Nat} {c : Int} {v : Value} (h : TI W b c v) (ht : Turns X W W') (hn : ¬ X b) : TI W' b c v := ⟨(ht.block b h.lt hn).trans h.row⟩
theorem TI.c0 {W : World} {b : Nat} {c : Int} {v : Value} (h : TI W b c v) : W.cell? ⟨b, 0, none⟩ = some (.int .i64 c) := by rw [Lib.cell_of_heap h.row]; rfl
theorem TI.c1 {W : World} {b : Nat} {c : Int} {v : Value} (h : TI W b c v) : W.cell? ⟨b, 1, none⟩ = some v := by rw [Lib.cell_of_heap h.row]; rfl
theorem TI.new (w : World) (c : Int) (v : Value) : TI (w.alloc (.cells #[.int .i64 c, v] 24)) w.heap.size c v := ⟨World.alloc_heap_new w _⟩
theorem SBk.strs {W : World} {g : Nat} {l : List ByteArray} (h : SBk W g (l ++ List.replicate 3 lentS)) (hl : l.length ≤ 300) : StrsAt W (.slice (some ⟨g, 0, none⟩) l.length (l.length + 3)) l := by
  have hlen : (l ++ List.replicate 3 lentS).length = l.length + 3 := by simp
  have := h.tx l.length (l.length + 3) (by omega) (by unfold maxLen; omega) (by omega) hlen
  rw [List.take_left' rfl] at this
  exact strs_of_rec this
set_option maxRecDepth 100000 in
set_option maxHeartbeats 2000000 in
theorem lent_r1 (Q : Exit → Act → World → Prop) (hQ : ∀ c x (n : Nat) v w, Q (.panic c) (x.put (some n) v) w → Q (.panic c) x w) (id : Nat) (ps : String) (b1 b2 : Nat) (c c0 : Int) (v v00 : Value) (l : List ByteArray) (hl : l.length ≤ 300) {v0 v3 v4 v5 v6 v7 v8 : Value} (W : World)
    (hne : b1 ≠ b2) (h1 : TI W b1 c v) (h2 : TI W b2 c0 v00) (ht : TxAt W v l)
    (hK : ∀ g W', W.heap.size ≤ g → SBk W' g (l ++ List.replicate 3 lentS) → TI W' b2 c (.slice (some ⟨g, 0, none⟩) l.length (l.length + 3)) → Turns (fun k => k = b2) W W' → Q .normal { tmps := #[v0, .pointer (some ⟨b1, 0, none⟩), .pointer (some ⟨b2, 0, none⟩), .pointer (some ⟨b1, 0, none⟩), .int .i64 c, .pointer (some ⟨b1, 1, none⟩), v, .slice (some ⟨g, 0, none⟩) l.length (l.length + 3), .agg #[.int .i64 c, .slice (some ⟨g, 0, none⟩) l.length (l.length + 3)]], defers := [] } W') :
    (Code.region id (opl1 ps) true).wp Try.prog Q { tmps := #[v0, .pointer (some ⟨b1, 0, none⟩), .pointer (some ⟨b2, 0, none⟩), v3, v4, v5, v6, v7, v8], defers := [] } W := by
  refine wp_region_held (S := fun w => TI w b1 c v) (by kernel_rfl) ?_
  change wpAnyH _ _ _ _ _ 7 _ _ (World.drew W)
  have hTd : Turns (fun b => b = b2) W W.drew := Turns.drew _ _
  have hS0 : TI W.drew b1 c v := ⟨h1.row⟩
  have hR0 : TI W.drew b2 c0 v00 := ⟨h2.row⟩
  have hX0 : TxAt W.drew v l := rec_any ht (Turns.drew Noth W) (fun _ _ h => h)
  have hsz : W.heap.size ≤ W.drew.heap.size := Nat.le_refl _
  generalize W.drew = V at *
  unfold opl1
  refine wpAnyH_take (i := 0) (v := .pointer (some ⟨b1, 0, none⟩)) rfl (by kernel_rfl) (by kernel_rfl) (by kernel_rfl) (fun c x w => hQ c x _ _ w) (Or.inl ⟨by rfl, ?y0⟩) hS0 ?_
  case y0 => (intro w' hw'; go_simp)
  go_simp
  refine wpAnyH_take (i := 1) (v := .int .i64 c) rfl (by kernel_rfl) (by kernel_rfl) (by kernel_rfl) (fun c x w => hQ c x _ _ w) (Or.inl ⟨by rfl, ?y1⟩) hS0 ?_
  case y1 => (intro w' hw'; have c0 := TI.c0 hw'; go_simp)
  go_simp
  refine wpAnyH_take (i := 2) (v := .pointer (some ⟨b1, 1, none⟩)) rfl (by kernel_rfl) (by kernel_rfl) (by kernel_rfl) (fun c x w => hQ c x _ _ w) (Or.inl ⟨by rfl, ?y2⟩) hS0 ?_
  case y2 => (intro w' hw'; go_simp)
  go_simp
  refine wpAnyH_take (i := 3) (v := v) rfl (by kernel_rfl) (by kernel_rfl) (by kernel_rfl) (fun c x w => hQ c x _ _ w) (Or.inl ⟨by rfl, ?y3⟩) hS0 ?_
  case y3 => (intro w' hw'; have c1 := TI.c1 hw'; go_simp)
  go_simp
  refine want_h (i := 4) (by kernel_rfl) rfl (by kernel_rfl) fun K hK' => ?_
  go_simp
  refine (lent_any v l hl _ hX0).mono ?_
  rintro e w1 ⟨rfl, b1', hB1⟩
  have hS1 := hS0.below b1' hS0.lt
  have hR1 := hR0.below b1' hR0.lt
  have hT1 : Turns (fun b => b = b2) W w1 := hTd.trans ((Turns.of_below b1').mono (fun _ h => h.elim))
  have hlt2 := hR0.lt
  refine hK' _ _ hS1 ?_
  clear hK' K
  go_simp
  refine wpAnyH_take (i := 5) (v := .agg #[.int .i64 c, .slice (some ⟨V.heap.size, 0, none⟩) l.length (l.length + 3)]) rfl (by kernel_rfl) (by kernel_rfl) (by kernel_rfl) (fun c x w => hQ c x _ _ w) (Or.inl ⟨by rfl, ?y5⟩) hS1 ?_
  case y5 => (intro w' hw'; go_simp)
  go_simp
  refine want_h (i := 6) (by kernel_rfl) rfl (by kernel_rfl) fun K hK' => ?_
  refine wp_store_row 24 _ _ rfl b2 #[.int .i64 c, .slice (some ⟨V.heap.size, 0, none⟩) l.length (l.length + 3)] rfl rfl 24 _ hR1.row (info24t _ _) rfl (one24 _ _ rfl) ?_
  have hT2 := Turns.setRow (X := fun b => b = b2) w1 (r := b2) rfl #[.int .i64 c, .slice (some ⟨V.heap.size, 0, none⟩) l.length (l.length + 3)]
  refine hK' _ _ (hS1.turns hT2 hne) ?_
  exact wpAnyH_done (by kernel_rfl) (hK V.heap.size _ (by omega) (hB1.turns hT2 (by omega)) ⟨setRow_heap _ _ _ _ 24 _ hR1.row⟩ (hT1.trans hT2)) _
set_option maxRecDepth 100000 in
set_option maxHeartbeats 2000000 in
theorem lentT_any (c : Int) (v : Value) (l : List ByteArray) (hl : l.length ≤ 300) (w : World) (hS : StrsAt w v l) :
    Calls Try.prog 6 #[.agg #[.int .i64 c, v]] w fun e w' => ∃ g, w.heap.size ≤ g ∧ e = .returned (.agg #[.int .i64 c, .slice (some ⟨g, 0, none⟩) l.length (l.length + 3)]) ∧ SBk w' g (l ++ List.replicate 3 lentS) ∧ Below w.heap.size w w' := by
  have hB0 := (Below.refl w.heap.size w).alloc (Nat.le_refl _) (.cells #[.int .i64 c, v] 24)
  have hR0 := TI.new w c v
  have hs0 : (w.alloc (.cells #[.int .i64 c, v] 24)).heap.size = w.heap.size + 1 := World.size_alloc _ _
  have hB1 := hB0.alloc hB0.size (.cells #[.int .i64 0, .slice none 0 0] 24)
  have hR01 := hR0.turns (Turns.alloc Noth _ (.cells #[.int .i64 0, .slice none 0 0] 24)) (fun h => h)
  have hR1 := TI.new (w.alloc (.cells #[.int .i64 c, v] 24)) 0 (.slice none 0 0)
  rw [hs0] at hR1
  have hX1 : TxAt ((w.alloc (.cells #[.int .i64 c, v] 24)).alloc (.cells #[.int .i64 0, .slice none 0 0] 24)) v l := (tx_of_strs hS).below hB1 (Nat.le_refl _)
  go_enter Try.func6, Try.ntmps6
  go_wp2_with fail
  generalize (w.alloc (.cells #[.int .i64 c, v] 24)).alloc (.cells #[.int .i64 0, .slice none 0 0] 24) = w1 at *
  refine lent_r1 _ (fun _ _ _ _ _ h => h) _ _ w.heap.size _ c 0 v _ l hl w1 (by omega) hR01 (by first | exact hR1 | (rw [hs0]; exact hR1)) hX1 ?_
  intro g w2 hg hK2 hR2 hT2
  go_wp2_with fail
  first | rw [hs0] at hR2 hT2 | skip
  have hz := hB1.size
  exact bodyPost_ret (results_cell_row rfl _ _ (w.heap.size + 1) 24 #[.int .i64 c, .slice (some ⟨g, 0, none⟩) l.length (l.length + 3)] (0, 0) _ rfl hR2.row Try.underlying24 rfl (info24t _ _)) rfl ⟨g, by omega, rfl, hK2, hB1.trans (hT2.below hz (fun k hk => by omega))⟩
end Go.Proofs.Ytkhnfmdhdfpdhaa

namespace Go.Proofs.Ytkhnfmdhdfpdhaa
open Go.RowKit Go.Shelf

set_option maxRecDepth 100000 in
set_option maxHeartbeats 1000000 in
theorem from_any (n a b : Int) (w : World) : Calls Try.prog 96 #[.int .i64 n, .int .i64 a, .int .i64 b] w fun e w' => e = .returned (.bool (bdB (n, a, b))) ∧ w' = w := by
  have hv : bdB (n, a, b) = decide (a ≤ n ∧ n ≤ b) := rfl
  rw [hv]
  clear hv
  by_cases h1 : a ≤ n
  · by_cases h2 : n ≤ b
    · rw [decide_eq_true ⟨h1, h2⟩]
      go_enter Try.func96, Try.ntmps96
      go_wp2_with fail
      go_ret
      exact ⟨by first | rfl | (congr 2; simp; omega), rfl⟩
    · rw [decide_eq_false (fun h => h2 h.2)]
      go_enter Try.func96, Try.ntmps96
      go_wp2_with fail
      go_ret
      exact ⟨by first | rfl | (congr 2; simp; omega), rfl⟩
  · rw [decide_eq_false (fun h => h1 h.1)]
    go_enter Try.func96, Try.ntmps96
    go_wp2_with fail
    go_ret
    exact ⟨by first | rfl | (congr 2; simp; omega), rfl⟩

set_option maxRecDepth 100000 in
set_option maxHeartbeats 1000000 in
theorem bit_any (n : Int) (w : World) : Calls Try.prog 97 #[.int .i64 n] w fun e w' => e = .returned (.bool (bdB (n, 0, 1))) ∧ w' = w := by
  have hv : bdB (n, 0, 1) = decide (0 ≤ n ∧ n ≤ 1) := rfl
  rw [hv]
  clear hv
  by_cases h1 : n = 0
  · subst h1
    go_enter Try.func97, Try.ntmps97
    go_wp2_with fail
    go_ret
    exact ⟨rfl, rfl⟩
  · have f1 : (n == 0) = false := by simpa using h1
    by_cases h2 : n = 1
    · subst h2
      go_enter Try.func97, Try.ntmps97
      go_wp2_with fail
      go_ret
      exact ⟨rfl, rfl⟩
    · have f2 : (n == 1) = false := by simpa using h2
      rw [decide_eq_false (by omega)]
      clear h1 h2
      go_enter Try.func97, Try.ntmps97
      go_wp2_with fail
      go_ret
      exact ⟨rfl, rfl⟩

def visK (k : Int) : Bool := decide (k = 1 ∨ k = 2)
set_option maxRecDepth 100000 in
set_option maxHeartbeats 1000000 in
theorem visible_any (n : Int) (w : World) : Calls Try.prog 66 #[.int .i64 n] w fun e w' => e = .returned (.bool (visK n)) ∧ w' = w := by
  have hv : visK n = decide (n = 1 ∨ n = 2) := rfl
  rw [hv]
  clear hv
  by_cases h1 : n = 1
  · subst h1
    go_enter Try.func66, Try.ntmps66
    go_wp2_with fail
    go_ret
    exact ⟨rfl, rfl⟩
  · have f1 : (n == 1) = false := by simpa using h1
    by_cases h2 : n = 2
    · subst h2
      go_enter Try.func66, Try.ntmps66
      go_wp2_with fail
      go_ret
      exact ⟨rfl, rfl⟩
    · have f2 : (n == 2) = false := by simpa using h2
      rw [decide_eq_false (by omega)]
      clear h1 h2
      go_enter Try.func66, Try.ntmps66
      go_wp2_with fail
      go_ret
      exact ⟨rfl, rfl⟩

set_option maxRecDepth 100000 in
set_option maxHeartbeats 1000000 in
theorem shown_any (s : ByteArray) (hs : s.size ≤ 9223372036854775807) (b : Int) (w : World) : Calls Try.prog 79 #[.string s, .int .i64 b] w fun e w' => e = .returned (.bool (decide ((s.size : Int) ≤ b) && visB s)) ∧ w' = w := by
  have hN : Hid (∀ k, k < s.size → ¬ (32 < bt s k ∧ bt s k ≤ 126) → visB s = false) := fun k hk h => vis_no hk h
  have hY : Hid ((∀ k, k < s.size → 32 < bt s k ∧ bt s k ≤ 126) → visB s = true) := fun h => decide_eq_true h
  generalize visB s = r at hN hY ⊢
  go_enter Try.func79, Try.ntmps79
  go_wp2
  go_loopw [5] (fun i wr => ∃ k : Nat, k ≤ s.size ∧ i = .int .i64 k ∧ wr = w ∧ Hid (∀ j, j < k → 32 < bt s j ∧ bt s j ≤ 126)) (fun i _ => s.size - (intOf i).toNat)
  case atStart => exact ⟨0, by omega, rfl, rfl, fun j hj => by omega⟩
  case round =>
    obtain ⟨k, hk, rfl, rfl, hall⟩ := hrel
    by_cases hlt : k < s.size
    · have hb0 : Hid (bt s k = ((s[k]'hlt).toNat : Int)) := bt_eq hlt
      have hno' : Hid (¬ (32 < bt s k ∧ bt s k ≤ 126) → r = false) := hN.out k hlt
      have hyes : Hid ((32 < bt s k ∧ bt s k ≤ 126) → ∀ j, j < k + 1 → 32 < bt s j ∧ bt s j ≤ 126) := fun hv j hj => by
        by_cases h : j < k
        · exact hall.out j h
        · obtain rfl : j = k := by omega
          exact hv
      clear hN hY hall
      by_cases d1 : ((s[k]'hlt).toNat : Int) < 33
      · have hn := hno'.out (by rw [hb0.out]; omega)
        subst hn
        clear hno' hyes hb0
        go_wp2_with fail
        go_ret
        exact ⟨by first | rfl | (rw [Bool.and_false]; rfl), rfl⟩
      · by_cases d2 : 126 < ((s[k]'hlt).toNat : Int)
        · have hn := hno'.out (by rw [hb0.out]; omega)
          subst hn
          clear hno' hyes hb0
          go_wp2_with fail
          go_ret
          exact ⟨by first | rfl | (rw [Bool.and_false]; rfl), rfl⟩
        · have hy : Hid (∀ j, j < k + 1 → 32 < bt s j ∧ bt s j ≤ 126) := hyes.out (by rw [hb0.out]; omega)
          clear hno' hyes hb0
          go_wp2_with fail
          go_roundw
          case rel => exact ⟨k + 1, by omega, by simp, by first | rfl | trivial, hy⟩
          case measure => simp [intOf]; omega
    · have hn := hY.out (fun j hj => hall.out j (by omega))
      clear hN hY hall
      subst hn
      go_wp2_with fail
      go_ret
      exact ⟨by first | rfl | (rw [Bool.and_true]; rfl), rfl⟩

def chB3 (s t k : Int) : Bool := bdB (s, 0, 64) && bdB (t, 0, 15) && bdB (k, 0, 1)
theorem chB_3 (r : Sp) : chB r = chB3 r.s r.t r.k := by
  unfold chB chB3 bdB
  rw [Bool.eq_iff_iff]
  simp only [Bool.and_eq_true, decide_eq_true_eq]
  omega
set_option maxRecDepth 100000 in
set_option maxHeartbeats 1000000 in
theorem char_any (s t k : Int) (w : World) : Calls Try.prog 77 #[.agg #[.int .i64 s, .int .i64 t, .int .i64 k]] w fun e w' => e = .returned (.bool (chB3 s t k)) ∧ Below w.heap.size w w' := by
  have hB := (Below.refl w.heap.size w).alloc (Nat.le_refl _) (Obj.cells #[.int .i64 s, .int .i64 t, .int .i64 k] 67)
  have h1 := from_any s 0 64
  have h2 := from_any t 0 15
  have h3 := bit_any k
  have hv : chB3 s t k = (bdB (s, 0, 64) && bdB (t, 0, 15) && bdB (k, 0, 1)) := rfl
  rw [hv]
  clear hv
  generalize bdB (s, 0, 64) = b1 at *
  generalize bdB (t, 0, 15) = b2 at *
  generalize bdB (k, 0, 1) = b3 at *
  cases b1
  · go_enter Try.func77, Try.ntmps77
    go_wp2_with fail
    refine (h1 _).mono ?_
    rintro e w' ⟨rfl, hww⟩
    subst w'
    go_wp2_with fail
    go_ret
    exact ⟨rfl, hB⟩
  · cases b2
    · go_enter Try.func77, Try.ntmps77
      go_wp2_with fail
      refine (h1 _).mono ?_
      rintro e w' ⟨rfl, hww⟩
      subst w'
      go_wp2_with fail
      refine (h2 _).mono ?_
      rintro e w' ⟨rfl, hww⟩
      subst w'
      go_wp2_with fail
      go_ret
      exact ⟨rfl, hB⟩
    · go_enter Try.func77, Try.ntmps77
      go_wp2_with fail
      refine (h1 _).mono ?_
      rintro e w' ⟨rfl, hww⟩
      subst w'
      go_wp2_with fail
      refine (h2 _).mono ?_
      rintro e w' ⟨rfl, hww⟩
      subst w'
      go_wp2_with fail
      refine (h3 _).mono ?_
      rintro e w' ⟨rfl, hww⟩
      subst w'
      go_wp2_with fail
      go_ret
      exact ⟨rfl, hB⟩
end Go.Proofs.Ytkhnfmdhdfpdhaa
