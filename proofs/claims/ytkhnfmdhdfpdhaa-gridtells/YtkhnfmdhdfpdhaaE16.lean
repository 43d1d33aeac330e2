/-
  What is proved here: all columns together; a room that is shared out.
  What is proved here: columns that grow: the drawn regions.
-/
import Derived.Test.YtkhnfmdhdfpdhaaE15
import Derived.Test.YtkhnfmdhdfpdhaaE7
namespace Go.Proofs.Ytkhnfmdhdfpdhaa
open Go.RowKit Go.Shelf

set_option maxHeartbeats 400000 in
theorem collect_any (Bt c : Nat) (v : Value) (l : List ByteArray) (hT : Tab c l) (w : World) (hR : ReadT Bt c v l w) (hvb : ∀ g, v.ownBlock = some g → g < w.heap.size) :
    Calls Try.prog 29 #[.func (.func 43) #[] #[.pointer (some ⟨Bt, 0, none⟩)]] w fun e w' => ∃ u, e = .returned u ∧ w'.ownsRow w.heap.size 55 2 u c (rowT c l c) ∧ Below w.heap.size w w' := by
  have hA := appendSeq_any Bt c v l hT w hR hvb
  go_enter Try.func29, Try.ntmps29
  go_wp2_with fail
  refine hA.mono ?_
  rintro e w1 ⟨u, rfl, hr, hb⟩
  go_wp2_with fail
  go_ret
  exact ⟨u, rfl, hr, hb⟩
set_option maxRecDepth 100000 in
theorem grows_any (x y : Int) (hx : 0 ≤ x ∧ x ≤ 10000000) (hy : 0 ≤ y ∧ y ≤ 10000000) (w : World) : Calls Try.prog 48 #[.agg #[.int .i64 x, .int .i64 y]] w fun e w' => e = .returned (.int .i64 (y - x)) ∧ Below w.heap.size w w' := by
  have hB := (Below.refl w.heap.size w).alloc (Nat.le_refl _) (.cells #[.int .i64 x, .int .i64 y] 55)
  obtain ⟨x1, x2⟩ := hx
  obtain ⟨y1, y2⟩ := hy
  go_enter Try.func48, Try.ntmps48
  go_wp2_with fail
  go_ret
  exact ⟨rfl, hB⟩
def co0 : Co := ⟨0, 0⟩
def sAt (L : List Co) (k : Nat) : Int := (L.getD k co0).s
def mAt (L : List Co) (k : Nat) : Int := (L.getD k co0).m
theorem sAt_get {L : List Co} {k : Nat} (h : k < L.length) : sAt L k = L[k].s := by unfold sAt; rw [List.getD_eq_getElem?_getD, List.getElem?_eq_getElem h]; rfl
theorem mAt_get {L : List Co} {k : Nat} (h : k < L.length) : mAt L k = L[k].m := by unfold mAt; rw [List.getD_eq_getElem?_getD, List.getElem?_eq_getElem h]; rfl
/-- Columns as they may be. -/
def Few (L : List Co) : Prop := L.length ≤ 8 ∧ ∀ k (hk : k < L.length), 4 ≤ L[k].s ∧ L[k].s ≤ L[k].m ∧ L[k].m ≤ 819004
theorem cols_few {c : Nat} {l : List ByteArray} (hT : Tab c l) : Few (cols c l) := ⟨by rw [cols_len]; exact hT.hc.2, fun k hk => by rw [cols_get]; exact hT.ha.col c k⟩
theorem Few.at {L : List Co} (h : Few L) {k : Nat} (hk : k < L.length) : 4 ≤ sAt L k ∧ sAt L k ≤ mAt L k ∧ mAt L k ≤ 819004 := by
  rw [sAt_get hk, mAt_get hk]; exact h.2 k hk
theorem Few.tot {L : List Co} (h : Few L) : ∀ k, k ≤ L.length → 0 ≤ tot (sAt L) k ∧ tot (sAt L) k ≤ tot (mAt L) k ∧ tot (mAt L) k ≤ 819004 * (k : Int)
  | 0, _ => by simp [Go.Proofs.Ytkhnfmdhdfpdhaa.tot]
  | k + 1, hk => by
    have ih := h.tot k (by omega)
    have := h.at (show k < L.length by omega)
    show 0 ≤ Go.Proofs.Ytkhnfmdhdfpdhaa.tot (sAt L) k + sAt L k ∧ Go.Proofs.Ytkhnfmdhdfpdhaa.tot (sAt L) k + sAt L k ≤ Go.Proofs.Ytkhnfmdhdfpdhaa.tot (mAt L) k + mAt L k ∧ Go.Proofs.Ytkhnfmdhdfpdhaa.tot (mAt L) k + mAt L k ≤ _
    omega

set_option maxRecDepth 100000 in
set_option maxHeartbeats 2000000 in
theorem together_any (v : Value) (L : List Co) (hL : Few L) (w : World) (hS : RecAt 2 coL w v L) :
    Calls Try.prog 30 #[v] w fun e w' => e = .returned (.agg #[.int .i64 (tot (sAt L) L.length), .int .i64 (tot (mAt L) L.length)]) ∧ Below w.heap.size w w' := by
  obtain ⟨a, cap, rfl, h2⟩ := hS.ex
  clear hS
  have hlen := hL.1
  have hB1 := (Below.refl w.heap.size w).alloc (Nat.le_refl _) (.cells #[.int .i64 0, .int .i64 0] 55)
  have hr1 := B2.new w 0 0
  have hs1 : (w.alloc (.cells #[.int .i64 0, .int .i64 0] 55)).heap.size = w.heap.size + 1 := World.size_alloc _ _
  have hB2 := hB1.alloc hB1.size (.cells #[.int .i64 0, .int .i64 0] 55)
  have hr2 := hr1.turns (Turns.alloc Noth _ (.cells #[.int .i64 0, .int .i64 0] 55)) (fun h => h)
  have hq2 := B2.new (w.alloc (.cells #[.int .i64 0, .int .i64 0] 55)) 0 0
  rw [hs1] at hq2
  go_enter Try.func30, Try.ntmps30
  go_wp2_with fail
  go_loopw [8] (fun i wr => ∃ k : Nat, k ≤ L.length ∧ i = .int .i64 (k : Int) ∧ Below w.heap.size w wr ∧ B2 wr w.heap.size 0 0 ∧ B2 wr (w.heap.size + 1) (tot (sAt L) k) (tot (mAt L) k)) (fun i _ => L.length - (intOf i).toNat)
  case atStart => exact ⟨0, by omega, rfl, hB2, hr2, hq2⟩
  case round =>
    clear hB1 hr1 hs1 hB2 hr2 hq2
    obtain ⟨k, hk, rfl, hb, hr, hq⟩ := hrel
    have hsz := hq.lt
    have htk := hL.tot k hk
    by_cases hlt : k < L.length
    · rcases h2 with h2 | ⟨b, o, rfl, hbl, hc⟩
      · rw [h2] at hlt; simp at hlt
      have hlt' : (k : Int) < L.length := by omega
      have c0 : wr.cell? ⟨b, o + k * 2, none⟩ = some (.int .i64 L[k].s) := (hb.cell hbl).trans (hc k hlt 0 _ rfl)
      have c1 : wr.cell? ⟨b, o + k * 2 + 1, none⟩ = some (.int .i64 L[k].m) := (hb.cell hbl).trans (hc k hlt 1 _ rfl)
      have hx := hL.2 k hlt
      have k1 : Hid (tot (sAt L) (k + 1) = tot (sAt L) k + L[k].s) := (by show tot (sAt L) k + sAt L k = _; rw [sAt_get hlt] : _ = _)
      have k2 : Hid (tot (mAt L) (k + 1) = tot (mAt L) k + L[k].m) := (by show tot (mAt L) k + mAt L k = _; rw [mAt_get hlt] : _ = _)
      have e0 := hq.c0
      have e1 := hq.c1
      have z0 := hq.z 0
      have z1 := hq.z 1
      have hend : Hid (∀ x y X Y, x = L[k].s → y = L[k].m → X = tot (sAt L) k → Y = tot (mAt L) k → Below w.heap.size w (((wr.setCell ⟨w.heap.size + 1, 0, none⟩ (.int .i64 (X + x))).setCell ⟨w.heap.size + 1, 1, none⟩ (.int .i64 (Y + y))).alloc (.cells #[.int .i64 x, .int .i64 y] 55)) ∧ B2 (((wr.setCell ⟨w.heap.size + 1, 0, none⟩ (.int .i64 (X + x))).setCell ⟨w.heap.size + 1, 1, none⟩ (.int .i64 (Y + y))).alloc (.cells #[.int .i64 x, .int .i64 y] 55)) w.heap.size 0 0 ∧ B2 (((wr.setCell ⟨w.heap.size + 1, 0, none⟩ (.int .i64 (X + x))).setCell ⟨w.heap.size + 1, 1, none⟩ (.int .i64 (Y + y))).alloc (.cells #[.int .i64 x, .int .i64 y] 55)) (w.heap.size + 1) (tot (sAt L) (k + 1)) (tot (mAt L) (k + 1))) := by
        rintro x y X Y rfl rfl rfl rfl
        have T1 := Turns.setCell (X := fun k => k = w.heap.size + 1) wr (p := ⟨w.heap.size + 1, 0, none⟩) rfl (.int .i64 (tot (sAt L) k + L[k].s))
        have T2 := Turns.setCell (X := fun k => k = w.heap.size + 1) (wr.setCell ⟨w.heap.size + 1, 0, none⟩ (.int .i64 (tot (sAt L) k + L[k].s))) (p := ⟨w.heap.size + 1, 1, none⟩) rfl (.int .i64 (tot (mAt L) k + L[k].m))
        have T3 := (T1.trans T2).trans (Turns.alloc (fun k => k = w.heap.size + 1) _ (.cells #[.int .i64 L[k].s, .int .i64 L[k].m] 55))
        rw [k1.out, k2.out]
        exact ⟨hb.trans (T3.below hb.size (fun k hk => by omega)), hr.turns T3 (by omega), ((hq.set0 _).set1 _).turns (Turns.alloc Noth _ _) (fun h => h)⟩
      have hend' := fun X Y hX hY => hend.out L[k].s L[k].m X Y rfl rfl hX hY
      clear hc k1 k2 hend hr hq hb
      generalize L[k].s = x at *
      generalize L[k].m = y at *
      generalize tot (sAt L) k = X at *
      generalize tot (mAt L) k = Y at *
      have hend2 : Hid _ := hend' X Y rfl rfl
      clear hend'
      go_wp2_with fail
      go_roundw
      case rel => exact ⟨k + 1, by omega, by simp, hend2.out⟩
      case measure => simp [intOf]; omega
    · obtain rfl : k = L.length := by omega
      have hge : ¬ (L.length : Int) < L.length := by omega
      have e0 := hq.c0
      have e1 := hq.c1
      have T1 := Turns.setRow (X := fun k => k = w.heap.size) wr (r := w.heap.size) rfl #[.int .i64 (tot (sAt L) L.length), .int .i64 (tot (mAt L) L.length)]
      have hBe := hb.trans (T1.below hb.size (fun k hk => by omega))
      clear h2
      generalize hX : tot (sAt L) L.length = X at *
      generalize hY : tot (mAt L) L.length = Y at *
      have hX' : Hid (tot (sAt L) L.length = X) := hX
      have hY' : Hid (tot (mAt L) L.length = Y) := hY
      clear hX hY
      go_wp2_with (refine wpList_store_row rfl 55 _ _ rfl w.heap.size #[.int .i64 X, .int .i64 Y] rfl rfl 55 _ hr.row (info55v _ _) rfl (one55 _ _) ?_)
      refine bodyPost_ret (results_cell_row rfl _ _ w.heap.size 55 #[.int .i64 X, .int .i64 Y] (0, 0) _ rfl (setRow_heap _ _ _ _ 55 _ hr.row) Try.underlying55 rfl info55) rfl ?_
      exact ⟨by rw [hX'.out, hY'.out], hBe⟩

/-- What is shared out: the room, the parts, those so far and what they have. -/
structure SH (W : World) (b : Nat) (r p t g : Int) : Prop where
  row : W.heap[b]? = some (.cells #[.int .i64 r, .int .i64 p, .int .i64 t, .int .i64 g] 91 (0, 0))
theorem SH.lt {W : World} {b : Nat} {r p t g : Int} (h : SH W b r p t g) : b < W.heap.size := (Array.getElem?_eq_some_iff.1 h.row).1
theorem SH.turns {X : Nat → Prop} {W W' : World} {b : Nat} {r p t g : Int} (h : SH W b r p t g) (ht : Turns X W W') (hn : ¬ X b) : SH W' b r p t g := ⟨(ht.block b h.lt hn).trans h.row⟩
theorem SH.below {W W' : World} {n b : Nat} {r p t g : Int} (h : SH W b r p t g) (hb : Below n W W') (hn : b < n) : SH W' b r p t g := ⟨(hb.block b hn).trans h.row⟩
theorem SH.c0 {W : World} {b : Nat} {r p t g : Int} (h : SH W b r p t g) : W.cell? ⟨b, 0, none⟩ = some (.int .i64 r) := by rw [Lib.cell_of_heap h.row]; rfl
theorem SH.c1 {W : World} {b : Nat} {r p t g : Int} (h : SH W b r p t g) : W.cell? ⟨b, 1, none⟩ = some (.int .i64 p) := by rw [Lib.cell_of_heap h.row]; rfl
theorem SH.c2 {W : World} {b : Nat} {r p t g : Int} (h : SH W b r p t g) : W.cell? ⟨b, 2, none⟩ = some (.int .i64 t) := by rw [Lib.cell_of_heap h.row]; rfl
theorem SH.c3 {W : World} {b : Nat} {r p t g : Int} (h : SH W b r p t g) : W.cell? ⟨b, 3, none⟩ = some (.int .i64 g) := by rw [Lib.cell_of_heap h.row]; rfl
theorem SH.z {W : World} {b : Nat} {r p t g : Int} (h : SH W b r p t g) (k : Nat) : W.frozen? ⟨b, k, none⟩ = false := Lib.frozen_of_heap h.row _
theorem SH.new (w : World) (r p t g : Int) : SH (w.alloc (.cells #[.int .i64 r, .int .i64 p, .int .i64 t, .int .i64 g] 91)) w.heap.size r p t g := ⟨World.alloc_heap_new w _⟩
theorem SH.set2 {W : World} {b : Nat} {r p t g : Int} (h : SH W b r p t g) (x : Int) : SH (W.setCell ⟨b, 2, none⟩ (.int .i64 x)) b r p x g := ⟨heap_setCell_same W b 2 _ 91 _ h.row⟩
theorem SH.set3 {W : World} {b : Nat} {r p t g : Int} (h : SH W b r p t g) (x : Int) : SH (W.setCell ⟨b, 3, none⟩ (.int .i64 x)) b r p t x := ⟨heap_setCell_same W b 3 _ 91 _ h.row⟩
/-- What the first have, by their parts. -/
def gv (r p t : Int) : Int := r * t / (max p 1)
set_option maxRecDepth 100000 in
set_option maxHeartbeats 2000000 in
theorem next_any (b : Nat) (r p t g n : Int) (hr : 0 ≤ r ∧ r ≤ 10000000) (hp : 0 ≤ p ∧ p ≤ 10000000) (ht : 0 ≤ t ∧ t ≤ 10000000) (hn : 0 ≤ n ∧ n ≤ 10000000) (hg : 0 ≤ g ∧ g ≤ 1000000000000000) (w : World) (hS : SH w b r p t g) :
    Calls Try.prog 47 #[.pointer (some ⟨b, 0, none⟩), .int .i64 n] w fun e w' => e = .returned (.int .i64 (gv r p (t + n) - g)) ∧ SH w' b r p (t + n) (gv r p (t + n)) ∧ Turns (fun k => k = b) w w' := by
  have hm0 : 0 ≤ r * (t + n) := Int.mul_nonneg hr.1 (by omega)
  have hm1 : r * (t + n) ≤ 10000000 * 20000000 := Int.mul_le_mul hr.2 (by omega) (by omega) (by omega)
  have hv0 : 0 ≤ gv r p (t + n) := Int.ediv_nonneg hm0 (by omega)
  have hv1 : gv r p (t + n) ≤ r * (t + n) := Int.ediv_le_self _ hm0
  have c0 := hS.c0
  have c1 := hS.c1
  have c2 := hS.c2
  have c3 := hS.c3
  have z2 := hS.z 2
  have z3 := hS.z 3
  have T1 := Turns.setCell (X := fun k => k = b) w (p := ⟨b, 2, none⟩) rfl (.int .i64 (t + n))
  have S1 := hS.set2 (t + n)
  obtain ⟨r1, r2⟩ := hr
  obtain ⟨p1, p2⟩ := hp
  obtain ⟨t1, t2⟩ := ht
  obtain ⟨n1, n2⟩ := hn
  obtain ⟨g1, g2⟩ := hg
  by_cases h1 : p < 1
  · have hv : gv r p (t + n) = r * (t + n) := by unfold gv; rw [show max p 1 = 1 by omega, Int.ediv_one]
    rw [hv] at hv0 hv1 ⊢
    clear hv
    go_enter Try.func47, Try.ntmps47
    go_wp2_with fail
    generalize w.setCell ⟨b, 2, none⟩ (.int .i64 (t + n)) = w1 at *
    clear c0 c1 c2 c3 z2 z3
    have c0 := S1.c0
    have c1 := S1.c1
    have c2 := S1.c2
    have c3 := S1.c3
    have z3 := S1.z 3
    have S2 : SH (w1.setCell ⟨b, 3, none⟩ (.int .i64 (r * (t + n)))).drew b r p (t + n) (r * (t + n)) := ⟨(S1.set3 _).row⟩
    have T2 : Turns (fun k => k = b) w (w1.setCell ⟨b, 3, none⟩ (.int .i64 (r * (t + n)))).drew := T1.trans ((Turns.setCell (X := fun k => k = b) w1 (p := ⟨b, 3, none⟩) rfl _).trans (Turns.drewN _ _ 1))
    clear hS
    go_region
    clear c0 c1 c2 c3 z3
    have c3 := S2.c3
    generalize (w1.setCell ⟨b, 3, none⟩ (.int .i64 (r * (t + n)))).drew = w2 at *
    go_wp2_with fail
    go_ret
    exact ⟨rfl, S2, T2⟩
  · have hv : gv r p (t + n) = r * (t + n) / p := by unfold gv; rw [show max p 1 = p by omega]
    rw [hv] at hv0 hv1 ⊢
    clear hv
    go_enter Try.func47, Try.ntmps47
    go_wp2_with fail
    generalize w.setCell ⟨b, 2, none⟩ (.int .i64 (t + n)) = w1 at *
    clear c0 c1 c2 c3 z2 z3
    have c0 := S1.c0
    have c1 := S1.c1
    have c2 := S1.c2
    have c3 := S1.c3
    have z3 := S1.z 3
    have S2 : SH (w1.setCell ⟨b, 3, none⟩ (.int .i64 (r * (t + n) / p))).drew b r p (t + n) (r * (t + n) / p) := ⟨(S1.set3 _).row⟩
    have T2 : Turns (fun k => k = b) w (w1.setCell ⟨b, 3, none⟩ (.int .i64 (r * (t + n) / p))).drew := T1.trans ((Turns.setCell (X := fun k => k = b) w1 (p := ⟨b, 3, none⟩) rfl _).trans (Turns.drewN _ _ 1))
    clear hS
    go_region
    clear c0 c1 c2 c3 z3
    have c3 := S2.c3
    generalize (w1.setCell ⟨b, 3, none⟩ (.int .i64 (r * (t + n) / p))).drew = w2 at *
    go_wp2_with fail
    go_ret
    exact ⟨rfl, S2, T2⟩
end Go.Proofs.Ytkhnfmdhdfpdhaa

namespace Go.Proofs.Ytkhnfmdhdfpdhaa
open Go.RowKit Go.Shelf

def opg6 (ps : String) : Array Oper := #[{ dst := some 31, op := Op.move (Operand.tmp 8), type := 26, pos := ps, after := #[], guard := none }, { dst := some 32, op := Op.move (Operand.tmp 9), type := 3, pos := ps, after := #[], guard := none }, { dst := some 33, op := Op.fieldAddr 55 (Operand.tmp 10) 0, type := 0, pos := ps, after := #[], guard := none }, { dst := some 34, op := Op.load 3 (Operand.tmp 33), type := 3, pos := ps, after := #[{ on := 2, ground := Ground.data }], guard := none }, { dst := some 35, op := Op.load 55 (Operand.tmp 10), type := 55, pos := ps, after := #[], guard := none }, { dst := some 36, op := Op.call { callee := Callee.value (Operand.func 48), args := #[Operand.tmp 35], argTypes := #[55] }, type := 3, pos := ps, after := #[{ on := 4, ground := Ground.data }], guard := none }, { dst := some 37, op := Op.call { callee := Callee.value (Operand.func 47), args := #[Operand.tmp 7, Operand.tmp 36], argTypes := #[91, 3] }, type := 3, pos := ps, after := #[{ on := 5, ground := Ground.data }, { on := 5, ground := Ground.chain }], guard := none }, { dst := some 38, op := Op.binOp BinOp.add 3 (Operand.tmp 34) (Operand.tmp 37) 3, type := 3, pos := ps, after := #[{ on := 3, ground := Ground.data }, { on := 6, ground := Ground.data }], guard := none }, { dst := some 39, op := Op.indexAddr 26 (Operand.tmp 31) (Operand.tmp 32), type := 0, pos := ps, after := #[{ on := 0, ground := Ground.data }, { on := 1, ground := Ground.data }, { on := 0, ground := Ground.phase }, { on := 1, ground := Ground.phase }, { on := 2, ground := Ground.phase }, { on := 3, ground := Ground.phase }, { on := 4, ground := Ground.phase }, { on := 5, ground := Ground.phase }, { on := 6, ground := Ground.phase }, { on := 7, ground := Ground.phase }], guard := none }, { dst := none, op := Op.store 3 (Operand.tmp 39) (Operand.tmp 38), type := 0, pos := ps, after := #[{ on := 8, ground := Ground.data }, { on := 7, ground := Ground.data }, { on := 6, ground := Ground.chain }, { on := 0, ground := Ground.phase }, { on := 1, ground := Ground.phase }, { on := 2, ground := Ground.phase }, { on := 3, ground := Ground.phase }, { on := 4, ground := Ground.phase }, { on := 5, ground := Ground.phase }, { on := 6, ground := Ground.phase }, { on := 7, ground := Ground.phase }], guard := none }]

set_option maxRecDepth 100000 in
set_option maxHeartbeats 1000000 in
theorem gro_r6 (Q : Exit → Act → World → Prop) (hQ : ∀ c x (n : Nat) v w, Q (.panic c) (x.put (some n) v) w → Q (.panic c) x w) (id : Nat) (ps : String) (bS bT bC n k : Nat) (x y r p t g : Int) (v0 v1 v2 v3 v4 v5 v6 v11 v12 v13 v14 v15 v16 v17 v18 v19 v20 v21 v22 v23 v24 v25 v26 v27 v28 v29 v30 v31 v32 v33 v34 v35 v36 v37 v38 v39 v40 v41 : Value) (W : World)
    (hx : 0 ≤ x ∧ x ≤ y ∧ y ≤ 10000000) (hr : 0 ≤ r ∧ r ≤ 10000000) (hp : 0 ≤ p ∧ p ≤ 10000000) (ht : 0 ≤ t ∧ t ≤ 10000000) (hg : 0 ≤ g ∧ g ≤ 1000000000000000) (hkn : k < n)
    (hC : B2 W bC x y) (hH : SH W bS r p t g) (hT : W.cell? ⟨bT, k, none⟩ = some (.int .i64 0)) (hz : W.frozen? ⟨bT, k, none⟩ = false) (hlt : bT < W.heap.size) (h1 : bC ≠ bS) (h2 : bT ≠ bS) (h3 : bC ≠ bT)
    (hK : ∀ W', SH W' bS r p (t + (y - x)) (gv r p (t + (y - x))) → Turns (fun b => b = bS) W W' → Q .normal { tmps := #[v0, v1, v2, v3, v4, v5, v6, .pointer (some ⟨bS, 0, none⟩), .slice (some ⟨bT, 0, none⟩) n n, .int .i64 (k : Int), .pointer (some ⟨bC, 0, none⟩), v11, v12, v13, v14, v15, v16, v17, v18, v19, v20, v21, v22, v23, v24, v25, v26, v27, v28, v29, v30, .slice (some ⟨bT, 0, none⟩) n n, .int .i64 (k : Int), .pointer (some ⟨bC, 0, none⟩), .int .i64 x, .agg #[.int .i64 x, .int .i64 y], .int .i64 (y - x), .int .i64 (gv r p (t + (y - x)) - g), .int .i64 (x + (gv r p (t + (y - x)) - g)), .pointer (some ⟨bT, k, none⟩), v40, v41], defers := [] } (W'.setCell ⟨bT, k, none⟩ (.int .i64 (x + (gv r p (t + (y - x)) - g))))) :
    (Code.region id (opg6 ps) true).wp Try.prog Q { tmps := #[v0, v1, v2, v3, v4, v5, v6, .pointer (some ⟨bS, 0, none⟩), .slice (some ⟨bT, 0, none⟩) n n, .int .i64 (k : Int), .pointer (some ⟨bC, 0, none⟩), v11, v12, v13, v14, v15, v16, v17, v18, v19, v20, v21, v22, v23, v24, v25, v26, v27, v28, v29, v30, v31, v32, v33, v34, v35, v36, v37, v38, v39, v40, v41], defers := [] } W := by
  have hm0 : 0 ≤ r * (t + (y - x)) := Int.mul_nonneg hr.1 (by omega)
  have hm1 : r * (t + (y - x)) ≤ 10000000 * 20000000 := Int.mul_le_mul hr.2 (by omega) (by omega) (by omega)
  have hv0 : 0 ≤ gv r p (t + (y - x)) := Int.ediv_nonneg hm0 (by omega)
  have hv1 : gv r p (t + (y - x)) ≤ r * (t + (y - x)) := Int.ediv_le_self _ hm0
  refine wp_region_held (S := fun w => B2 w bC x y) (by kernel_rfl) ?_
  change wpAnyH _ _ _ _ _ 10 _ _ (World.drew W)
  have hTd : Turns (fun b => b = bS) W W.drew := Turns.drew _ _
  have hS : B2 W.drew bC x y := ⟨hC.row⟩
  have hH0 : SH W.drew bS r p t g := ⟨hH.row⟩
  generalize W.drew = V at hS hH0 hTd ⊢
  unfold opg6
  refine wpAnyH_take (i := 0) (v := .slice (some ⟨bT, 0, none⟩) n n) rfl (by kernel_rfl) (by kernel_rfl) (by kernel_rfl) (fun c x w => hQ c x _ _ w) (Or.inl ⟨by rfl, ?y1⟩) hS ?_
  case y1 => (intro w' hw'; go_simp)
  go_simp
  refine wpAnyH_take (i := 1) (v := .int .i64 (k : Int)) rfl (by kernel_rfl) (by kernel_rfl) (by kernel_rfl) (fun c x w => hQ c x _ _ w) (Or.inl ⟨by rfl, ?y2⟩) hS ?_
  case y2 => (intro w' hw'; go_simp)
  go_simp
  refine wpAnyH_take (i := 2) (v := .pointer (some ⟨bC, 0, none⟩)) rfl (by kernel_rfl) (by kernel_rfl) (by kernel_rfl) (fun c x w => hQ c x _ _ w) (Or.inl ⟨by rfl, ?y3⟩) hS ?_
  case y3 => (intro w' hw'; go_simp)
  go_simp
  refine wpAnyH_take (i := 3) (v := .int .i64 x) rfl (by kernel_rfl) (by kernel_rfl) (by kernel_rfl) (fun c x w => hQ c x _ _ w) (Or.inl ⟨by rfl, ?y4⟩) hS ?_
  case y4 => (intro w' hw'; have c0 := B2.c0 hw'; go_simp)
  go_simp
  refine wpAnyH_take (i := 4) (v := .agg #[.int .i64 x, .int .i64 y]) rfl (by kernel_rfl) (by kernel_rfl) (by kernel_rfl) (fun c x w => hQ c x _ _ w) (Or.inl ⟨by rfl, ?y5⟩) hS ?_
  case y5 => (intro w' hw'; have c0 := B2.c0 hw'; have c1 := B2.c1 hw'; go_simp)
  go_simp
  refine want_h (i := 5) (by kernel_rfl) rfl (by kernel_rfl) fun K hK' => ?_
  go_simp
  refine (grows_any x y (by omega) (by omega) _).mono ?_
  rintro e w1 ⟨rfl, b1⟩
  have hT1 : Turns (fun b => b = bS) W w1 := hTd.trans ((Turns.of_below b1).mono (fun _ h => h.elim))
  have hH1 := hH0.below b1 hH0.lt
  have hS1 := hS.below b1 hS.lt
  refine hK' _ _ hS1 ?_
  clear hK' K hS hH0
  go_simp
  refine want_h (i := 6) (by kernel_rfl) rfl (by kernel_rfl) fun K hK' => ?_
  go_simp
  refine (next_any bS r p t g (y - x) hr hp ht (by omega) hg _ hH1).mono ?_
  rintro e w2 ⟨rfl, hH2, T2⟩
  have hT2 : Turns (fun b => b = bS) W w2 := hT1.trans T2
  have hS2 := hS1.turns T2 h1
  refine hK' _ _ hS2 ?_
  clear hK' K hS1 hH1
  go_simp
  refine wpAnyH_take (i := 7) (v := .int .i64 (x + (gv r p (t + (y - x)) - g))) rfl (by kernel_rfl) (by kernel_rfl) (by kernel_rfl) (fun c x w => hQ c x _ _ w) (Or.inl ⟨by rfl, ?y6⟩) hS2 ?_
  case y6 => (intro w' hw'; go_simp; simp [IntKind.wrap, IntKind.bits, IntKind.signed]; omega)
  go_simp
  refine wpAnyH_take (i := 8) (v := .pointer (some ⟨bT, k, none⟩)) rfl (by kernel_rfl) (by kernel_rfl) (by kernel_rfl) (fun c x w => hQ c x _ _ w) (Or.inl ⟨by rfl, ?y7⟩) hS2 ?_
  case y7 => (intro w' hw'; go_simp)
  go_simp
  have c9 : w2.cell? ⟨bT, k, none⟩ = some (.int .i64 0) := by
    rw [← hT]
    unfold World.cell?
    rw [hT2.block bT hlt h2]
  have z9 : w2.frozen? ⟨bT, k, none⟩ = false := by
    rw [← hz]
    unfold World.frozen?
    rw [hT2.block bT hlt h2]
  have hQ1 := hK w2 hH2 hT2
  refine want_h (i := 9) (by kernel_rfl) rfl (by kernel_rfl) fun K hK' => ?_
  go_simp
  exact hK' _ _ (hS2.turns (Turns.setCell (X := fun b => b = bT) w2 (p := ⟨bT, k, none⟩) rfl _) h3) (wpAnyH_done (by kernel_rfl) hQ1 _)
def opg1 (ps : String) : Array Oper := #[{ dst := some 11, op := Op.move (Operand.tmp 2), type := 3, pos := ps, after := #[], guard := none }, { dst := some 12, op := Op.fieldAddr 55 (Operand.tmp 4) 1, type := 0, pos := ps, after := #[], guard := none }, { dst := some 13, op := Op.load 3 (Operand.tmp 12), type := 3, pos := ps, after := #[{ on := 1, ground := Ground.data }], guard := none }, { dst := some 14, op := Op.call { callee := Callee.builtin Builtin.min, args := #[Operand.tmp 11, Operand.tmp 13], argTypes := #[3, 3] }, type := 3, pos := ps, after := #[{ on := 0, ground := Ground.data }, { on := 2, ground := Ground.data }], guard := none }, { dst := some 15, op := Op.fieldAddr 55 (Operand.tmp 4) 0, type := 0, pos := ps, after := #[], guard := none }, { dst := some 16, op := Op.load 3 (Operand.tmp 15), type := 3, pos := ps, after := #[{ on := 4, ground := Ground.data }], guard := none }, { dst := some 17, op := Op.binOp BinOp.sub 3 (Operand.tmp 14) (Operand.tmp 16) 3, type := 3, pos := ps, after := #[{ on := 3, ground := Ground.data }, { on := 5, ground := Ground.data }], guard := none }, { dst := some 18, op := Op.load 55 (Operand.tmp 4), type := 55, pos := ps, after := #[], guard := none }, { dst := some 19, op := Op.call { callee := Callee.value (Operand.func 48), args := #[Operand.tmp 18], argTypes := #[55] }, type := 3, pos := ps, after := #[{ on := 7, ground := Ground.data }], guard := none }, { dst := some 20, op := Op.build 91 #[(0, Operand.tmp 17), (1, Operand.tmp 19)], type := 91, pos := ps, after := #[{ on := 6, ground := Ground.data }, { on := 8, ground := Ground.data }], guard := none }, { dst := some 7, op := Op.alloc 91, type := 0, pos := ps, after := #[], guard := none }, { dst := none, op := Op.store 91 (Operand.tmp 7) (Operand.tmp 20), type := 0, pos := ps, after := #[{ on := 10, ground := Ground.data }, { on := 9, ground := Ground.data }, { on := 8, ground := Ground.chain }, { on := 0, ground := Ground.phase }, { on := 1, ground := Ground.phase }, { on := 2, ground := Ground.phase }, { on := 3, ground := Ground.phase }, { on := 4, ground := Ground.phase }, { on := 5, ground := Ground.phase }, { on := 6, ground := Ground.phase }, { on := 7, ground := Ground.phase }, { on := 8, ground := Ground.phase }, { on := 9, ground := Ground.phase }, { on := 10, ground := Ground.phase }], guard := none }]

theorem info91 (a b c d : Int) : (Try.prog.info? 91).map (·.size) = some (#[Value.int .i64 a, .int .i64 b, .int .i64 c, .int .i64 d] : Array Value).size := by show _ = some 4; kernel_rfl
theorem one91 (a b c d : Int) : (#[Value.int .i64 a, .int .i64 b, .int .i64 c, .int .i64 d] : Array Value).all (·.oneCell') = true := by simp [Value.oneCell']
set_option maxRecDepth 100000 in
set_option maxHeartbeats 1000000 in
theorem gro_r1 (Q : Exit → Act → World → Prop) (hQ : ∀ c x (n : Nat) v w, Q (.panic c) (x.put (some n) v) w → Q (.panic c) x w) (id : Nat) (ps : String) (bA : Nat) (q x y : Int) (v0 v1 v3 v5 v6 v8 v9 v10 v21 v22 v23 v24 v25 v26 v27 v28 v29 v30 v31 v32 v33 v34 v35 v36 v37 v38 v39 v40 v41 : Value) (W : World)
    (hx : 0 ≤ x ∧ x ≤ y ∧ y ≤ 10000000) (hq : x ≤ q ∧ q ≤ 4095) (hA : B2 W bA x y)
    (hK : ∀ B W', W.heap.size ≤ B → SH W' B (min q y - x) (y - x) 0 0 → Below W.heap.size W W' → Q .normal { tmps := #[v0, v1, .int .i64 q, v3, .pointer (some ⟨bA, 0, none⟩), v5, v6, .pointer (some ⟨B, 0, none⟩), v8, v9, v10, .int .i64 q, .pointer (some ⟨bA, 1, none⟩), .int .i64 y, .int .i64 (min q y), .pointer (some ⟨bA, 0, none⟩), .int .i64 x, .int .i64 (min q y - x), .agg #[.int .i64 x, .int .i64 y], .int .i64 (y - x), .agg #[.int .i64 (min q y - x), .int .i64 (y - x), .int .i64 0, .int .i64 0], v21, v22, v23, v24, v25, v26, v27, v28, v29, v30, v31, v32, v33, v34, v35, v36, v37, v38, v39, v40, v41], defers := [] } W') :
    (Code.region id (opg1 ps) true).wp Try.prog Q { tmps := #[v0, v1, .int .i64 q, v3, .pointer (some ⟨bA, 0, none⟩), v5, v6, undef, v8, v9, v10, undef, undef, undef, undef, undef, undef, undef, undef, undef, undef, v21, v22, v23, v24, v25, v26, v27, v28, v29, v30, v31, v32, v33, v34, v35, v36, v37, v38, v39, v40, v41], defers := [] } W := by
  refine wp_region_held (S := fun w => B2 w bA x y) (by kernel_rfl) ?_
  change wpAnyH _ _ _ _ _ 12 _ _ (World.drew W)
  have hBd : Below W.heap.size W W.drew := below_drewN (Below.refl _ _) 1
  have hS : B2 W.drew bA x y := ⟨hA.row⟩
  have hlA := hA.lt
  generalize W.drew = V at hS hBd ⊢
  unfold opg1
  refine wpAnyH_take (i := 0) (v := .int .i64 q) rfl (by kernel_rfl) (by kernel_rfl) (by kernel_rfl) (fun c x w => hQ c x _ _ w) (Or.inl ⟨by rfl, ?y8⟩) hS ?_
  case y8 => (intro w' hw'; go_simp)
  go_simp
  refine wpAnyH_take (i := 1) (v := .pointer (some ⟨bA, 1, none⟩)) rfl (by kernel_rfl) (by kernel_rfl) (by kernel_rfl) (fun c x w => hQ c x _ _ w) (Or.inl ⟨by rfl, ?y9⟩) hS ?_
  case y9 => (intro w' hw'; go_simp)
  go_simp
  refine wpAnyH_take (i := 2) (v := .int .i64 y) rfl (by kernel_rfl) (by kernel_rfl) (by kernel_rfl) (fun c x w => hQ c x _ _ w) (Or.inl ⟨by rfl, ?y10⟩) hS ?_
  case y10 => (intro w' hw'; have c1 := B2.c1 hw'; go_simp)
  go_simp
  refine wpAnyH_take (i := 3) (v := .int .i64 (min q y)) rfl (by kernel_rfl) (by kernel_rfl) (by kernel_rfl) (fun c x w => hQ c x _ _ w) (Or.inl ⟨by rfl, ?y11⟩) hS ?_
  case y11 => (intro w' hw'; go_simp; (first | done | (split <;> omega)))
  go_simp
  refine wpAnyH_take (i := 4) (v := .pointer (some ⟨bA, 0, none⟩)) rfl (by kernel_rfl) (by kernel_rfl) (by kernel_rfl) (fun c x w => hQ c x _ _ w) (Or.inl ⟨by rfl, ?y12⟩) hS ?_
  case y12 => (intro w' hw'; go_simp)
  go_simp
  refine wpAnyH_take (i := 5) (v := .int .i64 x) rfl (by kernel_rfl) (by kernel_rfl) (by kernel_rfl) (fun c x w => hQ c x _ _ w) (Or.inl ⟨by rfl, ?y13⟩) hS ?_
  case y13 => (intro w' hw'; have c0 := B2.c0 hw'; go_simp)
  go_simp
  refine wpAnyH_take (i := 6) (v := .int .i64 (min q y - x)) rfl (by kernel_rfl) (by kernel_rfl) (by kernel_rfl) (fun c x w => hQ c x _ _ w) (Or.inl ⟨by rfl, ?y14⟩) hS ?_
  case y14 => (intro w' hw'; go_simp; simp [IntKind.wrap, IntKind.bits, IntKind.signed]; omega)
  go_simp
  refine wpAnyH_take (i := 7) (v := .agg #[.int .i64 x, .int .i64 y]) rfl (by kernel_rfl) (by kernel_rfl) (by kernel_rfl) (fun c x w => hQ c x _ _ w) (Or.inl ⟨by rfl, ?y15⟩) hS ?_
  case y15 => (intro w' hw'; have c0 := B2.c0 hw'; have c1 := B2.c1 hw'; go_simp)
  go_simp
  refine two_h (i := 8) (j := 10) (by kernel_rfl) rfl rfl (by kernel_rfl) (by kernel_rfl) (fun K hK' => ?_) (fun K hK' => ?_)
  · go_simp
    refine (grows_any x y (by omega) (by omega) _).mono ?_
    rintro e w1 ⟨rfl, b1⟩
    have hB1 := hBd.trans (b1.mono hBd.size)
    have hS1 := hS.below b1 hS.lt
    refine hK' _ _ hS1 ?_
    clear hK' K
    go_simp
    refine wpAnyH_take (i := 9) (v := .agg #[.int .i64 (min q y - x), .int .i64 (y - x), .int .i64 0, .int .i64 0]) rfl (by kernel_rfl) (by kernel_rfl) (by kernel_rfl) (fun c x w => hQ c x _ _ w) (Or.inl ⟨by rfl, ?y16⟩) hS1 ?_
    case y16 => (intro w' hw'; go_simp)
    go_simp
    refine want_h (i := 10) (by kernel_rfl) rfl (by kernel_rfl) fun K hK' => ?_
    go_simp
    have hS2 := hS1.turns (Turns.alloc Noth w1 (.cells #[.int .i64 0, .int .i64 0, .int .i64 0, .int .i64 0] 91)) (fun h => h)
    have hB2 := hB1.alloc hB1.size (.cells #[.int .i64 0, .int .i64 0, .int .i64 0, .int .i64 0] 91)
    have hZ := SH.new w1 0 0 0 0
    refine hK' _ _ hS2 ?_
    clear hK' K
    go_simp
    have hBB : W.heap.size ≤ w1.heap.size := hB1.size
    generalize w1.alloc (.cells #[.int .i64 0, .int .i64 0, .int .i64 0, .int .i64 0] 91) = w2 at *
    generalize w1.heap.size = B at *
    refine want_h (i := 11) (by kernel_rfl) rfl (by kernel_rfl) fun K hK' => ?_
    refine wp_store_row 91 _ _ rfl B #[.int .i64 (min q y - x), .int .i64 (y - x), .int .i64 0, .int .i64 0] rfl rfl 91 _ hZ.row (info91 _ _ _ _) rfl (one91 _ _ _ _) ?_
    have hT3 := Turns.setRow (X := fun b => b = B) w2 (r := B) rfl #[.int .i64 (min q y - x), .int .i64 (y - x), .int .i64 0, .int .i64 0]
    have hB3 : Below W.heap.size W (w2.setRow B #[.int .i64 (min q y - x), .int .i64 (y - x), .int .i64 0, .int .i64 0]) := hB2.trans (hT3.below hB2.size (fun k hk => by omega))
    exact hK' _ _ (hS2.turns hT3 (by omega)) (wpAnyH_done (by kernel_rfl) (hK B _ hBB ⟨setRow_heap _ _ _ _ 91 _ hZ.row⟩ hB3) _)
  · go_simp
    have hS1 := hS.turns (Turns.alloc Noth V (.cells #[.int .i64 0, .int .i64 0, .int .i64 0, .int .i64 0] 91)) (fun h => h)
    have hB1 := hBd.alloc hBd.size (.cells #[.int .i64 0, .int .i64 0, .int .i64 0, .int .i64 0] 91)
    have hZ1 := SH.new V 0 0 0 0
    have hBB : W.heap.size ≤ V.heap.size := hBd.size
    refine hK' _ _ hS1 ?_
    clear hK' K
    go_simp
    generalize V.alloc (.cells #[.int .i64 0, .int .i64 0, .int .i64 0, .int .i64 0] 91) = w1 at *
    generalize V.heap.size = B at *
    refine want_h (i := 8) (by kernel_rfl) rfl (by kernel_rfl) fun K hK' => ?_
    go_simp
    refine (grows_any x y (by omega) (by omega) _).mono ?_
    rintro e w2 ⟨rfl, b2⟩
    have hB2 := hB1.trans (b2.mono hB1.size)
    have hS2 := hS1.below b2 hS1.lt
    have hZ := hZ1.below b2 hZ1.lt
    refine hK' _ _ hS2 ?_
    clear hK' K
    go_simp
    refine wpAnyH_take (i := 9) (v := .agg #[.int .i64 (min q y - x), .int .i64 (y - x), .int .i64 0, .int .i64 0]) rfl (by kernel_rfl) (by kernel_rfl) (by kernel_rfl) (fun c x w => hQ c x _ _ w) (Or.inl ⟨by rfl, ?y17⟩) hS2 ?_
    case y17 => (intro w' hw'; go_simp)
    go_simp
    refine want_h (i := 11) (by kernel_rfl) rfl (by kernel_rfl) fun K hK' => ?_
    refine wp_store_row 91 _ _ rfl B #[.int .i64 (min q y - x), .int .i64 (y - x), .int .i64 0, .int .i64 0] rfl rfl 91 _ hZ.row (info91 _ _ _ _) rfl (one91 _ _ _ _) ?_
    have hT3 := Turns.setRow (X := fun b => b = B) w2 (r := B) rfl #[.int .i64 (min q y - x), .int .i64 (y - x), .int .i64 0, .int .i64 0]
    have hB3 : Below W.heap.size W (w2.setRow B #[.int .i64 (min q y - x), .int .i64 (y - x), .int .i64 0, .int .i64 0]) := hB2.trans (hT3.below hB2.size (fun k hk => by omega))
    exact hK' _ _ (hS2.turns hT3 (by omega)) (wpAnyH_done (by kernel_rfl) (hK B _ hBB ⟨setRow_heap _ _ _ _ 91 _ hZ.row⟩ hB3) _)
end Go.Proofs.Ytkhnfmdhdfpdhaa
