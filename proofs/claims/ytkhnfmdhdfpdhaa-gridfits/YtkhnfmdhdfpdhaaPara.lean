/-
  What is proved here: a paragraph in memory; loads of its parts.
-/
import Derived.Test.YtkhnfmdhdfpdhaaMetI
import Derived.Test.YtkhnfmdhdfpdhaaMetJ
import Derived.Test.YtkhnfmdhdfpdhaaMetG
import Derived.Test.YtkhnfmdhdfpdhaaMetP
import Derived.OrdersHeld
import Derived.BigQuiet
namespace Go.Proofs.Ytkhnfmdhdfpdhaa
open Go.RowKit Go.Shelf

theorem run_loadVar_part {P : Program} (w : World) (g o : Nat) (ty : TypeId) (cs : List Value) (d : TypeDesc) (hc : ∀ j v, cs[j]? = some v → w.cell? ⟨g, o + j, none⟩ = some v)
    (hu : P.underlying ty = some d) (hd : (match d with | .struct _ | .array _ _ => true | _ => false) = true) (hi : (P.info? ty).map (·.size) = some cs.length) :
    (loadVar ty ⟨g, o, none⟩).run P w = .ok (.agg cs.toArray) w := by
  have hl : (loadCells ⟨g, o, none⟩ cs.length).run P w = .ok cs.toArray w :=
    run_loadCells_list (P := P) w ⟨g, o, none⟩ cs (fun j v hv => by rw [addr_add]; exact hc j v hv)
  cases hq : P.info? ty with
  | none => simp [hq] at hi
  | some i =>
    have hs : i.size = cs.length := by simpa [hq] using hi
    have hagg : (isAgg ty).run P w = .ok true w := by
      unfold isAgg
      rw [Sem.run_bind, run_underlying hu w]
      cases d <;> simp_all
    simp [loadVar, Sem.run_bind, hagg, sizeOf, typeInfo, hq, hs, hl]
theorem wp_load_part {P : Program} {oi : Oper} {a : Act} {w : World} {K : Act → World → Prop} {Q : Exit → Act → World → Prop} (ty : TypeId) (x : Operand) (ho : oi.op = .load ty x)
    (g o : Nat) (hx : a.eval x = .pointer (some ⟨g, o, none⟩)) (cs : List Value) (d : TypeDesc) (hc : ∀ j v, cs[j]? = some v → w.cell? ⟨g, o + j, none⟩ = some v)
    (hu : P.underlying ty = some d) (hd : (match d with | .struct _ | .array _ _ => true | _ => false) = true) (hi : (P.info? ty).map (·.size) = some cs.length)
    (h : K (a.put oi.dst (.agg cs.toArray)) w) : oi.wp P a w K Q := by
  unfold Oper.wp execOp
  simp only [ho, hx, Instr.loadAt, Instr.sureAddr, Sem.run_bind, Sem.run_pure, Result.andThen_ok, run_loadVar_part w g o ty cs d hc hu hd hi]
  exact h
theorem wpList_load_part {P : Program} {ops : Array Oper} {rest : List Oper} {oi : Oper} {a : Act} {w : World} {Q : Exit → Act → World → Prop} (ty : TypeId) (x : Operand) (ho : oi.op = .load ty x) (hw : Region.wanted oi (yielded ops a.tmps) = true)
    (g o : Nat) (hx : a.eval x = .pointer (some ⟨g, o, none⟩)) (cs : List Value) (d : TypeDesc) (hc : ∀ j v, cs[j]? = some v → w.cell? ⟨g, o + j, none⟩ = some v)
    (hu : P.underlying ty = some d) (hd : (match d with | .struct _ | .array _ _ => true | _ => false) = true) (hi : (P.info? ty).map (·.size) = some cs.length)
    (h : wpList P ops Q rest (a.put oi.dst (.agg cs.toArray)) w) : wpList P ops Q (oi :: rest) a w :=
  BigFrame.wpList_want hw fun _ hK => wp_load_part ty x ho g o hx cs d hc hu hd hi (hK _ _ h)

theorem below_drewN {n : Nat} {w w' : World} (h : Below n w w') (q : Nat) : Below n w (w'.drewN q) := ⟨h.1, h.2, h.3, h.4, h.5⟩

/-- A paragraph: its text, its properties, its label, its spans, its marks. -/
structure Pa where
  t : ByteArray
  sv : Value
  p : Pr
  lb : ByteArray
  mv : Value
  sp : List Sp
  ms : List ByteArray
def paC (a : Pa) : Array Value := #[.string a.t, a.sv, .int .i64 a.p.p0, .int .i64 a.p.p1, .int .i64 a.p.p2, .int .i64 a.p.p3, .int .i64 a.p.p4, .int .i64 a.p.p5, .int .i64 a.p.p6, .int .i64 a.p.p7, .int .i64 a.p.p8, .int .i64 a.p.p9, .int .i64 a.p.p10, .int .i64 a.p.p11, .int .i64 a.p.p12, .int .i64 a.p.p13, .int .i64 a.p.p14, .int .i64 a.p.p15, .int .i64 a.p.p16, .string a.lb, a.mv]
def paV (a : Pa) : Value := .agg (paC a)
/-- A paragraph's lists, in memory. -/
structure PaAt (W : World) (a : Pa) : Prop where
  sp : RecAt 4 spL W a.sv a.sp
  ms : StrsAt W a.mv a.ms
  few : a.sp.length ≤ 9223372036854775807 ∧ a.ms.length ≤ 9223372036854775807
theorem PaAt.below {W W' : World} {n : Nat} {a : Pa} (h : PaAt W a) (hb : Below n W W') (hn : W.heap.size ≤ n) : PaAt W' a := ⟨h.sp.below hb hn, h.ms.below hb hn, h.few⟩
/-- A paragraph's box. -/
structure PB (w : World) (B : Nat) (a : Pa) : Prop where
  row : w.heap[B]? = some (.cells (paC a) 39 (0, 0))
theorem PB.lt {w : World} {B : Nat} {a : Pa} (h : PB w B a) : B < w.heap.size := (Array.getElem?_eq_some_iff.1 h.row).1
theorem PB.cell {w : World} {B : Nat} {a : Pa} (h : PB w B a) {k : Nat} {v : Value} (hk : (paC a)[k]? = some v) : w.cell? ⟨B, k, none⟩ = some v := by
  rw [Lib.cell_of_heap h.row, hk]
theorem PB.below {w w' : World} {n B : Nat} {a : Pa} (h : PB w B a) (hb : Below n w w') (hn : B < n) : PB w' B a := ⟨(hb.block B hn).trans h.row⟩
theorem PB.new (w : World) (a : Pa) : PB (w.alloc (.cells (paC a) 39)) w.heap.size a := ⟨World.alloc_heap_new w _⟩
theorem PB.c0 {w : World} {B : Nat} {a : Pa} (h : PB w B a) : w.cell? ⟨B, 0, none⟩ = some (.string a.t) := h.cell rfl
theorem PB.c1 {w : World} {B : Nat} {a : Pa} (h : PB w B a) : w.cell? ⟨B, 1, none⟩ = some a.sv := h.cell rfl
theorem PB.c2 {w : World} {B : Nat} {a : Pa} (h : PB w B a) : w.cell? ⟨B, 2, none⟩ = some (.int .i64 a.p.p0) := h.cell rfl
theorem PB.c19 {w : World} {B : Nat} {a : Pa} (h : PB w B a) : w.cell? ⟨B, 19, none⟩ = some (.string a.lb) := h.cell rfl
theorem PB.c20 {w : World} {B : Nat} {a : Pa} (h : PB w B a) : w.cell? ⟨B, 20, none⟩ = some a.mv := h.cell rfl
theorem PB.pr {w : World} {B : Nat} {a : Pa} (h : PB w B a) : ∀ j v, (prL a.p)[j]? = some v → w.cell? ⟨B, 2 + j, none⟩ = some v := fun j v hv => by
  refine h.cell ?_
  have hj : j < 17 := (List.getElem?_eq_some_iff.1 hv).1
  have e : (paC a)[2 + j]? = (prL a.p)[j]? := by
    have hj' : j = 0 ∨ j = 1 ∨ j = 2 ∨ j = 3 ∨ j = 4 ∨ j = 5 ∨ j = 6 ∨ j = 7 ∨ j = 8 ∨ j = 9 ∨ j = 10 ∨ j = 11 ∨ j = 12 ∨ j = 13 ∨ j = 14 ∨ j = 15 ∨ j = 16 := by omega
    rcases hj' with rfl | rfl | rfl | rfl | rfl | rfl | rfl | rfl | rfl | rfl | rfl | rfl | rfl | rfl | rfl | rfl | rfl <;> rfl
  rw [e, hv]
theorem info34 (a : Pa) : (Try.prog.info? 39).map (·.size) = some (paC a).size := by show _ = some 21; kernel_rfl
theorem info31 (p : Pr) : (Try.prog.info? 37).map (·.size) = some (prL p).length := by show _ = some 17; kernel_rfl

/-- May the marks be? -/
def markB (t : ByteArray) (l : List ByteArray) : Bool := decide (l.length = refN t t.size) && l.all (fun m => standB m 1 8)

set_option maxRecDepth 100000 in
set_option maxHeartbeats 2000000 in
theorem mayMark_any (a : Pa) (ht : a.t.size ≤ 4096) (w : World) (hA : PaAt w a) :
    Calls Try.prog 90 #[paV a] w fun e w' => e = .returned (.bool (markB a.t a.ms)) ∧ Below w.heap.size w w' := by
  have hB := (Below.refl w.heap.size w).alloc (Nat.le_refl _) (Obj.cells (paC a) 39)
  have hP := PB.new w a
  have c0 := hP.c0; have c20 := hP.c20
  have hM := hA.ms.below hB (Nat.le_refl _)
  have hfew := hA.few.2
  have hcn := count_any a.t
  have hrl := refN_le a.t a.t.size
  clear hA hP
  unfold paV
  generalize hw1 : w.alloc (.cells (paC a) 39) = w1 at *
  obtain ⟨ad, cap, hv, h2⟩ := hM.ex
  rw [hv] at c20
  have hN0 : Hid (a.ms.length ≠ refN a.t a.t.size → markB a.t a.ms = false) := fun h => by unfold markB; rw [decide_eq_false h, Bool.false_and]
  have hN : Hid (∀ k (hk : k < a.ms.length), standB a.ms[k] 1 8 = false → markB a.t a.ms = false) := fun k hk e => by
    unfold markB
    rw [List.all_eq_false.2 ⟨a.ms[k], List.getElem_mem hk, by simp [e]⟩, Bool.and_false]
  have hY : Hid (a.ms.length = refN a.t a.t.size → (∀ k (hk : k < a.ms.length), standB a.ms[k] 1 8 = true) → markB a.t a.ms = true) := fun h0 h => by
    unfold markB
    rw [decide_eq_true h0, Bool.true_and]
    exact List.all_eq_true.2 fun b hb => by
      obtain ⟨k, hk, rfl⟩ := List.getElem_of_mem hb
      exact h k hk
  generalize markB a.t a.ms = r at hN0 hN hY ⊢
  clear hv hM
  generalize a.ms = l at *
  generalize refN a.t a.t.size = m at *
  have ht0 : Hid (a.t.size ≤ 4096) := ht
  clear ht
  generalize a.t = t at *
  go_enter Try.func90, Try.ntmps90
  go_wp2_with fail
  have q1 : ((l.length : Int) != (m : Int)) = !decide (l.length = m) := by
    by_cases h : l.length = m
    · simp [h]
    · have : ¬ (l.length : Int) = m := by omega
      simp [h, this]
  by_cases hlm : l.length = m
  · rw [decide_eq_true hlm] at q1
    have hY' := hY.out hlm
    have hY2 : Hid ((∀ k (hk : k < l.length), standB l[k] 1 8 = true) → r = true) := hY'
    have hm4 : Hid (l.length ≤ 4096) := by have := ht0.out; show l.length ≤ 4096; omega
    clear hY hY' hN0 hlm
    go_quiet (first | (go_at_call 103; refine Calls.quiet_of_same (hcn _)))
    rename_i nq
    have hB1 : Below w.heap.size w (w1.drewN nq) := below_drewN hB _
    have e0 : (w1.drewN nq).cell? ⟨w.heap.size, 20, none⟩ = some (.slice ad l.length cap) := c20
    have hs1 : Hid (w1.heap.size = (w1.drewN nq).heap.size) := rfl
    have h3 : Hid (∀ (i : Nat) (h : i < l.length), ∃ g o, ad = some ⟨g, o, none⟩ ∧ g < (w1.drewN nq).heap.size ∧ (w1.drewN nq).cell? ⟨g, o + i, none⟩ = some (.string l[i])) := fun i h => by
      rcases h2 with h2 | ⟨g, o, e, hg, hc⟩
      · rw [h2] at h; simp at h
      · exact ⟨g, o, e, hg, hc i h⟩
    clear h2 hB c0 c20 hs1
    generalize w1.drewN nq = w2 at *
    go_wp2_with fail
    go_loopw [15] (fun i wr => ∃ k : Nat, k ≤ l.length ∧ i = .int .i64 k ∧ wr = w2 ∧ Hid (∀ j (hj : j < l.length), j < k → standB l[j] 1 8 = true)) (fun i _ => l.length - (intOf i).toNat)
    case atStart => exact ⟨0, by omega, rfl, rfl, fun j _ hj => by omega⟩
    case round =>
      obtain ⟨k, hk, rfl, rfl, hall⟩ := hrel
      by_cases hlt : k < l.length
      · obtain ⟨g, o, rfl, hg, hc⟩ := h3.out k hlt
        have hlt' : (k : Int) < l.length := by omega
        have hms := mayStand_any l[k] 1 8 (by omega) wr
        cases hv : standB l[k] 1 8
        · have hn := hN.out k hlt hv
          rw [hv] at hms
          subst hn
          clear hN hY2 hall hv h3
          generalize l[k] = u at *
          go_wp2_with (go_at_call 89; refine hms.mono ?_; rintro e w' ⟨rfl, hww⟩; subst w')
          go_ret
          exact ⟨rfl, hB1⟩
        · have hyes : Hid (∀ j (hj : j < l.length), j < k + 1 → standB l[j] 1 8 = true) := fun j hj hjk => by
            by_cases h : j < k
            · exact hall.out j hj h
            · obtain rfl : j = k := by omega
              exact hv
          rw [hv] at hms
          clear hN hY2 hall hv h3
          generalize l[k] = u at *
          go_wp2_with (go_at_call 89; refine hms.mono ?_; rintro e w' ⟨rfl, hww⟩; subst w')
          go_roundw
          case rel => exact ⟨k + 1, by omega, by simp, by first | rfl | trivial, hyes⟩
          case measure => simp [intOf]; omega
      · have hn := hY2.out (fun j hj => hall.out j hj (by omega))
        have hge : ¬ (k : Int) < l.length := by omega
        clear hN hY2 hall h3
        subst hn
        go_wp2_with fail
        go_ret
        exact ⟨rfl, hB1⟩
  · rw [decide_eq_false hlm] at q1
    have hn := hN0.out hlm
    subst hn
    clear hN0 hN hY hlm h2
    go_quiet (first | (go_at_call 103; refine Calls.quiet_of_same (hcn _)))
    go_wp2_with fail
    go_ret
    exact ⟨rfl, below_drewN hB _⟩

end Go.Proofs.Ytkhnfmdhdfpdhaa
