/-
  What is proved here: a paragraph in memory; loads of its parts.
  What is proved here: what kind, isAccent, end, refuse, refusePlace of cluster answer, and the document's Kind, letter, accent, Wrong.
  What is proved here: what end, refuse, refusePlace of cluster answer, and the document's Wrong.
  What is proved here: clusters' iterator goes through the clusters of a text, one round a cluster.
  What is proved here: what Split of cluster tells of any text.
-/
import Derived.Test.YtlgcnbomfhmjiaaGreatDoorS5
import Derived.OrdersHeld
import Derived.BigQuiet
import Derived.WalkKit
import Derived.WalkSpells
import Derived.LoopN
import Derived.Test.YtlgcnbomfhmjiaaGreatDoorS1
import Derived.RangeFuncNested
import Derived.RangeFuncBound
import Derived.RangeFuncCalls
import Derived.RangeFuncLeaves
import Derived.Shelf.Abstract
import Derived.Shelf.RegionOpen
import Derived.OwnWalkIn
import Derived.TacticsInMore
import Derived.LoopNIn
import Derived.LoopIn
import Derived.Lib.Builder
import Derived.Maps.AppendAt
namespace Go.Proofs.YtlgcnbomfhmjiaaGreatDoor
open Go.RowKit Go.Shelf
set_option maxRecDepth 100000
set_option maxHeartbeats 2000000

theorem run_loadVar_part {P : Program} (w : World) (g o : Nat) (ty : TypeId) (cs : List Value) (d : TypeDesc) (hc : ∀ j v,cs[j]? = some v → w.cell? ⟨g,o + j,none⟩ = some v)
  (hu : P.underlying ty = some d) (hd : (match d with | .struct _ | .array _ _ => true | _ => false) = true) (hi : (P.info? ty).map (·.size) = some cs.length) :
  (loadVar ty ⟨g,o,none⟩).run P w = .ok (.agg cs.toArray) w := by
 have hl : (loadCells ⟨g,o,none⟩ cs.length).run P w = .ok cs.toArray w :=
  run_loadCells_list (P := P) w ⟨g,o,none⟩ cs (fun j v hv => by rw [addr_add]; exact hc j v hv)
 cases hq : P.info? ty with
 | none => simp [hq] at hi
 | some i =>
  have hs : i.size = cs.length := by simpa [hq] using hi
  have hagg : (isAgg ty).run P w = .ok true w := by
   unfold isAgg
   rw [Sem.run_bind,run_underlying hu w]
   cases d <;> simp_all
  simp [loadVar,Sem.run_bind,hagg,sizeOf,typeInfo,hq,hs,hl]
theorem wp_load_part {P : Program} {oi : Oper} {a : Act} {w : World} {K : Act → World → Prop} {Q : Exit → Act → World → Prop} (ty : TypeId) (x : Operand) (ho : oi.op = .load ty x)
  (g o : Nat) (hx : a.eval x = .pointer (some ⟨g,o,none⟩)) (cs : List Value) (d : TypeDesc) (hc : ∀ j v,cs[j]? = some v → w.cell? ⟨g,o + j,none⟩ = some v)
  (hu : P.underlying ty = some d) (hd : (match d with | .struct _ | .array _ _ => true | _ => false) = true) (hi : (P.info? ty).map (·.size) = some cs.length)
  (h : K (a.put oi.dst (.agg cs.toArray)) w) : oi.wp P a w K Q := by
 unfold Oper.wp execOp
 simp only [ho,hx,Instr.loadAt,Instr.sureAddr,Sem.run_bind,Sem.run_pure,Result.andThen_ok,run_loadVar_part w g o ty cs d hc hu hd hi]
 exact h
theorem wpList_load_part {P : Program} {ops : Array Oper} {rest : List Oper} {oi : Oper} {a : Act} {w : World} {Q : Exit → Act → World → Prop} (ty : TypeId) (x : Operand) (ho : oi.op = .load ty x) (hw : Region.wanted oi (yielded ops a.tmps) = true)
  (g o : Nat) (hx : a.eval x = .pointer (some ⟨g,o,none⟩)) (cs : List Value) (d : TypeDesc) (hc : ∀ j v,cs[j]? = some v → w.cell? ⟨g,o + j,none⟩ = some v)
  (hu : P.underlying ty = some d) (hd : (match d with | .struct _ | .array _ _ => true | _ => false) = true) (hi : (P.info? ty).map (·.size) = some cs.length)
  (h : wpList P ops Q rest (a.put oi.dst (.agg cs.toArray)) w) : wpList P ops Q (oi :: rest) a w :=
 BigFrame.wpList_want hw fun _ hK => wp_load_part ty x ho g o hx cs d hc hu hd hi (hK _ _ h)

theorem below_drewN {n : Nat} {w w' : World} (h : Below n w w') (q : Nat) : Below n w (w'.drewN q) := ⟨h.1,h.2,h.3,h.4,h.5⟩

structure Pa where
 t : ByteArray
 sv : Value
 p : Pr
 lb : ByteArray
 mv : Value
 sp : List Sp
 ms : List ByteArray
def paC (a : Pa) : Array Value := #[.string a.t,a.sv,.int .i64 a.p.p0,.int .i64 a.p.p1,.int .i64 a.p.p2,.int .i64 a.p.p3,.int .i64 a.p.p4,.int .i64 a.p.p5,.int .i64 a.p.p6,.int .i64 a.p.p7,.int .i64 a.p.p8,.int .i64 a.p.p9,.int .i64 a.p.p10,.int .i64 a.p.p11,.int .i64 a.p.p12,.int .i64 a.p.p13,.int .i64 a.p.p14,.int .i64 a.p.p15,.int .i64 a.p.p16,.string a.lb,a.mv]
def paV (a : Pa) : Value := .agg (paC a)
structure PaAt (W : World) (a : Pa) : Prop where
 sp : RecAt 4 spL W a.sv a.sp
 ms : StrsAt W a.mv a.ms
 few : a.sp.length ≤ 9223372036854775807 ∧ a.ms.length ≤ 9223372036854775807
theorem PaAt.below {W W' : World} {n : Nat} {a : Pa} (h : PaAt W a) (hb : Below n W W') (hn : W.heap.size ≤ n) : PaAt W' a := ⟨h.sp.below hb hn,h.ms.below hb hn,h.few⟩
structure PB (w : World) (B : Nat) (a : Pa) : Prop where
 row : w.heap[B]? = some (.cells (paC a) 36 (0,0))
theorem PB.lt {w : World} {B : Nat} {a : Pa} (h : PB w B a) : B < w.heap.size := (Array.getElem?_eq_some_iff.1 h.row).1
theorem PB.cell {w : World} {B : Nat} {a : Pa} (h : PB w B a) {k : Nat} {v : Value} (hk : (paC a)[k]? = some v) : w.cell? ⟨B,k,none⟩ = some v := by
 rw [Lib.cell_of_heap h.row,hk]
theorem PB.below {w w' : World} {n B : Nat} {a : Pa} (h : PB w B a) (hb : Below n w w') (hn : B < n) : PB w' B a := ⟨(hb.block B hn).trans h.row⟩
theorem PB.new (w : World) (a : Pa) : PB (w.alloc (.cells (paC a) 36)) w.heap.size a := ⟨World.alloc_heap_new w _⟩
theorem PB.c0 {w : World} {B : Nat} {a : Pa} (h : PB w B a) : w.cell? ⟨B,0,none⟩ = some (.string a.t) := h.cell rfl
theorem PB.c1 {w : World} {B : Nat} {a : Pa} (h : PB w B a) : w.cell? ⟨B,1,none⟩ = some a.sv := h.cell rfl
theorem PB.c2 {w : World} {B : Nat} {a : Pa} (h : PB w B a) : w.cell? ⟨B,2,none⟩ = some (.int .i64 a.p.p0) := h.cell rfl
theorem PB.c19 {w : World} {B : Nat} {a : Pa} (h : PB w B a) : w.cell? ⟨B,19,none⟩ = some (.string a.lb) := h.cell rfl
theorem PB.c20 {w : World} {B : Nat} {a : Pa} (h : PB w B a) : w.cell? ⟨B,20,none⟩ = some a.mv := h.cell rfl
theorem PB.pr {w : World} {B : Nat} {a : Pa} (h : PB w B a) : ∀ j v,(prL a.p)[j]? = some v → w.cell? ⟨B,2 + j,none⟩ = some v := fun j v hv => by
 refine h.cell ?_
 have hj : j < 17 := (List.getElem?_eq_some_iff.1 hv).1
 have e : (paC a)[2 + j]? = (prL a.p)[j]? := by
  have hj' : j = 0 ∨ j = 1 ∨ j = 2 ∨ j = 3 ∨ j = 4 ∨ j = 5 ∨ j = 6 ∨ j = 7 ∨ j = 8 ∨ j = 9 ∨ j = 10 ∨ j = 11 ∨ j = 12 ∨ j = 13 ∨ j = 14 ∨ j = 15 ∨ j = 16 := by omega
  rcases hj' with rfl | rfl | rfl | rfl | rfl | rfl | rfl | rfl | rfl | rfl | rfl | rfl | rfl | rfl | rfl | rfl | rfl <;> rfl
 rw [e,hv]
theorem info34 (a : Pa) : (Tryz.prog.info? 36).map (·.size) = some (paC a).size := by show _ = some 21; kernel_rfl
theorem info31 (p : Pr) : (Tryz.prog.info? 33).map (·.size) = some (prL p).length := by show _ = some 17; kernel_rfl

def markB (t : ByteArray) (l : List ByteArray) : Bool := decide (l.length = refN t t.size) && l.all (fun m => standB m 1 8)

theorem mayMark_any (a : Pa) (ht : a.t.size ≤ 4096) (w : World) (hA : PaAt w a) :
  Calls Tryz.prog 177 #[paV a] w fun e w' => e = .returned (.bool (markB a.t a.ms)) ∧ Below w.heap.size w w' := by
 have hB := (Below.refl w.heap.size w).alloc (Nat.le_refl _) (Obj.cells (paC a) 36)
 have hP := PB.new w a
 have c0 := hP.c0; have c20 := hP.c20
 have hM := hA.ms.below hB (Nat.le_refl _)
 have hfew := hA.few.2
 have hcn := count_any a.t
 have hrl := refN_le a.t a.t.size
 clear hA hP
 unfold paV
 generalize hw1 : w.alloc (.cells (paC a) 36) = w1 at *
 obtain ⟨ad,cap,hv,h2⟩ := hM.ex
 rw [hv] at c20
 have hN0 : Hid (a.ms.length ≠ refN a.t a.t.size → markB a.t a.ms = false) := fun h => by unfold markB; rw [decide_eq_false h,Bool.false_and]
 have hN : Hid (∀ k (hk : k < a.ms.length),standB a.ms[k] 1 8 = false → markB a.t a.ms = false) := fun k hk e => by
  unfold markB
  rw [List.all_eq_false.2 ⟨a.ms[k],List.getElem_mem hk,by simp [e]⟩,Bool.and_false]
 have hY : Hid (a.ms.length = refN a.t a.t.size → (∀ k (hk : k < a.ms.length),standB a.ms[k] 1 8 = true) → markB a.t a.ms = true) := fun h0 h => by
  unfold markB
  rw [decide_eq_true h0,Bool.true_and]
  exact List.all_eq_true.2 fun b hb => by
   obtain ⟨k,hk,rfl⟩ := List.getElem_of_mem hb
   exact h k hk
 generalize markB a.t a.ms = r at hN0 hN hY ⊢
 clear hv hM
 generalize a.ms = l at *
 generalize refN a.t a.t.size = m at *
 have ht0 : Hid (a.t.size ≤ 4096) := ht
 clear ht
 generalize a.t = t at *
 go_enter Tryz.func177,Tryz.ntmps177
 go_wp2_with fail
 have q1 : ((l.length : Int) != (m : Int)) = !decide (l.length = m) := by
  by_cases h : l.length = m
  ·simp [h]
  ·have : ¬ (l.length : Int) = m := by omega
   simp [h,this]
 by_cases hlm : l.length = m
 ·rw [decide_eq_true hlm] at q1
  have hY' := hY.out hlm
  have hY2 : Hid ((∀ k (hk : k < l.length),standB l[k] 1 8 = true) → r = true) := hY'
  have hm4 : Hid (l.length ≤ 4096) := by have := ht0.out; show l.length ≤ 4096; omega
  clear hY hY' hN0 hlm
  go_quiet (first | (go_at_call 222; refine Calls.quiet_of_same (hcn _)))
  rename_i nq
  have hB1 : Below w.heap.size w (w1.drewN nq) := below_drewN hB _
  have e0 : (w1.drewN nq).cell? ⟨w.heap.size,20,none⟩ = some (.slice ad l.length cap) := c20
  have hs1 : Hid (w1.heap.size = (w1.drewN nq).heap.size) := rfl
  have h3 : Hid (∀ (i : Nat) (h : i < l.length),∃ g o,ad = some ⟨g,o,none⟩ ∧ g < (w1.drewN nq).heap.size ∧ (w1.drewN nq).cell? ⟨g,o + i,none⟩ = some (.string l[i])) := fun i h => by
   rcases h2 with h2 | ⟨g,o,e,hg,hc⟩
   ·rw [h2] at h; simp at h
   ·exact ⟨g,o,e,hg,hc i h⟩
  clear h2 hB c0 c20 hs1
  generalize w1.drewN nq = w2 at *
  go_wp2_with fail
  go_loopw [15] (fun i wr => ∃ k : Nat,k ≤ l.length ∧ i = .int .i64 k ∧ wr = w2 ∧ Hid (∀ j (hj : j < l.length),j < k → standB l[j] 1 8 = true)) (fun i _ => l.length - (intOf i).toNat)
  case atStart => exact ⟨0,by omega,rfl,rfl,fun j _ hj => by omega⟩
  case round =>
   obtain ⟨k,hk,rfl,rfl,hall⟩ := hrel
   by_cases hlt : k < l.length
   ·obtain ⟨g,o,rfl,hg,hc⟩ := h3.out k hlt
    have hlt' : (k : Int) < l.length := by omega
    have hms := mayStand_any l[k] 1 8 (by omega) wr
    cases hv : standB l[k] 1 8
    ·have hn := hN.out k hlt hv
     rw [hv] at hms
     subst hn
     clear hN hY2 hall hv h3
     generalize l[k] = u at *
     go_wp2_with (go_at_call 176; refine hms.mono ?_; rintro e w' ⟨rfl,hww⟩; subst w')
     go_ret
     exact ⟨rfl,hB1⟩
    ·have hyes : Hid (∀ j (hj : j < l.length),j < k + 1 → standB l[j] 1 8 = true) := fun j hj hjk => by
      by_cases h : j < k
      ·exact hall.out j hj h
      ·obtain rfl : j = k := by omega
       exact hv
     rw [hv] at hms
     clear hN hY2 hall hv h3
     generalize l[k] = u at *
     go_wp2_with (go_at_call 176; refine hms.mono ?_; rintro e w' ⟨rfl,hww⟩; subst w')
     go_roundw
     case rel => exact ⟨k + 1,by omega,by simp,by first | rfl | trivial,hyes⟩
     case measure => simp [intOf]; omega
   ·have hn := hY2.out (fun j hj => hall.out j hj (by omega))
    have hge : ¬ (k : Int) < l.length := by omega
    clear hN hY2 hall h3
    subst hn
    go_wp2_with fail
    go_ret
    exact ⟨rfl,hB1⟩
 ·rw [decide_eq_false hlm] at q1
  have hn := hN0.out hlm
  subst hn
  clear hN0 hN hY hlm h2
  go_quiet (first | (go_at_call 222; refine Calls.quiet_of_same (hcn _)))
  go_wp2_with fail
  go_ret
  exact ⟨rfl,below_drewN hB _⟩

end Go.Proofs.YtlgcnbomfhmjiaaGreatDoor

namespace Go.Proofs.YtlgcnbomfhmjiaaGreatDoor
open Go.RowKit Go.Shelf
set_option maxHeartbeats 2000000

theorem cases_kind (x : Int) : x < 1 ∨ x = 1 ∨ x = 2 ∨ x = 3 ∨ (3 < x ∧ x < 9) ∨ x = 9 ∨ (9 < x ∧ x < 31) ∨ x = 31 ∨ x = 32 ∨ (32 < x ∧ x < 65) ∨ (65 ≤ x ∧ x ≤ 90) ∨ (90 < x ∧ x < 97) ∨ (97 ≤ x ∧ x ≤ 122) ∨ (122 < x ∧ x ≤ 126) ∨ 126 < x := by omega

theorem kind_any (x : Int) (w : World) : Calls Tryz.prog 259 #[.int .u8 x] w fun e w' => e = .returned (.int .i64 (kindI x)) ∧ w' = w := by
 have hv : kindI x = (if (97 ≤ x ∧ x ≤ 122) ∨ (65 ≤ x ∧ x ≤ 90) then 1 else if x = 32 then 3 else if 32 < x ∧ x ≤ 126 then 2 else if x = 9 then 4 else if x = 31 then 5
  else if x = 1 then 6 else if x = 2 then 7 else if x = 3 then 8 else 0) := rfl
 rcases cases_kind x with h | h | h | h | h | h | h | h | h | h | h | h | h | h | h
 all_goals
  first
   | (have e1 : kindI x = 1 := by rw [hv]; repeat (first | rw [if_neg (by omega)] | rw [if_pos (by omega)])
      rw [e1])
   | (have e1 : kindI x = 3 := by rw [hv]; repeat (first | rw [if_neg (by omega)] | rw [if_pos (by omega)])
      rw [e1])
   | (have e1 : kindI x = 2 := by rw [hv]; repeat (first | rw [if_neg (by omega)] | rw [if_pos (by omega)])
      rw [e1])
   | (have e1 : kindI x = 4 := by rw [hv]; repeat (first | rw [if_neg (by omega)] | rw [if_pos (by omega)])
      rw [e1])
   | (have e1 : kindI x = 5 := by rw [hv]; repeat (first | rw [if_neg (by omega)] | rw [if_pos (by omega)])
      rw [e1])
   | (have e1 : kindI x = 6 := by rw [hv]; repeat (first | rw [if_neg (by omega)] | rw [if_pos (by omega)])
      rw [e1])
   | (have e1 : kindI x = 7 := by rw [hv]; repeat (first | rw [if_neg (by omega)] | rw [if_pos (by omega)])
      rw [e1])
   | (have e1 : kindI x = 8 := by rw [hv]; repeat (first | rw [if_neg (by omega)] | rw [if_pos (by omega)])
      rw [e1])
   | (have e1 : kindI x = 0 := by rw [hv]; repeat (first | rw [if_neg (by omega)] | rw [if_pos (by omega)])
      rw [e1])
  clear hv
  go_enter Tryz.func259,Tryz.ntmps259
  go_wp2
  all_goals (go_ret; first | exact ⟨rfl,rfl⟩ | (exfalso; omega))

theorem isAccent_any (x : Int) (w : World) : Calls Tryz.prog 286 #[.int .u8 x] w fun e w' => e = .returned (.bool (accB x)) ∧ w' = w := by
 have hv : accB x = decide (x = 94 ∨ x = 96 ∨ x = 126) := rfl
 have hc : x < 94 ∨ x = 94 ∨ x = 95 ∨ x = 96 ∨ (96 < x ∧ x < 126) ∨ x = 126 ∨ 126 < x := by omega
 rcases hc with h | h | h | h | h | h | h
 all_goals
  first
   | (have e1 : accB x = true := by rw [hv]; simp; omega
      rw [e1])
   | (have e1 : accB x = false := by rw [hv]; simp; omega
      rw [e1])
  clear hv
  go_enter Tryz.func286,Tryz.ntmps286
  go_wp2
  all_goals (go_ret; first | exact ⟨rfl,rfl⟩ | (exfalso; omega))

end Go.Proofs.YtlgcnbomfhmjiaaGreatDoor

namespace Go.Proofs.YtlgcnbomfhmjiaaGreatDoor
open Go.RowKit Go.Shelf
set_option maxRecDepth 100000
set_option maxHeartbeats 1000000

theorem endN_is {t : ByteArray} {k j : Nat} (h1 : kindI (bt t k) = 1) (hj : 1 ≤ j ∧ j ≤ 3) (ha : ∀ m,1 ≤ m → m < j → accB (bt t (k + m)) = true) (hz : j = 3 ∨ accB (bt t (k + j)) = false) : endN t k = k + j := by
 unfold endN
 rw [if_pos h1]
 have h3 : j = 1 ∨ j = 2 ∨ j = 3 := by omega
 rcases h3 with rfl | rfl | rfl
 ·rw [if_neg (by rcases hz with h | h; omega; rw [h]; simp)]
 ·rw [if_pos (ha 1 (by omega) (by omega)),if_neg (by rcases hz with h | h; omega; rw [h]; simp)]
 ·rw [if_pos (ha 1 (by omega) (by omega)),if_pos (ha 2 (by omega) (by omega))]

theorem end_any (t : ByteArray) (k : Nat) (hk : k < t.size) (ht : t.size ≤ 4096) (w : World) : Calls Tryz.prog 261 #[.string t,.int .i64 k] w fun e w' => e = .returned (.int .i64 (endN t k : Nat)) ∧ w' = w := by
 have hb := bt_eq hk
 have hK := kind_any
 have hA := isAccent_any
 by_cases h1 : kindI (bt t k) = 1
 ·have hE : Hid (∀ j,(1 ≤ j ∧ j ≤ 3) → (∀ m,1 ≤ m → m < j → accB (bt t (k + m)) = true) → (j = 3 ∨ accB (bt t (k + j)) = false) → endN t k = k + j) := fun j a b c => endN_is h1 a b c
  rw [hb] at h1
  clear hb
  generalize hn : endN t k = n at hE ⊢
  clear hn
  go_enter Tryz.func261,Tryz.ntmps261
  go_wp2_with (go_at_call 259; refine (hK _ _).mono ?_; rintro e w' ⟨rfl,hww⟩; subst w')
  go_loopw [5] (fun i wr => ∃ j : Nat,1 ≤ j ∧ j ≤ 3 ∧ k + j ≤ t.size ∧ i = .int .i64 (k + j : Nat) ∧ wr = w ∧ Hid (∀ m,1 ≤ m → m < j → accB (bt t (k + m)) = true)) (fun i _ => t.size - (intOf i).toNat)
  case atStart => exact ⟨1,by omega,by omega,by omega,by simp,rfl,fun m _ _ => by omega⟩
  case round =>
   obtain ⟨j,hj1,hj3,hjs,rfl,rfl,hall⟩ := hrel
   by_cases hlt : k + j < t.size
   ·have hbj := bt_eq hlt
    by_cases h3 : j = 3
    ·have hn := hE.out j ⟨hj1,hj3⟩ hall.out (.inl h3)
     clear hE hall hbj
     have hd : ((k + j : Nat) : Int) - k = 3 := by omega
     go_wp2_with fail
     go_ret
     exact ⟨by first | rfl | (rw [hn]; done) | (rw [hn]; rfl),rfl⟩
    ·have hd : ((k + j : Nat) : Int) - k ≤ 2 := by omega
     cases hv : accB (bt t (k + j))
     ·have hn := hE.out j ⟨hj1,hj3⟩ hall.out (.inr hv)
      rw [hbj] at hv
      clear hE hall hbj
      go_wp2_with (go_at_call 286; refine (hA _ _).mono ?_; rw [hv]; rintro e w' ⟨rfl,hww⟩; subst w')
      go_ret
      exact ⟨by first | rfl | (rw [hn]; done) | (rw [hn]; rfl),rfl⟩
     ·have hyes : Hid (∀ m,1 ≤ m → m < j + 1 → accB (bt t (k + m)) = true) := fun m h1 h2 => by
       by_cases h : m < j
       ·exact hall.out m h1 h
       ·obtain rfl : m = j := by omega
        exact hv
      rw [hbj] at hv
      clear hE hall hbj
      go_wp2_with (go_at_call 286; refine (hA _ _).mono ?_; rw [hv]; rintro e w' ⟨rfl,hww⟩; subst w')
      go_roundw
      case rel => exact ⟨j + 1,by omega,by omega,by omega,by simp; omega,by first | rfl | trivial,hyes⟩
      case measure => simp [intOf]; omega
   ·have hv : accB (bt t (k + j)) = false := by rw [bt_no hlt]; decide
    have hn := hE.out j ⟨hj1,hj3⟩ hall.out (.inr hv)
    clear hE hall hv
    go_wp2_with fail
    go_ret
    exact ⟨by first | rfl | (rw [hn]; done) | (rw [hn]; rfl),rfl⟩
 ·have e1 : endN t k = k + 1 := by unfold endN; rw [if_neg h1]
  rw [e1]
  rw [hb] at h1
  go_enter Tryz.func261,Tryz.ntmps261
  go_wp2_with (go_at_call 259; refine (hK _ _).mono ?_; rintro e w' ⟨rfl,hww⟩; subst w')
  go_ret
  exact ⟨rfl,rfl⟩

theorem refuse_any (t : ByteArray) (w : World) : Calls Tryz.prog 219 #[.string t] w fun e w' => e = .returned (.int .i64 (wrongI t)) ∧ w' = w := by
 have hK := kind_any
 by_cases hl : 4096 < t.size
 ·rw [wrong_long hl]
  go_enter Tryz.func219,Tryz.ntmps219
  go_wp2
  go_ret
  exact ⟨rfl,rfl⟩
 ·have hB : Hid (∀ k,k < t.size → kindI (bt t k) = 0 → wrongI t = 4) := fun k hk h0 => wrong_byte hl hk h0
  have hO : Hid ((∀ k,k < t.size → kindI (bt t k) ≠ 0) → wrongI t = 0) := fun h => wrong_ok hl h
  generalize wrongI t = n at hB hO ⊢
  go_enter Tryz.func219,Tryz.ntmps219
  go_wp2
  go_loopw [9] (fun i wr => ∃ k : Nat,k ≤ t.size ∧ i = .int .i64 k ∧ wr = w ∧ Hid (∀ j,j < k → kindI (bt t j) ≠ 0)) (fun i _ => t.size - (intOf i).toNat)
  case atStart => exact ⟨0,by omega,rfl,rfl,fun j hj => by omega⟩
  case round =>
   obtain ⟨k,hk,rfl,rfl,hall⟩ := hrel
   by_cases hlt : k < t.size
   ·have hb := bt_eq hlt
    by_cases hv : kindI (bt t k) = 0
    ·have hn := hB.out k hlt hv
     rw [hb] at hv
     clear hB hO hall hb
     go_wp2_with (go_at_call 259; refine (hK _ _).mono ?_; rw [hv]; rintro e w' ⟨rfl,hww⟩; subst w')
     go_ret
     exact ⟨by first | rfl | (rw [hn]; done) | (rw [hn]; rfl),rfl⟩
    ·have hyes : Hid (∀ j,j < k + 1 → kindI (bt t j) ≠ 0) := fun j hj => by
      by_cases h : j < k
      ·exact hall.out j h
      ·obtain rfl : j = k := by omega
       exact hv
     rw [hb] at hv
     clear hB hO hall hb
     go_wp2_with (go_at_call 259; refine (hK _ _).mono ?_; rintro e w' ⟨rfl,hww⟩; subst w')
     go_roundw
     case rel => exact ⟨k + 1,by omega,by simp,by first | rfl | trivial,hyes⟩
     case measure => simp [intOf]; omega
   ·have hn := hO.out (fun j hj => hall.out j (by omega))
    clear hB hO hall
    go_wp2_with fail
    go_ret
    exact ⟨by first | rfl | (rw [hn]; done) | (rw [hn]; rfl),rfl⟩

end Go.Proofs.YtlgcnbomfhmjiaaGreatDoor

namespace Go.Proofs.YtlgcnbomfhmjiaaGreatDoor
open Go.RowKit Go.Shelf
set_option maxRecDepth 100000
set_option maxHeartbeats 2000000

theorem wide_fn (f : FuncId) : Fence.wide.fn f = True := rfl
theorem wide_depth : Fence.wide.depth = none := rfl
attribute [local go_sem] Oper.semAt_some wide_fn wide_depth

theorem clusters_any (t : ByteArray) (w : World) : Calls Tryz.prog 220 #[.string t] w fun e w' => e = .returned (.func (.func 260) #[] #[.pointer (some ⟨w.heap.size,0,none⟩)]) ∧ w' = w.alloc (.cells #[.string t] 9) := by
 go_enter Tryz.func220,Tryz.ntmps220
 go_wp2
 go_ret
 exact ⟨rfl,rfl⟩

structure Read (Bt : Nat) (t : ByteArray) (W : World) : Prop where
 box : W.heap[Bt]? = some (.cells #[.string t] 9 (0,0))
def encC (t : ByteArray) (i : Nat) : Array Value := #[.agg #[.int .i64 (st t i : Nat),.int .i64 (st t (i + 1) : Nat),.int .i64 (kindI (bt t (st t i)))]]

theorem clusters1_gives (Bt : Nat) (t : ByteArray) (ht : t.size ≤ 4096) :
  Gives Tryz.prog 260 #[.pointer (some ⟨Bt,0,none⟩)] (num t) (encC t) (Read Bt t) := by
 intro l J Jx W hJ hJx hRd hY h0
 refine callsIn_wide (n := 0).1 ?_
 refine callsIn_of_wp Tryz.func260 rfl trivial ?_ rfl
 simp only [Tryz.ntmps260,List.size_toArray,List.length_cons,List.length_nil,Nat.reduceAdd,Nat.reduceSub,Array.replicate_succ,Array.replicate_zero,List.push_toArray,List.append_toArray,List.nil_append,List.cons_append]
 gi_wp2
 gi_loopw [3] (fun p wr => ∃ (k : Nat) (X : Nat → Prop),k ≤ num t ∧ p = .int .i64 (st t k : Nat) ∧ J k X wr) (fun p _ => t.size - (intOf p).toNat)
 case atStart => exact ⟨0,Noth,Nat.zero_le _,rfl,h0⟩
 case round =>
  obtain ⟨k,X,hk,rfl,hJs⟩ := hrel
  have hbx := (hRd _ _ _ hJs).box
  have hc0 : wr.cell? ⟨Bt,0,none⟩ = some (.string t) := by rw [Lib.cell_of_heap hbx]; rfl
  by_cases hlt : st t k < t.size
  ·have hkn := lt_num hlt
   have hs1 := st_succ hlt
   have hs2 := st_le t (k + 1)
   have hs3 := st_lt hlt
   have hbe := bt_eq hlt
   have hYk := hY k _ _ hkn hJs
   have hen : encC t k = #[.agg #[.int .i64 (st t k : Nat),.int .i64 (st t (k + 1) : Nat),.int .i64 (kindI ((t[st t k]'hlt).toNat : Int))]] := by unfold encC; rw [hbe]
   rw [hen] at hYk
   have hE := end_any t (st t k) hlt ht wr
   have hKd := kind_any ((t[st t k]'hlt).toNat : Int) wr
   rw [← hs1] at hE
   clear hs1 hen hbe hRd hbx
   obtain ⟨fn,tmps,assign,body,hy,hR⟩ := hYk
   generalize hq0 : st t (k + 1) = q at *
   have hq : Hid (st t (k + 1) = q) := hq0
   clear hq0
   gi_wp2_with (first | (gi_at_call 261; refine (callsIn_wide.2 hE).mono ?_; rintro e w' ⟨rfl,hww⟩; subst w') | (gi_at_call 259; refine (callsIn_wide.2 hKd).mono ?_; rintro e w' ⟨rfl,hww⟩; subst w'))
   refine hR.mono ?_
   rintro e W3 ⟨hk3,(⟨rfl,hJ3⟩ | ⟨rfl,hJx3⟩)⟩
   ·gi_wp2
    go_roundw
    case rel => exact ⟨k + 1,_,by omega,by rw [hq.out],hJ3⟩
    case measure => simp [intOf]; omega
   ·gi_wp2
    refine bodyPost_ret (results_none rfl _ _ _) rfl ?_
    exact ⟨⟨_,rfl⟩,.inr ⟨k,hkn,hJx _ _ _ _ _ hJx3 (Turns.refl _ _) (fun _ h => h.elim)⟩⟩
  ·have hkn : k = num t := by
    by_cases h : k < num t
    ·exact absurd (num_lt h) hlt
    ·omega
   have hJe : J (num t) Noth wr := hkn ▸ hJ _ _ _ _ _ hJs (Turns.refl _ _) (fun _ h => h.elim)
   clear hkn
   gi_wp2
   go_end0
   exact ⟨⟨_,rfl⟩,.inl hJe⟩

end Go.Proofs.YtlgcnbomfhmjiaaGreatDoor

namespace Go.Proofs.YtlgcnbomfhmjiaaGreatDoor
open Go.RowKit Go.Shelf
set_option maxRecDepth 100000
set_option maxHeartbeats 1000000
attribute [local go_sem] Oper.semAt_some wide_fn wide_depth

theorem Read.turns {Bt : Nat} {t : ByteArray} {W W' : World} {own : Nat → Prop} (h : Read Bt t W) (ht : Turns own W W') (h1 : ¬ own Bt) : Read Bt t W' :=
 ⟨(ht.block _ (Array.getElem?_eq_some_iff.1 h.box).1 h1).trans h.box⟩
theorem cells_new (w : World) (l : List Value) (e : TypeId) : ∀ j u,l[j]? = some u → (w.alloc (.cells l.toArray e)).cell? ((⟨w.heap.size,0,none⟩ : Addr).add j) = some u := fun j u hu => by
 have h := World.alloc_heap_new w (.cells l.toArray e)
 have e : (⟨w.heap.size,0,none⟩ : Addr).add j = ⟨w.heap.size,j,none⟩ := by
  unfold Addr.add
  by_cases hj : j = 0
  ·rw [if_pos hj,hj]
  ·rw [if_neg hj,Nat.zero_add]
 rw [e,Lib.cell_of_heap h]
 simpa using hu
theorem cl_one (t : ByteArray) (i : Nat) : ∀ u ∈ clC t i,u.oneCell' = true := by intro u hu; simp [clC] at hu; rcases hu with rfl | rfl | rfl <;> rfl
theorem info28 : (Tryz.prog.info? 182).map (fun i => (i.zero,i.size,i.bytes)) = some (some (.agg #[.int .i64 0,.int .i64 0,.int .i64 0]),3,24) := by kernel_rfl

theorem split_no (t : ByteArray) (h : wrongI t ≠ 0) (w : World) : Calls Tryz.prog 171 #[.string t] w fun e w' => e = .returned (.tuple #[.slice none 0 0,.int .i64 (wrongI t)]) ∧ w' = w := by
 have hR := refuse_any t w
 generalize wrongI t = n at h hR ⊢
 go_enter Tryz.func171,Tryz.ntmps171
 go_wp2_with (go_at_call 219; refine hR.mono ?_; rintro e w' ⟨rfl,hww⟩; subst w')
 go_ret2
 exact ⟨rfl,rfl⟩

theorem split_ok (t : ByteArray) (h : wrongI t = 0) (w : World) : Calls Tryz.prog 171 #[.string t] w fun e w' => ∃ v,e = .returned (.tuple #[v,.int .i64 0]) ∧ w'.ownsRow w.heap.size 182 3 v (num t) (rowC t (num t)) ∧ Below w.heap.size w w' := by
 have hR := refuse_any t w
 have hsz := ok_size h
 have hnl := num_le t
 rw [h] at hR
 clear h
 refine callsIn_wide (n := 0).1 ?_
 refine callsIn_of_wp_marks Tryz.func171 rfl trivial ?_ rfl
 simp only [Tryz.ntmps171,List.size_toArray,List.length_cons,List.length_nil,Nat.reduceAdd,Nat.reduceSub,Array.replicate_succ,Array.replicate_zero,List.push_toArray,List.append_toArray,List.nil_append,List.cons_append]
 gi_wp2_with (first | (gi_at_call 219; refine (callsIn_wide.2 hR).mono ?_; rintro e w' ⟨rfl,hww⟩; subst w') | (gi_at_call 220; refine (callsIn_wide.2 (clusters_any _ _)).mono ?_; rintro e w' ⟨rfl,rfl⟩))
 obtain ⟨w1,hw1⟩ : ∃ w1,(w.alloc (.cells #[.slice none 0 0] 172)).alloc (.cells #[.string t] 9) = w1 := ⟨_,rfl⟩
 have hs1 : w1.heap.size = w.heap.size + 2 := by rw [← hw1]; simp
 have hT1 : Turns Noth w w1 := by rw [← hw1]; exact (Turns.alloc _ _ _).trans (Turns.alloc _ _ _)
 have hB1 : w1.heap[w.heap.size]? = some (.cells #[.slice none 0 0] 172) := by rw [← hw1]; exact (Below.heap_alloc _ _ _ (by simp)).trans (World.alloc_heap_new w _)
 have hB2 : w1.heap[w.heap.size + 1]? = some (.cells #[.string t] 9) := by rw [← hw1]; have := World.alloc_heap_new (w.alloc (.cells #[.slice none 0 0] 172)) (.cells #[.string t] 9); rwa [World.size_alloc] at this
 have hRd : Read (w.heap.size + 1) t w1 := ⟨hB2⟩
 obtain ⟨i0,hi,hz0,hz1,hz2⟩ := info_parts info28
 rw [hw1]
 refine wp_range (gf := 260) (lb := #[.pointer (some ⟨w.heap.size + 1,0,none⟩)]) rfl (enters_of Tryz.func260 (by kernel_rfl) rfl) (clusters1_gives (w.heap.size + 1) t hsz) (fun _ => rfl)
  (fun j X W => Base w1 (fun k => k = w.heap.size) X W ∧ ∃ v,W.heap[w.heap.size]? = some (.cells #[v] 172) ∧ W.ownsRow w1.heap.size 182 3 v j (rowC t j) ∧ ∀ g,v.ownBlock = some g → ¬ X g)
  (fun _ _ _ _ => False)
  (fun a' j X W => (Base w1 (fun k => k = w.heap.size) X W ∧ ∃ v,W.heap[w.heap.size]? = some (.cells #[v] 172) ∧ W.ownsRow w1.heap.size 182 3 v j (rowC t j) ∧ ∀ g,v.ownBlock = some g → ¬ X g) ∧
   ∃ B,¬ X B ∧ W.heap[B]? = some (.cells (clC t j).toArray 182) ∧
   a' = { tmps := #[.string t,undef,.slice none 0 0,.int .i64 0,.int .i64 0,.pointer (some ⟨w.heap.size,0,none⟩),.pointer (some ⟨B,0,none⟩),.string t,.int .i64 0,.int .i64 0,.bool false,undef,.string t,.func (.func 260) #[] #[.pointer (some ⟨w.heap.size + 1,0,none⟩)],.agg (clC t j).toArray,undef,undef,undef,undef,undef],defers := [] })
  (steady_row (by omega) _ _ _ _ _ _) (fun _ => steady_never) (fun a' => (steady_row (by omega) _ _ _ _ _ _).and (steady_round a' _ _)) ?hR ⟨Base.start _ _,_,hB1,World.ownsRow_nil _ _ _ _,fun g hg => by cases hg⟩ ?assign ?body ?done ?stop
 case hR =>
  rintro i X W ⟨hb,_⟩
  exact hRd.turns hb.turns (by omega)
 case assign =>
  rintro l j X W K hj ⟨hb,v,hv,hr,hg⟩ hK
  unfold encC
  gi_wp2
  exact hK _ _ (Keeps.alloc _ _ _) ⟨⟨hb.alloc _,v,(Below.heap_alloc _ _ _ (by have := hb.turns.size; omega)).trans hv,hr.alloc _,hg⟩,W.heap.size,hb.fresh,World.alloc_heap_new _ _,rfl⟩
 case body =>
  rintro l j X a' W hj ⟨⟨hb,v,hv,hrow,hg⟩,B,hB,hr,rfl⟩
  have hc0 : W.cell? ⟨w.heap.size,0,none⟩ = some v := by rw [Lib.cell_of_heap hv]; rfl
  have hr0 : W.cell? ⟨B,0,none⟩ = some (.int .i64 (st t j : Nat)) := by rw [Lib.cell_of_heap hr]; rfl
  have hr1 : W.cell? ⟨B,1,none⟩ = some (.int .i64 (st t (j + 1) : Nat)) := by rw [Lib.cell_of_heap hr]; rfl
  have hr2 : W.cell? ⟨B,2,none⟩ = some (.int .i64 (kindI (bt t (st t j)))) := by rw [Lib.cell_of_heap hr]; rfl
  have hbs := hb.turns.size
  gi_wp2_with (gi_at_builtin; refine wpListIn_append_where _ rfl _ _ 172 rfl w1.heap.size 182 i0 _ 3 24 Tryz.underlying172 hi hz0 hz1 hz2 rfl (by decide) v _ _ rfl (hrow.alloc _) ⟨W.heap.size,0,none⟩ 1 1 (clC t j) rfl rfl (cells_new W _ _) (cl_one t j) (by unfold maxLen; omega) (by omega) (by simp; omega) ?_; intro v' w2 hown' hgrow hwh; obtain ⟨g',cap',rfl⟩ := ownsRow_succ hown'; obtain ⟨hv1,q1,q2,q3,q4,q5⟩ := append_step hb (by omega) hv (by decide) hrow hg hown' hgrow hwh; have hc1 := hv1.cell; have hf1 := hv1.frozen)
  exact ⟨q1,q2,_,q3,q4,q5⟩
 case done =>
  rintro D W hD ⟨hb,v,hv,hrow,hg⟩ hK
  have hc0 : W.cell? ⟨w.heap.size,0,none⟩ = some v := by rw [Lib.cell_of_heap hv]; rfl
  gi_wp2
  refine ⟨by simp,.inl ⟨_,_,rfl,run_takeDeferred hK,?_⟩⟩
  refine ⟨_,results_tmp2 rfl _ _ _,v,rfl,?_,below_end hT1 hb (fun k h => by omega) _⟩
  exact ownsRow_turns (ownsRow_base hrow (by omega)) (Turns.putObj (X := fun k => k = D) W rfl _) hg
 case stop =>
  rintro D c i W _ _ h _
  exact h.elim

end Go.Proofs.YtlgcnbomfhmjiaaGreatDoor
