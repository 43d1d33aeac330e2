/-
  What is proved here: what begin, upTo, legal, width, next of first answer.
  What is proved here: what legal, next and refuse of least and Leaps of item answer.
  What is proved here: what items of para answers.
  What is proved here: what Give of item answers.
-/
import Derived.Test.YtaphggjakaghjaaGreatDoorG5
import Derived.Test.YtaphggjakaghjaaGreatDoorG4
import Derived.Test.YtaphggjakaghjaaGreatDoorG13
import Derived.Test.YtaphggjakaghjaaGreatDoorRows
import Derived.Test.YtaphggjakaghjaaGreatDoorG2
import Derived.Test.YtaphggjakaghjaaGreatDoorG1
import Derived.BigQuiet
import Derived.Handy
import Derived.Test.YtaphggjakaghjaaGreatDoorG9
import Derived.Deep.MidRow
import Derived.Test.YtaphggjakaghjaaGreatDoorG7
namespace Go.Proofs.YtaphggjakaghjaaGreatDoor
open Go.RowKit Go.Shelf

theorem sk_at {l : List It} : ∀ n i k,i ≤ k → k < l.length → k < i + n → (∀ j,i ≤ j → j < k → (itAt l j).k = 2) → (itAt l k).k ≠ 2 → skG l n i = k
 | 0,i,k,h1,_,h2,_,_ => by omega
 | n + 1, i, k, h1, hk, h2, h3, h4 => by
  by_cases e : i = k
  ·subst e
   exact skG_no (fun h => h4 h.2)
  ·rw [skG_go ⟨by omega,h3 i (Nat.le_refl _) (by omega)⟩]
   exact sk_at n (i + 1) k (by omega) hk (by omega) (fun j h5 h6 => h3 j (by omega) h6) h4
theorem sk_all {l : List It} : ∀ n i,i ≤ l.length → l.length ≤ i + n → (∀ j,i ≤ j → j < l.length → (itAt l j).k = 2) → skG l n i = l.length
 | 0,i,h1,h2,_ => by show i = _; omega
 | n + 1, i, h1, h2, h3 => by
  by_cases e : i = l.length
  ·rw [skG_no (by omega)]; exact e
  ·rw [skG_go ⟨by omega,h3 i (Nat.le_refl _) (by omega)⟩]
   exact sk_all n (i + 1) (by omega) (by omega) (fun j h5 h6 => h3 j (by omega) h6)

end Go.Proofs.YtaphggjakaghjaaGreatDoor

namespace Go.Proofs.YtaphggjakaghjaaGreatDoor
open Go.RowKit Go.Shelf
set_option maxRecDepth 100000
set_option maxHeartbeats 2000000

def lpB (l : List It) : Bool := l.any (fun x => x.k == 4)
theorem leaps1_any (x : It) (w : World) : Calls Tryz.prog 148 #[.agg (itL x).toArray] w fun e w' => e = .returned (.bool (x.k == 4)) ∧ Below w.heap.size w w' := by
 obtain ⟨k0,f0,t0,w0,s0,h0,q0,y0⟩ := x
 have hB := (Below.refl w.heap.size w).alloc (Nat.le_refl _) (.cells #[.int .i64 k0,.int .i64 f0,.int .i64 t0,.int .i64 w0,.int .i64 s0,.int .i64 h0,.int .i64 q0,.bool y0] 125)
 show Calls Tryz.prog 148 #[.agg #[.int .i64 k0,.int .i64 f0,.int .i64 t0,.int .i64 w0,.int .i64 s0,.int .i64 h0,.int .i64 q0,.bool y0]] w _
 go_enter Tryz.func148,Tryz.ntmps148
 go_wp2_with fail
 go_ret
 exact ⟨rfl,hB⟩
theorem any_no {l : List It} (h : ∀ i (hi : i < l.length),(l[i].k == 4) = false) : lpB l = false := by
 unfold lpB
 rw [List.any_eq_false]
 intro x hx
 obtain ⟨i,hi,rfl⟩ := List.getElem_of_mem hx
 rw [h i hi]; decide
theorem any_yes {l : List It} {i : Nat} (hi : i < l.length) (h : (l[i].k == 4) = true) : lpB l = true := List.any_eq_true.2 ⟨l[i],List.getElem_mem hi,h⟩

theorem lindex_any (v : Value) (l : List It) (hl : l.length ≤ 9223372036854775807) (w : World) (hS : ItsAt w v l) :
  Calls Tryz.prog 195 #[v,.func (.func 148) #[] #[]] w fun e w' => (∃ n : Int,e = .returned (.int .i64 n) ∧ decide (0 ≤ n) = lpB l) ∧ Below w.heap.size w w' := by
 obtain ⟨a,cap,rfl,-⟩ := hS.ex
 have hY : Hid (∀ k (hk : k < l.length),(l[k].k == 4) = true → decide ((0 : Int) ≤ (k : Nat)) = lpB l) := fun k hk e => by rw [any_yes hk e]; simp
 have hN : Hid ((∀ k (hk : k < l.length),(l[k].k == 4) = false) → decide ((0 : Int) ≤ -1) = lpB l) := fun h => by rw [any_no h]; simp
 have hSh : Hid (ItsAt w (.slice a l.length cap) l) := hS
 clear hS
 generalize lpB l = r at hY hN ⊢
 go_enter Tryz.func195,Tryz.ntmps195
 go_wp2_with fail
 go_loopw [8] (fun i wr => ∃ (k : Nat),k ≤ l.length ∧ i = .int .i64 k ∧ Below w.heap.size w wr ∧ Hid (∀ j (hj : j < l.length),j < k → (l[j].k == 4) = false)) (fun i _ => l.length - (intOf i).toNat)
 case atStart => exact ⟨0,by omega,rfl,Below.refl _ _,fun j _ hj => by omega⟩
 case round =>
  obtain ⟨k,hk,rfl,hb,hall⟩ := hrel
  by_cases hlt : k < l.length
  ·obtain ⟨b,o,rfl,hbl,hit⟩ := its_at hSh.out hlt
   have hi := hit wr hb
   have c0 := hi.c0
   have c1 := hi.c1
   have c2 := hi.c2
   have c3 := hi.c3
   have c4 := hi.c4
   have c5 := hi.c5
   have c6 := hi.c6
   have c7 := hi.c7
   have hlt' : (k : Int) < l.length := by omega
   have hm := leaps1_any l[k] wr
   have hyes : Hid ((l[k].k == 4) = true → decide ((0 : Int) ≤ (k : Nat)) = r) := hY.out k hlt
   have hno : Hid ((l[k].k == 4) = false → ∀ j (hj : j < l.length),j < k + 1 → (l[j].k == 4) = false) := fun hv j hj hjk => by
    by_cases h : j < k
    ·exact hall.out j hj h
    ·obtain rfl : j = k := by omega
     exact hv
   clear hY hN hall hit hSh hi
   generalize l[k] = it at *
   obtain ⟨k0,f0,t0,w0,s0,h0,q0,y0⟩ := it
   simp only at c0 c1 c2 c3 c4 c5 c6 c7 hm hyes hno
   have hm' : Hid (Calls Tryz.prog 148 #[.agg #[.int .i64 k0,.int .i64 f0,.int .i64 t0,.int .i64 w0,.int .i64 s0,.int .i64 h0,.int .i64 q0,.bool y0]] wr fun e w' => e = .returned (.bool (k0 == 4)) ∧ Below wr.heap.size wr w') := hm
   clear hm
   cases hv : (k0 == 4) with
   | true =>
    have hn := hyes.out hv
    rw [hv] at hm'
    clear hyes hno hv
    have hn' : Hid (decide ((0 : Int) ≤ (k : Nat)) = r) := hn
    clear hn
    go_wp2_with (go_at_call 148; refine hm'.out.mono ?_; rintro e w' ⟨rfl,hb2⟩)
    go_ret
    exact ⟨⟨_,rfl,hn'.out⟩,hb.trans (hb2.mono hb.size)⟩
   | false =>
    have hn : Hid (∀ j (hj : j < l.length),j < k + 1 → (l[j].k == 4) = false) := hno.out hv
    rw [hv] at hm'
    clear hyes hno hv
    go_wp2_with (go_at_call 148; refine hm'.out.mono ?_; rintro e w' ⟨rfl,hb2⟩)
    go_roundw
    case rel => exact ⟨k + 1,by omega,by simp,hb.trans (hb2.mono hb.size),hn⟩
    case measure => simp [intOf]; omega
  ·have hn := hN.out (fun j hj => hall.out j hj (by omega))
   have hn' : Hid (decide ((0 : Int) ≤ -1) = r) := hn
   have hge : ¬ (k : Int) < l.length := by omega
   clear hY hN hall hSh hn
   go_wp2_with fail
   go_ret
   exact ⟨⟨_,rfl,hn'.out⟩,hb⟩

theorem leaps_any (v : Value) (l : List It) (hl : l.length ≤ 9223372036854775807) (w : World) (hS : ItsAt w v l) :
  Calls Tryz.prog 106 #[v] w fun e w' => e = .returned (.bool (lpB l)) ∧ Below w.heap.size w w' := by
 have hi : Hid (Calls Tryz.prog 195 #[v,.func (.func 148) #[] #[]] w fun e w' => (∃ n : Int,e = .returned (.int .i64 n) ∧ decide (0 ≤ n) = lpB l) ∧ Below w.heap.size w w') := lindex_any v l hl w hS
 obtain ⟨a,cap,rfl,-⟩ := hS.ex
 clear hS
 have hcf : Hid (Calls Tryz.prog 147 #[.slice a l.length cap,.func (.func 148) #[] #[]] w fun e w' => e = .returned (.bool (lpB l)) ∧ Below w.heap.size w w') := by
  show Calls Tryz.prog 147 _ _ _
  generalize lpB l = r at *
  go_enter Tryz.func147,Tryz.ntmps147
  go_wp2_with (go_at_call 195; refine hi.out.mono ?_; rintro e w' ⟨⟨n,rfl,hn⟩,hb2⟩)
  go_ret
  exact ⟨by rw [← hn]; rfl,hb2⟩
 clear hi
 generalize lpB l = r at *
 go_enter Tryz.func106,Tryz.ntmps106
 go_wp2_with (go_at_call 147; refine hcf.out.mono ?_; rintro e w' ⟨rfl,hb2⟩)
 go_ret
 exact ⟨rfl,hb2⟩


end Go.Proofs.YtaphggjakaghjaaGreatDoor

namespace Go.Proofs.YtaphggjakaghjaaGreatDoor
open Go.RowKit Go.Shelf
set_option maxRecDepth 100000
set_option maxHeartbeats 4000000

theorem el80 : ElOk 111 125 8 64 := ElOk.of Tryz.underlying111 (by kernel_rfl)
theorem build80 (x : It) (W : World) : (Instr.buildSlice 111 1 #[(0,.agg (itL x).toArray)]).run Tryz.prog W = .ok (.slice (some ⟨W.heap.size,0,none⟩) 1 1) (W.alloc (.cells (itL x).toArray 125)) := by
 obtain ⟨k,f,t,w,s,h,c,y⟩ := x
 kernel_rfl
theorem wpList_build80 {ops : Array Oper} {rest : List Oper} {oi : Oper} {a : Act} {w : World} {Q : Exit → Act → World → Prop} (hgd : oi.guard = none) (y : Operand) (ho : oi.op = .buildSlice 111 1 #[(0,y)]) (p : It) (hy : a.eval y = .agg (itL p).toArray)
  (h : wpList Tryz.prog ops Q rest (a.put oi.dst (.slice (some ⟨w.heap.size,0,none⟩) 1 1)) (w.alloc (.cells (itL p).toArray 125))) : wpList Tryz.prog ops Q (oi :: rest) a w :=
 wpList_plain hgd fun _ hK => by
  have hr := build80 p w
  unfold Oper.wp execOp
  simp only [ho,List.map_toArray,List.map_cons,List.map_nil,hy,Sem.run_bind,Sem.run_pure,Result.andThen_ok,hr]
  exact hK _ _ h
theorem info80 (x : It) : (Tryz.prog.info? 125).map (·.size) = some (itL x).toArray.size := by show _ = some 8; kernel_rfl
theorem info80l (x : It) : (Tryz.prog.info? 125).map (·.size) = some (itL x).length := by show _ = some 8; kernel_rfl
theorem itL_all (x : It) : (itL x).toArray.all (·.oneCell') = true := all_oneCell_toArray (itL_one x)
def pz0 : It := ⟨0,0,0,0,0,0,0,false⟩
structure PiI (z w0 : World) (v : Value) (qs : List It) (W : World) : Prop where
 low : Below w0.heap.size w0 W
 row : W.ownsRow w0.heap.size 125 8 v qs.length (qs.flatMap itL)
theorem PiI.next {z w0 : World} {v : Value} {qs : List It} {W W' : World} (h : PiI z w0 v qs W) (hb : Below W.heap.size W W') : PiI z w0 v qs W' :=
 ⟨h.low.trans (hb.mono h.low.size),ownsRow_below h.row hb⟩
theorem PiI.box {z w0 : World} {v : Value} {qs : List It} {W : World} {c0 cs : Array Value} (h : PiI z w0 v qs W) : PiI z w0 v qs ((W.alloc (.cells c0 125)).setRow W.heap.size cs) := by
 have h1 := h.next ((Below.refl _ _).alloc (Nat.le_refl _) (.cells c0 125))
 have hT := Turns.setRow (X := fun k => k = W.heap.size) (W.alloc (.cells c0 125)) rfl cs
 exact ⟨h1.low.trans (hT.below h1.low.size (fun k hk => by have := h.low.size; omega)),ownsRow_turns h1.row hT (fun g hg e => by have := (h.row.lt g hg).2; omega)⟩
theorem PiI.app {z w0 : World} {v v' : Value} {qs qs' : List It} {W W' : World} (h : PiI z w0 v qs W) (hr : W'.ownsRow w0.heap.size 125 8 v' qs'.length (qs'.flatMap itL)) (hb : Below w0.heap.size W W') : PiI z w0 v' qs' W' :=
 ⟨h.low.trans hb,hr⟩
def PiEnd (L : List It) (w : World) (e : Ending) (w' : World) : Prop := (∃ v,e = .returned v ∧ ItsAt w' v L) ∧ Below w.heap.size w w'
theorem its_range {W : World} {a : Option Addr} {n cap : Nat} {l : List It} (h : ItsAt W (.slice a n cap) l) {i : Nat} (hi : i < l.length) : ∃ b o,a = some ⟨b,o,none⟩ ∧ b < W.heap.size ∧ W.rangeAt b (o + i * 8) (itL l[i]) := by
 obtain ⟨a',cap',h1,h2⟩ := h.ex
 cases h1
 rcases h2 with h2 | ⟨b,o,rfl,hb,hc⟩
 ·subst h2; simp at hi
 ·exact ⟨b,o,rfl,hb,fun j v hv => hc i hi j v hv⟩
theorem pitems_any (a : Pa) (L : List It) (w : World) (hA : PaAt w a) (hL : L.length ≤ 8192) (hW : ∀ x ∈ L,x.w ≤ 524288)
  (hI : ∀ W,PaAt W a → Calls Tryz.prog 105 #[.agg (paC a)] W fun e w' => (∃ v,e = .returned (.tuple #[v,.int .i64 0]) ∧ ItsAt w' v L) ∧ Below W.heap.size W w') : Calls Tryz.prog 73 #[paV a] w (PiEnd L w) := by
 have hB := (Below.refl w.heap.size w).alloc (Nat.le_refl _) (Obj.cells (paC a) 95)
 have hP := PB.new w a
 have hit : Hid (Calls Tryz.prog 105 #[.agg (paC a)] (w.alloc (.cells (paC a) 95)) fun e w' => (∃ v,e = .returned (.tuple #[v,.int .i64 0]) ∧ ItsAt w' v L) ∧ Below (w.alloc (.cells (paC a) 95)).heap.size (w.alloc (.cells (paC a) 95)) w') := hI _ (hA.below hB (Nat.le_refl _))
 have hBh : Hid (Below w.heap.size w (w.alloc (.cells (paC a) 95))) := hB
 have hWh : Hid (∀ k (h : k < L.length),(L[k]).w ≤ 524288) := fun k h => hW _ (List.getElem_mem h)
 have hend : Hid (∀ W v,Below w.heap.size w W → ItsAt W v L → PiEnd L w (.returned v) W) := fun W v h1 h2 => ⟨⟨v,rfl,h2⟩,h1⟩
 clear hB hA hI hW
 generalize PiEnd L w = E at *
 show Calls Tryz.prog 73 #[.agg (paC a)] w E
 generalize hwz : w.alloc (.cells (paC a) 95) = wz at *
 go_enter Tryz.func73,Tryz.ntmps73
 go_wp2_with (first | (refine wpList_load_row rfl 95 _ rfl w.heap.size rfl 95 _ (0,0) _ hP.row Tryz.underlying95 rfl (info34 a) ?_) | (go_at_call 105; refine hit.out.mono ?_; rintro e w2 ⟨⟨v,rfl,hv⟩,hb2⟩; have hb2h : Hid (Below w.heap.size w w2) := hBh.out.trans (hb2.mono hBh.out.size); obtain ⟨av,cv,rfl,-⟩ := hv.ex; have hvh : Hid (ItsAt w2 (.slice av L.length cv) L) := hv; clear hv hb2 hit hP hBh))
 have hI0 : Hid (PiI w w2 (.slice none 0 0) [] w2) := ⟨Below.refl _ _,World.ownsRow_nil _ _ _ _⟩
 go_loopw [5,15] (fun v5 v15 wr => ∃ (k : Nat) (va : Option Addr) (vc : Nat),k ≤ L.length ∧ v15 = .int .i64 k ∧ v5 = .slice va k vc ∧ Hid (PiI w w2 (.slice va k vc) (L.take k) wr)) (fun _ v15 _ => L.length - (intOf v15).toNat)
 case atStart => exact ⟨0,none,0,by omega,rfl,rfl,hI0⟩
 case round =>
  obtain ⟨k,va,vc,hk,rfl,rfl,hI⟩ := hrel
  clear hI0
  by_cases hlt : k < L.length
  ·have hlt' : (k : Int) < (L.length : Int) := by omega
   obtain ⟨b,o,rfl,hbl,hrg⟩ := its_range (hvh.out.below hI.out.low (Nat.le_refl _)) hlt
   have hwd := hWh.out k hlt
   have hlen : Hid ((L.take k).length = k) := by show _ = _; rw [List.length_take]; omega
   have hI1 : Hid (PiI w w2 (.slice va (L.take k).length vc) (L.take k) wr) := by rw [hlen.out]; exact hI.out
   have hnx : Hid (∀ W v,PiI w w2 v (L.take k ++ [L[k]]) W → PiI w w2 v (L.take (k + 1)) W) := fun W v h => by rw [List.take_add_one,List.getElem?_eq_getElem hlt]; exact h
   have hz : (wr.alloc (.cells (itL pz0).toArray 125)).heap[wr.heap.size]? = some (.cells (itL pz0).toArray 125 (0,0)) := World.alloc_heap_new wr _
   clear hend hI hWh hvh
   generalize hx : L[k] = x at *
   have hgt : ¬ (524288 : Int) < x.w := by omega
   have hz0 : (wr.alloc (.cells #[.int .i64 0,.int .i64 0,.int .i64 0,.int .i64 0,.int .i64 0,.int .i64 0,.int .i64 0,.bool false] 125)).heap[wr.heap.size]? = some (.cells #[.int .i64 0,.int .i64 0,.int .i64 0,.int .i64 0,.int .i64 0,.int .i64 0,.int .i64 0,.bool false] 125 (0,0)) := hz
   have hlo : Hid (w2.heap.size ≤ wr.heap.size) := hI1.out.low.size
   have hqn : Hid ((L.take k).length ≤ 9000) := by have := hlen.out; show _ ≤ _; omega
   clear hz
   go_wp2_with (first | (refine wpList_load_mid rfl 125 _ rfl b (o + k * 8) rfl (itL x) _ hrg Tryz.underlying125 rfl (info80l x) ?_) | (refine wpList_store_row rfl 125 _ _ rfl wr.heap.size (itL x).toArray rfl rfl 125 _ hz0 (info80 x) rfl (itL_all x) ?_; have hz1 : ((wr.alloc (.cells #[.int .i64 0,.int .i64 0,.int .i64 0,.int .i64 0,.int .i64 0,.int .i64 0,.int .i64 0,.bool false] 125)).setRow wr.heap.size (itL x).toArray).heap[wr.heap.size]? = some (.cells (itL x).toArray 125 (0,0)) := setRow_heap _ _ _ _ _ _ hz0; have hIs : Hid (PiI w w2 (.slice va (L.take k).length vc) (L.take k) ((wr.alloc (.cells #[.int .i64 0,.int .i64 0,.int .i64 0,.int .i64 0,.int .i64 0,.int .i64 0,.int .i64 0,.bool false] 125)).setRow wr.heap.size (itL x).toArray)) := hI1.out.box; clear hz0 hI1 hrg; generalize (wr.alloc (.cells #[.int .i64 0,.int .i64 0,.int .i64 0,.int .i64 0,.int .i64 0,.int .i64 0,.int .i64 0,.bool false] 125)).setRow wr.heap.size (itL x).toArray = w5 at *; generalize wr.heap.size = g7 at *; have c3 : w5.cell? ⟨g7,3,none⟩ = some (.int .i64 x.w) := (Lib.cell_of_heap hz1 _).trans rfl; have hle5 : w2.heap.size ≤ w5.heap.size := hIs.out.low.size))
   go_loopw [5] (fun v5 wq => v5 = .slice va k vc ∧ wq = w5) (fun _ _ => 0)
   case atStart => exact ⟨rfl,rfl⟩
   case round =>
    obtain ⟨rfl,hwq⟩ := hrel
    subst hwq
    go_wp2_with (first | (refine wpList_load_row rfl 125 _ rfl g7 rfl 125 _ (0,0) _ hz1 Tryz.underlying125 rfl (info80 x) ?_) | (refine wpList_build80 rfl _ rfl x rfl ?_) | (refine wpList_app1 (k := 8) (f := itL) (w0 := wr) (bytes := 64) rfl el80 itL_len itL_one (by omega) (by omega) _ _ rfl w2.heap.size (.slice va (L.take k).length vc) (L.take k) x (by rw [hlen.out]; rfl) hIs.out.row hle5 hqn.out rfl rfl ?_; intro v' w6 hr6 hb6; obtain ⟨g6,cap6,rfl,-,-,-⟩ := row_rb itL_len hr6 (by simp); have hI6 : Hid (PiI w w2 (.slice (some ⟨g6,0,none⟩) (L.take k ++ [x]).length cap6) (L.take k ++ [x]) w6) := hIs.out.app hr6 hb6; clear hr6 hb6 hIs hle5))
    refine ⟨⟨k + 1,some ⟨g6,0,none⟩,cap6,by omega,rfl,rfl,?_⟩,by simp [intOf]; omega⟩
    have h := hnx.out _ _ hI6.out
    rw [show (L.take k ++ [x]).length = k + 1 by rw [List.length_append,hlen.out]; rfl] at h
    exact h
  ·have hge : ¬ (k : Int) < (L.length : Int) := by omega
   have hkn : k = L.length := by omega
   subst hkn
   clear hWh hvh
   go_wp2_with fail
   refine hend.out _ _ (hb2h.out.trans (hI.out.low.mono hb2h.out.size)) ?_
   have := hI.out.row
   rw [List.take_length] at this
   exact rec_of_row itL_len rfl this
end Go.Proofs.YtaphggjakaghjaaGreatDoor

namespace Go.Proofs.YtaphggjakaghjaaGreatDoor
open Go.RowKit Go.Shelf
set_option maxRecDepth 100000
set_option maxHeartbeats 4000000
def suS (l : List It) (a : Nat) : Nat → Int
 | 0 => 0
 | k + 1 => suS l a k + (itAt l (a + k)).s
def suH (l : List It) (a : Nat) : Nat → Int
 | 0 => 0
 | k + 1 => suH l a k + (itAt l (a + k)).h
def giS (l : List It) (a b : Int) : Int := if rfL l a b = 0 then suS l a.toNat (shN l a.toNat (b.toNat - a.toNat)) else 0
def giH (l : List It) (a b : Int) : Int := if rfL l a b = 0 then suH l a.toNat (shN l a.toNat (b.toNat - a.toNat)) else 0
theorem su_rng {l : List It} (h : ckL l = 0) {a : Nat} : ∀ k,a + k ≤ l.length → (0 ≤ suS l a k ∧ suS l a k ≤ 4095 * (k : Int)) ∧ 0 ≤ suH l a k ∧ suH l a k ≤ 4095 * (k : Int)
 | 0,_ => by simp [suS,suH]
 | k + 1,hk => by
  have ih := su_rng h k (a := a) (by omega)
  have hi : a + k < l.length := by omega
  have := ck_at h hi
  unfold okP at this
  have e : suS l a (k + 1) = suS l a k + l[a + k].s := by show _ + (itAt l (a + k)).s = _; rw [itAt_is hi]
  have e' : suH l a (k + 1) = suH l a k + l[a + k].h := by show _ + (itAt l (a + k)).h = _; rw [itAt_is hi]
  rw [e,e']; omega
theorem give_any (v : Value) (l : List It) (x y : Int) (w : World) (hS : ItsAt w v l) :
  Calls Tryz.prog 109 #[v,.int .i64 x,.int .i64 y] w fun e w' => e = .returned (.tuple #[.int .i64 (giS l x y),.int .i64 (giH l x y),.int .i64 (rfL l x y)]) ∧ Below w.heap.size w w' := by
 have hc : Hid (Calls Tryz.prog 151 #[v,.int .i64 x,.int .i64 y] w fun e w' => e = .returned (.int .i64 (rfL l x y)) ∧ Below w.heap.size w w') := irefuse_any v l x y w hS
 obtain ⟨a,cap,rfl,-⟩ := hS.ex
 have hle := hS.le _ _ _ rfl
 have hSh : Hid (ItsAt w (.slice a l.length cap) l) := hS
 clear hS
 unfold giS giH
 by_cases h0 : rfL l x y = 0
 ·rw [h0] at hc
  rw [if_pos h0,if_pos h0,h0]
  obtain ⟨h1,h2,h3,h4⟩ := rf_ok h0
  obtain ⟨A,rfl⟩ : ∃ i : Nat,x = i := ⟨x.toNat,by omega⟩
  obtain ⟨E,rfl⟩ : ∃ i : Nat,y = i := ⟨y.toNat,by omega⟩
  rw [Int.toNat_natCast,Int.toNat_natCast]
  have h8 : (l.length : Int) ≤ 8192 := by have := ck_len h1; omega
  have hck : Hid (ckL l = 0) := h1
  have hAE : A ≤ E := by omega
  have hEl : E ≤ l.length := by omega
  clear h0 h1 h2 h3 h4
  obtain ⟨m,hm⟩ : ∃ m,shN l A (E - A) = m := ⟨_,rfl⟩
  have hmle : m ≤ E - A := by rw [← hm]; exact shN_le _ _ _
  have hsl : Hid (∀ W,Below w.heap.size w W → ∃ a',(Instr.slice 111 (.slice a l.length cap) (some (.int .i64 (A : Int))) (some (.int .i64 (E : Int))) none).run Tryz.prog W = .ok (.slice a' (E - A) (cap - A)) W ∧ Calls Tryz.prog 152 #[.slice a' (E - A) (cap - A)] W fun e w' => (∃ a2 cap2,e = .returned (.slice a2 m cap2) ∧ ItsAt W (.slice a2 m cap2) ((subL l A E).take m)) ∧ w' = W) := fun W hB => by
   obtain ⟨a',hr,ha'⟩ := slice29 a l.length cap A E W hAE (by omega)
   refine ⟨a',hr,?_⟩
   have hI := sub_its (hSh.out.below hB (Nat.le_refl _)) hAE hEl ha'
   have hc := shown_any _ (subL l A E) (by rw [sub_len hEl]; omega) W hI
   rw [sub_len hEl,shN_sub hEl _ (by omega),hm] at hc
   exact hc
  have hat : Hid (∀ W a2 cap2,ItsAt W (.slice a2 m cap2) ((subL l A E).take m) → ∀ i,i < m → ∃ b o,a2 = some ⟨b,o,none⟩ ∧ ∀ W',Below W.heap.size W W' → ItAt W b (o + i * 8) (itAt l (A + i)) W') := fun W a2 cap2 hI i hi => by
   obtain ⟨hlt,he⟩ := line_at hEl hAE (i := i) (by rw [hm]; exact hi)
   rw [hm] at he
   obtain ⟨hil,he'⟩ := List.getElem?_eq_some_iff.1 he
   obtain ⟨b,o,e,_,h⟩ := its_at hI hil
   rw [he'] at h
   refine ⟨b,o,e,fun W' hW => ?_⟩
   rw [itAt_is hlt]
   exact h W' hW
  have hrg : Hid (∀ k,k ≤ m → (0 ≤ suS l A k ∧ suS l A k ≤ 4095 * (k : Int)) ∧ 0 ≤ suH l A k ∧ suH l A k ≤ 4095 * (k : Int)) := fun k hk => su_rng hck.out k (by omega)
  have hgo : Hid (∀ k,k < m → okP (itAt l (A + k))) := fun k hk => by
   rw [itAt_is (show A + k < l.length by omega)]
   exact ck_at hck.out (by omega)
  rw [hm]
  clear hm hck hSh
  have hA' : (A : Int) ≤ E := by omega
  have hE' : (E : Int) ≤ cap := by omega
  go_enter Tryz.func109,Tryz.ntmps109
  go_wp2_with (first | (go_at_call 151; refine hc.out.mono ?_; rintro e w1 ⟨rfl,hb1⟩; obtain ⟨a1,hs1,hcs⟩ := hsl.out _ hb1) | (go_at_call 152; refine hcs.mono ?_; rintro e w' ⟨⟨a2,cap2,rfl,hI⟩,hww⟩; subst w'))
  have hat2 := hat.out _ _ _ hI
  have hat3 : Hid (∀ i,i < m → ∃ b o,a2 = some ⟨b,o,none⟩ ∧ ∀ W',Below w1.heap.size w1 W' → ItAt w1 b (o + i * 8) (itAt l (A + i)) W') := hat2
  clear hat hat2 hsl hc hcs hs1 hI
  go_loopw [10,11,27] (fun p q i wr => ∃ k : Nat,k ≤ m ∧ i = .int .i64 k ∧ p = .int .i64 (suS l A k) ∧ q = .int .i64 (suH l A k) ∧ Below w1.heap.size w1 wr) (fun _ _ i _ => m - (intOf i).toNat)
  case atStart => exact ⟨0,by omega,rfl,rfl,rfl,Below.refl _ _⟩
  case round =>
   obtain ⟨k,hk,rfl,rfl,rfl,hb2⟩ := hrel
   by_cases hlt : k < m
   ·have hlt' : (k : Int) < m := by omega
    obtain ⟨bb,oo,rfl,hit⟩ := hat3.out k hlt
    have hi := hit wr hb2
    have c0 := hi.c0
    have c1 := hi.c1
    have c2 := hi.c2
    have c3 := hi.c3
    have c4 := hi.c4
    have c5 := hi.c5
    have c6 := hi.c6
    have c7 := hi.c7
    have hok := hgo.out k hlt
    have hr1 := hrg.out k (by omega)
    have he : Hid (suS l A (k + 1) = suS l A k + (itAt l (A + k)).s ∧ suH l A (k + 1) = suH l A k + (itAt l (A + k)).h) := ⟨rfl,rfl⟩
    clear hit hi
    generalize itAt l (A + k) = it at *
    obtain ⟨k0,f0,t0,w0,s0,h0,q0,y0⟩ := it
    unfold okP at hok
    simp only at c0 c1 c2 c3 c4 c5 c6 c7 hok he
    have hs0 : 0 ≤ s0 ∧ s0 ≤ 4095 := hok.2.2.2.2.1
    have hh0 : 0 ≤ h0 ∧ h0 ≤ 4095 := hok.2.2.2.2.2.1
    obtain ⟨p,hp⟩ : ∃ p,suS l A k = p := ⟨_,rfl⟩
    obtain ⟨q,hq⟩ : ∃ p,suH l A k = p := ⟨_,rfl⟩
    have hp0 : 0 ≤ p := by omega
    have hp1 : p ≤ 50000000 := by omega
    have hq0 : 0 ≤ q := by omega
    have hq1 : q ≤ 50000000 := by omega
    rw [hp,hq] at he ⊢
    have hkk : Hid (k ≤ m) := hk
    clear hok hr1 hp hk hq
    have hB2 := hb2.alloc hb2.size (.cells #[.int .i64 k0,.int .i64 f0,.int .i64 t0,.int .i64 w0,.int .i64 s0,.int .i64 h0,.int .i64 q0,.bool y0] 125)
    go_wp2_with fail
    go_roundw
    case rel => exact ⟨k + 1,by omega,by simp,by rw [he.out.1],by rw [he.out.2],hB2⟩
    case measure => simp [intOf]; omega
   ·obtain rfl : k = m := by omega
    have hb3 : Below w.heap.size w wr := hb1.trans (hb2.mono hb1.size)
    have hge : ¬ (k : Int) < k := by omega
    clear hat3 hgo hrg
    go_wp2_with fail
    go_ret3
    exact ⟨rfl,hb3⟩
 ·rw [if_neg h0,if_neg h0]
  have h0' : (rfL l x y == 0) = false := by simpa using h0
  clear h0 hSh
  generalize rfL l x y = n at *
  go_enter Tryz.func109,Tryz.ntmps109
  go_wp2_with (go_at_call 151; refine hc.out.mono ?_; rintro e w' ⟨rfl,hb2⟩)
  go_ret3
  exact ⟨rfl,hb2⟩
end Go.Proofs.YtaphggjakaghjaaGreatDoor
