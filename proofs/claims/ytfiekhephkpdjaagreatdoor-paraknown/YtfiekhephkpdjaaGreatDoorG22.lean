/-
  What is proved here: what items of para answers.
  What is proved here: what begin, upTo, legal, width, next of first answer.
-/
import Derived.Test.YtfiekhephkpdjaaGreatDoorG13
import Derived.Test.YtfiekhephkpdjaaGreatDoorG21
import Derived.Test.YtfiekhephkpdjaaGreatDoorG5
import Derived.Test.YtfiekhephkpdjaaGreatDoorG16
import Derived.Test.YtfiekhephkpdjaaGreatDoorG4
namespace Go.Proofs.YtfiekhephkpdjaaGreatDoor
open Go.RowKit Go.Shelf
set_option maxRecDepth 100000
set_option maxHeartbeats 4000000

theorem el80 : ElOk 48 68 8 64 := ElOk.of Tryz.underlying48 (by kernel_rfl)
theorem build80 (x : It) (W : World) : (Instr.buildSlice 48 1 #[(0,.agg (itL x).toArray)]).run Tryz.prog W = .ok (.slice (some ⟨W.heap.size,0,none⟩) 1 1) (W.alloc (.cells (itL x).toArray 68)) := by
 obtain ⟨k,f,t,w,s,h,c,y⟩ := x
 kernel_rfl
theorem wpList_build80 {ops : Array Oper} {rest : List Oper} {oi : Oper} {a : Act} {w : World} {Q : Exit → Act → World → Prop} (hgd : oi.guard = none) (y : Operand) (ho : oi.op = .buildSlice 48 1 #[(0,y)]) (p : It) (hy : a.eval y = .agg (itL p).toArray)
  (h : wpList Tryz.prog ops Q rest (a.put oi.dst (.slice (some ⟨w.heap.size,0,none⟩) 1 1)) (w.alloc (.cells (itL p).toArray 68))) : wpList Tryz.prog ops Q (oi :: rest) a w :=
 wpList_plain hgd fun _ hK => by
  have hr := build80 p w
  unfold Oper.wp execOp
  simp only [ho,List.map_toArray,List.map_cons,List.map_nil,hy,Sem.run_bind,Sem.run_pure,Result.andThen_ok,hr]
  exact hK _ _ h
theorem info80 (x : It) : (Tryz.prog.info? 68).map (·.size) = some (itL x).toArray.size := by show _ = some 8; kernel_rfl
theorem info80l (x : It) : (Tryz.prog.info? 68).map (·.size) = some (itL x).length := by show _ = some 8; kernel_rfl
theorem itL_all (x : It) : (itL x).toArray.all (·.oneCell') = true := all_oneCell_toArray (itL_one x)
def pz0 : It := ⟨0,0,0,0,0,0,0,false⟩
structure PiI (z w0 : World) (v : Value) (qs : List It) (W : World) : Prop where
 low : Below w0.heap.size w0 W
 row : W.ownsRow w0.heap.size 68 8 v qs.length (qs.flatMap itL)
theorem PiI.next {z w0 : World} {v : Value} {qs : List It} {W W' : World} (h : PiI z w0 v qs W) (hb : Below W.heap.size W W') : PiI z w0 v qs W' :=
 ⟨h.low.trans (hb.mono h.low.size),ownsRow_below h.row hb⟩
theorem PiI.box {z w0 : World} {v : Value} {qs : List It} {W : World} {c0 cs : Array Value} (h : PiI z w0 v qs W) : PiI z w0 v qs ((W.alloc (.cells c0 68)).setRow W.heap.size cs) := by
 have h1 := h.next ((Below.refl _ _).alloc (Nat.le_refl _) (.cells c0 68))
 have hT := Turns.setRow (X := fun k => k = W.heap.size) (W.alloc (.cells c0 68)) rfl cs
 exact ⟨h1.low.trans (hT.below h1.low.size (fun k hk => by have := h.low.size; omega)),ownsRow_turns h1.row hT (fun g hg e => by have := (h.row.lt g hg).2; omega)⟩
theorem PiI.app {z w0 : World} {v v' : Value} {qs qs' : List It} {W W' : World} (h : PiI z w0 v qs W) (hr : W'.ownsRow w0.heap.size 68 8 v' qs'.length (qs'.flatMap itL)) (hb : Below w0.heap.size W W') : PiI z w0 v' qs' W' :=
 ⟨h.low.trans hb,hr⟩
def PiEnd (L : List It) (w : World) (e : Ending) (w' : World) : Prop := (∃ v,e = .returned v ∧ ItsAt w' v L) ∧ Below w.heap.size w w'
theorem its_range {W : World} {a : Option Addr} {n cap : Nat} {l : List It} (h : ItsAt W (.slice a n cap) l) {i : Nat} (hi : i < l.length) : ∃ b o,a = some ⟨b,o,none⟩ ∧ b < W.heap.size ∧ W.rangeAt b (o + i * 8) (itL l[i]) := by
 obtain ⟨a',cap',h1,h2⟩ := h.ex
 cases h1
 rcases h2 with h2 | ⟨b,o,rfl,hb,hc⟩
 ·subst h2; simp at hi
 ·exact ⟨b,o,rfl,hb,fun j v hv => hc i hi j v hv⟩
theorem pitems_any (a : Pa) (L : List It) (w : World) (hA : PaAt w a) (hL : L.length ≤ 8192) (hW : ∀ x ∈ L,x.w ≤ 524288)
  (hI : ∀ W,PaAt W a → Calls Tryz.prog 20 #[.agg (paC a)] W fun e w' => (∃ v,e = .returned (.tuple #[v,.int .i64 0]) ∧ ItsAt w' v L) ∧ Below W.heap.size W w') : Calls Tryz.prog 11 #[paV a] w (PiEnd L w) := by
 have hB := (Below.refl w.heap.size w).alloc (Nat.le_refl _) (Obj.cells (paC a) 27)
 have hP := PB.new w a
 have hit : Hid (Calls Tryz.prog 20 #[.agg (paC a)] (w.alloc (.cells (paC a) 27)) fun e w' => (∃ v,e = .returned (.tuple #[v,.int .i64 0]) ∧ ItsAt w' v L) ∧ Below (w.alloc (.cells (paC a) 27)).heap.size (w.alloc (.cells (paC a) 27)) w') := hI _ (hA.below hB (Nat.le_refl _))
 have hBh : Hid (Below w.heap.size w (w.alloc (.cells (paC a) 27))) := hB
 have hWh : Hid (∀ k (h : k < L.length),(L[k]).w ≤ 524288) := fun k h => hW _ (List.getElem_mem h)
 have hend : Hid (∀ W v,Below w.heap.size w W → ItsAt W v L → PiEnd L w (.returned v) W) := fun W v h1 h2 => ⟨⟨v,rfl,h2⟩,h1⟩
 clear hB hA hI hW
 generalize PiEnd L w = E at *
 show Calls Tryz.prog 11 #[.agg (paC a)] w E
 generalize hwz : w.alloc (.cells (paC a) 27) = wz at *
 go_enter Tryz.func11,Tryz.ntmps11
 go_wp2_with (first | (refine wpList_load_row rfl 27 _ rfl w.heap.size rfl 27 _ (0,0) _ hP.row Tryz.underlying27 rfl (info34 a) ?_) | (go_at_call 20; refine hit.out.mono ?_; rintro e w2 ⟨⟨v,rfl,hv⟩,hb2⟩; have hb2h : Hid (Below w.heap.size w w2) := hBh.out.trans (hb2.mono hBh.out.size); obtain ⟨av,cv,rfl,-⟩ := hv.ex; have hvh : Hid (ItsAt w2 (.slice av L.length cv) L) := hv; clear hv hb2 hit hP hBh))
 have hI0 : Hid (PiI w w2 (.slice none 0 0) [] w2) := ⟨Below.refl _ _,World.ownsRow_nil _ _ _ _⟩
 go_loopw [5,15] (fun v5 v15 wr => ∃ (k : Nat) (va : Option Addr) (vc : Nat),k ≤ L.length ∧ v15 = .int .i64 k ∧ v5 = .slice va k vc ∧ Hid (PiI w w2 (.slice va k vc) (L.take k) wr)) (fun _ v15 _ => L.length - (intOf v15).toNat)
 case atStart => exact ⟨0,none,0,by omega,rfl,rfl,hI0⟩
 case round =>
  obtain ⟨k,va,vc,hk,rfl,rfl,hI⟩ := hrel
  clear hI0
  by_cases hlt : k < L.length
  ·have hlt' : (k : Int) < (L.length : Int) := by omega
   obtain ⟨b,o,rfl,hbl,hrg⟩ := its_range (hvh.out.below hI.out.low (Nat.le_refl _)) hlt
   have hwd := hWh.out k hlt
   have hlen : Hid ((L.take k).length = k) := by show _ = _; rw [List.length_take]; omega
   have hI1 : Hid (PiI w w2 (.slice va (L.take k).length vc) (L.take k) wr) := by rw [hlen.out]; exact hI.out
   have hnx : Hid (∀ W v,PiI w w2 v (L.take k ++ [L[k]]) W → PiI w w2 v (L.take (k + 1)) W) := fun W v h => by rw [List.take_add_one,List.getElem?_eq_getElem hlt]; exact h
   have hz : (wr.alloc (.cells (itL pz0).toArray 68)).heap[wr.heap.size]? = some (.cells (itL pz0).toArray 68 (0,0)) := World.alloc_heap_new wr _
   clear hend hI hWh hvh
   generalize hx : L[k] = x at *
   have hgt : ¬ (524288 : Int) < x.w := by omega
   have hz0 : (wr.alloc (.cells #[.int .i64 0,.int .i64 0,.int .i64 0,.int .i64 0,.int .i64 0,.int .i64 0,.int .i64 0,.bool false] 68)).heap[wr.heap.size]? = some (.cells #[.int .i64 0,.int .i64 0,.int .i64 0,.int .i64 0,.int .i64 0,.int .i64 0,.int .i64 0,.bool false] 68 (0,0)) := hz
   have hlo : Hid (w2.heap.size ≤ wr.heap.size) := hI1.out.low.size
   have hqn : Hid ((L.take k).length ≤ 9000) := by have := hlen.out; show _ ≤ _; omega
   clear hz
   go_wp2_with (first | (refine wpList_load_mid rfl 68 _ rfl b (o + k * 8) rfl (itL x) _ hrg Tryz.underlying68 rfl (info80l x) ?_) | (refine wpList_store_row rfl 68 _ _ rfl wr.heap.size (itL x).toArray rfl rfl 68 _ hz0 (info80 x) rfl (itL_all x) ?_; have hz1 : ((wr.alloc (.cells #[.int .i64 0,.int .i64 0,.int .i64 0,.int .i64 0,.int .i64 0,.int .i64 0,.int .i64 0,.bool false] 68)).setRow wr.heap.size (itL x).toArray).heap[wr.heap.size]? = some (.cells (itL x).toArray 68 (0,0)) := setRow_heap _ _ _ _ _ _ hz0; have hIs : Hid (PiI w w2 (.slice va (L.take k).length vc) (L.take k) ((wr.alloc (.cells #[.int .i64 0,.int .i64 0,.int .i64 0,.int .i64 0,.int .i64 0,.int .i64 0,.int .i64 0,.bool false] 68)).setRow wr.heap.size (itL x).toArray)) := hI1.out.box; clear hz0 hI1 hrg; generalize (wr.alloc (.cells #[.int .i64 0,.int .i64 0,.int .i64 0,.int .i64 0,.int .i64 0,.int .i64 0,.int .i64 0,.bool false] 68)).setRow wr.heap.size (itL x).toArray = w5 at *; generalize wr.heap.size = g7 at *; have c3 : w5.cell? ⟨g7,3,none⟩ = some (.int .i64 x.w) := (Lib.cell_of_heap hz1 _).trans rfl; have hle5 : w2.heap.size ≤ w5.heap.size := hIs.out.low.size))
   go_loopw [5] (fun v5 wq => v5 = .slice va k vc ∧ wq = w5) (fun _ _ => 0)
   case atStart => exact ⟨rfl,rfl⟩
   case round =>
    obtain ⟨rfl,hwq⟩ := hrel
    subst hwq
    go_wp2_with (first | (refine wpList_load_row rfl 68 _ rfl g7 rfl 68 _ (0,0) _ hz1 Tryz.underlying68 rfl (info80 x) ?_) | (refine wpList_build80 rfl _ rfl x rfl ?_) | (refine wpList_app1 (k := 8) (f := itL) (w0 := wr) (bytes := 64) rfl el80 itL_len itL_one (by omega) (by omega) _ _ rfl w2.heap.size (.slice va (L.take k).length vc) (L.take k) x (by rw [hlen.out]; rfl) hIs.out.row hle5 hqn.out rfl rfl ?_; intro v' w6 hr6 hb6; obtain ⟨g6,cap6,rfl,-,-,-⟩ := row_rb itL_len hr6 (by simp); have hI6 : Hid (PiI w w2 (.slice (some ⟨g6,0,none⟩) (L.take k ++ [x]).length cap6) (L.take k ++ [x]) w6) := hIs.out.app hr6 hb6; clear hr6 hb6 hIs hle5))
    refine ⟨⟨k + 1,some ⟨g6,0,none⟩,cap6,by omega,rfl,rfl,?_⟩,by simp [intOf]; omega⟩
    have h := hnx.out _ _ hI6.out
    rw [show (L.take k ++ [x]).length = k + 1 by rw [List.length_append,hlen.out]; rfl] at h
    exact h
  ·have hge : ¬ (k : Int) < (L.length : Int) := by omega
   have hkn : k = L.length := by omega
   subst hkn
   clear hWh hvh
   go_wp2_with fail
   refine hend.out _ _ (hb2h.out.trans (hI.out.low.mono hb2h.out.size)) ?_
   have := hI.out.row
   rw [List.take_length] at this
   exact rec_of_row itL_len rfl this
end Go.Proofs.YtfiekhephkpdjaaGreatDoor

namespace Go.Proofs.YtfiekhephkpdjaaGreatDoor
open Go.RowKit Go.Shelf
set_option maxRecDepth 100000
set_option maxHeartbeats 2000000

theorem fbegin1_any (x : It) (w : World) : Calls Tryz.prog 147 #[.agg (itL x).toArray] w fun e w' => e = .returned (.bool (!(x.k == 2))) ∧ Below w.heap.size w w' := by
 obtain ⟨k0,f0,t0,w0,s0,h0,q0,y0⟩ := x
 have hB := (Below.refl w.heap.size w).alloc (Nat.le_refl _) (.cells #[.int .i64 k0,.int .i64 f0,.int .i64 t0,.int .i64 w0,.int .i64 s0,.int .i64 h0,.int .i64 q0,.bool y0] 68)
 show Calls Tryz.prog 147 #[.agg #[.int .i64 k0,.int .i64 f0,.int .i64 t0,.int .i64 w0,.int .i64 s0,.int .i64 h0,.int .i64 q0,.bool y0]] w _
 go_enter Tryz.func147,Tryz.ntmps147
 go_wp2_with fail
 go_ret
 exact ⟨rfl,hB⟩
theorem fbindex_any (v : Value) (l : List It) (hl : l.length ≤ 9223372036854775807) (w : World) (hS : ItsAt w v l) :
  Calls Tryz.prog 60 #[v,.func (.func 147) #[] #[]] w fun e w' => (∃ n : Int,e = .returned (.int .i64 n) ∧ (if n < 0 then (l.length : Int) else n) = (sk l 0 : Nat)) ∧ Below w.heap.size w w' := by
 obtain ⟨a,cap,rfl,-⟩ := hS.ex
 have hY : Hid (∀ k (hk : k < l.length),(∀ j,j < k → (itAt l j).k = 2) → (l[k].k == 2) = false → (if ((k : Nat) : Int) < 0 then (l.length : Int) else (k : Nat)) = (sk l 0 : Nat)) := fun k hk h1 e => by
  rw [if_neg (by omega)]
  congr 1
  exact (sk_at _ 0 k (by omega) hk (by omega) (fun j _ h => h1 j h) (by rw [itAt_is hk]; simpa using e)).symm
 have hN : Hid ((∀ j,j < l.length → (itAt l j).k = 2) → (if (-1 : Int) < 0 then (l.length : Int) else -1) = (sk l 0 : Nat)) := fun h => by
  rw [if_pos (by decide)]
  congr 1
  exact (sk_all _ 0 (by omega) (by omega) (fun j _ hj => h j hj)).symm
 have hSh : Hid (ItsAt w (.slice a l.length cap) l) := hS
 clear hS
 generalize sk l 0 = r at hY hN ⊢
 go_enter Tryz.func60,Tryz.ntmps60
 go_wp2_with fail
 go_loopw [8] (fun i wr => ∃ (k : Nat),k ≤ l.length ∧ i = .int .i64 k ∧ Below w.heap.size w wr ∧ Hid (∀ j,j < k → (itAt l j).k = 2)) (fun i _ => l.length - (intOf i).toNat)
 case atStart => exact ⟨0,by omega,rfl,Below.refl _ _,fun j hj => by omega⟩
 case round =>
  obtain ⟨k,hk,rfl,hb,hall⟩ := hrel
  by_cases hlt : k < l.length
  ·obtain ⟨b,o,rfl,hbl,hit⟩ := its_at hSh.out hlt
   have hi := hit wr hb
   have c0 := hi.c0
   have c1 := hi.c1
   have c2 := hi.c2
   have c3 := hi.c3
   have c4 := hi.c4
   have c5 := hi.c5
   have c6 := hi.c6
   have c7 := hi.c7
   have hlt' : (k : Int) < l.length := by omega
   have hm := fbegin1_any l[k] wr
   have hyes : Hid ((l[k].k == 2) = false → (if ((k : Nat) : Int) < 0 then (l.length : Int) else (k : Nat)) = (r : Nat)) := hY.out k hlt hall.out
   have hno : Hid ((l[k].k == 2) = true → ∀ j,j < k + 1 → (itAt l j).k = 2) := fun hv j hjk => by
    by_cases h : j < k
    ·exact hall.out j h
    ·obtain rfl : j = k := by omega
     rw [itAt_is hlt]; simpa using hv
   clear hY hN hall hit hSh hi
   generalize l[k] = it at *
   obtain ⟨k0,f0,t0,w0,s0,h0,q0,y0⟩ := it
   simp only at c0 c1 c2 c3 c4 c5 c6 c7 hm hyes hno
   have hm' : Hid (Calls Tryz.prog 147 #[.agg #[.int .i64 k0,.int .i64 f0,.int .i64 t0,.int .i64 w0,.int .i64 s0,.int .i64 h0,.int .i64 q0,.bool y0]] wr fun e w' => e = .returned (.bool (!(k0 == 2))) ∧ Below wr.heap.size wr w') := hm
   clear hm
   cases hv : (k0 == 2) with
   | false =>
    have hn' : Hid ((if ((k : Nat) : Int) < 0 then (l.length : Int) else (k : Nat)) = (r : Nat)) := hyes.out hv
    rw [hv] at hm'
    clear hyes hno hv
    go_wp2_with (go_at_call 147; refine hm'.out.mono ?_; rintro e w' ⟨rfl,hb2⟩)
    go_ret
    exact ⟨⟨_,rfl,hn'.out⟩,hb.trans (hb2.mono hb.size)⟩
   | true =>
    have hn : Hid (∀ j,j < k + 1 → (itAt l j).k = 2) := hno.out hv
    rw [hv] at hm'
    clear hyes hno hv
    go_wp2_with (go_at_call 147; refine hm'.out.mono ?_; rintro e w' ⟨rfl,hb2⟩)
    go_roundw
    case rel => exact ⟨k + 1,by omega,by simp,hb.trans (hb2.mono hb.size),hn⟩
    case measure => simp [intOf]; omega
  ·have hn' : Hid ((if (-1 : Int) < 0 then (l.length : Int) else -1) = (r : Nat)) := hN.out (fun j hj => hall.out j (by omega))
   have hge : ¬ (k : Int) < l.length := by omega
   clear hY hN hall hSh
   go_wp2_with fail
   go_ret
   exact ⟨⟨_,rfl,hn'.out⟩,hb⟩

theorem fbegin_any (v : Value) (l : List It) (hl : l.length ≤ 9223372036854775807) (w : World) (hS : ItsAt w v l) :
  Calls Tryz.prog 108 #[v] w fun e w' => e = .returned (.int .i64 (sk l 0 : Nat)) ∧ Below w.heap.size w w' := by
 have hi : Hid (Calls Tryz.prog 60 #[v,.func (.func 147) #[] #[]] w fun e w' => (∃ n : Int,e = .returned (.int .i64 n) ∧ (if n < 0 then (l.length : Int) else n) = (sk l 0 : Nat)) ∧ Below w.heap.size w w') := fbindex_any v l hl w hS
 obtain ⟨a,cap,rfl,-⟩ := hS.ex
 clear hS
 generalize sk l 0 = r at *
 go_enter Tryz.func108,Tryz.ntmps108
 go_wp2_with (go_at_call 60; refine hi.out.mono ?_; rintro e w' ⟨⟨n,rfl,hn⟩,hb2⟩)
 all_goals (go_ret; first | (rw [if_pos (by omega)] at hn; exact ⟨by rw [← hn]; rfl,hb2⟩) | (rw [if_neg (by omega)] at hn; exact ⟨by rw [← hn]; rfl,hb2⟩))

theorem low22 (a : Option Addr) (n cap f : Nat) (h1 : f ≤ n) (h2 : n ≤ cap) : ∃ a',(∀ W : World,(Instr.slice 48 (.slice a n cap) (some (.int .i64 (f : Int))) none none).run Tryz.prog W = .ok (.slice a' (n - f) (cap - f)) W) ∧ ∀ b o,a = some ⟨b,o,none⟩ → f < n → a' = some ⟨b,o + f * 8,none⟩ := by
 have he : Tryz.prog.elem 48 = 68 := by kernel_rfl
 have hu : Tryz.prog.underlying 48 = some (.slice (Tryz.prog.elem 48)) := by rw [he]; exact Tryz.underlying48
 have hr := fun W => run_slice_l (P := Tryz.prog) (w := W) 48 a n cap hu .i64 f (by omega) (by omega)
 have hs : ∀ W,(sizeOf (Tryz.prog.elem 48)).run Tryz.prog W = .ok 8 W := fun W => by kernel_rfl
 simp only [hs,Result.andThen,sliced,Int.toNat_natCast] at hr
 refine ⟨_,hr,fun b o e hlt => ?_⟩
 rw [if_neg (by omega),e]
 simp [addr_add]
theorem upTo_any (a : Option Addr) (n cap b : Nat) (hb : b ≤ n) (hn : n ≤ 8192) (hc : n ≤ cap) (w : World) :
  Calls Tryz.prog 176 #[.slice a n cap,.int .i64 b] w fun e w' => e = .returned (.slice a (min (b + 1) n) cap) ∧ w' = w := by
 have h1 : (b : Int) ≤ n := by omega
 have h2 : (n : Int) ≤ 8192 := by omega
 have h3 : (n : Int) ≤ cap := by omega
 by_cases h : b < n
 ·rw [Nat.min_eq_left (by omega)]
  have h' : (b : Int) + 1 ≤ n := by omega
  have h'' : (b : Int) + 1 ≤ cap := by omega
  go_enter Tryz.func176,Tryz.ntmps176
  go_wp2_with fail
  all_goals (first | (exfalso; omega) | (go_ret; exact ⟨rfl,rfl⟩))
 ·obtain rfl : b = n := by omega
  rw [Nat.min_eq_right (by omega)]
  go_enter Tryz.func176,Tryz.ntmps176
  go_wp2_with fail
  all_goals (first | (exfalso; omega) | (go_ret; exact ⟨rfl,rfl⟩))
theorem flegal_any (v : Value) (l : List It) (b : Nat) (h : ckL l = 0) (h0 : 0 < b) (hb : b ≤ l.length) (w : World) (hS : ItsAt w v l) :
  Calls Tryz.prog 148 #[v,.int .i64 b] w fun e w' => e = .returned (.bool (enB l b)) ∧ Below w.heap.size w w' := by
 obtain ⟨a,cap,rfl,-⟩ := hS.ex
 have hle := hS.le _ _ _ rfl
 have h8 := ck_len h
 have hm : min (b + 1) l.length ≤ l.length := Nat.min_le_right _ _
 have hmb : b - 1 ≤ min (b + 1) l.length := by omega
 obtain ⟨a',hr,ha'⟩ := low22 a (min (b + 1) l.length) cap (b - 1) hmb (by omega)
 have hI := sub_its hS hmb hm (fun g o e h => ha' g o e h)
 have hu : Hid (Calls Tryz.prog 176 #[.slice a l.length cap,.int .i64 b] w fun e w' => e = .returned (.slice a (min (b + 1) l.length) cap) ∧ w' = w) := upTo_any a l.length cap b hb h8 hle w
 have hL : Hid (Calls Tryz.prog 135 #[.slice a' (min (b + 1) l.length - (b - 1)) (cap - (b - 1)),.int .i64 1] w fun e w' => e = .returned (.bool (enB l b)) ∧ Below w.heap.size w w') := by
  have := legal_any _ _ 1 w hI
  rw [sub_legal h h0 hb] at this
  exact this
 have hr1 : (Instr.slice 48 (.slice a (min (b + 1) l.length) cap) (some (.int .i64 ((b : Int) - 1))) none none).run Tryz.prog w = .ok (.slice a' (min (b + 1) l.length - (b - 1)) (cap - (b - 1))) w := by
  have := hr w
  rwa [show ((b - 1 : Nat) : Int) = (b : Int) - 1 by omega] at this
 have h1' : (1 : Int) ≤ b := by omega
 have hb' : (b : Int) ≤ 8192 := by omega
 clear hI hS hr ha' hmb hm h h8 hle
 generalize min (b + 1) l.length = m at *
 generalize enB l b = q at *
 go_enter Tryz.func148,Tryz.ntmps148
 go_wp2_with (first | (go_at_call 176; refine hu.out.mono ?_; rintro e w' ⟨rfl,rfl⟩) | (go_at_call 135; refine hL.out.mono ?_; rintro e w' ⟨rfl,hb2⟩))
 go_ret
 exact ⟨rfl,hb2⟩
theorem fwidth_any (v : Value) (l : List It) (A b : Nat) (x : Int) (h : ckL l = 0) (h0 : A ≤ b) (hb : b ≤ l.length) (hx : 0 ≤ x ∧ x ≤ 4095) (w : World) (hS : ItsAt w v l) :
  Calls Tryz.prog 149 #[v,.int .i64 A,.int .i64 b,.int .i64 x] w fun e w' => e = .returned (.int .i64 (ntV l A b x)) ∧ Below w.heap.size w w' := by
 obtain ⟨a,cap,rfl,-⟩ := hS.ex
 have hle := hS.le _ _ _ rfl
 have h8 := ck_len h
 have hm : min (b + 1) l.length ≤ l.length := Nat.min_le_right _ _
 have hmb : A ≤ min (b + 1) l.length := by omega
 obtain ⟨a',hr,ha'⟩ := low22 a (min (b + 1) l.length) cap A hmb (by omega)
 have hI := sub_its hS hmb hm (fun g o e h => ha' g o e h)
 have hu : Hid (Calls Tryz.prog 176 #[.slice a l.length cap,.int .i64 b] w fun e w' => e = .returned (.slice a (min (b + 1) l.length) cap) ∧ w' = w) := upTo_any a l.length cap b hb h8 hle w
 have hL : Hid (Calls Tryz.prog 177 #[.slice a' (min (b + 1) l.length - A) (cap - A),.int .i64 0,.int .i64 ((b : Int) - A),.int .i64 x] w fun e w' => (∃ er,e = .returned (.tuple #[.int .i64 (ntV l A b x),.int .i64 er])) ∧ Below w.heap.size w w') := by
  have := iwidth_any _ _ 0 ((b - A : Nat) : Int) x w hI
  rw [sub_width h hx h0 hb] at this
  rw [show ((b - A : Nat) : Int) = (b : Int) - A by omega] at this
  exact this.mono fun e w' h => ⟨⟨_,h.1⟩,h.2⟩
 have hr1 : (Instr.slice 48 (.slice a (min (b + 1) l.length) cap) (some (.int .i64 (A : Int))) none none).run Tryz.prog w = .ok (.slice a' (min (b + 1) l.length - A) (cap - A)) w := hr w
 have h1' : (A : Int) ≤ b := by omega
 have hb' : (b : Int) ≤ 8192 := by omega
 clear hI hS hr ha' hmb hm h h8 hle
 generalize min (b + 1) l.length = m at *
 generalize ntV l A b x = q at *
 go_enter Tryz.func149,Tryz.ntmps149
 go_wp2_with (first | (go_at_call 176; refine hu.out.mono ?_; rintro e w' ⟨rfl,rfl⟩) | (go_at_call 177; refine hL.out.mono ?_; rintro e w' ⟨⟨er,rfl⟩,hb2⟩))
 go_ret
 exact ⟨rfl,hb2⟩
theorem fnext_any (v : Value) (l : List It) (b : Nat) (h : ckL l = 0) (hb : b ≤ l.length) (w : World) (hS : ItsAt w v l) :
  Calls Tryz.prog 110 #[v,.int .i64 b] w fun e w' => e = .returned (.int .i64 (bgN l b : Nat)) ∧ Below w.heap.size w w' := by
 obtain ⟨a,cap,rfl,-⟩ := hS.ex
 have hle := hS.le _ _ _ rfl
 have h8 := ck_len h
 obtain ⟨a',hr,ha'⟩ := low22 a l.length cap b hb (by omega)
 have hI := sub_its hS hb (Nat.le_refl _) (fun g o e h => ha' g o e h)
 have hst := sub_start h hb
 have hbg := bg_le hb
 have hL : Hid (Calls Tryz.prog 150 #[.slice a' (l.length - b) (cap - b),.int .i64 0] w fun e w' => (∃ er s,e = .returned (.tuple #[.int .i64 s,.int .i64 er]) ∧ (b : Int) + s = (bgN l b : Nat)) ∧ Below w.heap.size w w') := by
  have := start_any _ _ 0 w hI
  exact this.mono fun e w' h => ⟨⟨_,_,h.1,hst⟩,h.2⟩
 have hr1 : (Instr.slice 48 (.slice a l.length cap) (some (.int .i64 (b : Int))) none none).run Tryz.prog w = .ok (.slice a' (l.length - b) (cap - b)) w := hr w
 have hq : (bgN l b : Int) ≤ 8192 := by omega
 have hq0 : (b : Int) ≤ 8192 := by omega
 clear hI hS hr ha' h h8 hle hst hbg
 generalize bgN l b = q at *
 go_enter Tryz.func110,Tryz.ntmps110
 go_wp2_with (go_at_call 150; refine hL.out.mono ?_; rintro e w' ⟨⟨er,s,rfl,hs⟩,hb2⟩; have hs1 : Hid ((b : Int) + s = q) := hs; have hs2 : (b : Int) + s ≤ 8192 := (by omega); have hs3 : 0 ≤ (b : Int) + s := (by omega); clear hs)
 go_ret
 exact ⟨by rw [← hs1.out]; rfl,hb2⟩
end Go.Proofs.YtfiekhephkpdjaaGreatDoor
