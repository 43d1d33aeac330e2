/-
  What is proved here: both Between answer alike, what they answer may be written to.
  What is proved here: TableBetween answers true of any row.
  What is proved here: how lists of masses and paragraphs that are handed in look.
  What is proved here: how a row that is handed in looks.
-/
import Derived.Test.YtaphggjakaghjaaGreatDoorG39
import Derived.Test.YtaphggjakaghjaaGreatDoorG38
import Derived.Test.YtaphggjakaghjaaGreatDoorRows
import Derived.Shelf.Abstract
import Derived.WalkKit
import Derived.WalkSpells
import Derived.LoopN
import Derived.Test.YtaphggjakaghjaaGreatDoorG2
import Derived.Lib.Bytealg
import Derived.Test.YtaphggjakaghjaaGreatDoorG6
import Derived.OrdersHeld
import Derived.BigQuiet
import Derived.RangeFuncNested
import Derived.Deep.Draws
import Derived.OwnWalkIn
import Derived.RangeFuncBox
import Derived.Lib.AppendStr
import Derived.RangeFuncBound
import Derived.RangeFuncCalls
import Derived.RangeFuncLeaves
import Derived.Shelf.RegionOpen
import Derived.TacticsInMore
import Derived.LoopNIn
import Derived.LoopIn
import Derived.Lib.Builder
import Derived.Maps.AppendAt
import Derived.BigRegion
import Derived.Deep.QuietTactic
import Derived.ProofKit
import Derived.OpenShut
import Derived.ChangeOld
import Derived.Below
import Derived.Deep.Slices
import Derived.SizedLaws
namespace Go.Proofs.YtaphggjakaghjaaGreatDoor
open Go.RowKit Go.Shelf

theorem cover_nil (base : Nat) (w : World) : Calls Tryz.prog 16 #[.slice none 0 0] w (OcEnd base w) := by
 have hend : Hid (∀ W,Turns (fun k => base ≤ k) w W → OcEnd base w (.returned (.tuple #[])) W) := fun W h1 => ⟨rfl,h1⟩
 generalize OcEnd base w = E at *
 go_enter Tryz.func16,Tryz.ntmps16
 go_wp2_with fail
 go_loopw [2] (fun i wr => i = .int .i64 0 ∧ Hid (wr = w)) (fun i _ => 0)
 case atStart => exact ⟨rfl,rfl⟩
 case round =>
  obtain ⟨rfl,hw⟩ := hrel
  obtain rfl := hw.out
  go_wp2_with fail
  first
   | exact hend.out _ (Turns.refl _ _)
   | (go_returns; exact hend.out _ (Turns.refl _ _))
structure RowM (w : World) (ss : List Int) (cs : List Cel) (sv cv : Value) : Prop where
 s : RecAt 1 inL w sv ss
 c : RecAt 3 ceL w cv cs
 l : ∀ c ∈ cs,LxsAt w c.v c.ls
theorem RowM.below {n : Nat} {w W : World} {ss : List Int} {cs : List Cel} {sv cv : Value} (h : RowM w ss cs sv cv) (hb : Below n w W) (hn : w.heap.size ≤ n) : RowM W ss cs sv cv :=
 ⟨h.s.below hb hn,h.c.below hb hn,fun c hc => (h.l c hc).below hb hn⟩
structure Twin (cs ds : List Cel) : Prop where
 n : ds.length = cs.length
 i : ∀ i (h : i < cs.length) (h' : i < ds.length),ds[i].x = cs[i].x ∧ ds[i].w = cs[i].w ∧ ds[i].ls = cs[i].ls
theorem Twin.of_jn {cs d : List Cel} (hd : d.length = cs.length) (h : ∀ i (h : i < d.length),JnIs (cs.getD i ce0) ((([] : List Cel)).getD i ce0) d[i]) : Twin cs d := by
 refine ⟨hd,fun i h1 h2 => ?_⟩
 have hg : cs.getD i ce0 = cs[i] := by rw [List.getD_eq_getElem?_getD,List.getElem?_eq_getElem h1]; rfl
 obtain ⟨e1,e2,e3⟩ := h i h2
 rw [hg] at e1 e2 e3
 exact ⟨e1,e2,e3.trans (List.append_nil _)⟩
structure BtB (base : Nat) (w : World) (va vb : Value) (ea : Int) : Prop where
 same : ∀ W,Below w.heap.size w W → Calls Tryz.prog 23 #[va,vb] W fun e w' => e = .returned (.bool true) ∧ Below W.heap.size W w'
 over : ∀ W,Below w.heap.size w W → Calls Tryz.prog 16 #[va] W (OcEnd base W)
 a : ∃ p n c,va = .slice p n c
 b : ∃ p n c,vb = .slice p n c
theorem both_bt (h : Int) (sv cv sv' cv' : Value) (ss ss' : List Int) (cs ds : List Cel) (f t : Int) (w : World) (hn : cs.length ≤ 400) (hls : ∀ c ∈ cs,c.ls.length ≤ 8000) (hR : RowM w ss cs sv cv) (hR' : RowM w ss' ds sv' cv') (hT : Twin cs ds) :
  Calls Tryz.prog 21 #[.agg #[.int .i64 h,sv',cv'],.int .i64 f,.int .i64 t] w fun e w1 => ∃ (va : Value) (ea : Int),e = .returned (.tuple #[va,.int .i64 ea]) ∧ (∃ p n c,va = .slice p n c) ∧ Below w.heap.size w w1 ∧ ∀ W,Below w1.heap.size w1 W → Calls Tryz.prog 22 #[.agg #[.int .i64 h,sv,cv],.int .i64 f,.int .i64 t] W fun e w2 => ∃ vb,e = .returned (.tuple #[vb,.int .i64 ea]) ∧ BtB w.heap.size w2 va vb ea ∧ Below W.heap.size W w2 := by
 by_cases hr : 0 ≤ f ∧ f ≤ t ∧ t ≤ h
 ·have hlsd : ∀ c ∈ ds,c.ls.length ≤ 8000 := fun c hc => by
   obtain ⟨i,hi,rfl⟩ := List.getElem_of_mem hc
   have hi' : i < cs.length := by rw [← hT.n]; exact hi
   rw [(hT.i i hi' hi).2.2]
   exact hls _ (List.getElem_mem hi')
  refine (between_k h sv' cv' ds f t hr (by rw [hT.n]; exact hn) hlsd w hR'.c hR'.l).mono ?_
  rintro e w1 ⟨⟨g,lo,d,hg,hlo,rfl,hrb,hd,hq⟩,hb1⟩
  refine ⟨_,0,rfl,⟨_,_,_,rfl⟩,hb1,fun W hbW => ?_⟩
  have hbw := hb1.trans (hbW.mono hb1.size)
  have hRW := hR.below hbw (Nat.le_refl _)
  refine (rb_yes h sv cv cs f t hr hn hls W hRW.c hRW.l).mono ?_
  rintro e w2 ⟨⟨vb,d',rfl,hd',hrec,hq'⟩,hb2⟩
  have hb12 := hbW.trans (hb2.mono hbW.size)
  have hdn : d.length = cs.length := by rw [hd,hT.n]
  obtain ⟨pb,cb,hvb⟩ : ∃ a c,vb = .slice a d'.length c := by obtain ⟨a,c,h,_⟩ := hrec.ex; exact ⟨a,c,h⟩
  refine ⟨vb,rfl,⟨fun W3 hb3 => ?_,fun W3 hb3 => ?_,⟨_,_,_,rfl⟩,⟨_,_,_,hvb⟩⟩,hb2⟩
  ·have hb13 := hb12.trans (hb3.mono hb12.size)
   have hra := hrb.recs (n := d.length) (cap := d.length) (Nat.le_refl _) (Nat.le_refl _)
   rw [List.take_length,hd] at hra
   refine sameCells_yes _ vb d d' W3 (by omega) (by omega) (hra.below hb13 (Nat.le_refl _)) (hrec.below hb3 (Nat.le_refl _)) (fun c hc => ?_) (fun i h1 h2 => ?_) (fun c hc => ?_) (fun c hc => ?_)
   ·obtain ⟨i,hi,rfl⟩ := List.getElem_of_mem hc
    rw [(hq i hi).1.ls]
    have h1 := wiN_le (ds.getD i ce0).ls f t (ds.getD i ce0).ls.length
    have hi' : i < ds.length := by omega
    have hg : ds.getD i ce0 = ds[i] := by rw [List.getD_eq_getElem?_getD,List.getElem?_eq_getElem hi']; rfl
    have h2 := hlsd _ (List.getElem_mem hi')
    unfold wiL
    rw [hg] at h1 ⊢
    omega
   ·have hi1 : i < cs.length := by omega
    have hi2 : i < ds.length := by omega
    have hg1 : cs.getD i ce0 = cs[i] := by rw [List.getD_eq_getElem?_getD,List.getElem?_eq_getElem hi1]; rfl
    have hg2 : ds.getD i ce0 = ds[i] := by rw [List.getD_eq_getElem?_getD,List.getElem?_eq_getElem hi2]; rfl
    obtain ⟨x1,x2,x3⟩ := (hq i h1).1
    obtain ⟨y1,y2,y3⟩ := (hq' i h2).1
    obtain ⟨z1,z2,z3⟩ := hT.i i hi1 hi2
    rw [hg2] at x1 x2 x3
    rw [hg1] at y1 y2 y3
    exact ⟨by rw [x1,y1,z1],by rw [x2,y2,z2],by rw [x3,y3,z3]⟩
   ·obtain ⟨i,hi,rfl⟩ := List.getElem_of_mem hc
    exact (rec_of_row lxL_len rfl (hq i hi).2.row).below hb13 (Nat.le_refl _)
   ·obtain ⟨i,hi,rfl⟩ := List.getElem_of_mem hc
    exact (hq' i hi).2.below hb3 (Nat.le_refl _)
  ·have hb13 := hb12.trans (hb3.mono hb12.size)
   refine cover_any w.heap.size lo g ds.length ds.length hg hlo d hd (by rw [hT.n]; exact hn) W3 (hrb.below hb13 hrb.lt) (fun c hc => ?_)
   obtain ⟨i,hi,rfl⟩ := List.getElem_of_mem hc
   have := (hq i hi).2.below hb13
   exact OLv.of this.row this.kin
 ·refine (between_no h sv' cv' f t hr w).mono ?_
  rintro e w1 ⟨rfl,hb1⟩
  refine ⟨_,5,rfl,⟨_,_,_,rfl⟩,hb1,fun W hbW => ?_⟩
  refine (rb_no h sv cv f t hr W).mono ?_
  rintro e w2 ⟨rfl,hb2⟩
  have hnil : ∀ W3,RecAt 3 ceL W3 (.slice none 0 0) ([] : List Cel) := fun W3 => ⟨⟨none,0,rfl,.inl rfl⟩,fun a n c e => by cases e; exact Nat.le_refl _⟩
  refine ⟨_,rfl,⟨fun W3 _ => ?_,fun W3 _ => cover_nil _ W3,⟨_,_,_,rfl⟩,⟨_,_,_,rfl⟩⟩,hb2⟩
  exact sameCells_yes _ _ [] [] W3 (by simp) rfl (hnil W3) (hnil W3) (fun c hc => by simp at hc) (fun i h1 => by simp at h1) (fun c hc => by simp at hc) (fun c hc => by simp at hc)
end Go.Proofs.YtaphggjakaghjaaGreatDoor

namespace Go.Proofs.YtaphggjakaghjaaGreatDoor
open Go.RowKit Go.Shelf
set_option maxRecDepth 100000
set_option maxHeartbeats 4000000

theorem build39 (h : Int) (a p : Option Addr) (n c m k : Nat) (W : World) : (Instr.buildSlice 27 1 #[(0,.agg #[.int .i64 h,.slice a n c,.slice p m k])]).run Tryz.prog W = .ok (.slice (some ⟨W.heap.size,0,none⟩) 1 1) (W.alloc (.cells #[.int .i64 h,.slice a n c,.slice p m k] 39)) := by
 kernel_rfl
theorem wpList_build39 {ops : Array Oper} {rest : List Oper} {oi : Oper} {a : Act} {w : World} {Q : Exit → Act → World → Prop} (hgd : oi.guard = none) (z : Operand) (ho : oi.op = .buildSlice 27 1 #[(0,z)]) (h : Int) (s p : Option Addr) (n c m k : Nat) (hy : a.eval z = .agg #[.int .i64 h,.slice s n c,.slice p m k])
  (hN : wpList Tryz.prog ops Q rest (a.put oi.dst (.slice (some ⟨w.heap.size,0,none⟩) 1 1)) (w.alloc (.cells #[.int .i64 h,.slice s n c,.slice p m k] 39))) : wpList Tryz.prog ops Q (oi :: rest) a w :=
 wpList_plain hgd fun _ hK => by
  have hr := build39 h s p n c m k w
  unfold Oper.wp execOp
  simp only [ho,List.map_toArray,List.map_cons,List.map_nil,hy,Sem.run_bind,Sem.run_pure,Result.andThen_ok,hr]
  exact hK _ _ hN
theorem Twin.symm {cs ds : List Cel} (h : Twin cs ds) : Twin ds cs := ⟨h.n.symm,fun i h1 h2 => by obtain ⟨a,b,c⟩ := h.i i h2 h1; exact ⟨a.symm,b.symm,c.symm⟩⟩
theorem sr_end (h : Int) (ss : List Int) (cs ds : List Cel) (sa sa' ca ca' : Option Addr) (sn sc sc' cn cc cc' : Nat) (w : World) (hss : ss.length ≤ 140737488355328) (hn : cs.length ≤ 400) (hls : ∀ c ∈ cs,c.ls.length ≤ 8000) (hR : RowM w ss cs (.slice sa sn sc) (.slice ca cn cc)) (hR' : RowM w ss ds (.slice sa' sn sc') (.slice ca' cn cc')) (hT : Twin cs ds) :
  Calls Tryz.prog 13 #[.slice (some ⟨w.heap.size,0,none⟩) 1 1,.slice (some ⟨w.heap.size + 1,0,none⟩) 1 1] ((w.alloc (.cells #[.int .i64 h,.slice sa' sn sc',.slice ca' cn cc'] 39)).alloc (.cells #[.int .i64 h,.slice sa sn sc,.slice ca cn cc] 39)) fun e w' => e = .returned (.bool true) ∧ Below w.heap.size w w' := by
 have hB1 := (Below.refl w.heap.size w).alloc (Nat.le_refl _) (.cells #[.int .i64 h,.slice sa' sn sc',.slice ca' cn cc'] 39)
 have hB2 := hB1.alloc hB1.size (.cells #[.int .i64 h,.slice sa sn sc,.slice ca cn cc] 39)
 have s1 : (w.alloc (.cells #[.int .i64 h,.slice sa' sn sc',.slice ca' cn cc'] 39)).heap.size = w.heap.size + 1 := World.size_alloc _ _
 have y1 : ((w.alloc (.cells #[.int .i64 h,.slice sa' sn sc',.slice ca' cn cc'] 39)).alloc (.cells #[.int .i64 h,.slice sa sn sc,.slice ca cn cc] 39)).heap[w.heap.size]? = some (.cells #[.int .i64 h,.slice sa' sn sc',.slice ca' cn cc'] 39 (0,0)) := (Below.heap_alloc _ _ _ (by omega)).trans (World.alloc_heap_new w _)
 have y2 : ((w.alloc (.cells #[.int .i64 h,.slice sa' sn sc',.slice ca' cn cc'] 39)).alloc (.cells #[.int .i64 h,.slice sa sn sc,.slice ca cn cc] 39)).heap[w.heap.size + 1]? = some (.cells #[.int .i64 h,.slice sa sn sc,.slice ca cn cc] 39 (0,0)) := by rw [← s1]; exact World.alloc_heap_new _ _
 have s2 : ((w.alloc (.cells #[.int .i64 h,.slice sa' sn sc',.slice ca' cn cc'] 39)).alloc (.cells #[.int .i64 h,.slice sa sn sc,.slice ca cn cc] 39)).heap.size = w.heap.size + 2 := by rw [World.size_alloc,s1]
 generalize (w.alloc (.cells #[.int .i64 h,.slice sa' sn sc',.slice ca' cn cc'] 39)).alloc (.cells #[.int .i64 h,.slice sa sn sc,.slice ca cn cc] 39) = w2 at *
 refine (sameRows_yes w.heap.size 0 1 (w.heap.size + 1) 0 1 1 w2 (by omega) (fun k hk W hb => ?_)).mono ?_
 ·obtain rfl : k = 0 := by omega
  have hbw := hB2.trans (hb.mono (by omega))
  have z1 := (hb.block w.heap.size (by omega)).trans y1
  have z2 := (hb.block (w.heap.size + 1) (by omega)).trans y2
  have hsz := hb.size
  refine ⟨h,.slice sa' sn sc',.slice sa sn sc,.slice ca' cn cc',.slice ca cn cc,⟨by omega,(Lib.cell_of_heap z1 _).trans rfl,(Lib.cell_of_heap z1 _).trans rfl,(Lib.cell_of_heap z1 _).trans rfl⟩,⟨by omega,(Lib.cell_of_heap z2 _).trans rfl,(Lib.cell_of_heap z2 _).trans rfl,(Lib.cell_of_heap z2 _).trans rfl⟩,fun w0 h0 => ?_,fun w0 h0 => ?_⟩
  ·have hb0 := hbw.trans (h0.mono (by omega))
   refine (sameInts_yes _ _ ss hss w0 (hR'.below hb0 (Nat.le_refl _)).s (hR.below hb0 (Nat.le_refl _)).s).mono ?_
   rintro e w' ⟨rfl,h3⟩
   exact ⟨rfl,h0.trans (h3.mono h0.size)⟩
  ·have hb0 := hbw.trans (h0.mono (by omega))
   have k1 := hR'.below hb0 (Nat.le_refl _)
   have k2 := hR.below hb0 (Nat.le_refl _)
   refine (sameCells_yes _ _ ds cs w0 (by rw [hT.n]; exact hn) hT.n.symm k1.c k2.c (fun c hc => ?_) hT.symm.i k1.l k2.l).mono ?_
   ·obtain ⟨i,hi,rfl⟩ := List.getElem_of_mem hc
    have hi' : i < cs.length := by rw [← hT.n]; exact hi
    rw [(hT.i i hi' hi).2.2]
    have := hls _ (List.getElem_mem hi')
    omega
   ·rintro e w' ⟨rfl,h3⟩
    exact ⟨rfl,h0.trans (h3.mono h0.size)⟩
 ·rintro e w' ⟨rfl,hb⟩
  exact ⟨rfl,hB2.trans (hb.mono (by omega))⟩
theorem law4 (h : Int) (sv cv : Value) (ss : List Int) (cs : List Cel) (f t : Int) (w : World) (hss : ss.length * 8 ≤ 140737488355328) (hcl : cs.length ≤ 9223372036854775807) (hll : ∀ c ∈ cs,c.ls.length ≤ 9223372036854775807) (hR : RowM w ss cs sv cv) :
  Calls Tryz.prog 4 #[.agg #[.int .i64 h,sv,cv],.int .i64 f,.int .i64 t] w fun e w' => e = .returned (.bool true) ∧ Below w.heap.size w w' := by
 obtain ⟨sa,sc,rfl⟩ : ∃ a c,sv = .slice a ss.length c := by obtain ⟨a,c,h,_⟩ := hR.s.ex; exact ⟨a,c,h⟩
 obtain ⟨ca,cc,rfl⟩ : ∃ a c,cv = .slice a cs.length c := by obtain ⟨a,c,h,_⟩ := hR.c.ex; exact ⟨a,c,h⟩
 obtain ⟨sn,hsn⟩ : ∃ n,ss.length = n := ⟨_,rfl⟩
 obtain ⟨cn,hcn⟩ : ∃ n,cs.length = n := ⟨_,rfl⟩
 rw [hsn,hcn] at hR
 rw [hsn,hcn]
 have hB1 := (Below.refl w.heap.size w).alloc (Nat.le_refl _) (.cells #[.int .i64 h,.slice sa sn sc,.slice ca cn cc] 39)
 have s1 : (w.alloc (.cells #[.int .i64 h,.slice sa sn sc,.slice ca cn cc] 39)).heap.size = w.heap.size + 1 := World.size_alloc _ _
 have y1 : (w.alloc (.cells #[.int .i64 h,.slice sa sn sc,.slice ca cn cc] 39)).heap[w.heap.size]? = some (.cells #[.int .i64 h,.slice sa sn sc,.slice ca cn cc] 39 (0,0)) := World.alloc_heap_new w _
 generalize e1 : (w.alloc (.cells #[.int .i64 h,.slice sa sn sc,.slice ca cn cc] 39)) = w1 at *
 have e1h : Hid ((w.alloc (.cells #[.int .i64 h,.slice sa sn sc,.slice ca cn cc] 39)) = w1) := e1
 have c2 : w1.cell? ⟨w.heap.size,2,none⟩ = some (.slice ca cn cc) := (Lib.cell_of_heap y1 _).trans rfl
 have hbox : Hid (∀ W,Below w1.heap.size w1 W → W.heap[w.heap.size]? = some (.cells #[.int .i64 h,.slice sa sn sc,.slice ca cn cc] 39 (0,0))) := fun W hb => (hb.block _ (by omega)).trans y1
 have hRh : Hid (∀ W,Below w1.heap.size w1 W → RowM W ss cs (.slice sa sn sc) (.slice ca cn cc) ∧ Below w.heap.size w W) := fun W hb => by
  have hbw := hB1.trans (hb.mono (by omega))
  exact ⟨hR.below hbw (Nat.le_refl _),hbw⟩
 have hat : Hid (∀ k,k < cn → ∀ W,Below w1.heap.size w1 W → ∃ (b o : Nat) (la : Option Addr) (ln lc : Nat),ca = some ⟨b,o,none⟩ ∧ W.cell? ⟨b,o + k * 3 + 2,none⟩ = some (.slice la ln lc) ∧ ln = (cs.getD k ce0).ls.length ∧ ln ≤ 9223372036854775807) := fun k hk W hb => by
  have hk' : k < cs.length := by omega
  have hRW := (hRh.out W hb).1
  have hCW := hRW.c
  rw [← hcn] at hCW
  obtain ⟨b,o,rfl,hbl,hrg⟩ := RecAt.range hCW hk'
  have hm := List.getElem_mem hk'
  obtain ⟨la,lc,hv,-⟩ := (hRW.l _ hm).ex
  have hg : cs.getD k ce0 = cs[k] := by rw [List.getD_eq_getElem?_getD,List.getElem?_eq_getElem hk']; rfl
  refine ⟨b,o,la,_,lc,rfl,?_,by rw [hg],hll _ hm⟩
  rw [← hv]
  exact hrg 2 _ rfl
 have hend : Hid (∀ W,Below w1.heap.size w1 W → (fun e w' => e = Ending.returned (.bool true) ∧ Below w.heap.size w w') (.returned (.bool true)) W) := fun W hb => ⟨rfl,(hRh.out W hb).2⟩
 have hss' : ss.length ≤ 140737488355328 := by omega
 have hgo : Hid (cn ≤ 400 → (∀ c ∈ cs,c.ls.length ≤ 8000) → ∀ W1,Below w1.heap.size w1 W1 → Calls Tryz.prog 20 #[.agg #[.int .i64 h,.slice sa sn sc,.slice ca cn cc]] W1 fun e w2 => ∃ (pa : Option Addr) (pc : Nat) (qa : Option Addr) (qc : Nat),e = .returned (.agg #[.int .i64 h,.slice pa sn pc,.slice qa cn qc]) ∧ Below W1.heap.size W1 w2 ∧ ∀ W,Below w2.heap.size w2 W → (Calls Tryz.prog 21 #[.agg #[.int .i64 h,.slice pa sn pc,.slice qa cn qc],.int .i64 f,.int .i64 t] W fun e w1 => ∃ (va : Value) (ea : Int),e = .returned (.tuple #[va,.int .i64 ea]) ∧ (∃ p n c,va = .slice p n c) ∧ Below W.heap.size W w1 ∧ ∀ W',Below w1.heap.size w1 W' → Calls Tryz.prog 22 #[.agg #[.int .i64 h,.slice sa sn sc,.slice ca cn cc],.int .i64 f,.int .i64 t] W' fun e w2 => ∃ vb,e = .returned (.tuple #[vb,.int .i64 ea]) ∧ BtB W.heap.size w2 va vb ea ∧ Below W'.heap.size W' w2) ∧ (Calls Tryz.prog 13 #[.slice (some ⟨W.heap.size,0,none⟩) 1 1,.slice (some ⟨W.heap.size + 1,0,none⟩) 1 1] ((W.alloc (.cells #[.int .i64 h,.slice pa sn pc,.slice qa cn qc] 39)).alloc (.cells #[.int .i64 h,.slice sa sn sc,.slice ca cn cc] 39)) fun e w' => e = .returned (.bool true) ∧ Below W.heap.size W w')) := fun h4 h8 W1 hb1 => by
  have hRW := (hRh.out W1 hb1).1
  refine (copyRow_any h _ _ ss cs W1 (by omega) (by omega) hRW.s hRW.c (fun c hc => ⟨hRW.l c hc,by have := h8 c hc; omega⟩)).mono ?_
  rintro e w2 ⟨⟨pa,pc,qa,qc,d,rfl,hd,hs,hc,hq⟩,hb2⟩
  rw [hsn,hcn]
  refine ⟨pa,pc,qa,qc,rfl,hb2,fun W hb => ?_⟩
  have hT := Twin.of_jn hd (fun i hi => (hq i hi).1)
  have hRc : RowM w2 ss d (.slice pa sn pc) (.slice qa cn qc) := by
   rw [← hsn,← hcn]
   refine ⟨rec_of_row inL_len rfl hs,rec_of_row ceL_len rfl hc,fun c hc => ?_⟩
   obtain ⟨i,hi,rfl⟩ := List.getElem_of_mem hc
   exact rec_of_row lxL_len rfl (hq i hi).2
  have hRc' := hRc.below hb (Nat.le_refl _)
  have hR2 := (hRh.out W ((hb1.trans (hb2.mono hb1.size)).trans (hb.mono (Nat.le_trans hb1.size hb2.size)))).1
  exact ⟨both_bt h _ _ _ _ ss ss cs d f t W (by omega) h8 hR2 hRc' hT,sr_end h ss cs d sa pa ca qa sn sc pc cn cc qc W hss' (by omega) h8 hR2 hRc' hT⟩
 have hB1h : Hid (Below w1.heap.size w1 w1) := Below.refl _ _
 generalize hE : (fun e w' => e = Ending.returned (.bool true) ∧ Below w.heap.size w w') = E at *
 generalize hB0 : w.heap.size = B0 at *
 clear hE hR hll hss hss' hsn hB1 s1 hRh e1 y1
 by_cases h1 : 100 < cn
 ·have h1' : (100 : Int) < cn := by omega
  go_enter Tryz.func4,Tryz.ntmps4
  go_wp2_with (first | rw [e1h.out])
  all_goals first | exact hend.out _ hB1h.out | (go_ret; exact hend.out _ hB1h.out)
 have h1' : ¬ (100 : Int) < cn := by omega
 go_enter Tryz.func4,Tryz.ntmps4
 go_wp2_with (first | rw [e1h.out])
 go_loopw [7] (fun v7 wr => ∃ k : Nat,k ≤ cn ∧ v7 = .int .i64 (k : Int) ∧ Hid (Below w1.heap.size w1 wr ∧ ∀ i,i < k → (cs.getD i ce0).ls.length ≤ 300)) (fun v7 _ => cn - (intOf v7).toNat)
 case atStart => exact ⟨0,by omega,rfl,hB1h.out,fun i hi => by omega⟩
 case round =>
  obtain ⟨k,hk,rfl,hH⟩ := hrel
  obtain ⟨hbw,hall⟩ := hH.out
  have hbwh : Hid (Below w1.heap.size w1 wr) := hbw
  have hallh : Hid (∀ i,i < k → (cs.getD i ce0).ls.length ≤ 300) := hall
  have yB := hbox.out wr hbw
  have kb : wr.cell? ⟨B0,2,none⟩ = some (.slice ca cn cc) := (Lib.cell_of_heap yB _).trans rfl
  clear hH hbw hall c2 hB1h e1h
  by_cases hlt : k < cn
  ·have hlt' : (k : Int) < (cn : Int) := by omega
   obtain ⟨b,o,la,ln,lc,rfl,kc,eln,hln⟩ := hat.out k hlt wr hbwh.out
   have elnh : Hid (ln = (cs.getD k ce0).ls.length) := eln
   clear eln hgo hat yB
   by_cases h3 : 300 < ln
   ·have h3' : (300 : Int) < (ln : Int) := by omega
    go_wp2_with fail
    all_goals first | exact hend.out _ hbwh.out | (go_ret; exact hend.out _ hbwh.out)
   ·have h3' : ¬ (300 : Int) < (ln : Int) := by omega
    go_wp2_with fail
    exact ⟨⟨k + 1,by omega,rfl,hbwh.out,fun i hi => by
     by_cases e : i = k
     ·subst e; rw [← elnh.out]; omega
     ·exact hallh.out i (by omega)⟩,by simp [intOf]; omega⟩
  ·have hkn : k = cn := by omega
   have hge : ¬ (k : Int) < (cn : Int) := by omega
   have hcall : Hid (Calls Tryz.prog 20 _ _ _) := hgo.out (by omega) (fun c hc => by
    obtain ⟨i,hi,rfl⟩ := List.getElem_of_mem hc
    have hg : cs.getD i ce0 = cs[i] := by rw [List.getD_eq_getElem?_getD,List.getElem?_eq_getElem hi]; rfl
    have := hallh.out i (by omega)
    rw [hg] at this
    omega) wr hbwh.out
   clear hgo hat hallh hcn hcl
   go_wp2_with (first
    | (refine wpList_load_row rfl 39 _ rfl B0 rfl 39 _ (0,0) _ yB Tryz.underlying39 rfl (info39w _ _ _) ?_)
    | (go_at_call 20; refine hcall.out.mono ?_; rintro e w2 ⟨pa,pc,qa,qc,rfl,hb2,hW⟩; have hWh : Hid _ := hW; have hH2 : Hid (Below w1.heap.size w1 w2) := hbwh.out.trans (hb2.mono hbwh.out.size); have z0 : (w2.alloc (.cells #[.int .i64 0,.slice none 0 0,.slice none 0 0] 39)).heap[w2.heap.size]? = some (.cells #[.int .i64 0,.slice none 0 0,.slice none 0 0] 39 (0,0)) := World.alloc_heap_new w2 _; have hbx : Hid (Below w2.heap.size w2 ((w2.alloc (.cells #[.int .i64 0,.slice none 0 0,.slice none 0 0] 39)).setRow w2.heap.size #[.int .i64 h,.slice pa sn pc,.slice qa cn qc])) := below_box w2 (.cells #[.int .i64 0,.slice none 0 0,.slice none 0 0] 39) #[.int .i64 h,.slice pa sn pc,.slice qa cn qc]; have x4 := setRow_heap _ _ _ (#[.int .i64 h,.slice pa sn pc,.slice qa cn qc] : Array Value) _ _ z0; clear hcall hb2 hW yB kb)
    | (refine wpList_store_row rfl 39 _ _ rfl w2.heap.size #[.int .i64 h,.slice pa sn pc,.slice qa cn qc] rfl rfl 39 _ z0 (info39w _ _ _) rfl (one39 _ _ _ _ _ rfl) ?_; clear z0; generalize ((w2.alloc (.cells #[.int .i64 0,.slice none 0 0,.slice none 0 0] 39)).setRow w2.heap.size #[.int .i64 h,.slice pa sn pc,.slice qa cn qc]) = w4 at *; have hH4 : Hid (Below w1.heap.size w1 w4) := hH2.out.trans (hbx.out.mono hH2.out.size))
    | (refine wpList_load_row rfl 39 _ rfl w2.heap.size rfl 39 _ (0,0) _ x4 Tryz.underlying39 rfl (info39w _ _ _) ?_)
    | (go_at_call 21; refine (hWh.out w4 hbx.out).1.mono ?_; rintro e w5 ⟨va,ea,rfl,⟨ap,an,ac,rfl⟩,hb5,h22⟩; have h22h : Hid _ := h22; have hb5h : Hid (Below w4.heap.size w4 w5) := hb5; have y5 := hbox.out w5 (hH4.out.trans (hb5.mono hH4.out.size)); have x5 := (hb5.block w2.heap.size (Array.getElem?_eq_some_iff.1 x4).1).trans x4; have x4h : Hid (w4.heap[w2.heap.size]? = some (.cells #[.int .i64 h,.slice pa sn pc,.slice qa cn qc] 39 (0,0))) := x4; clear x4 hb5 h22)
    | (refine wpList_load_row rfl 39 _ rfl B0 rfl 39 _ (0,0) _ y5 Tryz.underlying39 rfl (info39w _ _ _) ?_)
    | (go_at_call 22; refine (h22h.out w5 (Below.refl _ _)).mono ?_; rintro e w6 ⟨vb,rfl,hB,hb6⟩; obtain ⟨bp,bn,bc,rfl⟩ := hB.b; have hBh : Hid (BtB w4.heap.size w6 (.slice ap an ac) (.slice bp bn bc) ea) := hB; have hb46 : Hid (Below w4.heap.size w4 w6) := hb5h.out.trans (hb6.mono hb5h.out.size); clear h22h hb6 hB y5 x5)
    | (go_at_call 23; refine (hBh.out.same w6 (Below.refl _ _)).mono ?_; rintro e w7 ⟨rfl,hb7⟩; have hb7h : Hid (Below w6.heap.size w6 w7) := hb7; have hb47 : Hid (Below w4.heap.size w4 w7) := hb46.out.trans (hb7.mono hb46.out.size); clear hb7)
    | (go_at_call 16; refine (hBh.out.over w7 hb7h.out).mono ?_; rintro e w8 ⟨rfl,hT8⟩; have hb48 : Hid (Below w4.heap.size w4 w8) := hb47.out.trans (hT8.below hb47.out.size (fun j hj => hj)); have h13 : Hid (Calls Tryz.prog 13 _ _ _) := (hWh.out w8 (hbx.out.trans (hb48.out.mono hbx.out.size))).2; have hH8 : Hid (Below w1.heap.size w1 w8) := hH4.out.trans (hb48.out.mono hH4.out.size); have y8 := hbox.out w8 hH8.out; have x8 := (hb48.out.block w2.heap.size (Array.getElem?_eq_some_iff.1 x4h.out).1).trans x4h.out; have y9 : (w8.alloc (.cells #[.int .i64 h,.slice pa sn pc,.slice qa cn qc] 39)).heap[B0]? = some (.cells #[.int .i64 h,.slice sa sn sc,.slice ca cn cc] 39 (0,0)) := (Below.heap_alloc _ _ _ (by have := (Array.getElem?_eq_some_iff.1 y8).1; omega)).trans y8; clear hT8 hb47 hb7h hBh hb46 y8)
    | (refine wpList_load_row rfl 39 _ rfl w2.heap.size rfl 39 _ (0,0) _ x8 Tryz.underlying39 rfl (info39w _ _ _) ?_)
    | (refine wpList_load_row rfl 39 _ rfl B0 rfl 39 _ (0,0) _ y9 Tryz.underlying39 rfl (info39w _ _ _) ?_)
    | (refine wpList_build39 rfl _ rfl h pa qa sn pc cn qc rfl ?_)
    | (refine wpList_build39 rfl _ rfl h sa ca sn sc cn cc rfl ?_)
    | (go_at_call 13; refine h13.out.mono ?_; rintro e w11 ⟨rfl,hb11⟩; have hH11 : Hid (Below w1.heap.size w1 w11) := hH8.out.trans (hb11.mono hH8.out.size); clear hb11 h13 y9 x8)
    | (go_at_call 19; refine (awake19 w11).mono ?_; rintro e w12 ⟨rfl,hb12⟩; have hH12 : Hid (Below w1.heap.size w1 w12) := hH11.out.trans (hb12.mono hH11.out.size); clear hb12))
   all_goals first | exact hend.out _ hH12.out | (go_ret; exact hend.out _ hH12.out)
end Go.Proofs.YtaphggjakaghjaaGreatDoor

namespace Go.Proofs.YtaphggjakaghjaaGreatDoor
open Go.ChangeShapes Go.WideShapes Go.ChangeAt Go.RowKit

theorem laidOut : laidOutB Tryz.prog = true := by kernel_rfl

theorem recs_in {H : Type} {enc : TypeId × Value → H} {W : World} {spare : Nat → Bool} {fuel : Nat} {cs : List Value} {x : DataW H × List MemPlace} {α : Type} {k : Nat} {f : α → List Value} {ty e : TypeId} (hu : Tryz.prog.underlying ty = some (.slice e)) (ck : Tryz.prog.cellsOf e = k) (hk : 0 < k)
  (hat : ∀ (n : Nat) (cs : List Value) (x : DataW H × List MemPlace),cs.length = k → DataW.trod enc Tryz.prog W 0 spare true n e cs = some x → ∃ q : α,cs = f q)
  (hf : DataW.trod enc Tryz.prog W 0 spare true fuel ty cs = some x) : ∃ (v : Value) (qs : List α),cs = [v] ∧ RecAt k f W v qs ∧ qs.length ≤ 9223372036854775807 ∧ ((x.1 = .nil ∧ qs = []) ∨ ∃ es sp,x.1 = .slice es sp ∧ es.length = qs.length) := by
 rcases Deep.open_slice hu hf with ⟨hcs,hx0⟩ | ⟨a,len,cap,m,n,D,Pl,hcs,_,hl,hm,hmm,hx1,hx⟩
 ·subst hcs
  exact ⟨_,[],rfl,⟨⟨none,0,rfl,.inl rfl⟩,fun a n c e => by cases e; exact Nat.le_refl _⟩,by simp,.inl ⟨by rw [hx0],rfl⟩⟩
 ·subst hcs
  have hlm : len ≤ m := by rw [hmm]; split <;> omega
  rw [ck] at hx
  have hdat : ∃ es sp,x.1 = .slice es sp ∧ es.length = len := by rw [hx1]; exact ⟨_,_,rfl,by simp⟩
  obtain ⟨es,sp,hes,hel⟩ := hdat
  by_cases h0 : len = 0
  ·subst h0
   exact ⟨_,[],rfl,⟨⟨_,_,rfl,.inl rfl⟩,fun a n c e => by cases e; exact hl⟩,by simp,.inr ⟨es,sp,hes,by simpa using hel⟩⟩
  ·obtain ⟨b,off,spot⟩ := a
   obtain ⟨cs',hc0,ht0⟩ := hx 0 (by omega)
   have hb := World.cells?_block hc0 (by omega)
   obtain ⟨_,hl0,hce⟩ := World.cells?_some hc0
   have hg := hce 0 (by omega)
   have hspot : spot = none := by
    match cs',hl0 with
    | z :: _,_ => simpa [Addr.add] using World.cell?_spot hg
    | [],h => simp at h; omega
   subst hspot
   rw [addr_add] at hb
   have hq : ∀ i : Fin len,∃ q : α,∀ j u,(f q)[j]? = some u → W.cell? ⟨b,off + i * k + j,none⟩ = some u := fun i => by
    obtain ⟨cs',hc1,ht1⟩ := hx i (by omega)
    rw [addr_add] at hc1
    obtain ⟨_,hl1,hce1⟩ := World.cells?_some hc1
    obtain ⟨q,rfl⟩ := hat _ _ _ hl1 ht1
    refine ⟨q,fun j u hu => ?_⟩
    have hj : j < (f q).length := (List.getElem?_eq_some_iff.1 hu).1
    have := hce1 j (by omega)
    rw [addr_add] at this
    exact this.trans hu
   refine ⟨_,List.ofFn (fun i => Classical.choose (hq i)),rfl,⟨⟨_,_,by simp; exact rfl,.inr ⟨b,off,rfl,hb,fun i hi j u hu => ?_⟩⟩,fun a n c e => by cases e; exact hl⟩,by simp; unfold maxLen at hm; omega,.inr ⟨es,sp,hes,by simpa using hel⟩⟩
   have hi' : i < len := by simpa using hi
   have := Classical.choose_spec (hq ⟨i,hi'⟩) j u (by simpa using hu)
   simpa using this
end Go.Proofs.YtaphggjakaghjaaGreatDoor

namespace Go.Proofs.YtaphggjakaghjaaGreatDoor
open Go.ChangeShapes Go.WideShapes Go.ChangeAt Go.RowKit
set_option maxRecDepth 100000

theorem lxr_at {H : Type} {enc : TypeId × Value → H} {W : World} {spare : Nat → Bool} {n : Nat} {cs : List Value} {x : DataW H × List MemPlace}
  (hl : cs.length = 7) (ht : DataW.trod enc Tryz.prog W 0 spare true n 55 cs = some x) : ∃ q : Lx,cs = lxL q := by
 obtain ⟨xs,m,_,_,_,hxl,hf⟩ := DataW.trod_struct Tryz.underlying55 ht
 have c3 : Tryz.prog.cellsOf 3 = 1 := by kernel_rfl
 have c4 : Tryz.prog.cellsOf 4 = 1 := by kernel_rfl
 have f0 : DataW.trod enc Tryz.prog W 0 spare true m 3 ((cs.drop 0).take (Tryz.prog.cellsOf 3)) = xs[0]? := hf 0 _ rfl
 have f1 : DataW.trod enc Tryz.prog W 0 spare true m 3 ((cs.drop 1).take (Tryz.prog.cellsOf 3)) = xs[1]? := hf 1 _ rfl
 have f2 : DataW.trod enc Tryz.prog W 0 spare true m 3 ((cs.drop 2).take (Tryz.prog.cellsOf 3)) = xs[2]? := hf 2 _ rfl
 have f3 : DataW.trod enc Tryz.prog W 0 spare true m 3 ((cs.drop 3).take (Tryz.prog.cellsOf 3)) = xs[3]? := hf 3 _ rfl
 have f4 : DataW.trod enc Tryz.prog W 0 spare true m 3 ((cs.drop 4).take (Tryz.prog.cellsOf 3)) = xs[4]? := hf 4 _ rfl
 have f5 : DataW.trod enc Tryz.prog W 0 spare true m 4 ((cs.drop 5).take (Tryz.prog.cellsOf 4)) = xs[5]? := hf 5 _ rfl
 have f6 : DataW.trod enc Tryz.prog W 0 spare true m 3 ((cs.drop 6).take (Tryz.prog.cellsOf 3)) = xs[6]? := hf 6 _ rfl
 simp only [c3,c4] at f0 f1 f2 f3 f4 f5 f6
 have hsz : xs.length = 7 := hxl
 obtain ⟨y0,y1,y2,y3,y4,y5,y6,rfl⟩ : ∃ y0 y1 y2 y3 y4 y5 y6,xs = [y0,y1,y2,y3,y4,y5,y6] := by
  match xs,hsz with
  | [y0,y1,y2,y3,y4,y5,y6],_ => exact ⟨_,_,_,_,_,_,_,rfl⟩
 obtain ⟨z0,z1,z2,z3,z4,z5,z6,rfl⟩ : ∃ z0 z1 z2 z3 z4 z5 z6,cs = [z0,z1,z2,z3,z4,z5,z6] := by
  match cs,hl with
  | [z0,z1,z2,z3,z4,z5,z6],_ => exact ⟨_,_,_,_,_,_,_,rfl⟩
 obtain ⟨a0,e0,_,_⟩ := DataW.trod_int Tryz.underlying3 f0
 obtain ⟨a1,e1,_,_⟩ := DataW.trod_int Tryz.underlying3 f1
 obtain ⟨a2,e2,_,_⟩ := DataW.trod_int Tryz.underlying3 f2
 obtain ⟨a3,e3,_,_⟩ := DataW.trod_int Tryz.underlying3 f3
 obtain ⟨a4,e4,_,_⟩ := DataW.trod_int Tryz.underlying3 f4
 obtain ⟨a5,e5,_⟩ := DataW.trod_bool Tryz.underlying4 f5
 obtain ⟨a6,e6,_,_⟩ := DataW.trod_int Tryz.underlying3 f6
 simp at e0 e1 e2 e3 e4 e5 e6
 subst e0 e1 e2 e3 e4 e5 e6
 exact ⟨⟨a0,a1,a2,a3,a4,a5,a6⟩,rfl⟩
structure CeX (W : World) where
 c : Cel
 at_ : LxsAt W c.v c.ls
 le : c.ls.length ≤ 9223372036854775807
theorem cellr_at {H : Type} {enc : TypeId × Value → H} {W : World} {spare : Nat → Bool} {n : Nat} {cs : List Value} {x : DataW H × List MemPlace}
  (hl : cs.length = 3) (ht : DataW.trod enc Tryz.prog W 0 spare true n 46 cs = some x) : ∃ q : CeX W,cs = ceL q.c := by
 obtain ⟨xs,m,_,_,_,hxl,hf⟩ := DataW.trod_struct Tryz.underlying46 ht
 have c3 : Tryz.prog.cellsOf 3 = 1 := by kernel_rfl
 have c44 : Tryz.prog.cellsOf 44 = 1 := by kernel_rfl
 have c55 : Tryz.prog.cellsOf 55 = 7 := by kernel_rfl
 have f0 : DataW.trod enc Tryz.prog W 0 spare true m 3 ((cs.drop 0).take (Tryz.prog.cellsOf 3)) = xs[0]? := hf 0 _ rfl
 have f1 : DataW.trod enc Tryz.prog W 0 spare true m 3 ((cs.drop 1).take (Tryz.prog.cellsOf 3)) = xs[1]? := hf 1 _ rfl
 have f2 : DataW.trod enc Tryz.prog W 0 spare true m 44 ((cs.drop 2).take (Tryz.prog.cellsOf 44)) = xs[2]? := hf 2 _ rfl
 simp only [c3,c44] at f0 f1 f2
 have hsz : xs.length = 3 := hxl
 obtain ⟨y0,y1,y2,rfl⟩ : ∃ y0 y1 y2,xs = [y0,y1,y2] := by
  match xs,hsz with
  | [y0,y1,y2],_ => exact ⟨_,_,_,rfl⟩
 obtain ⟨z0,z1,z2,rfl⟩ : ∃ z0 z1 z2,cs = [z0,z1,z2] := by
  match cs,hl with
  | [z0,z1,z2],_ => exact ⟨_,_,_,rfl⟩
 obtain ⟨a0,e0,_,_⟩ := DataW.trod_int Tryz.underlying3 f0
 obtain ⟨a1,e1,_,_⟩ := DataW.trod_int Tryz.underlying3 f1
 obtain ⟨v,qs,e2,hS,hl1,_⟩ := recs_in (α := Lx) (k := 7) (f := lxL) Tryz.underlying44 c55 (by decide) (fun _ _ _ h1 h2 => lxr_at h1 h2) (show DataW.trod enc Tryz.prog W 0 spare true m 44 [z2] = some y2 from f2)
 simp at e0 e1 e2
 subst e0 e1 e2
 exact ⟨⟨⟨a0,a1,z2,qs⟩,hS,hl1⟩,rfl⟩
theorem recs_map {α β : Type} {k : Nat} {f : β → List Value} {g : α → β} {W : World} {v : Value} {qs : List α} (h : RecAt k (fun q => f (g q)) W v qs) : RecAt k f W v (qs.map g) := by
 have hle := h.le
 obtain ⟨a,cap,rfl,h2⟩ := h.ex
 refine ⟨⟨a,cap,by rw [List.length_map],?_⟩,hle⟩
 rcases h2 with h2 | ⟨b,o,rfl,hb,hc⟩
 ·exact .inl (by rw [h2]; rfl)
 ·refine .inr ⟨b,o,rfl,hb,fun i hi j u hu => ?_⟩
  have hi' : i < qs.length := by simpa using hi
  rw [List.getElem_map] at hu
  exact hc i hi' j u hu
theorem open_row {H : Type} {enc : TypeId × Value → H} {W : World} {v : Value} {d : DataW H} {ps : List MemPlace} {base : Nat} (hok : Value.okWide Tryz.prog W .any base 39 v)
  (h : DataW.Trod enc Tryz.prog W 0 (fun _ => true) true 39 v d ps) (hw : ∀ n ∈ d.weights Tryz.prog 39,n ≤ reachBytes) : ∃ (hh : Int) (sv cv : Value) (ss : List Int) (cs : List Cel),v = .agg #[.int .i64 hh,sv,cv] ∧ RowM W ss cs sv cv ∧ ss.length * 8 ≤ 140737488355328 ∧ cs.length ≤ 9223372036854775807 ∧ ∀ c ∈ cs,c.ls.length ≤ 9223372036854775807 := by
 obtain ⟨cs,rfl,hsz⟩ := okWide_struct Tryz.underlying39 hok
 obtain ⟨fuel,hf0⟩ := h
 have cc39 : Tryz.prog.cellsOf 39 = 3 := by kernel_rfl
 have hl : cs.toList.length = 3 := by rw [cc39] at hsz; simpa using hsz
 have hf1 : DataW.trod enc Tryz.prog W 0 (fun _ => true) true fuel 39 cs.toList = some (d,ps) := hf0
 generalize hL : cs.toList = L at *
 obtain ⟨xs,m,_,hx,_,hxl,hf⟩ := DataW.trod_struct Tryz.underlying39 hf1
 have c3 : Tryz.prog.cellsOf 3 = 1 := by kernel_rfl
 have c36 : Tryz.prog.cellsOf 36 = 1 := by kernel_rfl
 have c37 : Tryz.prog.cellsOf 37 = 1 := by kernel_rfl
 have c46 : Tryz.prog.cellsOf 46 = 3 := by kernel_rfl
 have f0 : DataW.trod enc Tryz.prog W 0 (fun _ => true) true m 3 ((L.drop 0).take (Tryz.prog.cellsOf 3)) = xs[0]? := hf 0 _ rfl
 have f1 : DataW.trod enc Tryz.prog W 0 (fun _ => true) true m 36 ((L.drop 1).take (Tryz.prog.cellsOf 36)) = xs[1]? := hf 1 _ rfl
 have f2 : DataW.trod enc Tryz.prog W 0 (fun _ => true) true m 37 ((L.drop 2).take (Tryz.prog.cellsOf 37)) = xs[2]? := hf 2 _ rfl
 simp only [c3,c36,c37] at f0 f1 f2
 have hsz' : xs.length = 3 := hxl
 obtain ⟨y0,y1,y2,rfl⟩ : ∃ y0 y1 y2,xs = [y0,y1,y2] := by
  match xs,hsz' with
  | [y0,y1,y2],_ => exact ⟨_,_,_,rfl⟩
 obtain ⟨z0,z1,z2,rfl⟩ : ∃ z0 z1 z2,L = [z0,z1,z2] := by
  match L,hl with
  | [z0,z1,z2],_ => exact ⟨_,_,_,rfl⟩
 obtain ⟨a0,e0,_,_⟩ := DataW.trod_int Tryz.underlying3 f0
 obtain ⟨v1,ss,e1,hS,_,hd1⟩ := recs_in (α := Int) (k := 1) (f := inL) Tryz.underlying36 c3 (by decide) (fun _ _ _ _ h2 => by obtain ⟨q,e,_,_⟩ := DataW.trod_int Tryz.underlying3 h2; exact ⟨q,e⟩) (show DataW.trod enc Tryz.prog W 0 (fun _ => true) true m 36 [z1] = some y1 from f1)
 obtain ⟨v2,qs,e2,hC,hl2,_⟩ := recs_in (α := CeX W) (k := 3) (f := fun q => ceL q.c) Tryz.underlying37 c46 (by decide) (fun _ _ _ h1 h2 => cellr_at h1 h2) (show DataW.trod enc Tryz.prog W 0 (fun _ => true) true m 37 [z2] = some y2 from f2)
 simp at e0 e1 e2
 subst e0 e1 e2
 have hcs : cs = #[.int .i64 a0,z1,z2] := Array.toList_inj.1 hL
 have hx1 : d = .agg [y0.1,y1.1,y2.1] := by have := congrArg Prod.fst hx; exact this
 have hbytes : Tryz.prog.bytesOf 3 = 8 := by kernel_rfl
 refine ⟨a0,z1,z2,ss,qs.map (·.c),by rw [hcs],⟨hS,recs_map hC,fun c hc => ?_⟩,?_,by simpa using hl2,fun c hc => ?_⟩
 ·obtain ⟨q,_,rfl⟩ := List.mem_map.1 hc
  exact q.at_
 ·rcases hd1 with ⟨_,rfl⟩ | ⟨es,sp,hes,hel⟩
  ·simp
  ·have hm : (es.length + sp.length) * Tryz.prog.bytesOf 3 ∈ d.weights Tryz.prog 39 := by
    rw [hx1]
    have h39 : ∃ fs,Tryz.prog.underlying 39 = some (.struct fs) ∧ fs.toList.map (·.type) = [3,36,37] := ⟨_,Tryz.underlying39,rfl⟩
    obtain ⟨fs,hu,hfs⟩ := h39
    have hm1 : (es.length + sp.length) * Tryz.prog.bytesOf 3 ∈ DataW.weightsEach Tryz.prog [3,36,37] [y0.1,y1.1,y2.1] := DataW.weights_mem_each (j := 1) (t := 36) (d := y1.1) rfl rfl _ (by rw [hes]; simp [DataW.weights,Tryz.underlying36])
    simp only [DataW.weights,hu]
    rw [hfs]
    exact hm1
   have := hw _ hm
   rw [hbytes,hel] at this
   unfold reachBytes at this
   omega
 ·obtain ⟨q,_,rfl⟩ := List.mem_map.1 hc
  exact q.le
end Go.Proofs.YtaphggjakaghjaaGreatDoor
