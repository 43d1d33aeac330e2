/-
  What is proved here: when two lists of spans, of marks, two paragraphs are the same.
  What is proved here: how lists of masses and paragraphs that are handed in look.
  What is proved here: how a paragraph that is handed in looks.
  What is proved here: CopyPara: the same paragraph with lists of its own.
-/
import Derived.Test.YthcphnifnfnceaaGreatDoorG5
import Derived.Test.YthcphnifnfnceaaGreatDoorG9
import Derived.ProofKit
import Derived.OpenShut
import Derived.ChangeOld
import Derived.Below
import Derived.Deep.Slices
import Derived.SizedLaws
namespace Go.Proofs.YthcphnifnfnceaaGreatDoor
open Go.RowKit Go.Shelf
set_option maxRecDepth 100000
set_option maxHeartbeats 4000000

theorem sameSpans_yes (v u : Value) (qs : List Sp) (w : World) (hl : qs.length ≤ 9223372036854775807) (hS : RecAt 4 spL w v qs) (hR : RecAt 4 spL w u qs) :
  Calls Tryz.prog 46 #[v,u] w fun e w' => e = .returned (.bool true) ∧ Below w.heap.size w w' := by
 obtain ⟨a,cap,rfl,h2⟩ := hS.ex
 obtain ⟨a',cap',rfl,h3⟩ := hR.ex
 clear hS hR
 go_enter Tryz.func46,Tryz.ntmps46
 go_wp2_with fail
 go_loopw [5] (fun i wr => ∃ k : Nat,k ≤ qs.length ∧ i = .int .i64 k ∧ Below w.heap.size w wr) (fun i _ => qs.length - (intOf i).toNat)
 case atStart => exact ⟨0,by omega,rfl,Below.refl _ _⟩
 case round =>
  obtain ⟨k,hk,rfl,hb⟩ := hrel
  by_cases hlt : k < qs.length
  ·rcases h2 with h2 | ⟨b,o,rfl,hbl,hc⟩
   ·rw [h2] at hlt; simp at hlt
   ·rcases h3 with h3 | ⟨b',o',rfl,hbl',hc'⟩
    ·rw [h3] at hlt; simp at hlt
    ·have hlt' : (k : Int) < qs.length := by omega
     have c0 : wr.cell? ⟨b,o + k * 4,none⟩ = some (.int .i64 qs[k].n) := (hb.cell hbl).trans (hc k hlt 0 _ rfl)
     have d0 : wr.cell? ⟨b',o' + k * 4,none⟩ = some (.int .i64 qs[k].n) := (hb.cell hbl').trans (hc' k hlt 0 _ rfl)
     have c1 : wr.cell? ⟨b,o + k * 4 + 1,none⟩ = some (.int .i64 qs[k].s) := (hb.cell hbl).trans (hc k hlt 1 _ rfl)
     have d1 : wr.cell? ⟨b',o' + k * 4 + 1,none⟩ = some (.int .i64 qs[k].s) := (hb.cell hbl').trans (hc' k hlt 1 _ rfl)
     have c2 : wr.cell? ⟨b,o + k * 4 + 2,none⟩ = some (.int .i64 qs[k].t) := (hb.cell hbl).trans (hc k hlt 2 _ rfl)
     have d2 : wr.cell? ⟨b',o' + k * 4 + 2,none⟩ = some (.int .i64 qs[k].t) := (hb.cell hbl').trans (hc' k hlt 2 _ rfl)
     have c3 : wr.cell? ⟨b,o + k * 4 + 3,none⟩ = some (.int .i64 qs[k].k) := (hb.cell hbl).trans (hc k hlt 3 _ rfl)
     have d3 : wr.cell? ⟨b',o' + k * 4 + 3,none⟩ = some (.int .i64 qs[k].k) := (hb.cell hbl').trans (hc' k hlt 3 _ rfl)
     clear hc hc'
     generalize qs[k].n = x0 at *
     generalize qs[k].s = x1 at *
     generalize qs[k].t = x2 at *
     generalize qs[k].k = x3 at *
     go_wp2_with fail
     go_quiet (fail)
     go_wp2_with fail
     go_roundw
     case rel => exact ⟨k + 1,by omega,by simp,below_drewN hb _⟩
     case measure => simp [intOf]; omega
  ·have hge : ¬ (k : Int) < qs.length := by omega
   go_wp2_with fail
   go_ret
   exact ⟨rfl,hb⟩

theorem sameTexts_yes (v u : Value) (qs : List ByteArray) (w : World) (hl : qs.length ≤ 9223372036854775807) (hS : StrsAt w v qs) (hR : StrsAt w u qs) :
  Calls Tryz.prog 47 #[v,u] w fun e w' => e = .returned (.bool true) ∧ Below w.heap.size w w' := by
 obtain ⟨a,cap,rfl,h2⟩ := hS.ex
 obtain ⟨a',cap',rfl,h3⟩ := hR.ex
 clear hS hR
 go_enter Tryz.func47,Tryz.ntmps47
 go_wp2_with fail
 go_loopw [5] (fun i wr => ∃ k : Nat,k ≤ qs.length ∧ i = .int .i64 k ∧ Below w.heap.size w wr) (fun i _ => qs.length - (intOf i).toNat)
 case atStart => exact ⟨0,by omega,rfl,Below.refl _ _⟩
 case round =>
  obtain ⟨k,hk,rfl,hb⟩ := hrel
  by_cases hlt : k < qs.length
  ·rcases h2 with h2 | ⟨b,o,rfl,hbl,hc⟩
   ·rw [h2] at hlt; simp at hlt
   ·rcases h3 with h3 | ⟨b',o',rfl,hbl',hc'⟩
    ·rw [h3] at hlt; simp at hlt
    ·have hlt' : (k : Int) < qs.length := by omega
     have c0 : wr.cell? ⟨b,o + k,none⟩ = some (.string qs[k]) := (hb.cell hbl).trans (hc k hlt)
     have d0 : wr.cell? ⟨b',o' + k,none⟩ = some (.string qs[k]) := (hb.cell hbl').trans (hc' k hlt)
     clear hc hc'
     generalize qs[k] = x0 at *
     go_wp2_with fail
     go_quiet (fail)
     go_wp2_with fail
     go_roundw
     case rel => exact ⟨k + 1,by omega,by simp,below_drewN hb _⟩
     case measure => simp [intOf]; omega
  ·have hge : ¬ (k : Int) < qs.length := by omega
   go_wp2_with fail
   go_ret
   exact ⟨rfl,hb⟩


theorem eqIn31 (p : Pr) (w : World) : (Op.equalIn 10000 24 (.agg (prL p).toArray) (.agg (prL p).toArray)).run Tryz.prog w = .ok true w := by
 obtain ⟨x0,x1,x2,x3,x4,x5,x6,x7,x8,x9,x10,x11,x12,x13,x14,x15,x16⟩ := p
 show (Op.equalIn 10000 24 (.agg #[.int .i64 x0,.int .i64 x1,.int .i64 x2,.int .i64 x3,.int .i64 x4,.int .i64 x5,.int .i64 x6,.int .i64 x7,.int .i64 x8,.int .i64 x9,.int .i64 x10,.int .i64 x11,.int .i64 x12,.int .i64 x13,.int .i64 x14,.int .i64 x15,.int .i64 x16]) (.agg #[.int .i64 x0,.int .i64 x1,.int .i64 x2,.int .i64 x3,.int .i64 x4,.int .i64 x5,.int .i64 x6,.int .i64 x7,.int .i64 x8,.int .i64 x9,.int .i64 x10,.int .i64 x11,.int .i64 x12,.int .i64 x13,.int .i64 x14,.int .i64 x15,.int .i64 x16])).run Tryz.prog w = .ok true w
 go_simp
theorem eql31 (p : Pr) (w : World) : (binOp .eql 24 (.agg (prL p).toArray) (.agg (prL p).toArray)).run Tryz.prog w = .ok (.bool true) w := by
 rw [run_eql_struct,eqIn31 p w]
 rfl
theorem guard31 : Tryz.prog.eqGuardType Tryz.prog.depth 24 = false := by kernel_rfl
theorem wpList_eql31_want {ops : Array Oper} {rest : List Oper} {o : Oper} {a : Act} {w : World} {Q : Exit → Act → World → Prop} (x y : Operand) (ho : o.op = .binOp .eql 24 x y 24) (hw : Region.wanted o (yielded ops a.tmps) = true)
  (p : Pr) (hx : a.eval x = .agg (prL p).toArray) (hy : a.eval y = .agg (prL p).toArray)
  (h : wpList Tryz.prog ops Q rest (a.put o.dst (.bool true)) w) : wpList Tryz.prog ops Q (o :: rest) a w :=
 BigFrame.wpList_want hw fun K hK => by
  have he := eql31 p w
  have hg := run_eqGuard_agg w .eql 24 x y (prL p).toArray (prL p).toArray guard31
  unfold Oper.wp execOp
  simp only [ho,hx,hy,Sem.run_bind,hg,he,Result.andThen_ok,Sem.run_pure]
  exact hK _ _ h

def paW (a : Pa) (v u : Value) : Pa := ⟨a.t,v,a.p,a.lb,u,a.sp,a.ms⟩

theorem samePara_yes (a : Pa) (v u : Value) (w : World) (hA : PaAt w a) (hA' : PaAt w (paW a v u)) :
  Calls Tryz.prog 12 #[paV (paW a v u),paV a] w fun e w' => e = .returned (.bool true) ∧ Below w.heap.size w w' := by
 have hB := (Below.refl w.heap.size w).alloc (Nat.le_refl _) (Obj.cells (paC (paW a v u)) 27)
 have hP := PB.new w (paW a v u)
 have hB2 := hB.alloc hB.size (Obj.cells (paC a) 27)
 have hP2 : PB ((w.alloc (.cells (paC (paW a v u)) 27)).alloc (.cells (paC a) 27)) w.heap.size (paW a v u) := ⟨(Below.heap_alloc _ _ _ (by simp)).trans hP.row⟩
 have hQ2 := PB.new (w.alloc (.cells (paC (paW a v u)) 27)) a
 rw [World.size_alloc] at hQ2
 have hA2 := hA.below hB2 (Nat.le_refl _)
 have hA2' := hA'.below hB2 (Nat.le_refl _)
 unfold paV
 have hs1 : (w.alloc (.cells (paC (paW a v u)) 27)).heap.size = w.heap.size + 1 := World.size_alloc _ _
 clear hP hB hA hA'
 go_enter Tryz.func12,Tryz.ntmps12
 generalize hw1 : w.alloc (.cells (paC (paW a v u)) 27) = w1 at *
 have c0 := hP2.c0
 have d0 := hQ2.c0
 have c1 := hP2.c1
 have d1 := hQ2.c1
 generalize hw2 : w1.alloc (.cells (paC a) 27) = w2 at *
 have e0 : (paW a v u).t = a.t := rfl
 have e1 : (paW a v u).sv = v := rfl
 rw [e0] at c0
 rw [e1] at c1
 have hss := sameSpans_yes v a.sv a.sp w2 hA2.few.1 hA2'.sp hA2.sp
 go_wp2_with fail
 refine hss.mono ?_
 rintro e w3 ⟨rfl,b3⟩
 have hP3 := hP2.below b3 hP2.lt
 have hQ3 := hQ2.below b3 hQ2.lt
 have hA3 := hA2.below b3 (Nat.le_refl _)
 have hA3' := hA2'.below b3 (Nat.le_refl _)
 have hB3 := hB2.trans (b3.mono hB2.size)
 have c19 := hP3.c19
 have d19 := hQ3.c19
 have c20 := hP3.c20
 have d20 := hQ3.c20
 have e19 : (paW a v u).lb = a.lb := rfl
 have e20 : (paW a v u).mv = u := rfl
 rw [e19] at c19
 rw [e20] at c20
 have hst := sameTexts_yes u a.mv a.ms w3 hA3.few.2 hA3'.ms hA3.ms
 go_wp2_with (first | (refine wpList_load_part 24 _ rfl (by rfl) w.heap.size 2 rfl (prL a.p) _ hP3.pr Tryz.underlying24 rfl (info31 a.p) ?_) | (refine wpList_load_part 24 _ rfl (by rfl) (w.heap.size + 1) 2 rfl (prL a.p) _ hQ3.pr Tryz.underlying24 rfl (info31 a.p) ?_) | (refine wpList_eql31_want _ _ rfl (by rfl) a.p rfl rfl ?_))
 refine hst.mono ?_
 rintro e w4 ⟨rfl,b4⟩
 have hB4 := hB3.trans (b4.mono hB3.size)
 go_wp2_with fail
 go_ret
 exact ⟨rfl,hB4⟩
end Go.Proofs.YthcphnifnfnceaaGreatDoor

namespace Go.Proofs.YthcphnifnfnceaaGreatDoor
open Go.ChangeShapes Go.WideShapes Go.ChangeAt Go.RowKit
set_option maxRecDepth 100000

theorem own : ownKnob Tryz.prog.godebug = none := by kernel_rfl
theorem laidOut : laidOutB Tryz.prog = true := by kernel_rfl

theorem pr_at {H : Type} {enc : TypeId × Value → H} {W : World} {spare : Nat → Bool} {held : Bool} {n : Nat} {cs : List Value} {x : DataW H × List MemPlace}
  (hl : cs.length = 17) (ht : DataW.trod enc Tryz.prog W 0 spare held n 24 cs = some x) : ∃ q : Pr,cs = prL q := by
 obtain ⟨xs,m,_,_,_,hxl,hf⟩ := DataW.trod_struct Tryz.underlying24 ht
 have c3 : Tryz.prog.cellsOf 3 = 1 := by kernel_rfl
 have f0 : DataW.trod enc Tryz.prog W 0 spare held m 3 ((cs.drop 0).take (Tryz.prog.cellsOf 3)) = xs[0]? := hf 0 _ rfl
 have f1 : DataW.trod enc Tryz.prog W 0 spare held m 3 ((cs.drop 1).take (Tryz.prog.cellsOf 3)) = xs[1]? := hf 1 _ rfl
 have f2 : DataW.trod enc Tryz.prog W 0 spare held m 3 ((cs.drop 2).take (Tryz.prog.cellsOf 3)) = xs[2]? := hf 2 _ rfl
 have f3 : DataW.trod enc Tryz.prog W 0 spare held m 3 ((cs.drop 3).take (Tryz.prog.cellsOf 3)) = xs[3]? := hf 3 _ rfl
 have f4 : DataW.trod enc Tryz.prog W 0 spare held m 3 ((cs.drop 4).take (Tryz.prog.cellsOf 3)) = xs[4]? := hf 4 _ rfl
 have f5 : DataW.trod enc Tryz.prog W 0 spare held m 3 ((cs.drop 5).take (Tryz.prog.cellsOf 3)) = xs[5]? := hf 5 _ rfl
 have f6 : DataW.trod enc Tryz.prog W 0 spare held m 3 ((cs.drop 6).take (Tryz.prog.cellsOf 3)) = xs[6]? := hf 6 _ rfl
 have f7 : DataW.trod enc Tryz.prog W 0 spare held m 3 ((cs.drop 7).take (Tryz.prog.cellsOf 3)) = xs[7]? := hf 7 _ rfl
 have f8 : DataW.trod enc Tryz.prog W 0 spare held m 3 ((cs.drop 8).take (Tryz.prog.cellsOf 3)) = xs[8]? := hf 8 _ rfl
 have f9 : DataW.trod enc Tryz.prog W 0 spare held m 3 ((cs.drop 9).take (Tryz.prog.cellsOf 3)) = xs[9]? := hf 9 _ rfl
 have f10 : DataW.trod enc Tryz.prog W 0 spare held m 3 ((cs.drop 10).take (Tryz.prog.cellsOf 3)) = xs[10]? := hf 10 _ rfl
 have f11 : DataW.trod enc Tryz.prog W 0 spare held m 3 ((cs.drop 11).take (Tryz.prog.cellsOf 3)) = xs[11]? := hf 11 _ rfl
 have f12 : DataW.trod enc Tryz.prog W 0 spare held m 3 ((cs.drop 12).take (Tryz.prog.cellsOf 3)) = xs[12]? := hf 12 _ rfl
 have f13 : DataW.trod enc Tryz.prog W 0 spare held m 3 ((cs.drop 13).take (Tryz.prog.cellsOf 3)) = xs[13]? := hf 13 _ rfl
 have f14 : DataW.trod enc Tryz.prog W 0 spare held m 3 ((cs.drop 14).take (Tryz.prog.cellsOf 3)) = xs[14]? := hf 14 _ rfl
 have f15 : DataW.trod enc Tryz.prog W 0 spare held m 3 ((cs.drop 15).take (Tryz.prog.cellsOf 3)) = xs[15]? := hf 15 _ rfl
 have f16 : DataW.trod enc Tryz.prog W 0 spare held m 3 ((cs.drop 16).take (Tryz.prog.cellsOf 3)) = xs[16]? := hf 16 _ rfl
 simp only [c3] at f0 f1 f2 f3 f4 f5 f6 f7 f8 f9 f10 f11 f12 f13 f14 f15 f16
 have hsz : xs.length = 17 := hxl
 obtain ⟨y0,y1,y2,y3,y4,y5,y6,y7,y8,y9,y10,y11,y12,y13,y14,y15,y16,rfl⟩ : ∃ y0 y1 y2 y3 y4 y5 y6 y7 y8 y9 y10 y11 y12 y13 y14 y15 y16,xs = [y0,y1,y2,y3,y4,y5,y6,y7,y8,y9,y10,y11,y12,y13,y14,y15,y16] := by
  match xs,hsz with
  | [y0,y1,y2,y3,y4,y5,y6,y7,y8,y9,y10,y11,y12,y13,y14,y15,y16],_ => exact ⟨_,_,_,_,_,_,_,_,_,_,_,_,_,_,_,_,_,rfl⟩
 obtain ⟨z0,z1,z2,z3,z4,z5,z6,z7,z8,z9,z10,z11,z12,z13,z14,z15,z16,rfl⟩ : ∃ z0 z1 z2 z3 z4 z5 z6 z7 z8 z9 z10 z11 z12 z13 z14 z15 z16,cs = [z0,z1,z2,z3,z4,z5,z6,z7,z8,z9,z10,z11,z12,z13,z14,z15,z16] := by
  match cs,hl with
  | [z0,z1,z2,z3,z4,z5,z6,z7,z8,z9,z10,z11,z12,z13,z14,z15,z16],_ => exact ⟨_,_,_,_,_,_,_,_,_,_,_,_,_,_,_,_,_,rfl⟩
 obtain ⟨a0,e0,_,_⟩ := DataW.trod_int Tryz.underlying3 f0
 obtain ⟨a1,e1,_,_⟩ := DataW.trod_int Tryz.underlying3 f1
 obtain ⟨a2,e2,_,_⟩ := DataW.trod_int Tryz.underlying3 f2
 obtain ⟨a3,e3,_,_⟩ := DataW.trod_int Tryz.underlying3 f3
 obtain ⟨a4,e4,_,_⟩ := DataW.trod_int Tryz.underlying3 f4
 obtain ⟨a5,e5,_,_⟩ := DataW.trod_int Tryz.underlying3 f5
 obtain ⟨a6,e6,_,_⟩ := DataW.trod_int Tryz.underlying3 f6
 obtain ⟨a7,e7,_,_⟩ := DataW.trod_int Tryz.underlying3 f7
 obtain ⟨a8,e8,_,_⟩ := DataW.trod_int Tryz.underlying3 f8
 obtain ⟨a9,e9,_,_⟩ := DataW.trod_int Tryz.underlying3 f9
 obtain ⟨a10,e10,_,_⟩ := DataW.trod_int Tryz.underlying3 f10
 obtain ⟨a11,e11,_,_⟩ := DataW.trod_int Tryz.underlying3 f11
 obtain ⟨a12,e12,_,_⟩ := DataW.trod_int Tryz.underlying3 f12
 obtain ⟨a13,e13,_,_⟩ := DataW.trod_int Tryz.underlying3 f13
 obtain ⟨a14,e14,_,_⟩ := DataW.trod_int Tryz.underlying3 f14
 obtain ⟨a15,e15,_,_⟩ := DataW.trod_int Tryz.underlying3 f15
 obtain ⟨a16,e16,_,_⟩ := DataW.trod_int Tryz.underlying3 f16
 simp at e0 e1 e2 e3 e4 e5 e6 e7 e8 e9 e10 e11 e12 e13 e14 e15 e16
 subst e0 e1 e2 e3 e4 e5 e6 e7 e8 e9 e10 e11 e12 e13 e14 e15 e16
 exact ⟨⟨a0,a1,a2,a3,a4,a5,a6,a7,a8,a9,a10,a11,a12,a13,a14,a15,a16⟩,rfl⟩

theorem ch_at {H : Type} {enc : TypeId × Value → H} {W : World} {spare : Nat → Bool} {held : Bool} {n : Nat} {cs : List Value} {x : DataW H × List MemPlace}
  (hl : cs.length = 3) (ht : DataW.trod enc Tryz.prog W 0 spare held n 90 cs = some x) : ∃ q : Int × Int × Int,cs = [.int .i64 q.1,.int .i64 q.2.1,.int .i64 q.2.2] := by
 obtain ⟨xs,m,_,_,_,hxl,hf⟩ := DataW.trod_struct Tryz.underlying90 ht
 have c3 : Tryz.prog.cellsOf 3 = 1 := by kernel_rfl
 have f0 : DataW.trod enc Tryz.prog W 0 spare held m 3 ((cs.drop 0).take (Tryz.prog.cellsOf 3)) = xs[0]? := hf 0 _ rfl
 have f1 : DataW.trod enc Tryz.prog W 0 spare held m 3 ((cs.drop 1).take (Tryz.prog.cellsOf 3)) = xs[1]? := hf 1 _ rfl
 have f2 : DataW.trod enc Tryz.prog W 0 spare held m 3 ((cs.drop 2).take (Tryz.prog.cellsOf 3)) = xs[2]? := hf 2 _ rfl
 simp only [c3] at f0 f1 f2
 have hsz : xs.length = 3 := hxl
 obtain ⟨y0,y1,y2,rfl⟩ : ∃ y0 y1 y2,xs = [y0,y1,y2] := by
  match xs,hsz with
  | [y0,y1,y2],_ => exact ⟨_,_,_,rfl⟩
 obtain ⟨z0,z1,z2,rfl⟩ : ∃ z0 z1 z2,cs = [z0,z1,z2] := by
  match cs,hl with
  | [z0,z1,z2],_ => exact ⟨_,_,_,rfl⟩
 obtain ⟨a0,e0,_,_⟩ := DataW.trod_int Tryz.underlying3 f0
 obtain ⟨a1,e1,_,_⟩ := DataW.trod_int Tryz.underlying3 f1
 obtain ⟨a2,e2,_,_⟩ := DataW.trod_int Tryz.underlying3 f2
 simp at e0 e1 e2
 subst e0 e1 e2
 exact ⟨⟨a0,a1,a2⟩,rfl⟩

theorem sp_at {H : Type} {enc : TypeId × Value → H} {W : World} {spare : Nat → Bool} {held : Bool} {n : Nat} {cs : List Value} {x : DataW H × List MemPlace}
  (hl : cs.length = 4) (ht : DataW.trod enc Tryz.prog W 0 spare held n 92 cs = some x) : ∃ q : Sp,cs = spL q := by
 obtain ⟨xs,m,_,_,_,hxl,hf⟩ := DataW.trod_struct Tryz.underlying92 ht
 have c3 : Tryz.prog.cellsOf 3 = 1 := by kernel_rfl
 have c49 : Tryz.prog.cellsOf 90 = 3 := by kernel_rfl
 have f0 : DataW.trod enc Tryz.prog W 0 spare held m 3 ((cs.drop 0).take (Tryz.prog.cellsOf 3)) = xs[0]? := hf 0 _ rfl
 have f1 : DataW.trod enc Tryz.prog W 0 spare held m 90 ((cs.drop 1).take (Tryz.prog.cellsOf 90)) = xs[1]? := hf 1 _ rfl
 simp only [c3,c49] at f0 f1
 have hsz : xs.length = 2 := hxl
 obtain ⟨y0,y1,rfl⟩ : ∃ y0 y1,xs = [y0,y1] := by
  match xs,hsz with
  | [y0,y1],_ => exact ⟨_,_,rfl⟩
 obtain ⟨z0,z1,z2,z3,rfl⟩ : ∃ z0 z1 z2 z3,cs = [z0,z1,z2,z3] := by
  match cs,hl with
  | [z0,z1,z2,z3],_ => exact ⟨_,_,_,_,rfl⟩
 obtain ⟨a0,e0,_,_⟩ := DataW.trod_int Tryz.underlying3 f0
 obtain ⟨⟨b,c,d⟩,e1⟩ := ch_at rfl (show DataW.trod enc Tryz.prog W 0 spare held m 90 [z1,z2,z3] = some y1 from f1)
 simp at e0 e1
 obtain ⟨rfl,rfl,rfl⟩ := e1
 subst e0
 exact ⟨⟨a0,b,c,d⟩,rfl⟩

theorem recs_in {H : Type} {enc : TypeId × Value → H} {W : World} {spare : Nat → Bool} {fuel : Nat} {cs : List Value} {x : DataW H × List MemPlace} {α : Type} {k : Nat} {f : α → List Value} {ty e : TypeId} (hu : Tryz.prog.underlying ty = some (.slice e)) (ck : Tryz.prog.cellsOf e = k) (hk : 0 < k)
  (hat : ∀ (n : Nat) (cs : List Value) (x : DataW H × List MemPlace),cs.length = k → DataW.trod enc Tryz.prog W 0 spare true n e cs = some x → ∃ q : α,cs = f q)
  (hf : DataW.trod enc Tryz.prog W 0 spare true fuel ty cs = some x) : ∃ (v : Value) (qs : List α),cs = [v] ∧ RecAt k f W v qs ∧ qs.length ≤ 9223372036854775807 ∧ ((x.1 = .nil ∧ qs = []) ∨ ∃ es sp,x.1 = .slice es sp ∧ es.length = qs.length) := by
 rcases Deep.open_slice hu hf with ⟨hcs,hx0⟩ | ⟨a,len,cap,m,n,D,Pl,hcs,_,hl,hm,hmm,hx1,hx⟩
 ·subst hcs
  exact ⟨_,[],rfl,⟨⟨none,0,rfl,.inl rfl⟩,fun a n c e => by cases e; exact Nat.le_refl _⟩,by simp,.inl ⟨by rw [hx0],rfl⟩⟩
 ·subst hcs
  have hlm : len ≤ m := by rw [hmm]; split <;> omega
  rw [ck] at hx
  have hdat : ∃ es sp,x.1 = .slice es sp ∧ es.length = len := by rw [hx1]; exact ⟨_,_,rfl,by simp⟩
  obtain ⟨es,sp,hes,hel⟩ := hdat
  by_cases h0 : len = 0
  ·subst h0
   exact ⟨_,[],rfl,⟨⟨_,_,rfl,.inl rfl⟩,fun a n c e => by cases e; exact hl⟩,by simp,.inr ⟨es,sp,hes,by simpa using hel⟩⟩
  ·obtain ⟨b,off,spot⟩ := a
   obtain ⟨cs',hc0,ht0⟩ := hx 0 (by omega)
   have hb := World.cells?_block hc0 (by omega)
   obtain ⟨_,hl0,hce⟩ := World.cells?_some hc0
   have hg := hce 0 (by omega)
   have hspot : spot = none := by
    match cs',hl0 with
    | z :: _,_ => simpa [Addr.add] using World.cell?_spot hg
    | [],h => simp at h; omega
   subst hspot
   rw [addr_add] at hb
   have hq : ∀ i : Fin len,∃ q : α,∀ j u,(f q)[j]? = some u → W.cell? ⟨b,off + i * k + j,none⟩ = some u := fun i => by
    obtain ⟨cs',hc1,ht1⟩ := hx i (by omega)
    rw [addr_add] at hc1
    obtain ⟨_,hl1,hce1⟩ := World.cells?_some hc1
    obtain ⟨q,rfl⟩ := hat _ _ _ hl1 ht1
    refine ⟨q,fun j u hu => ?_⟩
    have hj : j < (f q).length := (List.getElem?_eq_some_iff.1 hu).1
    have := hce1 j (by omega)
    rw [addr_add] at this
    exact this.trans hu
   refine ⟨_,List.ofFn (fun i => Classical.choose (hq i)),rfl,⟨⟨_,_,by simp; exact rfl,.inr ⟨b,off,rfl,hb,fun i hi j u hu => ?_⟩⟩,fun a n c e => by cases e; exact hl⟩,by simp; unfold maxLen at hm; omega,.inr ⟨es,sp,hes,by simpa using hel⟩⟩
   have hi' : i < len := by simpa using hi
   have := Classical.choose_spec (hq ⟨i,hi'⟩) j u (by simpa using hu)
   simpa using this
end Go.Proofs.YthcphnifnfnceaaGreatDoor

namespace Go.Proofs.YthcphnifnfnceaaGreatDoor
open Go.ChangeShapes Go.WideShapes Go.ChangeAt Go.RowKit

theorem str_at {H : Type} {enc : TypeId × Value → H} {W : World} {spare : Nat → Bool} {n : Nat} {cs : List Value} {x : DataW H × List MemPlace}
  (ht : DataW.trod enc Tryz.prog W 0 spare true n 9 cs = some x) : ∃ q : ByteArray,cs = [.string q] := by
 obtain ⟨q,e,_,_⟩ := DataW.trod_string Tryz.underlying9 ht
 exact ⟨q,e⟩
theorem strs_of_rec {W : World} {v : Value} {qs : List ByteArray} (h : RecAt 1 (fun t => [Value.string t]) W v qs) : StrsAt W v qs := by
 obtain ⟨a,cap,rfl,h2⟩ := h.ex
 refine ⟨⟨a,cap,rfl,?_⟩,h.le⟩
 rcases h2 with h2 | ⟨b,o,rfl,hb,hc⟩
 ·exact .inl h2
 ·refine .inr ⟨b,o,rfl,hb,fun i hi => ?_⟩
  have := hc i hi 0 _ rfl
  simpa using this

end Go.Proofs.YthcphnifnfnceaaGreatDoor

namespace Go.Proofs.YthcphnifnfnceaaGreatDoor
open Go.RowKit Go.Shelf
set_option maxRecDepth 100000
set_option maxHeartbeats 4000000

theorem info51c : (Tryz.prog.info? 92).map (fun i => (i.zero,i.size,i.bytes)) = some (some (.agg #[.int .i64 0,.int .i64 0,.int .i64 0,.int .i64 0]),4,32) := by kernel_rfl
theorem info9c : (Tryz.prog.info? 9).map (fun i => (i.zero,i.size,i.bytes)) = some (some (.string ⟨#[]⟩),1,16) := by kernel_rfl
theorem rec_of_strs {W : World} {v : Value} {qs : List ByteArray} (h : StrsAt W v qs) : RecAt 1 (fun t => [Value.string t]) W v qs := by
 obtain ⟨a,cap,rfl,h2⟩ := h.ex
 refine ⟨⟨a,cap,rfl,?_⟩,h.le⟩
 rcases h2 with h2 | ⟨b,o,rfl,hb,hc⟩
 ·exact .inl h2
 ·refine .inr ⟨b,o,rfl,hb,fun i hi j u hu => ?_⟩
  have hj : j = 0 := by
   have := (List.getElem?_eq_some_iff.1 hu).1
   simp at this
   exact this
  subst hj
  simp at hu
  subst hu
  have := hc i hi
  simpa using this

theorem paC_one2 {a : Pa} (h1 : a.sv.oneCell' = true) (h2 : a.mv.oneCell' = true) : (paC a).all (·.oneCell') = true := by
 have e : ∀ n,(Value.int .i64 n).oneCell' = true := fun _ => rfl
 have e2 : ∀ s,(Value.string s).oneCell' = true := fun _ => rfl
 simp [paC,e,e2,h1,h2]
theorem rec_turnsC {α : Type} {k : Nat} {f : α → List Value} {W W' : World} {X : Nat → Prop} {v : Value} {rs : List α} (h : RecAt k f W v rs) (ht : Turns X W W') (hX : ∀ b o n c,v = .slice (some ⟨b,o,none⟩) n c → ¬ X b) : RecAt k f W' v rs := by
 have hle := h.le
 obtain ⟨a,cap,rfl,h2⟩ := h.ex
 refine ⟨⟨a,cap,rfl,?_⟩,hle⟩
 rcases h2 with h2 | ⟨b,o,rfl,hlt,hc⟩
 ·exact .inl h2
 ·exact .inr ⟨b,o,rfl,Nat.lt_of_lt_of_le hlt ht.size,fun i hi j u hu => cell_turns (hc i hi j u hu) hlt ht (hX b o _ _ rfl)⟩
def fr16 (v0 v1 v2 v3 v4 v5 v6 v7 v8 v9 v10 v11 v12 v13 v14 v15 : Value) : Act := { tmps := #[v0,v1,v2,v3,v4,v5,v6,v7,v8,v9,v10,v11,v12,v13,v14,v15],defers := [] }
def ops16_2 (ps : String) : Array Oper := #[⟨some 5,.buildSlice 22 0 #[],22,ps,#[],none⟩,⟨some 6,.fieldAddr 27 (.tmp 1) 1,0,ps,#[],none⟩,⟨some 7,.load 22 (.tmp 6),22,ps,#[⟨1,.data⟩],none⟩,⟨some 8,.call ⟨.builtin .append,#[.tmp 5,.tmp 7],#[22,22]⟩,22,ps,#[⟨0,.data⟩,⟨2,.data⟩],none⟩,⟨some 9,.fieldAddr 27 (.tmp 3) 1,0,ps,#[⟨0,.phase⟩,⟨1,.phase⟩,⟨2,.phase⟩,⟨3,.phase⟩],none⟩,⟨none,.store 22 (.tmp 9) (.tmp 8),0,ps,#[⟨4,.data⟩,⟨3,.data⟩,⟨3,.chain⟩,⟨0,.phase⟩,⟨1,.phase⟩,⟨2,.phase⟩,⟨3,.phase⟩],none⟩]
theorem copy_r2 (Q : Exit → Act → World → Prop) (id : Nat) (ps : String) {v0 v2 v4 v5 v6 v7 v8 v9 v10 v11 v12 v13 v14 v15 : Value} (B O : Nat) (a a' : Pa) (hn : a.sp.length ≤ 5000) (w : World) (hP : PB w B a) (hO : PB w O a') (hA : RecAt 4 spL w a.sv a.sp)
  (hq : Hid (∀ v W,RecAt 4 spL W v a.sp → (∀ b o n c,v = .slice (some ⟨b,o,none⟩) n c → w.heap.size ≤ b) → W.heap[O]? = some (.cells ((paC a').setIfInBounds 1 v) 27 (0,0)) → Turns (fun b => b = O) w W → ∀ u5 u6 u7 u8 u9,Q .normal (fr16 v0 (.pointer (some ⟨B,0,none⟩)) v2 (.pointer (some ⟨O,0,none⟩)) v4 u5 u6 u7 u8 u9 v10 v11 v12 v13 v14 v15) W)) :
  (Code.region id (ops16_2 ps) false).wp Tryz.prog Q (fr16 v0 (.pointer (some ⟨B,0,none⟩)) v2 (.pointer (some ⟨O,0,none⟩)) v4 v5 v6 v7 v8 v9 v10 v11 v12 v13 v14 v15) w := by
 obtain ⟨i0,hi,hz0,hz1,hz2⟩ := info_parts info51c
 replace hi : Hid _ := hi
 have hb1 := (Below.refl w.heap.size w).alloc (Nat.le_refl _) (.cells #[] 92)
 have hsrc := rec_srcs spL_len spL_one (by decide) (hA.below hb1 (Nat.le_refl _))
 have hP1 := hP.below hb1 hP.lt
 have c1 := hP1.c1
 replace hsrc : Hid _ := hsrc
 have hbase : w.heap.size ≤ (w.alloc (.cells #[] 92)).heap.size := by simp
 have hOl := hO.lt
 unfold ops16_2 fr16
 go_wp2_with (at_builtin; refine wpList_append_any _ rfl _ _ 22 rfl w.heap.size 92 i0 _ 4 32 Tryz.underlying22 hi.out hz0 hz1 hz2 rfl (by decide) _ 0 [] rfl (ownsRow_lit w 92 4 _ (Nat.le_refl _)) a.sp.length (a.sp.flatMap spL) _ rfl hsrc.out (by unfold maxLen; omega) (by omega) hbase ?_; intro v' w2 hown hgrow; rw [Nat.zero_add,List.nil_append] at hown; obtain ⟨ad,nn,cc,rfl⟩ : ∃ ad nn cc,v' = .slice ad nn cc := (by rcases hown.2 with ⟨h,_⟩ | ⟨g,cap,cur,h,_⟩ <;> exact ⟨_,_,_,h⟩); replace hown : Hid _ := hown; have hB : Below w.heap.size w w2 := below_grown hb1 (ownsRow_lit w 92 4 _ (Nat.le_refl _)) (Nat.le_refl _) (Nat.le_refl _) hgrow; have hO2 := hO.below hB hO.lt; have k1 := hO2.c1; have g1 : w2.frozen? ⟨O,1,none⟩ = false := Lib.frozen_of_heap hO2.row 1)
 have hT : Turns (fun b => b = O) w2 (w2.setCell ⟨O,1,none⟩ (.slice ad nn cc)) := Turns.setCell (X := fun b => b = O) _ (p := ⟨O,1,none⟩) rfl _
 have hown' : w2.ownsRow w.heap.size 92 4 (.slice ad nn cc) a.sp.length (a.sp.flatMap spL) := hown.out
 have hlt : ∀ g,(Value.slice ad nn cc).ownBlock = some g → w.heap.size ≤ g := fun g hg => (hown'.lt g hg).1
 exact hq.out (.slice ad nn cc) _ (rec_of_row spL_len rfl (ownsRow_turns hown.out hT (fun g hg e => by have := hlt g hg; omega))) (fun b o n c e => by cases e; rcases hown.out.2 with ⟨h,_⟩ | ⟨g,cap,cur,h,hb',_⟩ <;> cases h; exact hb') (heap_setCell_same w2 O 1 _ 27 (.slice ad nn cc) hO2.row) (((Turns.of_below hB).mono (fun _ h => h.elim)).trans hT) _ _ _ _ _

def ops16_3 (ps : String) : Array Oper := #[⟨some 10,.buildSlice 25 0 #[],25,ps,#[],none⟩,⟨some 11,.fieldAddr 27 (.tmp 1) 4,0,ps,#[],none⟩,⟨some 12,.load 25 (.tmp 11),25,ps,#[⟨1,.data⟩],none⟩,⟨some 13,.call ⟨.builtin .append,#[.tmp 10,.tmp 12],#[25,25]⟩,25,ps,#[⟨0,.data⟩,⟨2,.data⟩],none⟩,⟨some 14,.fieldAddr 27 (.tmp 3) 4,0,ps,#[⟨0,.phase⟩,⟨1,.phase⟩,⟨2,.phase⟩,⟨3,.phase⟩],none⟩,⟨none,.store 25 (.tmp 14) (.tmp 13),0,ps,#[⟨4,.data⟩,⟨3,.data⟩,⟨3,.chain⟩,⟨0,.phase⟩,⟨1,.phase⟩,⟨2,.phase⟩,⟨3,.phase⟩],none⟩]
theorem copy_r3 (Q : Exit → Act → World → Prop) (id : Nat) (ps : String) {v0 v2 v4 v5 v6 v7 v8 v9 v10 v11 v12 v13 v14 v15 : Value} (B O : Nat) (a a' : Pa) (hn : a.ms.length ≤ 5000) (w : World) (hP : PB w B a) (hO : PB w O a') (hA : StrsAt w a.mv a.ms)
  (hq : Hid (∀ v W,StrsAt W v a.ms → (∀ b o n c,v = .slice (some ⟨b,o,none⟩) n c → w.heap.size ≤ b) → W.heap[O]? = some (.cells ((paC a').setIfInBounds 20 v) 27 (0,0)) → Turns (fun b => b = O) w W → ∀ u10 u11 u12 u13 u14,Q .normal (fr16 v0 (.pointer (some ⟨B,0,none⟩)) v2 (.pointer (some ⟨O,0,none⟩)) v4 v5 v6 v7 v8 v9 u10 u11 u12 u13 u14 v15) W)) :
  (Code.region id (ops16_3 ps) false).wp Tryz.prog Q (fr16 v0 (.pointer (some ⟨B,0,none⟩)) v2 (.pointer (some ⟨O,0,none⟩)) v4 v5 v6 v7 v8 v9 v10 v11 v12 v13 v14 v15) w := by
 obtain ⟨i0,hi,hz0,hz1,hz2⟩ := info_parts info9c
 replace hi : Hid _ := hi
 have hb1 := (Below.refl w.heap.size w).alloc (Nat.le_refl _) (.cells #[] 9)
 have hsrc := rec_srcs (k := 1) (f := fun t => [Value.string t]) (fun _ => rfl) (by intro a u hu; simp at hu; subst hu; rfl) (by decide) (rec_of_strs (hA.below hb1 (Nat.le_refl _)))
 have hP1 := hP.below hb1 hP.lt
 have c1 := hP1.c20
 replace hsrc : Hid _ := hsrc
 have hbase : w.heap.size ≤ (w.alloc (.cells #[] 9)).heap.size := by simp
 have hOl := hO.lt
 unfold ops16_3 fr16
 go_wp2_with (at_builtin; refine wpList_append_any _ rfl _ _ 25 rfl w.heap.size 9 i0 _ 1 16 Tryz.underlying25 hi.out hz0 hz1 hz2 rfl (by decide) _ 0 [] rfl (ownsRow_lit w 9 1 _ (Nat.le_refl _)) a.ms.length (a.ms.flatMap (fun t => [Value.string t])) _ rfl hsrc.out (by unfold maxLen; omega) (by omega) hbase ?_; intro v' w2 hown hgrow; rw [Nat.zero_add,List.nil_append] at hown; obtain ⟨ad,nn,cc,rfl⟩ : ∃ ad nn cc,v' = .slice ad nn cc := (by rcases hown.2 with ⟨h,_⟩ | ⟨g,cap,cur,h,_⟩ <;> exact ⟨_,_,_,h⟩); replace hown : Hid _ := hown; have hB : Below w.heap.size w w2 := below_grown hb1 (ownsRow_lit w 9 1 _ (Nat.le_refl _)) (Nat.le_refl _) (Nat.le_refl _) hgrow; have hO2 := hO.below hB hO.lt; have k1 := hO2.c20; have g1 : w2.frozen? ⟨O,20,none⟩ = false := Lib.frozen_of_heap hO2.row 20)
 have hT : Turns (fun b => b = O) w2 (w2.setCell ⟨O,20,none⟩ (.slice ad nn cc)) := Turns.setCell (X := fun b => b = O) _ (p := ⟨O,20,none⟩) rfl _
 have hown' : w2.ownsRow w.heap.size 9 1 (.slice ad nn cc) a.ms.length (a.ms.flatMap (fun t => [Value.string t])) := hown.out
 have hlt : ∀ g,(Value.slice ad nn cc).ownBlock = some g → w.heap.size ≤ g := fun g hg => (hown'.lt g hg).1
 exact hq.out (.slice ad nn cc) _ ((fun h => strs_of_rec (rec_of_row (f := fun t => [Value.string t]) (fun _ => rfl) rfl h)) (ownsRow_turns hown.out hT (fun g hg e => by have := hlt g hg; omega))) (fun b o n c e => by cases e; rcases hown.out.2 with ⟨h,_⟩ | ⟨g,cap,cur,h,hb',_⟩ <;> cases h; exact hb') (heap_setCell_same w2 O 20 _ 27 (.slice ad nn cc) hO2.row) (((Turns.of_below hB).mono (fun _ h => h.elim)).trans hT) _ _ _ _ _


theorem copy_any (a : Pa) (h1 : a.sp.length ≤ 5000) (h2 : a.ms.length ≤ 5000) (w : World) (hA : PaAt w a) :
  Calls Tryz.prog 8 #[paV a] w fun e w' => ∃ v u,e = .returned (paV (paW a v u)) ∧ PaAt w' (paW a v u) ∧ Below w.heap.size w w' := by
 have hB := (Below.refl w.heap.size w).alloc (Nat.le_refl _) (Obj.cells (paC a) 27)
 have hP := PB.new w a
 have hs1 : (w.alloc (.cells (paC a) 27)).heap.size = w.heap.size + 1 := World.size_alloc _ _
 have h1c : a.sv.oneCell' = true := by obtain ⟨ad,c,e,_⟩ := hA.sp.ex; rw [e]; rfl
 have h2c : a.mv.oneCell' = true := by obtain ⟨ad,c,e,_⟩ := hA.ms.ex; rw [e]; rfl
 have hone := paC_one2 h1c h2c
 replace hone : Hid _ := hone
 unfold paV
 have hA' : Hid (PaAt w a) := hA
 clear hA h1c h2c
 generalize hw1 : w.alloc (.cells (paC a) 27) = w1 at *
 have hB2 := hB.alloc hB.size (Obj.cells #[.string ⟨#[]⟩,.slice none 0 0,.int .i64 0,.int .i64 0,.int .i64 0,.int .i64 0,.int .i64 0,.int .i64 0,.int .i64 0,.int .i64 0,.int .i64 0,.int .i64 0,.int .i64 0,.int .i64 0,.int .i64 0,.int .i64 0,.int .i64 0,.int .i64 0,.int .i64 0,.string ⟨#[]⟩,.slice none 0 0] 27)
 have hP2 : PB (w1.alloc (.cells #[.string ⟨#[]⟩,.slice none 0 0,.int .i64 0,.int .i64 0,.int .i64 0,.int .i64 0,.int .i64 0,.int .i64 0,.int .i64 0,.int .i64 0,.int .i64 0,.int .i64 0,.int .i64 0,.int .i64 0,.int .i64 0,.int .i64 0,.int .i64 0,.int .i64 0,.int .i64 0,.string ⟨#[]⟩,.slice none 0 0] 27)) w.heap.size a := ⟨(Below.heap_alloc _ _ _ (by omega)).trans hP.row⟩
 have hR2 : (w1.alloc (.cells #[.string ⟨#[]⟩,.slice none 0 0,.int .i64 0,.int .i64 0,.int .i64 0,.int .i64 0,.int .i64 0,.int .i64 0,.int .i64 0,.int .i64 0,.int .i64 0,.int .i64 0,.int .i64 0,.int .i64 0,.int .i64 0,.int .i64 0,.int .i64 0,.int .i64 0,.int .i64 0,.string ⟨#[]⟩,.slice none 0 0] 27)).heap[w.heap.size + 1]? = some (.cells #[.string ⟨#[]⟩,.slice none 0 0,.int .i64 0,.int .i64 0,.int .i64 0,.int .i64 0,.int .i64 0,.int .i64 0,.int .i64 0,.int .i64 0,.int .i64 0,.int .i64 0,.int .i64 0,.int .i64 0,.int .i64 0,.int .i64 0,.int .i64 0,.int .i64 0,.int .i64 0,.string ⟨#[]⟩,.slice none 0 0] 27 (0,0)) := by rw [← hs1]; exact World.alloc_heap_new w1 _
 have hs2 : (w1.alloc (.cells #[.string ⟨#[]⟩,.slice none 0 0,.int .i64 0,.int .i64 0,.int .i64 0,.int .i64 0,.int .i64 0,.int .i64 0,.int .i64 0,.int .i64 0,.int .i64 0,.int .i64 0,.int .i64 0,.int .i64 0,.int .i64 0,.int .i64 0,.int .i64 0,.int .i64 0,.int .i64 0,.string ⟨#[]⟩,.slice none 0 0] 27)).heap.size = w.heap.size + 2 := by rw [World.size_alloc,hs1]
 have hB3 := hB2.alloc hB2.size (Obj.cells #[.string ⟨#[]⟩,.slice none 0 0,.int .i64 0,.int .i64 0,.int .i64 0,.int .i64 0,.int .i64 0,.int .i64 0,.int .i64 0,.int .i64 0,.int .i64 0,.int .i64 0,.int .i64 0,.int .i64 0,.int .i64 0,.int .i64 0,.int .i64 0,.int .i64 0,.int .i64 0,.string ⟨#[]⟩,.slice none 0 0] 27)
 have hP3 : PB ((w1.alloc (.cells #[.string ⟨#[]⟩,.slice none 0 0,.int .i64 0,.int .i64 0,.int .i64 0,.int .i64 0,.int .i64 0,.int .i64 0,.int .i64 0,.int .i64 0,.int .i64 0,.int .i64 0,.int .i64 0,.int .i64 0,.int .i64 0,.int .i64 0,.int .i64 0,.int .i64 0,.int .i64 0,.string ⟨#[]⟩,.slice none 0 0] 27)).alloc (.cells #[.string ⟨#[]⟩,.slice none 0 0,.int .i64 0,.int .i64 0,.int .i64 0,.int .i64 0,.int .i64 0,.int .i64 0,.int .i64 0,.int .i64 0,.int .i64 0,.int .i64 0,.int .i64 0,.int .i64 0,.int .i64 0,.int .i64 0,.int .i64 0,.int .i64 0,.int .i64 0,.string ⟨#[]⟩,.slice none 0 0] 27)) w.heap.size a := ⟨(Below.heap_alloc _ _ _ (by omega)).trans hP2.row⟩
 have hR3 : ((w1.alloc (.cells #[.string ⟨#[]⟩,.slice none 0 0,.int .i64 0,.int .i64 0,.int .i64 0,.int .i64 0,.int .i64 0,.int .i64 0,.int .i64 0,.int .i64 0,.int .i64 0,.int .i64 0,.int .i64 0,.int .i64 0,.int .i64 0,.int .i64 0,.int .i64 0,.int .i64 0,.int .i64 0,.string ⟨#[]⟩,.slice none 0 0] 27)).alloc (.cells #[.string ⟨#[]⟩,.slice none 0 0,.int .i64 0,.int .i64 0,.int .i64 0,.int .i64 0,.int .i64 0,.int .i64 0,.int .i64 0,.int .i64 0,.int .i64 0,.int .i64 0,.int .i64 0,.int .i64 0,.int .i64 0,.int .i64 0,.int .i64 0,.int .i64 0,.int .i64 0,.string ⟨#[]⟩,.slice none 0 0] 27)).heap[w.heap.size + 1]? = some (.cells #[.string ⟨#[]⟩,.slice none 0 0,.int .i64 0,.int .i64 0,.int .i64 0,.int .i64 0,.int .i64 0,.int .i64 0,.int .i64 0,.int .i64 0,.int .i64 0,.int .i64 0,.int .i64 0,.int .i64 0,.int .i64 0,.int .i64 0,.int .i64 0,.int .i64 0,.int .i64 0,.string ⟨#[]⟩,.slice none 0 0] 27 (0,0)) := (Below.heap_alloc _ _ _ (by omega)).trans hR2
 have hO3 : ((w1.alloc (.cells #[.string ⟨#[]⟩,.slice none 0 0,.int .i64 0,.int .i64 0,.int .i64 0,.int .i64 0,.int .i64 0,.int .i64 0,.int .i64 0,.int .i64 0,.int .i64 0,.int .i64 0,.int .i64 0,.int .i64 0,.int .i64 0,.int .i64 0,.int .i64 0,.int .i64 0,.int .i64 0,.string ⟨#[]⟩,.slice none 0 0] 27)).alloc (.cells #[.string ⟨#[]⟩,.slice none 0 0,.int .i64 0,.int .i64 0,.int .i64 0,.int .i64 0,.int .i64 0,.int .i64 0,.int .i64 0,.int .i64 0,.int .i64 0,.int .i64 0,.int .i64 0,.int .i64 0,.int .i64 0,.int .i64 0,.int .i64 0,.int .i64 0,.int .i64 0,.string ⟨#[]⟩,.slice none 0 0] 27)).heap[w.heap.size + 2]? = some (.cells #[.string ⟨#[]⟩,.slice none 0 0,.int .i64 0,.int .i64 0,.int .i64 0,.int .i64 0,.int .i64 0,.int .i64 0,.int .i64 0,.int .i64 0,.int .i64 0,.int .i64 0,.int .i64 0,.int .i64 0,.int .i64 0,.int .i64 0,.int .i64 0,.int .i64 0,.int .i64 0,.string ⟨#[]⟩,.slice none 0 0] 27 (0,0)) := by rw [← hs2]; exact World.alloc_heap_new _ _
 have hs3 : ((w1.alloc (.cells #[.string ⟨#[]⟩,.slice none 0 0,.int .i64 0,.int .i64 0,.int .i64 0,.int .i64 0,.int .i64 0,.int .i64 0,.int .i64 0,.int .i64 0,.int .i64 0,.int .i64 0,.int .i64 0,.int .i64 0,.int .i64 0,.int .i64 0,.int .i64 0,.int .i64 0,.int .i64 0,.string ⟨#[]⟩,.slice none 0 0] 27)).alloc (.cells #[.string ⟨#[]⟩,.slice none 0 0,.int .i64 0,.int .i64 0,.int .i64 0,.int .i64 0,.int .i64 0,.int .i64 0,.int .i64 0,.int .i64 0,.int .i64 0,.int .i64 0,.int .i64 0,.int .i64 0,.int .i64 0,.int .i64 0,.int .i64 0,.int .i64 0,.int .i64 0,.string ⟨#[]⟩,.slice none 0 0] 27)).heap.size = w.heap.size + 3 := by rw [World.size_alloc,hs2]
 go_enter Tryz.func8,Tryz.ntmps8
 apply wp_seq_k; intro K0 hK0
 replace hK0 : Hid _ := hK0
 go_wp2_with fail
 refine hK0.out _ _ ?_
 clear hK0 K0
 apply wp_seq_k; intro K1 hK1
 replace hK1 : Hid _ := hK1
 go_wp2_with (first | (refine wpList_load_row rfl 27 _ rfl w.heap.size rfl 27 _ (0,0) _ hP2.row Tryz.underlying27 rfl (info34 a) ?_) | (refine wpList_store_row rfl 27 _ _ rfl (w.heap.size + 2) (paC a) rfl rfl 27 _ hO3 (info34 _) rfl hone.out ?_))
 refine hK1.out _ _ ?_
 clear hK1 K1
 generalize hw3 : (w1.alloc (.cells #[.string ⟨#[]⟩,.slice none 0 0,.int .i64 0,.int .i64 0,.int .i64 0,.int .i64 0,.int .i64 0,.int .i64 0,.int .i64 0,.int .i64 0,.int .i64 0,.int .i64 0,.int .i64 0,.int .i64 0,.int .i64 0,.int .i64 0,.int .i64 0,.int .i64 0,.int .i64 0,.string ⟨#[]⟩,.slice none 0 0] 27)).alloc (.cells #[.string ⟨#[]⟩,.slice none 0 0,.int .i64 0,.int .i64 0,.int .i64 0,.int .i64 0,.int .i64 0,.int .i64 0,.int .i64 0,.int .i64 0,.int .i64 0,.int .i64 0,.int .i64 0,.int .i64 0,.int .i64 0,.int .i64 0,.int .i64 0,.int .i64 0,.int .i64 0,.string ⟨#[]⟩,.slice none 0 0] 27) = w3 at *
 have hT4 : Turns (fun b => b = w.heap.size + 2) w3 (w3.setRow (w.heap.size + 2) (paC a)) := Turns.setRow (X := fun b => b = w.heap.size + 2) _ (r := w.heap.size + 2) rfl _
 have hB4 := hB3.trans (hT4.below hB3.size (fun b hb => by omega))
 have hP4 := hP3.turns hT4 (by omega)
 have hR4 := (hT4.block (w.heap.size + 1) (by omega) (by omega)).trans hR3
 have hO4 : PB (w3.setRow (w.heap.size + 2) (paC a)) (w.heap.size + 2) a := ⟨setRow_heap _ _ _ _ 27 _ hO3⟩
 generalize hw4 : w3.setRow (w.heap.size + 2) (paC a) = w4 at *
 have hA4 := hA'.out.below hB4 (Nat.le_refl _)
 clear hT4 hw1 hw3 hP hP2 hP3 hR2 hR3 hO3 hs2 hs3 hB2 hB3
 apply wp_seq_k; intro K2 hK2
 refine copy_r2 _ _ _ w.heap.size (w.heap.size + 2) a a h1 w4 hP4 hO4 hA4.sp (fun v w5 hI5 hv5 hO5 hT5 _ _ _ _ _ => hK2 _ _ ?_)
 clear hK2 K2
 have hO5' : PB w5 (w.heap.size + 2) (paW a v a.mv) := ⟨hO5⟩
 have hB5 := hB4.trans (hT5.below hB4.size (fun b hb => by omega))
 have hP5 := hP4.turns hT5 (by omega)
 have hR5 := (hT5.block (w.heap.size + 1) (Array.getElem?_eq_some_iff.1 hR4).1 (by omega)).trans hR4
 have hA5 := hA'.out.below hB5 (Nat.le_refl _)
 apply wp_seq_k; intro K3 hK3
 refine copy_r3 _ _ _ w.heap.size (w.heap.size + 2) a (paW a v a.mv) h2 w5 hP5 hO5' hA5.ms (fun u w6 hI6 hu6 hO6 hT6 _ _ _ _ _ => hK3 _ _ ?_)
 clear hK3 K3
 have hO6' : PB w6 (w.heap.size + 2) (paW a v u) := ⟨hO6⟩
 have hB6 := hB5.trans (hT6.below hB5.size (fun b hb => by omega))
 have hR6 := (hT6.block (w.heap.size + 1) (Array.getElem?_eq_some_iff.1 hR5).1 (by omega)).trans hR5
 have hl4 : w.heap.size + 2 < w4.heap.size := hO4.lt
 have hl5 : w.heap.size + 2 < w5.heap.size := hO5'.lt
 have hIv : ∀ b o n c,v = .slice (some ⟨b,o,none⟩) n c → ¬ b = w.heap.size + 2 := fun b o n c e => by have := hv5 b o n c e; omega
 have hIv2 : ∀ b o n c,v = .slice (some ⟨b,o,none⟩) n c → ¬ b = w.heap.size + 1 := fun b o n c e => by have := hv5 b o n c e; omega
 have hIu : ∀ b o n c,u = .slice (some ⟨b,o,none⟩) n c → ¬ b = w.heap.size + 1 := fun b o n c e => by have := hu6 b o n c e; omega
 have hI6' : RecAt 4 spL w6 v a.sp := rec_turnsC hI5 hT6 hIv
 have hone6 : Hid ((paC (paW a v u)).all (·.oneCell') = true) := by
  refine paC_one2 ?_ ?_
  ·obtain ⟨ad,c,e,_⟩ := hI5.ex; show v.oneCell' = true; rw [e]; rfl
  ·obtain ⟨ad,c,e,_⟩ := hI6.ex; show u.oneCell' = true; rw [e]; rfl
 have hT7 : Turns (fun b => b = w.heap.size + 1) w6 (w6.setRow (w.heap.size + 1) (paC (paW a v u))) := Turns.setRow (X := fun b => b = w.heap.size + 1) _ (r := w.heap.size + 1) rfl _
 have hR7 : PB (w6.setRow (w.heap.size + 1) (paC (paW a v u))) (w.heap.size + 1) (paW a v u) := ⟨setRow_heap _ _ _ _ 27 _ hR6⟩
 have hB7 := hB6.trans (hT7.below hB6.size (fun b hb => by omega))
 have hA7 : PaAt (w6.setRow (w.heap.size + 1) (paC (paW a v u))) (paW a v u) := ⟨rec_turnsC hI6' hT7 hIv2,strs_of_rec (rec_turnsC (rec_of_strs hI6) hT7 hIu),hA'.out.few⟩
 unfold fr16
 go_wp2_with (first | (refine wpList_load_row rfl 27 _ rfl (w.heap.size + 2) rfl 27 _ (0,0) _ hO6'.row Tryz.underlying27 rfl (info34 _) ?_) | (refine wpList_store_row rfl 27 _ _ rfl (w.heap.size + 1) (paC (paW a v u)) rfl rfl 27 _ hR6 (info34 _) rfl hone6.out ?_))
 refine bodyPost_ret (results_cell_row rfl _ _ (w.heap.size + 1) 27 _ (0,0) _ rfl hR7.row Tryz.underlying27 rfl (info34 _)) rfl ⟨v,u,rfl,hA7,hB7⟩
end Go.Proofs.YthcphnifnfnceaaGreatDoor
