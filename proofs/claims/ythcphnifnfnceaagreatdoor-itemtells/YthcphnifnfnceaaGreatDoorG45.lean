/-
  What is proved here: what Plain answers.
  What is proved here: the examples' items; when two lists of items are the same; what two, wide and Of answer.
  What is proved here: when two lists of items are the same; what two, wide, Of, items and awake answer.
  What is proved here: what two, wide, Of answer.
  What is proved here: what Of answers.
  What is proved here: when items of the law and awake answer yes.
-/
import Derived.Test.YthcphnifnfnceaaGreatDoorG9
import Derived.Test.YthcphnifnfnceaaGreatDoorG24
import Derived.Test.YthcphnifnfnceaaGreatDoorG3
namespace Go.Proofs.YthcphnifnfnceaaGreatDoor
open Go.RowKit Go.Shelf
set_option maxRecDepth 100000
set_option maxHeartbeats 2000000

theorem prL_one (p : Pr) : (prL p).toArray.all (·.oneCell') = true := by simp [prL,Value.oneCell']
theorem paC_one (a : Pa) (h1 : a.sv.oneCell' = true) (h2 : a.mv.oneCell' = true) : (paC a).all (·.oneCell') = true := by simp [paC,Value.oneCell']; exact ⟨h1,h2⟩
def plainP (s : Int) : Pr := ⟨s,12,0,0,0,0,0,0,0,0,1,1,0,0,0,0,0⟩

theorem plain_any (s : Int) (w : World) : Calls Tryz.prog 59 #[.int .i64 s] w fun e w' => e = .returned (.agg (prL (plainP s)).toArray) ∧ Below w.heap.size w w' := by
 have hB := (Below.refl w.heap.size w).alloc (Nat.le_refl _) (Obj.cells #[.int .i64 0,.int .i64 0,.int .i64 0,.int .i64 0,.int .i64 0,.int .i64 0,.int .i64 0,.int .i64 0,.int .i64 0,.int .i64 0,.int .i64 0,.int .i64 0,.int .i64 0,.int .i64 0,.int .i64 0,.int .i64 0,.int .i64 0] 24)
 have hz : (w.alloc (.cells #[.int .i64 0,.int .i64 0,.int .i64 0,.int .i64 0,.int .i64 0,.int .i64 0,.int .i64 0,.int .i64 0,.int .i64 0,.int .i64 0,.int .i64 0,.int .i64 0,.int .i64 0,.int .i64 0,.int .i64 0,.int .i64 0,.int .i64 0] 24)).heap[w.heap.size]? = some (.cells #[.int .i64 0,.int .i64 0,.int .i64 0,.int .i64 0,.int .i64 0,.int .i64 0,.int .i64 0,.int .i64 0,.int .i64 0,.int .i64 0,.int .i64 0,.int .i64 0,.int .i64 0,.int .i64 0,.int .i64 0,.int .i64 0,.int .i64 0] 24 (0,0)) := World.alloc_heap_new w _
 go_enter Tryz.func59,Tryz.ntmps59
 go_wp2_with (refine wpList_store_row rfl 24 _ _ rfl w.heap.size (prL (plainP s)).toArray rfl rfl 24 _ hz (info31 _) rfl (prL_one _) ?_)
 refine bodyPost_ret (results_cell_row rfl _ _ w.heap.size 24 _ (0,0) _ rfl (setRow_heap _ _ _ _ 24 _ hz) Tryz.underlying24 rfl (info31 (plainP s))) rfl ⟨rfl,?_⟩
 exact hB.trans ((Turns.setRow (X := fun b => b = w.heap.size) (w.alloc (.cells #[.int .i64 0,.int .i64 0,.int .i64 0,.int .i64 0,.int .i64 0,.int .i64 0,.int .i64 0,.int .i64 0,.int .i64 0,.int .i64 0,.int .i64 0,.int .i64 0,.int .i64 0,.int .i64 0,.int .i64 0,.int .i64 0,.int .i64 0] 24)) rfl _).below (by simp) (fun b hb => by omega))

end Go.Proofs.YthcphnifnfnceaaGreatDoor

namespace Go.Proofs.YthcphnifnfnceaaGreatDoor
open Go.RowKit Go.Shelf

def twoL : List It := [⟨1,0,1,5,0,0,0,false⟩,⟨2,1,2,3,1,1,0,false⟩,⟨1,2,3,5,0,0,0,false⟩]
def ofP (t : ByteArray) (sv : Value) (h : Int) : Pa := ⟨t,sv,⟨8,12,0,0,0,0,0,0,0,0,1,1,h,0,0,0,0⟩,⟨#[]⟩,.slice none 0 0,[⟨t.size,0,0,0⟩],[]⟩
theorem ofP_ok1 (sv : Value) : chkI (ofP ⟨#[97,32,98]⟩ sv 0) = 0 := by kernel_rfl
theorem ofP_its1 (sv : Value) : itemsOf (ofP ⟨#[97,32,98]⟩ sv 0) = twoL := by kernel_rfl
end Go.Proofs.YthcphnifnfnceaaGreatDoor

namespace Go.Proofs.YthcphnifnfnceaaGreatDoor
open Go.RowKit Go.Shelf
set_option maxRecDepth 100000
set_option maxHeartbeats 4000000

theorem sameItems_yes (v u : Value) (qs : List It) (w : World) (hl : qs.length ≤ 9223372036854775807) (hS : ItsAt w v qs) (hR : ItsAt w u qs) :
  Calls Tryz.prog 11 #[v,u] w fun e w' => e = .returned (.bool true) ∧ Below w.heap.size w w' := by
 obtain ⟨a,cap,rfl,h2⟩ := hS.ex
 obtain ⟨a',cap',rfl,h3⟩ := hR.ex
 clear hS hR
 go_enter Tryz.func11,Tryz.ntmps11
 go_wp2_with fail
 go_loopw [5] (fun i wr => ∃ k : Nat,k ≤ qs.length ∧ i = .int .i64 k ∧ Below w.heap.size w wr) (fun i _ => qs.length - (intOf i).toNat)
 case atStart => exact ⟨0,by omega,rfl,Below.refl _ _⟩
 case round =>
  obtain ⟨k,hk,rfl,hb⟩ := hrel
  by_cases hlt : k < qs.length
  ·rcases h2 with h2 | ⟨b,o,rfl,hbl,hc⟩
   ·rw [h2] at hlt; simp at hlt
   ·rcases h3 with h3 | ⟨b',o',rfl,hbl',hc'⟩
    ·rw [h3] at hlt; simp at hlt
    ·have hlt' : (k : Int) < qs.length := by omega
     have c0 : wr.cell? ⟨b,o + k * 8,none⟩ = some (.int .i64 qs[k].k) := (hb.cell hbl).trans (hc k hlt 0 _ rfl)
     have c1 : wr.cell? ⟨b,o + k * 8 + 1,none⟩ = some (.int .i64 qs[k].f) := (hb.cell hbl).trans (hc k hlt 1 _ rfl)
     have c2 : wr.cell? ⟨b,o + k * 8 + 2,none⟩ = some (.int .i64 qs[k].t) := (hb.cell hbl).trans (hc k hlt 2 _ rfl)
     have c3 : wr.cell? ⟨b,o + k * 8 + 3,none⟩ = some (.int .i64 qs[k].w) := (hb.cell hbl).trans (hc k hlt 3 _ rfl)
     have c4 : wr.cell? ⟨b,o + k * 8 + 4,none⟩ = some (.int .i64 qs[k].s) := (hb.cell hbl).trans (hc k hlt 4 _ rfl)
     have c5 : wr.cell? ⟨b,o + k * 8 + 5,none⟩ = some (.int .i64 qs[k].h) := (hb.cell hbl).trans (hc k hlt 5 _ rfl)
     have c6 : wr.cell? ⟨b,o + k * 8 + 6,none⟩ = some (.int .i64 qs[k].c) := (hb.cell hbl).trans (hc k hlt 6 _ rfl)
     have c7 : wr.cell? ⟨b,o + k * 8 + 7,none⟩ = some (.bool qs[k].y) := (hb.cell hbl).trans (hc k hlt 7 _ rfl)
     have d0 : wr.cell? ⟨b',o' + k * 8,none⟩ = some (.int .i64 qs[k].k) := (hb.cell hbl').trans (hc' k hlt 0 _ rfl)
     have d1 : wr.cell? ⟨b',o' + k * 8 + 1,none⟩ = some (.int .i64 qs[k].f) := (hb.cell hbl').trans (hc' k hlt 1 _ rfl)
     have d2 : wr.cell? ⟨b',o' + k * 8 + 2,none⟩ = some (.int .i64 qs[k].t) := (hb.cell hbl').trans (hc' k hlt 2 _ rfl)
     have d3 : wr.cell? ⟨b',o' + k * 8 + 3,none⟩ = some (.int .i64 qs[k].w) := (hb.cell hbl').trans (hc' k hlt 3 _ rfl)
     have d4 : wr.cell? ⟨b',o' + k * 8 + 4,none⟩ = some (.int .i64 qs[k].s) := (hb.cell hbl').trans (hc' k hlt 4 _ rfl)
     have d5 : wr.cell? ⟨b',o' + k * 8 + 5,none⟩ = some (.int .i64 qs[k].h) := (hb.cell hbl').trans (hc' k hlt 5 _ rfl)
     have d6 : wr.cell? ⟨b',o' + k * 8 + 6,none⟩ = some (.int .i64 qs[k].c) := (hb.cell hbl').trans (hc' k hlt 6 _ rfl)
     have d7 : wr.cell? ⟨b',o' + k * 8 + 7,none⟩ = some (.bool qs[k].y) := (hb.cell hbl').trans (hc' k hlt 7 _ rfl)
     clear hc hc'
     generalize qs[k].k = x0 at *
     generalize qs[k].f = x1 at *
     generalize qs[k].t = x2 at *
     generalize qs[k].w = x3 at *
     generalize qs[k].s = x4 at *
     generalize qs[k].h = x5 at *
     generalize qs[k].c = x6 at *
     generalize qs[k].y = x7 at *
     go_wp2_with fail
     go_quiet (fail)
     go_wp2_with fail
     go_roundw
     case rel => exact ⟨k + 1,by omega,by simp,below_drewN hb _⟩
     case measure => simp [intOf]; omega
  ·have hge : ¬ (k : Int) < qs.length := by omega
   go_wp2_with fail
   go_ret
   exact ⟨rfl,hb⟩
end Go.Proofs.YthcphnifnfnceaaGreatDoor

namespace Go.Proofs.YthcphnifnfnceaaGreatDoor
open Go.RowKit Go.Shelf
set_option maxRecDepth 100000
set_option maxHeartbeats 4000000

theorem two_any (w : World) : Calls Tryz.prog 29 #[] w fun e w' => (∃ v,e = .returned v ∧ ItsAt w' v twoL) ∧ Below w.heap.size w w' := by
 go_enter Tryz.func29,Tryz.ntmps29
 go_wp2_with fail
 go_ret
 exact ⟨⟨_,rfl,rec_new itL_len w 51 twoL⟩,(Below.refl w.heap.size w).alloc (Nat.le_refl _) _⟩
def zeroP : Pa := ⟨⟨#[]⟩,.slice none 0 0,⟨0,0,0,0,0,0,0,0,0,0,0,0,0,0,0,0,0⟩,⟨#[]⟩,.slice none 0 0,[],[]⟩
def rawP (t : ByteArray) : Pa := ⟨t,.slice none 0 0,plainP 8,⟨#[]⟩,.slice none 0 0,[],[]⟩
end Go.Proofs.YthcphnifnfnceaaGreatDoor

namespace Go.Proofs.YthcphnifnfnceaaGreatDoor
open Go.RowKit Go.Shelf
set_option maxRecDepth 100000
set_option maxHeartbeats 1000000

def rest31 : Code := ((Code.region 4 #[⟨some 15,.load 27 (.tmp 3),27,"outright.go:17",#[],none⟩,⟨none,.store 27 (.tmp 2) (.tmp 15),0,"outright.go:17",#[⟨0,.data⟩,⟨0,.phase⟩],none⟩] false).seq Code.ret)
theorem of_end (R : Ending → World → Prop) (a : Pa) (h1 : a.sv.oneCell' = true) (h2 : a.mv.oneCell' = true) (B2 B3 : Nat) (W : World) (hl : W.heap[B3]? = some (.cells (paC a) 27 (0,0))) (hz : W.heap[B2]? = some (.cells (paC zeroP) 27 (0,0))) {v0 v1 v4 v5 v6 v7 v8 v9 v10 v11 v12 v13 v14 v15 : Value}
  (hR : R (.returned (.agg (paC a))) (W.setRow B2 (paC a))) : rest31.wp Tryz.prog (bodyPost Tryz.prog Tryz.f31 R) { tmps := #[v0,v1,.pointer (some ⟨B2,0,none⟩),.pointer (some ⟨B3,0,none⟩),v4,v5,v6,v7,v8,v9,v10,v11,v12,v13,v14,v15],defers := [] } W := by
 unfold rest31
 go_wp2_with (first | (refine wpList_load_row rfl 27 _ rfl B3 rfl 27 _ (0,0) _ hl Tryz.underlying27 rfl (info34 a) ?_) | (refine wpList_store_row rfl 27 _ _ rfl B2 (paC a) rfl rfl 27 _ hz (info34 _) rfl (paC_one _ h1 h2) ?_))
 refine bodyPost_ret (results_cell_row rfl _ _ B2 27 _ (0,0) _ rfl (setRow_heap _ _ _ _ 27 _ hz) Tryz.underlying27 rfl (info34 a)) rfl ?_
 exact hR
def rest31a : Code := (((Code.region 2 #[⟨some 7,.move (.tmp 0),9,"outright.go:14",#[],none⟩,⟨some 8,.call ⟨.builtin .len,#[.tmp 7],#[9]⟩,3,"outright.go:14",#[⟨0,.data⟩],none⟩,⟨some 9,.binOp .gtr 3 (.tmp 8) (.const (.int .i64 0)) 3,4,"outright.go:14",#[⟨1,.data⟩],none⟩] false).seq (Code.cond (Operand.tmp 9) (Code.region 3 #[⟨some 10,.move (.tmp 0),9,"outright.go:15",#[],none⟩,⟨some 11,.call ⟨.builtin .len,#[.tmp 10],#[9]⟩,3,"outright.go:15",#[⟨0,.data⟩],none⟩,⟨some 12,.build 92 #[(0,.tmp 11)],92,"outright.go:15",#[⟨1,.data⟩],none⟩,⟨some 13,.buildSlice 22 1 #[(0,.tmp 12)],22,"outright.go:15",#[⟨2,.data⟩],none⟩,⟨some 14,.fieldAddr 27 (.tmp 3) 1,0,"outright.go:15",#[⟨0,.phase⟩,⟨1,.phase⟩,⟨2,.phase⟩,⟨3,.phase⟩],none⟩,⟨none,.store 22 (.tmp 14) (.tmp 13),0,"outright.go:15",#[⟨4,.data⟩,⟨3,.data⟩,⟨0,.phase⟩,⟨1,.phase⟩,⟨2,.phase⟩,⟨3,.phase⟩],none⟩] false) Code.skip)).seq rest31)
def OfEnd (t : ByteArray) (w : World) (e : Ending) (w' : World) : Prop := (∃ sv,e = .returned (.agg (paC (ofP t sv 0))) ∧ PaAt w' (ofP t sv 0)) ∧ Below w.heap.size w w'
theorem of_mid (t : ByteArray) (ht : 0 < t.size) (w W : World) (B3 : Nat) (hB : Below w.heap.size w W) (hP : PB W B3 (rawP t)) (hz : W.heap[w.heap.size]? = some (.cells (paC zeroP) 27 (0,0))) (h3 : w.heap.size < B3) {v1 v4 v5 v6 v7 v8 v9 v10 v11 v12 v13 v14 v15 : Value} :
  rest31a.wp Tryz.prog (bodyPost Tryz.prog Tryz.f31 (OfEnd t w)) { tmps := #[.string t,v1,.pointer (some ⟨w.heap.size,0,none⟩),.pointer (some ⟨B3,0,none⟩),v4,v5,v6,v7,v8,v9,v10,v11,v12,v13,v14,v15],defers := [] } W := by
 have ht' : (0 : Int) < t.size := by omega
 have hlt := hP.lt
 have hP5 : PB (W.alloc (.cells #[.int .i64 t.size,.int .i64 0,.int .i64 0,.int .i64 0] 92)) B3 (rawP t) := ⟨(Below.heap_alloc _ _ _ hlt).trans hP.row⟩
 have c1 : (W.alloc (.cells #[.int .i64 t.size,.int .i64 0,.int .i64 0,.int .i64 0] 92)).cell? ⟨B3,1,none⟩ = some (.slice none 0 0) := hP5.c1
 have f1 : (W.alloc (.cells #[.int .i64 t.size,.int .i64 0,.int .i64 0,.int .i64 0] 92)).frozen? ⟨B3,1,none⟩ = false := Lib.frozen_of_heap hP5.row 1
 have hend : Hid (∀ v0 v1 v4 v5 v6 v7 v8 v9 v10 v11 v12 v13 v14 v15 : Value,rest31.wp Tryz.prog (bodyPost Tryz.prog Tryz.f31 (OfEnd t w)) { tmps := #[v0,v1,.pointer (some ⟨w.heap.size,0,none⟩),.pointer (some ⟨B3,0,none⟩),v4,v5,v6,v7,v8,v9,v10,v11,v12,v13,v14,v15],defers := [] } ((W.setCell ⟨B3,1,none⟩ (.slice (some ⟨W.heap.size,0,none⟩) 1 1)).alloc (.cells #[.int .i64 t.size,.int .i64 0,.int .i64 0,.int .i64 0] 92))) := by
  intro v0 v1 v4 v5 v6 v7 v8 v9 v10 v11 v12 v13 v14 v15
  have hrec : RecAt 4 spL ((W.setCell ⟨B3,1,none⟩ (.slice (some ⟨W.heap.size,0,none⟩) 1 1)).alloc (.cells #[.int .i64 t.size,.int .i64 0,.int .i64 0,.int .i64 0] 92)) (.slice (some ⟨W.heap.size,0,none⟩) 1 1) [⟨t.size,0,0,0⟩] := by
   have := rec_new spL_len (W.setCell ⟨B3,1,none⟩ (.slice (some ⟨W.heap.size,0,none⟩) 1 1)) 92 [⟨t.size,0,0,0⟩]
   rw [World.size_setCell] at this
   exact this
  have hl : ((W.setCell ⟨B3,1,none⟩ (.slice (some ⟨W.heap.size,0,none⟩) 1 1)).alloc (.cells #[.int .i64 t.size,.int .i64 0,.int .i64 0,.int .i64 0] 92)).heap[B3]? = some (.cells (paC (ofP t (.slice (some ⟨W.heap.size,0,none⟩) 1 1) 0)) 27 (0,0)) := (Below.heap_alloc _ _ _ (by rw [World.size_setCell]; exact hlt)).trans (heap_setCell_same _ _ 1 _ 27 _ hP.row)
  have hz6 : ((W.setCell ⟨B3,1,none⟩ (.slice (some ⟨W.heap.size,0,none⟩) 1 1)).alloc (.cells #[.int .i64 t.size,.int .i64 0,.int .i64 0,.int .i64 0] 92)).heap[w.heap.size]? = some (.cells (paC zeroP) 27 (0,0)) := (Below.heap_alloc _ _ _ (by rw [World.size_setCell]; omega)).trans ((Below.heap_setCell _ _ _ _ (by show w.heap.size ≠ B3; omega)).trans hz)
  have hT6 : Turns (fun k => k = w.heap.size) ((W.setCell ⟨B3,1,none⟩ (.slice (some ⟨W.heap.size,0,none⟩) 1 1)).alloc (.cells #[.int .i64 t.size,.int .i64 0,.int .i64 0,.int .i64 0] 92)) (((W.setCell ⟨B3,1,none⟩ (.slice (some ⟨W.heap.size,0,none⟩) 1 1)).alloc (.cells #[.int .i64 t.size,.int .i64 0,.int .i64 0,.int .i64 0] 92)).setRow w.heap.size (paC (ofP t (.slice (some ⟨W.heap.size,0,none⟩) 1 1) 0))) := Turns.setRow (X := fun k => k = w.heap.size) _ rfl _
  have hB6 : Below w.heap.size w ((W.setCell ⟨B3,1,none⟩ (.slice (some ⟨W.heap.size,0,none⟩) 1 1)).alloc (.cells #[.int .i64 t.size,.int .i64 0,.int .i64 0,.int .i64 0] 92)) := (hB.setCell (p := ⟨B3,1,none⟩) (by show w.heap.size ≤ B3; omega) _).alloc (by rw [World.size_setCell]; omega) _
  refine of_end (OfEnd t w) (ofP t (.slice (some ⟨W.heap.size,0,none⟩) 1 1) 0) rfl rfl w.heap.size B3 _ hl hz6 ?_
  exact ⟨⟨_,rfl,rec_turns hrec hT6 (fun b o n c e => by cases e; omega),⟨⟨none,0,rfl,.inl rfl⟩,fun a n c e => by cases e; exact Nat.le_refl _⟩,by simp [ofP]⟩,hB6.trans (hT6.below hB6.size (fun k hk => by omega))⟩
 clear hP5 hz hB hP
 unfold rest31a
 go_wp2_with fail
 exact hend.out _ _ _ _ _ _ _ _ _ _ _ _ _ _
theorem of_any (t : ByteArray) (ht : 0 < t.size) (w : World) : Calls Tryz.prog 31 #[.string t] w (OfEnd t w) := by
 have hpl : Hid (Calls Tryz.prog 59 #[.int .i64 8] (w.alloc (.cells (paC zeroP) 27)) fun e w' => e = .returned (.agg #[.int .i64 8,.int .i64 12,.int .i64 0,.int .i64 0,.int .i64 0,.int .i64 0,.int .i64 0,.int .i64 0,.int .i64 0,.int .i64 0,.int .i64 1,.int .i64 1,.int .i64 0,.int .i64 0,.int .i64 0,.int .i64 0,.int .i64 0]) ∧ Below (w.alloc (.cells (paC zeroP) 27)).heap.size (w.alloc (.cells (paC zeroP) 27)) w') := plain_any 8 _
 have hend : Hid (∀ w2,Below (w.alloc (.cells (paC zeroP) 27)).heap.size (w.alloc (.cells (paC zeroP) 27)) w2 → ∀ v1 v4 v5 v6 v7 v8 v9 v10 v11 v12 v13 v14 v15 : Value,rest31a.wp Tryz.prog (bodyPost Tryz.prog Tryz.f31 (OfEnd t w)) { tmps := #[.string t,v1,.pointer (some ⟨w.heap.size,0,none⟩),.pointer (some ⟨w2.heap.size,0,none⟩),v4,v5,v6,v7,v8,v9,v10,v11,v12,v13,v14,v15],defers := [] } ((w2.alloc (.cells (paC zeroP) 27)).setRow w2.heap.size (paC (rawP t)))) := fun w2 hb2 => by
  intro v1 v4 v5 v6 v7 v8 v9 v10 v11 v12 v13 v14 v15
  have hB1 := (Below.refl w.heap.size w).alloc (Nat.le_refl _) (Obj.cells (paC zeroP) 27)
  have hs1 : (w.alloc (.cells (paC zeroP) 27)).heap.size = w.heap.size + 1 := World.size_alloc _ _
  have h2 : w.heap.size < w2.heap.size := by have := hb2.size; omega
  have hr2 : w2.heap[w.heap.size]? = some (.cells (paC zeroP) 27 (0,0)) := (hb2.block _ (by rw [hs1]; omega)).trans (PB.new w zeroP).row
  have hT4 : Turns (fun k => k = w2.heap.size) (w2.alloc (.cells (paC zeroP) 27)) ((w2.alloc (.cells (paC zeroP) 27)).setRow w2.heap.size (paC (rawP t))) := Turns.setRow (X := fun k => k = w2.heap.size) _ rfl _
  have hB3 : Below w.heap.size w (w2.alloc (.cells (paC zeroP) 27)) := (hB1.trans (hb2.mono hB1.size)).alloc (by omega) _
  exact of_mid t ht w _ w2.heap.size (hB3.trans (hT4.below hB3.size (fun k hk => by omega))) ⟨setRow_heap _ _ _ _ 27 _ (PB.new w2 zeroP).row⟩ ((hT4.block _ (by simp; omega) (by omega)).trans ((Below.heap_alloc _ _ _ h2).trans hr2)) h2
 have hz : Hid (∀ w2 : World,(w2.alloc (.cells (paC zeroP) 27)).heap[w2.heap.size]? = some (.cells (paC zeroP) 27 (0,0))) := fun w2 => (PB.new w2 zeroP).row
 dsimp only [paC,zeroP] at hz
 go_enter Tryz.func31,Tryz.ntmps31
 change Code.wp Tryz.prog ((Code.region 0 #[⟨some 2,.alloc 27,0,"outright.go:12",#[],none⟩] false).seq ((Code.region 1 #[⟨some 4,.move (.tmp 0),9,"outright.go:13",#[],none⟩,⟨some 5,.call ⟨.value (.func 59),#[.const (.int .i64 8)],#[3]⟩,24,"outright.go:13",#[],none⟩,⟨some 6,.build 27 #[(0,.tmp 4),(2,.tmp 5)],27,"outright.go:13",#[⟨0,.data⟩,⟨1,.data⟩],none⟩,⟨some 3,.alloc 27,0,"outright.go:13",#[],none⟩,⟨none,.store 27 (.tmp 3) (.tmp 6),0,"outright.go:13",#[⟨3,.data⟩,⟨2,.data⟩,⟨1,.chain⟩,⟨0,.phase⟩,⟨1,.phase⟩,⟨2,.phase⟩,⟨3,.phase⟩],none⟩] false).seq rest31a)) _ _ _
 go_wp2_with (first | (refine wpList_store_row rfl 27 (.tmp 3) (.tmp 6) rfl w2.heap.size (paC (rawP t)) rfl rfl 27 _ (hz.out w2) (info34 _) rfl (paC_one _ rfl rfl) ?_) | (go_at_call 59; refine hpl.out.mono ?_; rintro e w2 ⟨rfl,hb2⟩))
 exact hend.out w2 hb2 _ _ _ _ _ _ _ _ _ _ _ _ _
end Go.Proofs.YthcphnifnfnceaaGreatDoor

namespace Go.Proofs.YthcphnifnfnceaaGreatDoor
open Go.RowKit Go.Shelf
set_option maxRecDepth 100000
set_option maxHeartbeats 1000000

theorem items32_yes (a : Pa) (u : Value) (w : World) (hA : PaAt w a) (htb : Hy.Tab w) (h : chkI a = 0) (hU : ItsAt w u (itemsOf a)) (hl : (itemsOf a).length ≤ 8193) :
  Calls Tryz.prog 32 #[.agg (paC a),u] w fun e w' => e = .returned (.bool true) ∧ Below w.heap.size w w' := by
 have hB := (Below.refl w.heap.size w).alloc (Nat.le_refl _) (Obj.cells (paC a) 27)
 have hP := PB.new w a
 have hit : Hid (Calls Tryz.prog 9 #[.agg (paC a)] (w.alloc (.cells (paC a) 27)) fun e w' => (∃ v,e = .returned (.tuple #[v,.int .i64 0]) ∧ ItsAt w' v (itemsOf a)) ∧ Below (w.alloc (.cells (paC a) 27)).heap.size (w.alloc (.cells (paC a) 27)) w') := by
  have hs := items_all a _ (hA.below hB (Nat.le_refl _)) (htb.below hB)
  refine hs.mono ?_
  rintro e w' ⟨⟨v,rfl,hv⟩,hb⟩
  rw [h] at hv ⊢
  rcases hv with ⟨h1,_⟩ | ⟨_,h1,_⟩
  ·exact absurd rfl h1
  ·exact ⟨⟨v,rfl,rec_of_row itL_len rfl h1⟩,hb⟩
 have hsame : Hid (∀ w2 v,ItsAt w2 v (itemsOf a) → Below w.heap.size w w2 → Calls Tryz.prog 11 #[v,u] w2 fun e w' => e = .returned (.bool true) ∧ Below w.heap.size w w') := fun w2 v hv hb2 => by
  refine (sameItems_yes v u (itemsOf a) w2 (by omega) hv (hU.below hb2 (Nat.le_refl _))).mono ?_
  rintro e w' ⟨rfl,hb⟩
  exact ⟨rfl,hb2.trans (hb.mono hb2.size)⟩
 obtain ⟨ua,uc,rfl,-⟩ := hU.ex
 obtain ⟨n,hn⟩ : ∃ n,(itemsOf a).length = n := ⟨_,rfl⟩
 rw [hn] at hsame ⊢
 have hB' : Hid (Below w.heap.size w (w.alloc (.cells (paC a) 27))) := hB
 clear hU hA htb h hB
 generalize hw1 : w.alloc (.cells (paC a) 27) = w1 at *
 go_enter Tryz.func32,Tryz.ntmps32
 go_wp2_with (first | (refine wpList_load_row rfl 27 _ rfl w.heap.size rfl 27 _ (0,0) _ hP.row Tryz.underlying27 rfl (info34 a) ?_) | (go_at_call 9; refine hit.out.mono ?_; rintro e w2 ⟨⟨v,rfl,hv⟩,hb2⟩; obtain ⟨va,vc,rfl,-⟩ := hv.ex; rw [hn] at hv) | (go_at_call 11; refine (hsame.out _ _ hv (hB'.out.trans (hb2.mono hB'.out.size))).mono ?_; rintro e w3 ⟨rfl,hb3⟩))
 go_ret
 exact ⟨rfl,hb3⟩
theorem awake_yes (w : World) (htb : Hy.Tab w) : Calls Tryz.prog 14 #[] w fun e w' => e = .returned (.bool true) ∧ Below w.heap.size w w' := by
 have h1 : Hid (Calls Tryz.prog 31 #[.string ⟨#[97,32,98]⟩] w (OfEnd ⟨#[97,32,98]⟩ w)) := of_any _ (by decide) w
 have h2 : Hid (∀ w1,Below w.heap.size w w1 → Calls Tryz.prog 29 #[] w1 fun e w' => (∃ v,e = .returned v ∧ ItsAt w' v twoL) ∧ Below w1.heap.size w1 w') := fun w1 _ => two_any w1
 have h3 : Hid (∀ w1 w2 sv v,Below w.heap.size w w1 → PaAt w1 (ofP ⟨#[97,32,98]⟩ sv 0) → Below w1.heap.size w1 w2 → ItsAt w2 v twoL → Calls Tryz.prog 32 #[.agg (paC (ofP ⟨#[97,32,98]⟩ sv 0)),v] w2 fun e w' => e = .returned (.bool true) ∧ Below w.heap.size w w') := fun w1 w2 sv v hb1 hp hb2 hv => by
  have hb : Below w.heap.size w w2 := hb1.trans (hb2.mono hb1.size)
  refine (items32_yes _ v w2 (hp.below hb2 (Nat.le_refl _)) (htb.below hb) (ofP_ok1 sv) (by rw [ofP_its1]; exact hv) (by rw [ofP_its1]; decide)).mono ?_
  rintro e w' ⟨rfl,hb3⟩
  exact ⟨rfl,hb.trans (hb3.mono hb.size)⟩
 unfold OfEnd at h1
 go_enter Tryz.func14,Tryz.ntmps14
 go_wp2_with (first | (go_at_call 31; refine h1.out.mono ?_; rintro e w1 ⟨⟨sv,rfl,hp⟩,hb1⟩) | (go_at_call 29; refine (h2.out w1 hb1).mono ?_; rintro e w2 ⟨⟨v,rfl,hv⟩,hb2⟩) | (go_at_call 32; refine (h3.out w1 w2 sv v hb1 hp hb2 hv).mono ?_; rintro e w3 ⟨rfl,hb3⟩))
 go_ret
 exact ⟨rfl,hb3⟩
end Go.Proofs.YthcphnifnfnceaaGreatDoor
