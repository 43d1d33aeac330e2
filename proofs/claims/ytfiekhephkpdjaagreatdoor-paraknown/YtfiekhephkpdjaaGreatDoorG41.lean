/-
  What is proved here: what Plain answers.
  What is proved here: the examples' items; when two lists of items are the same; what two, wide and Of answer.
  What is proved here: what two, wide, Of answer.
  What is proved here: what Of answers.
  What is proved here: what Of answers of no text; when two lists of lines are the same; what lines and awake of the law answer.
  What is proved here: what awake of the law answers.
-/
import Derived.Test.YtfiekhephkpdjaaGreatDoorG12
import Derived.Test.YtfiekhephkpdjaaGreatDoorG40
import Derived.Test.YtfiekhephkpdjaaGreatDoorG4
import Derived.Test.YtfiekhephkpdjaaGreatDoorG25
namespace Go.Proofs.YtfiekhephkpdjaaGreatDoor
open Go.RowKit Go.Shelf
set_option maxRecDepth 100000
set_option maxHeartbeats 2000000

theorem prL_one (p : Pr) : (prL p).toArray.all (·.oneCell') = true := by simp [prL,Value.oneCell']
theorem paC_one (a : Pa) (h1 : a.sv.oneCell' = true) (h2 : a.mv.oneCell' = true) : (paC a).all (·.oneCell') = true := by simp [paC,Value.oneCell']; exact ⟨h1,h2⟩
def plainP (s : Int) : Pr := ⟨s,12,0,0,0,0,0,0,0,0,1,1,0,0,0,0,0⟩

theorem plain_any (s : Int) (w : World) : Calls Tryz.prog 8 #[.int .i64 s] w fun e w' => e = .returned (.agg (prL (plainP s)).toArray) ∧ Below w.heap.size w w' := by
 have hB := (Below.refl w.heap.size w).alloc (Nat.le_refl _) (Obj.cells #[.int .i64 0,.int .i64 0,.int .i64 0,.int .i64 0,.int .i64 0,.int .i64 0,.int .i64 0,.int .i64 0,.int .i64 0,.int .i64 0,.int .i64 0,.int .i64 0,.int .i64 0,.int .i64 0,.int .i64 0,.int .i64 0,.int .i64 0] 24)
 have hz : (w.alloc (.cells #[.int .i64 0,.int .i64 0,.int .i64 0,.int .i64 0,.int .i64 0,.int .i64 0,.int .i64 0,.int .i64 0,.int .i64 0,.int .i64 0,.int .i64 0,.int .i64 0,.int .i64 0,.int .i64 0,.int .i64 0,.int .i64 0,.int .i64 0] 24)).heap[w.heap.size]? = some (.cells #[.int .i64 0,.int .i64 0,.int .i64 0,.int .i64 0,.int .i64 0,.int .i64 0,.int .i64 0,.int .i64 0,.int .i64 0,.int .i64 0,.int .i64 0,.int .i64 0,.int .i64 0,.int .i64 0,.int .i64 0,.int .i64 0,.int .i64 0] 24 (0,0)) := World.alloc_heap_new w _
 go_enter Tryz.func8,Tryz.ntmps8
 go_wp2_with (refine wpList_store_row rfl 24 _ _ rfl w.heap.size (prL (plainP s)).toArray rfl rfl 24 _ hz (info31 _) rfl (prL_one _) ?_)
 refine bodyPost_ret (results_cell_row rfl _ _ w.heap.size 24 _ (0,0) _ rfl (setRow_heap _ _ _ _ 24 _ hz) Tryz.underlying24 rfl (info31 (plainP s))) rfl ⟨rfl,?_⟩
 exact hB.trans ((Turns.setRow (X := fun b => b = w.heap.size) (w.alloc (.cells #[.int .i64 0,.int .i64 0,.int .i64 0,.int .i64 0,.int .i64 0,.int .i64 0,.int .i64 0,.int .i64 0,.int .i64 0,.int .i64 0,.int .i64 0,.int .i64 0,.int .i64 0,.int .i64 0,.int .i64 0,.int .i64 0,.int .i64 0] 24)) rfl _).below (by simp) (fun b hb => by omega))

end Go.Proofs.YtfiekhephkpdjaaGreatDoor

namespace Go.Proofs.YtfiekhephkpdjaaGreatDoor
open Go.RowKit Go.Shelf

def ofP (t : ByteArray) (sv : Value) (h : Int) : Pa := ⟨t,sv,⟨8,12,0,0,0,0,0,0,0,0,1,1,h,0,0,0,0⟩,⟨#[]⟩,.slice none 0 0,[⟨t.size,0,0,0⟩],[]⟩
end Go.Proofs.YtfiekhephkpdjaaGreatDoor

namespace Go.Proofs.YtfiekhephkpdjaaGreatDoor
open Go.RowKit Go.Shelf

def zeroP : Pa := ⟨⟨#[]⟩,.slice none 0 0,⟨0,0,0,0,0,0,0,0,0,0,0,0,0,0,0,0,0⟩,⟨#[]⟩,.slice none 0 0,[],[]⟩
def rawP (t : ByteArray) : Pa := ⟨t,.slice none 0 0,plainP 8,⟨#[]⟩,.slice none 0 0,[],[]⟩
end Go.Proofs.YtfiekhephkpdjaaGreatDoor

namespace Go.Proofs.YtfiekhephkpdjaaGreatDoor
open Go.RowKit Go.Shelf
set_option maxRecDepth 100000
set_option maxHeartbeats 1000000

def rest31 : Code := ((Code.region 4 #[⟨some 15,.load 27 (.tmp 3),27,"outright.go:17",#[],none⟩,⟨none,.store 27 (.tmp 2) (.tmp 15),0,"outright.go:17",#[⟨0,.data⟩,⟨0,.phase⟩],none⟩] false).seq Code.ret)
theorem of_end (R : Ending → World → Prop) (a : Pa) (h1 : a.sv.oneCell' = true) (h2 : a.mv.oneCell' = true) (B2 B3 : Nat) (W : World) (hl : W.heap[B3]? = some (.cells (paC a) 27 (0,0))) (hz : W.heap[B2]? = some (.cells (paC zeroP) 27 (0,0))) {v0 v1 v4 v5 v6 v7 v8 v9 v10 v11 v12 v13 v14 v15 : Value}
  (hR : R (.returned (.agg (paC a))) (W.setRow B2 (paC a))) : rest31.wp Tryz.prog (bodyPost Tryz.prog Tryz.f4 R) { tmps := #[v0,v1,.pointer (some ⟨B2,0,none⟩),.pointer (some ⟨B3,0,none⟩),v4,v5,v6,v7,v8,v9,v10,v11,v12,v13,v14,v15],defers := [] } W := by
 unfold rest31
 go_wp2_with (first | (refine wpList_load_row rfl 27 _ rfl B3 rfl 27 _ (0,0) _ hl Tryz.underlying27 rfl (info34 a) ?_) | (refine wpList_store_row rfl 27 _ _ rfl B2 (paC a) rfl rfl 27 _ hz (info34 _) rfl (paC_one _ h1 h2) ?_))
 refine bodyPost_ret (results_cell_row rfl _ _ B2 27 _ (0,0) _ rfl (setRow_heap _ _ _ _ 27 _ hz) Tryz.underlying27 rfl (info34 a)) rfl ?_
 exact hR
def rest31a : Code := (((Code.region 2 #[⟨some 7,.move (.tmp 0),9,"outright.go:14",#[],none⟩,⟨some 8,.call ⟨.builtin .len,#[.tmp 7],#[9]⟩,3,"outright.go:14",#[⟨0,.data⟩],none⟩,⟨some 9,.binOp .gtr 3 (.tmp 8) (.const (.int .i64 0)) 3,4,"outright.go:14",#[⟨1,.data⟩],none⟩] false).seq (Code.cond (Operand.tmp 9) (Code.region 3 #[⟨some 10,.move (.tmp 0),9,"outright.go:15",#[],none⟩,⟨some 11,.call ⟨.builtin .len,#[.tmp 10],#[9]⟩,3,"outright.go:15",#[⟨0,.data⟩],none⟩,⟨some 12,.build 43 #[(0,.tmp 11)],43,"outright.go:15",#[⟨1,.data⟩],none⟩,⟨some 13,.buildSlice 22 1 #[(0,.tmp 12)],22,"outright.go:15",#[⟨2,.data⟩],none⟩,⟨some 14,.fieldAddr 27 (.tmp 3) 1,0,"outright.go:15",#[⟨0,.phase⟩,⟨1,.phase⟩,⟨2,.phase⟩,⟨3,.phase⟩],none⟩,⟨none,.store 22 (.tmp 14) (.tmp 13),0,"outright.go:15",#[⟨4,.data⟩,⟨3,.data⟩,⟨0,.phase⟩,⟨1,.phase⟩,⟨2,.phase⟩,⟨3,.phase⟩],none⟩] false) Code.skip)).seq rest31)
def OfEnd (t : ByteArray) (w : World) (e : Ending) (w' : World) : Prop := (∃ sv,e = .returned (.agg (paC (ofP t sv 0))) ∧ PaAt w' (ofP t sv 0)) ∧ Below w.heap.size w w'
theorem of_mid (t : ByteArray) (ht : 0 < t.size) (w W : World) (B3 : Nat) (hB : Below w.heap.size w W) (hP : PB W B3 (rawP t)) (hz : W.heap[w.heap.size]? = some (.cells (paC zeroP) 27 (0,0))) (h3 : w.heap.size < B3) {v1 v4 v5 v6 v7 v8 v9 v10 v11 v12 v13 v14 v15 : Value} :
  rest31a.wp Tryz.prog (bodyPost Tryz.prog Tryz.f4 (OfEnd t w)) { tmps := #[.string t,v1,.pointer (some ⟨w.heap.size,0,none⟩),.pointer (some ⟨B3,0,none⟩),v4,v5,v6,v7,v8,v9,v10,v11,v12,v13,v14,v15],defers := [] } W := by
 have ht' : (0 : Int) < t.size := by omega
 have hlt := hP.lt
 have hP5 : PB (W.alloc (.cells #[.int .i64 t.size,.int .i64 0,.int .i64 0,.int .i64 0] 43)) B3 (rawP t) := ⟨(Below.heap_alloc _ _ _ hlt).trans hP.row⟩
 have c1 : (W.alloc (.cells #[.int .i64 t.size,.int .i64 0,.int .i64 0,.int .i64 0] 43)).cell? ⟨B3,1,none⟩ = some (.slice none 0 0) := hP5.c1
 have f1 : (W.alloc (.cells #[.int .i64 t.size,.int .i64 0,.int .i64 0,.int .i64 0] 43)).frozen? ⟨B3,1,none⟩ = false := Lib.frozen_of_heap hP5.row 1
 have hend : Hid (∀ v0 v1 v4 v5 v6 v7 v8 v9 v10 v11 v12 v13 v14 v15 : Value,rest31.wp Tryz.prog (bodyPost Tryz.prog Tryz.f4 (OfEnd t w)) { tmps := #[v0,v1,.pointer (some ⟨w.heap.size,0,none⟩),.pointer (some ⟨B3,0,none⟩),v4,v5,v6,v7,v8,v9,v10,v11,v12,v13,v14,v15],defers := [] } ((W.setCell ⟨B3,1,none⟩ (.slice (some ⟨W.heap.size,0,none⟩) 1 1)).alloc (.cells #[.int .i64 t.size,.int .i64 0,.int .i64 0,.int .i64 0] 43))) := by
  intro v0 v1 v4 v5 v6 v7 v8 v9 v10 v11 v12 v13 v14 v15
  have hrec : RecAt 4 spL ((W.setCell ⟨B3,1,none⟩ (.slice (some ⟨W.heap.size,0,none⟩) 1 1)).alloc (.cells #[.int .i64 t.size,.int .i64 0,.int .i64 0,.int .i64 0] 43)) (.slice (some ⟨W.heap.size,0,none⟩) 1 1) [⟨t.size,0,0,0⟩] := by
   have := rec_new spL_len (W.setCell ⟨B3,1,none⟩ (.slice (some ⟨W.heap.size,0,none⟩) 1 1)) 43 [⟨t.size,0,0,0⟩]
   rw [World.size_setCell] at this
   exact this
  have hl : ((W.setCell ⟨B3,1,none⟩ (.slice (some ⟨W.heap.size,0,none⟩) 1 1)).alloc (.cells #[.int .i64 t.size,.int .i64 0,.int .i64 0,.int .i64 0] 43)).heap[B3]? = some (.cells (paC (ofP t (.slice (some ⟨W.heap.size,0,none⟩) 1 1) 0)) 27 (0,0)) := (Below.heap_alloc _ _ _ (by rw [World.size_setCell]; exact hlt)).trans (heap_setCell_same _ _ 1 _ 27 _ hP.row)
  have hz6 : ((W.setCell ⟨B3,1,none⟩ (.slice (some ⟨W.heap.size,0,none⟩) 1 1)).alloc (.cells #[.int .i64 t.size,.int .i64 0,.int .i64 0,.int .i64 0] 43)).heap[w.heap.size]? = some (.cells (paC zeroP) 27 (0,0)) := (Below.heap_alloc _ _ _ (by rw [World.size_setCell]; omega)).trans ((Below.heap_setCell _ _ _ _ (by show w.heap.size ≠ B3; omega)).trans hz)
  have hT6 : Turns (fun k => k = w.heap.size) ((W.setCell ⟨B3,1,none⟩ (.slice (some ⟨W.heap.size,0,none⟩) 1 1)).alloc (.cells #[.int .i64 t.size,.int .i64 0,.int .i64 0,.int .i64 0] 43)) (((W.setCell ⟨B3,1,none⟩ (.slice (some ⟨W.heap.size,0,none⟩) 1 1)).alloc (.cells #[.int .i64 t.size,.int .i64 0,.int .i64 0,.int .i64 0] 43)).setRow w.heap.size (paC (ofP t (.slice (some ⟨W.heap.size,0,none⟩) 1 1) 0))) := Turns.setRow (X := fun k => k = w.heap.size) _ rfl _
  have hB6 : Below w.heap.size w ((W.setCell ⟨B3,1,none⟩ (.slice (some ⟨W.heap.size,0,none⟩) 1 1)).alloc (.cells #[.int .i64 t.size,.int .i64 0,.int .i64 0,.int .i64 0] 43)) := (hB.setCell (p := ⟨B3,1,none⟩) (by show w.heap.size ≤ B3; omega) _).alloc (by rw [World.size_setCell]; omega) _
  refine of_end (OfEnd t w) (ofP t (.slice (some ⟨W.heap.size,0,none⟩) 1 1) 0) rfl rfl w.heap.size B3 _ hl hz6 ?_
  exact ⟨⟨_,rfl,rec_turns hrec hT6 (fun b o n c e => by cases e; omega),⟨⟨none,0,rfl,.inl rfl⟩,fun a n c e => by cases e; exact Nat.le_refl _⟩,by simp [ofP]⟩,hB6.trans (hT6.below hB6.size (fun k hk => by omega))⟩
 clear hP5 hz hB hP
 unfold rest31a
 go_wp2_with fail
 exact hend.out _ _ _ _ _ _ _ _ _ _ _ _ _ _
theorem of_any (t : ByteArray) (ht : 0 < t.size) (w : World) : Calls Tryz.prog 4 #[.string t] w (OfEnd t w) := by
 have hpl : Hid (Calls Tryz.prog 8 #[.int .i64 8] (w.alloc (.cells (paC zeroP) 27)) fun e w' => e = .returned (.agg #[.int .i64 8,.int .i64 12,.int .i64 0,.int .i64 0,.int .i64 0,.int .i64 0,.int .i64 0,.int .i64 0,.int .i64 0,.int .i64 0,.int .i64 1,.int .i64 1,.int .i64 0,.int .i64 0,.int .i64 0,.int .i64 0,.int .i64 0]) ∧ Below (w.alloc (.cells (paC zeroP) 27)).heap.size (w.alloc (.cells (paC zeroP) 27)) w') := plain_any 8 _
 have hend : Hid (∀ w2,Below (w.alloc (.cells (paC zeroP) 27)).heap.size (w.alloc (.cells (paC zeroP) 27)) w2 → ∀ v1 v4 v5 v6 v7 v8 v9 v10 v11 v12 v13 v14 v15 : Value,rest31a.wp Tryz.prog (bodyPost Tryz.prog Tryz.f4 (OfEnd t w)) { tmps := #[.string t,v1,.pointer (some ⟨w.heap.size,0,none⟩),.pointer (some ⟨w2.heap.size,0,none⟩),v4,v5,v6,v7,v8,v9,v10,v11,v12,v13,v14,v15],defers := [] } ((w2.alloc (.cells (paC zeroP) 27)).setRow w2.heap.size (paC (rawP t)))) := fun w2 hb2 => by
  intro v1 v4 v5 v6 v7 v8 v9 v10 v11 v12 v13 v14 v15
  have hB1 := (Below.refl w.heap.size w).alloc (Nat.le_refl _) (Obj.cells (paC zeroP) 27)
  have hs1 : (w.alloc (.cells (paC zeroP) 27)).heap.size = w.heap.size + 1 := World.size_alloc _ _
  have h2 : w.heap.size < w2.heap.size := by have := hb2.size; omega
  have hr2 : w2.heap[w.heap.size]? = some (.cells (paC zeroP) 27 (0,0)) := (hb2.block _ (by rw [hs1]; omega)).trans (PB.new w zeroP).row
  have hT4 : Turns (fun k => k = w2.heap.size) (w2.alloc (.cells (paC zeroP) 27)) ((w2.alloc (.cells (paC zeroP) 27)).setRow w2.heap.size (paC (rawP t))) := Turns.setRow (X := fun k => k = w2.heap.size) _ rfl _
  have hB3 : Below w.heap.size w (w2.alloc (.cells (paC zeroP) 27)) := (hB1.trans (hb2.mono hB1.size)).alloc (by omega) _
  exact of_mid t ht w _ w2.heap.size (hB3.trans (hT4.below hB3.size (fun k hk => by omega))) ⟨setRow_heap _ _ _ _ 27 _ (PB.new w2 zeroP).row⟩ ((hT4.block _ (by simp; omega) (by omega)).trans ((Below.heap_alloc _ _ _ h2).trans hr2)) h2
 have hz : Hid (∀ w2 : World,(w2.alloc (.cells (paC zeroP) 27)).heap[w2.heap.size]? = some (.cells (paC zeroP) 27 (0,0))) := fun w2 => (PB.new w2 zeroP).row
 dsimp only [paC,zeroP] at hz
 go_enter Tryz.func4,Tryz.ntmps4
 change Code.wp Tryz.prog ((Code.region 0 #[⟨some 2,.alloc 27,0,"outright.go:12",#[],none⟩] false).seq ((Code.region 1 #[⟨some 4,.move (.tmp 0),9,"outright.go:13",#[],none⟩,⟨some 5,.call ⟨.value (.func 8),#[.const (.int .i64 8)],#[3]⟩,24,"outright.go:13",#[],none⟩,⟨some 6,.build 27 #[(0,.tmp 4),(2,.tmp 5)],27,"outright.go:13",#[⟨0,.data⟩,⟨1,.data⟩],none⟩,⟨some 3,.alloc 27,0,"outright.go:13",#[],none⟩,⟨none,.store 27 (.tmp 3) (.tmp 6),0,"outright.go:13",#[⟨3,.data⟩,⟨2,.data⟩,⟨1,.chain⟩,⟨0,.phase⟩,⟨1,.phase⟩,⟨2,.phase⟩,⟨3,.phase⟩],none⟩] false).seq rest31a)) _ _ _
 go_wp2_with (first | (refine wpList_store_row rfl 27 (.tmp 3) (.tmp 6) rfl w2.heap.size (paC (rawP t)) rfl rfl 27 _ (hz.out w2) (info34 _) rfl (paC_one _ rfl rfl) ?_) | (go_at_call 8; refine hpl.out.mono ?_; rintro e w2 ⟨rfl,hb2⟩))
 exact hend.out w2 hb2 _ _ _ _ _ _ _ _ _ _ _ _ _
end Go.Proofs.YtfiekhephkpdjaaGreatDoor

namespace Go.Proofs.YtfiekhephkpdjaaGreatDoor
open Go.RowKit Go.Shelf
set_option maxRecDepth 100000
set_option maxHeartbeats 1000000

def OfEnd0 (t : ByteArray) (w : World) (e : Ending) (w' : World) : Prop := (e = .returned (.agg (paC (rawP t))) ∧ PaAt w' (rawP t)) ∧ Below w.heap.size w w'
theorem of_mid0 (t : ByteArray) (ht : ¬ 0 < t.size) (w W : World) (B3 : Nat) (hB : Below w.heap.size w W) (hP : PB W B3 (rawP t)) (hz : W.heap[w.heap.size]? = some (.cells (paC zeroP) 27 (0,0))) (_h3 : w.heap.size < B3) {v1 v4 v5 v6 v7 v8 v9 v10 v11 v12 v13 v14 v15 : Value} :
  rest31a.wp Tryz.prog (bodyPost Tryz.prog Tryz.f4 (OfEnd0 t w)) { tmps := #[.string t,v1,.pointer (some ⟨w.heap.size,0,none⟩),.pointer (some ⟨B3,0,none⟩),v4,v5,v6,v7,v8,v9,v10,v11,v12,v13,v14,v15],defers := [] } W := by
 have ht' : ¬ (0 : Int) < t.size := by omega
 have hend : Hid (∀ v0 v1 v4 v5 v6 v7 v8 v9 v10 v11 v12 v13 v14 v15 : Value,rest31.wp Tryz.prog (bodyPost Tryz.prog Tryz.f4 (OfEnd0 t w)) { tmps := #[v0,v1,.pointer (some ⟨w.heap.size,0,none⟩),.pointer (some ⟨B3,0,none⟩),v4,v5,v6,v7,v8,v9,v10,v11,v12,v13,v14,v15],defers := [] } W) := by
  intro v0 v1 v4 v5 v6 v7 v8 v9 v10 v11 v12 v13 v14 v15
  have hT6 : Turns (fun k => k = w.heap.size) W (W.setRow w.heap.size (paC (rawP t))) := Turns.setRow (X := fun k => k = w.heap.size) _ rfl _
  refine of_end (OfEnd0 t w) (rawP t) rfl rfl w.heap.size B3 _ hP.row hz ?_
  exact ⟨⟨rfl,⟨⟨none,0,rfl,.inl rfl⟩,fun a n c e => by cases e; exact Nat.le_refl _⟩,⟨⟨none,0,rfl,.inl rfl⟩,fun a n c e => by cases e; exact Nat.le_refl _⟩,by simp [rawP]⟩,hB.trans (hT6.below hB.size (fun k hk => by omega))⟩
 clear hz hB hP
 unfold rest31a
 go_wp2_with fail
 exact hend.out _ _ _ _ _ _ _ _ _ _ _ _ _ _
theorem of_none (t : ByteArray) (ht : ¬ 0 < t.size) (w : World) : Calls Tryz.prog 4 #[.string t] w (OfEnd0 t w) := by
 have hpl : Hid (Calls Tryz.prog 8 #[.int .i64 8] (w.alloc (.cells (paC zeroP) 27)) fun e w' => e = .returned (.agg #[.int .i64 8,.int .i64 12,.int .i64 0,.int .i64 0,.int .i64 0,.int .i64 0,.int .i64 0,.int .i64 0,.int .i64 0,.int .i64 0,.int .i64 1,.int .i64 1,.int .i64 0,.int .i64 0,.int .i64 0,.int .i64 0,.int .i64 0]) ∧ Below (w.alloc (.cells (paC zeroP) 27)).heap.size (w.alloc (.cells (paC zeroP) 27)) w') := plain_any 8 _
 have hend : Hid (∀ w2,Below (w.alloc (.cells (paC zeroP) 27)).heap.size (w.alloc (.cells (paC zeroP) 27)) w2 → ∀ v1 v4 v5 v6 v7 v8 v9 v10 v11 v12 v13 v14 v15 : Value,rest31a.wp Tryz.prog (bodyPost Tryz.prog Tryz.f4 (OfEnd0 t w)) { tmps := #[.string t,v1,.pointer (some ⟨w.heap.size,0,none⟩),.pointer (some ⟨w2.heap.size,0,none⟩),v4,v5,v6,v7,v8,v9,v10,v11,v12,v13,v14,v15],defers := [] } ((w2.alloc (.cells (paC zeroP) 27)).setRow w2.heap.size (paC (rawP t)))) := fun w2 hb2 => by
  intro v1 v4 v5 v6 v7 v8 v9 v10 v11 v12 v13 v14 v15
  have hB1 := (Below.refl w.heap.size w).alloc (Nat.le_refl _) (Obj.cells (paC zeroP) 27)
  have hs1 : (w.alloc (.cells (paC zeroP) 27)).heap.size = w.heap.size + 1 := World.size_alloc _ _
  have h2 : w.heap.size < w2.heap.size := by have := hb2.size; omega
  have hr2 : w2.heap[w.heap.size]? = some (.cells (paC zeroP) 27 (0,0)) := (hb2.block _ (by rw [hs1]; omega)).trans (PB.new w zeroP).row
  have hT4 : Turns (fun k => k = w2.heap.size) (w2.alloc (.cells (paC zeroP) 27)) ((w2.alloc (.cells (paC zeroP) 27)).setRow w2.heap.size (paC (rawP t))) := Turns.setRow (X := fun k => k = w2.heap.size) _ rfl _
  have hB3 : Below w.heap.size w (w2.alloc (.cells (paC zeroP) 27)) := (hB1.trans (hb2.mono hB1.size)).alloc (by omega) _
  exact of_mid0 t ht w _ w2.heap.size (hB3.trans (hT4.below hB3.size (fun k hk => by omega))) ⟨setRow_heap _ _ _ _ 27 _ (PB.new w2 zeroP).row⟩ ((hT4.block _ (by simp; omega) (by omega)).trans ((Below.heap_alloc _ _ _ h2).trans hr2)) h2
 have hz : Hid (∀ w2 : World,(w2.alloc (.cells (paC zeroP) 27)).heap[w2.heap.size]? = some (.cells (paC zeroP) 27 (0,0))) := fun w2 => (PB.new w2 zeroP).row
 dsimp only [paC,zeroP] at hz
 go_enter Tryz.func4,Tryz.ntmps4
 change Code.wp Tryz.prog ((Code.region 0 #[⟨some 2,.alloc 27,0,"outright.go:12",#[],none⟩] false).seq ((Code.region 1 #[⟨some 4,.move (.tmp 0),9,"outright.go:13",#[],none⟩,⟨some 5,.call ⟨.value (.func 8),#[.const (.int .i64 8)],#[3]⟩,24,"outright.go:13",#[],none⟩,⟨some 6,.build 27 #[(0,.tmp 4),(2,.tmp 5)],27,"outright.go:13",#[⟨0,.data⟩,⟨1,.data⟩],none⟩,⟨some 3,.alloc 27,0,"outright.go:13",#[],none⟩,⟨none,.store 27 (.tmp 3) (.tmp 6),0,"outright.go:13",#[⟨3,.data⟩,⟨2,.data⟩,⟨1,.chain⟩,⟨0,.phase⟩,⟨1,.phase⟩,⟨2,.phase⟩,⟨3,.phase⟩],none⟩] false).seq rest31a)) _ _ _
 go_wp2_with (first | (refine wpList_store_row rfl 27 (.tmp 3) (.tmp 6) rfl w2.heap.size (paC (rawP t)) rfl rfl 27 _ (hz.out w2) (info34 _) rfl (paC_one _ rfl rfl) ?_) | (go_at_call 8; refine hpl.out.mono ?_; rintro e w2 ⟨rfl,hb2⟩))
 exact hend.out w2 hb2 _ _ _ _ _ _ _ _ _ _ _ _ _
end Go.Proofs.YtfiekhephkpdjaaGreatDoor

namespace Go.Proofs.YtfiekhephkpdjaaGreatDoor
open Go.RowKit Go.Shelf
set_option maxRecDepth 100000
set_option maxHeartbeats 4000000

def OfA (w : World) (e : Ending) (w' : World) : Prop := (∃ sv,e = .returned (.agg (paC (pa0 sv))) ∧ PaAt w' (pa0 sv)) ∧ Below w.heap.size w w'
theorem of_abcd (w : World) : Calls Tryz.prog 4 #[.string ⟨#[97,32,98,32,99,32,100]⟩] w (OfA w) := by
 refine (of_any ⟨#[97,32,98,32,99,32,100]⟩ (by decide) w).mono ?_
 rintro e w' ⟨⟨sv,rfl,h⟩,hb⟩
 exact ⟨⟨sv,rfl,h⟩,hb⟩
theorem lnx0 (sv : Value) (W : World) (hA : PaAt W (pa0 sv)) : Calls Tryz.prog 6 #[.agg (paC (pa0 sv)),.agg #[.int .i64 0,.int .i64 13],.slice (some ⟨W.heap.size,0,none⟩) 2 2] (W.alloc (.cells #[.int .i64 0,.int .i64 4,.int .i64 0,.int .i64 13,.int .i64 13,.bool false,.int .i64 0,.int .i64 4,.int .i64 7,.int .i64 0,.int .i64 13,.int .i64 13,.bool false,.int .i64 0] 34)) fun e w' => e = .returned (.bool true) ∧ Below (W.alloc (.cells #[.int .i64 0,.int .i64 4,.int .i64 0,.int .i64 13,.int .i64 13,.bool false,.int .i64 0,.int .i64 4,.int .i64 7,.int .i64 0,.int .i64 13,.int .i64 13,.bool false,.int .i64 0] 34)).heap.size (W.alloc (.cells #[.int .i64 0,.int .i64 4,.int .i64 0,.int .i64 13,.int .i64 13,.bool false,.int .i64 0,.int .i64 4,.int .i64 7,.int .i64 0,.int .i64 13,.int .i64 13,.bool false,.int .i64 0] 34)) w' :=
 lines24 (ex0 sv) (by show (0 : Int) ≠ 1; decide) (by decide) _ _ (hA.below ((Below.refl _ _).alloc (Nat.le_refl _) _) (Nat.le_refl _)) (rec_new lxL_len W 34 [⟨0,4,0,13,13,false,0⟩,⟨4,7,0,13,13,false,0⟩])
theorem lnx1 (sv : Value) (W : World) (hA : PaAt W (pa1 sv)) : Calls Tryz.prog 6 #[.agg (paC (pa1 sv)),.agg #[.int .i64 0,.int .i64 21],.slice (some ⟨W.heap.size,0,none⟩) 2 2] (W.alloc (.cells #[.int .i64 0,.int .i64 4,.int .i64 7,.int .i64 13,.int .i64 13,.bool false,.int .i64 0,.int .i64 4,.int .i64 7,.int .i64 2,.int .i64 18,.int .i64 13,.bool false,.int .i64 0] 34)) fun e w' => e = .returned (.bool true) ∧ Below (W.alloc (.cells #[.int .i64 0,.int .i64 4,.int .i64 7,.int .i64 13,.int .i64 13,.bool false,.int .i64 0,.int .i64 4,.int .i64 7,.int .i64 2,.int .i64 18,.int .i64 13,.bool false,.int .i64 0] 34)).heap.size (W.alloc (.cells #[.int .i64 0,.int .i64 4,.int .i64 7,.int .i64 13,.int .i64 13,.bool false,.int .i64 0,.int .i64 4,.int .i64 7,.int .i64 2,.int .i64 18,.int .i64 13,.bool false,.int .i64 0] 34)) w' :=
 lines24 (ex1 sv) (by show (0 : Int) ≠ 1; decide) (by decide) _ _ (hA.below ((Below.refl _ _).alloc (Nat.le_refl _) _) (Nat.le_refl _)) (rec_new lxL_len W 34 [⟨0,4,7,13,13,false,0⟩,⟨4,7,2,18,13,false,0⟩])
theorem lnx2 (sv : Value) (W : World) (hA : PaAt W (pa2 sv)) : Calls Tryz.prog 6 #[.agg (paC (pa2 sv)),.agg #[.int .i64 10,.int .i64 24],.slice (some ⟨W.heap.size,0,none⟩) 2 2] (W.alloc (.cells #[.int .i64 0,.int .i64 4,.int .i64 21,.int .i64 13,.int .i64 13,.bool false,.int .i64 0,.int .i64 4,.int .i64 7,.int .i64 10,.int .i64 24,.int .i64 13,.bool false,.int .i64 0] 34)) fun e w' => e = .returned (.bool true) ∧ Below (W.alloc (.cells #[.int .i64 0,.int .i64 4,.int .i64 21,.int .i64 13,.int .i64 13,.bool false,.int .i64 0,.int .i64 4,.int .i64 7,.int .i64 10,.int .i64 24,.int .i64 13,.bool false,.int .i64 0] 34)).heap.size (W.alloc (.cells #[.int .i64 0,.int .i64 4,.int .i64 21,.int .i64 13,.int .i64 13,.bool false,.int .i64 0,.int .i64 4,.int .i64 7,.int .i64 10,.int .i64 24,.int .i64 13,.bool false,.int .i64 0] 34)) w' :=
 lines24 (ex2 sv) (by show (0 : Int) ≠ 1; decide) (by decide) _ _ (hA.below ((Below.refl _ _).alloc (Nat.le_refl _) _) (Nat.le_refl _)) (rec_new lxL_len W 34 [⟨0,4,21,13,13,false,0⟩,⟨4,7,10,24,13,false,0⟩])
theorem lnx3 (sv : Value) (W : World) (hA : PaAt W (pa3 sv)) : Calls Tryz.prog 6 #[.agg (paC (pa3 sv)),.agg #[.int .i64 3,.int .i64 9],.slice (some ⟨W.heap.size,0,none⟩) 1 1] (W.alloc (.cells #[.int .i64 0,.int .i64 0,.int .i64 3,.int .i64 9,.int .i64 0,.bool false,.int .i64 0] 34)) fun e w' => e = .returned (.bool true) ∧ Below (W.alloc (.cells #[.int .i64 0,.int .i64 0,.int .i64 3,.int .i64 9,.int .i64 0,.bool false,.int .i64 0] 34)).heap.size (W.alloc (.cells #[.int .i64 0,.int .i64 0,.int .i64 3,.int .i64 9,.int .i64 0,.bool false,.int .i64 0] 34)) w' :=
 lines24 (ex3 sv) (by show (0 : Int) ≠ 1; decide) (by decide) _ _ (hA.below ((Below.refl _ _).alloc (Nat.le_refl _) _) (Nat.le_refl _)) (rec_new lxL_len W 34 [⟨0,0,3,9,0,false,0⟩])
theorem awake22 (w : World) : Calls Tryz.prog 5 #[] w fun e w' => e = .returned (.bool true) ∧ Below w.heap.size w w' := by
 have hO : Hid (Calls Tryz.prog 4 #[.string ⟨#[97,32,98,32,99,32,100]⟩] w (OfA w)) := of_abcd w
 have hL : Hid (∀ sv W,PaAt W (pa0 sv) → Calls Tryz.prog 6 #[.agg (paC (pa0 sv)),.agg #[.int .i64 0,.int .i64 13],.slice (some ⟨W.heap.size,0,none⟩) 2 2] (W.alloc (.cells #[.int .i64 0,.int .i64 4,.int .i64 0,.int .i64 13,.int .i64 13,.bool false,.int .i64 0,.int .i64 4,.int .i64 7,.int .i64 0,.int .i64 13,.int .i64 13,.bool false,.int .i64 0] 34)) fun e w' => e = .returned (.bool true) ∧ Below (W.alloc (.cells #[.int .i64 0,.int .i64 4,.int .i64 0,.int .i64 13,.int .i64 13,.bool false,.int .i64 0,.int .i64 4,.int .i64 7,.int .i64 0,.int .i64 13,.int .i64 13,.bool false,.int .i64 0] 34)).heap.size (W.alloc (.cells #[.int .i64 0,.int .i64 4,.int .i64 0,.int .i64 13,.int .i64 13,.bool false,.int .i64 0,.int .i64 4,.int .i64 7,.int .i64 0,.int .i64 13,.int .i64 13,.bool false,.int .i64 0] 34)) w') := lnx0
 go_enter Tryz.func5,Tryz.ntmps5
 go_wp2_with (first | (go_at_call 4; refine hO.out.mono ?_; rintro e w2 ⟨⟨sv,rfl,hpa⟩,hb2⟩; have hpah : Hid (PaAt w2 (pa0 sv)) := hpa; have hb2h : Hid (Below w.heap.size w w2) := hb2; clear hpa hb2 hO) | (go_at_call 6; refine (hL.out sv w2 hpah.out).mono ?_; rintro e w3 ⟨rfl,hb3⟩))
 go_ret
 exact ⟨rfl,(hb2h.out.alloc hb2h.out.size _).trans (hb3.mono (by have := hb2h.out.size; simp; omega))⟩
theorem box_new (w : World) : (w.alloc (.cells (paC zeroP) 27)).heap[w.heap.size]? = some (.cells (paC zeroP) 27 (0,0)) := World.alloc_heap_new w _
theorem box_set (w : World) (cs : Array Value) : ((w.alloc (.cells (paC zeroP) 27)).setRow w.heap.size cs).heap[w.heap.size]? = some (.cells cs 27 (0,0)) ∧ Below w.heap.size w ((w.alloc (.cells (paC zeroP) 27)).setRow w.heap.size cs) := by
 have hT := Turns.setRow (X := fun j => j = w.heap.size) (w.alloc (.cells (paC zeroP) 27)) rfl cs
 exact ⟨setRow_heap _ _ _ _ _ _ (box_new w),((Below.refl w.heap.size w).alloc (Nat.le_refl _) _).trans (hT.below (by simp) (fun j hj => by omega))⟩
end Go.Proofs.YtfiekhephkpdjaaGreatDoor
