/-
  What is proved here: what Of answers.
  What is proved here: whether a line's glyphs stand just so.
  What is proved here: the paragraphs of the chapter's examples.
  What is proved here: the chapter's examples are answered as it says.
-/
import Derived.Test.YtbdpghjegachaaaGreatDoorE37
import Derived.Test.YtbdpghjegachaaaGreatDoorE33
namespace Go.Proofs.YtbdpghjegachaaaGreatDoor
open Go.RowKit Go.Shelf
set_option maxRecDepth 100000
set_option maxHeartbeats 1000000

def rest31 : Code := ((Code.region 4 #[⟨some 15,.load 27 (.tmp 3),27,"outright.go:17",#[],none⟩,⟨none,.store 27 (.tmp 2) (.tmp 15),0,"outright.go:17",#[⟨0,.data⟩,⟨0,.phase⟩],none⟩] false).seq Code.ret)
theorem of_end (R : Ending → World → Prop) (a : Pa) (h1 : a.sv.oneCell' = true) (h2 : a.mv.oneCell' = true) (B2 B3 : Nat) (W : World) (hl : W.heap[B3]? = some (.cells (paC a) 27 (0,0))) (hz : W.heap[B2]? = some (.cells (paC zeroP) 27 (0,0))) {v0 v1 v4 v5 v6 v7 v8 v9 v10 v11 v12 v13 v14 v15 : Value}
  (hR : R (.returned (.agg (paC a))) (W.setRow B2 (paC a))) : rest31.wp Tryz.prog (bodyPost Tryz.prog Tryz.f19 R) { tmps := #[v0,v1,.pointer (some ⟨B2,0,none⟩),.pointer (some ⟨B3,0,none⟩),v4,v5,v6,v7,v8,v9,v10,v11,v12,v13,v14,v15],defers := [] } W := by
 unfold rest31
 go_wp2_with (first | (refine wpList_load_row rfl 27 _ rfl B3 rfl 27 _ (0,0) _ hl Tryz.underlying27 rfl (info34 a) ?_) | (refine wpList_store_row rfl 27 _ _ rfl B2 (paC a) rfl rfl 27 _ hz (info34 _) rfl (paC_one _ h1 h2) ?_))
 refine bodyPost_ret (results_cell_row rfl _ _ B2 27 _ (0,0) _ rfl (setRow_heap _ _ _ _ 27 _ hz) Tryz.underlying27 rfl (info34 a)) rfl ?_
 exact hR
def rest31a : Code := (((Code.region 2 #[⟨some 7,.move (.tmp 0),9,"outright.go:14",#[],none⟩,⟨some 8,.call ⟨.builtin .len,#[.tmp 7],#[9]⟩,3,"outright.go:14",#[⟨0,.data⟩],none⟩,⟨some 9,.binOp .gtr 3 (.tmp 8) (.const (.int .i64 0)) 3,4,"outright.go:14",#[⟨1,.data⟩],none⟩] false).seq (Code.cond (Operand.tmp 9) (Code.region 3 #[⟨some 10,.move (.tmp 0),9,"outright.go:15",#[],none⟩,⟨some 11,.call ⟨.builtin .len,#[.tmp 10],#[9]⟩,3,"outright.go:15",#[⟨0,.data⟩],none⟩,⟨some 12,.build 91 #[(0,.tmp 11)],91,"outright.go:15",#[⟨1,.data⟩],none⟩,⟨some 13,.buildSlice 22 1 #[(0,.tmp 12)],22,"outright.go:15",#[⟨2,.data⟩],none⟩,⟨some 14,.fieldAddr 27 (.tmp 3) 1,0,"outright.go:15",#[⟨0,.phase⟩,⟨1,.phase⟩,⟨2,.phase⟩,⟨3,.phase⟩],none⟩,⟨none,.store 22 (.tmp 14) (.tmp 13),0,"outright.go:15",#[⟨4,.data⟩,⟨3,.data⟩,⟨0,.phase⟩,⟨1,.phase⟩,⟨2,.phase⟩,⟨3,.phase⟩],none⟩] false) Code.skip)).seq rest31)
def OfEnd (t : ByteArray) (w : World) (e : Ending) (w' : World) : Prop := (∃ sv,e = .returned (.agg (paC (ofP t sv 0))) ∧ PaAt w' (ofP t sv 0)) ∧ Below w.heap.size w w'
theorem of_mid (t : ByteArray) (ht : 0 < t.size) (w W : World) (B3 : Nat) (hB : Below w.heap.size w W) (hP : PB W B3 (rawP t)) (hz : W.heap[w.heap.size]? = some (.cells (paC zeroP) 27 (0,0))) (h3 : w.heap.size < B3) {v1 v4 v5 v6 v7 v8 v9 v10 v11 v12 v13 v14 v15 : Value} :
  rest31a.wp Tryz.prog (bodyPost Tryz.prog Tryz.f19 (OfEnd t w)) { tmps := #[.string t,v1,.pointer (some ⟨w.heap.size,0,none⟩),.pointer (some ⟨B3,0,none⟩),v4,v5,v6,v7,v8,v9,v10,v11,v12,v13,v14,v15],defers := [] } W := by
 have ht' : (0 : Int) < t.size := by omega
 have hlt := hP.lt
 have hP5 : PB (W.alloc (.cells #[.int .i64 t.size,.int .i64 0,.int .i64 0,.int .i64 0] 91)) B3 (rawP t) := ⟨(Below.heap_alloc _ _ _ hlt).trans hP.row⟩
 have c1 : (W.alloc (.cells #[.int .i64 t.size,.int .i64 0,.int .i64 0,.int .i64 0] 91)).cell? ⟨B3,1,none⟩ = some (.slice none 0 0) := hP5.c1
 have f1 : (W.alloc (.cells #[.int .i64 t.size,.int .i64 0,.int .i64 0,.int .i64 0] 91)).frozen? ⟨B3,1,none⟩ = false := Lib.frozen_of_heap hP5.row 1
 have hend : Hid (∀ v0 v1 v4 v5 v6 v7 v8 v9 v10 v11 v12 v13 v14 v15 : Value,rest31.wp Tryz.prog (bodyPost Tryz.prog Tryz.f19 (OfEnd t w)) { tmps := #[v0,v1,.pointer (some ⟨w.heap.size,0,none⟩),.pointer (some ⟨B3,0,none⟩),v4,v5,v6,v7,v8,v9,v10,v11,v12,v13,v14,v15],defers := [] } ((W.setCell ⟨B3,1,none⟩ (.slice (some ⟨W.heap.size,0,none⟩) 1 1)).alloc (.cells #[.int .i64 t.size,.int .i64 0,.int .i64 0,.int .i64 0] 91))) := by
  intro v0 v1 v4 v5 v6 v7 v8 v9 v10 v11 v12 v13 v14 v15
  have hrec : RecAt 4 spL ((W.setCell ⟨B3,1,none⟩ (.slice (some ⟨W.heap.size,0,none⟩) 1 1)).alloc (.cells #[.int .i64 t.size,.int .i64 0,.int .i64 0,.int .i64 0] 91)) (.slice (some ⟨W.heap.size,0,none⟩) 1 1) [⟨t.size,0,0,0⟩] := by
   have := rec_new spL_len (W.setCell ⟨B3,1,none⟩ (.slice (some ⟨W.heap.size,0,none⟩) 1 1)) 91 [⟨t.size,0,0,0⟩]
   rw [World.size_setCell] at this
   exact this
  have hl : ((W.setCell ⟨B3,1,none⟩ (.slice (some ⟨W.heap.size,0,none⟩) 1 1)).alloc (.cells #[.int .i64 t.size,.int .i64 0,.int .i64 0,.int .i64 0] 91)).heap[B3]? = some (.cells (paC (ofP t (.slice (some ⟨W.heap.size,0,none⟩) 1 1) 0)) 27 (0,0)) := (Below.heap_alloc _ _ _ (by rw [World.size_setCell]; exact hlt)).trans (heap_setCell_same _ _ 1 _ 27 _ hP.row)
  have hz6 : ((W.setCell ⟨B3,1,none⟩ (.slice (some ⟨W.heap.size,0,none⟩) 1 1)).alloc (.cells #[.int .i64 t.size,.int .i64 0,.int .i64 0,.int .i64 0] 91)).heap[w.heap.size]? = some (.cells (paC zeroP) 27 (0,0)) := (Below.heap_alloc _ _ _ (by rw [World.size_setCell]; omega)).trans ((Below.heap_setCell _ _ _ _ (by show w.heap.size ≠ B3; omega)).trans hz)
  have hT6 : Turns (fun k => k = w.heap.size) ((W.setCell ⟨B3,1,none⟩ (.slice (some ⟨W.heap.size,0,none⟩) 1 1)).alloc (.cells #[.int .i64 t.size,.int .i64 0,.int .i64 0,.int .i64 0] 91)) (((W.setCell ⟨B3,1,none⟩ (.slice (some ⟨W.heap.size,0,none⟩) 1 1)).alloc (.cells #[.int .i64 t.size,.int .i64 0,.int .i64 0,.int .i64 0] 91)).setRow w.heap.size (paC (ofP t (.slice (some ⟨W.heap.size,0,none⟩) 1 1) 0))) := Turns.setRow (X := fun k => k = w.heap.size) _ rfl _
  have hB6 : Below w.heap.size w ((W.setCell ⟨B3,1,none⟩ (.slice (some ⟨W.heap.size,0,none⟩) 1 1)).alloc (.cells #[.int .i64 t.size,.int .i64 0,.int .i64 0,.int .i64 0] 91)) := (hB.setCell (p := ⟨B3,1,none⟩) (by show w.heap.size ≤ B3; omega) _).alloc (by rw [World.size_setCell]; omega) _
  refine of_end (OfEnd t w) (ofP t (.slice (some ⟨W.heap.size,0,none⟩) 1 1) 0) rfl rfl w.heap.size B3 _ hl hz6 ?_
  exact ⟨⟨_,rfl,rec_turns hrec hT6 (fun b o n c e => by cases e; omega),⟨⟨none,0,rfl,.inl rfl⟩,fun a n c e => by cases e; exact Nat.le_refl _⟩,by simp [ofP]⟩,hB6.trans (hT6.below hB6.size (fun k hk => by omega))⟩
 clear hP5 hz hB hP
 unfold rest31a
 go_wp2_with fail
 exact hend.out _ _ _ _ _ _ _ _ _ _ _ _ _ _
theorem of_any (t : ByteArray) (ht : 0 < t.size) (w : World) : Calls Tryz.prog 19 #[.string t] w (OfEnd t w) := by
 have hpl : Hid (Calls Tryz.prog 44 #[.int .i64 8] (w.alloc (.cells (paC zeroP) 27)) fun e w' => e = .returned (.agg #[.int .i64 8,.int .i64 12,.int .i64 0,.int .i64 0,.int .i64 0,.int .i64 0,.int .i64 0,.int .i64 0,.int .i64 0,.int .i64 0,.int .i64 1,.int .i64 1,.int .i64 0,.int .i64 0,.int .i64 0,.int .i64 0,.int .i64 0]) ∧ Below (w.alloc (.cells (paC zeroP) 27)).heap.size (w.alloc (.cells (paC zeroP) 27)) w') := plain_any 8 _
 have hend : Hid (∀ w2,Below (w.alloc (.cells (paC zeroP) 27)).heap.size (w.alloc (.cells (paC zeroP) 27)) w2 → ∀ v1 v4 v5 v6 v7 v8 v9 v10 v11 v12 v13 v14 v15 : Value,rest31a.wp Tryz.prog (bodyPost Tryz.prog Tryz.f19 (OfEnd t w)) { tmps := #[.string t,v1,.pointer (some ⟨w.heap.size,0,none⟩),.pointer (some ⟨w2.heap.size,0,none⟩),v4,v5,v6,v7,v8,v9,v10,v11,v12,v13,v14,v15],defers := [] } ((w2.alloc (.cells (paC zeroP) 27)).setRow w2.heap.size (paC (rawP t)))) := fun w2 hb2 => by
  intro v1 v4 v5 v6 v7 v8 v9 v10 v11 v12 v13 v14 v15
  have hB1 := (Below.refl w.heap.size w).alloc (Nat.le_refl _) (Obj.cells (paC zeroP) 27)
  have hs1 : (w.alloc (.cells (paC zeroP) 27)).heap.size = w.heap.size + 1 := World.size_alloc _ _
  have h2 : w.heap.size < w2.heap.size := by have := hb2.size; omega
  have hr2 : w2.heap[w.heap.size]? = some (.cells (paC zeroP) 27 (0,0)) := (hb2.block _ (by rw [hs1]; omega)).trans (PB.new w zeroP).row
  have hT4 : Turns (fun k => k = w2.heap.size) (w2.alloc (.cells (paC zeroP) 27)) ((w2.alloc (.cells (paC zeroP) 27)).setRow w2.heap.size (paC (rawP t))) := Turns.setRow (X := fun k => k = w2.heap.size) _ rfl _
  have hB3 : Below w.heap.size w (w2.alloc (.cells (paC zeroP) 27)) := (hB1.trans (hb2.mono hB1.size)).alloc (by omega) _
  exact of_mid t ht w _ w2.heap.size (hB3.trans (hT4.below hB3.size (fun k hk => by omega))) ⟨setRow_heap _ _ _ _ 27 _ (PB.new w2 zeroP).row⟩ ((hT4.block _ (by simp; omega) (by omega)).trans ((Below.heap_alloc _ _ _ h2).trans hr2)) h2
 have hz : Hid (∀ w2 : World,(w2.alloc (.cells (paC zeroP) 27)).heap[w2.heap.size]? = some (.cells (paC zeroP) 27 (0,0))) := fun w2 => (PB.new w2 zeroP).row
 dsimp only [paC,zeroP] at hz
 go_enter Tryz.func19,Tryz.ntmps19
 change Code.wp Tryz.prog ((Code.region 0 #[⟨some 2,.alloc 27,0,"outright.go:12",#[],none⟩] false).seq ((Code.region 1 #[⟨some 4,.move (.tmp 0),9,"outright.go:13",#[],none⟩,⟨some 5,.call ⟨.value (.func 44),#[.const (.int .i64 8)],#[3]⟩,24,"outright.go:13",#[],none⟩,⟨some 6,.build 27 #[(0,.tmp 4),(2,.tmp 5)],27,"outright.go:13",#[⟨0,.data⟩,⟨1,.data⟩],none⟩,⟨some 3,.alloc 27,0,"outright.go:13",#[],none⟩,⟨none,.store 27 (.tmp 3) (.tmp 6),0,"outright.go:13",#[⟨3,.data⟩,⟨2,.data⟩,⟨1,.chain⟩,⟨0,.phase⟩,⟨1,.phase⟩,⟨2,.phase⟩,⟨3,.phase⟩],none⟩] false).seq rest31a)) _ _ _
 go_wp2_with (first | (refine wpList_store_row rfl 27 (.tmp 3) (.tmp 6) rfl w2.heap.size (paC (rawP t)) rfl rfl 27 _ (hz.out w2) (info34 _) rfl (paC_one _ rfl rfl) ?_) | (go_at_call 44; refine hpl.out.mono ?_; rintro e w2 ⟨rfl,hb2⟩))
 exact hend.out w2 hb2 _ _ _ _ _ _ _ _ _ _ _ _ _
end Go.Proofs.YtbdpghjegachaaaGreatDoor

namespace Go.Proofs.YtbdpghjegachaaaGreatDoor
open Go.RowKit Go.Shelf
set_option maxRecDepth 100000
set_option maxHeartbeats 4000000

def stdB : List Gl → List Int → Bool
 | [],[] => true
 | g :: r,x :: y :: q => (g.x == x) && ((g.w == y) && stdB r q)
 | _,_ => false
theorem stB_get : ∀ {L : List Gl} {xs : List Int},stdB L xs = true → xs.length = 2 * L.length ∧ ∀ i (h : i < L.length),xs[2 * i]? = some L[i].x ∧ xs[2 * i + 1]? = some L[i].w
 | [],[],_ => ⟨rfl,fun i h => by simp at h⟩
 | [],x :: q,h => by cases h
 | g :: r,[],h => by cases h
 | g :: r,[x],h => by cases h
 | g :: r, x :: y :: q, h => by
  unfold stdB at h
  rw [Bool.and_eq_true,Bool.and_eq_true,beq_iff_eq,beq_iff_eq] at h
  obtain ⟨h1,h2,h3⟩ := h
  obtain ⟨i1,i2⟩ := stB_get h3
  refine ⟨by simp only [List.length_cons]; omega,fun i hi => ?_⟩
  cases i with
  | zero => exact ⟨by rw [← h1]; rfl,by rw [← h2]; rfl⟩
  | succ i =>
   have := i2 i (by simpa using hi)
   rw [show 2 * (i + 1) = 2 * i + 1 + 1 by omega]
   simpa using this
theorem at_yes (a : Pa) (l : Ln) (last : Bool) (hq : chkI a = 0 → ∀ i,i < num a.t → (msI a i).q = 0) (he : plE a l = 0) (xs : List Int) (hxs : stdB (plL a l last noP) xs = true) (hlen : xs.length ≤ 1000) (gx ox cx : Nat) (_hcx : xs.length ≤ cx) (w : World) (hA : PaAt w a) (hx : ∀ i (h : i < xs.length),w.cell? ⟨gx,ox + i,none⟩ = some (.int .i64 xs[i])) (hgx : gx < w.heap.size) :
  Calls Tryz.prog 17 #[paV a,.agg (lnC l),.bool last,.slice (some ⟨gx,ox,none⟩) xs.length cx] w fun e w' => e = .returned (.bool true) ∧ Below w.heap.size w w' := by
 obtain ⟨hl2,hget⟩ := stB_get hxs
 have hB1 := (Below.refl w.heap.size w).alloc (Nat.le_refl _) (Obj.cells (paC a) 27)
 have hB2 := hB1.alloc hB1.size (Obj.cells (lnC l) 29)
 have s1 : (w.alloc (.cells (paC a) 27)).heap.size = w.heap.size + 1 := World.size_alloc _ _
 have hp0 : PB ((w.alloc (.cells (paC a) 27)).alloc (.cells (lnC l) 29)) w.heap.size a := ⟨(Below.heap_alloc _ _ _ (by omega)).trans (World.alloc_heap_new w _)⟩
 have hl0 : LB ((w.alloc (.cells (paC a) 27)).alloc (.cells (lnC l) 29)) (w.heap.size + 1) l := ⟨by have := World.alloc_heap_new (w.alloc (.cells (paC a) 27)) (.cells (lnC l) 29); rw [s1] at this; exact this⟩
 have hA2 := hA.below hB2 (Nat.le_refl _)
 have hpl := place_any a l last (fun q => q = 0) noP _ (part_none a _) hq hA2
 have hx2 : Hid (∀ W,Below w.heap.size w W → ∀ i (h : i < (plL a l last noP).length),W.cell? ⟨gx,ox + 2 * i,none⟩ = some (.int .i64 (plL a l last noP)[i].x) ∧ W.cell? ⟨gx,ox + (2 * i + 1),none⟩ = some (.int .i64 (plL a l last noP)[i].w)) := fun W hb i h => by
  obtain ⟨g1,g2⟩ := hget i h
  obtain ⟨k1,e1⟩ := List.getElem?_eq_some_iff.1 g1
  obtain ⟨k2,e2⟩ := List.getElem?_eq_some_iff.1 g2
  have x1 := (hb.cell hgx).trans (hx (2 * i) k1)
  have x2 := (hb.cell hgx).trans (hx (2 * i + 1) k2)
  rw [e1] at x1
  rw [e2] at x2
  exact ⟨x1,x2⟩
 clear hx hxs hget
 unfold PlEnd at hpl
 rw [he] at hpl
 have hlC : lnC l = #[.int .i64 l.f,.int .i64 l.t,.int .i64 l.x,.int .i64 l.w,.int .i64 l.n,.bool l.y,.int .i64 l.g] := rfl
 unfold paV at hpl ⊢
 rw [hlC] at hpl hp0 hl0 hA2 hB2 ⊢
 have hlr := hl0.row
 rw [hlC] at hlr
 clear hlC
 generalize hw2 : (w.alloc (.cells (paC a) 27)).alloc (.cells #[.int .i64 l.f,.int .i64 l.t,.int .i64 l.x,.int .i64 l.w,.int .i64 l.n,.bool l.y,.int .i64 l.g] 29) = w2 at *
 generalize plL a l last noP = L at *
 have hLl : (L.length : Int) ≤ 500 := by omega
 generalize xs.length = nx at *
 have hnxi : (nx : Int) = 2 * (L.length : Int) := by omega
 have hnb : ((2 * (L.length : Int)) != (nx : Int)) = false := by simp [hnxi]
 have hBh : Hid (Below w.heap.size w w2) := hB2
 clear hA hA2 hB1 hB2 s1 hq he hl0
 go_enter Tryz.func17,Tryz.ntmps17
 go_wp2_with (first | (refine wpList_load_row rfl 27 _ rfl w.heap.size rfl 27 _ (0,0) _ hp0.row Tryz.underlying27 rfl (info34 a) ?_) | (refine wpList_load_row rfl 29 _ rfl (w.heap.size + 1) rfl 29 _ (0,0) _ hlr Tryz.underlying29 rfl (by kernel_rfl) ?_))
 refine hpl.mono ?_
 rintro e W ⟨⟨v,rfl,hv⟩,hbW⟩
 have hBW : Hid (Below w.heap.size w W) := hBh.out.trans (hbW.mono hBh.out.size)
 obtain ⟨base,hbs,hrow⟩ : ∃ base,w2.heap.size ≤ base ∧ W.ownsRow base 41 4 v L.length (L.flatMap glL) := by
  rcases hv with ⟨h,_⟩ | ⟨_,h⟩
  ·exact absurd rfl h
  ·exact h
 have hrec := rec_of_row glL_len rfl hrow
 obtain ⟨va,vc,rfl,hvl⟩ := hrec.ex
 have hvc := hrec.le _ _ _ rfl
 have hcl : Hid (∀ i (h : i < L.length),∃ b o,va = some ⟨b,o,none⟩ ∧ b < W.heap.size ∧ W.cell? ⟨b,o + i * 4 + 2,none⟩ = some (.int .i64 L[i].x) ∧ W.cell? ⟨b,o + i * 4 + 3,none⟩ = some (.int .i64 L[i].w)) := fun i h => by
  rcases hvl with e | ⟨b,o,e,hbb,hc⟩
  ·rw [e] at h; simp at h
  ·exact ⟨b,o,e,hbb,hc i h 2 _ rfl,hc i h 3 _ rfl⟩
 clear hv hrow hrec hvl hbW hpl hbs
 go_wp2_with fail
 go_loopw [11] (fun i wr => ∃ k : Nat,k ≤ L.length ∧ i = .int .i64 k ∧ Hid (Below W.heap.size W wr)) (fun i _ => L.length - (intOf i).toNat)
 case atStart => exact ⟨0,by omega,rfl,Below.refl _ _⟩
 case round =>
  obtain ⟨k,hk,rfl,hI⟩ := hrel
  by_cases hlt : k < L.length
  ·have hlt' : (k : Int) < (L.length : Nat) := by omega
   obtain ⟨b,o,rfl,hbl,d2,d3⟩ := hcl.out k hlt
   have hBr := hBW.out.trans (hI.out.mono hBW.out.size)
   obtain ⟨x2,x3⟩ := hx2.out wr hBr k hlt
   replace d2 := (hI.out.cell hbl).trans d2
   replace d3 := (hI.out.cell hbl).trans d3
   have hi1 : (2 * (k : Int)) < (nx : Nat) := by omega
   have hi2 : (2 * (k : Int)) + 1 < (nx : Nat) := by omega
   have hI2 : Hid (Below W.heap.size W wr) := hI
   clear hcl hx2 hBr hI hbl
   generalize L[k].x = gx1 at *
   generalize L[k].w = gw1 at *
   go_wp2_with fail
   go_quiet (fail)
   go_wp2_with fail
   exact ⟨⟨k + 1,by omega,by simp,below_drewN hI2.out _⟩,by simp [intOf]; omega⟩
  ·obtain rfl : k = L.length := by omega
   have hlt' : ¬ (L.length : Int) < (L.length : Nat) := by omega
   go_wp2_with fail
   go_ret
   exact ⟨rfl,hBW.out.trans (hI.out.mono hBW.out.size)⟩
end Go.Proofs.YtbdpghjegachaaaGreatDoor

namespace Go.Proofs.YtbdpghjegachaaaGreatDoor
open Go.RowKit Go.Shelf
set_option maxRecDepth 100000
set_option maxHeartbeats 1000000

def abcT : ByteArray := ⟨#[97,32,98,32,99]⟩
def babT : ByteArray := ⟨#[32,97,98]⟩
def alP (t : ByteArray) (sv : Value) (al : Int) : Pa := ⟨t,sv,⟨8,12,al,0,0,0,0,0,0,0,1,1,0,0,0,0,0⟩,⟨#[]⟩,.slice none 0 0,[⟨t.size,0,0,0⟩],[]⟩
theorem alP_set (t : ByteArray) (sv : Value) (al : Int) : (paC (ofP t sv 0)).setIfInBounds 4 (.int .i64 al) = paC (alP t sv al) := rfl
theorem PaAt.one {W : World} {a : Pa} (h : PaAt W a) : a.sv.oneCell' = true := by
 obtain ⟨b,c,e,_⟩ := h.sp.ex
 rw [e]; rfl
theorem PaAt.al {W : World} {t : ByteArray} {sv : Value} (h : PaAt W (ofP t sv 0)) (al : Int) : PaAt W (alP t sv al) := ⟨h.sp,h.ms,h.few⟩
theorem PaAt.keep {W W' : World} {sv : Value} {B : Nat} (h : PaAt W (ofP abcT sv 0)) (ht : Turns (fun k => k = B) W W') (hB : W.heap[B]? = some (.cells (paC zeroP) 27 (0,0))) : PaAt W' (ofP abcT sv 0) := by
 refine ⟨⟨?_,h.sp.le⟩,?_,h.few⟩
 ·obtain ⟨av,cap,e,h2⟩ := h.sp.ex
  refine ⟨av,cap,e,?_⟩
  rcases h2 with h2 | ⟨b,o,e2,hb,hc⟩
  ·cases h2
  ·right
   have hne : b ≠ B := fun eb => by
    subst eb
    have hc0 := hc 0 (by show 0 < 1; omega) 0 (.int .i64 5) rfl
    rw [Lib.cell_of_heap hB] at hc0
    have hm := Array.mem_of_getElem? hc0
    simp [paC,zeroP] at hm
   exact ⟨b,o,e2,Nat.lt_of_lt_of_le hb ht.size,fun i hi j u hu => by
    have e3 : W'.cell? ⟨b,o + i * 4 + j,none⟩ = W.cell? ⟨b,o + i * 4 + j,none⟩ := by unfold World.cell?; rw [ht.block b hb hne]
    rw [e3]; exact hc i hi j u hu⟩
 ·exact ⟨⟨none,0,rfl,.inl rfl⟩,h.ms.le⟩
def AlEnd (t : ByteArray) (al : Int) (w : World) (e : Ending) (w' : World) : Prop := (∃ sv,e = .returned (.agg (paC (alP t sv al))) ∧ PaAt w' (alP t sv al)) ∧ Below w.heap.size w w'
theorem aligned_any (al : Int) (w : World) : Calls Tryz.prog 18 #[.int .i64 al] w (AlEnd abcT al w) := by
 have hB1 := (Below.refl w.heap.size w).alloc (Nat.le_refl _) (Obj.cells (paC zeroP) 27)
 have hs1 : (w.alloc (.cells (paC zeroP) 27)).heap.size = w.heap.size + 1 := World.size_alloc _ _
 have hof := of_any abcT (by decide) (w.alloc (.cells (paC zeroP) 27))
 have hz : Hid (∀ w2 : World,(w2.alloc (.cells (paC zeroP) 27)).heap[w2.heap.size]? = some (.cells (paC zeroP) 27 (0,0))) := fun w2 => (PB.new w2 zeroP).row
 have hmid : Hid (∀ w2 sv,Below (w.alloc (.cells (paC zeroP) 27)).heap.size (w.alloc (.cells (paC zeroP) 27)) w2 → PaAt w2 (ofP abcT sv 0) → ∃ W4,(w2.alloc (.cells (paC zeroP) 27)).setRow w2.heap.size (paC (ofP abcT sv 0)) = W4 ∧ W4.cell? ⟨w2.heap.size,4,none⟩ = some (.int .i64 0) ∧ W4.frozen? ⟨w2.heap.size,4,none⟩ = false ∧ (W4.setCell ⟨w2.heap.size,4,none⟩ (.int .i64 al)).heap[w2.heap.size]? = some (.cells (paC (alP abcT sv al)) 27 (0,0)) ∧ (W4.setCell ⟨w2.heap.size,4,none⟩ (.int .i64 al)).heap[w.heap.size]? = some (.cells (paC zeroP) 27 (0,0)) ∧ Hid (AlEnd abcT al w (.returned (.agg (paC (alP abcT sv al)))) ((W4.setCell ⟨w2.heap.size,4,none⟩ (.int .i64 al)).setRow w.heap.size (paC (alP abcT sv al))))) := fun w2 sv hb2 hA2 => by
  have h2 : w.heap.size < w2.heap.size := by have := hb2.size; omega
  have hr2 : w2.heap[w.heap.size]? = some (.cells (paC zeroP) 27 (0,0)) := (hb2.block _ (by omega)).trans (PB.new w zeroP).row
  have hT4 : Turns (fun k => k = w2.heap.size) w2 ((w2.alloc (.cells (paC zeroP) 27)).setRow w2.heap.size (paC (ofP abcT sv 0))) := (Turns.alloc _ w2 _).trans (Turns.setRow (X := fun k => k = w2.heap.size) _ rfl _)
  have hl4 : ((w2.alloc (.cells (paC zeroP) 27)).setRow w2.heap.size (paC (ofP abcT sv 0))).heap[w2.heap.size]? = some (.cells (paC (ofP abcT sv 0)) 27 (0,0)) := setRow_heap _ _ _ _ 27 _ (PB.new w2 zeroP).row
  refine ⟨_,rfl,?_⟩
  generalize (w2.alloc (.cells (paC zeroP) 27)).setRow w2.heap.size (paC (ofP abcT sv 0)) = W4 at *
  have hT5 := Turns.setCell (X := fun k => k = w2.heap.size) W4 (p := ⟨w2.heap.size,4,none⟩) rfl (.int .i64 al)
  have hl5 := heap_setCell_same W4 w2.heap.size 4 _ 27 (.int .i64 al) hl4
  rw [alP_set] at hl5
  have hT45 := hT4.trans hT5
  have hT6 := Turns.setRow (X := fun k => k = w.heap.size) (W4.setCell ⟨w2.heap.size,4,none⟩ (.int .i64 al)) rfl (paC (alP abcT sv al))
  have hB2 := hB1.trans (hb2.mono hB1.size)
  have hB45 : Below w2.heap.size w2 (W4.setCell ⟨w2.heap.size,4,none⟩ (.int .i64 al)) := hT45.below (Nat.le_refl _) (fun k hk => by omega)
  have hz5 : (W4.setCell ⟨w2.heap.size,4,none⟩ (.int .i64 al)).heap[w.heap.size]? = some (.cells (paC zeroP) 27 (0,0)) := (hB45.block _ h2).trans hr2
  have hB5 := hB2.trans (hB45.mono hB2.size)
  have hA5 := hA2.below hB45 (Nat.le_refl _)
  have hA6 : PaAt ((W4.setCell ⟨w2.heap.size,4,none⟩ (.int .i64 al)).setRow w.heap.size (paC (alP abcT sv al))) (alP abcT sv al) := (PaAt.keep hA5 hT6 hz5).al al
  refine ⟨by rw [Lib.cell_of_heap hl4]; rfl,Lib.frozen_of_heap hl4 _,hl5,hz5,⟨_,rfl,hA6⟩,hB5.trans (hT6.below hB5.size (fun k hk => by omega))⟩
 have hmid2 : Hid (∀ w2 sv,Below (w.alloc (.cells #[.string ⟨#[]⟩,.slice none 0 0,.int .i64 0,.int .i64 0,.int .i64 0,.int .i64 0,.int .i64 0,.int .i64 0,.int .i64 0,.int .i64 0,.int .i64 0,.int .i64 0,.int .i64 0,.int .i64 0,.int .i64 0,.int .i64 0,.int .i64 0,.int .i64 0,.int .i64 0,.string ⟨#[]⟩,.slice none 0 0] 27)).heap.size (w.alloc (.cells #[.string ⟨#[]⟩,.slice none 0 0,.int .i64 0,.int .i64 0,.int .i64 0,.int .i64 0,.int .i64 0,.int .i64 0,.int .i64 0,.int .i64 0,.int .i64 0,.int .i64 0,.int .i64 0,.int .i64 0,.int .i64 0,.int .i64 0,.int .i64 0,.int .i64 0,.int .i64 0,.string ⟨#[]⟩,.slice none 0 0] 27)) w2 → PaAt w2 (ofP abcT sv 0) → ∃ W4,(w2.alloc (.cells #[.string ⟨#[]⟩,.slice none 0 0,.int .i64 0,.int .i64 0,.int .i64 0,.int .i64 0,.int .i64 0,.int .i64 0,.int .i64 0,.int .i64 0,.int .i64 0,.int .i64 0,.int .i64 0,.int .i64 0,.int .i64 0,.int .i64 0,.int .i64 0,.int .i64 0,.int .i64 0,.string ⟨#[]⟩,.slice none 0 0] 27)).setRow w2.heap.size (paC (ofP abcT sv 0)) = W4 ∧ W4.cell? ⟨w2.heap.size,4,none⟩ = some (.int .i64 0) ∧ W4.frozen? ⟨w2.heap.size,4,none⟩ = false ∧ (W4.setCell ⟨w2.heap.size,4,none⟩ (.int .i64 al)).heap[w2.heap.size]? = some (.cells (paC (alP abcT sv al)) 27 (0,0)) ∧ (W4.setCell ⟨w2.heap.size,4,none⟩ (.int .i64 al)).heap[w.heap.size]? = some (.cells (paC zeroP) 27 (0,0)) ∧ Hid (AlEnd abcT al w (.returned (.agg (paC (alP abcT sv al)))) ((W4.setCell ⟨w2.heap.size,4,none⟩ (.int .i64 al)).setRow w.heap.size (paC (alP abcT sv al))))) := hmid
 have hof2 : Hid (Calls Tryz.prog 19 #[.string ⟨#[97,32,98,32,99]⟩] (w.alloc (.cells #[.string ⟨#[]⟩,.slice none 0 0,.int .i64 0,.int .i64 0,.int .i64 0,.int .i64 0,.int .i64 0,.int .i64 0,.int .i64 0,.int .i64 0,.int .i64 0,.int .i64 0,.int .i64 0,.int .i64 0,.int .i64 0,.int .i64 0,.int .i64 0,.int .i64 0,.int .i64 0,.string ⟨#[]⟩,.slice none 0 0] 27)) fun e w' => (∃ sv,e = .returned (.agg (paC (ofP abcT sv 0))) ∧ PaAt w' (ofP abcT sv 0)) ∧ Below (w.alloc (.cells #[.string ⟨#[]⟩,.slice none 0 0,.int .i64 0,.int .i64 0,.int .i64 0,.int .i64 0,.int .i64 0,.int .i64 0,.int .i64 0,.int .i64 0,.int .i64 0,.int .i64 0,.int .i64 0,.int .i64 0,.int .i64 0,.int .i64 0,.int .i64 0,.int .i64 0,.int .i64 0,.string ⟨#[]⟩,.slice none 0 0] 27)).heap.size (w.alloc (.cells #[.string ⟨#[]⟩,.slice none 0 0,.int .i64 0,.int .i64 0,.int .i64 0,.int .i64 0,.int .i64 0,.int .i64 0,.int .i64 0,.int .i64 0,.int .i64 0,.int .i64 0,.int .i64 0,.int .i64 0,.int .i64 0,.int .i64 0,.int .i64 0,.int .i64 0,.int .i64 0,.string ⟨#[]⟩,.slice none 0 0] 27)) w') := hof
 have hz2 : Hid (∀ w2 : World,(w2.alloc (.cells #[.string ⟨#[]⟩,.slice none 0 0,.int .i64 0,.int .i64 0,.int .i64 0,.int .i64 0,.int .i64 0,.int .i64 0,.int .i64 0,.int .i64 0,.int .i64 0,.int .i64 0,.int .i64 0,.int .i64 0,.int .i64 0,.int .i64 0,.int .i64 0,.int .i64 0,.int .i64 0,.string ⟨#[]⟩,.slice none 0 0] 27)).heap[w2.heap.size]? = some (.cells (paC zeroP) 27 (0,0))) := hz
 clear hmid hof hz hB1 hs1
 go_enter Tryz.func18,Tryz.ntmps18
 go_wp2_with fail
 refine hof2.out.mono ?_
 rintro e w2 ⟨⟨sv,rfl,hA2⟩,hb2⟩
 obtain ⟨W4,e4,c4,z4,l5,z5,hE⟩ := hmid2.out w2 sv hb2 hA2
 have hsv := hA2.one
 clear hmid2 hof2 hA2 hb2
 go_wp2_with (first | (refine wpList_store_row rfl 27 (.tmp 3) (.tmp 4) rfl w2.heap.size (paC (ofP abcT sv 0)) rfl rfl 27 _ (hz2.out w2) (info34 _) rfl (paC_one _ hsv rfl) ?_; rw [e4]) | (refine wpList_load_row rfl 27 _ rfl w2.heap.size rfl 27 _ (0,0) _ l5 Tryz.underlying27 rfl (info34 _) ?_) | (refine wpList_store_row rfl 27 (.tmp 2) (.tmp 8) rfl w.heap.size (paC (alP abcT sv al)) rfl rfl 27 _ z5 (info34 _) rfl (paC_one _ hsv rfl) ?_))
 exact bodyPost_ret (results_cell_row rfl _ _ w.heap.size 27 _ (0,0) _ rfl (setRow_heap _ _ _ _ 27 _ z5) Tryz.underlying27 rfl (info34 _)) rfl hE.out
end Go.Proofs.YtbdpghjegachaaaGreatDoor

namespace Go.Proofs.YtbdpghjegachaaaGreatDoor
open Go.RowKit Go.Shelf
set_option maxRecDepth 100000
set_option maxHeartbeats 1000000

def exB (a : Pa) (l : Ln) (last : Bool) (xs : List Int) : Bool := (plE a l == 0) && (stdB (plL a l last noP) xs && (List.range (num a.t)).all (fun i => (msI a i).q == 0))
theorem exB_q {a : Pa} {l : Ln} {last : Bool} {xs : List Int} (h : exB a l last xs = true) : plE a l = 0 ∧ stdB (plL a l last noP) xs = true ∧ ∀ i,i < num a.t → (msI a i).q = 0 := by
 unfold exB at h
 rw [Bool.and_eq_true,Bool.and_eq_true,beq_iff_eq,List.all_eq_true] at h
 exact ⟨h.1,h.2.1,fun i hi => by have := h.2.2 i (List.mem_range.2 hi); rwa [beq_iff_eq] at this⟩
theorem at_row (a : Pa) (l : Ln) (last : Bool) (xs : List Int) (h : exB a l last xs = true) (hl : xs.length ≤ 1000) (g : Nat) (w : World) (hA : PaAt w a) (hg : w.heap[g]? = some (.cells (xs.map (Value.int .i64)).toArray 3 (0,0))) :
  Calls Tryz.prog 17 #[.agg (paC a),.agg (lnC l),.bool last,.slice (some ⟨g,0,none⟩) xs.length xs.length] w fun e w' => e = .returned (.bool true) ∧ Below w.heap.size w w' := by
 obtain ⟨h1,h2,h3⟩ := exB_q h
 exact at_yes a l last (fun _ => h3) h1 xs h2 hl g 0 xs.length (Nat.le_refl _) w hA (fun i hi => by rw [Lib.cell_of_heap hg,Nat.zero_add]; simp [hi]) (Array.getElem?_eq_some_iff.1 hg).1
theorem at_new (a : Pa) (l : Ln) (last : Bool) (xs : List Int) (h : exB a l last xs = true) (hl : xs.length ≤ 1000) (w : World) (hA : PaAt w a) :
  Calls Tryz.prog 17 #[.agg (paC a),.agg (lnC l),.bool last,.slice (some ⟨w.heap.size,0,none⟩) xs.length xs.length] (w.alloc (.cells (xs.map (Value.int .i64)).toArray 3)) fun e w' => e = .returned (.bool true) ∧ Below w.heap.size w w' := by
 have hB := (Below.refl w.heap.size w).alloc (Nat.le_refl _) (Obj.cells (xs.map (Value.int .i64)).toArray 3)
 refine (at_row a l last xs h hl w.heap.size _ (hA.below hB (Nat.le_refl _)) (World.alloc_heap_new w _)).mono ?_
 rintro e w' ⟨rfl,hb⟩
 exact ⟨rfl,hB.trans (hb.mono hB.size)⟩
theorem aw_ok (sv : Value) : exB (alP abcT sv 1) ⟨0,5,0,24,0,false,0⟩ false [0,5,5,4,9,5,14,5,19,5] = true := by kernel_rfl
theorem aw_at (sv : Value) (w : World) (hA : PaAt w (alP abcT sv 1)) : Calls Tryz.prog 17 #[.agg (paC (alP abcT sv 1)),.agg #[.int .i64 0,.int .i64 5,.int .i64 0,.int .i64 24,.int .i64 0,.bool false,.int .i64 0],.bool false,.slice (some ⟨w.heap.size,0,none⟩) 10 10] (w.alloc (.cells #[.int .i64 0,.int .i64 5,.int .i64 5,.int .i64 4,.int .i64 9,.int .i64 5,.int .i64 14,.int .i64 5,.int .i64 19,.int .i64 5] 3)) fun e w' => e = .returned (.bool true) ∧ Below w.heap.size w w' := at_new _ ⟨0,5,0,24,0,false,0⟩ false [0,5,5,4,9,5,14,5,19,5] (aw_ok sv) (by decide) w hA
theorem e1_ok (sv : Value) : exB (alP abcT sv 0) ⟨0,5,0,30,0,false,0⟩ false [0,5,5,3,8,5,13,3,16,5] = true := by kernel_rfl
theorem e1_at (sv : Value) (g : Nat) (w : World) (hA : PaAt w (alP abcT sv 0)) (hg : w.heap[g]? = some (.cells #[.int .i64 0,.int .i64 5,.int .i64 5,.int .i64 3,.int .i64 8,.int .i64 5,.int .i64 13,.int .i64 3,.int .i64 16,.int .i64 5] 3 (0,0))) : Calls Tryz.prog 17 #[.agg (paC (alP abcT sv 0)),.agg #[.int .i64 0,.int .i64 5,.int .i64 0,.int .i64 30,.int .i64 0,.bool false,.int .i64 0],.bool false,.slice (some ⟨g,0,none⟩) 10 10] w fun e w' => e = .returned (.bool true) ∧ Below w.heap.size w w' := at_row _ ⟨0,5,0,30,0,false,0⟩ false [0,5,5,3,8,5,13,3,16,5] (e1_ok sv) (by decide) g w hA hg
theorem e2_ok (sv : Value) : exB (alP abcT sv 2) ⟨0,5,0,30,0,false,0⟩ false [9,5,14,3,17,5,22,3,25,5] = true := by kernel_rfl
theorem e2_at (sv : Value) (w : World) (hA : PaAt w (alP abcT sv 2)) : Calls Tryz.prog 17 #[.agg (paC (alP abcT sv 2)),.agg #[.int .i64 0,.int .i64 5,.int .i64 0,.int .i64 30,.int .i64 0,.bool false,.int .i64 0],.bool false,.slice (some ⟨w.heap.size,0,none⟩) 10 10] (w.alloc (.cells #[.int .i64 9,.int .i64 5,.int .i64 14,.int .i64 3,.int .i64 17,.int .i64 5,.int .i64 22,.int .i64 3,.int .i64 25,.int .i64 5] 3)) fun e w' => e = .returned (.bool true) ∧ Below w.heap.size w w' := at_new _ ⟨0,5,0,30,0,false,0⟩ false [9,5,14,3,17,5,22,3,25,5] (e2_ok sv) (by decide) w hA
theorem e3_ok (sv : Value) : exB (alP abcT sv 3) ⟨0,5,0,30,0,false,0⟩ false [4,5,9,3,12,5,17,3,20,5] = true := by kernel_rfl
theorem e3_at (sv : Value) (w : World) (hA : PaAt w (alP abcT sv 3)) : Calls Tryz.prog 17 #[.agg (paC (alP abcT sv 3)),.agg #[.int .i64 0,.int .i64 5,.int .i64 0,.int .i64 30,.int .i64 0,.bool false,.int .i64 0],.bool false,.slice (some ⟨w.heap.size,0,none⟩) 10 10] (w.alloc (.cells #[.int .i64 4,.int .i64 5,.int .i64 9,.int .i64 3,.int .i64 12,.int .i64 5,.int .i64 17,.int .i64 3,.int .i64 20,.int .i64 5] 3)) fun e w' => e = .returned (.bool true) ∧ Below w.heap.size w w' := at_new _ ⟨0,5,0,30,0,false,0⟩ false [4,5,9,3,12,5,17,3,20,5] (e3_ok sv) (by decide) w hA
theorem e4_ok (sv : Value) : exB (alP abcT sv 1) ⟨0,5,0,20,0,false,0⟩ false [0,5,5,3,8,5,13,2,15,5] = true := by kernel_rfl
theorem e4_at (sv : Value) (w : World) (hA : PaAt w (alP abcT sv 1)) : Calls Tryz.prog 17 #[.agg (paC (alP abcT sv 1)),.agg #[.int .i64 0,.int .i64 5,.int .i64 0,.int .i64 20,.int .i64 0,.bool false,.int .i64 0],.bool false,.slice (some ⟨w.heap.size,0,none⟩) 10 10] (w.alloc (.cells #[.int .i64 0,.int .i64 5,.int .i64 5,.int .i64 3,.int .i64 8,.int .i64 5,.int .i64 13,.int .i64 2,.int .i64 15,.int .i64 5] 3)) fun e w' => e = .returned (.bool true) ∧ Below w.heap.size w w' := at_new _ ⟨0,5,0,20,0,false,0⟩ false [0,5,5,3,8,5,13,2,15,5] (e4_ok sv) (by decide) w hA
theorem e5_ok (sv : Value) : exB (alP abcT sv 1) ⟨0,5,0,24,0,false,0⟩ true [0,5,5,3,8,5,13,3,16,5] = true := by kernel_rfl
theorem e5_at (sv : Value) (g : Nat) (w : World) (hA : PaAt w (alP abcT sv 1)) (hg : w.heap[g]? = some (.cells #[.int .i64 0,.int .i64 5,.int .i64 5,.int .i64 3,.int .i64 8,.int .i64 5,.int .i64 13,.int .i64 3,.int .i64 16,.int .i64 5] 3 (0,0))) : Calls Tryz.prog 17 #[.agg (paC (alP abcT sv 1)),.agg #[.int .i64 0,.int .i64 5,.int .i64 0,.int .i64 24,.int .i64 0,.bool false,.int .i64 0],.bool true,.slice (some ⟨g,0,none⟩) 10 10] w fun e w' => e = .returned (.bool true) ∧ Below w.heap.size w w' := at_row _ ⟨0,5,0,24,0,false,0⟩ true [0,5,5,3,8,5,13,3,16,5] (e5_ok sv) (by decide) g w hA hg
theorem e6_ok (sv : Value) : exB (alP abcT sv 0) ⟨0,4,0,30,0,true,0⟩ false [0,5,5,3,8,5,13,0,13,3] = true := by kernel_rfl
theorem e6_at (sv : Value) (w : World) (hA : PaAt w (alP abcT sv 0)) : Calls Tryz.prog 17 #[.agg (paC (alP abcT sv 0)),.agg #[.int .i64 0,.int .i64 4,.int .i64 0,.int .i64 30,.int .i64 0,.bool true,.int .i64 0],.bool false,.slice (some ⟨w.heap.size,0,none⟩) 10 10] (w.alloc (.cells #[.int .i64 0,.int .i64 5,.int .i64 5,.int .i64 3,.int .i64 8,.int .i64 5,.int .i64 13,.int .i64 0,.int .i64 13,.int .i64 3] 3)) fun e w' => e = .returned (.bool true) ∧ Below w.heap.size w w' := at_new _ ⟨0,4,0,30,0,true,0⟩ false [0,5,5,3,8,5,13,0,13,3] (e6_ok sv) (by decide) w hA
theorem e7_ok (sv : Value) : exB (alP babT sv 2) ⟨0,3,0,30,0,false,0⟩ false [20,0,20,5,25,5] = true := by kernel_rfl
theorem e7_at (sv : Value) (w : World) (hA : PaAt w (alP babT sv 2)) : Calls Tryz.prog 17 #[.agg (paC (alP babT sv 2)),.agg #[.int .i64 0,.int .i64 3,.int .i64 0,.int .i64 30,.int .i64 0,.bool false,.int .i64 0],.bool false,.slice (some ⟨w.heap.size,0,none⟩) 6 6] (w.alloc (.cells #[.int .i64 20,.int .i64 0,.int .i64 20,.int .i64 5,.int .i64 25,.int .i64 5] 3)) fun e w' => e = .returned (.bool true) ∧ Below w.heap.size w w' := at_new _ ⟨0,3,0,30,0,false,0⟩ false [20,0,20,5,25,5] (e7_ok sv) (by decide) w hA
theorem e8_ok (sv : Value) : plE (alP abcT sv 0) ⟨2,1,0,0,0,false,0⟩ = 5 := by kernel_rfl
theorem e8_at (sv : Value) (w : World) (hA : PaAt w (alP abcT sv 0)) : Calls Tryz.prog 8 #[.agg (paC (alP abcT sv 0)),.agg #[.int .i64 2,.int .i64 1,.int .i64 0,.int .i64 0,.int .i64 0,.bool false,.int .i64 0],.bool false] w fun e w' => e = .returned (.tuple #[.slice none 0 0,.int .i64 5]) ∧ Below w.heap.size w w' := by
 refine (place_any (alP abcT sv 0) ⟨2,1,0,0,0,false,0⟩ false (fun q => q = 0) noP w (part_none _ _) (fun _ => (exB_q (e1_ok sv)).2.2) hA).mono ?_
 rintro e w' ⟨⟨v,rfl,h⟩,hb⟩
 rw [e8_ok] at h ⊢
 rcases h with ⟨_,rfl⟩ | ⟨h,_⟩
 ·exact ⟨rfl,hb⟩
 ·cases h
theorem awake_any (w : World) : Calls Tryz.prog 16 #[] w fun e w' => e = .returned (.bool true) ∧ Below w.heap.size w w' := by
 have hal : Hid (Calls Tryz.prog 18 #[.int .i64 1] w fun e w' => ∃ sv,e = .returned (.agg (paC (alP abcT sv 1))) ∧ Below w.heap.size w w' ∧ Calls Tryz.prog 17 #[.agg (paC (alP abcT sv 1)),.agg #[.int .i64 0,.int .i64 5,.int .i64 0,.int .i64 24,.int .i64 0,.bool false,.int .i64 0],.bool false,.slice (some ⟨w'.heap.size,0,none⟩) 10 10] (w'.alloc (.cells #[.int .i64 0,.int .i64 5,.int .i64 5,.int .i64 4,.int .i64 9,.int .i64 5,.int .i64 14,.int .i64 5,.int .i64 19,.int .i64 5] 3)) fun e w'' => e = .returned (.bool true) ∧ Below w'.heap.size w' w'') := by
  refine (aligned_any 1 w).mono ?_
  rintro e w' ⟨⟨sv,rfl,hA⟩,hb⟩
  exact ⟨sv,rfl,hb,aw_at sv w' hA⟩
 go_enter Tryz.func16,Tryz.ntmps16
 go_wp2_with (first | (go_at_call 18; refine hal.out.mono ?_; rintro e w1 ⟨sv,rfl,hb1,hat⟩) | (go_at_call 17; refine hat.mono ?_; rintro e w2 ⟨rfl,hb2⟩))
 go_ret
 exact ⟨rfl,hb1.trans (hb2.mono hb1.size)⟩
end Go.Proofs.YtbdpghjegachaaaGreatDoor
