/-
  What is proved here: SetKnown answers true.
  What is proved here: a paragraph with other lists' values.
  What is proved here: how lists of masses and paragraphs that are handed in look.
  What is proved here: whether spans are as much as so many bytes, and look as characters may; whether a label or a mark may stand.
  What is proved here: how lists of masses and paragraphs that are handed in look.
  What is proved here: how a paragraph that is handed in looks.
-/
import Derived.Test.YtbdpghjegachaaaGreatDoorE38
import Derived.Test.YtbdpghjegachaaaGreatDoorE4
import Derived.Test.YtbdpghjegachaaaGreatDoorE6
import Derived.ProofKit
import Derived.OpenShut
import Derived.ChangeOld
import Derived.Below
import Derived.Deep.Slices
import Derived.SizedLaws
import Derived.Test.YtbdpghjegachaaaGreatDoorE3
import Derived.Test.YtbdpghjegachaaaGreatDoorE8
namespace Go.Proofs.YtbdpghjegachaaaGreatDoor
open Go.RowKit Go.Shelf
set_option maxRecDepth 100000
set_option maxHeartbeats 8000000

theorem four_mid (w2 : World) (sv : Value) (hA2 : PaAt w2 (ofP babT sv 0)) : ∃ W4,(w2.alloc (.cells #[.string ⟨#[]⟩,.slice none 0 0,.int .i64 0,.int .i64 0,.int .i64 0,.int .i64 0,.int .i64 0,.int .i64 0,.int .i64 0,.int .i64 0,.int .i64 0,.int .i64 0,.int .i64 0,.int .i64 0,.int .i64 0,.int .i64 0,.int .i64 0,.int .i64 0,.int .i64 0,.string ⟨#[]⟩,.slice none 0 0] 27)).setRow w2.heap.size (paC (ofP babT sv 0)) = W4 ∧ W4.cell? ⟨w2.heap.size,4,none⟩ = some (.int .i64 0) ∧ W4.frozen? ⟨w2.heap.size,4,none⟩ = false ∧ (W4.setCell ⟨w2.heap.size,4,none⟩ (.int .i64 2)).heap[w2.heap.size]? = some (.cells (paC (alP babT sv 2)) 27 (0,0)) ∧ PaAt (W4.setCell ⟨w2.heap.size,4,none⟩ (.int .i64 2)) (alP babT sv 2) ∧ Below w2.heap.size w2 (W4.setCell ⟨w2.heap.size,4,none⟩ (.int .i64 2)) := by
 have hT4 : Turns (fun k => k = w2.heap.size) w2 ((w2.alloc (.cells #[.string ⟨#[]⟩,.slice none 0 0,.int .i64 0,.int .i64 0,.int .i64 0,.int .i64 0,.int .i64 0,.int .i64 0,.int .i64 0,.int .i64 0,.int .i64 0,.int .i64 0,.int .i64 0,.int .i64 0,.int .i64 0,.int .i64 0,.int .i64 0,.int .i64 0,.int .i64 0,.string ⟨#[]⟩,.slice none 0 0] 27)).setRow w2.heap.size (paC (ofP babT sv 0))) := (Turns.alloc _ w2 _).trans (Turns.setRow (X := fun k => k = w2.heap.size) _ rfl _)
 have hl4 : ((w2.alloc (.cells #[.string ⟨#[]⟩,.slice none 0 0,.int .i64 0,.int .i64 0,.int .i64 0,.int .i64 0,.int .i64 0,.int .i64 0,.int .i64 0,.int .i64 0,.int .i64 0,.int .i64 0,.int .i64 0,.int .i64 0,.int .i64 0,.int .i64 0,.int .i64 0,.int .i64 0,.int .i64 0,.string ⟨#[]⟩,.slice none 0 0] 27)).setRow w2.heap.size (paC (ofP babT sv 0))).heap[w2.heap.size]? = some (.cells (paC (ofP babT sv 0)) 27 (0,0)) := setRow_heap _ _ _ _ 27 _ (PB.new w2 zeroP).row
 refine ⟨_,rfl,?_⟩
 generalize (w2.alloc (.cells #[.string ⟨#[]⟩,.slice none 0 0,.int .i64 0,.int .i64 0,.int .i64 0,.int .i64 0,.int .i64 0,.int .i64 0,.int .i64 0,.int .i64 0,.int .i64 0,.int .i64 0,.int .i64 0,.int .i64 0,.int .i64 0,.int .i64 0,.int .i64 0,.int .i64 0,.int .i64 0,.string ⟨#[]⟩,.slice none 0 0] 27)).setRow w2.heap.size (paC (ofP babT sv 0)) = W4 at *
 have hT5 := Turns.setCell (X := fun k => k = w2.heap.size) W4 (p := ⟨w2.heap.size,4,none⟩) rfl (.int .i64 2)
 have hl5 := heap_setCell_same W4 w2.heap.size 4 _ 27 (.int .i64 2) hl4
 rw [alP_set] at hl5
 have hB : Below w2.heap.size w2 (W4.setCell ⟨w2.heap.size,4,none⟩ (.int .i64 2)) := (hT4.trans hT5).below (Nat.le_refl _) (fun k hk => by omega)
 exact ⟨by rw [Lib.cell_of_heap hl4]; rfl,Lib.frozen_of_heap hl4 _,hl5,(hA2.below hB (Nat.le_refl _)).al 2,hB⟩
theorem known4 (w : World) : Calls Tryz.prog 4 #[] w fun e w' => e = .returned (.bool true) ∧ Below w.heap.size w w' := by
 have hB0 := (Below.refl w.heap.size w).alloc (Nat.le_refl _) (.cells #[.int .i64 0,.int .i64 5,.int .i64 5,.int .i64 3,.int .i64 8,.int .i64 5,.int .i64 13,.int .i64 3,.int .i64 16,.int .i64 5] 3)
 have hGr : (w.alloc (.cells #[.int .i64 0,.int .i64 5,.int .i64 5,.int .i64 3,.int .i64 8,.int .i64 5,.int .i64 13,.int .i64 3,.int .i64 16,.int .i64 5] 3)).heap[w.heap.size]? = some (.cells #[.int .i64 0,.int .i64 5,.int .i64 5,.int .i64 3,.int .i64 8,.int .i64 5,.int .i64 13,.int .i64 3,.int .i64 16,.int .i64 5] 3 (0,0)) := World.alloc_heap_new w _
 have hGl : w.heap.size < (w.alloc (.cells #[.int .i64 0,.int .i64 5,.int .i64 5,.int .i64 3,.int .i64 8,.int .i64 5,.int .i64 13,.int .i64 3,.int .i64 16,.int .i64 5] 3)).heap.size := by simp
 generalize hw0 : w.alloc (.cells #[.int .i64 0,.int .i64 5,.int .i64 5,.int .i64 3,.int .i64 8,.int .i64 5,.int .i64 13,.int .i64 3,.int .i64 16,.int .i64 5] 3) = W0 at *
 have hS : Hid (Below W0.heap.size W0 W0) := Below.refl _ _
 have hz : Hid (∀ w2 : World,(w2.alloc (.cells #[.string ⟨#[]⟩,.slice none 0 0,.int .i64 0,.int .i64 0,.int .i64 0,.int .i64 0,.int .i64 0,.int .i64 0,.int .i64 0,.int .i64 0,.int .i64 0,.int .i64 0,.int .i64 0,.int .i64 0,.int .i64 0,.int .i64 0,.int .i64 0,.int .i64 0,.int .i64 0,.string ⟨#[]⟩,.slice none 0 0] 27)).heap[w2.heap.size]? = some (.cells (paC zeroP) 27 (0,0))) := fun w2 => (PB.new w2 zeroP).row
 have hof : Hid (∀ W,Calls Tryz.prog 19 #[.string ⟨#[32,97,98]⟩] W fun e w' => (∃ sv,e = .returned (.agg (paC (ofP babT sv 0))) ∧ PaAt w' (ofP babT sv 0)) ∧ Below W.heap.size W w') := fun W => of_any babT (by decide) W
 have h7w : Hid (∀ (W6 : World) (B : Nat) (s5 : Value),PaAt (W6.setCell ⟨B,4,none⟩ (.int .i64 2)) (alP babT s5 2) → Hid (Below W0.heap.size W0 (W6.setCell ⟨B,4,none⟩ (.int .i64 2))) → Hid (Calls Tryz.prog 17 #[.agg (paC (alP babT s5 2)),.agg #[.int .i64 0,.int .i64 3,.int .i64 0,.int .i64 30,.int .i64 0,.bool false,.int .i64 0],.bool false,.slice (some ⟨W6.heap.size,0,none⟩) 6 6] ((W6.setCell ⟨B,4,none⟩ (.int .i64 2)).alloc (.cells #[.int .i64 20,.int .i64 0,.int .i64 20,.int .i64 5,.int .i64 25,.int .i64 5] 3)) fun e w' => e = .returned (.bool true) ∧ Hid (Below W0.heap.size W0 w'))) := fun W6 B s5 hA hS => by
  have h := e7_at s5 _ hA
  rw [World.size_setCell] at h
  refine h.mono ?_
  rintro e w' ⟨rfl,hb⟩
  have hz := hS.out.size
  rw [World.size_setCell] at hz
  exact ⟨rfl,hS.out.trans (hb.mono hz)⟩
 go_enter Tryz.func4,Tryz.ntmps4
 go_wp2_with (first | (go_at_call 16; refine (awake_any _).mono ?_; rintro e W2 ⟨rfl,hb⟩; have hS : Hid (Below W0.heap.size W0 W2) := hS.out.trans (hb.mono hS.out.size); clear hb) | (go_at_call 18; refine (aligned_any _ _).mono ?_; rintro e W1 ⟨⟨sv,rfl,hA⟩,hb⟩; have hS : Hid (Below W0.heap.size W0 W1) := hS.out.trans (hb.mono hS.out.size); clear hb) | (go_at_call 17; first | ((with_reducible refine (e1_at _ w.heap.size _ hA ((hS.out.block _ hGl).trans hGr)).mono ?_); rintro e W2 ⟨rfl,hb⟩; have hS : Hid (Below W0.heap.size W0 W2) := hS.out.trans (hb.mono hS.out.size); clear hA hb) | ((with_reducible refine (e2_at _ _ hA).mono ?_); rintro e W2 ⟨rfl,hb⟩; have hS : Hid (Below W0.heap.size W0 W2) := hS.out.trans (hb.mono hS.out.size); clear hA hb) | ((with_reducible refine (e3_at _ _ hA).mono ?_); rintro e W2 ⟨rfl,hb⟩; have hS : Hid (Below W0.heap.size W0 W2) := hS.out.trans (hb.mono hS.out.size); clear hA hb) | ((with_reducible refine (e4_at _ _ hA).mono ?_); rintro e W2 ⟨rfl,hb⟩; have hS : Hid (Below W0.heap.size W0 W2) := hS.out.trans (hb.mono hS.out.size); clear hA hb) | ((with_reducible refine (e5_at _ w.heap.size _ hA ((hS.out.block _ hGl).trans hGr)).mono ?_); rintro e W2 ⟨rfl,hb⟩; have hS : Hid (Below W0.heap.size W0 W2) := hS.out.trans (hb.mono hS.out.size); clear hA hb) | ((with_reducible refine (e6_at _ _ hA).mono ?_); rintro e W2 ⟨rfl,hb⟩; have hS : Hid (Below W0.heap.size W0 W2) := hS.out.trans (hb.mono hS.out.size); clear hA hb) | ((with_reducible refine h7.out.mono ?_); rintro e W2 ⟨rfl,hS⟩; clear h7)) | (go_at_call 8; refine (e8_at _ _ hA).mono ?_; rintro e W2 ⟨rfl,hb⟩; have hS : Hid (Below W0.heap.size W0 W2) := hS.out.trans (hb.mono hS.out.size); clear hA hb) | (go_at_call 19; refine (hof.out _).mono ?_; rintro e W5 ⟨⟨s5,rfl,hA5⟩,hb⟩; have hS : Hid (Below W0.heap.size W0 W5) := hS.out.trans (hb.mono hS.out.size); obtain ⟨W6,e6,c6,z6,l7,hA,hb7⟩ := four_mid W5 s5 hA5; have hsv := hA5.one; have hS : Hid (Below W0.heap.size W0 (W6.setCell ⟨W5.heap.size,4,none⟩ (.int .i64 2))) := hS.out.trans (hb7.mono hS.out.size); have h7 := h7w.out W6 W5.heap.size s5 hA hS; clear hb hA5 hb7 hA h7w) | (refine wpList_store_row rfl 27 (.tmp 5) (.tmp 42) rfl W5.heap.size (paC (ofP babT s5 0)) rfl rfl 27 _ (hz.out W5) (info34 _) rfl (paC_one _ hsv rfl) ?_; rw [e6]) | (refine wpList_load_want 27 _ rfl rfl W5.heap.size rfl 27 _ (0,0) _ l7 Tryz.underlying27 rfl (info34 _) ?_))
 go_ret
 exact ⟨rfl,hB0.trans (hS.out.mono hB0.size)⟩
end Go.Proofs.YtbdpghjegachaaaGreatDoor

namespace Go.Proofs.YtbdpghjegachaaaGreatDoor
open Go.RowKit Go.Shelf

def paW (a : Pa) (v u : Value) : Pa := ⟨a.t,v,a.p,a.lb,u,a.sp,a.ms⟩
end Go.Proofs.YtbdpghjegachaaaGreatDoor

namespace Go.Proofs.YtbdpghjegachaaaGreatDoor
open Go.ChangeShapes Go.WideShapes Go.ChangeAt Go.RowKit

theorem own : ownKnob Tryz.prog.godebug = none := by kernel_rfl
theorem laidOut : laidOutB Tryz.prog = true := by kernel_rfl

end Go.Proofs.YtbdpghjegachaaaGreatDoor

namespace Go.Proofs.YtbdpghjegachaaaGreatDoor
open Go.RowKit Go.Shelf

theorem spL_one (r : Sp) : ∀ u ∈ spL r,u.oneCell' = true := by intro u hu; simp [spL] at hu; rcases hu with rfl | rfl | rfl | rfl <;> rfl
end Go.Proofs.YtbdpghjegachaaaGreatDoor

namespace Go.Proofs.YtbdpghjegachaaaGreatDoor
open Go.ChangeShapes Go.WideShapes Go.ChangeAt Go.RowKit
set_option maxRecDepth 100000

theorem pr_at {H : Type} {enc : TypeId × Value → H} {W : World} {spare : Nat → Bool} {held : Bool} {n : Nat} {cs : List Value} {x : DataW H × List MemPlace}
  (hl : cs.length = 17) (ht : DataW.trod enc Tryz.prog W 0 spare held n 24 cs = some x) : ∃ q : Pr,cs = prL q := by
 obtain ⟨xs,m,_,_,_,hxl,hf⟩ := DataW.trod_struct Tryz.underlying24 ht
 have c3 : Tryz.prog.cellsOf 3 = 1 := by kernel_rfl
 have f0 : DataW.trod enc Tryz.prog W 0 spare held m 3 ((cs.drop 0).take (Tryz.prog.cellsOf 3)) = xs[0]? := hf 0 _ rfl
 have f1 : DataW.trod enc Tryz.prog W 0 spare held m 3 ((cs.drop 1).take (Tryz.prog.cellsOf 3)) = xs[1]? := hf 1 _ rfl
 have f2 : DataW.trod enc Tryz.prog W 0 spare held m 3 ((cs.drop 2).take (Tryz.prog.cellsOf 3)) = xs[2]? := hf 2 _ rfl
 have f3 : DataW.trod enc Tryz.prog W 0 spare held m 3 ((cs.drop 3).take (Tryz.prog.cellsOf 3)) = xs[3]? := hf 3 _ rfl
 have f4 : DataW.trod enc Tryz.prog W 0 spare held m 3 ((cs.drop 4).take (Tryz.prog.cellsOf 3)) = xs[4]? := hf 4 _ rfl
 have f5 : DataW.trod enc Tryz.prog W 0 spare held m 3 ((cs.drop 5).take (Tryz.prog.cellsOf 3)) = xs[5]? := hf 5 _ rfl
 have f6 : DataW.trod enc Tryz.prog W 0 spare held m 3 ((cs.drop 6).take (Tryz.prog.cellsOf 3)) = xs[6]? := hf 6 _ rfl
 have f7 : DataW.trod enc Tryz.prog W 0 spare held m 3 ((cs.drop 7).take (Tryz.prog.cellsOf 3)) = xs[7]? := hf 7 _ rfl
 have f8 : DataW.trod enc Tryz.prog W 0 spare held m 3 ((cs.drop 8).take (Tryz.prog.cellsOf 3)) = xs[8]? := hf 8 _ rfl
 have f9 : DataW.trod enc Tryz.prog W 0 spare held m 3 ((cs.drop 9).take (Tryz.prog.cellsOf 3)) = xs[9]? := hf 9 _ rfl
 have f10 : DataW.trod enc Tryz.prog W 0 spare held m 3 ((cs.drop 10).take (Tryz.prog.cellsOf 3)) = xs[10]? := hf 10 _ rfl
 have f11 : DataW.trod enc Tryz.prog W 0 spare held m 3 ((cs.drop 11).take (Tryz.prog.cellsOf 3)) = xs[11]? := hf 11 _ rfl
 have f12 : DataW.trod enc Tryz.prog W 0 spare held m 3 ((cs.drop 12).take (Tryz.prog.cellsOf 3)) = xs[12]? := hf 12 _ rfl
 have f13 : DataW.trod enc Tryz.prog W 0 spare held m 3 ((cs.drop 13).take (Tryz.prog.cellsOf 3)) = xs[13]? := hf 13 _ rfl
 have f14 : DataW.trod enc Tryz.prog W 0 spare held m 3 ((cs.drop 14).take (Tryz.prog.cellsOf 3)) = xs[14]? := hf 14 _ rfl
 have f15 : DataW.trod enc Tryz.prog W 0 spare held m 3 ((cs.drop 15).take (Tryz.prog.cellsOf 3)) = xs[15]? := hf 15 _ rfl
 have f16 : DataW.trod enc Tryz.prog W 0 spare held m 3 ((cs.drop 16).take (Tryz.prog.cellsOf 3)) = xs[16]? := hf 16 _ rfl
 simp only [c3] at f0 f1 f2 f3 f4 f5 f6 f7 f8 f9 f10 f11 f12 f13 f14 f15 f16
 have hsz : xs.length = 17 := hxl
 obtain ⟨y0,y1,y2,y3,y4,y5,y6,y7,y8,y9,y10,y11,y12,y13,y14,y15,y16,rfl⟩ : ∃ y0 y1 y2 y3 y4 y5 y6 y7 y8 y9 y10 y11 y12 y13 y14 y15 y16,xs = [y0,y1,y2,y3,y4,y5,y6,y7,y8,y9,y10,y11,y12,y13,y14,y15,y16] := by
  match xs,hsz with
  | [y0,y1,y2,y3,y4,y5,y6,y7,y8,y9,y10,y11,y12,y13,y14,y15,y16],_ => exact ⟨_,_,_,_,_,_,_,_,_,_,_,_,_,_,_,_,_,rfl⟩
 obtain ⟨z0,z1,z2,z3,z4,z5,z6,z7,z8,z9,z10,z11,z12,z13,z14,z15,z16,rfl⟩ : ∃ z0 z1 z2 z3 z4 z5 z6 z7 z8 z9 z10 z11 z12 z13 z14 z15 z16,cs = [z0,z1,z2,z3,z4,z5,z6,z7,z8,z9,z10,z11,z12,z13,z14,z15,z16] := by
  match cs,hl with
  | [z0,z1,z2,z3,z4,z5,z6,z7,z8,z9,z10,z11,z12,z13,z14,z15,z16],_ => exact ⟨_,_,_,_,_,_,_,_,_,_,_,_,_,_,_,_,_,rfl⟩
 obtain ⟨a0,e0,_,_⟩ := DataW.trod_int Tryz.underlying3 f0
 obtain ⟨a1,e1,_,_⟩ := DataW.trod_int Tryz.underlying3 f1
 obtain ⟨a2,e2,_,_⟩ := DataW.trod_int Tryz.underlying3 f2
 obtain ⟨a3,e3,_,_⟩ := DataW.trod_int Tryz.underlying3 f3
 obtain ⟨a4,e4,_,_⟩ := DataW.trod_int Tryz.underlying3 f4
 obtain ⟨a5,e5,_,_⟩ := DataW.trod_int Tryz.underlying3 f5
 obtain ⟨a6,e6,_,_⟩ := DataW.trod_int Tryz.underlying3 f6
 obtain ⟨a7,e7,_,_⟩ := DataW.trod_int Tryz.underlying3 f7
 obtain ⟨a8,e8,_,_⟩ := DataW.trod_int Tryz.underlying3 f8
 obtain ⟨a9,e9,_,_⟩ := DataW.trod_int Tryz.underlying3 f9
 obtain ⟨a10,e10,_,_⟩ := DataW.trod_int Tryz.underlying3 f10
 obtain ⟨a11,e11,_,_⟩ := DataW.trod_int Tryz.underlying3 f11
 obtain ⟨a12,e12,_,_⟩ := DataW.trod_int Tryz.underlying3 f12
 obtain ⟨a13,e13,_,_⟩ := DataW.trod_int Tryz.underlying3 f13
 obtain ⟨a14,e14,_,_⟩ := DataW.trod_int Tryz.underlying3 f14
 obtain ⟨a15,e15,_,_⟩ := DataW.trod_int Tryz.underlying3 f15
 obtain ⟨a16,e16,_,_⟩ := DataW.trod_int Tryz.underlying3 f16
 simp at e0 e1 e2 e3 e4 e5 e6 e7 e8 e9 e10 e11 e12 e13 e14 e15 e16
 subst e0 e1 e2 e3 e4 e5 e6 e7 e8 e9 e10 e11 e12 e13 e14 e15 e16
 exact ⟨⟨a0,a1,a2,a3,a4,a5,a6,a7,a8,a9,a10,a11,a12,a13,a14,a15,a16⟩,rfl⟩

theorem ch_at {H : Type} {enc : TypeId × Value → H} {W : World} {spare : Nat → Bool} {held : Bool} {n : Nat} {cs : List Value} {x : DataW H × List MemPlace}
  (hl : cs.length = 3) (ht : DataW.trod enc Tryz.prog W 0 spare held n 89 cs = some x) : ∃ q : Int × Int × Int,cs = [.int .i64 q.1,.int .i64 q.2.1,.int .i64 q.2.2] := by
 obtain ⟨xs,m,_,_,_,hxl,hf⟩ := DataW.trod_struct Tryz.underlying89 ht
 have c3 : Tryz.prog.cellsOf 3 = 1 := by kernel_rfl
 have f0 : DataW.trod enc Tryz.prog W 0 spare held m 3 ((cs.drop 0).take (Tryz.prog.cellsOf 3)) = xs[0]? := hf 0 _ rfl
 have f1 : DataW.trod enc Tryz.prog W 0 spare held m 3 ((cs.drop 1).take (Tryz.prog.cellsOf 3)) = xs[1]? := hf 1 _ rfl
 have f2 : DataW.trod enc Tryz.prog W 0 spare held m 3 ((cs.drop 2).take (Tryz.prog.cellsOf 3)) = xs[2]? := hf 2 _ rfl
 simp only [c3] at f0 f1 f2
 have hsz : xs.length = 3 := hxl
 obtain ⟨y0,y1,y2,rfl⟩ : ∃ y0 y1 y2,xs = [y0,y1,y2] := by
  match xs,hsz with
  | [y0,y1,y2],_ => exact ⟨_,_,_,rfl⟩
 obtain ⟨z0,z1,z2,rfl⟩ : ∃ z0 z1 z2,cs = [z0,z1,z2] := by
  match cs,hl with
  | [z0,z1,z2],_ => exact ⟨_,_,_,rfl⟩
 obtain ⟨a0,e0,_,_⟩ := DataW.trod_int Tryz.underlying3 f0
 obtain ⟨a1,e1,_,_⟩ := DataW.trod_int Tryz.underlying3 f1
 obtain ⟨a2,e2,_,_⟩ := DataW.trod_int Tryz.underlying3 f2
 simp at e0 e1 e2
 subst e0 e1 e2
 exact ⟨⟨a0,a1,a2⟩,rfl⟩

theorem sp_at {H : Type} {enc : TypeId × Value → H} {W : World} {spare : Nat → Bool} {held : Bool} {n : Nat} {cs : List Value} {x : DataW H × List MemPlace}
  (hl : cs.length = 4) (ht : DataW.trod enc Tryz.prog W 0 spare held n 91 cs = some x) : ∃ q : Sp,cs = spL q := by
 obtain ⟨xs,m,_,_,_,hxl,hf⟩ := DataW.trod_struct Tryz.underlying91 ht
 have c3 : Tryz.prog.cellsOf 3 = 1 := by kernel_rfl
 have c49 : Tryz.prog.cellsOf 89 = 3 := by kernel_rfl
 have f0 : DataW.trod enc Tryz.prog W 0 spare held m 3 ((cs.drop 0).take (Tryz.prog.cellsOf 3)) = xs[0]? := hf 0 _ rfl
 have f1 : DataW.trod enc Tryz.prog W 0 spare held m 89 ((cs.drop 1).take (Tryz.prog.cellsOf 89)) = xs[1]? := hf 1 _ rfl
 simp only [c3,c49] at f0 f1
 have hsz : xs.length = 2 := hxl
 obtain ⟨y0,y1,rfl⟩ : ∃ y0 y1,xs = [y0,y1] := by
  match xs,hsz with
  | [y0,y1],_ => exact ⟨_,_,rfl⟩
 obtain ⟨z0,z1,z2,z3,rfl⟩ : ∃ z0 z1 z2 z3,cs = [z0,z1,z2,z3] := by
  match cs,hl with
  | [z0,z1,z2,z3],_ => exact ⟨_,_,_,_,rfl⟩
 obtain ⟨a0,e0,_,_⟩ := DataW.trod_int Tryz.underlying3 f0
 obtain ⟨⟨b,c,d⟩,e1⟩ := ch_at rfl (show DataW.trod enc Tryz.prog W 0 spare held m 89 [z1,z2,z3] = some y1 from f1)
 simp at e0 e1
 obtain ⟨rfl,rfl,rfl⟩ := e1
 subst e0
 exact ⟨⟨a0,b,c,d⟩,rfl⟩

theorem recs_in {H : Type} {enc : TypeId × Value → H} {W : World} {spare : Nat → Bool} {fuel : Nat} {cs : List Value} {x : DataW H × List MemPlace} {α : Type} {k : Nat} {f : α → List Value} {ty e : TypeId} (hu : Tryz.prog.underlying ty = some (.slice e)) (ck : Tryz.prog.cellsOf e = k) (hk : 0 < k)
  (hat : ∀ (n : Nat) (cs : List Value) (x : DataW H × List MemPlace),cs.length = k → DataW.trod enc Tryz.prog W 0 spare true n e cs = some x → ∃ q : α,cs = f q)
  (hf : DataW.trod enc Tryz.prog W 0 spare true fuel ty cs = some x) : ∃ (v : Value) (qs : List α),cs = [v] ∧ RecAt k f W v qs ∧ qs.length ≤ 9223372036854775807 ∧ ((x.1 = .nil ∧ qs = []) ∨ ∃ es sp,x.1 = .slice es sp ∧ es.length = qs.length) := by
 rcases Deep.open_slice hu hf with ⟨hcs,hx0⟩ | ⟨a,len,cap,m,n,D,Pl,hcs,_,hl,hm,hmm,hx1,hx⟩
 ·subst hcs
  exact ⟨_,[],rfl,⟨⟨none,0,rfl,.inl rfl⟩,fun a n c e => by cases e; exact Nat.le_refl _⟩,by simp,.inl ⟨by rw [hx0],rfl⟩⟩
 ·subst hcs
  have hlm : len ≤ m := by rw [hmm]; split <;> omega
  rw [ck] at hx
  have hdat : ∃ es sp,x.1 = .slice es sp ∧ es.length = len := by rw [hx1]; exact ⟨_,_,rfl,by simp⟩
  obtain ⟨es,sp,hes,hel⟩ := hdat
  by_cases h0 : len = 0
  ·subst h0
   exact ⟨_,[],rfl,⟨⟨_,_,rfl,.inl rfl⟩,fun a n c e => by cases e; exact hl⟩,by simp,.inr ⟨es,sp,hes,by simpa using hel⟩⟩
  ·obtain ⟨b,off,spot⟩ := a
   obtain ⟨cs',hc0,ht0⟩ := hx 0 (by omega)
   have hb := World.cells?_block hc0 (by omega)
   obtain ⟨_,hl0,hce⟩ := World.cells?_some hc0
   have hg := hce 0 (by omega)
   have hspot : spot = none := by
    match cs',hl0 with
    | z :: _,_ => simpa [Addr.add] using World.cell?_spot hg
    | [],h => simp at h; omega
   subst hspot
   rw [addr_add] at hb
   have hq : ∀ i : Fin len,∃ q : α,∀ j u,(f q)[j]? = some u → W.cell? ⟨b,off + i * k + j,none⟩ = some u := fun i => by
    obtain ⟨cs',hc1,ht1⟩ := hx i (by omega)
    rw [addr_add] at hc1
    obtain ⟨_,hl1,hce1⟩ := World.cells?_some hc1
    obtain ⟨q,rfl⟩ := hat _ _ _ hl1 ht1
    refine ⟨q,fun j u hu => ?_⟩
    have hj : j < (f q).length := (List.getElem?_eq_some_iff.1 hu).1
    have := hce1 j (by omega)
    rw [addr_add] at this
    exact this.trans hu
   refine ⟨_,List.ofFn (fun i => Classical.choose (hq i)),rfl,⟨⟨_,_,by simp; exact rfl,.inr ⟨b,off,rfl,hb,fun i hi j u hu => ?_⟩⟩,fun a n c e => by cases e; exact hl⟩,by simp; unfold maxLen at hm; omega,.inr ⟨es,sp,hes,by simpa using hel⟩⟩
   have hi' : i < len := by simpa using hi
   have := Classical.choose_spec (hq ⟨i,hi'⟩) j u (by simpa using hu)
   simpa using this
end Go.Proofs.YtbdpghjegachaaaGreatDoor

namespace Go.Proofs.YtbdpghjegachaaaGreatDoor
open Go.ChangeShapes Go.WideShapes Go.ChangeAt Go.RowKit

theorem str_at {H : Type} {enc : TypeId × Value → H} {W : World} {spare : Nat → Bool} {n : Nat} {cs : List Value} {x : DataW H × List MemPlace}
  (ht : DataW.trod enc Tryz.prog W 0 spare true n 9 cs = some x) : ∃ q : ByteArray,cs = [.string q] := by
 obtain ⟨q,e,_,_⟩ := DataW.trod_string Tryz.underlying9 ht
 exact ⟨q,e⟩
theorem strs_of_rec {W : World} {v : Value} {qs : List ByteArray} (h : RecAt 1 (fun t => [Value.string t]) W v qs) : StrsAt W v qs := by
 obtain ⟨a,cap,rfl,h2⟩ := h.ex
 refine ⟨⟨a,cap,rfl,?_⟩,h.le⟩
 rcases h2 with h2 | ⟨b,o,rfl,hb,hc⟩
 ·exact .inl h2
 ·refine .inr ⟨b,o,rfl,hb,fun i hi => ?_⟩
  have := hc i hi 0 _ rfl
  simpa using this

end Go.Proofs.YtbdpghjegachaaaGreatDoor
