/-
  What is proved here: how lines that are handed in look.
-/
import Derived.Test.YtlgcnbomfhmjiaaGreatDoorS32
import Derived.Test.YtlgcnbomfhmjiaaGreatDoorS33
import Derived.Test.YtlgcnbomfhmjiaaGreatDoorS20
namespace Go.Proofs.YtlgcnbomfhmjiaaGreatDoor
open Go.ChangeShapes Go.WideShapes Go.ChangeAt Go.RowKit
set_option maxRecDepth 100000

theorem laidOut : laidOutB Tryz.prog = true := by kernel_rfl
theorem lxr_at {H : Type} {enc : TypeId × Value → H} {W : World} {spare : Nat → Bool} {n : Nat} {cs : List Value} {x : DataW H × List MemPlace}
  (hl : cs.length = 7) (ht : DataW.trod enc Tryz.prog W 0 spare true n 47 cs = some x) : ∃ q : Lx,cs = lxL q := by
 obtain ⟨xs,m,_,_,_,hxl,hf⟩ := DataW.trod_struct Tryz.underlying47 ht
 have c3 : Tryz.prog.cellsOf 3 = 1 := by kernel_rfl
 have c4 : Tryz.prog.cellsOf 4 = 1 := by kernel_rfl
 have f0 : DataW.trod enc Tryz.prog W 0 spare true m 3 ((cs.drop 0).take (Tryz.prog.cellsOf 3)) = xs[0]? := hf 0 _ rfl
 have f1 : DataW.trod enc Tryz.prog W 0 spare true m 3 ((cs.drop 1).take (Tryz.prog.cellsOf 3)) = xs[1]? := hf 1 _ rfl
 have f2 : DataW.trod enc Tryz.prog W 0 spare true m 3 ((cs.drop 2).take (Tryz.prog.cellsOf 3)) = xs[2]? := hf 2 _ rfl
 have f3 : DataW.trod enc Tryz.prog W 0 spare true m 3 ((cs.drop 3).take (Tryz.prog.cellsOf 3)) = xs[3]? := hf 3 _ rfl
 have f4 : DataW.trod enc Tryz.prog W 0 spare true m 3 ((cs.drop 4).take (Tryz.prog.cellsOf 3)) = xs[4]? := hf 4 _ rfl
 have f5 : DataW.trod enc Tryz.prog W 0 spare true m 4 ((cs.drop 5).take (Tryz.prog.cellsOf 4)) = xs[5]? := hf 5 _ rfl
 have f6 : DataW.trod enc Tryz.prog W 0 spare true m 3 ((cs.drop 6).take (Tryz.prog.cellsOf 3)) = xs[6]? := hf 6 _ rfl
 simp only [c3,c4] at f0 f1 f2 f3 f4 f5 f6
 have hsz : xs.length = 7 := hxl
 obtain ⟨y0,y1,y2,y3,y4,y5,y6,rfl⟩ : ∃ y0 y1 y2 y3 y4 y5 y6,xs = [y0,y1,y2,y3,y4,y5,y6] := by
  match xs,hsz with
  | [y0,y1,y2,y3,y4,y5,y6],_ => exact ⟨_,_,_,_,_,_,_,rfl⟩
 obtain ⟨z0,z1,z2,z3,z4,z5,z6,rfl⟩ : ∃ z0 z1 z2 z3 z4 z5 z6,cs = [z0,z1,z2,z3,z4,z5,z6] := by
  match cs,hl with
  | [z0,z1,z2,z3,z4,z5,z6],_ => exact ⟨_,_,_,_,_,_,_,rfl⟩
 obtain ⟨a0,e0,_,_⟩ := DataW.trod_int Tryz.underlying3 f0
 obtain ⟨a1,e1,_,_⟩ := DataW.trod_int Tryz.underlying3 f1
 obtain ⟨a2,e2,_,_⟩ := DataW.trod_int Tryz.underlying3 f2
 obtain ⟨a3,e3,_,_⟩ := DataW.trod_int Tryz.underlying3 f3
 obtain ⟨a4,e4,_,_⟩ := DataW.trod_int Tryz.underlying3 f4
 obtain ⟨a5,e5,_⟩ := DataW.trod_bool Tryz.underlying4 f5
 obtain ⟨a6,e6,_,_⟩ := DataW.trod_int Tryz.underlying3 f6
 simp at e0 e1 e2 e3 e4 e5 e6
 subst e0 e1 e2 e3 e4 e5 e6
 exact ⟨⟨a0,a1,a2,a3,a4,a5,a6⟩,rfl⟩
theorem slots_in {H : Type} {enc : TypeId × Value → H} {W : World} {spare : Nat → Bool} {v : Value} {d : DataW H} {p : List MemPlace}
  (h : ∃ m,DataW.trod enc Tryz.prog W 0 spare true m 23 [v] = some (d,p)) : ∃ l : List Lx,LxsAt W v l ∧ l.length ≤ 9223372036854775807 := by
 obtain ⟨m,hm⟩ := h
 have c8 : Tryz.prog.cellsOf 47 = 7 := by kernel_rfl
 obtain ⟨v',qs,e,hR,hl,_⟩ := recs_in (α := Lx) (k := 7) (f := lxL) Tryz.underlying23 c8 (by decide) (fun _ _ _ h1 h2 => lxr_at h1 h2) hm
 cases e
 exact ⟨qs,hR,hl⟩
end Go.Proofs.YtlgcnbomfhmjiaaGreatDoor
