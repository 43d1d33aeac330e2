/-
  What is proved here: how a paragraph that is handed in looks, with the bounds of its texts.
-/
import Derived.Test.YthcphnifnfnceaaGreatDoorG25
namespace Go.Proofs.YthcphnifnfnceaaGreatDoor
open Go.ChangeShapes Go.WideShapes Go.ChangeAt Go.RowKit
set_option maxRecDepth 100000

structure Bst where
 one : ByteArray
 le : one.size ≤ 9223372036854775807
theorem str_at2 {H : Type} {enc : TypeId × Value → H} {W : World} {spare : Nat → Bool} {n : Nat} {cs : List Value} {x : DataW H × List MemPlace}
  (ht : DataW.trod enc Tryz.prog W 0 spare true n 9 cs = some x) : ∃ q : Bst,cs = [.string q.one] := by
 obtain ⟨q,e,_,h⟩ := DataW.trod_string Tryz.underlying9 ht
 exact ⟨⟨q,by unfold maxLen at h; omega⟩,e⟩
theorem strs_of_rec2 {W : World} {v : Value} {qs : List Bst} (h : RecAt 1 (fun t => [Value.string t.one]) W v qs) : StrsAt W v (qs.map (·.one)) := by
 have hle := h.le
 obtain ⟨a,cap,rfl,h2⟩ := h.ex
 refine ⟨⟨a,cap,by rw [List.length_map],?_⟩,hle⟩
 rcases h2 with h2 | ⟨b,o,rfl,hb,hc⟩
 ·exact .inl (by rw [h2]; rfl)
 ·refine .inr ⟨b,o,rfl,hb,fun i hi => ?_⟩
  have hi' : i < qs.length := by simpa using hi
  have := hc i hi' 0 _ rfl
  rw [List.getElem_map]
  simpa using this

theorem pa_at2 {H : Type} {enc : TypeId × Value → H} {W : World} {spare : Nat → Bool} {n : Nat} {cs : List Value} {x : DataW H × List MemPlace}
  (hl : cs.length = 21) (ht : DataW.trod enc Tryz.prog W 0 spare true n 27 cs = some x) : ∃ a : Pa,cs = (paC a).toList ∧ PaAt W a ∧ a.lb.size ≤ 9223372036854775807 ∧ ∀ i (h : i < a.ms.length),(a.ms[i]).size ≤ 9223372036854775807 := by
 obtain ⟨xs,m,_,_,_,hxl,hf⟩ := DataW.trod_struct Tryz.underlying27 ht
 have c9 : Tryz.prog.cellsOf 9 = 1 := by kernel_rfl
 have c29 : Tryz.prog.cellsOf 22 = 1 := by kernel_rfl
 have c31 : Tryz.prog.cellsOf 24 = 17 := by kernel_rfl
 have c32 : Tryz.prog.cellsOf 25 = 1 := by kernel_rfl
 have f0 : DataW.trod enc Tryz.prog W 0 spare true m 9 ((cs.drop 0).take (Tryz.prog.cellsOf 9)) = xs[0]? := hf 0 _ rfl
 have f1 : DataW.trod enc Tryz.prog W 0 spare true m 22 ((cs.drop 1).take (Tryz.prog.cellsOf 22)) = xs[1]? := hf 1 _ rfl
 have f2 : DataW.trod enc Tryz.prog W 0 spare true m 24 ((cs.drop 2).take (Tryz.prog.cellsOf 24)) = xs[2]? := hf 2 _ rfl
 have f3 : DataW.trod enc Tryz.prog W 0 spare true m 9 ((cs.drop 19).take (Tryz.prog.cellsOf 9)) = xs[3]? := hf 3 _ rfl
 have f4 : DataW.trod enc Tryz.prog W 0 spare true m 25 ((cs.drop 20).take (Tryz.prog.cellsOf 25)) = xs[4]? := hf 4 _ rfl
 simp only [c9,c29,c31,c32] at f0 f1 f2 f3 f4
 have hsz : xs.length = 5 := hxl
 obtain ⟨y0,y1,y2,y3,y4,rfl⟩ : ∃ y0 y1 y2 y3 y4,xs = [y0,y1,y2,y3,y4] := by
  match xs,hsz with
  | [y0,y1,y2,y3,y4],_ => exact ⟨_,_,_,_,_,rfl⟩
 obtain ⟨z0,z1,z2,z3,z4,z5,z6,z7,z8,z9,z10,z11,z12,z13,z14,z15,z16,z17,z18,z19,z20,rfl⟩ : ∃ z0 z1 z2 z3 z4 z5 z6 z7 z8 z9 z10 z11 z12 z13 z14 z15 z16 z17 z18 z19 z20,cs = [z0,z1,z2,z3,z4,z5,z6,z7,z8,z9,z10,z11,z12,z13,z14,z15,z16,z17,z18,z19,z20] := by
  match cs,hl with
  | [z0,z1,z2,z3,z4,z5,z6,z7,z8,z9,z10,z11,z12,z13,z14,z15,z16,z17,z18,z19,z20],_ => exact ⟨_,_,_,_,_,_,_,_,_,_,_,_,_,_,_,_,_,_,_,_,_,rfl⟩
 obtain ⟨t,e0⟩ := str_at (show DataW.trod enc Tryz.prog W 0 spare true m 9 [z0] = some y0 from f0)
 obtain ⟨⟨lb,hlb⟩,e3⟩ := str_at2 (show DataW.trod enc Tryz.prog W 0 spare true m 9 [z19] = some y3 from f3)
 obtain ⟨p,e2⟩ := pr_at rfl (show DataW.trod enc Tryz.prog W 0 spare true m 24 [z2,z3,z4,z5,z6,z7,z8,z9,z10,z11,z12,z13,z14,z15,z16,z17,z18] = some y2 from f2)
 obtain ⟨sv,sp,e1,hS,hl1,_⟩ := recs_in (α := Sp) (k := 4) (f := spL) Tryz.underlying22 (by kernel_rfl) (by decide) (fun _ _ _ h1 h2 => sp_at h1 h2) (show DataW.trod enc Tryz.prog W 0 spare true m 22 [z1] = some y1 from f1)
 obtain ⟨mv,ms,e4,hM,hl2,_⟩ := recs_in (α := Bst) (k := 1) (f := fun t => [Value.string t.one]) Tryz.underlying25 c9 (by decide) (fun _ _ _ _ h2 => str_at2 h2) (show DataW.trod enc Tryz.prog W 0 spare true m 25 [z20] = some y4 from f4)
 simp [prL] at e0 e1 e2 e3 e4
 obtain ⟨rfl,rfl,rfl,rfl,rfl,rfl,rfl,rfl,rfl,rfl,rfl,rfl,rfl,rfl,rfl,rfl,rfl⟩ := e2
 subst e0 e1 e3 e4
 exact ⟨⟨t,z1,p,lb,z20,sp,ms.map (·.one)⟩,rfl,⟨hS,strs_of_rec2 hM,hl1,by simpa using hl2⟩,hlb,fun i h => by rw [List.getElem_map]; exact (ms[i]'(by simpa using h)).le⟩

theorem open_para2 {H : Type} {enc : TypeId × Value → H} {W : World} {v : Value} {d : DataW H} {ps : List MemPlace} {base : Nat} (hok : Value.okWide Tryz.prog W .any base 27 v)
  (h : DataW.Trod enc Tryz.prog W 0 (fun _ => true) true 27 v d ps) : ∃ a : Pa,v = paV a ∧ PaAt W a ∧ a.lb.size ≤ 9223372036854775807 ∧ ∀ i (h : i < a.ms.length),(a.ms[i]).size ≤ 9223372036854775807 := by
 obtain ⟨cs,rfl,hsz⟩ := okWide_struct Tryz.underlying27 hok
 obtain ⟨fuel,hf⟩ := h
 have c34 : Tryz.prog.cellsOf 27 = 21 := by kernel_rfl
 obtain ⟨a,hs,hA,hlb,hms⟩ := pa_at2 (cs := cs.toList) (by rw [c34] at hsz; simpa using hsz) hf
 refine ⟨a,?_,hA,hlb,hms⟩
 unfold paV; rw [Array.toList_inj.1 hs]
end Go.Proofs.YthcphnifnfnceaaGreatDoor
