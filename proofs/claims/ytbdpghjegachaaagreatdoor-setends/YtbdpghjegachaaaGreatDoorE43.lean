/-
  What is proved here: that the listed table of blanks lies in memory as the library's contracts ask.
  What is proved here: how a paragraph that is handed in looks, with the bounds of its texts.
  What is proved here: how a line that is handed in looks.
-/
import Derived.Test.YtbdpghjegachaaaGreatDoorE42
import Derived.Test.YtbdpghjegachaaaGreatDoorE19
import Derived.Lib.LaidU8
import Derived.Test.YtbdpghjegachaaaGreatDoorE39
import Derived.Test.YtbdpghjegachaaaGreatDoorE25
namespace Go.Proofs.YtbdpghjegachaaaGreatDoor
open Go.ChangeShapes Go.WideShapes Go.ChangeAt Go.RowKit

theorem gS : ∃ g,Tryz.prog.globalNamed "strings.asciiSpace" = some g ∧ (Tryz.prog.globals[g]?).map (·.type) = some 213 := ⟨1,by kernel_rfl,by kernel_rfl⟩
theorem space_is : (Rows.laid_strings_asciiSpace : DataW Unit) = Lib.tabData .u8 Lib.asciiSpaceTab := by kernel_rfl

theorem tab_of {W : World} (h : laidMetH Tryz.prog laidL W) : Hy.Tab W := by
 rw [MakeChecks.laidMetH_plain _ _ _ (by kernel_rfl)] at h
 obtain ⟨g,t,cs,fuel,p,hg,ht,hv,hd⟩ := Lib.laidMet.reads h (.tail _ (.tail _ (.head _)))
 obtain ⟨g0,hg0,ht0⟩ := gS
 obtain rfl := Option.some.inj (hg0.symm.trans hg)
 obtain rfl := Option.some.inj (ht0.symm.trans ht)
 rw [space_is] at hd
 have hc := Lib.cells_of_tab Tryz.underlying213 Tryz.underlying5 (by kernel_rfl) (by kernel_rfl) hd
 refine ⟨?_⟩
 unfold Lib.TabIs
 rw [hv,← hc]
end Go.Proofs.YtbdpghjegachaaaGreatDoor

namespace Go.Proofs.YtbdpghjegachaaaGreatDoor
open Go.ChangeShapes Go.WideShapes Go.ChangeAt Go.RowKit
set_option maxRecDepth 100000

structure Bst where
 one : ByteArray
 le : one.size ≤ 9223372036854775807
theorem str_at2 {H : Type} {enc : TypeId × Value → H} {W : World} {spare : Nat → Bool} {n : Nat} {cs : List Value} {x : DataW H × List MemPlace}
  (ht : DataW.trod enc Tryz.prog W 0 spare true n 9 cs = some x) : ∃ q : Bst,cs = [.string q.one] := by
 obtain ⟨q,e,_,h⟩ := DataW.trod_string Tryz.underlying9 ht
 exact ⟨⟨q,by unfold maxLen at h; omega⟩,e⟩
theorem strs_of_rec2 {W : World} {v : Value} {qs : List Bst} (h : RecAt 1 (fun t => [Value.string t.one]) W v qs) : StrsAt W v (qs.map (·.one)) := by
 have hle := h.le
 obtain ⟨a,cap,rfl,h2⟩ := h.ex
 refine ⟨⟨a,cap,by rw [List.length_map],?_⟩,hle⟩
 rcases h2 with h2 | ⟨b,o,rfl,hb,hc⟩
 ·exact .inl (by rw [h2]; rfl)
 ·refine .inr ⟨b,o,rfl,hb,fun i hi => ?_⟩
  have hi' : i < qs.length := by simpa using hi
  have := hc i hi' 0 _ rfl
  rw [List.getElem_map]
  simpa using this

theorem pa_at2 {H : Type} {enc : TypeId × Value → H} {W : World} {spare : Nat → Bool} {n : Nat} {cs : List Value} {x : DataW H × List MemPlace}
  (hl : cs.length = 21) (ht : DataW.trod enc Tryz.prog W 0 spare true n 27 cs = some x) : ∃ a : Pa,cs = (paC a).toList ∧ PaAt W a ∧ a.lb.size ≤ 9223372036854775807 ∧ ∀ i (h : i < a.ms.length),(a.ms[i]).size ≤ 9223372036854775807 := by
 obtain ⟨xs,m,_,_,_,hxl,hf⟩ := DataW.trod_struct Tryz.underlying27 ht
 have c9 : Tryz.prog.cellsOf 9 = 1 := by kernel_rfl
 have c29 : Tryz.prog.cellsOf 22 = 1 := by kernel_rfl
 have c31 : Tryz.prog.cellsOf 24 = 17 := by kernel_rfl
 have c32 : Tryz.prog.cellsOf 25 = 1 := by kernel_rfl
 have f0 : DataW.trod enc Tryz.prog W 0 spare true m 9 ((cs.drop 0).take (Tryz.prog.cellsOf 9)) = xs[0]? := hf 0 _ rfl
 have f1 : DataW.trod enc Tryz.prog W 0 spare true m 22 ((cs.drop 1).take (Tryz.prog.cellsOf 22)) = xs[1]? := hf 1 _ rfl
 have f2 : DataW.trod enc Tryz.prog W 0 spare true m 24 ((cs.drop 2).take (Tryz.prog.cellsOf 24)) = xs[2]? := hf 2 _ rfl
 have f3 : DataW.trod enc Tryz.prog W 0 spare true m 9 ((cs.drop 19).take (Tryz.prog.cellsOf 9)) = xs[3]? := hf 3 _ rfl
 have f4 : DataW.trod enc Tryz.prog W 0 spare true m 25 ((cs.drop 20).take (Tryz.prog.cellsOf 25)) = xs[4]? := hf 4 _ rfl
 simp only [c9,c29,c31,c32] at f0 f1 f2 f3 f4
 have hsz : xs.length = 5 := hxl
 obtain ⟨y0,y1,y2,y3,y4,rfl⟩ : ∃ y0 y1 y2 y3 y4,xs = [y0,y1,y2,y3,y4] := by
  match xs,hsz with
  | [y0,y1,y2,y3,y4],_ => exact ⟨_,_,_,_,_,rfl⟩
 obtain ⟨z0,z1,z2,z3,z4,z5,z6,z7,z8,z9,z10,z11,z12,z13,z14,z15,z16,z17,z18,z19,z20,rfl⟩ : ∃ z0 z1 z2 z3 z4 z5 z6 z7 z8 z9 z10 z11 z12 z13 z14 z15 z16 z17 z18 z19 z20,cs = [z0,z1,z2,z3,z4,z5,z6,z7,z8,z9,z10,z11,z12,z13,z14,z15,z16,z17,z18,z19,z20] := by
  match cs,hl with
  | [z0,z1,z2,z3,z4,z5,z6,z7,z8,z9,z10,z11,z12,z13,z14,z15,z16,z17,z18,z19,z20],_ => exact ⟨_,_,_,_,_,_,_,_,_,_,_,_,_,_,_,_,_,_,_,_,_,rfl⟩
 obtain ⟨t,e0⟩ := str_at (show DataW.trod enc Tryz.prog W 0 spare true m 9 [z0] = some y0 from f0)
 obtain ⟨⟨lb,hlb⟩,e3⟩ := str_at2 (show DataW.trod enc Tryz.prog W 0 spare true m 9 [z19] = some y3 from f3)
 obtain ⟨p,e2⟩ := pr_at rfl (show DataW.trod enc Tryz.prog W 0 spare true m 24 [z2,z3,z4,z5,z6,z7,z8,z9,z10,z11,z12,z13,z14,z15,z16,z17,z18] = some y2 from f2)
 obtain ⟨sv,sp,e1,hS,hl1,_⟩ := recs_in (α := Sp) (k := 4) (f := spL) Tryz.underlying22 (by kernel_rfl) (by decide) (fun _ _ _ h1 h2 => sp_at h1 h2) (show DataW.trod enc Tryz.prog W 0 spare true m 22 [z1] = some y1 from f1)
 obtain ⟨mv,ms,e4,hM,hl2,_⟩ := recs_in (α := Bst) (k := 1) (f := fun t => [Value.string t.one]) Tryz.underlying25 c9 (by decide) (fun _ _ _ _ h2 => str_at2 h2) (show DataW.trod enc Tryz.prog W 0 spare true m 25 [z20] = some y4 from f4)
 simp [prL] at e0 e1 e2 e3 e4
 obtain ⟨rfl,rfl,rfl,rfl,rfl,rfl,rfl,rfl,rfl,rfl,rfl,rfl,rfl,rfl,rfl,rfl,rfl⟩ := e2
 subst e0 e1 e3 e4
 exact ⟨⟨t,z1,p,lb,z20,sp,ms.map (·.one)⟩,rfl,⟨hS,strs_of_rec2 hM,hl1,by simpa using hl2⟩,hlb,fun i h => by rw [List.getElem_map]; exact (ms[i]'(by simpa using h)).le⟩

theorem open_para2 {H : Type} {enc : TypeId × Value → H} {W : World} {v : Value} {d : DataW H} {ps : List MemPlace} {base : Nat} (hok : Value.okWide Tryz.prog W .any base 27 v)
  (h : DataW.Trod enc Tryz.prog W 0 (fun _ => true) true 27 v d ps) : ∃ a : Pa,v = paV a ∧ PaAt W a ∧ a.lb.size ≤ 9223372036854775807 ∧ ∀ i (h : i < a.ms.length),(a.ms[i]).size ≤ 9223372036854775807 := by
 obtain ⟨cs,rfl,hsz⟩ := okWide_struct Tryz.underlying27 hok
 obtain ⟨fuel,hf⟩ := h
 have c34 : Tryz.prog.cellsOf 27 = 21 := by kernel_rfl
 obtain ⟨a,hs,hA,hlb,hms⟩ := pa_at2 (cs := cs.toList) (by rw [c34] at hsz; simpa using hsz) hf
 refine ⟨a,?_,hA,hlb,hms⟩
 unfold paV; rw [Array.toList_inj.1 hs]
end Go.Proofs.YtbdpghjegachaaaGreatDoor

namespace Go.Proofs.YtbdpghjegachaaaGreatDoor
open Go.ChangeShapes Go.WideShapes Go.ChangeAt Go.RowKit
set_option maxRecDepth 100000

theorem ln_at {H : Type} {enc : TypeId × Value → H} {W : World} {spare : Nat → Bool} {held : Bool} {n : Nat} {cs : List Value} {x : DataW H × List MemPlace}
  (hl : cs.length = 7) (ht : DataW.trod enc Tryz.prog W 0 spare held n 29 cs = some x) : ∃ q : Ln,cs = (lnC q).toList := by
 obtain ⟨xs,m,_,_,_,hxl,hf⟩ := DataW.trod_struct Tryz.underlying29 ht
 have c3 : Tryz.prog.cellsOf 3 = 1 := by kernel_rfl
 have c4 : Tryz.prog.cellsOf 4 = 1 := by kernel_rfl
 have f0 : DataW.trod enc Tryz.prog W 0 spare held m 3 ((cs.drop 0).take (Tryz.prog.cellsOf 3)) = xs[0]? := hf 0 _ rfl
 have f1 : DataW.trod enc Tryz.prog W 0 spare held m 3 ((cs.drop 1).take (Tryz.prog.cellsOf 3)) = xs[1]? := hf 1 _ rfl
 have f2 : DataW.trod enc Tryz.prog W 0 spare held m 3 ((cs.drop 2).take (Tryz.prog.cellsOf 3)) = xs[2]? := hf 2 _ rfl
 have f3 : DataW.trod enc Tryz.prog W 0 spare held m 3 ((cs.drop 3).take (Tryz.prog.cellsOf 3)) = xs[3]? := hf 3 _ rfl
 have f4 : DataW.trod enc Tryz.prog W 0 spare held m 3 ((cs.drop 4).take (Tryz.prog.cellsOf 3)) = xs[4]? := hf 4 _ rfl
 have f5 : DataW.trod enc Tryz.prog W 0 spare held m 4 ((cs.drop 5).take (Tryz.prog.cellsOf 4)) = xs[5]? := hf 5 _ rfl
 have f6 : DataW.trod enc Tryz.prog W 0 spare held m 3 ((cs.drop 6).take (Tryz.prog.cellsOf 3)) = xs[6]? := hf 6 _ rfl
 simp only [c3,c4] at f0 f1 f2 f3 f4 f5 f6
 have hsz : xs.length = 7 := hxl
 obtain ⟨y0,y1,y2,y3,y4,y5,y6,rfl⟩ : ∃ y0 y1 y2 y3 y4 y5 y6,xs = [y0,y1,y2,y3,y4,y5,y6] := by
  match xs,hsz with
  | [y0,y1,y2,y3,y4,y5,y6],_ => exact ⟨_,_,_,_,_,_,_,rfl⟩
 obtain ⟨z0,z1,z2,z3,z4,z5,z6,rfl⟩ : ∃ z0 z1 z2 z3 z4 z5 z6,cs = [z0,z1,z2,z3,z4,z5,z6] := by
  match cs,hl with
  | [z0,z1,z2,z3,z4,z5,z6],_ => exact ⟨_,_,_,_,_,_,_,rfl⟩
 obtain ⟨a0,e0,_,_⟩ := DataW.trod_int Tryz.underlying3 f0
 obtain ⟨a1,e1,_,_⟩ := DataW.trod_int Tryz.underlying3 f1
 obtain ⟨a2,e2,_,_⟩ := DataW.trod_int Tryz.underlying3 f2
 obtain ⟨a3,e3,_,_⟩ := DataW.trod_int Tryz.underlying3 f3
 obtain ⟨a4,e4,_,_⟩ := DataW.trod_int Tryz.underlying3 f4
 obtain ⟨a5,e5,_⟩ := DataW.trod_bool Tryz.underlying4 f5
 obtain ⟨a6,e6,_,_⟩ := DataW.trod_int Tryz.underlying3 f6
 simp at e0 e1 e2 e3 e4 e5 e6
 subst e0 e1 e2 e3 e4 e5 e6
 exact ⟨⟨a0,a1,a2,a3,a4,a5,a6⟩,rfl⟩
theorem open_line {H : Type} {enc : TypeId × Value → H} {W : World} {v : Value} {d : DataW H} {ps : List MemPlace} {base : Nat} (hok : Value.okWide Tryz.prog W .any base 29 v)
  (h : DataW.Trod enc Tryz.prog W 0 (fun _ => true) true 29 v d ps) : ∃ a : Ln,v = .agg (lnC a) := by
 obtain ⟨cs,rfl,hsz⟩ := okWide_struct Tryz.underlying29 hok
 obtain ⟨fuel,hf⟩ := h
 have c34 : Tryz.prog.cellsOf 29 = 7 := by kernel_rfl
 obtain ⟨a,hs⟩ := ln_at (cs := cs.toList) (by rw [c34] at hsz; simpa using hsz) hf
 refine ⟨a,?_⟩
 rw [Array.toList_inj.1 hs]
end Go.Proofs.YtbdpghjegachaaaGreatDoor
