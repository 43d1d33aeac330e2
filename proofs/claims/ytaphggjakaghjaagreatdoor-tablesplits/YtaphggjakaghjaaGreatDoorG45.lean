/-
  What is proved here: how lists of masses and paragraphs that are handed in look.
  What is proved here: how a table that is handed in looks.
-/
import Derived.Test.YtaphggjakaghjaaGreatDoorRows
import Derived.Shelf.Abstract
import Derived.WalkKit
import Derived.WalkSpells
import Derived.LoopN
import Derived.Test.YtaphggjakaghjaaGreatDoorG2
import Derived.Lib.Bytealg
import Derived.Test.YtaphggjakaghjaaGreatDoorG6
import Derived.OrdersHeld
import Derived.BigQuiet
import Derived.RangeFuncNested
import Derived.Deep.Draws
import Derived.OwnWalkIn
import Derived.RangeFuncBox
import Derived.Lib.AppendStr
import Derived.RangeFuncBound
import Derived.RangeFuncCalls
import Derived.RangeFuncLeaves
import Derived.Shelf.RegionOpen
import Derived.TacticsInMore
import Derived.LoopNIn
import Derived.LoopIn
import Derived.Lib.Builder
import Derived.Maps.AppendAt
import Derived.BigRegion
import Derived.Deep.QuietTactic
import Derived.ProofKit
import Derived.OpenShut
import Derived.ChangeOld
import Derived.Below
import Derived.Deep.Slices
import Derived.SizedLaws
namespace Go.Proofs.YtaphggjakaghjaaGreatDoor
open Go.ChangeShapes Go.WideShapes Go.ChangeAt Go.RowKit

theorem laidOut : laidOutB Tryz.prog = true := by kernel_rfl

theorem recs_in {H : Type} {enc : TypeId × Value → H} {W : World} {spare : Nat → Bool} {fuel : Nat} {cs : List Value} {x : DataW H × List MemPlace} {α : Type} {k : Nat} {f : α → List Value} {ty e : TypeId} (hu : Tryz.prog.underlying ty = some (.slice e)) (ck : Tryz.prog.cellsOf e = k) (hk : 0 < k)
  (hat : ∀ (n : Nat) (cs : List Value) (x : DataW H × List MemPlace),cs.length = k → DataW.trod enc Tryz.prog W 0 spare true n e cs = some x → ∃ q : α,cs = f q)
  (hf : DataW.trod enc Tryz.prog W 0 spare true fuel ty cs = some x) : ∃ (v : Value) (qs : List α),cs = [v] ∧ RecAt k f W v qs ∧ qs.length ≤ 9223372036854775807 ∧ ((x.1 = .nil ∧ qs = []) ∨ ∃ es sp,x.1 = .slice es sp ∧ es.length = qs.length) := by
 rcases Deep.open_slice hu hf with ⟨hcs,hx0⟩ | ⟨a,len,cap,m,n,D,Pl,hcs,_,hl,hm,hmm,hx1,hx⟩
 ·subst hcs
  exact ⟨_,[],rfl,⟨⟨none,0,rfl,.inl rfl⟩,fun a n c e => by cases e; exact Nat.le_refl _⟩,by simp,.inl ⟨by rw [hx0],rfl⟩⟩
 ·subst hcs
  have hlm : len ≤ m := by rw [hmm]; split <;> omega
  rw [ck] at hx
  have hdat : ∃ es sp,x.1 = .slice es sp ∧ es.length = len := by rw [hx1]; exact ⟨_,_,rfl,by simp⟩
  obtain ⟨es,sp,hes,hel⟩ := hdat
  by_cases h0 : len = 0
  ·subst h0
   exact ⟨_,[],rfl,⟨⟨_,_,rfl,.inl rfl⟩,fun a n c e => by cases e; exact hl⟩,by simp,.inr ⟨es,sp,hes,by simpa using hel⟩⟩
  ·obtain ⟨b,off,spot⟩ := a
   obtain ⟨cs',hc0,ht0⟩ := hx 0 (by omega)
   have hb := World.cells?_block hc0 (by omega)
   obtain ⟨_,hl0,hce⟩ := World.cells?_some hc0
   have hg := hce 0 (by omega)
   have hspot : spot = none := by
    match cs',hl0 with
    | z :: _,_ => simpa [Addr.add] using World.cell?_spot hg
    | [],h => simp at h; omega
   subst hspot
   rw [addr_add] at hb
   have hq : ∀ i : Fin len,∃ q : α,∀ j u,(f q)[j]? = some u → W.cell? ⟨b,off + i * k + j,none⟩ = some u := fun i => by
    obtain ⟨cs',hc1,ht1⟩ := hx i (by omega)
    rw [addr_add] at hc1
    obtain ⟨_,hl1,hce1⟩ := World.cells?_some hc1
    obtain ⟨q,rfl⟩ := hat _ _ _ hl1 ht1
    refine ⟨q,fun j u hu => ?_⟩
    have hj : j < (f q).length := (List.getElem?_eq_some_iff.1 hu).1
    have := hce1 j (by omega)
    rw [addr_add] at this
    exact this.trans hu
   refine ⟨_,List.ofFn (fun i => Classical.choose (hq i)),rfl,⟨⟨_,_,by simp; exact rfl,.inr ⟨b,off,rfl,hb,fun i hi j u hu => ?_⟩⟩,fun a n c e => by cases e; exact hl⟩,by simp; unfold maxLen at hm; omega,.inr ⟨es,sp,hes,by simpa using hel⟩⟩
   have hi' : i < len := by simpa using hi
   have := Classical.choose_spec (hq ⟨i,hi'⟩) j u (by simpa using hu)
   simpa using this
end Go.Proofs.YtaphggjakaghjaaGreatDoor

namespace Go.Proofs.YtaphggjakaghjaaGreatDoor
open Go.ChangeShapes Go.WideShapes Go.ChangeAt Go.RowKit
set_option maxRecDepth 100000

structure Bst where
 one : ByteArray
 le : one.size ≤ 9223372036854775807
theorem str_at2 {H : Type} {enc : TypeId × Value → H} {W : World} {spare : Nat → Bool} {n : Nat} {cs : List Value} {x : DataW H × List MemPlace}
  (ht : DataW.trod enc Tryz.prog W 0 spare true n 9 cs = some x) : ∃ q : Bst,cs = [.string q.one] := by
 obtain ⟨q,e,_,h⟩ := DataW.trod_string Tryz.underlying9 ht
 exact ⟨⟨q,by unfold maxLen at h; omega⟩,e⟩
theorem strs_of_rec2 {W : World} {v : Value} {qs : List Bst} (h : RecAt 1 (fun t => [Value.string t.one]) W v qs) : StrsAt W v (qs.map (·.one)) := by
 have hle := h.le
 obtain ⟨a,cap,rfl,h2⟩ := h.ex
 refine ⟨⟨a,cap,by rw [List.length_map],?_⟩,hle⟩
 rcases h2 with h2 | ⟨b,o,rfl,hb,hc⟩
 ·exact .inl (by rw [h2]; rfl)
 ·refine .inr ⟨b,o,rfl,hb,fun i hi => ?_⟩
  have hi' : i < qs.length := by simpa using hi
  have := hc i hi' 0 _ rfl
  rw [List.getElem_map]
  simpa using this
theorem table_at {H : Type} {enc : TypeId × Value → H} {W : World} {spare : Nat → Bool} {n : Nat} {cs : List Value} {x : DataW H × List MemPlace}
  (hl : cs.length = 2) (ht : DataW.trod enc Tryz.prog W 0 spare true n 24 cs = some x) : ∃ (c : Int) (v : Value) (l : List ByteArray),cs = [.int .i64 c,v] ∧ StrsAt W v l ∧ l.length ≤ 9223372036854775807 ∧ ∀ t ∈ l,t.size ≤ 9223372036854775807 := by
 obtain ⟨xs,m,_,_,_,hxl,hf⟩ := DataW.trod_struct Tryz.underlying24 ht
 have c3 : Tryz.prog.cellsOf 3 = 1 := by kernel_rfl
 have c22 : Tryz.prog.cellsOf 22 = 1 := by kernel_rfl
 have c9 : Tryz.prog.cellsOf 9 = 1 := by kernel_rfl
 have f0 : DataW.trod enc Tryz.prog W 0 spare true m 3 ((cs.drop 0).take (Tryz.prog.cellsOf 3)) = xs[0]? := hf 0 _ rfl
 have f1 : DataW.trod enc Tryz.prog W 0 spare true m 22 ((cs.drop 1).take (Tryz.prog.cellsOf 22)) = xs[1]? := hf 1 _ rfl
 simp only [c3,c22] at f0 f1
 have hsz : xs.length = 2 := hxl
 obtain ⟨y0,y1,rfl⟩ : ∃ y0 y1,xs = [y0,y1] := by
  match xs,hsz with
  | [y0,y1],_ => exact ⟨_,_,rfl⟩
 obtain ⟨z0,z1,rfl⟩ : ∃ z0 z1,cs = [z0,z1] := by
  match cs,hl with
  | [z0,z1],_ => exact ⟨_,_,rfl⟩
 obtain ⟨a0,e0,_,_⟩ := DataW.trod_int Tryz.underlying3 f0
 obtain ⟨v,qs,e1,hS,hl1,_⟩ := recs_in (α := Bst) (k := 1) (f := fun t => [Value.string t.one]) Tryz.underlying22 c9 (by decide) (fun _ _ _ _ h2 => str_at2 h2) (show DataW.trod enc Tryz.prog W 0 spare true m 22 [z1] = some y1 from f1)
 simp at e0 e1
 subst e0 e1
 exact ⟨a0,z1,qs.map (·.one),rfl,strs_of_rec2 hS,by simpa using hl1,fun t ht => by
  obtain ⟨q,_,rfl⟩ := List.mem_map.1 ht
  exact q.le⟩
theorem open_table {H : Type} {enc : TypeId × Value → H} {W : World} {v : Value} {d : DataW H} {ps : List MemPlace} {base : Nat} (hok : Value.okWide Tryz.prog W .any base 24 v)
  (h : DataW.Trod enc Tryz.prog W 0 (fun _ => true) true 24 v d ps) : ∃ (c : Int) (u : Value) (l : List ByteArray),v = .agg #[.int .i64 c,u] ∧ StrsAt W u l ∧ l.length ≤ 9223372036854775807 ∧ ∀ t ∈ l,t.size ≤ 9223372036854775807 := by
 obtain ⟨cs,rfl,hsz⟩ := okWide_struct Tryz.underlying24 hok
 obtain ⟨fuel,hf⟩ := h
 have c24 : Tryz.prog.cellsOf 24 = 2 := by kernel_rfl
 obtain ⟨c,u,l,hs,h1,h2,h3⟩ := table_at (cs := cs.toList) (by rw [c24] at hsz; simpa using hsz) hf
 refine ⟨c,u,l,?_,h1,h2,h3⟩
 have : cs = #[.int .i64 c,u] := Array.toList_inj.1 hs
 rw [this]
end Go.Proofs.YtaphggjakaghjaaGreatDoor
