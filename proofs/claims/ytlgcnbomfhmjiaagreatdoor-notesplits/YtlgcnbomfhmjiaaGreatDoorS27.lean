/-
  What is proved here: item's iterator goes through the items of a paragraph's masses, one round an item.
  What is proved here: what lay of digits does.
  What is proved here: which places within words part of item marks.
-/
import Derived.Test.YtlgcnbomfhmjiaaGreatDoorS26
import Derived.Test.YtlgcnbomfhmjiaaGreatDoorRows
import Derived.RangeFuncNested
import Derived.Test.YtlgcnbomfhmjiaaGreatDoorS1
import Derived.BigQuiet
import Derived.Handy
import Derived.Maps.OwnSet
import Derived.Test.YtlgcnbomfhmjiaaGreatDoorProg
import Derived.RangeFuncBound
import Derived.RangeFuncCalls
import Derived.RangeFuncLeaves
import Derived.Shelf.Abstract
import Derived.Shelf.RegionOpen
import Derived.OwnWalkIn
import Derived.TacticsInMore
import Derived.LoopNIn
import Derived.LoopIn
import Derived.Lib.Builder
import Derived.Laws.IdiomStrings
namespace Go.Proofs.YtlgcnbomfhmjiaaGreatDoor
open Go.RowKit Go.Shelf
set_option maxRecDepth 100000
set_option maxHeartbeats 2000000
attribute [local go_sem] Oper.semAt_some wide_fn wide_depth

theorem open_any (k Y Bo : Nat) (W : World) : Calls Tryz.prog 130 #[.int .i64 (k : Nat),.pointer (some ⟨Y,0,none⟩),.pointer (some ⟨Bo,0,none⟩)] W fun e W' => e = .returned (.func (.func 131) #[] #[.pointer (some ⟨W.heap.size,0,none⟩),.pointer (some ⟨Y,0,none⟩),.pointer (some ⟨Bo,0,none⟩)]) ∧ W' = W.alloc (.cells #[.int .i64 (k : Nat)] 3) := by
 go_enter Tryz.func130,Tryz.ntmps130
 go_wp2
 go_ret
 exact ⟨rfl,rfl⟩
theorem items_any (b : Bod) (W : World) : Calls Tryz.prog 85 #[.agg (bodC b)] W fun e W' => e = .returned (.func (.func 129) #[] #[.pointer (some ⟨W.heap.size,0,none⟩)]) ∧ W' = W.alloc (.cells (bodC b) 133) := by
 unfold bodC
 go_enter Tryz.func85,Tryz.ntmps85
 go_wp2
 go_ret
 exact ⟨rfl,rfl⟩

structure RdI (Bo : Nat) (b : Bod) (W : World) : Prop where
 box : BoX W Bo b
 at' : BodAt W b
def encI (b : Bod) (i : Nat) : Array Value := #[.agg (itC (itAt (itsL b.t b.l b.pd) i))]
abbrev NI (b : Bod) : Nat := (itsL b.t b.l b.pd).length

theorem turns_all {X : Nat → Prop} {W W' : World} (h : Below W.heap.size W W') : Turns X W W' := (Turns.of_below h).mono (fun _ h => h.elim)
theorem keeps_all {X : Nat → Prop} {W W' : World} (h : Below W.heap.size W W') : Keeps X W W' := Keeps.of_turns (Turns.of_below h) (fun _ _ h => h)

theorem shut_step {J Jx : Nat → (Nat → Prop) → World → Prop} {b : Bod} {Bo l : Nat} (hJ : Steady J) (hRd : ∀ i X W,J i X W → RdI Bo b W)
  (hYd : ∀ (i : Nat) (X : Nat → Prop) (W1 : World),i < NI b → J i X W1 → YieldAt Fence.wide 0 Tryz.prog l (encI b i) W1 fun e W' => Keeps X W1 W' ∧ ((e = .returned (.bool true) ∧ J (i + 1) X W') ∨ (e = .returned (.bool false) ∧ Jx i X W')))
  {c F Y f k : Nat} {X : Nat → Prop} {W : World} (hj : J c X W) (hF : W.heap[F]? = some (.cells #[.int .i64 (f : Nat)] 3 (0,0))) (hY : W.heap[Y]? = some (.cells #[.func (.yield l) #[] #[]] 138 (0,0)))
  (hfk : f ≤ k) (hk : k ≤ b.l.length) (hat : f < k → itAt (itsL b.t b.l b.pd) c = boxI (runL b.l f k) ∧ c < NI b) :
  CallsIn Fence.wide 0 Tryz.prog 131 #[.int .i64 (k : Nat),.pointer (some ⟨F,0,none⟩),.pointer (some ⟨Y,0,none⟩),.pointer (some ⟨Bo,0,none⟩)] W fun e W' =>
   Keeps X W W' ∧ ((e = .returned (.bool true) ∧ J (c + (bxL b.l f k).length) X W') ∨ (e = .returned (.bool false) ∧ ∃ i,i < NI b ∧ Jx i X W')) := by
 have cF : W.cell? ⟨F,0,none⟩ = some (.int .i64 (f : Nat)) := by rw [Lib.cell_of_heap hF]; rfl
 have cY : W.cell? ⟨Y,0,none⟩ = some (.func (.yield l) #[] #[]) := by rw [Lib.cell_of_heap hY]; rfl
 by_cases h : f < k
 ·obtain ⟨he,hc⟩ := hat h
  have hlen : (bxL b.l f k).length = 1 := by unfold bxL; rw [if_pos h]; rfl
  rw [hlen]
  have hr := hRd _ _ _ hj
  refine shut_more l F Y Bo f k b W h hk cF cY (Array.getElem?_eq_some_iff.1 hY).1 hr.box hr.at' _ (fun W1 hW1 => ?_) (fun e W' hq => ?_)
  ·have hj1 : J c X W1 := hJ _ _ _ _ _ hj (turns_all hW1) (fun _ h => .inl h)
   obtain ⟨fn,tmps,assign,body,hy,hR⟩ := hYd c X W1 hc hj1
   unfold encI at hy
   rw [he] at hy
   refine ⟨fn,tmps,assign,body,hy,hR.mono ?_⟩
   rintro e W' ⟨hk',(⟨rfl,h1⟩ | ⟨rfl,h1⟩)⟩
   ·exact ⟨(keeps_all hW1).trans hk',.inl ⟨rfl,h1⟩⟩
   ·exact ⟨(keeps_all hW1).trans hk',.inr ⟨rfl,c,hc,h1⟩⟩
  ·rcases hq with ⟨_,(⟨rfl,_⟩ | ⟨rfl,_⟩)⟩
   ·exact ⟨_,rfl⟩
   ·exact ⟨_,rfl⟩
 ·obtain rfl : f = k := by omega
  have hlen : (bxL b.l f f).length = 0 := by unfold bxL; rw [if_neg (by omega)]; rfl
  rw [hlen]
  refine (callsIn_wide.2 (shut_same F Y Bo f W cF)).mono ?_
  rintro e W' ⟨rfl,hb⟩
  exact ⟨keeps_all hb,.inl ⟨rfl,hJ _ _ _ _ _ hj (turns_all hb) (fun _ h => .inl h)⟩⟩

structure InI (J : Nat → (Nat → Prop) → World → Prop) (b : Bod) (l Y F k : Nat) (W : World) : Prop where
 j : J (ouL b.t b.l b.pd k).length (fun q => q = Y ∨ q = F) W
 y : W.heap[Y]? = some (.cells #[.func (.yield l) #[] #[]] 138 (0,0))
 f : W.heap[F]? = some (.cells #[.int .i64 (frN b.t b.l b.pd k : Nat)] 3 (0,0))

theorem items1_gives (Bo : Nat) (b : Bod) : Gives Tryz.prog 129 #[.pointer (some ⟨Bo,0,none⟩)] (NI b) (encI b) (RdI Bo b) := by
 intro l J Jx W hJ hJx hRd hYd h0
 have hr0 := hRd _ _ _ h0
 have hfew := hr0.at'.few
 obtain ⟨a,cap,hv,-⟩ := hr0.at'.ms.ex
 have hB1 := (Below.refl W.heap.size W).alloc (Nat.le_refl _) (.cells #[.func (.yield l) #[] #[]] 138)
 have hI0 : Hid (InI J b l W.heap.size (W.heap.size + 1) 0 ((W.alloc (.cells #[.func (.yield l) #[] #[]] 138)).alloc (.cells #[.int .i64 0] 3))) := by
  refine ⟨hJ _ _ _ _ _ h0 (turns_all (two_below W _ _)) (fun q hq => .inr ?_),?_,?_⟩
  ·have : ((W.alloc (.cells #[.func (.yield l) #[] #[]] 138)).alloc (.cells #[.int .i64 0] 3)).heap.size = W.heap.size + 2 := by simp
   rw [this]; omega
  ·exact (Below.heap_alloc _ _ _ (by simp)).trans (heap_new W _)
  ·have := heap_new (W.alloc (.cells #[.func (.yield l) #[] #[]] 138)) (.cells #[.int .i64 0] 3)
   rwa [World.size_alloc] at this
 have cM : ∀ W',RdI Bo b W' → W'.cell? ⟨Bo,0,none⟩ = some (.string b.t) ∧ W'.cell? ⟨Bo,1,none⟩ = some (.slice a b.l.length cap) ∧ W'.cell? ⟨Bo,2,none⟩ = some b.pv := fun W' h => by
  have := h.box.row
  exact ⟨by rw [Lib.cell_of_heap this]; rfl,by rw [Lib.cell_of_heap this,← hv]; rfl,by rw [Lib.cell_of_heap this]; rfl⟩
 have hcM : Hid (∀ W',RdI Bo b W' → W'.cell? ⟨Bo,0,none⟩ = some (.string b.t) ∧ W'.cell? ⟨Bo,1,none⟩ = some (.slice a b.l.length cap) ∧ W'.cell? ⟨Bo,2,none⟩ = some b.pv) := cM
 have hr1 := hRd _ _ _ hI0.out.j
 obtain ⟨c0,c1,c2⟩ := cM _ hr1
 have hop : ∀ (k : Nat) (W : World),Calls Tryz.prog 130 #[.int .i64 (k : Nat),.pointer (some ⟨W.heap.size,0,none⟩),.pointer (some ⟨Bo,0,none⟩)] W fun _ _ => True := fun _ _ => (open_any _ _ _ _).mono fun _ _ _ => trivial
 clear hop cM hr0 hr1 h0
 refine callsIn_wide (n := 0).1 ?_
 refine callsIn_of_wp Tryz.func129 rfl trivial ?_ rfl
 simp only [Tryz.ntmps129,List.size_toArray,List.length_cons,List.length_nil,Nat.reduceAdd,Nat.reduceSub,Array.replicate_succ,Array.replicate_zero,List.push_toArray,List.append_toArray,List.nil_append,List.cons_append]
 gi_wp2_with (gi_at_call 130; refine (callsIn_wide.2 (open_any 0 W.heap.size Bo _)).mono ?_; rintro e w' ⟨rfl,rfl⟩)
 gi_loopw [4,17] (fun s i wr => ∃ k F : Nat,k ≤ b.l.length ∧ i = .int .i64 k ∧ s = .func (.func 131) #[] #[.pointer (some ⟨F,0,none⟩),.pointer (some ⟨W.heap.size,0,none⟩),.pointer (some ⟨Bo,0,none⟩)] ∧ Hid (InI J b l W.heap.size F k wr)) (fun _ i _ => b.l.length - (intOf i).toNat)
 case atStart => exact ⟨0,W.heap.size + 1,by omega,rfl,rfl,hI0⟩
 case round =>
  obtain ⟨k,F,hk,rfl,rfl,hin⟩ := hrel
  clear hI0 c0 c1 c2 hB1
  have hrd := hRd _ _ _ hin.out.j
  by_cases hlt : k < b.l.length
  ·have hlt' : (k : Int) < b.l.length := by omega
   have hms := hrd.at'.ms
   rw [hv] at hms
   obtain ⟨g,o,rfl,hg,m0,m1,m2,m3,m4,m5⟩ := ms_cells hms hlt (Below.refl _ _)
   have hok := mOk_w (hrd.at'.fitAt hlt).ok
   have hal := alone_any (mAt b.l k) hok (wr.alloc (.cells (msC (mAt b.l k)) 107))
   have hB1 := (Below.refl wr.heap.size wr).alloc (Nat.le_refl _) (.cells (msC (mAt b.l k)) 107)
   obtain ⟨r,hr⟩ := its_step b.t b.l b.pd hlt
   have hsm1 : Hid (alB (mAt b.l k) = true → smL b.t b.l b.pd k = bxL b.l (frN b.t b.l b.pd k) k ++ [loneI (mAt b.l k)] ∧ frN b.t b.l b.pd (k + 1) = k + 1) := fun h => ⟨by unfold smL; rw [if_pos h],by show (if _ then _ else _) = _; rw [if_pos h]⟩
   have hsm2 : Hid (alB (mAt b.l k) = false → cuB b.t b.l b.pd k = true → smL b.t b.l b.pd k = bxL b.l (frN b.t b.l b.pd k) k ++ [cutI b.t b.l b.pd k] ∧ frN b.t b.l b.pd (k + 1) = k) := fun h h' => ⟨by unfold smL; rw [if_neg (by rw [h]; decide),if_pos h'],by show (if _ then _ else _) = _; rw [if_neg (by rw [h]; decide),if_pos h']⟩
   have hsm3 : Hid (alB (mAt b.l k) = false → cuB b.t b.l b.pd k = false → smL b.t b.l b.pd k = [] ∧ frN b.t b.l b.pd (k + 1) = frN b.t b.l b.pd k) := fun h h' => ⟨by unfold smL; rw [if_neg (by rw [h]; decide),if_neg (by rw [h']; decide)],by show (if _ then _ else _) = _; rw [if_neg (by rw [h]; decide),if_neg (by rw [h']; decide)]⟩
   have hbox0 : Hid (∀ y,smL b.t b.l b.pd k = bxL b.l (frN b.t b.l b.pd k) k ++ [y] → (frN b.t b.l b.pd k < k → itAt (itsL b.t b.l b.pd) (ouL b.t b.l b.pd k).length = boxI (runL b.l (frN b.t b.l b.pd k) k) ∧ (ouL b.t b.l b.pd k).length < NI b) ∧ (itAt (itsL b.t b.l b.pd) ((ouL b.t b.l b.pd k).length + (bxL b.l (frN b.t b.l b.pd k) k).length) = y ∧ ((ouL b.t b.l b.pd k).length + (bxL b.l (frN b.t b.l b.pd k) k).length) < NI b) ∧ (ouL b.t b.l b.pd (k + 1)).length = ((ouL b.t b.l b.pd k).length + (bxL b.l (frN b.t b.l b.pd k) k).length) + 1) := fun y hy => by
    refine ⟨fun h => ?_,?_,?_⟩
    ·have := app_at (a := ouL b.t b.l b.pd k) (b := smL b.t b.l b.pd k ++ r) (j := 0) (by rw [hy]; simp <;> omega)
     rw [← hr] at this
     refine ⟨this.1.trans ?_,this.2⟩
     rw [hy]
     unfold bxL
     rw [if_pos h]; rfl
    ·have := app_at (a := ouL b.t b.l b.pd k) (b := smL b.t b.l b.pd k ++ r) (j := (bxL b.l (frN b.t b.l b.pd k) k).length) (by rw [hy]; simp <;> omega)
     rw [← hr] at this
     refine ⟨this.1.trans ?_,this.2⟩
     rw [hy]
     unfold itAt
     rw [List.append_assoc,List.getD_eq_getElem?_getD,List.getElem?_append_right (Nat.le_refl _)]
     simp
    ·show (ouL b.t b.l b.pd k ++ smL b.t b.l b.pd k).length = _
     rw [hy]; simp; omega
   have hou3 : Hid (smL b.t b.l b.pd k = [] → (ouL b.t b.l b.pd (k + 1)).length = (ouL b.t b.l b.pd k).length) := fun h => by
    show (ouL b.t b.l b.pd k ++ smL b.t b.l b.pd k).length = _
    rw [h]; simp
   have hbC : bodC b = #[.string b.t,.slice (some ⟨g,o,none⟩) b.l.length cap,b.pv] := by unfold bodC; rw [hv]
   have hcut0 : Hid (∀ W',RdI Bo b W' → Calls Tryz.prog 134 #[.agg #[.string b.t,.slice (some ⟨g,o,none⟩) b.l.length cap,b.pv],.int .i64 (k : Int)] W' fun e w' => e = .returned (.tuple #[.agg (itC (cutI b.t b.l b.pd k)),.bool (cuB b.t b.l b.pd k)]) ∧ Below W'.heap.size W' w') := fun W' h => by
    rw [← hbC]
    exact cut_any b k W' h.at' hlt
   have hen : Hid (∀ i y,itAt (itsL b.t b.l b.pd) i = y → encI b i = #[.agg (itC y)]) := fun i y h => by show encI b i = _; unfold encI; rw [h]
   clear hr hms hok hbC
   generalize hmm : mAt b.l k = m at *
   obtain ⟨mf,mt,mk,msz,mw,mq⟩ := m
   unfold msC at hal hB1
   simp only at hal hB1 m0 m1 m2 m3 m4 m5
   have hal' : Hid (Calls Tryz.prog 133 #[.agg #[.int .i64 mf,.int .i64 mt,.int .i64 mk,.int .i64 msz,.int .i64 mw,.int .i64 mq]] (wr.alloc (.cells #[.int .i64 mf,.int .i64 mt,.int .i64 mk,.int .i64 msz,.int .i64 mw,.int .i64 mq] 107)) fun e w' => e = .returned (.tuple #[.agg (itC (loneI ⟨mf,mt,mk,msz,mw,mq⟩)),.bool (alB ⟨mf,mt,mk,msz,mw,mq⟩)]) ∧ Below (wr.alloc (.cells #[.int .i64 mf,.int .i64 mt,.int .i64 mk,.int .i64 msz,.int .i64 mw,.int .i64 mq] 107)).heap.size (wr.alloc (.cells #[.int .i64 mf,.int .i64 mt,.int .i64 mk,.int .i64 msz,.int .i64 mw,.int .i64 mq] 107)) w') := hal
   clear hal hmm
   generalize loneI ⟨mf,mt,mk,msz,mw,mq⟩ = x at *
   obtain ⟨xk,xf,xt,xw,xs,xh,xc,xy⟩ := x
   unfold itC at hal'
   simp only at hal'
   cases hall : alB ⟨mf,mt,mk,msz,mw,mq⟩ with
   | true =>
    rw [hall] at hal'
    obtain ⟨hsm,hfr0⟩ := hsm1.out hall
    have hfr : Hid (frN b.t b.l b.pd (k + 1) = k + 1) := hfr0
    obtain ⟨hbx,hlst,hou0⟩ := hbox0.out _ hsm
    have hbox : Hid (frN b.t b.l b.pd k < k → itAt (itsL b.t b.l b.pd) (ouL b.t b.l b.pd k).length = boxI (runL b.l (frN b.t b.l b.pd k) k) ∧ (ouL b.t b.l b.pd k).length < NI b) := hbx
    have hou : Hid ((ouL b.t b.l b.pd (k + 1)).length = ((ouL b.t b.l b.pd k).length + (bxL b.l (frN b.t b.l b.pd k) k).length) + 1) := hou0
    have hlast : Hid (encI b ((ouL b.t b.l b.pd k).length + (bxL b.l (frN b.t b.l b.pd k) k).length) = #[.agg #[.int .i64 xk,.int .i64 xf,.int .i64 xt,.int .i64 xw,.int .i64 xs,.int .i64 xh,.int .i64 xc,.bool xy]] ∧ ((ouL b.t b.l b.pd k).length + (bxL b.l (frN b.t b.l b.pd k) k).length) < NI b) := ⟨hen.out _ _ hlst.1,hlst.2⟩
    clear hsm1 hsm2 hsm3 hbox0 hou3 hcut0 hen hall hsm hfr0 hbx hlst hou0 hrd
    gi_wp2_with (gi_at_call 133; refine (callsIn_wide.2 hal'.out).mono ?_; rintro e wa ⟨rfl,hba⟩; have hba2 := hB1.trans (hba.mono hB1.size); have hsa := hba2.size)
    obtain ⟨D,hD⟩ : ∃ D,wa.heap.size = D := ⟨_,rfl⟩
    have hbb0 := hba2.alloc hba2.size (.cells #[.int .i64 xk,.int .i64 xf,.int .i64 xt,.int .i64 xw,.int .i64 xs,.int .i64 xh,.int .i64 xc,.bool xy] 91)
    have hsb : (wa.alloc (.cells #[.int .i64 xk,.int .i64 xf,.int .i64 xt,.int .i64 xw,.int .i64 xs,.int .i64 xh,.int .i64 xc,.bool xy] 91)).heap.size = D + 1 := by rw [← hD]; simp
    have hdb0 : (wa.alloc (.cells #[.int .i64 xk,.int .i64 xf,.int .i64 xt,.int .i64 xw,.int .i64 xs,.int .i64 xh,.int .i64 xc,.bool xy] 91)).heap[D]? = some (.cells #[.int .i64 xk,.int .i64 xf,.int .i64 xt,.int .i64 xw,.int .i64 xs,.int .i64 xh,.int .i64 xc,.bool xy] 91 (0,0)) := by rw [← hD]; exact heap_new wa _
    rw [hD]
    generalize wa.alloc (.cells #[.int .i64 xk,.int .i64 xf,.int .i64 xt,.int .i64 xw,.int .i64 xs,.int .i64 xh,.int .i64 xc,.bool xy] 91) = wb at *
    have hbb : Below wr.heap.size wr wb := hbb0
    have hdb : wb.heap[D]? = some (.cells #[.int .i64 xk,.int .i64 xf,.int .i64 xt,.int .i64 xw,.int .i64 xs,.int .i64 xh,.int .i64 xc,.bool xy] 91 (0,0)) := hdb0
    clear hbb0 hdb0 hba hal'
    have hX1 : ∀ q,(q = W.heap.size ∨ q = F ∨ q = D) → (q = W.heap.size ∨ q = F) ∨ (wr.heap.size ≤ q ∧ q < wb.heap.size) := fun q hq => by
     rcases hq with h | h | h
     ·exact .inl (.inl h)
     ·exact .inl (.inr h)
     ·exact .inr (by omega)
    have hJb : J (ouL b.t b.l b.pd k).length (fun q => q = W.heap.size ∨ q = F ∨ q = D) wb := hJ _ _ _ _ _ hin.out.j (turns_all hbb) hX1
    have hyb : wb.heap[W.heap.size]? = some (.cells #[.func (.yield l) #[] #[]] 138 (0,0)) := (hbb.block _ (Array.getElem?_eq_some_iff.1 hin.out.y).1).trans hin.out.y
    have hfb : wb.heap[F]? = some (.cells #[.int .i64 (frN b.t b.l b.pd k : Nat)] 3 (0,0)) := (hbb.block _ (Array.getElem?_eq_some_iff.1 hin.out.f).1).trans hin.out.f
    have hsh : Hid (CallsIn Fence.wide 0 Tryz.prog 131 #[.int .i64 (k : Nat),.pointer (some ⟨F,0,none⟩),.pointer (some ⟨W.heap.size,0,none⟩),.pointer (some ⟨Bo,0,none⟩)] wb fun e W' =>
      Keeps (fun q => q = W.heap.size ∨ q = F ∨ q = D) wb W' ∧ ((e = .returned (.bool true) ∧ J ((ouL b.t b.l b.pd k).length + (bxL b.l (frN b.t b.l b.pd k) k).length) (fun q => q = W.heap.size ∨ q = F ∨ q = D) W') ∨ (e = .returned (.bool false) ∧ ∃ i,i < NI b ∧ Jx i (fun q => q = W.heap.size ∨ q = F ∨ q = D) W'))) :=
     shut_step hJ hRd hYd hJb hfb hyb (frN_le _ _ _ _) (Nat.le_of_lt hlt) (fun h => hbox.out h)
    clear hX1 hJb hfb
    refine hsh.out.mono ?_
    rintro e W3 ⟨hk3,(⟨rfl,hJ3⟩ | ⟨rfl,i3,hi3,hJx3⟩)⟩
    ·have hy3 := hk3.get (.inl rfl) hyb
     have hd3 := hk3.get (.inr (.inr rfl)) hdb
     have cy3 : W3.cell? ⟨W.heap.size,0,none⟩ = some (.func (.yield l) #[] #[]) := by rw [Lib.cell_of_heap hy3]; rfl
     have cd0 : W3.cell? ⟨D,0,none⟩ = some (.int .i64 xk) := by rw [Lib.cell_of_heap hd3]; rfl
     have cd1 : W3.cell? ⟨D,1,none⟩ = some (.int .i64 xf) := by rw [Lib.cell_of_heap hd3]; rfl
     have cd2 : W3.cell? ⟨D,2,none⟩ = some (.int .i64 xt) := by rw [Lib.cell_of_heap hd3]; rfl
     have cd3 : W3.cell? ⟨D,3,none⟩ = some (.int .i64 xw) := by rw [Lib.cell_of_heap hd3]; rfl
     have cd4 : W3.cell? ⟨D,4,none⟩ = some (.int .i64 xs) := by rw [Lib.cell_of_heap hd3]; rfl
     have cd5 : W3.cell? ⟨D,5,none⟩ = some (.int .i64 xh) := by rw [Lib.cell_of_heap hd3]; rfl
     have cd6 : W3.cell? ⟨D,6,none⟩ = some (.int .i64 xc) := by rw [Lib.cell_of_heap hd3]; rfl
     have cd7 : W3.cell? ⟨D,7,none⟩ = some (.bool xy) := by rw [Lib.cell_of_heap hd3]; rfl
     obtain ⟨fn,tmps,assign,body,hy,hRd4⟩ := hYd _ _ W3 hlast.out.2 hJ3
     rw [show encI b _ = #[.agg #[.int .i64 xk,.int .i64 xf,.int .i64 xt,.int .i64 xw,.int .i64 xs,.int .i64 xh,.int .i64 xc,.bool xy]] from hlast.out.1] at hy
     have hRd5 : Hid (RoundIn Fence.wide 0 Tryz.prog l fn tmps assign body W3 fun e W' => Keeps (fun q => q = W.heap.size ∨ q = F ∨ q = D) W3 W' ∧ ((e = .returned (.bool true) ∧ J (((ouL b.t b.l b.pd k).length + (bxL b.l (frN b.t b.l b.pd k) k).length) + 1) (fun q => q = W.heap.size ∨ q = F ∨ q = D) W') ∨ (e = .returned (.bool false) ∧ Jx ((ouL b.t b.l b.pd k).length + (bxL b.l (frN b.t b.l b.pd k) k).length) (fun q => q = W.heap.size ∨ q = F ∨ q = D) W'))) := hRd4
     clear hRd4 hsh hdb
     gi_wp2_with fail
     with_reducible refine hRd5.out.mono ?_
     rintro e W4 ⟨hk4,(⟨rfl,hJ4⟩ | ⟨rfl,hJx4⟩)⟩
     ·have hy4 := hk4.get (.inl rfl) hy3
      have hnx : Hid (InI J b l W.heap.size W4.heap.size (k + 1) (W4.alloc (.cells #[.int .i64 ((k : Int) + 1)] 3))) := by
       refine ⟨?_,(Below.heap_alloc _ _ _ (Array.getElem?_eq_some_iff.1 hy4).1).trans hy4,?_⟩
       ·rw [hou.out]
        refine hJ _ _ _ _ _ hJ4 (Turns.alloc _ _ _) (fun q hq => ?_)
        rcases hq with rfl | rfl
        ·exact .inl (.inl rfl)
        ·exact .inr ⟨Nat.le_refl _,by simp⟩
       ·rw [heap_new,hfr.out]; rfl
      have hopn : Hid (Calls Tryz.prog 130 #[.int .i64 ((k : Int) + 1),.pointer (some ⟨W.heap.size,0,none⟩),.pointer (some ⟨Bo,0,none⟩)] W4 fun e W' => e = .returned (.func (.func 131) #[] #[.pointer (some ⟨W4.heap.size,0,none⟩),.pointer (some ⟨W.heap.size,0,none⟩),.pointer (some ⟨Bo,0,none⟩)]) ∧ W' = W4.alloc (.cells #[.int .i64 ((k : Int) + 1)] 3)) := open_any (k + 1) W.heap.size Bo W4
      clear hJ4 hk4 hy4 hJ3 hk3 hy3 hd3 hRd5 hy cy3 cd0 cd1 cd2 cd3 cd4 cd5 cd6 cd7
      gi_wp2_with (gi_at_call 130; refine (callsIn_wide.2 hopn.out).mono ?_; rintro e w' ⟨rfl,rfl⟩)
      go_roundw
      case rel => exact ⟨k + 1,W4.heap.size,by omega,by simp,rfl,hnx⟩
      case measure => simp [intOf]; omega
     ·have hJ5 : Hid (∃ i,i < NI b ∧ Jx i Noth W4) := ⟨_,hlast.out.2,hJx _ _ _ _ _ hJx4 (Turns.refl _ _) (fun _ h => h.elim)⟩
      clear hJx4 hk4 hJ3 hk3 hy3 hd3 hRd5 hy cy3 cd0 cd1 cd2 cd3 cd4 cd5 cd6 cd7
      gi_wp2_with fail
      refine bodyPost_ret (results_none rfl _ _ _) rfl ?_
      exact ⟨⟨_,rfl⟩,.inr hJ5.out⟩
    ·have hJ5 : Hid (∃ i,i < NI b ∧ Jx i Noth W3) := ⟨i3,hi3,hJx _ _ _ _ _ hJx3 (Turns.refl _ _) (fun _ h => h.elim)⟩
     clear hJx3 hk3 hsh hdb
     gi_wp2_with fail
     refine bodyPost_ret (results_none rfl _ _ _) rfl ?_
     exact ⟨⟨_,rfl⟩,.inr hJ5.out⟩
   | false =>
    rw [hall] at hal'
    generalize cutI b.t b.l b.pd k = z at *
    obtain ⟨zk,zf,zt,zw,zs,zh,zc,zy⟩ := z
    unfold itC at hcut0
    simp only at hcut0
    have hcut1 : Hid (∀ W',Below wr.heap.size wr W' → (∃ a0 a1 a2,W'.cell? ⟨Bo,0,none⟩ = some a0 ∧ a0 = .string b.t ∧ W'.cell? ⟨Bo,1,none⟩ = some a1 ∧ a1 = .slice (some ⟨g,o,none⟩) b.l.length cap ∧ W'.cell? ⟨Bo,2,none⟩ = some a2 ∧ a2 = b.pv) ∧ Calls Tryz.prog 134 #[.agg #[.string b.t,.slice (some ⟨g,o,none⟩) b.l.length cap,b.pv],.int .i64 (k : Int)] W' fun e w' => e = .returned (.tuple #[.agg #[.int .i64 zk,.int .i64 zf,.int .i64 zt,.int .i64 zw,.int .i64 zs,.int .i64 zh,.int .i64 zc,.bool zy],.bool (cuB b.t b.l b.pd k)]) ∧ Below W'.heap.size W' w') := fun W' hW => by
     have hj' : J (ouL b.t b.l b.pd k).length (fun q => q = W.heap.size ∨ q = F) W' := hJ _ _ _ _ _ hin.out.j (turns_all hW) (fun _ h => .inl h)
     obtain ⟨d0,d1,d2⟩ := hcM.out _ (hRd _ _ _ hj')
     exact ⟨⟨_,_,_,d0,rfl,d1,rfl,d2,rfl⟩,hcut0.out W' (hRd _ _ _ hj')⟩
    cases hcu : cuB b.t b.l b.pd k with
    | true =>
     rw [hcu] at hcut1
     obtain ⟨hsm,hfr0⟩ := hsm2.out hall hcu
     have hfr : Hid (frN b.t b.l b.pd (k + 1) = k) := hfr0
     obtain ⟨hbx,hlst,hou0⟩ := hbox0.out _ hsm
     have hbox : Hid (frN b.t b.l b.pd k < k → itAt (itsL b.t b.l b.pd) (ouL b.t b.l b.pd k).length = boxI (runL b.l (frN b.t b.l b.pd k) k) ∧ (ouL b.t b.l b.pd k).length < NI b) := hbx
     have hou : Hid ((ouL b.t b.l b.pd (k + 1)).length = ((ouL b.t b.l b.pd k).length + (bxL b.l (frN b.t b.l b.pd k) k).length) + 1) := hou0
     have hlast : Hid (encI b ((ouL b.t b.l b.pd k).length + (bxL b.l (frN b.t b.l b.pd k) k).length) = #[.agg #[.int .i64 zk,.int .i64 zf,.int .i64 zt,.int .i64 zw,.int .i64 zs,.int .i64 zh,.int .i64 zc,.bool zy]] ∧ ((ouL b.t b.l b.pd k).length + (bxL b.l (frN b.t b.l b.pd k) k).length) < NI b) := ⟨hen.out _ _ hlst.1,hlst.2⟩
     clear hsm1 hsm2 hsm3 hbox0 hou3 hcut0 hen hall hsm hfr0 hbx hlst hou0 hrd hcu
     gi_wp2_with (first | (gi_at_call 133; refine (callsIn_wide.2 hal'.out).mono ?_; rintro e wa ⟨rfl,hba⟩; have hba2 := hB1.trans (hba.mono hB1.size); have hba3 := hba2.alloc hba2.size (.cells #[.int .i64 xk,.int .i64 xf,.int .i64 xt,.int .i64 xw,.int .i64 xs,.int .i64 xh,.int .i64 xc,.bool xy] 91); obtain ⟨⟨a0,a1,a2,d0,rfl,d1,rfl,d2,rfl⟩,hcl⟩ := hcut1.out _ hba3) | (gi_at_call 134; refine (callsIn_wide.2 hcl).mono ?_; rintro e wc ⟨rfl,hbc⟩; have hbc2 := hba3.trans (hbc.mono hba3.size)))
     obtain ⟨D,hD⟩ : ∃ D,wc.heap.size = D := ⟨_,rfl⟩
     have hsc := hbc2.size
     have hbb0 := hbc2.alloc hbc2.size (.cells #[.int .i64 zk,.int .i64 zf,.int .i64 zt,.int .i64 zw,.int .i64 zs,.int .i64 zh,.int .i64 zc,.bool zy] 91)
     have hsb : (wc.alloc (.cells #[.int .i64 zk,.int .i64 zf,.int .i64 zt,.int .i64 zw,.int .i64 zs,.int .i64 zh,.int .i64 zc,.bool zy] 91)).heap.size = D + 1 := by rw [← hD]; simp
     have hdb0 : (wc.alloc (.cells #[.int .i64 zk,.int .i64 zf,.int .i64 zt,.int .i64 zw,.int .i64 zs,.int .i64 zh,.int .i64 zc,.bool zy] 91)).heap[D]? = some (.cells #[.int .i64 zk,.int .i64 zf,.int .i64 zt,.int .i64 zw,.int .i64 zs,.int .i64 zh,.int .i64 zc,.bool zy] 91 (0,0)) := by rw [← hD]; exact heap_new wc _
     rw [hD]
     generalize wc.alloc (.cells #[.int .i64 zk,.int .i64 zf,.int .i64 zt,.int .i64 zw,.int .i64 zs,.int .i64 zh,.int .i64 zc,.bool zy] 91) = wb at *
     have hbb : Below wr.heap.size wr wb := hbb0
     have hdb : wb.heap[D]? = some (.cells #[.int .i64 zk,.int .i64 zf,.int .i64 zt,.int .i64 zw,.int .i64 zs,.int .i64 zh,.int .i64 zc,.bool zy] 91 (0,0)) := hdb0
     clear hbb0 hdb0 hba hal' hba2 hba3 hcl hbc hcut1
     have hX1 : ∀ q,(q = W.heap.size ∨ q = F ∨ q = D) → (q = W.heap.size ∨ q = F) ∨ (wr.heap.size ≤ q ∧ q < wb.heap.size) := fun q hq => by
      rcases hq with h | h | h
      ·exact .inl (.inl h)
      ·exact .inl (.inr h)
      ·exact .inr (by omega)
     have hJb : J (ouL b.t b.l b.pd k).length (fun q => q = W.heap.size ∨ q = F ∨ q = D) wb := hJ _ _ _ _ _ hin.out.j (turns_all hbb) hX1
     have hyb : wb.heap[W.heap.size]? = some (.cells #[.func (.yield l) #[] #[]] 138 (0,0)) := (hbb.block _ (Array.getElem?_eq_some_iff.1 hin.out.y).1).trans hin.out.y
     have hfb : wb.heap[F]? = some (.cells #[.int .i64 (frN b.t b.l b.pd k : Nat)] 3 (0,0)) := (hbb.block _ (Array.getElem?_eq_some_iff.1 hin.out.f).1).trans hin.out.f
     have hsh : Hid (CallsIn Fence.wide 0 Tryz.prog 131 #[.int .i64 (k : Nat),.pointer (some ⟨F,0,none⟩),.pointer (some ⟨W.heap.size,0,none⟩),.pointer (some ⟨Bo,0,none⟩)] wb fun e W' =>
       Keeps (fun q => q = W.heap.size ∨ q = F ∨ q = D) wb W' ∧ ((e = .returned (.bool true) ∧ J ((ouL b.t b.l b.pd k).length + (bxL b.l (frN b.t b.l b.pd k) k).length) (fun q => q = W.heap.size ∨ q = F ∨ q = D) W') ∨ (e = .returned (.bool false) ∧ ∃ i,i < NI b ∧ Jx i (fun q => q = W.heap.size ∨ q = F ∨ q = D) W'))) :=
      shut_step hJ hRd hYd hJb hfb hyb (frN_le _ _ _ _) (Nat.le_of_lt hlt) (fun h => hbox.out h)
     clear hX1 hJb hfb
     refine hsh.out.mono ?_
     rintro e W3 ⟨hk3,(⟨rfl,hJ3⟩ | ⟨rfl,i3,hi3,hJx3⟩)⟩
     ·have hy3 := hk3.get (.inl rfl) hyb
      have hd3 := hk3.get (.inr (.inr rfl)) hdb
      have cy3 : W3.cell? ⟨W.heap.size,0,none⟩ = some (.func (.yield l) #[] #[]) := by rw [Lib.cell_of_heap hy3]; rfl
      have cd0 : W3.cell? ⟨D,0,none⟩ = some (.int .i64 zk) := by rw [Lib.cell_of_heap hd3]; rfl
      have cd1 : W3.cell? ⟨D,1,none⟩ = some (.int .i64 zf) := by rw [Lib.cell_of_heap hd3]; rfl
      have cd2 : W3.cell? ⟨D,2,none⟩ = some (.int .i64 zt) := by rw [Lib.cell_of_heap hd3]; rfl
      have cd3 : W3.cell? ⟨D,3,none⟩ = some (.int .i64 zw) := by rw [Lib.cell_of_heap hd3]; rfl
      have cd4 : W3.cell? ⟨D,4,none⟩ = some (.int .i64 zs) := by rw [Lib.cell_of_heap hd3]; rfl
      have cd5 : W3.cell? ⟨D,5,none⟩ = some (.int .i64 zh) := by rw [Lib.cell_of_heap hd3]; rfl
      have cd6 : W3.cell? ⟨D,6,none⟩ = some (.int .i64 zc) := by rw [Lib.cell_of_heap hd3]; rfl
      have cd7 : W3.cell? ⟨D,7,none⟩ = some (.bool zy) := by rw [Lib.cell_of_heap hd3]; rfl
      obtain ⟨fn,tmps,assign,body,hy,hRd4⟩ := hYd _ _ W3 hlast.out.2 hJ3
      rw [show encI b _ = #[.agg #[.int .i64 zk,.int .i64 zf,.int .i64 zt,.int .i64 zw,.int .i64 zs,.int .i64 zh,.int .i64 zc,.bool zy]] from hlast.out.1] at hy
      have hRd5 : Hid (RoundIn Fence.wide 0 Tryz.prog l fn tmps assign body W3 fun e W' => Keeps (fun q => q = W.heap.size ∨ q = F ∨ q = D) W3 W' ∧ ((e = .returned (.bool true) ∧ J (((ouL b.t b.l b.pd k).length + (bxL b.l (frN b.t b.l b.pd k) k).length) + 1) (fun q => q = W.heap.size ∨ q = F ∨ q = D) W') ∨ (e = .returned (.bool false) ∧ Jx ((ouL b.t b.l b.pd k).length + (bxL b.l (frN b.t b.l b.pd k) k).length) (fun q => q = W.heap.size ∨ q = F ∨ q = D) W'))) := hRd4
      clear hRd4 hsh hdb
      gi_wp2_with fail
      with_reducible refine hRd5.out.mono ?_
      rintro e W4 ⟨hk4,(⟨rfl,hJ4⟩ | ⟨rfl,hJx4⟩)⟩
      ·have hy4 := hk4.get (.inl rfl) hy3
       have hnx : Hid (InI J b l W.heap.size W4.heap.size (k + 1) (W4.alloc (.cells #[.int .i64 (k : Int)] 3))) := by
        refine ⟨?_,(Below.heap_alloc _ _ _ (Array.getElem?_eq_some_iff.1 hy4).1).trans hy4,?_⟩
        ·rw [hou.out]
         refine hJ _ _ _ _ _ hJ4 (Turns.alloc _ _ _) (fun q hq => ?_)
         rcases hq with rfl | rfl
         ·exact .inl (.inl rfl)
         ·exact .inr ⟨Nat.le_refl _,by simp⟩
        ·rw [heap_new,hfr.out]
       have hopn : Hid (Calls Tryz.prog 130 #[.int .i64 (k : Int),.pointer (some ⟨W.heap.size,0,none⟩),.pointer (some ⟨Bo,0,none⟩)] W4 fun e W' => e = .returned (.func (.func 131) #[] #[.pointer (some ⟨W4.heap.size,0,none⟩),.pointer (some ⟨W.heap.size,0,none⟩),.pointer (some ⟨Bo,0,none⟩)]) ∧ W' = W4.alloc (.cells #[.int .i64 (k : Int)] 3)) := open_any k W.heap.size Bo W4
       clear hJ4 hk4 hy4 hJ3 hk3 hy3 hd3 hRd5 hy cy3 cd0 cd1 cd2 cd3 cd4 cd5 cd6 cd7
       gi_wp2_with (gi_at_call 130; refine (callsIn_wide.2 hopn.out).mono ?_; rintro e w' ⟨rfl,rfl⟩)
       go_roundw
       case rel => exact ⟨k + 1,W4.heap.size,by omega,by simp,rfl,hnx⟩
       case measure => simp [intOf]; omega
      ·have hJ5 : Hid (∃ i,i < NI b ∧ Jx i Noth W4) := ⟨_,hlast.out.2,hJx _ _ _ _ _ hJx4 (Turns.refl _ _) (fun _ h => h.elim)⟩
       clear hJx4 hk4 hJ3 hk3 hy3 hd3 hRd5 hy cy3 cd0 cd1 cd2 cd3 cd4 cd5 cd6 cd7
       gi_wp2_with fail
       refine bodyPost_ret (results_none rfl _ _ _) rfl ?_
       exact ⟨⟨_,rfl⟩,.inr hJ5.out⟩
     ·have hJ5 : Hid (∃ i,i < NI b ∧ Jx i Noth W3) := ⟨i3,hi3,hJx _ _ _ _ _ hJx3 (Turns.refl _ _) (fun _ h => h.elim)⟩
      clear hJx3 hk3 hsh hdb
      gi_wp2_with fail
      refine bodyPost_ret (results_none rfl _ _ _) rfl ?_
      exact ⟨⟨_,rfl⟩,.inr hJ5.out⟩
    | false =>
     rw [hcu] at hcut1
     obtain ⟨hsm,hfr0⟩ := hsm3.out hall hcu
     have hou := hou3.out hsm
     have hnx : Hid (∀ W',Below wr.heap.size wr W' → InI J b l W.heap.size F (k + 1) W') := fun W' hW => ⟨by rw [hou]; exact hJ _ _ _ _ _ hin.out.j (turns_all hW) (fun _ h => .inl h),(hW.block _ (Array.getElem?_eq_some_iff.1 hin.out.y).1).trans hin.out.y,by rw [hfr0]; exact (hW.block _ (Array.getElem?_eq_some_iff.1 hin.out.f).1).trans hin.out.f⟩
     clear hsm1 hsm2 hsm3 hbox0 hou3 hcut0 hen hall hsm hfr0 hou hrd hcu
     gi_wp2_with (first | (gi_at_call 133; refine (callsIn_wide.2 hal'.out).mono ?_; rintro e wa ⟨rfl,hba⟩; have hba2 := hB1.trans (hba.mono hB1.size); have hba3 := hba2.alloc hba2.size (.cells #[.int .i64 xk,.int .i64 xf,.int .i64 xt,.int .i64 xw,.int .i64 xs,.int .i64 xh,.int .i64 xc,.bool xy] 91); obtain ⟨⟨a0,a1,a2,d0,rfl,d1,rfl,d2,rfl⟩,hcl⟩ := hcut1.out _ hba3) | (gi_at_call 134; refine (callsIn_wide.2 hcl).mono ?_; rintro e wc ⟨rfl,hbc⟩; have hbc2 := hba3.trans (hbc.mono hba3.size); have hbc3 := hbc2.alloc hbc2.size (.cells #[.int .i64 zk,.int .i64 zf,.int .i64 zt,.int .i64 zw,.int .i64 zs,.int .i64 zh,.int .i64 zc,.bool zy] 91)))
     go_roundw
     case rel => exact ⟨k + 1,F,by omega,by simp,rfl,hnx.out _ hbc3⟩
     case measure => simp [intOf]; omega
  ·obtain rfl : k = b.l.length := by omega
   obtain ⟨c0,c1,c2⟩ := hcM.out _ hrd
   have hge : ¬ (b.l.length : Int) < b.l.length := by omega
   have hfl := frN_le b.t b.l b.pd b.l.length
   have hsh := shut_step hJ hRd hYd hin.out.j hin.out.f hin.out.y hfl (Nat.le_refl _) (fun h => by
    have e : itsL b.t b.l b.pd = ouL b.t b.l b.pd b.l.length ++ [boxI (runL b.l (frN b.t b.l b.pd b.l.length) b.l.length)] := by
     show _ ++ bxL _ _ _ = _
     unfold bxL; rw [if_pos h]
    have := app_at (a := ouL b.t b.l b.pd b.l.length) (b := [boxI (runL b.l (frN b.t b.l b.pd b.l.length) b.l.length)]) (j := 0) (by simp)
    rw [← e] at this
    exact this)
   have hN : Hid ((ouL b.t b.l b.pd b.l.length).length + (bxL b.l (frN b.t b.l b.pd b.l.length) b.l.length).length = NI b) := by show _ = _; unfold NI itsL; rw [List.length_append]
   have hsh' : Hid (CallsIn Fence.wide 0 Tryz.prog 131 #[.int .i64 (b.l.length : Nat),.pointer (some ⟨F,0,none⟩),.pointer (some ⟨W.heap.size,0,none⟩),.pointer (some ⟨Bo,0,none⟩)] wr fun e W' =>
    Keeps (fun q => q = W.heap.size ∨ q = F) wr W' ∧ ((e = .returned (.bool true) ∧ J ((ouL b.t b.l b.pd b.l.length).length + (bxL b.l (frN b.t b.l b.pd b.l.length) b.l.length).length) (fun q => q = W.heap.size ∨ q = F) W') ∨ (e = .returned (.bool false) ∧ ∃ i,i < NI b ∧ Jx i (fun q => q = W.heap.size ∨ q = F) W'))) := hsh
   clear hsh hrd hin hYd
   gi_wp2_with fail
   with_reducible refine hsh'.out.mono ?_
   rintro e W3 ⟨hk3,(⟨rfl,hJ3⟩ | ⟨rfl,i,hi,hJx3⟩)⟩
   ·have hJ4 : Hid (J (NI b) Noth W3) := by rw [← hN.out]; exact hJ _ _ _ _ _ hJ3 (Turns.refl _ _) (fun _ h => h.elim)
    clear hJ3 hk3
    gi_wp2_with fail
    go_end0
    exact ⟨⟨_,rfl⟩,.inl hJ4.out⟩
   ·have hJ4 : Hid (∃ i,i < NI b ∧ Jx i Noth W3) := ⟨i,hi,hJx _ _ _ _ _ hJx3 (Turns.refl _ _) (fun _ h => h.elim)⟩
    clear hJx3 hk3
    gi_wp2_with fail
    go_end0
    exact ⟨⟨_,rfl⟩,.inr hJ4.out⟩
end Go.Proofs.YtlgcnbomfhmjiaaGreatDoor

namespace Go.Proofs.YtlgcnbomfhmjiaaGreatDoor.Hy
open Go.RowKit Go.Shelf

def Blk (w : World) (b : Nat) (cs : Array Value) (t : TypeId) : Prop := w.heap[b]? = some (.cells cs t (0,0))
theorem Blk.lt {w : World} {b : Nat} {cs : Array Value} {t : TypeId} (h : Blk w b cs t) : b < w.heap.size := (Array.getElem?_eq_some_iff.1 h).1
theorem Blk.cell {w : World} {b : Nat} {cs : Array Value} {t : TypeId} (h : Blk w b cs t) (o : Nat) : w.cell? ⟨b,o,none⟩ = cs[o]? := by rw [Lib.cell_of_heap h]
theorem row_val {w : World} {base : Nat} {e : TypeId} {sz : Nat} {v : Value} {n : Nat} {xs : List Value} (h : w.ownsRow base e sz v n xs) : ∃ a cap,v = .slice a n cap := by
 rcases h.2 with ⟨rfl,rfl⟩ | ⟨g,cap,cur,rfl,_⟩
 ·exact ⟨_,_,rfl⟩
 ·exact ⟨_,_,rfl⟩
end Go.Proofs.YtlgcnbomfhmjiaaGreatDoor.Hy

namespace Go.Proofs.YtlgcnbomfhmjiaaGreatDoor
open Go.RowKit Go.Shelf

def bcells (pd : List Bool) : Array Value := (pd.map Value.bool).toArray
theorem bcells_at {pd : List Bool} {i : Nat} (h : i < pd.length) : (bcells pd)[i]? = some (.bool pd[i]) := by unfold bcells; simp [h]
theorem bools_of {W : World} {P n c : Nat} {pd : List Bool} (h : Hy.Blk W P (bcells pd) 4) (hn : n = pd.length) (hc : n ≤ c) : BoolsAt W (.slice (some ⟨P,0,none⟩) n c) pd := by
 subst hn
 refine ⟨⟨_,_,rfl,.inr ⟨P,0,rfl,h.lt,fun i hi j u hu => ?_⟩⟩,fun _ _ _ e => by cases e; exact hc⟩
 cases j with
 | zero =>
  simp at hu
  subst hu
  rw [h.cell]
  simpa using bcells_at hi
 | succ j => simp at hu
end Go.Proofs.YtlgcnbomfhmjiaaGreatDoor
