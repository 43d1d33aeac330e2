/-
  What is proved here: what Between answers, with what the lines' blocks hold.
  What is proved here: the chapter's example, as values.
  What is proved here: the chapter's rows, in memory.
  What is proved here: awake answers yes.
-/
import Derived.Test.YtaphggjakaghjaaGreatDoorG37
import Derived.Test.YtaphggjakaghjaaGreatDoorG34
import Derived.Test.YtaphggjakaghjaaGreatDoorG28
import Derived.Test.YtaphggjakaghjaaGreatDoorG18
namespace Go.Proofs.YtaphggjakaghjaaGreatDoor
open Go.RowKit Go.Shelf
set_option maxRecDepth 100000
set_option maxHeartbeats 4000000

structure BkAt (lo : Nat) (W : World) (d : Cel) : Prop where
 row : W.ownsRow lo 55 7 d.v d.ls.length (d.ls.flatMap lxL)
 kin : FiL W d.v
theorem BkAt.below {lo : Nat} {W W' : World} {d : Cel} (h : BkAt lo W d) (hb : Below W.heap.size W W') : BkAt lo W' d := ⟨ownsRow_below h.row hb,h.kin.below h.row hb⟩
theorem BkAt.turns {lo : Nat} {X : Nat → Prop} {W W' : World} {d : Cel} (h : BkAt lo W d) (ht : Turns X W W') (hx : ∀ k,lo ≤ k → ¬ X k) : BkAt lo W' d :=
 ⟨ownsRow_turns h.row ht (fun g hg => hx g (h.row.lt g hg).1),h.kin.turns ht (fun g hg => ⟨(h.row.lt g hg).2,hx g (h.row.lt g hg).1⟩)⟩
structure BkI (lo : Nat) (w : World) (T : Nat) (cs : List Cel) (f t : Int) (k : Nat) (W : World) : Prop where
 low : Below w.heap.size w W
 ex : ∃ d : List Cel,d.length = k ∧ RB 3 ceL W T (d ++ List.replicate (cs.length - d.length) ce0) ∧ ∀ i (h : i < d.length),BtIs f t (cs.getD i ce0) d[i] ∧ BkAt lo W d[i]
theorem BkI.start (w w1 : World) (cs : List Cel) (f t : Int) (h : Below w.heap.size w w1) : BkI (w1.heap.size + 1) w w1.heap.size cs f t 0 (w1.alloc (.cells (noCes cs.length).toArray 46)) :=
 ⟨h.alloc h.size _,[],rfl,made37 w1 cs.length,fun i hi => by simp at hi⟩
theorem BkI.next {lo : Nat} {w : World} {T : Nat} {cs : List Cel} {f t : Int} {k : Nat} {W : World} (h : BkI lo w T cs f t k W) {W2 : World} (hb : Below W.heap.size W W2) : BkI lo w T cs f t k W2 := by
 obtain ⟨d,hd,hr,hc⟩ := h.ex
 exact ⟨h.low.trans (hb.mono h.low.size),d,hd,hr.below hb hr.lt,fun i hi => ⟨(hc i hi).1,(hc i hi).2.below hb⟩⟩
theorem BkI.step {lo : Nat} {w : World} {T : Nat} {cs : List Cel} {f t : Int} {k : Nat} {W : World} (h : BkI lo w T cs f t k W) (hk : k < cs.length) (hT : w.heap.size ≤ T) (hTl : T < lo) :
  W.there T (k * 3) 3 ∧ ∀ c : Cel,BtIs f t (cs.getD k ce0) c → BkAt lo W c → BkI lo w T cs f t (k + 1) (W.setCells T (k * 3) (ceL c)) := by
 obtain ⟨d,rfl,hr,hc⟩ := h.ex
 obtain ⟨hk1,_⟩ := fill_get d ce0 hk
 refine ⟨hr.there ceL_len hk1,fun c hi ha => ?_⟩
 have hs := hr.set ceL_len hk1 c
 have ht := turns_setCells (X := fun j => j = T) rfl (ceL c) (d.length * 3) W
 rw [fill_set d ce0 c hk] at hs
 refine ⟨h.low.trans (ht.below h.low.size (fun j hj => by omega)),d ++ [c],by simp,hs,fun i hi' => ?_⟩
 by_cases e : i = d.length
 ·subst e
  have e2 : (d ++ [c])[d.length]'hi' = c := by rw [List.getElem_append_right (Nat.le_refl _)]; simp
  rw [e2]
  exact ⟨hi,ha.turns ht (fun j hj e => by omega)⟩
 ·have hlt : i < d.length := by rw [List.length_append] at hi'; simp at hi'; omega
  have e2 : (d ++ [c])[i]'hi' = d[i] := List.getElem_append_left hlt
  rw [e2]
  have h2 := (hc i hlt).2
  exact ⟨(hc i hlt).1,h2.turns ht (fun j hj e => by omega)⟩
def BwEnd (cs : List Cel) (f t : Int) (w : World) (e : Ending) (w' : World) : Prop :=
 (∃ g lo d,w.heap.size ≤ g ∧ g < lo ∧ e = .returned (.tuple #[.slice (some ⟨g,0,none⟩) cs.length cs.length,.int .i64 0]) ∧ RB 3 ceL w' g d ∧ d.length = cs.length ∧ (∀ i (h : i < d.length),BtIs f t (cs.getD i ce0) d[i] ∧ BkAt lo w' d[i])) ∧ Below w.heap.size w w'
theorem between_k (h : Int) (sv cv : Value) (cs : List Cel) (f t : Int) (hr : 0 ≤ f ∧ f ≤ t ∧ t ≤ h) (hn : cs.length ≤ 400) (hls : ∀ c ∈ cs,c.ls.length ≤ 8000) (w : World) (hC : RecAt 3 ceL w cv cs) (hL : ∀ c ∈ cs,LxsAt w c.v c.ls) :
  Calls Tryz.prog 21 #[.agg #[.int .i64 h,sv,cv],.int .i64 f,.int .i64 t] w (BwEnd cs f t w) := by
 obtain ⟨r1,r2,r3⟩ := hr
 have q1 : ¬ f < 0 := by omega
 have q2 : ¬ t < f := by omega
 have q3 : ¬ h < t := by omega
 obtain ⟨a0,c0',rfl,-⟩ := hC.ex
 have hB0 := (Below.refl w.heap.size w).alloc (Nat.le_refl _) (.cells #[.int .i64 h,sv,.slice a0 cs.length c0'] 39)
 have hbx : Hid (∀ W,Below (w.heap.size + 1) (w.alloc (.cells #[.int .i64 h,sv,.slice a0 cs.length c0'] 39)) W → W.heap[w.heap.size]? = some (.cells #[.int .i64 h,sv,.slice a0 cs.length c0'] 39 (0,0))) := fun W hb => (hb.block _ (by omega)).trans (World.alloc_heap_new w _)
 have hs1 : (w.alloc (.cells #[.int .i64 h,sv,.slice a0 cs.length c0'] 39)).heap.size = w.heap.size + 1 := World.size_alloc _ _
 have k0 : (w.alloc (.cells #[.int .i64 h,sv,.slice a0 cs.length c0'] 39)).cell? ⟨w.heap.size,0,none⟩ = some (.int .i64 h) := by rw [Lib.cell_of_heap (World.alloc_heap_new w _)]; rfl
 have k2 : (w.alloc (.cells #[.int .i64 h,sv,.slice a0 cs.length c0'] 39)).cell? ⟨w.heap.size,2,none⟩ = some (.slice a0 cs.length c0') := by rw [Lib.cell_of_heap (World.alloc_heap_new w _)]; rfl
 have hst := BkI.start w (w.alloc (.cells #[.int .i64 h,sv,.slice a0 cs.length c0'] 39)) cs f t hB0
 rw [hs1] at hst
 have hmk := make37 (n := cs.length) (by omega)
 have k3 : ((w.alloc (.cells #[.int .i64 h,sv,.slice a0 cs.length c0'] 39)).alloc (.cells (noCes cs.length).toArray 46)).cell? ⟨w.heap.size,2,none⟩ = some (.slice a0 cs.length c0') := by
  rw [Lib.cell_of_heap ((Below.heap_alloc _ _ _ (by simp)).trans (World.alloc_heap_new w _))]; rfl
 have hCh : Hid (∀ k,k < cs.length → ∀ W,Below w.heap.size w W → ∃ (b o : Nat) (x y : Int) (a : Option Addr) (n c : Nat) (ls : List Lx),a0 = some ⟨b,o,none⟩ ∧ W.rangeAt b (o + k * 3) [.int .i64 x,.int .i64 y,.slice a n c] ∧ LxsAt W (.slice a n c) ls ∧ ls.length ≤ 8000 ∧ (cs.getD k ce0).x = x ∧ (cs.getD k ce0).w = y ∧ (cs.getD k ce0).ls = ls) := fun k hk W hb => by
  obtain ⟨b,o,rfl,_,hrg⟩ := RecAt.range (hC.below hb (Nat.le_refl _)) hk
  have hg : cs.getD k ce0 = cs[k] := by rw [List.getD_eq_getElem?_getD,List.getElem?_eq_getElem hk]; rfl
  have hm := List.getElem_mem hk
  have hl := (hL _ hm).below hb (Nat.le_refl _)
  obtain ⟨a,c,hv,-⟩ := hl.ex
  refine ⟨b,o,cs[k].x,cs[k].w,a,_,c,cs[k].ls,rfl,?_,by rw [← hv]; exact hl,hls _ hm,by rw [hg],by rw [hg],by rw [hg]⟩
  have e : ceL cs[k] = [.int .i64 cs[k].x,.int .i64 cs[k].w,.slice a cs[k].ls.length c] := by show [_,_,cs[k].v] = _; rw [hv]
  rw [e] at hrg
  exact hrg
 have hend : Hid (∀ W,BkI (w.heap.size + 1 + 1) w (w.heap.size + 1) cs f t cs.length W → BwEnd cs f t w (.returned (.tuple #[.slice (some ⟨w.heap.size + 1,0,none⟩) cs.length cs.length,.int .i64 0])) W) := fun W hI => by
  obtain ⟨d,hd,hrb,hc⟩ := hI.ex
  rw [hd,Nat.sub_self,List.replicate_zero,List.append_nil] at hrb
  exact ⟨⟨_,w.heap.size + 1 + 1,d,by omega,by omega,rfl,hrb,hd,fun i hi => hc i hi⟩,hI.low⟩
 generalize BwEnd cs f t w = E at *
 clear hC hL hls hB0 hs1 r1 r2 r3
 go_enter Tryz.func21,Tryz.ntmps21
 go_wp2_with fail
 generalize (w.alloc (.cells #[.int .i64 h,sv,.slice a0 cs.length c0'] 39)).alloc (.cells (noCes cs.length).toArray 46) = w2 at *
 have hI0 : Hid (BkI (w.heap.size + 1 + 1) w (w.heap.size + 1) cs f t 0 w2) := hst
 clear hst k0 k2 k3 hmk hbx
 go_loopw [31] (fun v31 wr => ∃ k : Nat,k ≤ cs.length ∧ v31 = .int .i64 (k : Int) ∧ Hid (BkI (w.heap.size + 1 + 1) w (w.heap.size + 1) cs f t k wr)) (fun v31 _ => cs.length - (intOf v31).toNat)
 case atStart => exact ⟨0,by omega,rfl,hI0⟩
 case round =>
  obtain ⟨k,hk,rfl,hI⟩ := hrel
  clear hI0
  by_cases hlt : k < cs.length
  ·have hlt' : (k : Int) < (cs.length : Int) := by omega
   obtain ⟨b,o,x,y,a,n,c,ls,rfl,hrg,hl,h8,e1,e2,e3⟩ := hCh.out k hlt wr hI.out.low
   have hz0 : (wr.alloc (.cells #[.int .i64 0,.int .i64 0,.slice none 0 0] 46)).heap[wr.heap.size]? = some (.cells #[.int .i64 0,.int .i64 0,.slice none 0 0] 46 (0,0)) := World.alloc_heap_new wr _
   have hbb := below_box wr (.cells #[.int .i64 0,.int .i64 0,.slice none 0 0] 46) #[.int .i64 x,.int .i64 y,.slice a n c]
   have hz1 := setRow_heap _ _ _ (#[.int .i64 x,.int .i64 y,.slice a n c] : Array Value) _ _ hz0
   have hT1 : w.heap.size + 1 < wr.heap.size := by
    obtain ⟨d,_,hr,_⟩ := hI.out.ex
    exact hr.lt
   have hW5 : Hid (∀ w5,Below wr.heap.size wr w5 → BkI (w.heap.size + 1 + 1) w (w.heap.size + 1) cs f t k w5 ∧ Calls Tryz.prog 38 #[.slice a n c,.int .i64 f,.int .i64 t] w5 (WkEnd ls f t w5)) := fun w5 h5 => ⟨hI.out.next h5,within_k _ ls f t h8 w5 (hl.below h5 (Nat.le_refl _))⟩
   have hfin : Hid (∀ w6 (a' : Option Addr) (n' c' : Nat),BkI (w.heap.size + 1 + 1) w (w.heap.size + 1) cs f t k w6 → w6.ownsRow (w.heap.size + 1 + 1) 55 7 (.slice a' n' c') (wiL ls f t).length ((wiL ls f t).flatMap lxL) ∧ FiL w6 (.slice a' n' c') → w6.there (w.heap.size + 1) (k * 3) 3 ∧ BkI (w.heap.size + 1 + 1) w (w.heap.size + 1) cs f t (k + 1) (w6.setCells (w.heap.size + 1) (k * 3) (ceA x y (.slice a' n' c')).toList)) := fun w6 a' n' c' h6 ho => by
    obtain ⟨h1,h2⟩ := h6.step hlt (by omega) (by omega)
    exact ⟨h1,h2 ⟨x,y,.slice a' n' c',wiL ls f t⟩ ⟨e1.symm,e2.symm,by rw [e3]⟩ ⟨ho.1,ho.2⟩⟩
   clear hI hl hend hCh e1 e2 e3
   go_wp2_with (first | (refine wpList_load_mid rfl 46 _ rfl b (o + k * 3) rfl [.int .i64 x,.int .i64 y,.slice a n c] _ hrg Tryz.underlying46 rfl (info46m _ _ _) ?_) | (refine wpList_store_row rfl 46 _ _ rfl wr.heap.size #[.int .i64 x,.int .i64 y,.slice a n c] rfl rfl 46 _ hz0 (info46 _ _ _) rfl (one46 _ _ _ _ _) ?_; clear hz0 hrg; generalize (wr.alloc (.cells #[.int .i64 0,.int .i64 0,.slice none 0 0] 46)).setRow wr.heap.size #[.int .i64 x,.int .i64 y,.slice a n c] = w5 at *))
   obtain ⟨h51,h52⟩ := hW5.out w5.drew hbb.drew
   have hsz5 : wr.heap.size ≤ w5.heap.size := hbb.size
   refine bt_r7 _ ?_ _ _ (w.heap.size + 1) wr.heap.size k cs.length x y f t a n c (fun a' n' c' w' => w'.ownsRow w5.heap.size 55 7 (.slice a' n' c') (wiL ls f t).length ((wiL ls f t).flatMap lxL) ∧ FiL w' (.slice a' n' c')) _ _ _ _ _ _ _ _ _ _ _ _ _ _ _ _ _ _ _ _ _ _ _ _ _ _ _ _ _ _ _ _ _ _ _ _ _ _ _ _ _ _ _ _ _ _ w5 hz1 (by omega) hlt ?_ ?_ ?_
   ·exact fun _ _ _ _ _ h => h
   ·refine h52.mono ?_
    rintro e w6 ⟨⟨u,rfl,hu,huk⟩,hb6⟩
    obtain ⟨ua,uc,rfl⟩ := owns_slice hu
    exact ⟨_,_,_,rfl,⟨hu,huk⟩,hb6⟩
   ·intro a' n' c' w6 ho hb6
    exact (hfin.out w6 a' n' c' (h51.next hb6) ⟨ownsRow_base ho.1 (by omega),ho.2⟩).1
   ·intro a' n' c' w6 ho hb6
    have hI7 : Hid (BkI (w.heap.size + 1 + 1) w (w.heap.size + 1) cs f t (k + 1) (w6.setCells (w.heap.size + 1) (k * 3) (ceA x y (.slice a' n' c')).toList)) := (hfin.out w6 a' n' c' (h51.next hb6) ⟨ownsRow_base ho.1 (by omega),ho.2⟩).2
    generalize w6.setCells (w.heap.size + 1) (k * 3) (ceA x y (.slice a' n' c')).toList = w7 at *
    clear h51 h52 hfin hW5 ho hb6 hz1 hbb
    go_wp2_with fail
    exact ⟨⟨k + 1,by omega,rfl,hI7.out⟩,by simp [intOf]; omega⟩
  ·have hkn : k = cs.length := by omega
   subst hkn
   have hge : ¬ ((cs.length : Nat) : Int) < (cs.length : Int) := by omega
   go_wp2_with fail
   exact hend.out _ hI.out
end Go.Proofs.YtaphggjakaghjaaGreatDoor

namespace Go.Proofs.YtaphggjakaghjaaGreatDoor
open Go.RowKit Go.Shelf

def xws : List Int := [16,14]
theorem x_ce0 : (ceI xws exl 0).map (fun y => (y.f,y.t,y.x)) = [(0,3,2),(3,4,2)] := by kernel_rfl
theorem x_ce1 : (ceI xws exl 1).map (fun y => (y.f,y.t,y.x)) = [(0,2,18)] := by kernel_rfl
theorem x_ck : ckT exl 2 0 = exl := rfl
theorem x_mx : mxN xws exl 2 = 2 := by
 have h0 : (ceI xws exl 0).length = 2 := by have := congrArg List.length x_ce0; rwa [List.length_map] at this
 have h1 : (ceI xws exl 1).length = 1 := by have := congrArg List.length x_ce1; rwa [List.length_map] at this
 show max (max 0 (ceI xws exl 0).length) (ceI xws exl 1).length = 2
 rw [h0,h1]; rfl
theorem list2 {α : Type} {l : List α} (h : l.length = 2) : ∃ a b,l = [a,b] := by
 match l,h with
 | [a,b],_ => exact ⟨a,b,rfl⟩
theorem list1 {α : Type} {l : List α} (h : l.length = 1) : ∃ a,l = [a] := by
 match l,h with
 | [a],_ => exact ⟨a,rfl⟩
structure XRow (r : Rw) (a0 b0 : Lx) (a1 : Lx) (c0 c1 : Cel) : Prop where
 h : r.h = 24
 sp : r.sp = [12]
 cs : r.cs = [c0,c1]
 x0 : c0.x = 0 ∧ c0.w = 16
 x1 : c1.x = 16 ∧ c1.w = 14
 l0 : c0.ls = [a0,b0]
 l1 : c1.ls = [a1]
 q0 : a0.f = 0 ∧ a0.t = 3 ∧ b0.t = 4 ∧ b0.x = 2
theorem x_row {r : Rw} (h : RwIs xws (ckT exl 2 0) r) : ∃ a0 b0 a1 c0 c1,XRow r a0 b0 a1 c0 c1 := by
 rw [x_ck] at h
 have hn : r.cs.length = 2 := h.n
 obtain ⟨c0,c1,hcs⟩ := list2 hn
 have h0 := h.cs 0 (by omega)
 have h1 := h.cs 1 (by omega)
 have g0 : r.cs[0]'(by omega) = c0 := by simp [hcs]
 have g1 : r.cs[1]'(by omega) = c1 := by simp [hcs]
 rw [g0] at h0
 rw [g1] at h1
 have hm : mxN xws exl exl.length = 2 := x_mx
 have hh := h.h
 have hsp := h.sp
 rw [hm] at hh hsp
 have e0 := x_ce0
 have e1 := x_ce1
 rw [← h0.ls] at e0
 rw [← h1.ls] at e1
 have n0 : c0.ls.length = 2 := by have := congrArg List.length e0; rwa [List.length_map] at this
 have n1 : c1.ls.length = 1 := by have := congrArg List.length e1; rwa [List.length_map] at this
 obtain ⟨a0,b0,e⟩ := list2 n0
 obtain ⟨a1,e'⟩ := list1 n1
 rw [e] at e0
 simp only [List.map_cons,List.map_nil,List.cons.injEq,Prod.mk.injEq] at e0
 exact ⟨a0,b0,a1,c0,c1,hh,hsp,hcs,⟨h0.x,h0.w⟩,⟨h1.x,h1.w⟩,e,e',⟨e0.1.1,e0.1.2.1,e0.2.1.2.1,e0.2.1.2.2⟩⟩
end Go.Proofs.YtaphggjakaghjaaGreatDoor

namespace Go.Proofs.YtaphggjakaghjaaGreatDoor
open Go.RowKit Go.Shelf
set_option maxRecDepth 100000
set_option maxHeartbeats 4000000

structure XSh (r : Rw) (c0 c1 : Cel) (T g0 g1 : Nat) (sa : Option Addr) (sc : Nat) : Prop where
 cv : r.cv = .slice (some ⟨T,0,none⟩) 2 2
 v0 : c0.v = .slice (some ⟨g0,0,none⟩) 2 2
 v1 : c1.v = .slice (some ⟨g1,0,none⟩) 1 1
 sv : r.sv = .slice sa 1 sc
theorem x_shape {lo : Nat} {W : World} {r : Rw} {a0 b0 a1 : Lx} {c0 c1 : Cel} (hR : RwAt lo W r) (hX : XRow r a0 b0 a1 c0 c1) : ∃ T g0 g1 sa sc,XSh r c0 c1 T g0 g1 sa sc := by
 obtain ⟨T,_,hv,_⟩ := hR.cv
 obtain ⟨g0,_,h0,_⟩ := (hR.cs c0 (by rw [hX.cs]; simp)).ex
 obtain ⟨g1,_,h1,_⟩ := (hR.cs c1 (by rw [hX.cs]; simp)).ex
 rcases hR.sp.2 with ⟨_,hn⟩ | ⟨g,cap,cur,e,-⟩
 ·rw [hX.sp] at hn; simp at hn
 ·refine ⟨T,g0,g1,some ⟨g,0,none⟩,cap,?_,?_,?_,?_⟩
  ·rw [hv,hX.cs]; rfl
  ·rw [h0,hX.l0]; rfl
  ·rw [h1,hX.l1]; rfl
  ·rw [e,hX.sp]; rfl
structure XC (W : World) (T g0 g1 : Nat) (sa : Option Addr) (sc : Nat) (a0 b0 a1 : Lx) : Prop where
 t0 : W.cell? ⟨T,0,none⟩ = some (.int .i64 0)
 t1 : W.cell? ⟨T,1,none⟩ = some (.int .i64 16)
 t2 : W.cell? ⟨T,2,none⟩ = some (.slice (some ⟨g0,0,none⟩) 2 2)
 t3 : W.cell? ⟨T,3,none⟩ = some (.int .i64 16)
 t4 : W.cell? ⟨T,4,none⟩ = some (.int .i64 14)
 t5 : W.cell? ⟨T,5,none⟩ = some (.slice (some ⟨g1,0,none⟩) 1 1)
 s : InAt W (.slice sa 1 sc) [12]
 l0 : LxsAt W (.slice (some ⟨g0,0,none⟩) 2 2) [a0,b0]
 l1 : LxsAt W (.slice (some ⟨g1,0,none⟩) 1 1) [a1]
 lt : T < W.heap.size
theorem x_cells {lo : Nat} {W : World} {r : Rw} {a0 b0 a1 : Lx} {c0 c1 : Cel} {T g0 g1 : Nat} {sa : Option Addr} {sc : Nat} (hR : RwAt lo W r) (hX : XRow r a0 b0 a1 c0 c1) (hS : XSh r c0 c1 T g0 g1 sa sc) : XC W T g0 g1 sa sc a0 b0 a1 := by
 obtain ⟨T',_,hv,hr⟩ := hR.cv
 rw [hS.cv] at hv
 obtain rfl : T = T' := by simpa using congrArg (fun v => match v with | Value.slice (some a) _ _ => a.block | _ => 0) hv
 have hcs : r.cs = [c0,c1] := hX.cs
 rw [hcs] at hr
 have k0 : ∀ j u,(ceL c0)[j]? = some u → W.cell? ⟨T,0 * 3 + j,none⟩ = some u := fun j u hu => (hr.all 0 (by simp) j u hu).1
 have k1 : ∀ j u,(ceL c1)[j]? = some u → W.cell? ⟨T,1 * 3 + j,none⟩ = some u := fun j u hu => (hr.all 1 (by simp) j u hu).1
 have hl : ∀ c ∈ r.cs,∀ (g n : Nat),c.v = .slice (some ⟨g,0,none⟩) n n → LxsAt W (.slice (some ⟨g,0,none⟩) n n) c.ls := fun c hc g n hg => by
  obtain ⟨g',_,h1,h2⟩ := (hR.cs c hc).ex
  rw [← hg,h1]; exact h2
 have hl0 := hl c0 (by rw [hcs]; simp) g0 2 hS.v0
 have hl1 := hl c1 (by rw [hcs]; simp) g1 1 hS.v1
 rw [hX.l0] at hl0
 rw [hX.l1] at hl1
 have hs := hR.sp
 rw [hX.sp,hS.sv] at hs
 refine ⟨?_,?_,?_,?_,?_,?_,rec_of_row (f := inL) (fun _ => rfl) rfl hs,hl0,hl1,hr.lt⟩
 ·have := k0 0 _ rfl; rw [hX.x0.1] at this; exact this
 ·have := k0 1 _ rfl; rw [hX.x0.2] at this; exact this
 ·have := k0 2 _ rfl; rw [hS.v0] at this; exact this
 ·have := k1 0 _ rfl; rw [hX.x1.1] at this; exact this
 ·have := k1 1 _ rfl; rw [hX.x1.2] at this; exact this
 ·have := k1 2 _ rfl; rw [hS.v1] at this; exact this
def XrEnd (w : World) (e : Ending) (w' : World) : Prop := (∃ r,e = .returned (.tuple #[.agg (rwL r).toArray,.bool true]) ∧ RwAt (w.heap.size + 1) w' r ∧ RwIs xws (ckT exl 2 0) r) ∧ Below w.heap.size w w'
theorem info39l (h : Int) (v u : Value) : (Tryz.prog.info? 39).map (·.size) = some ([Value.int .i64 h,v,u] : List Value).length := by show _ = some 3; kernel_rfl
theorem xrows_any (w : World) : Calls Tryz.prog 24 #[] w (XrEnd w) := by
 have hB0 := (Below.refl w.heap.size w).alloc (Nat.le_refl _) (.cells #[.int .i64 0,.slice none 0 0,.slice none 0 0] 39)
 have hs0 : (w.alloc (.cells #[.int .i64 0,.slice none 0 0,.slice none 0 0] 39)).heap.size = w.heap.size + 1 := World.size_alloc _ _
 have hB1 := hB0.alloc hB0.size (.cells #[.string { data := #[97,98,32,99] },.string { data := #[100,100] }] 9)
 have hst : StrsAt ((w.alloc (.cells #[.int .i64 0,.slice none 0 0,.slice none 0 0] 39)).alloc (.cells #[.string { data := #[97,98,32,99] },.string { data := #[100,100] }] 9)) (.slice (some ⟨w.heap.size + 1,0,none⟩) 2 2) exl := by
  have := strs_new (w.alloc (.cells #[.int .i64 0,.slice none 0 0,.slice none 0 0] 39)) exl
  rw [hs0] at this
  exact this
 have k0 : ((w.alloc (.cells #[.int .i64 0,.slice none 0 0,.slice none 0 0] 39)).alloc (.cells #[.string { data := #[97,98,32,99] },.string { data := #[100,100] }] 9)).heap[w.heap.size]? = some (.cells #[.int .i64 0,.slice none 0 0,.slice none 0 0] 39 (0,0)) := (Below.heap_alloc _ _ _ (by simp)).trans (World.alloc_heap_new w _)
 have hs1 : ((w.alloc (.cells #[.int .i64 0,.slice none 0 0,.slice none 0 0] 39)).alloc (.cells #[.string { data := #[97,98,32,99] },.string { data := #[100,100] }] 9)).heap.size = w.heap.size + 2 := by simp
 have hend : Hid (∀ r W,RwAt (w.heap.size + 1) W r → RwIs xws (ckT exl 2 0) r → Below w.heap.size w W → XrEnd w (.returned (.tuple #[.agg (rwL r).toArray,.bool true])) W) := fun r W h1 h2 h3 => ⟨⟨r,rfl,h1,h2⟩,h3⟩
 generalize XrEnd w = E at *
 have hrow := rows_yes 2 (.slice (some ⟨w.heap.size + 1,0,none⟩) 2 2) exl 30 ex_small _ hst ex_ck (by omega)
 generalize hw1 : (w.alloc (.cells #[.int .i64 0,.slice none 0 0,.slice none 0 0] 39)).alloc (.cells #[.string { data := #[97,98,32,99] },.string { data := #[100,100] }] 9) = w1 at *
 have hw1' : Hid ((w.alloc (.cells #[.int .i64 0,.slice none 0 0,.slice none 0 0] 39)).alloc (.cells #[.string { data := #[97,98,32,99] },.string { data := #[100,100] }] 9) = w1) := hw1
 have hcall : Hid (Calls Tryz.prog 9 #[.agg #[.int .i64 2,.slice (some ⟨w.heap.size + 1,0,none⟩) 2 2],.int .i64 30] w1 fun e w' => ∃ (g cap : Nat) (r : Rw) (a b : Value) (h : Int),(∃ sa n sc,a = .slice sa n sc) ∧ e = .returned (.tuple #[.slice (some ⟨g,0,none⟩) 1 cap,.int .i64 0]) ∧ RwAt w1.heap.size w' r ∧ RwIs xws (ckT exl 2 0) r ∧ rwL r = [.int .i64 h,a,b] ∧ w'.rangeAt g 0 [.int .i64 h,a,b] ∧ (∃ T,b = .slice (some ⟨T,0,none⟩) 2 2) ∧ w'.cell? ⟨g,2,none⟩ = some b ∧ Below w1.heap.size w1 w') := by
  refine hrow.mono ?_
  rintro e w' ⟨hb,(⟨h1,_⟩ | ⟨_,h1,_⟩ | ⟨_,_,u,rs,rfl,hA,hI⟩)⟩
  ·exact absurd ex_ck h1
  ·exact absurd (by omega) h1
  ·rw [show ((2 : Nat) : Int).toNat = 2 from rfl,ex_w30.1] at hI
   have hn : rs.length = 1 := by have := hI.num; have e : exl.length = 2 := rfl; rw [e] at this; omega
   obtain ⟨r,rfl⟩ := list1 hn
   have hrw := hA.row
   obtain ⟨g,cap,rfl,_,_,hrb⟩ := row_rb rwL_len hrw (by simp)
   have hRr := hA.rs r (by simp)
   have hIr := hI.rs 0 (by simp)
   have hk : ∀ j u,(rwL r)[j]? = some u → w'.cell? ⟨g,0 * 3 + j,none⟩ = some u := fun j u hu => (hrb.all 0 (by simp) j u hu).1
   obtain ⟨T,_,hcv,_⟩ := hRr.cv
   have hcn : r.cs.length = 2 := hIr.n
   refine ⟨g,cap,r,r.sv,r.cv,r.h,(by obtain ⟨x,y,e⟩ := owns_slice hRr.sp; exact ⟨x,_,y,e⟩),rfl,hRr,hIr,rfl,fun j v hv => ?_,⟨T,by rw [hcv,hcn]⟩,hk 2 _ rfl,hb⟩
   have := hk j v hv
   rwa [Nat.zero_mul] at this
 clear hw1 hrow hst hs0 hB0
 go_enter Tryz.func24,Tryz.ntmps24
 go_wp2_with (first | (rw [hw1'.out]; go_at_call 9; refine hcall.out.mono ?_; rintro e w2 ⟨g,cap,r,a,b,h,⟨sa,n,sc,rfl⟩,rfl,hR,hI,hrl,hrg,⟨T,rfl⟩,c2,hb2⟩; have k2 : w2.heap[w.heap.size]? = some (.cells #[.int .i64 0,.slice none 0 0,.slice none 0 0] 39 (0,0)) := (hb2.block _ (by omega)).trans k0; have hRh : Hid (RwAt w1.heap.size w2 r ∧ RwIs xws (ckT exl 2 0) r ∧ rwL r = [.int .i64 h,.slice sa n sc,.slice (some ⟨T,0,none⟩) 2 2]) := ⟨hR,hI,hrl⟩; clear hR hI hrl) | (refine wpList_load_mid rfl 39 _ rfl g 0 rfl [.int .i64 h,.slice sa n sc,.slice (some ⟨T,0,none⟩) 2 2] _ hrg Tryz.underlying39 rfl (info39l _ _ _) ?_) | (refine wpList_store_row rfl 39 _ _ rfl w.heap.size #[.int .i64 h,.slice sa n sc,.slice (some ⟨T,0,none⟩) 2 2] rfl rfl 39 _ k2 (info39w _ _ _) rfl (one39 _ _ _ _ _ rfl) ?_))
 refine bodyPost_ret (results_cell_row2 rfl _ _ w.heap.size 39 _ (0,0) _ rfl (setRow_heap _ _ _ _ _ _ k2) Tryz.underlying39 rfl (info39w _ _ _)) rfl ?_
 obtain ⟨hR,hI,hrl⟩ := hRh.out
 have hT := Turns.setRow (X := fun j => j = w.heap.size) w2 (r := w.heap.size) rfl #[.int .i64 h,.slice sa n sc,.slice (some ⟨T,0,none⟩) 2 2]
 have hB2 := hB1.trans (hb2.mono hB1.size)
 have he := hend.out r (w2.setRow w.heap.size #[.int .i64 h,.slice sa n sc,.slice (some ⟨T,0,none⟩) 2 2]) ((hR.turns hT (fun k hk e => by omega)).lo (by omega)) hI (hB2.trans (hT.below hB2.size (fun j hj => by omega)))
 rw [hrl] at he
 exact he
end Go.Proofs.YtaphggjakaghjaaGreatDoor

namespace Go.Proofs.YtaphggjakaghjaaGreatDoor
open Go.RowKit Go.Shelf
set_option maxRecDepth 100000
set_option maxHeartbeats 4000000

structure XAt (lo : Nat) (W : World) (T g0 g1 : Nat) (sa : Option Addr) (sc : Nat) (a0 b0 a1 : Lx) : Prop where
 ex : ∃ r c0 c1,RwAt lo W r ∧ XRow r a0 b0 a1 c0 c1 ∧ XSh r c0 c1 T g0 g1 sa sc
theorem XAt.below {lo : Nat} {W W' : World} {T g0 g1 : Nat} {sa : Option Addr} {sc : Nat} {a0 b0 a1 : Lx} (h : XAt lo W T g0 g1 sa sc a0 b0 a1) (hb : Below W.heap.size W W') : XAt lo W' T g0 g1 sa sc a0 b0 a1 := by
 obtain ⟨r,c0,c1,h1,h2,h3⟩ := h.ex
 exact ⟨r,c0,c1,h1.below hb,h2,h3⟩
theorem XAt.c {lo : Nat} {W : World} {T g0 g1 : Nat} {sa : Option Addr} {sc : Nat} {a0 b0 a1 : Lx} (h : XAt lo W T g0 g1 sa sc a0 b0 a1) : XC W T g0 g1 sa sc a0 b0 a1 := by
 obtain ⟨r,c0,c1,h1,h2,h3⟩ := h.ex
 exact x_cells h1 h2 h3
def xQ (a0 b0 : Lx) : Prop := a0.f = 0 ∧ a0.t = 3 ∧ b0.t = 4 ∧ b0.x = 2
theorem xrows_at (w : World) : Calls Tryz.prog 24 #[] w fun e w' => ∃ T g0 g1 sa sc a0 b0 a1,e = .returned (.tuple #[.agg #[.int .i64 24,.slice sa 1 sc,.slice (some ⟨T,0,none⟩) 2 2],.bool true]) ∧ XAt (w.heap.size + 1) w' T g0 g1 sa sc a0 b0 a1 ∧ xQ a0 b0 ∧ Below w.heap.size w w' := by
 refine (xrows_any w).mono ?_
 rintro e w' ⟨⟨r,rfl,hR,hI⟩,hb⟩
 obtain ⟨a0,b0,a1,c0,c1,hX⟩ := x_row hI
 obtain ⟨T,g0,g1,sa,sc,hS⟩ := x_shape hR hX
 refine ⟨T,g0,g1,sa,sc,a0,b0,a1,?_,⟨r,c0,c1,hR,hX,hS⟩,hX.q0,hb⟩
 have : (rwL r).toArray = #[.int .i64 24,.slice sa 1 sc,.slice (some ⟨T,0,none⟩) 2 2] := by
  show #[Value.int .i64 r.h,r.sv,r.cv] = _
  rw [hX.h,hS.sv,hS.cv]
 rw [this]
theorem in_one (w : World) (x : Int) : InAt (w.alloc (.cells #[.int .i64 x] 3)) (.slice (some ⟨w.heap.size,0,none⟩) 1 1) [x] := by
 have := rec_new (f := inL) (k := 1) (fun _ => rfl) w 3 [x]
 exact this
theorem awake19 (w : World) : Calls Tryz.prog 19 #[] w fun e w' => e = .returned (.bool true) ∧ Below w.heap.size w w' := by
 have hcall := xrows_at w
 go_enter Tryz.func19,Tryz.ntmps19
 go_wp2_with (first | (go_at_call 24; refine hcall.mono ?_; rintro e w2 ⟨T,g0,g1,sa,sc,a0,b0,a1,rfl,hX,hq,hb2⟩; have hB3 : Hid (Below w.heap.size w (w2.alloc (.cells #[.int .i64 24,.slice sa 1 sc,.slice (some ⟨T,0,none⟩) 2 2] 39))) := hb2.alloc hb2.size _; have hXh : Hid (∀ W,Below w2.heap.size w2 W → XC W T g0 g1 sa sc a0 b0 a1) := fun W hb => (hX.below hb).c; have hbx : Hid (∀ W,Below (w2.heap.size + 1) (w2.alloc (.cells #[.int .i64 24,.slice sa 1 sc,.slice (some ⟨T,0,none⟩) 2 2] 39)) W → W.heap[w2.heap.size]? = some (.cells #[.int .i64 24,.slice sa 1 sc,.slice (some ⟨T,0,none⟩) 2 2] 39 (0,0))) := fun W hb => (hb.block _ (by omega)).trans (World.alloc_heap_new w2 _); have h23 : Hid (Below w2.heap.size w2 (w2.alloc (.cells #[.int .i64 24,.slice sa 1 sc,.slice (some ⟨T,0,none⟩) 2 2] 39))) := (Below.refl w2.heap.size w2).alloc (Nat.le_refl _) _; (have d0 : (w2.alloc (.cells #[.int .i64 24,.slice sa 1 sc,.slice (some ⟨T,0,none⟩) 2 2] 39)).cell? ⟨w2.heap.size,0,none⟩ = some (.int .i64 24) := by rw [Lib.cell_of_heap (hbx.out _ (Below.refl _ _))]; rfl); (have d1 : (w2.alloc (.cells #[.int .i64 24,.slice sa 1 sc,.slice (some ⟨T,0,none⟩) 2 2] 39)).cell? ⟨w2.heap.size,1,none⟩ = some (.slice sa 1 sc) := by rw [Lib.cell_of_heap (hbx.out _ (Below.refl _ _))]; rfl); have hsi : Hid (Calls Tryz.prog 32 #[.slice sa 1 sc,.slice (some ⟨w2.heap.size + 1,0,none⟩) 1 1] ((w2.alloc (.cells #[.int .i64 24,.slice sa 1 sc,.slice (some ⟨T,0,none⟩) 2 2] 39)).alloc (.cells #[.int .i64 12] 3)) fun e w' => e = .returned (.bool true) ∧ Below ((w2.alloc (.cells #[.int .i64 24,.slice sa 1 sc,.slice (some ⟨T,0,none⟩) 2 2] 39)).alloc (.cells #[.int .i64 12] 3)).heap.size ((w2.alloc (.cells #[.int .i64 24,.slice sa 1 sc,.slice (some ⟨T,0,none⟩) 2 2] 39)).alloc (.cells #[.int .i64 12] 3)) w') := sameInts_yes (.slice sa 1 sc) _ [12] (by decide) _ (hXh.out _ (h23.out.alloc h23.out.size _)).s (by have := in_one (w2.alloc (.cells #[.int .i64 24,.slice sa 1 sc,.slice (some ⟨T,0,none⟩) 2 2] 39)) 12; rw [World.size_alloc] at this; exact this); clear hX hcall hq hb2) | (go_at_call 32; refine hsi.out.mono ?_; rintro e w5 ⟨rfl,hb5⟩; have hb35 : Below (w2.heap.size + 1) (w2.alloc (.cells #[.int .i64 24,.slice sa 1 sc,.slice (some ⟨T,0,none⟩) 2 2] 39)) w5 := ((Below.refl _ _).alloc (by simp) _).trans (hb5.mono (by simp)); have hx5 := hXh.out w5 (h23.out.trans (hb35.mono (by omega))); have hB5 : Hid (Below w.heap.size w w5) := hB3.out.trans (hb35.mono (by have := hB3.out.size; simpa using this)); (have e2 : w5.cell? ⟨w2.heap.size,2,none⟩ = some (.slice (some ⟨T,0,none⟩) 2 2) := by rw [Lib.cell_of_heap (hbx.out _ hb35)]; rfl); have t2 := hx5.t2; have t5 := hx5.t5; clear hx5 hb35 hb5 hsi hXh hbx h23 d0 d1 hB3))
 go_ret
 exact ⟨rfl,hB5.out⟩
end Go.Proofs.YtaphggjakaghjaaGreatDoor
