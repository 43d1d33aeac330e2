/-
  What is proved here: what stop of least answers.
  What is proved here: the stops of items (no program is named), and their bounds.
-/
import Derived.Test.YtfiekhephkpdjaaGreatDoorG19
namespace Go.Proofs.YtfiekhephkpdjaaGreatDoor
open Go.RowKit Go.Shelf
set_option maxRecDepth 100000
set_option maxHeartbeats 4000000

theorem SpY.drew {B b n g o c0 : Nat} {v1 v2 : Value} {W0 C : Int} {y : Bool} {W : World} (h : SpY B b n g o c0 v1 v2 W0 C y W) : SpY B b n g o c0 v1 v2 W0 C y W.drew := ⟨h.r,h.w,h.c,h.y⟩
def stS (l : List It) (b : Nat) : St := if b < l.length ∧ (itAt l b).k = 3 then ⟨b,bgN l b,⟨(baF l b).w + (itAt l b).w,(baF l b).s,(baF l b).h⟩,alF l (bgN l b),(itAt l b).c,(itAt l b).y,false,0⟩ else ⟨b,bgN l b,baF l b,alF l (bgN l b),0,false,decide (b = l.length),0⟩
theorem baF_al {l : List It} : ∀ i,∃ j,j ≤ i ∧ baF l i = alF l j
 | 0 => ⟨0,Nat.le_refl _,rfl⟩
 | i + 1 => by
  unfold baF
  split
  ·obtain ⟨j,h1,h2⟩ := baF_al (l := l) i
   exact ⟨j,by omega,h2⟩
  ·exact ⟨i + 1,Nat.le_refl _,rfl⟩
theorem lstop_any (v va vb : Value) (l : List It) (b : Nat) (h : ckL l = 0) (hb : b ≤ l.length) (w : World) (hR : RuAt w v va vb l) :
  Calls Tryz.prog 100 #[.agg (ruA v va vb),.int .i64 b] w fun e w' => e = .returned (.agg (stL (stS l b)).toArray) ∧ Below w.heap.size w w' := by
 have h8 := ck_len h
 obtain ⟨a0,c0,rfl,-⟩ := hR.i.ex
 obtain ⟨ga,oa,ca,rfl,hga,-,hrga⟩ := sus_at hR.a
 obtain ⟨gb,ob,cb,rfl,hgb,-,hrgb⟩ := sus_at hR.b
 have hbg := bg_le hb
 have hb0 := below2 w (.cells #[.slice a0 l.length c0,.slice (some ⟨ga,oa,none⟩) (l.length + 1) ca,.slice (some ⟨gb,ob,none⟩) (l.length + 1) cb] 133) (.cells #[.int .i64 0,.int .i64 0,.int .i64 0,.int .i64 0,.int .i64 0,.int .i64 0,.int .i64 0,.int .i64 0,.int .i64 0,.bool false,.bool false,.int .i64 0] 184)
 have hr2 := alloc2_heap w (.cells #[.slice a0 l.length c0,.slice (some ⟨ga,oa,none⟩) (l.length + 1) ca,.slice (some ⟨gb,ob,none⟩) (l.length + 1) cb] 133) (.cells #[.int .i64 0,.int .i64 0,.int .i64 0,.int .i64 0,.int .i64 0,.int .i64 0,.int .i64 0,.int .i64 0,.int .i64 0,.bool false,.bool false,.int .i64 0] 184)
 have hr1 : ((w.alloc (.cells #[.slice a0 l.length c0,.slice (some ⟨ga,oa,none⟩) (l.length + 1) ca,.slice (some ⟨gb,ob,none⟩) (l.length + 1) cb] 133)).alloc (.cells #[.int .i64 0,.int .i64 0,.int .i64 0,.int .i64 0,.int .i64 0,.int .i64 0,.int .i64 0,.int .i64 0,.int .i64 0,.bool false,.bool false,.int .i64 0] 184)).heap[w.heap.size]? = some (.cells #[.slice a0 l.length c0,.slice (some ⟨ga,oa,none⟩) (l.length + 1) ca,.slice (some ⟨gb,ob,none⟩) (l.length + 1) cb] 133 (0,0)) := (Below.heap_alloc _ _ _ (by simp)).trans (World.alloc_heap_new w _)
 have hnx : Hid (Calls Tryz.prog 136 #[.slice a0 l.length c0,.int .i64 b] ((w.alloc (.cells #[.slice a0 l.length c0,.slice (some ⟨ga,oa,none⟩) (l.length + 1) ca,.slice (some ⟨gb,ob,none⟩) (l.length + 1) cb] 133)).alloc (.cells #[.int .i64 0,.int .i64 0,.int .i64 0,.int .i64 0,.int .i64 0,.int .i64 0,.int .i64 0,.int .i64 0,.int .i64 0,.bool false,.bool false,.int .i64 0] 184)) fun e w' => e = .returned (.int .i64 (bgN l b : Nat)) ∧ Below ((w.alloc (.cells #[.slice a0 l.length c0,.slice (some ⟨ga,oa,none⟩) (l.length + 1) ca,.slice (some ⟨gb,ob,none⟩) (l.length + 1) cb] 133)).alloc (.cells #[.int .i64 0,.int .i64 0,.int .i64 0,.int .i64 0,.int .i64 0,.int .i64 0,.int .i64 0,.int .i64 0,.int .i64 0,.bool false,.bool false,.int .i64 0] 184)).heap.size ((w.alloc (.cells #[.slice a0 l.length c0,.slice (some ⟨ga,oa,none⟩) (l.length + 1) ca,.slice (some ⟨gb,ob,none⟩) (l.length + 1) cb] 133)).alloc (.cells #[.int .i64 0,.int .i64 0,.int .i64 0,.int .i64 0,.int .i64 0,.int .i64 0,.int .i64 0,.int .i64 0,.int .i64 0,.bool false,.bool false,.int .i64 0] 184)) w') := next60_any _ l b h hb _ (hR.i.below hb0 (Nat.le_refl _))
 have hres : Hid (∀ W,Below ((w.alloc (.cells #[.slice a0 l.length c0,.slice (some ⟨ga,oa,none⟩) (l.length + 1) ca,.slice (some ⟨gb,ob,none⟩) (l.length + 1) cb] 133)).alloc (.cells #[.int .i64 0,.int .i64 0,.int .i64 0,.int .i64 0,.int .i64 0,.int .i64 0,.int .i64 0,.int .i64 0,.int .i64 0,.bool false,.bool false,.int .i64 0] 184)).heap.size ((w.alloc (.cells #[.slice a0 l.length c0,.slice (some ⟨ga,oa,none⟩) (l.length + 1) ca,.slice (some ⟨gb,ob,none⟩) (l.length + 1) cb] 133)).alloc (.cells #[.int .i64 0,.int .i64 0,.int .i64 0,.int .i64 0,.int .i64 0,.int .i64 0,.int .i64 0,.int .i64 0,.int .i64 0,.bool false,.bool false,.int .i64 0] 184)) W → SpX w.heap.size b (bgN l b) l.length a0 c0 ga oa ca gb ob cb (baF l b) (alF l (bgN l b)) W ∧ W.heap[w.heap.size + 1]? = some (.cells #[.int .i64 0,.int .i64 0,.int .i64 0,.int .i64 0,.int .i64 0,.int .i64 0,.int .i64 0,.int .i64 0,.int .i64 0,.bool false,.bool false,.int .i64 0] 184 (0,0)) ∧ Below w.heap.size w W) := fun W hW => by
  have hbW := hb0.trans (hW.mono hb0.size)
  exact ⟨⟨(hW.block _ (by simp; omega)).trans hr1,fun j u hu => (hbW.cell hgb).trans (hrgb _ hb j u hu),fun j u hu => (hbW.cell hga).trans (hrga _ hbg.2 j u hu),Nat.lt_of_lt_of_le hgb hbW.size,Nat.lt_of_lt_of_le hga hbW.size⟩,(hW.block _ (by simp)).trans hr2,hbW⟩
 have hsz : Hid (∀ W,Below ((w.alloc (.cells #[.slice a0 l.length c0,.slice (some ⟨ga,oa,none⟩) (l.length + 1) ca,.slice (some ⟨gb,ob,none⟩) (l.length + 1) cb] 133)).alloc (.cells #[.int .i64 0,.int .i64 0,.int .i64 0,.int .i64 0,.int .i64 0,.int .i64 0,.int .i64 0,.int .i64 0,.int .i64 0,.bool false,.bool false,.int .i64 0] 184)).heap.size ((w.alloc (.cells #[.slice a0 l.length c0,.slice (some ⟨ga,oa,none⟩) (l.length + 1) ca,.slice (some ⟨gb,ob,none⟩) (l.length + 1) cb] 133)).alloc (.cells #[.int .i64 0,.int .i64 0,.int .i64 0,.int .i64 0,.int .i64 0,.int .i64 0,.int .i64 0,.int .i64 0,.int .i64 0,.bool false,.bool false,.int .i64 0] 184)) W → w.heap.size + 1 < W.heap.size) := fun W hW => by have := hW.size; simp at this; omega
 have hb' : (b : Int) < (l.length : Int) + 1 := by omega
 have hq' : ((bgN l b : Nat) : Int) < (l.length : Int) + 1 := by omega
 have hit : Hid (∀ hlt : b < l.length,∃ g o,a0 = some ⟨g,o,none⟩ ∧ g < w.heap.size ∧ ∀ W,Below w.heap.size w W → ItAt w g (o + b * 8) l[b] W) := fun hlt => its_at hR.i hlt
 have hbr : Hid ((-8589934592 ≤ (baF l b).w ∧ (baF l b).w ≤ 8589934592)) := by
  obtain ⟨j,hj,e⟩ := baF_al (l := l) b
  have := alF_rng h j (by omega)
  show _ ∧ _
  rw [e]; omega
 have hokk : Hid (∀ hlt : b < l.length,0 ≤ (l[b]).w ∧ (l[b]).w ≤ 524288) := fun hlt => by
  have hok := ok_at h b hlt
  rw [itAt_is hlt] at hok
  unfold okP at hok
  omega
 clear hR hb0 hr1 hr2 hrga hrgb h
 show Calls Tryz.prog 100 #[.agg #[.slice a0 l.length c0,.slice (some ⟨ga,oa,none⟩) (l.length + 1) ca,.slice (some ⟨gb,ob,none⟩) (l.length + 1) cb],.int .i64 b] w _
 by_cases hlt : b < l.length
 ·obtain ⟨g,o,rfl,hgl,hcells⟩ := hit.out hlt
  have hcellsh : Hid (∀ W,Below w.heap.size w W → ItAt w g (o + b * 8) l[b] W) := hcells
  have hlt' : (b : Int) < l.length := by omega
  have hne : ((b : Int) == (l.length : Int)) = false := by simp; omega
  by_cases hk3 : (l[b]).k = 3
  ·have e : stS l b = ⟨b,bgN l b,⟨(baF l b).w + (l[b]).w,(baF l b).s,(baF l b).h⟩,alF l (bgN l b),(l[b]).c,(l[b]).y,false,0⟩ := by unfold stS; rw [if_pos ⟨hlt,by rw [itAt_is hlt]; exact hk3⟩,itAt_is hlt]
   rw [e]
   have hbr1 := hbr.out
   have hok1 := hokk.out hlt
   clear hit hcells e hbr hokk
   generalize bgN l b = q at *
   generalize alF l q = y at *
   generalize baF l b = x at *
   generalize l[b] = it at *
   go_enter Tryz.func100,Tryz.ntmps100
   go_wp2_with fail
   generalize ((w.alloc (.cells #[.slice (some ⟨g,o,none⟩) l.length c0,.slice (some ⟨ga,oa,none⟩) (l.length + 1) ca,.slice (some ⟨gb,ob,none⟩) (l.length + 1) cb] 133)).alloc (.cells #[.int .i64 0,.int .i64 0,.int .i64 0,.int .i64 0,.int .i64 0,.int .i64 0,.int .i64 0,.int .i64 0,.int .i64 0,.bool false,.bool false,.int .i64 0] 184)) = wz at *
   go_wp2_with (go_at_call 136; refine hnx.out.mono ?_; rintro e w2 ⟨rfl,hb2⟩; obtain ⟨q1,q2,q3⟩ := hres.out w2 hb2; have hsz2 : Hid (w.heap.size + 1 < w2.heap.size) := hsz.out w2 hb2; have q1h : Hid (SpX w.heap.size b q l.length (some ⟨g,o,none⟩) c0 ga oa ca gb ob cb x y w2) := q1; have q2h : Hid (w2.heap[w.heap.size + 1]? = _) := q2; have q3h : Hid (Below w.heap.size w w2) := q3; clear q1 q2 q3 hb2 hres hnx hsz)
   refine sp_r2 _ (fun _ _ _ _ _ h => h) _ _ w.heap.size b q l.length (some ⟨g,o,none⟩) c0 ga oa ca gb ob cb x y false w2 (q1h.out.below (Below.refl _ _).drew (Nat.le_refl _)) hne hb' hq' ?_
   intro w3 hb3 hT3 hX3
   have hlow3 : Hid (Below w.heap.size w w3) := q3h.out.trans (hb3.mono q3h.out.size)
   have hrr3 : Hid (w3.heap[w.heap.size + 1]? = some (.cells #[.int .i64 0,.int .i64 0,.int .i64 0,.int .i64 0,.int .i64 0,.int .i64 0,.int .i64 0,.int .i64 0,.int .i64 0,.bool false,.bool false,.int .i64 0] 184 (0,0))) := (hb3.block _ hsz2.out).trans q2h.out
   have hi := hcellsh.out w3 hlow3.out
   have ck := hi.c0
   rw [hk3] at ck
   have hY : Hid (SpY w.heap.size b l.length g o c0 (.slice (some ⟨ga,oa,none⟩) (l.length + 1) ca) (.slice (some ⟨gb,ob,none⟩) (l.length + 1) cb) it.w it.c it.y w3) := ⟨hX3.r,hi.c3,hi.c6,hi.c7⟩
   have c10 : w3.cell? ⟨w2.heap.size,10,none⟩ = some (.bool false) := by rw [Lib.cell_of_heap hT3]; rfl
   have cB0 := hX3.f0
   have hT3h : Hid (w3.heap[w2.heap.size]? = some (.cells (stL ⟨b,q,x,y,0,false,false,0⟩).toArray 184 (0,0))) := hT3
   have hBT : Hid (w.heap.size ≠ w2.heap.size ∧ g ≠ w2.heap.size) := ⟨by have := hsz2.out; omega,by have := hsz2.out; omega⟩
   generalize w2.heap.size = T at *
   clear hT3 hX3 hi hb3 q1h q2h
   unfold fr31
   go_wp2_with fail
   have hDr : Turns (fun k => k = T) w3 (World.drew w3) := Turns.drew _ w3
   refine sp_r4 _ (fun _ _ _ _ _ h => h) _ _ w.heap.size b l.length g o c0 (.slice (some ⟨ga,oa,none⟩) (l.length + 1) ca) (.slice (some ⟨gb,ob,none⟩) (l.length + 1) cb) it.w it.c it.y T ⟨b,q,x,y,0,false,false,0⟩ w3 hY.out.drew hT3h.out hBT.out.1 hBT.out.2 hlt' hbr1.1 hbr1.2 hok1.1 hok1.2 ?_
   have hTu4 := hDr.trans (Turns.setCell (X := fun k => k = T) (World.drew w3) (p := ⟨T,2,none⟩) rfl (.int .i64 (x.w + it.w)))
   have hT4 : Hid (((World.drew w3).setCell ⟨T,2,none⟩ (.int .i64 (x.w + it.w))).heap[T]? = some (.cells (stL ⟨b,q,⟨x.w + it.w,x.s,x.h⟩,y,0,false,false,0⟩).toArray 184 (0,0))) := heap_setCell_same _ T 2 _ 184 _ hT3h.out
   have hY4 : Hid (SpY w.heap.size b l.length g o c0 (.slice (some ⟨ga,oa,none⟩) (l.length + 1) ca) (.slice (some ⟨gb,ob,none⟩) (l.length + 1) cb) it.w it.c it.y ((World.drew w3).setCell ⟨T,2,none⟩ (.int .i64 (x.w + it.w)))) := SpY.set (W := World.drew w3) hY.out.drew hBT.out.1 hBT.out.2 _
   have hTu4h : Hid (Turns (fun k => k = T) w3 ((World.drew w3).setCell ⟨T,2,none⟩ (.int .i64 (x.w + it.w)))) := hTu4
   generalize (World.drew w3).setCell ⟨T,2,none⟩ (.int .i64 (x.w + it.w)) = w4 at *
   clear hTu4 hDr
   unfold fr31
   go_wp2_with fail
   refine sp_r5 _ (fun _ _ _ _ _ h => h) _ _ w.heap.size b l.length g o c0 (.slice (some ⟨ga,oa,none⟩) (l.length + 1) ca) (.slice (some ⟨gb,ob,none⟩) (l.length + 1) cb) it.w it.c it.y T ⟨b,q,⟨x.w + it.w,x.s,x.h⟩,y,0,false,false,0⟩ w4 hY4.out.drew hT4.out hBT.out.1 hBT.out.2 hlt' ?_
   intro w5 hTu5 hT5
   have hTT := hTu4h.out.trans hTu5
   have hT5l : T < w5.heap.size := (Array.getElem?_eq_some_iff.1 hT5).1
   have hTge : w.heap.size + 1 < T := hsz2.out
   have hrr5 : w5.heap[w.heap.size + 1]? = some (.cells #[.int .i64 0,.int .i64 0,.int .i64 0,.int .i64 0,.int .i64 0,.int .i64 0,.int .i64 0,.int .i64 0,.int .i64 0,.bool false,.bool false,.int .i64 0] 184 (0,0)) := (hTT.block _ (Array.getElem?_eq_some_iff.1 hrr3.out).1 (by omega)).trans hrr3.out
   have hlow5 : Hid (Below w.heap.size w w5) := hlow3.out.trans (hTT.below hlow3.out.size (fun k hk => by omega))
   have hT5' : w5.heap[T]? = some (.cells (stL ⟨b,q,⟨x.w + it.w,x.s,x.h⟩,y,it.c,it.y,false,0⟩).toArray 184 (0,0)) := hT5
   clear hT5 hTu5 hTT hY hY4 hT4 hT3h hTu4h
   unfold fr31
   go_wp2_with (first | (refine wpList_load_row rfl 184 _ rfl T rfl 184 _ (0,0) _ hT5' Tryz.underlying184 rfl (info91 _) ?_) | (refine wpList_store_row rfl 184 _ _ rfl (w.heap.size + 1) (stL ⟨b,q,⟨x.w + it.w,x.s,x.h⟩,y,it.c,it.y,false,0⟩).toArray rfl rfl 184 _ hrr5 (info91 _) rfl (stL_all _) ?_))
   exact bodyPost_ret (results_cell_row rfl _ _ (w.heap.size + 1) 184 _ (0,0) _ rfl (setRow_heap _ _ _ _ _ _ hrr5) Tryz.underlying184 rfl (info91 _)) rfl ⟨rfl,hlow5.out.trans ((Turns.setRow (X := fun k => k = w.heap.size + 1) _ rfl _).below hlow5.out.size (fun k hk => by omega))⟩
  ·have e : stS l b = ⟨b,bgN l b,baF l b,alF l (bgN l b),0,false,false,0⟩ := by unfold stS; rw [if_neg (fun h => hk3 (by rw [← itAt_is hlt]; exact h.2)),decide_eq_false (by omega)]
   rw [e]
   have hk3' : ((l[b]).k == 3) = false := by simpa using hk3
   clear hit hcells e hbr hokk hk3
   generalize bgN l b = q at *
   generalize alF l q = y at *
   generalize baF l b = x at *
   generalize l[b] = it at *
   go_enter Tryz.func100,Tryz.ntmps100
   go_wp2_with fail
   generalize ((w.alloc (.cells #[.slice (some ⟨g,o,none⟩) l.length c0,.slice (some ⟨ga,oa,none⟩) (l.length + 1) ca,.slice (some ⟨gb,ob,none⟩) (l.length + 1) cb] 133)).alloc (.cells #[.int .i64 0,.int .i64 0,.int .i64 0,.int .i64 0,.int .i64 0,.int .i64 0,.int .i64 0,.int .i64 0,.int .i64 0,.bool false,.bool false,.int .i64 0] 184)) = wz at *
   go_wp2_with (go_at_call 136; refine hnx.out.mono ?_; rintro e w2 ⟨rfl,hb2⟩; obtain ⟨q1,q2,q3⟩ := hres.out w2 hb2; have hsz2 : Hid (w.heap.size + 1 < w2.heap.size) := hsz.out w2 hb2; have q1h : Hid (SpX w.heap.size b q l.length (some ⟨g,o,none⟩) c0 ga oa ca gb ob cb x y w2) := q1; have q2h : Hid (w2.heap[w.heap.size + 1]? = _) := q2; have q3h : Hid (Below w.heap.size w w2) := q3; clear q1 q2 q3 hb2 hres hnx hsz)
   refine sp_r2 _ (fun _ _ _ _ _ h => h) _ _ w.heap.size b q l.length (some ⟨g,o,none⟩) c0 ga oa ca gb ob cb x y false w2 (q1h.out.below (Below.refl _ _).drew (Nat.le_refl _)) hne hb' hq' ?_
   intro w3 hb3 hT3 hX3
   have hlow3 : Hid (Below w.heap.size w w3) := q3h.out.trans (hb3.mono q3h.out.size)
   have hrr3 : w3.heap[w.heap.size + 1]? = some (.cells #[.int .i64 0,.int .i64 0,.int .i64 0,.int .i64 0,.int .i64 0,.int .i64 0,.int .i64 0,.int .i64 0,.int .i64 0,.bool false,.bool false,.int .i64 0] 184 (0,0)) := (hb3.block _ hsz2.out).trans q2h.out
   have hi := hcellsh.out w3 hlow3.out
   have ck := hi.c0
   clear hi
   have c10 : w3.cell? ⟨w2.heap.size,10,none⟩ = some (.bool false) := by rw [Lib.cell_of_heap hT3]; rfl
   have cB0 := hX3.f0
   generalize w2.heap.size = T at *
   clear hX3 hb3 q1h q2h
   unfold fr31
   go_wp2_with (first | (refine wpList_load_row rfl 184 _ rfl T rfl 184 _ (0,0) _ hT3 Tryz.underlying184 rfl (info91 _) ?_) | (refine wpList_store_row rfl 184 _ _ rfl (w.heap.size + 1) (stL ⟨b,q,x,y,0,false,false,0⟩).toArray rfl rfl 184 _ hrr3 (info91 _) rfl (stL_all _) ?_))
   exact bodyPost_ret (results_cell_row rfl _ _ (w.heap.size + 1) 184 _ (0,0) _ rfl (setRow_heap _ _ _ _ _ _ hrr3) Tryz.underlying184 rfl (info91 _)) rfl ⟨rfl,hlow3.out.trans ((Turns.setRow (X := fun k => k = w.heap.size + 1) _ rfl _).below hlow3.out.size (fun k hk => by omega))⟩
 ·have e : stS l b = ⟨b,bgN l b,baF l b,alF l (bgN l b),0,false,true,0⟩ := by unfold stS; rw [if_neg (fun h => hlt h.1),decide_eq_true (by omega)]
  rw [e]
  have hne : ((b : Int) == (l.length : Int)) = true := by simp; omega
  clear hit e hbr hokk
  generalize bgN l b = q at *
  generalize alF l q = y at *
  generalize baF l b = x at *
  go_enter Tryz.func100,Tryz.ntmps100
  go_wp2_with fail
  generalize ((w.alloc (.cells #[.slice a0 l.length c0,.slice (some ⟨ga,oa,none⟩) (l.length + 1) ca,.slice (some ⟨gb,ob,none⟩) (l.length + 1) cb] 133)).alloc (.cells #[.int .i64 0,.int .i64 0,.int .i64 0,.int .i64 0,.int .i64 0,.int .i64 0,.int .i64 0,.int .i64 0,.int .i64 0,.bool false,.bool false,.int .i64 0] 184)) = wz at *
  go_wp2_with (go_at_call 136; refine hnx.out.mono ?_; rintro e w2 ⟨rfl,hb2⟩; obtain ⟨q1,q2,q3⟩ := hres.out w2 hb2; have hsz2 : Hid (w.heap.size + 1 < w2.heap.size) := hsz.out w2 hb2; have q1h : Hid (SpX w.heap.size b q l.length a0 c0 ga oa ca gb ob cb x y w2) := q1; have q2h : Hid (w2.heap[w.heap.size + 1]? = _) := q2; have q3h : Hid (Below w.heap.size w w2) := q3; clear q1 q2 q3 hb2 hres hnx hsz)
  refine sp_r2 _ (fun _ _ _ _ _ h => h) _ _ w.heap.size b q l.length a0 c0 ga oa ca gb ob cb x y true w2 (q1h.out.below (Below.refl _ _).drew (Nat.le_refl _)) hne hb' hq' ?_
  intro w3 hb3 hT3 hX3
  have hlow3 : Hid (Below w.heap.size w w3) := q3h.out.trans (hb3.mono q3h.out.size)
  have hrr3 : w3.heap[w.heap.size + 1]? = some (.cells #[.int .i64 0,.int .i64 0,.int .i64 0,.int .i64 0,.int .i64 0,.int .i64 0,.int .i64 0,.int .i64 0,.int .i64 0,.bool false,.bool false,.int .i64 0] 184 (0,0)) := (hb3.block _ hsz2.out).trans q2h.out
  have c10 : w3.cell? ⟨w2.heap.size,10,none⟩ = some (.bool true) := by rw [Lib.cell_of_heap hT3]; rfl
  have cB0 := hX3.f0
  generalize w2.heap.size = T at *
  clear hX3 hb3 q1h q2h
  unfold fr31
  go_wp2_with (first | (refine wpList_load_row rfl 184 _ rfl T rfl 184 _ (0,0) _ hT3 Tryz.underlying184 rfl (info91 _) ?_) | (refine wpList_store_row rfl 184 _ _ rfl (w.heap.size + 1) (stL ⟨b,q,x,y,0,false,true,0⟩).toArray rfl rfl 184 _ hrr3 (info91 _) rfl (stL_all _) ?_))
  exact bodyPost_ret (results_cell_row rfl _ _ (w.heap.size + 1) 184 _ (0,0) _ rfl (setRow_heap _ _ _ _ _ _ hrr3) Tryz.underlying184 rfl (info91 _)) rfl ⟨rfl,hlow3.out.trans ((Turns.setRow (X := fun k => k = w.heap.size + 1) _ rfl _).below hlow3.out.size (fun k hk => by omega))⟩
end Go.Proofs.YtfiekhephkpdjaaGreatDoor

namespace Go.Proofs.YtfiekhephkpdjaaGreatDoor
open Go.RowKit Go.Shelf

def spG (l : List It) : Nat → Nat → List St
 | 0,_ => []
 | n + 1,b => if enB l b = true then stS l b :: spG l n (b + 1) else spG l n (b + 1)
def spA (l : List It) : List St := bgS l :: spG l (l.length - sk l 0) (sk l 0 + 1)
def ttR : List St → Int → List St × Int
 | [],z => ([],z)
 | x :: r,z => ({ x with t := min (ttR r z).2 (tiI x.e) } :: (ttR r z).1,min (ttR r z).2 (tiI x.e))
def stopsL (l : List It) : List St := (ttR (spA l) (tiI ((spA l).getLast (by unfold spA; simp)).e)).1
theorem ttR_len : ∀ (L : List St) (z : Int),(ttR L z).1.length = L.length
 | [],_ => rfl
 | x :: r,z => by unfold ttR; simp [ttR_len r z]
theorem spG_len {l : List It} : ∀ n b,(spG l n b).length ≤ n
 | 0,_ => Nat.le_refl _
 | n + 1,b => by
  unfold spG
  have := spG_len (l := l) n (b + 1)
  split
  ·rw [List.length_cons]; omega
  ·omega
theorem spA_len (l : List It) : (spA l).length ≤ l.length + 1 := by
 unfold spA
 have := spG_len (l := l) (l.length - sk l 0) (sk l 0 + 1)
 rw [List.length_cons]; omega
theorem su_ok {l : List It} (h : ckL l = 0) {i : Nat} (hi : i ≤ l.length) : SuOk (alF l i) := by
 have h8 := ck_len h
 have := alF_rng h i hi
 exact ⟨by omega,by omega,by omega⟩
theorem ba_ok {l : List It} (h : ckL l = 0) {i : Nat} (hi : i ≤ l.length) : SuOk (baF l i) := by
 obtain ⟨j,hj,e⟩ := baF_al (l := l) i
 rw [e]; exact su_ok h (by omega)
theorem ba_rng {l : List It} (h : ckL l = 0) {i : Nat} (hi : i ≤ l.length) : 0 ≤ (baF l i).w ∧ (baF l i).w ≤ 4294967296 := by
 obtain ⟨j,hj,e⟩ := baF_al (l := l) i
 have h8 := ck_len h
 have := alF_rng h j (by omega)
 rw [e]; omega
theorem bg_ok {l : List It} (h : ckL l = 0) : StOk (bgS l) := ⟨Nat.zero_le _,by have := sk_len (l := l); have := ck_len h; show sk l 0 ≤ _; omega,⟨by show (-17179869184 : Int) ≤ 0 ∧ (0 : Int) ≤ _; omega,by show (0 : Int) ≤ 0 ∧ (0 : Int) ≤ _; omega,by show (0 : Int) ≤ 0 ∧ (0 : Int) ≤ _; omega⟩,su_ok h sk_len,by show (0 : Int) ≤ 0 ∧ (0 : Int) ≤ _; omega,by show (-17592186044416 : Int) ≤ 0 ∧ (0 : Int) ≤ _; omega⟩
theorem st_ok {l : List It} (h : ckL l = 0) {b : Nat} (hb : b ≤ l.length) : StOk (stS l b) := by
 have h8 := ck_len h
 have h1 := bg_le hb
 have h2 := ba_ok h hb
 have h3 := su_ok h h1.2
 have h4 := ba_rng h hb
 unfold stS
 split
 ·rename_i hp
  have hok := ok_at h b hp.1
  unfold okP at hok
  refine ⟨by show b ≤ _; omega,by show bgN l b ≤ _; omega,⟨?_,h2.s,h2.h⟩,h3,?_,by show (-17592186044416 : Int) ≤ 0 ∧ (0 : Int) ≤ _; omega⟩
  ·show -17179869184 ≤ (baF l b).w + (itAt l b).w ∧ (baF l b).w + (itAt l b).w ≤ _
   omega
  ·show 0 ≤ (itAt l b).c ∧ (itAt l b).c ≤ 4095
   omega
 ·exact ⟨by show b ≤ _; omega,by show bgN l b ≤ _; omega,h2,h3,by show (0 : Int) ≤ 0 ∧ (0 : Int) ≤ _; omega,by show (-17592186044416 : Int) ≤ 0 ∧ (0 : Int) ≤ _; omega⟩
theorem spG_ok {l : List It} (h : ckL l = 0) : ∀ n b,b + n ≤ l.length + 1 → ∀ x ∈ spG l n b,StOk x
 | 0,_,_,x,hx => by cases hx
 | n + 1, b, hb, x, hx => by
  unfold spG at hx
  split at hx
  ·rcases List.mem_cons.1 hx with rfl | hx
   ·exact st_ok h (by omega)
   ·exact spG_ok h n (b + 1) (by omega) x hx
  ·exact spG_ok h n (b + 1) (by omega) x hx
theorem spA_ok {l : List It} (h : ckL l = 0) : ∀ x ∈ spA l,StOk x := fun x hx => by
 unfold spA at hx
 rcases List.mem_cons.1 hx with rfl | hx
 ·exact bg_ok h
 ·have := sk_len (l := l)
  exact spG_ok h _ _ (by omega) x hx
theorem ti_rng {x : Su} (h : SuOk x) : -17592186044416 ≤ tiI x ∧ tiI x ≤ 17592186044416 := by
 have := h.w
 have := h.h
 unfold tiI
 omega
theorem ttR_rng {B : Int} : ∀ (L : List St) (z : Int),(∀ x ∈ L,SuOk x.e) → (-17592186044416 ≤ z ∧ z ≤ 17592186044416) → (-17592186044416 ≤ (ttR L z).2 ∧ (ttR L z).2 ≤ 17592186044416)
 | [],z,_,hz => hz
 | x :: r,z,h,hz => by
  have h1 := ttR_rng (B := B) r z (fun y hy => h y (List.mem_cons_of_mem _ hy)) hz
  have h2 := ti_rng (h x (List.mem_cons_self ..))
  unfold ttR
  show -17592186044416 ≤ min _ _ ∧ min _ _ ≤ _
  omega
theorem ttR_ok : ∀ (L : List St) (z : Int),(∀ x ∈ L,StOk x) → (-17592186044416 ≤ z ∧ z ≤ 17592186044416) → ∀ x ∈ (ttR L z).1,StOk x
 | [],_,_,_,x,hx => by cases hx
 | y :: r, z, h, hz, x, hx => by
  unfold ttR at hx
  rcases List.mem_cons.1 hx with rfl | hx
  ·have h1 := ttR_rng (B := 0) (y :: r) z (fun q hq => (h q hq).e) hz
   have h2 := h y (List.mem_cons_self ..)
   unfold ttR at h1
   exact ⟨h2.a,h2.n,h2.e,h2.b,h2.c,h1⟩
  ·exact ttR_ok r z (fun q hq => h q (List.mem_cons_of_mem _ hq)) hz x hx
theorem stopsL_ok {l : List It} (h : ckL l = 0) : ∀ x ∈ stopsL l,StOk x := by
 refine ttR_ok _ _ (spA_ok h) (ti_rng (spA_ok h _ (List.getLast_mem _)).e)
theorem stopsL_len (l : List It) : (stopsL l).length = (spA l).length := ttR_len _ _
def ttK (L : List St) (z : Int) (j : Nat) : List St := L.take j ++ (ttR (L.drop j) z).1
theorem ttK_len (L : List St) (z : Int) {j : Nat} : (ttK L z j).length = L.length := by
 unfold ttK
 rw [List.length_append,ttR_len,List.length_take,List.length_drop]
 omega
theorem ttK_all (L : List St) (z : Int) : ttK L z L.length = L := by
 unfold ttK
 rw [List.drop_of_length_le (Nat.le_refl _),List.take_of_length_le (Nat.le_refl _)]
 simp [ttR]
theorem ttK_zero (L : List St) (z : Int) : ttK L z 0 = (ttR L z).1 := by unfold ttK; simp
theorem ttR_step {L : List St} {z : Int} {j : Nat} (hj : j < L.length) : ttR (L.drop j) z = ({ L[j] with t := min (ttR (L.drop (j + 1)) z).2 (tiI L[j].e) } :: (ttR (L.drop (j + 1)) z).1,min (ttR (L.drop (j + 1)) z).2 (tiI L[j].e)) := by
 rw [List.drop_eq_getElem_cons hj]
 rfl
theorem ttK_at {L : List St} {z : Int} {j : Nat} (hj : j < L.length) : (ttK L z (j + 1))[j]? = some L[j] := by
 unfold ttK
 rw [List.getElem?_append_left (by rw [List.length_take]; omega),List.getElem?_take_of_lt (by omega),List.getElem?_eq_getElem hj]
theorem ttK_set {L : List St} {z : Int} {j : Nat} (hj : j < L.length) : (ttK L z (j + 1)).set j { L[j] with t := min (ttR (L.drop (j + 1)) z).2 (tiI L[j].e) } = ttK L z j := by
 unfold ttK
 rw [List.set_append_left _ _ (by rw [List.length_take]; omega),ttR_step hj]
 have e : (L.take (j + 1)).set j { L[j] with t := min (ttR (L.drop (j + 1)) z).2 (tiI L[j].e) } = L.take j ++ [{ L[j] with t := min (ttR (L.drop (j + 1)) z).2 (tiI L[j].e) }] := by
  rw [List.take_succ_eq_append_getElem hj,List.set_append_right _ _ (by rw [List.length_take]; omega)]
  congr 1
  rw [List.length_take,Nat.min_eq_left (by omega),Nat.sub_self]
  rfl
 rw [e,List.append_assoc]
 rfl
end Go.Proofs.YtfiekhephkpdjaaGreatDoor
