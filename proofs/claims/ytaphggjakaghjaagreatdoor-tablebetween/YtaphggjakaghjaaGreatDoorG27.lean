/-
  What is proved here: all columns together; a room that is shared out.
  What is proved here: columns that grow: the drawn regions.
  What is proved here: a room that is shared out evenly.
-/
import Derived.Test.YtaphggjakaghjaaGreatDoorG26
import Derived.Test.YtaphggjakaghjaaGreatDoorG1
namespace Go.Proofs.YtaphggjakaghjaaGreatDoor
open Go.RowKit Go.Shelf
set_option maxRecDepth 100000
set_option maxHeartbeats 2000000

theorem collect_any (Bt c : Nat) (v : Value) (l : List ByteArray) (hT : Tab c l) (w : World) (hR : ReadT Bt c v l w) (hvb : ∀ g,v.ownBlock = some g → g < w.heap.size) :
  Calls Tryz.prog 40 #[.func (.func 55) #[] #[.pointer (some ⟨Bt,0,none⟩)]] w fun e w' => ∃ u,e = .returned u ∧ w'.ownsRow w.heap.size 74 2 u c (rowT c l c) ∧ Below w.heap.size w w' := by
 have hA := appendSeq_any Bt c v l hT w hR hvb
 go_enter Tryz.func40,Tryz.ntmps40
 go_wp2_with fail
 refine hA.mono ?_
 rintro e w1 ⟨u,rfl,hr,hb⟩
 go_wp2_with fail
 go_ret
 exact ⟨u,rfl,hr,hb⟩
theorem grows_any (x y : Int) (hx : 0 ≤ x ∧ x ≤ 10000000) (hy : 0 ≤ y ∧ y ≤ 10000000) (w : World) : Calls Tryz.prog 58 #[.agg #[.int .i64 x,.int .i64 y]] w fun e w' => e = .returned (.int .i64 (y - x)) ∧ Below w.heap.size w w' := by
 have hB := (Below.refl w.heap.size w).alloc (Nat.le_refl _) (.cells #[.int .i64 x,.int .i64 y] 74)
 obtain ⟨x1,x2⟩ := hx
 obtain ⟨y1,y2⟩ := hy
 go_enter Tryz.func58,Tryz.ntmps58
 go_wp2_with fail
 go_ret
 exact ⟨rfl,hB⟩
def co0 : Co := ⟨0,0⟩
def sAt (L : List Co) (k : Nat) : Int := (L.getD k co0).s
def gmAt (L : List Co) (k : Nat) : Int := (L.getD k co0).m
theorem sAt_get {L : List Co} {k : Nat} (h : k < L.length) : sAt L k = L[k].s := by unfold sAt; rw [List.getD_eq_getElem?_getD,List.getElem?_eq_getElem h]; rfl
theorem mAt_get {L : List Co} {k : Nat} (h : k < L.length) : gmAt L k = L[k].m := by unfold gmAt; rw [List.getD_eq_getElem?_getD,List.getElem?_eq_getElem h]; rfl
def Few (L : List Co) : Prop := L.length ≤ 8 ∧ ∀ k (hk : k < L.length),4 ≤ L[k].s ∧ L[k].s ≤ L[k].m ∧ L[k].m ≤ 819004
theorem cols_few {c : Nat} {l : List ByteArray} (hT : Tab c l) : Few (cols c l) := ⟨by rw [cols_len]; exact hT.hc.2,fun k hk => by rw [cols_get]; exact hT.ha.col c k⟩
theorem Few.at {L : List Co} (h : Few L) {k : Nat} (hk : k < L.length) : 4 ≤ sAt L k ∧ sAt L k ≤ gmAt L k ∧ gmAt L k ≤ 819004 := by
 rw [sAt_get hk,mAt_get hk]; exact h.2 k hk
theorem Few.tot {L : List Co} (h : Few L) : ∀ k,k ≤ L.length → 0 ≤ tot (sAt L) k ∧ tot (sAt L) k ≤ tot (gmAt L) k ∧ tot (gmAt L) k ≤ 819004 * (k : Int)
 | 0,_ => by simp [Go.Proofs.YtaphggjakaghjaaGreatDoor.tot]
 | k + 1,hk => by
  have ih := h.tot k (by omega)
  have := h.at (show k < L.length by omega)
  show 0 ≤ Go.Proofs.YtaphggjakaghjaaGreatDoor.tot (sAt L) k + sAt L k ∧ Go.Proofs.YtaphggjakaghjaaGreatDoor.tot (sAt L) k + sAt L k ≤ Go.Proofs.YtaphggjakaghjaaGreatDoor.tot (gmAt L) k + gmAt L k ∧ Go.Proofs.YtaphggjakaghjaaGreatDoor.tot (gmAt L) k + gmAt L k ≤ _
  omega

theorem together_any (v : Value) (L : List Co) (hL : Few L) (w : World) (hS : RecAt 2 coL w v L) :
  Calls Tryz.prog 42 #[v] w fun e w' => e = .returned (.agg #[.int .i64 (tot (sAt L) L.length),.int .i64 (tot (gmAt L) L.length)]) ∧ Below w.heap.size w w' := by
 obtain ⟨a,cap,rfl,h2⟩ := hS.ex
 clear hS
 have hlen := hL.1
 have hB1 := (Below.refl w.heap.size w).alloc (Nat.le_refl _) (.cells #[.int .i64 0,.int .i64 0] 74)
 have hr1 := B2.new w 0 0
 have hs1 : (w.alloc (.cells #[.int .i64 0,.int .i64 0] 74)).heap.size = w.heap.size + 1 := World.size_alloc _ _
 have hB2 := hB1.alloc hB1.size (.cells #[.int .i64 0,.int .i64 0] 74)
 have hr2 := hr1.turns (Turns.alloc Noth _ (.cells #[.int .i64 0,.int .i64 0] 74)) (fun h => h)
 have hq2 := B2.new (w.alloc (.cells #[.int .i64 0,.int .i64 0] 74)) 0 0
 rw [hs1] at hq2
 go_enter Tryz.func42,Tryz.ntmps42
 go_wp2_with fail
 go_loopw [8] (fun i wr => ∃ k : Nat,k ≤ L.length ∧ i = .int .i64 (k : Int) ∧ Below w.heap.size w wr ∧ B2 wr w.heap.size 0 0 ∧ B2 wr (w.heap.size + 1) (tot (sAt L) k) (tot (gmAt L) k)) (fun i _ => L.length - (intOf i).toNat)
 case atStart => exact ⟨0,by omega,rfl,hB2,hr2,hq2⟩
 case round =>
  clear hB1 hr1 hs1 hB2 hr2 hq2
  obtain ⟨k,hk,rfl,hb,hr,hq⟩ := hrel
  have hsz := hq.lt
  have htk := hL.tot k hk
  by_cases hlt : k < L.length
  ·rcases h2 with h2 | ⟨b,o,rfl,hbl,hc⟩
   ·rw [h2] at hlt; simp at hlt
   have hlt' : (k : Int) < L.length := by omega
   have c0 : wr.cell? ⟨b,o + k * 2,none⟩ = some (.int .i64 L[k].s) := (hb.cell hbl).trans (hc k hlt 0 _ rfl)
   have c1 : wr.cell? ⟨b,o + k * 2 + 1,none⟩ = some (.int .i64 L[k].m) := (hb.cell hbl).trans (hc k hlt 1 _ rfl)
   have hx := hL.2 k hlt
   have k1 : Hid (tot (sAt L) (k + 1) = tot (sAt L) k + L[k].s) := (by show tot (sAt L) k + sAt L k = _; rw [sAt_get hlt] : _ = _)
   have k2 : Hid (tot (gmAt L) (k + 1) = tot (gmAt L) k + L[k].m) := (by show tot (gmAt L) k + gmAt L k = _; rw [mAt_get hlt] : _ = _)
   have e0 := hq.c0
   have e1 := hq.c1
   have z0 := hq.z 0
   have z1 := hq.z 1
   have hend : Hid (∀ x y X Y,x = L[k].s → y = L[k].m → X = tot (sAt L) k → Y = tot (gmAt L) k → Below w.heap.size w (((wr.setCell ⟨w.heap.size + 1,0,none⟩ (.int .i64 (X + x))).setCell ⟨w.heap.size + 1,1,none⟩ (.int .i64 (Y + y))).alloc (.cells #[.int .i64 x,.int .i64 y] 74)) ∧ B2 (((wr.setCell ⟨w.heap.size + 1,0,none⟩ (.int .i64 (X + x))).setCell ⟨w.heap.size + 1,1,none⟩ (.int .i64 (Y + y))).alloc (.cells #[.int .i64 x,.int .i64 y] 74)) w.heap.size 0 0 ∧ B2 (((wr.setCell ⟨w.heap.size + 1,0,none⟩ (.int .i64 (X + x))).setCell ⟨w.heap.size + 1,1,none⟩ (.int .i64 (Y + y))).alloc (.cells #[.int .i64 x,.int .i64 y] 74)) (w.heap.size + 1) (tot (sAt L) (k + 1)) (tot (gmAt L) (k + 1))) := by
    rintro x y X Y rfl rfl rfl rfl
    have T1 := Turns.setCell (X := fun k => k = w.heap.size + 1) wr (p := ⟨w.heap.size + 1,0,none⟩) rfl (.int .i64 (tot (sAt L) k + L[k].s))
    have T2 := Turns.setCell (X := fun k => k = w.heap.size + 1) (wr.setCell ⟨w.heap.size + 1,0,none⟩ (.int .i64 (tot (sAt L) k + L[k].s))) (p := ⟨w.heap.size + 1,1,none⟩) rfl (.int .i64 (tot (gmAt L) k + L[k].m))
    have T3 := (T1.trans T2).trans (Turns.alloc (fun k => k = w.heap.size + 1) _ (.cells #[.int .i64 L[k].s,.int .i64 L[k].m] 74))
    rw [k1.out,k2.out]
    exact ⟨hb.trans (T3.below hb.size (fun k hk => by omega)),hr.turns T3 (by omega),((hq.set0 _).set1 _).turns (Turns.alloc Noth _ _) (fun h => h)⟩
   have hend' := fun X Y hX hY => hend.out L[k].s L[k].m X Y rfl rfl hX hY
   clear hc k1 k2 hend hr hq hb
   generalize L[k].s = x at *
   generalize L[k].m = y at *
   generalize tot (sAt L) k = X at *
   generalize tot (gmAt L) k = Y at *
   have hend2 : Hid _ := hend' X Y rfl rfl
   clear hend'
   go_wp2_with fail
   go_roundw
   case rel => exact ⟨k + 1,by omega,by simp,hend2.out⟩
   case measure => simp [intOf]; omega
  ·obtain rfl : k = L.length := by omega
   have hge : ¬ (L.length : Int) < L.length := by omega
   have e0 := hq.c0
   have e1 := hq.c1
   have T1 := Turns.setRow (X := fun k => k = w.heap.size) wr (r := w.heap.size) rfl #[.int .i64 (tot (sAt L) L.length),.int .i64 (tot (gmAt L) L.length)]
   have hBe := hb.trans (T1.below hb.size (fun k hk => by omega))
   clear h2
   generalize hX : tot (sAt L) L.length = X at *
   generalize hY : tot (gmAt L) L.length = Y at *
   have hX' : Hid (tot (sAt L) L.length = X) := hX
   have hY' : Hid (tot (gmAt L) L.length = Y) := hY
   clear hX hY
   go_wp2_with (refine wpList_store_row rfl 74 _ _ rfl w.heap.size #[.int .i64 X,.int .i64 Y] rfl rfl 74 _ hr.row (info55v _ _) rfl (one55 _ _) ?_)
   refine bodyPost_ret (results_cell_row rfl _ _ w.heap.size 74 #[.int .i64 X,.int .i64 Y] (0,0) _ rfl (setRow_heap _ _ _ _ 74 _ hr.row) Tryz.underlying74 rfl info55) rfl ?_
   exact ⟨by rw [hX'.out,hY'.out],hBe⟩

structure SH (W : World) (b : Nat) (r p t g : Int) : Prop where
 row : W.heap[b]? = some (.cells #[.int .i64 r,.int .i64 p,.int .i64 t,.int .i64 g] 105 (0,0))
theorem SH.lt {W : World} {b : Nat} {r p t g : Int} (h : SH W b r p t g) : b < W.heap.size := (Array.getElem?_eq_some_iff.1 h.row).1
theorem SH.turns {X : Nat → Prop} {W W' : World} {b : Nat} {r p t g : Int} (h : SH W b r p t g) (ht : Turns X W W') (hn : ¬ X b) : SH W' b r p t g := ⟨(ht.block b h.lt hn).trans h.row⟩
theorem SH.below {W W' : World} {n b : Nat} {r p t g : Int} (h : SH W b r p t g) (hb : Below n W W') (hn : b < n) : SH W' b r p t g := ⟨(hb.block b hn).trans h.row⟩
theorem SH.c0 {W : World} {b : Nat} {r p t g : Int} (h : SH W b r p t g) : W.cell? ⟨b,0,none⟩ = some (.int .i64 r) := by rw [Lib.cell_of_heap h.row]; rfl
theorem SH.c1 {W : World} {b : Nat} {r p t g : Int} (h : SH W b r p t g) : W.cell? ⟨b,1,none⟩ = some (.int .i64 p) := by rw [Lib.cell_of_heap h.row]; rfl
theorem SH.c2 {W : World} {b : Nat} {r p t g : Int} (h : SH W b r p t g) : W.cell? ⟨b,2,none⟩ = some (.int .i64 t) := by rw [Lib.cell_of_heap h.row]; rfl
theorem SH.c3 {W : World} {b : Nat} {r p t g : Int} (h : SH W b r p t g) : W.cell? ⟨b,3,none⟩ = some (.int .i64 g) := by rw [Lib.cell_of_heap h.row]; rfl
theorem SH.z {W : World} {b : Nat} {r p t g : Int} (h : SH W b r p t g) (k : Nat) : W.frozen? ⟨b,k,none⟩ = false := Lib.frozen_of_heap h.row _
theorem SH.new (w : World) (r p t g : Int) : SH (w.alloc (.cells #[.int .i64 r,.int .i64 p,.int .i64 t,.int .i64 g] 105)) w.heap.size r p t g := ⟨World.alloc_heap_new w _⟩
theorem SH.set2 {W : World} {b : Nat} {r p t g : Int} (h : SH W b r p t g) (x : Int) : SH (W.setCell ⟨b,2,none⟩ (.int .i64 x)) b r p x g := ⟨heap_setCell_same W b 2 _ 105 _ h.row⟩
theorem SH.set3 {W : World} {b : Nat} {r p t g : Int} (h : SH W b r p t g) (x : Int) : SH (W.setCell ⟨b,3,none⟩ (.int .i64 x)) b r p t x := ⟨heap_setCell_same W b 3 _ 105 _ h.row⟩
def gv (r p t : Int) : Int := r * t / (max p 1)
theorem next_any (b : Nat) (r p t g n : Int) (hr : 0 ≤ r ∧ r ≤ 10000000) (hp : 0 ≤ p ∧ p ≤ 10000000) (ht : 0 ≤ t ∧ t ≤ 10000000) (hn : 0 ≤ n ∧ n ≤ 10000000) (hg : 0 ≤ g ∧ g ≤ 1000000000000000) (w : World) (hS : SH w b r p t g) :
  Calls Tryz.prog 57 #[.pointer (some ⟨b,0,none⟩),.int .i64 n] w fun e w' => e = .returned (.int .i64 (gv r p (t + n) - g)) ∧ SH w' b r p (t + n) (gv r p (t + n)) ∧ Turns (fun k => k = b) w w' := by
 have hm0 : 0 ≤ r * (t + n) := Int.mul_nonneg hr.1 (by omega)
 have hm1 : r * (t + n) ≤ 10000000 * 20000000 := Int.mul_le_mul hr.2 (by omega) (by omega) (by omega)
 have hv0 : 0 ≤ gv r p (t + n) := Int.ediv_nonneg hm0 (by omega)
 have hv1 : gv r p (t + n) ≤ r * (t + n) := Int.ediv_le_self _ hm0
 have c0 := hS.c0
 have c1 := hS.c1
 have c2 := hS.c2
 have c3 := hS.c3
 have z2 := hS.z 2
 have z3 := hS.z 3
 have T1 := Turns.setCell (X := fun k => k = b) w (p := ⟨b,2,none⟩) rfl (.int .i64 (t + n))
 have S1 := hS.set2 (t + n)
 obtain ⟨r1,r2⟩ := hr
 obtain ⟨p1,p2⟩ := hp
 obtain ⟨t1,t2⟩ := ht
 obtain ⟨n1,n2⟩ := hn
 obtain ⟨g1,g2⟩ := hg
 by_cases h1 : p < 1
 ·have hv : gv r p (t + n) = r * (t + n) := by unfold gv; rw [show max p 1 = 1 by omega,Int.ediv_one]
  rw [hv] at hv0 hv1 ⊢
  clear hv
  go_enter Tryz.func57,Tryz.ntmps57
  go_wp2_with fail
  generalize w.setCell ⟨b,2,none⟩ (.int .i64 (t + n)) = w1 at *
  clear c0 c1 c2 c3 z2 z3
  have c0 := S1.c0
  have c1 := S1.c1
  have c2 := S1.c2
  have c3 := S1.c3
  have z3 := S1.z 3
  have S2 : SH (w1.setCell ⟨b,3,none⟩ (.int .i64 (r * (t + n)))).drew b r p (t + n) (r * (t + n)) := ⟨(S1.set3 _).row⟩
  have T2 : Turns (fun k => k = b) w (w1.setCell ⟨b,3,none⟩ (.int .i64 (r * (t + n)))).drew := T1.trans ((Turns.setCell (X := fun k => k = b) w1 (p := ⟨b,3,none⟩) rfl _).trans (Turns.drewN _ _ 1))
  clear hS
  go_region
  clear c0 c1 c2 c3 z3
  have c3 := S2.c3
  generalize (w1.setCell ⟨b,3,none⟩ (.int .i64 (r * (t + n)))).drew = w2 at *
  go_wp2_with fail
  go_ret
  exact ⟨rfl,S2,T2⟩
 ·have hv : gv r p (t + n) = r * (t + n) / p := by unfold gv; rw [show max p 1 = p by omega]
  rw [hv] at hv0 hv1 ⊢
  clear hv
  go_enter Tryz.func57,Tryz.ntmps57
  go_wp2_with fail
  generalize w.setCell ⟨b,2,none⟩ (.int .i64 (t + n)) = w1 at *
  clear c0 c1 c2 c3 z2 z3
  have c0 := S1.c0
  have c1 := S1.c1
  have c2 := S1.c2
  have c3 := S1.c3
  have z3 := S1.z 3
  have S2 : SH (w1.setCell ⟨b,3,none⟩ (.int .i64 (r * (t + n) / p))).drew b r p (t + n) (r * (t + n) / p) := ⟨(S1.set3 _).row⟩
  have T2 : Turns (fun k => k = b) w (w1.setCell ⟨b,3,none⟩ (.int .i64 (r * (t + n) / p))).drew := T1.trans ((Turns.setCell (X := fun k => k = b) w1 (p := ⟨b,3,none⟩) rfl _).trans (Turns.drewN _ _ 1))
  clear hS
  go_region
  clear c0 c1 c2 c3 z3
  have c3 := S2.c3
  generalize (w1.setCell ⟨b,3,none⟩ (.int .i64 (r * (t + n) / p))).drew = w2 at *
  go_wp2_with fail
  go_ret
  exact ⟨rfl,S2,T2⟩
end Go.Proofs.YtaphggjakaghjaaGreatDoor

namespace Go.Proofs.YtaphggjakaghjaaGreatDoor
open Go.RowKit Go.Shelf
set_option maxRecDepth 100000
set_option maxHeartbeats 1000000

def opg6 (ps : String) : Array Oper := #[⟨some 31,.move (.tmp 8),36,ps,#[],none⟩,⟨some 32,.move (.tmp 9),3,ps,#[],none⟩,⟨some 33,.fieldAddr 74 (.tmp 10) 0,0,ps,#[],none⟩,⟨some 34,.load 3 (.tmp 33),3,ps,#[⟨2,.data⟩],none⟩,⟨some 35,.load 74 (.tmp 10),74,ps,#[],none⟩,⟨some 36,.call ⟨.value (.func 58),#[.tmp 35],#[74]⟩,3,ps,#[⟨4,.data⟩],none⟩,⟨some 37,.call ⟨.value (.func 57),#[.tmp 7,.tmp 36],#[105,3]⟩,3,ps,#[⟨5,.data⟩,⟨5,.chain⟩],none⟩,⟨some 38,.binOp .add 3 (.tmp 34) (.tmp 37) 3,3,ps,#[⟨3,.data⟩,⟨6,.data⟩],none⟩,⟨some 39,.indexAddr 36 (.tmp 31) (.tmp 32),0,ps,#[⟨0,.data⟩,⟨1,.data⟩,⟨0,.phase⟩,⟨1,.phase⟩,⟨2,.phase⟩,⟨3,.phase⟩,⟨4,.phase⟩,⟨5,.phase⟩,⟨6,.phase⟩,⟨7,.phase⟩],none⟩,⟨none,.store 3 (.tmp 39) (.tmp 38),0,ps,#[⟨8,.data⟩,⟨7,.data⟩,⟨6,.chain⟩,⟨0,.phase⟩,⟨1,.phase⟩,⟨2,.phase⟩,⟨3,.phase⟩,⟨4,.phase⟩,⟨5,.phase⟩,⟨6,.phase⟩,⟨7,.phase⟩],none⟩]

theorem gro_r6 (Q : Exit → Act → World → Prop) (hQ : ∀ c x (n : Nat) v w,Q (.panic c) (x.put (some n) v) w → Q (.panic c) x w) (id : Nat) (ps : String) (bS bT bC n k : Nat) (x y r p t g : Int) (v0 v1 v2 v3 v4 v5 v6 xb xc xd xe xf xg xh xi xj xk xl xm xn xo xp xq xr xt xu xv xw xx xy xz xA xB xC xD xE xF xG : Value) (W : World)
  (hx : 0 ≤ x ∧ x ≤ y ∧ y ≤ 10000000) (hr : 0 ≤ r ∧ r ≤ 10000000) (hp : 0 ≤ p ∧ p ≤ 10000000) (ht : 0 ≤ t ∧ t ≤ 10000000) (hg : 0 ≤ g ∧ g ≤ 1000000000000000) (hkn : k < n)
  (hC : B2 W bC x y) (hH : SH W bS r p t g) (hT : W.cell? ⟨bT,k,none⟩ = some (.int .i64 0)) (hz : W.frozen? ⟨bT,k,none⟩ = false) (hlt : bT < W.heap.size) (h1 : bC ≠ bS) (h2 : bT ≠ bS) (h3 : bC ≠ bT)
  (hK : ∀ W',SH W' bS r p (t + (y - x)) (gv r p (t + (y - x))) → Turns (fun b => b = bS) W W' → Q .normal { tmps := #[v0,v1,v2,v3,v4,v5,v6,.pointer (some ⟨bS,0,none⟩),.slice (some ⟨bT,0,none⟩) n n,.int .i64 (k : Int),.pointer (some ⟨bC,0,none⟩),xb,xc,xd,xe,xf,xg,xh,xi,xj,xk,xl,xm,xn,xo,xp,xq,xr,xt,xu,xv,.slice (some ⟨bT,0,none⟩) n n,.int .i64 (k : Int),.pointer (some ⟨bC,0,none⟩),.int .i64 x,.agg #[.int .i64 x,.int .i64 y],.int .i64 (y - x),.int .i64 (gv r p (t + (y - x)) - g),.int .i64 (x + (gv r p (t + (y - x)) - g)),.pointer (some ⟨bT,k,none⟩),xF,xG],defers := [] } (W'.setCell ⟨bT,k,none⟩ (.int .i64 (x + (gv r p (t + (y - x)) - g))))) :
  (Code.region id (opg6 ps) true).wp Tryz.prog Q { tmps := #[v0,v1,v2,v3,v4,v5,v6,.pointer (some ⟨bS,0,none⟩),.slice (some ⟨bT,0,none⟩) n n,.int .i64 (k : Int),.pointer (some ⟨bC,0,none⟩),xb,xc,xd,xe,xf,xg,xh,xi,xj,xk,xl,xm,xn,xo,xp,xq,xr,xt,xu,xv,xw,xx,xy,xz,xA,xB,xC,xD,xE,xF,xG],defers := [] } W := by
 have hm0 : 0 ≤ r * (t + (y - x)) := Int.mul_nonneg hr.1 (by omega)
 have hm1 : r * (t + (y - x)) ≤ 10000000 * 20000000 := Int.mul_le_mul hr.2 (by omega) (by omega) (by omega)
 have hv0 : 0 ≤ gv r p (t + (y - x)) := Int.ediv_nonneg hm0 (by omega)
 have hv1 : gv r p (t + (y - x)) ≤ r * (t + (y - x)) := Int.ediv_le_self _ hm0
 refine wp_region_held (S := fun w => B2 w bC x y) (by kernel_rfl) ?_
 change wpAnyH _ _ _ _ _ 10 _ _ (World.drew W)
 have hTd : Turns (fun b => b = bS) W W.drew := Turns.drew _ _
 have hS : B2 W.drew bC x y := ⟨hC.row⟩
 have hH0 : SH W.drew bS r p t g := ⟨hH.row⟩
 generalize W.drew = V at hS hH0 hTd ⊢
 unfold opg6
 refine wpAnyH_take (i := 0) (v := .slice (some ⟨bT,0,none⟩) n n) rfl (by kernel_rfl) (by kernel_rfl) (by kernel_rfl) (fun c x w => hQ c x _ _ w) (Or.inl ⟨by rfl,?y1⟩) hS ?_
 case y1 => (intro w' hw'; go_simp)
 go_simp
 refine wpAnyH_take (i := 1) (v := .int .i64 (k : Int)) rfl (by kernel_rfl) (by kernel_rfl) (by kernel_rfl) (fun c x w => hQ c x _ _ w) (Or.inl ⟨by rfl,?y2⟩) hS ?_
 case y2 => (intro w' hw'; go_simp)
 go_simp
 refine wpAnyH_take (i := 2) (v := .pointer (some ⟨bC,0,none⟩)) rfl (by kernel_rfl) (by kernel_rfl) (by kernel_rfl) (fun c x w => hQ c x _ _ w) (Or.inl ⟨by rfl,?y3⟩) hS ?_
 case y3 => (intro w' hw'; go_simp)
 go_simp
 refine wpAnyH_take (i := 3) (v := .int .i64 x) rfl (by kernel_rfl) (by kernel_rfl) (by kernel_rfl) (fun c x w => hQ c x _ _ w) (Or.inl ⟨by rfl,?y4⟩) hS ?_
 case y4 => (intro w' hw'; have c0 := B2.c0 hw'; go_simp)
 go_simp
 refine wpAnyH_take (i := 4) (v := .agg #[.int .i64 x,.int .i64 y]) rfl (by kernel_rfl) (by kernel_rfl) (by kernel_rfl) (fun c x w => hQ c x _ _ w) (Or.inl ⟨by rfl,?y5⟩) hS ?_
 case y5 => (intro w' hw'; have c0 := B2.c0 hw'; have c1 := B2.c1 hw'; go_simp)
 go_simp
 refine want_h (i := 5) (by kernel_rfl) rfl (by kernel_rfl) fun K hK' => ?_
 go_simp
 refine (grows_any x y (by omega) (by omega) _).mono ?_
 rintro e w1 ⟨rfl,b1⟩
 have hT1 : Turns (fun b => b = bS) W w1 := hTd.trans ((Turns.of_below b1).mono (fun _ h => h.elim))
 have hH1 := hH0.below b1 hH0.lt
 have hS1 := hS.below b1 hS.lt
 refine hK' _ _ hS1 ?_
 clear hK' K hS hH0
 go_simp
 refine want_h (i := 6) (by kernel_rfl) rfl (by kernel_rfl) fun K hK' => ?_
 go_simp
 refine (next_any bS r p t g (y - x) hr hp ht (by omega) hg _ hH1).mono ?_
 rintro e w2 ⟨rfl,hH2,T2⟩
 have hT2 : Turns (fun b => b = bS) W w2 := hT1.trans T2
 have hS2 := hS1.turns T2 h1
 refine hK' _ _ hS2 ?_
 clear hK' K hS1 hH1
 go_simp
 refine wpAnyH_take (i := 7) (v := .int .i64 (x + (gv r p (t + (y - x)) - g))) rfl (by kernel_rfl) (by kernel_rfl) (by kernel_rfl) (fun c x w => hQ c x _ _ w) (Or.inl ⟨by rfl,?y6⟩) hS2 ?_
 case y6 => (intro w' hw'; go_simp; simp [IntKind.wrap,IntKind.bits,IntKind.signed]; omega)
 go_simp
 refine wpAnyH_take (i := 8) (v := .pointer (some ⟨bT,k,none⟩)) rfl (by kernel_rfl) (by kernel_rfl) (by kernel_rfl) (fun c x w => hQ c x _ _ w) (Or.inl ⟨by rfl,?y7⟩) hS2 ?_
 case y7 => (intro w' hw'; go_simp)
 go_simp
 have c9 : w2.cell? ⟨bT,k,none⟩ = some (.int .i64 0) := by
  rw [← hT]
  unfold World.cell?
  rw [hT2.block bT hlt h2]
 have z9 : w2.frozen? ⟨bT,k,none⟩ = false := by
  rw [← hz]
  unfold World.frozen?
  rw [hT2.block bT hlt h2]
 have hQ1 := hK w2 hH2 hT2
 refine want_h (i := 9) (by kernel_rfl) rfl (by kernel_rfl) fun K hK' => ?_
 go_simp
 exact hK' _ _ (hS2.turns (Turns.setCell (X := fun b => b = bT) w2 (p := ⟨bT,k,none⟩) rfl _) h3) (wpAnyH_done (by kernel_rfl) hQ1 _)
def opg1 (ps : String) : Array Oper := #[⟨some 11,.move (.tmp 2),3,ps,#[],none⟩,⟨some 12,.fieldAddr 74 (.tmp 4) 1,0,ps,#[],none⟩,⟨some 13,.load 3 (.tmp 12),3,ps,#[⟨1,.data⟩],none⟩,⟨some 14,.call ⟨.builtin .min,#[.tmp 11,.tmp 13],#[3,3]⟩,3,ps,#[⟨0,.data⟩,⟨2,.data⟩],none⟩,⟨some 15,.fieldAddr 74 (.tmp 4) 0,0,ps,#[],none⟩,⟨some 16,.load 3 (.tmp 15),3,ps,#[⟨4,.data⟩],none⟩,⟨some 17,.binOp .sub 3 (.tmp 14) (.tmp 16) 3,3,ps,#[⟨3,.data⟩,⟨5,.data⟩],none⟩,⟨some 18,.load 74 (.tmp 4),74,ps,#[],none⟩,⟨some 19,.call ⟨.value (.func 58),#[.tmp 18],#[74]⟩,3,ps,#[⟨7,.data⟩],none⟩,⟨some 20,.build 105 #[(0,.tmp 17),(1,.tmp 19)],105,ps,#[⟨6,.data⟩,⟨8,.data⟩],none⟩,⟨some 7,.alloc 105,0,ps,#[],none⟩,⟨none,.store 105 (.tmp 7) (.tmp 20),0,ps,#[⟨10,.data⟩,⟨9,.data⟩,⟨8,.chain⟩,⟨0,.phase⟩,⟨1,.phase⟩,⟨2,.phase⟩,⟨3,.phase⟩,⟨4,.phase⟩,⟨5,.phase⟩,⟨6,.phase⟩,⟨7,.phase⟩,⟨8,.phase⟩,⟨9,.phase⟩,⟨10,.phase⟩],none⟩]

theorem info91 (a b c d : Int) : (Tryz.prog.info? 105).map (·.size) = some (#[Value.int .i64 a,.int .i64 b,.int .i64 c,.int .i64 d] : Array Value).size := by show _ = some 4; kernel_rfl
theorem one91 (a b c d : Int) : (#[Value.int .i64 a,.int .i64 b,.int .i64 c,.int .i64 d] : Array Value).all (·.oneCell') = true := by simp [Value.oneCell']
theorem gro_r1 (Q : Exit → Act → World → Prop) (hQ : ∀ c x (n : Nat) v w,Q (.panic c) (x.put (some n) v) w → Q (.panic c) x w) (id : Nat) (ps : String) (bA : Nat) (q x y : Int) (v0 v1 v3 v5 v6 v8 v9 xa xl xm xn xo xp xq xr xt xu xv xw xx xy xz xA xB xC xD xE xF xG : Value) (W : World)
  (hx : 0 ≤ x ∧ x ≤ y ∧ y ≤ 10000000) (hq : x ≤ q ∧ q ≤ 4095) (hA : B2 W bA x y)
  (hK : ∀ B W',W.heap.size ≤ B → SH W' B (min q y - x) (y - x) 0 0 → Below W.heap.size W W' → Q .normal { tmps := #[v0,v1,.int .i64 q,v3,.pointer (some ⟨bA,0,none⟩),v5,v6,.pointer (some ⟨B,0,none⟩),v8,v9,xa,.int .i64 q,.pointer (some ⟨bA,1,none⟩),.int .i64 y,.int .i64 (min q y),.pointer (some ⟨bA,0,none⟩),.int .i64 x,.int .i64 (min q y - x),.agg #[.int .i64 x,.int .i64 y],.int .i64 (y - x),.agg #[.int .i64 (min q y - x),.int .i64 (y - x),.int .i64 0,.int .i64 0],xl,xm,xn,xo,xp,xq,xr,xt,xu,xv,xw,xx,xy,xz,xA,xB,xC,xD,xE,xF,xG],defers := [] } W') :
  (Code.region id (opg1 ps) true).wp Tryz.prog Q { tmps := #[v0,v1,.int .i64 q,v3,.pointer (some ⟨bA,0,none⟩),v5,v6,undef,v8,v9,xa,undef,undef,undef,undef,undef,undef,undef,undef,undef,undef,xl,xm,xn,xo,xp,xq,xr,xt,xu,xv,xw,xx,xy,xz,xA,xB,xC,xD,xE,xF,xG],defers := [] } W := by
 refine wp_region_held (S := fun w => B2 w bA x y) (by kernel_rfl) ?_
 change wpAnyH _ _ _ _ _ 12 _ _ (World.drew W)
 have hBd : Below W.heap.size W W.drew := below_drewN (Below.refl _ _) 1
 have hS : B2 W.drew bA x y := ⟨hA.row⟩
 have hlA := hA.lt
 generalize W.drew = V at hS hBd ⊢
 unfold opg1
 refine wpAnyH_take (i := 0) (v := .int .i64 q) rfl (by kernel_rfl) (by kernel_rfl) (by kernel_rfl) (fun c x w => hQ c x _ _ w) (Or.inl ⟨by rfl,?y8⟩) hS ?_
 case y8 => (intro w' hw'; go_simp)
 go_simp
 refine wpAnyH_take (i := 1) (v := .pointer (some ⟨bA,1,none⟩)) rfl (by kernel_rfl) (by kernel_rfl) (by kernel_rfl) (fun c x w => hQ c x _ _ w) (Or.inl ⟨by rfl,?y9⟩) hS ?_
 case y9 => (intro w' hw'; go_simp)
 go_simp
 refine wpAnyH_take (i := 2) (v := .int .i64 y) rfl (by kernel_rfl) (by kernel_rfl) (by kernel_rfl) (fun c x w => hQ c x _ _ w) (Or.inl ⟨by rfl,?y10⟩) hS ?_
 case y10 => (intro w' hw'; have c1 := B2.c1 hw'; go_simp)
 go_simp
 refine wpAnyH_take (i := 3) (v := .int .i64 (min q y)) rfl (by kernel_rfl) (by kernel_rfl) (by kernel_rfl) (fun c x w => hQ c x _ _ w) (Or.inl ⟨by rfl,?y11⟩) hS ?_
 case y11 => (intro w' hw'; go_simp; (first | done | (split <;> omega)))
 go_simp
 refine wpAnyH_take (i := 4) (v := .pointer (some ⟨bA,0,none⟩)) rfl (by kernel_rfl) (by kernel_rfl) (by kernel_rfl) (fun c x w => hQ c x _ _ w) (Or.inl ⟨by rfl,?y12⟩) hS ?_
 case y12 => (intro w' hw'; go_simp)
 go_simp
 refine wpAnyH_take (i := 5) (v := .int .i64 x) rfl (by kernel_rfl) (by kernel_rfl) (by kernel_rfl) (fun c x w => hQ c x _ _ w) (Or.inl ⟨by rfl,?y13⟩) hS ?_
 case y13 => (intro w' hw'; have c0 := B2.c0 hw'; go_simp)
 go_simp
 refine wpAnyH_take (i := 6) (v := .int .i64 (min q y - x)) rfl (by kernel_rfl) (by kernel_rfl) (by kernel_rfl) (fun c x w => hQ c x _ _ w) (Or.inl ⟨by rfl,?y14⟩) hS ?_
 case y14 => (intro w' hw'; go_simp; simp [IntKind.wrap,IntKind.bits,IntKind.signed]; omega)
 go_simp
 refine wpAnyH_take (i := 7) (v := .agg #[.int .i64 x,.int .i64 y]) rfl (by kernel_rfl) (by kernel_rfl) (by kernel_rfl) (fun c x w => hQ c x _ _ w) (Or.inl ⟨by rfl,?y15⟩) hS ?_
 case y15 => (intro w' hw'; have c0 := B2.c0 hw'; have c1 := B2.c1 hw'; go_simp)
 go_simp
 refine two_h (i := 8) (j := 10) (by kernel_rfl) rfl rfl (by kernel_rfl) (by kernel_rfl) (fun K hK' => ?_) (fun K hK' => ?_)
 ·go_simp
  refine (grows_any x y (by omega) (by omega) _).mono ?_
  rintro e w1 ⟨rfl,b1⟩
  have hB1 := hBd.trans (b1.mono hBd.size)
  have hS1 := hS.below b1 hS.lt
  refine hK' _ _ hS1 ?_
  clear hK' K
  go_simp
  refine wpAnyH_take (i := 9) (v := .agg #[.int .i64 (min q y - x),.int .i64 (y - x),.int .i64 0,.int .i64 0]) rfl (by kernel_rfl) (by kernel_rfl) (by kernel_rfl) (fun c x w => hQ c x _ _ w) (Or.inl ⟨by rfl,?y16⟩) hS1 ?_
  case y16 => (intro w' hw'; go_simp)
  go_simp
  refine want_h (i := 10) (by kernel_rfl) rfl (by kernel_rfl) fun K hK' => ?_
  go_simp
  have hS2 := hS1.turns (Turns.alloc Noth w1 (.cells #[.int .i64 0,.int .i64 0,.int .i64 0,.int .i64 0] 105)) (fun h => h)
  have hB2 := hB1.alloc hB1.size (.cells #[.int .i64 0,.int .i64 0,.int .i64 0,.int .i64 0] 105)
  have hZ := SH.new w1 0 0 0 0
  refine hK' _ _ hS2 ?_
  clear hK' K
  go_simp
  have hBB : W.heap.size ≤ w1.heap.size := hB1.size
  generalize w1.alloc (.cells #[.int .i64 0,.int .i64 0,.int .i64 0,.int .i64 0] 105) = w2 at *
  generalize w1.heap.size = B at *
  refine want_h (i := 11) (by kernel_rfl) rfl (by kernel_rfl) fun K hK' => ?_
  refine wp_store_row 105 _ _ rfl B #[.int .i64 (min q y - x),.int .i64 (y - x),.int .i64 0,.int .i64 0] rfl rfl 105 _ hZ.row (info91 _ _ _ _) rfl (one91 _ _ _ _) ?_
  have hT3 := Turns.setRow (X := fun b => b = B) w2 (r := B) rfl #[.int .i64 (min q y - x),.int .i64 (y - x),.int .i64 0,.int .i64 0]
  have hB3 : Below W.heap.size W (w2.setRow B #[.int .i64 (min q y - x),.int .i64 (y - x),.int .i64 0,.int .i64 0]) := hB2.trans (hT3.below hB2.size (fun k hk => by omega))
  exact hK' _ _ (hS2.turns hT3 (by omega)) (wpAnyH_done (by kernel_rfl) (hK B _ hBB ⟨setRow_heap _ _ _ _ 105 _ hZ.row⟩ hB3) _)
 ·go_simp
  have hS1 := hS.turns (Turns.alloc Noth V (.cells #[.int .i64 0,.int .i64 0,.int .i64 0,.int .i64 0] 105)) (fun h => h)
  have hB1 := hBd.alloc hBd.size (.cells #[.int .i64 0,.int .i64 0,.int .i64 0,.int .i64 0] 105)
  have hZ1 := SH.new V 0 0 0 0
  have hBB : W.heap.size ≤ V.heap.size := hBd.size
  refine hK' _ _ hS1 ?_
  clear hK' K
  go_simp
  generalize V.alloc (.cells #[.int .i64 0,.int .i64 0,.int .i64 0,.int .i64 0] 105) = w1 at *
  generalize V.heap.size = B at *
  refine want_h (i := 8) (by kernel_rfl) rfl (by kernel_rfl) fun K hK' => ?_
  go_simp
  refine (grows_any x y (by omega) (by omega) _).mono ?_
  rintro e w2 ⟨rfl,b2⟩
  have hB2 := hB1.trans (b2.mono hB1.size)
  have hS2 := hS1.below b2 hS1.lt
  have hZ := hZ1.below b2 hZ1.lt
  refine hK' _ _ hS2 ?_
  clear hK' K
  go_simp
  refine wpAnyH_take (i := 9) (v := .agg #[.int .i64 (min q y - x),.int .i64 (y - x),.int .i64 0,.int .i64 0]) rfl (by kernel_rfl) (by kernel_rfl) (by kernel_rfl) (fun c x w => hQ c x _ _ w) (Or.inl ⟨by rfl,?y17⟩) hS2 ?_
  case y17 => (intro w' hw'; go_simp)
  go_simp
  refine want_h (i := 11) (by kernel_rfl) rfl (by kernel_rfl) fun K hK' => ?_
  refine wp_store_row 105 _ _ rfl B #[.int .i64 (min q y - x),.int .i64 (y - x),.int .i64 0,.int .i64 0] rfl rfl 105 _ hZ.row (info91 _ _ _ _) rfl (one91 _ _ _ _) ?_
  have hT3 := Turns.setRow (X := fun b => b = B) w2 (r := B) rfl #[.int .i64 (min q y - x),.int .i64 (y - x),.int .i64 0,.int .i64 0]
  have hB3 : Below W.heap.size W (w2.setRow B #[.int .i64 (min q y - x),.int .i64 (y - x),.int .i64 0,.int .i64 0]) := hB2.trans (hT3.below hB2.size (fun k hk => by omega))
  exact hK' _ _ (hS2.turns hT3 (by omega)) (wpAnyH_done (by kernel_rfl) (hK B _ hBB ⟨setRow_heap _ _ _ _ 105 _ hZ.row⟩ hB3) _)
end Go.Proofs.YtaphggjakaghjaaGreatDoor

namespace Go.Proofs.YtaphggjakaghjaaGreatDoor
open Go.RowKit Go.Shelf
set_option maxRecDepth 100000
set_option maxHeartbeats 2000000

def ints (l : List Int) : List Value := l.map (Value.int .i64)
def IBk (W : World) (g : Nat) (l : List Int) : Prop := W.heap[g]? = some (.cells (ints l).toArray 3 (0,0))
theorem IBk.lt {W : World} {g : Nat} {l : List Int} (h : IBk W g l) : g < W.heap.size := (Array.getElem?_eq_some_iff.1 h).1
theorem IBk.cell {W : World} {g : Nat} {l : List Int} (h : IBk W g l) {k : Nat} (hk : k < l.length) : W.cell? ⟨g,k,none⟩ = some (.int .i64 (l[k]'hk)) ∧ W.frozen? ⟨g,k,none⟩ = false := by
 refine ⟨?_,Lib.frozen_of_heap h _⟩
 rw [Lib.cell_of_heap h]
 simp [ints,hk]
theorem IBk.set {W : World} {g : Nat} {l : List Int} (h : IBk W g l) (k : Nat) (x : Int) : IBk (W.setCell ⟨g,k,none⟩ (.int .i64 x)) g (l.set k x) := by
 have := heap_setCell_same W g k (ints l).toArray 3 (.int .i64 x) h
 unfold IBk
 rw [this]
 congr 2
 apply Array.ext'
 simp [ints,List.map_set]
theorem IBk.turns {W W' : World} {g : Nat} {l : List Int} (h : IBk W g l) {X : Nat → Prop} (ht : Turns X W W') (hX : ¬ X g) : IBk W' g l := (ht.block g h.lt hX).trans h
theorem IBk.below {W W' : World} {g : Nat} {l : List Int} (h : IBk W g l) {n : Nat} (hb : Below n W W') (hn : g < n) : IBk W' g l := (hb.block g hn).trans h
def inL (x : Int) : List Value := [.int .i64 x]
abbrev InAt (W : World) (v : Value) (l : List Int) : Prop := RecAt 1 inL W v l
theorem madeI (n : Nat) : madeCells #[.int .i64 0] n = (ints (List.replicate n 0)).toArray := by
 apply Array.ext
 ·simp [madeCells,ints]
 ·intro i h1 h2
  simp [madeCells,ints,Nat.mod_one]
theorem make26 {n : Nat} (h : n ≤ 400) (W : World) : (Instr.makeSlice 36 (.int .i64 (n : Int)) (.int .i64 (n : Int))).run Tryz.prog W = .ok (.slice (some ⟨W.heap.size,0,none⟩) n n) (W.alloc (.cells (ints (List.replicate n 0)).toArray 3)) := by
 obtain ⟨i9,hi⟩ := Option.isSome_iff_exists.1 (show (Tryz.prog.info? 3).isSome = true by kernel_rfl)
 have hz0 : i9.zero = some (.int .i64 0) := by
  have h : (Tryz.prog.info? 3).map (·.zero) = some (some (.int .i64 0)) := by kernel_rfl
  rw [hi] at h; simpa using h
 have hz1 : i9.size = 1 := by
  have h : (Tryz.prog.info? 3).map (·.size) = some 1 := by kernel_rfl
  rw [hi] at h; simpa using h
 have hz2 : i9.bytes = 8 := by
  have h : (Tryz.prog.info? 3).map (·.bytes) = some 8 := by kernel_rfl
  rw [hi] at h; simpa using h
 have := run_makeSlice (P := Tryz.prog) (w := W) 36 3 i9 _ Tryz.underlying36 hi hz0 .i64 .i64 n n (by omega) (by omega) (by rw [hz1]; omega) (by rw [hz2]; omega) (by omega)
 rw [hz1,Int.toNat_natCast,Nat.mul_one] at this
 rw [← madeI]
 exact this

def upto (f : Nat → Int) (n k : Nat) : List Int := (List.range k).map f ++ List.replicate (n - k) 0
theorem upto_len {f : Nat → Int} {n k : Nat} (h : k ≤ n) : (upto f n k).length = n := by simp [upto]; omega
theorem upto_zero (f : Nat → Int) (n : Nat) : upto f n 0 = List.replicate n 0 := by simp [upto]
theorem upto_all (f : Nat → Int) (n : Nat) : upto f n n = (List.range n).map f := by simp [upto]
theorem upto_set {f : Nat → Int} {n k : Nat} (h : k < n) : (upto f n k).set k (f k) = upto f n (k + 1) := by
 unfold upto
 rw [List.set_append_right _ _ (by simp),List.range_succ,List.map_append]
 obtain ⟨m,hm⟩ : ∃ m,n - k = m + 1 := ⟨n - k - 1,by omega⟩
 rw [hm,show n - (k + 1) = m by omega]
 simp [List.replicate_succ]
theorem upto_get {f : Nat → Int} {n k : Nat} (h : k < n) : ∃ hk : k < (upto f n k).length,(upto f n k)[k] = 0 := by
 refine ⟨by rw [upto_len (by omega)]; exact h,?_⟩
 simp only [upto]
 rw [List.getElem_append_right (by simp)]
 simp

def evF (c : Nat) (q : Int) (i : Nat) : Int := gv q c ((i + 1 : Nat) : Int) - gv q c (i : Int)
def evL (c : Nat) (q : Int) : List Int := (List.range c).map (evF c q)
theorem gv_zero (r p : Int) : gv r p 0 = 0 := by unfold gv; simp
theorem gv_rng {r p t : Int} (hr : 0 ≤ r) (ht : 0 ≤ t) : 0 ≤ gv r p t ∧ gv r p t ≤ r * t := by
 have h0 : 0 ≤ r * t := Int.mul_nonneg hr ht
 exact ⟨Int.ediv_nonneg h0 (by omega),Int.ediv_le_self _ h0⟩

theorem evenly_any (c : Nat) (q : Int) (hc : 1 ≤ c ∧ c ≤ 8) (hq : 0 ≤ q ∧ q ≤ 4095) (w : World) :
  Calls Tryz.prog 43 #[.int .i64 c,.int .i64 q] w fun e w' => ∃ b,w.heap.size ≤ b ∧ e = .returned (.slice (some ⟨b,0,none⟩) c c) ∧ IBk w' b (evL c q) ∧ Below w.heap.size w w' := by
 have hc1 := hc.1
 have hc2 := hc.2
 have hZ := SH.new w 0 0 0 0
 have hT1 := Turns.setRow (X := fun b => b = w.heap.size) (w.alloc (.cells #[.int .i64 0,.int .i64 0,.int .i64 0,.int .i64 0] 105)) (r := w.heap.size) rfl #[.int .i64 q,.int .i64 c,.int .i64 0,.int .i64 0]
 have hB0 := (Below.refl w.heap.size w).alloc (Nat.le_refl _) (.cells #[.int .i64 0,.int .i64 0,.int .i64 0,.int .i64 0] 105)
 have hB1 : Below w.heap.size w ((w.alloc (.cells #[.int .i64 0,.int .i64 0,.int .i64 0,.int .i64 0] 105)).setRow w.heap.size #[.int .i64 q,.int .i64 c,.int .i64 0,.int .i64 0]) := hB0.trans (hT1.below hB0.size (fun k hk => by omega))
 have hS1 : SH ((w.alloc (.cells #[.int .i64 0,.int .i64 0,.int .i64 0,.int .i64 0] 105)).setRow w.heap.size #[.int .i64 q,.int .i64 c,.int .i64 0,.int .i64 0]) w.heap.size q c 0 0 := ⟨setRow_heap _ _ _ _ 105 _ hZ.row⟩
 clear hT1 hB0
 go_enter Tryz.func43,Tryz.ntmps43
 go_wp2_with (refine wpList_store_row rfl 105 _ _ rfl w.heap.size #[.int .i64 q,.int .i64 c,.int .i64 0,.int .i64 0] rfl rfl 105 _ hZ.row (info91 _ _ _ _) rfl (one91 _ _ _ _) ?_; clear hZ; generalize (w.alloc (.cells #[.int .i64 0,.int .i64 0,.int .i64 0,.int .i64 0] 105)).setRow w.heap.size #[.int .i64 q,.int .i64 c,.int .i64 0,.int .i64 0] = w1 at *; have hmk := make26 (n := c) (by omega) w1)
 have hI : IBk (w1.alloc (.cells (ints (List.replicate c 0)).toArray 3)) w1.heap.size (upto (evF c q) c 0) := by rw [upto_zero]; exact World.alloc_heap_new w1 _
 have hS2 := hS1.turns (Turns.alloc Noth w1 (.cells (ints (List.replicate c 0)).toArray 3)) (fun h => h)
 have hB2 := hB1.alloc hB1.size (.cells (ints (List.replicate c 0)).toArray 3)
 have hne : w.heap.size < w1.heap.size := hS1.lt
 generalize w1.alloc (.cells (ints (List.replicate c 0)).toArray 3) = w2 at *
 obtain ⟨T,hT⟩ : ∃ T,w1.heap.size = T := ⟨_,rfl⟩
 rw [hT] at hmk hI hne ⊢
 obtain ⟨B,hB⟩ : ∃ B,w.heap.size = B := ⟨_,rfl⟩
 rw [hB] at hB2 hS2 hne ⊢
 clear hT hS1 hB1 hmk
 go_loopw [15] (fun i wr => ∃ k : Nat,k ≤ c ∧ i = .int .i64 (k : Int) ∧ Below B w wr ∧ SH wr B q c (k : Int) (gv q c (k : Int)) ∧ Hid (IBk wr T (upto (evF c q) c k))) (fun i _ => c - (intOf i).toNat)
 case atStart => exact ⟨0,by omega,rfl,hB2,by rw [show ((0 : Nat) : Int) = 0 from rfl,gv_zero]; exact hS2,hI⟩
 case round =>
  clear hI hS2 hB2
  obtain ⟨k,hk,rfl,hb,hr,hi⟩ := hrel
  by_cases hlt : k < c
  ·have hlt' : (k : Int) < c := by omega
   have hg := gv_rng (r := q) (p := c) (t := k) hq.1 (by omega)
   have hg2 : q * (k : Int) ≤ 4095 * 8 := Int.mul_le_mul hq.2 (by omega) (by omega) (by omega)
   have hN := next_any B q c k (gv q c k) 1 (by omega) (by omega) (by omega) (by omega) (by omega) wr hr
   have hend : ∀ w2,Turns (fun k => k = B) wr w2 → w2.cell? ⟨T,k,none⟩ = some (.int .i64 0) ∧ w2.frozen? ⟨T,k,none⟩ = false ∧ Hid (∀ y,y = evF c q k → IBk (w2.setCell ⟨T,k,none⟩ (.int .i64 y)) T (upto (evF c q) c (k + 1))) ∧ ∀ y,Below B w (w2.setCell ⟨T,k,none⟩ (.int .i64 y)) := fun w2 ht => by
    have hi2 := hi.out.turns ht (by omega)
    obtain ⟨hkl,hk0⟩ := upto_get (f := evF c q) hlt
    have := hi2.cell hkl
    rw [hk0] at this
    refine ⟨this.1,this.2,?_,fun y => ?_⟩
    ·rintro y rfl
     rw [← upto_set hlt]
     exact hi2.set k _
    ·exact (hb.trans (ht.below (by have := hb.size; omega) (fun k hk => by omega))).setCell (p := ⟨T,k,none⟩) (by show B ≤ T; omega) _
   have hd : ∀ w2 (y : Int),SH w2 B q c ((k : Int) + 1) y → SH (w2.setCell ⟨T,k,none⟩ (.int .i64 (y - gv q c k))) B q c ((k : Int) + 1) y := fun w2 y h => h.turns (Turns.setCell (X := fun b => b = T) w2 (p := ⟨T,k,none⟩) rfl _) (by omega)
   have hev : Hid (gv q c ((k : Int) + 1) - gv q c k = evF c q k) := (rfl : _ = _)
   generalize gv q c k = g0 at *
   generalize hg1 : gv q c ((k : Int) + 1) = g1 at *
   have hg1' : Hid (gv q c ((k : Int) + 1) = g1) := hg1
   clear hg1 hr hi hb
   go_wp2_with fail
   refine hN.mono ?_
   rintro e w2 ⟨rfl,hs,ht⟩
   obtain ⟨c0,z0,h3,h4⟩ := hend w2 ht
   clear hend hN
   go_wp2_with fail
   go_roundw
   case rel => exact ⟨k + 1,by omega,by simp,h4 _,by rw [show ((k + 1 : Nat) : Int) = (k : Int) + 1 by omega,hg1'.out]; exact hd _ _ hs,h3.out _ hev.out⟩
   case measure => simp [intOf]; omega
  ·obtain rfl : k = c := by omega
   have hge : ¬ (k : Int) < k := by omega
   go_wp2_with fail
   go_ret
   exact ⟨T,by omega,rfl,by have := hi.out; rw [upto_all] at this; exact this,hb⟩
end Go.Proofs.YtaphggjakaghjaaGreatDoor
