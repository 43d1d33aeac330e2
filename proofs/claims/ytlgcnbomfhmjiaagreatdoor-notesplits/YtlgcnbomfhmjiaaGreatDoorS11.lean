/-
  What is proved here: what Masses of metric answers of any paragraph.
  What is proved here: masses that lie in a block, read and written field by field; masses that are made 0 wide.
  What is proved here: the four ways to align; a drop capital, how wide it is, its glyph; how wide a hyphen is.
  What is proved here: how wide a drop capital is, and its glyph.
  What is proved here: what Place of set answers.
  What is proved here: how much room a drop capital takes, as Drop of set tells it.
-/
import Derived.Test.YtlgcnbomfhmjiaaGreatDoorS9
import Derived.Test.YtlgcnbomfhmjiaaGreatDoorS10
import Derived.Deep.MidRow
import Derived.OrdersHeld
import Derived.Test.YtlgcnbomfhmjiaaGreatDoorS8
import Derived.Test.YtlgcnbomfhmjiaaGreatDoorS5
import Derived.Test.YtlgcnbomfhmjiaaGreatDoorS1
import Derived.Test.YtlgcnbomfhmjiaaGreatDoorS6
import Derived.Test.YtlgcnbomfhmjiaaGreatDoorS7
import Derived.Test.YtlgcnbomfhmjiaaGreatDoorRows
import Derived.BigQuiet
import Derived.Handy
import Derived.Laws.ResultCell
import Derived.RangeFuncNested
import Derived.Maps.OwnSet
import Derived.Test.YtlgcnbomfhmjiaaGreatDoorProg
import Derived.RangeFuncBound
import Derived.RangeFuncCalls
import Derived.RangeFuncLeaves
import Derived.Shelf.Abstract
import Derived.Shelf.RegionOpen
import Derived.OwnWalkIn
import Derived.TacticsInMore
import Derived.LoopNIn
import Derived.LoopIn
import Derived.Lib.Builder
import Derived.Laws.IdiomStrings
namespace Go.Proofs.YtlgcnbomfhmjiaaGreatDoor
open Go.RowKit Go.Shelf
set_option maxRecDepth 100000
set_option maxHeartbeats 4000000

theorem info43 : (Tryz.prog.info? 107).map (fun i => (i.zero,i.size,i.bytes)) = some (some (.agg #[.int .i64 0,.int .i64 0,.int .i64 0,.int .i64 0,.int .i64 0,.int .i64 0]),6,48) := by kernel_rfl
theorem make36 {n : Nat} (h : n ≤ 4096) (W : World) : ∃ cs : Array Value,cs.size = n * 6 ∧ (Instr.makeSlice 101 (.int .i64 (n : Int)) (.int .i64 (n : Int))).run Tryz.prog W = .ok (.slice (some ⟨W.heap.size,0,none⟩) n n) (W.alloc (.cells cs 107)) := by
 obtain ⟨i0,hi0,hz0,hz1,hz2⟩ := info_parts info43
 have := run_makeSlice (P := Tryz.prog) (w := W) 101 107 i0 _ Tryz.underlying101 hi0 hz0 .i64 .i64 n n (by omega) (by omega) (by rw [hz1]; omega) (by rw [hz2]; omega) (by omega)
 refine ⟨_,?_,this⟩
 simp [madeCells,hz1]

def MassEnd (a : Pa) (w : World) (e : Ending) (w' : World) : Prop :=
 (∃ v,e = .returned (.tuple #[v,.int .i64 (chkI a)]) ∧ ((chkI a ≠ 0 ∧ v = .slice none 0 0) ∨ (chkI a = 0 ∧ w'.ownsRow w.heap.size 107 6 v (num a.t) ((mss a).flatMap msL)))) ∧ Below w.heap.size w w'

theorem masses_no (a : Pa) (w : World) (hA : PaAt w a) (h : chkI a ≠ 0) : Calls Tryz.prog 83 #[paV a] w (MassEnd a w) := by
 have hB := (Below.refl w.heap.size w).alloc (Nat.le_refl _) (Obj.cells (paC a) 36)
 have hP := PB.new w a
 have hA1 := hA.below hB (Nat.le_refl _)
 have hs := msplit_any a _ hA1
 have hE : Hid (∀ W,Below w.heap.size w W → MassEnd a w (.returned (.tuple #[.slice none 0 0,.int .i64 (chkI a)])) W) := fun W hW => ⟨⟨_,rfl,.inl ⟨h,rfl⟩⟩,hW⟩
 unfold SplitEnd at hs
 unfold paV at hs ⊢
 have h' : (chkI a == 0) = false := by simpa using h
 generalize chkI a = n at *
 generalize hw1 : w.alloc (.cells (paC a) 36) = w1 at *
 go_enter Tryz.func83,Tryz.ntmps83
 go_wp2_with (refine wpList_load_row rfl 36 _ rfl w.heap.size rfl 36 _ (0,0) _ hP.row Tryz.underlying36 rfl (info34 a) ?_)
 refine hs.mono ?_
 rintro e w2 ⟨⟨v,rfl,_⟩,hb2⟩
 have hB2 := hB.trans (hb2.mono hB.size)
 go_wp2_with fail
 go_ret2
 exact hE.out _ hB2

def Mv (W : World) (a : Pa) (r : Nat) (v : Value) : Prop :=
 (a.ms.length = r ∧ ∃ ad c,v = .slice ad 0 c) ∨ ∃ g o m c,v = .slice (some ⟨g,o,none⟩) m c ∧ r + m = a.ms.length ∧ 0 < m ∧ m ≤ c ∧ g < W.heap.size ∧ ∀ i (h : r + i < a.ms.length),W.cell? ⟨g,o + i,none⟩ = some (.string a.ms[r + i])

theorem laid_step {a : Pa} {k : Nat} {cs : Array Value} (h : Laid a k cs) (hk : k < num a.t) {x y kd s w q : Int} (he : msI a k = ⟨x,y,kd,s,w,q⟩) :
  Laid a (k + 1) (put6 cs (k * 6) (.int .i64 x) (.int .i64 y) (.int .i64 kd) (.int .i64 s) (.int .i64 w) (.int .i64 q)) := by
 refine ⟨by unfold put6; simpa using h.1,fun j hj i u hu => ?_⟩
 have hi : i < 6 := by have := (List.getElem?_eq_some_iff.1 hu).1; rwa [msL_len] at this
 have hsz := h.1
 unfold put6
 by_cases hjk : j < k
 ·have h0 := h.2 j hjk i u hu
  rw [Array.getElem?_setIfInBounds_ne (by omega),Array.getElem?_setIfInBounds_ne (by omega),Array.getElem?_setIfInBounds_ne (by omega),Array.getElem?_setIfInBounds_ne (by omega),Array.getElem?_setIfInBounds_ne (by omega),Array.getElem?_setIfInBounds_ne (by omega)]
  exact h0
 ·obtain rfl : j = k := by omega
  rw [he] at hu
  have h6 : i = 0 ∨ i = 1 ∨ i = 2 ∨ i = 3 ∨ i = 4 ∨ i = 5 := by omega
  rcases h6 with rfl | rfl | rfl | rfl | rfl | rfl <;> (simp [msL] at hu; subst hu; simp [Array.getElem?_setIfInBounds,hsz]; try omega)

theorem mv_step {W : World} {a : Pa} {r r' g o m c : Nat} (hr : r' = r + 1) (hm : r + m = a.ms.length) (hm0 : 0 < m) (hc : m ≤ c) (hg : g < W.heap.size) (h : ∀ i (h : r + i < a.ms.length),W.cell? ⟨g,o + i,none⟩ = some (.string a.ms[r + i])) :
  Mv W a r' (.slice (some ⟨g,o + 1,none⟩) (m - 1) (c - 1)) := by
 subst hr
 by_cases h1 : m ≤ 1
 ·by_cases h0 : m = 0
  ·omega
  ·obtain rfl : m = 1 := by omega
   exact .inl ⟨by omega,_,_,rfl⟩
 ·refine .inr ⟨g,o + 1,m - 1,c - 1,rfl,by omega,by omega,by omega,hg,fun i hi => ?_⟩
  have := h (i + 1) (by omega)
  rw [show o + 1 + i = o + (i + 1) by omega,this]
  congr 2
  congr 1
  omega

structure Kp (a : Pa) (w : World) (B gl F S Bq T A : Nat) (OL : Obj) (k : Nat) (v7 : Value) (W : World) : Prop where
 bel : Below w.heap.size w W
 pb : PB W B a
 cl : k < num a.t → W.heap[gl]? = some OL
 lk : k < num a.t → ∃ i,i ≤ a.sp.length ∧ offs a.sp i ≤ st a.t k ∧ LkAt a F S Bq i W
 ah : FB W A (pf a k)
 told : ∃ cs,W.heap[T]? = some (.cells cs 107 (0,0)) ∧ Laid a k cs
 mv : Mv w a (rI a.t k) v7

theorem masses_ok (a : Pa) (w : World) (hA : PaAt w a) (h : chkI a = 0) : Calls Tryz.prog 83 #[paV a] w (MassEnd a w) := by
 have hB := (Below.refl w.heap.size w).alloc (Nat.le_refl _) (Obj.cells (paC a) 36)
 have hP := PB.new w a
 have hA1 := hA.below hB (Nat.le_refl _)
 have hG := good_of h
 have hs := msplit_any a _ hA1
 have hE : Hid (∀ W v,W.ownsRow w.heap.size 107 6 v (num a.t) ((mss a).flatMap msL) → Below w.heap.size w W → MassEnd a w (.returned (.tuple #[v,.int .i64 0])) W) := fun W v hv hW => ⟨⟨_,by rw [h],.inr ⟨h,hv⟩⟩,hW⟩
 have hsz1 : (w.alloc (.cells (paC a) 36)).heap.size = w.heap.size + 1 := World.size_alloc _ _
 unfold SplitEnd at hs
 unfold paV at hs ⊢
 rw [h] at hs
 clear h
 generalize hw1 : w.alloc (.cells (paC a) 36) = w1 at *
 go_enter Tryz.func83,Tryz.ntmps83
 go_wp2_with (refine wpList_load_row rfl 36 _ rfl w.heap.size rfl 36 _ (0,0) _ hP.row Tryz.underlying36 rfl (info34 a) ?_)
 refine hs.mono ?_
 rintro e w2 ⟨⟨v,rfl,hv2⟩,hb2⟩
 have hown : w2.ownsRow w1.heap.size 182 3 v (num a.t) (rowC a.t (num a.t)) := by
  rcases hv2 with ⟨h,_⟩ | ⟨_,h⟩
  ·exact absurd rfl h
  ·exact h
 have hB2 := hB.trans (hb2.mono hB.size)
 have hP2 := hP.below hb2 hP.lt
 have hA2 := hA1.below hb2 (Nat.le_refl _)
 have hsz2 := hb2.size
 clear hv2 hs hA1 hP
 go_wp2_with fail
 refine mass_r4 _ (fun _ _ _ _ _ h => h) _ _ w.heap.size a w2 hP2 hA2 ?_
 intro F S Bq w3 hbd hL hb3
 unfold fr17
 have hB3 := hB2.trans (hb3.mono hB2.size)
 have hP3 := hP2.below hb3 hP2.lt
 have hown3 := ownsRow_below hown hb3
 have hnum := num_le a.t
 have hsz := hG.size
 obtain ⟨cs0,hcs0,hmk⟩ := make36 (n := num a.t) (by omega) w3
 obtain ⟨adl,lcap,gl,OL,hv,hcl⟩ : ∃ adl lcap gl OL,v = .slice adl (num a.t) lcap ∧ (0 < num a.t → adl = some ⟨gl,0,none⟩ ∧ w3.heap[gl]? = some OL ∧ w1.heap.size ≤ gl ∧ gl < w2.heap.size ∧ ∀ W : World,W.heap[gl]? = some OL → ∀ i,i < num a.t → W.cell? ⟨gl,i * 3,none⟩ = some (.int .i64 (st a.t i : Nat)) ∧ W.cell? ⟨gl,i * 3 + 1,none⟩ = some (.int .i64 (st a.t (i + 1) : Nat)) ∧ W.cell? ⟨gl,i * 3 + 2,none⟩ = some (.int .i64 (kindI (bt a.t (st a.t i))))) := by
  rcases hown3.2 with ⟨rfl,h0⟩ | ⟨g,cap,cur,rfl,hb',hg,r⟩
  ·exact ⟨none,0,0,.cells #[] 0,by rw [h0],fun h => by omega⟩
  ·refine ⟨_,cap,g,_,rfl,fun _ => ⟨rfl,hg,hb',?_,fun W hW i hi => ?_⟩⟩
   ·exact (hown.lt g rfl).2
   ·have hW' : W.ownsRow w1.heap.size 182 3 (.slice (some ⟨g,0,none⟩) (num a.t) cap) (num a.t) (rowC a.t (num a.t)) := ⟨hown3.1,.inr ⟨g,cap,cur,rfl,hb',hW,r⟩⟩
    have hc := fun j u (hu : (rowC a.t (num a.t))[j]? = some u) => hW'.cells (g := g) rfl j u hu
    have hrc := rowC_get a.t (num a.t) i hi
    refine ⟨?_,?_,?_⟩
    ·have := hc _ _ (hrc 0 _ rfl); rwa [addr_add0] at this
    ·have := hc _ _ (hrc 1 _ rfl); rwa [addr_add0] at this
    ·have := hc _ _ (hrc 2 _ rfl); rwa [addr_add0] at this
 subst hv
 have hmv : Hid (∃ ad mc,a.mv = .slice ad a.ms.length mc ∧ Mv w a 0 (.slice ad a.ms.length mc)) := by
  obtain ⟨ad,mc,e,h2⟩ := hA.ms.ex
  refine ⟨ad,mc,e,?_⟩
  have hle := hA.ms.le _ _ _ e
  by_cases h0 : a.ms.length = 0
  ·exact .inl ⟨h0,_,_,by rw [h0]⟩
  ·rcases h2 with h2 | ⟨g,o,rfl,hg,hc⟩
   ·rw [h2] at h0; exact absurd rfl h0
   ·exact .inr ⟨g,o,_,_,rfl,by omega,by omega,hle,hg,fun i hi => by have := hc i (by omega); rw [this]; congr 2; congr 1; omega⟩
 have hbw : ∀ b o cap,a.sv = .slice (some ⟨b,o,none⟩) a.sp.length cap → a.sp ≠ [] → b < w.heap.size := fun b o cap e hne => by
  obtain ⟨ad,c,e',h2⟩ := hA.sp.ex
  rw [e] at e'
  cases e'
  rcases h2 with h2 | ⟨b,o,e2,hb,_⟩
  ·exact absurd h2 hne
  ·cases e2; exact hb
 obtain ⟨adm,mc,hmv1,hmv2⟩ := hmv.out
 rw [hmv1]
 obtain ⟨n,hn⟩ : ∃ n,num a.t = n := ⟨_,rfl⟩
 have hK0 : Hid (Kp a w w.heap.size gl F S Bq w3.heap.size (w3.heap.size + 1) OL 0 (.slice adm a.ms.length mc) ((w3.alloc (.cells cs0 107)).alloc (.cells #[.int .i64 0,.int .u8 0,.int .i64 0,.int .i64 0,.int .i64 0] 180))) := by
  have hs3 := hb3.size
  have hlt2 := hB2.size
  refine ⟨?_,?_,fun h0 => ?_,fun h0 => ?_,?_,⟨cs0,?_,hcs0,fun j hj => by omega⟩,hmv2⟩
  ·have b1 := hB3.alloc hB3.size (.cells cs0 107)
   exact b1.alloc b1.size _
  ·exact (hP3.turns (Turns.alloc Noth _ _) (fun h => h)).turns (Turns.alloc Noth _ _) (fun h => h)
  ·have hg := (hcl h0).2.1
   have hgl := (Array.getElem?_eq_some_iff.1 hg).1
   exact (Below.heap_alloc _ _ _ (by simp; omega)).trans ((Below.heap_alloc _ _ _ hgl).trans hg)
  ·have hne : a.sp ≠ [] := fun e => by
    have := hG.sp
    rw [e] at this
    have := of_decide_eq_true (show decide ((a.t.size : Int) = 0) = true from this)
    omega
   exact ⟨0,Nat.zero_le _,by rw [offs_zero]; omega,((hL hne).turns (Turns.alloc Noth _ _) (fun h => h) (fun h => h) (fun h => h) (fun _ _ _ _ h => h)).turns (Turns.alloc Noth _ _) (fun h => h) (fun h => h) (fun h => h) (fun _ _ _ _ h => h)⟩
  ·have := FB.new (w3.alloc (.cells cs0 107)) fc0
   rw [World.size_alloc] at this
   exact this
  ·exact (Below.heap_alloc _ _ _ (by simp)).trans (World.alloc_heap_new w3 _)
 clear hmv hmv1 hmv2 hown hown3 hP2 hA2 hP3 hL
 rw [hn] at hmk
 have hn' : Hid (num a.t = n) := hn
 rw [hn]
 clear hn
 have hT0 : w3.heap.size < w3.heap.size + 1 := by omega
 have hTw : w2.heap.size ≤ w3.heap.size := hb3.size
 generalize hTT : w3.heap.size = T at *
 go_wp2_with fail
 clear hmk hcs0
 go_loopw [7,31] (fun u7 u31 wr => ∃ k : Nat,k ≤ n ∧ u31 = .int .i64 k ∧ Hid (Kp a w w.heap.size gl F S Bq T (T + 1) OL k u7 wr)) (fun _ u31 _ => n - (intOf u31).toNat)
 case atStart => exact ⟨0,by omega,rfl,hK0⟩
 case round =>
  obtain ⟨k,hk,rfl,hkp⟩ := hrel
  by_cases hlt : k < n
  ·have hkn : k < num a.t := by rw [hn'.out]; exact hlt
   have hlt' : (k : Int) < n := by omega
   obtain ⟨hadl,_,hgl1,hgl2,hclc⟩ := hcl (by omega)
   subst hadl
   obtain ⟨c0,c1,c2⟩ := hclc wr (hkp.out.cl hkn) k hkn
   obtain ⟨i,hi0,hik,hLk⟩ := hkp.out.lk hkn
   obtain ⟨cs,hcs,hlaid⟩ := hkp.out.told
   have hbel := hkp.out.bel
   have hpb := hkp.out.pb
   have hah := hkp.out.ah
   have hmv := hkp.out.mv
   have hcl2 := hkp.out.cl hkn
   have hstk := num_lt hkn
   have hfok := hG.fok hkn
   have hFl := hLk.fr.lt
   have hTl : T < wr.heap.size := (Array.getElem?_eq_some_iff.1 hcs).1
   have hAl := hah.lt
   have hbe := bt_eq hstk
   obtain ⟨x,hx⟩ : ∃ x,st a.t k = x := ⟨_,rfl⟩
   obtain ⟨y,hy⟩ : ∃ y,st a.t (k + 1) = y := ⟨_,rfl⟩
   obtain ⟨kd,hkd⟩ : ∃ kd,kindI (bt a.t (st a.t k)) = kd := ⟨_,rfl⟩
   have hxb : x < a.t.size := by rw [← hx]; exact hstk
   have hyb : ((a.t[x]'hxb).toNat : Int) = bt a.t x := (bt_eq hxb).symm
   rw [hkd] at c2
   rw [hx] at c0 hik
   rw [hy] at c1
   have hx' : Hid (st a.t k = x) := hx
   have hy' : Hid (st a.t (k + 1) = y) := hy
   have hkd' : Hid (kindI (bt a.t (st a.t k)) = kd) := hkd
   clear hbe hx hy hkd hstk
   clear hclc hcl
   obtain ⟨w4,hw4⟩ : ∃ w4,wr.alloc (.cells #[.int .i64 (x : Nat),.int .i64 (y : Nat),.int .i64 kd] 182) = w4 := ⟨_,rfl⟩
   have hT4 : Turns Noth wr w4 := by rw [← hw4]; exact Turns.alloc _ _ _
   have hC4 : CB w4 wr.heap.size x y kd := by rw [← hw4]; exact ⟨World.alloc_heap_new wr _⟩
   have hP4 : PB w4 w.heap.size a := hpb.turns hT4 (fun h => h)
   have hL4 : LkAt a F S Bq i w4 := hLk.turns hT4 (fun h => h) (fun h => h) (fun h => h) (fun _ _ _ _ h => h)
   have hs4 : wr.heap.size < w4.heap.size := by rw [← hw4]; simp
   have hSl : S < wr.heap.size := by obtain ⟨b,o,cap,hsv,hb,hc,n1,n2,hS,hcs⟩ := hLk.sp; exact hS.lt
   have hsw := hbel.size
   have hsw1 := hB.size
   have hne : a.sp ≠ [] := fun e => by have := lk_spec hG.sp (k := (x : Int)) (by omega) (by omega); rw [e] at this; simp at this
   have hlks := lk_spec hG.sp (k := (x : Int)) (by omega) (by omega)
   have hxy : x ≤ y := by rw [← hx'.out,← hy'.out]; exact st_step _ _
   go_wp2_with fail
   refine mass_r10 _ (fun _ _ _ _ _ h => h) _ _ w.heap.size wr.heap.size F S Bq i x a y kd (bt a.t x) hxb hyb hsz hG.sp hi0 hik (by omega) (by omega) w4 hP4 hC4 hL4 ?_
   intro Nn w5 hN5 hF5 hL5 hT5
   unfold fr17
   have hC5 := hC4.turns hT5 (by omega)
   have hP5 := hP4.turns hT5 (by omega)
   have c2 := hC5.c2
   have hfc : Hid (fc a k = ⟨kd,bt a.t x,szAt a x,(spAt a.sp x).t,(spAt a.sp x).k⟩) := by show fc a k = _; unfold fc; rw [hkd'.out,hx'.out]
   rw [← hfc.out] at hF5
   by_cases h7 : kd = 7
   ·have hk7 : kindI (bt a.t (st a.t k)) = 7 := by rw [hkd'.out]; exact h7
    obtain ⟨hr,hm1,hm2⟩ := hG.mark hkn hk7
    have hri := rI_yes hk7
    have h7' : (kd == 7) = true := by simpa using h7
    rcases hmv with ⟨hm0,_⟩ | ⟨g,o,m,c,rfl,hm3,hm4,hm5,hg,hmc⟩
    ·omega
    ·have d0 : w5.cell? ⟨g,o,none⟩ = some (.string a.ms[rI a.t k]) := by
      have h0 := hmc 0 (by omega)
      have hB5 : Below w.heap.size w w5 := hbel.trans (((hT4.mono (fun _ h => h.elim)).trans hT5).below (by omega) (fun b hb => by omega))
      exact (hB5.cell hg).trans h0
     have hm4' : (0 : Int) < m := by omega
     have hm4'' : (1 : Int) ≤ m := by omega
     have hm5' : (m : Int) ≤ c := by omega
     have hri' : Hid (rI a.t (k + 1) = rI a.t k + 1) := hri
     have hm1' : Hid (mkAt a k = a.ms[rI a.t k]) := hm1
     have hm3' : Hid (rI a.t k + m = a.ms.length) := hm3
     clear hk7 hri hm1 hm3
     have hmk8 : a.ms[rI a.t k].size ≤ 4096 := by omega
     clear hm2
     generalize hmk : a.ms[rI a.t k] = mk at *
     go_wp2_with fail
     by_cases hc1 : c = 1
     ·have hm1 : m = 1 := by omega
      subst hc1 hm1
      go_quiet (fail)
      rename_i nq
      go_wp2_with fail
      have hT46 : Turns (fun b => b = F ∨ b = S) w4 (w5.drewN nq) := hT5.trans (Turns.drewN _ _ _)
      have hC6 : CB (w5.drewN nq) wr.heap.size x y kd := hC4.turns hT46 (by omega)
      have hG6 : FB (w5.drewN nq) (T + 1) (pf a k) := (hah.turns hT4 (fun h => h)).turns hT46 (by omega)
      have hR6 : (w5.drewN nq).heap[T]? = some (.cells cs 107 (0,0)) := (hT46.block T (by omega) (by omega)).trans ((hT4.block T hTl (fun h => h)).trans hcs)
      have hF6 : FB (w5.drewN nq) Nn (fc a k) := ⟨hF5.row⟩
      refine mass_r14 _ (fun _ _ _ _ _ h => h) _ _ T (T + 1) wr.heap.size Nn n k x y kd (fc a k) (pf a k) mk cs hfok hmk8 hlt' (by rw [← hn'.out]; exact hlaid.1) (by omega) (by omega) (by omega) (w5.drewN nq) hC6 hF6 hG6 hR6 ?_
      intro w7 hR7 hT7
      unfold fr17
      have hF7 : FB w7 Nn (fc a k) := hF6.turns hT7 (by omega)
      have hG7 : FB w7 (T + 1) (pf a k) := hG6.turns hT7 (by omega)
      have hT8 : Turns (fun b => b = T + 1) w7 (w7.setRow (T + 1) (fcC (fc a k))) := Turns.setRow (X := fun b => b = T + 1) _ (r := T + 1) rfl _
      have hT68 : Turns (fun b => b = T ∨ b = T + 1) (w5.drewN nq) (w7.setRow (T + 1) (fcC (fc a k))) := (hT7.mono (fun _ h => .inl h)).trans (hT8.mono (fun _ h => .inr h))
      have hT48 : Turns (fun b => b = F ∨ b = S ∨ b = T ∨ b = T + 1) w4 (w7.setRow (T + 1) (fcC (fc a k))) := (hT46.mono (fun _ h => h.elim (fun h => .inl h) (fun h => .inr (.inl h)))).trans (hT68.mono (fun _ h => .inr (.inr h)))
      have hTr8 : Turns (fun b => b = F ∨ b = S ∨ b = T ∨ b = T + 1) wr (w7.setRow (T + 1) (fcC (fc a k))) := (hT4.mono (fun _ h => h.elim)).trans hT48
      have hms : msI a k = ⟨x,y,kd,(fc a k).s,wdI (fc a k) mk,meetI (pf a k) (fc a k)⟩ := by
       unfold msI
       rw [hx'.out,hy'.out,hm1'.out,show (fc a k).kd = kd from hkd'.out]
      have hkp8 : Hid (Kp a w w.heap.size gl F S Bq T (T + 1) OL (k + 1) (.slice (some ⟨g,o,none⟩) 0 0) (w7.setRow (T + 1) (fcC (fc a k)))) := by
       refine ⟨hbel.trans (hTr8.below (by omega) (fun b hb => by omega)),hpb.turns hTr8 (by omega),fun _ => (hTr8.block gl (Array.getElem?_eq_some_iff.1 hcl2).1 (by omega)).trans hcl2,fun _ => ⟨lkI a.sp x,by omega,by rw [hy'.out]; omega,?_⟩,⟨setRow_heap _ _ _ _ 180 _ hG7.row⟩,⟨_,(hT8.block T (Array.getElem?_eq_some_iff.1 hR7).1 (by omega)).trans hR7,laid_step hlaid hkn hms⟩,?_⟩
       ·have hL6 : LkAt a F S Bq (lkI a.sp x) (w5.drewN nq) := ⟨hL5.fr,hL5.sp,⟨hL5.pb.row⟩,hL5.ne⟩
        exact hL6.turns hT68 (by omega) (by omega) (by omega) (fun b o c e => by have := hbw b o c e hne; omega)
       ·rw [hri'.out]; exact .inl ⟨by have := hm3'.out; omega,_,_,rfl⟩
      clear hms hT48 hTr8 hT68 hT8 hbel hpb hah hcl2 hfok hlaid hLk hL4 hL5 hP4 hP5
      go_wp2_with (first | (refine wpList_load_row rfl 180 _ rfl Nn rfl 180 _ (0,0) _ hF7.row Tryz.underlying180 rfl (info68 _) ?_) | (refine wpList_store_row rfl 180 _ _ rfl (T + 1) (fcC (fc a k)) rfl rfl 180 _ hG7.row (info68 _) rfl (fcC_one _) ?_))
      go_roundw
      case rel => exact ⟨k + 1,by omega,by simp,hkp8⟩
      case measure => simp [intOf]; omega
     ·have hc1' : ¬ (c : Int) = 1 := by omega
      go_quiet (fail)
      rename_i nq
      go_wp2_with fail
      have hT46 : Turns (fun b => b = F ∨ b = S) w4 (w5.drewN nq) := hT5.trans (Turns.drewN _ _ _)
      have hC6 : CB (w5.drewN nq) wr.heap.size x y kd := hC4.turns hT46 (by omega)
      have hG6 : FB (w5.drewN nq) (T + 1) (pf a k) := (hah.turns hT4 (fun h => h)).turns hT46 (by omega)
      have hR6 : (w5.drewN nq).heap[T]? = some (.cells cs 107 (0,0)) := (hT46.block T (by omega) (by omega)).trans ((hT4.block T hTl (fun h => h)).trans hcs)
      have hF6 : FB (w5.drewN nq) Nn (fc a k) := ⟨hF5.row⟩
      refine mass_r14 _ (fun _ _ _ _ _ h => h) _ _ T (T + 1) wr.heap.size Nn n k x y kd (fc a k) (pf a k) mk cs hfok hmk8 hlt' (by rw [← hn'.out]; exact hlaid.1) (by omega) (by omega) (by omega) (w5.drewN nq) hC6 hF6 hG6 hR6 ?_
      intro w7 hR7 hT7
      unfold fr17
      have hF7 : FB w7 Nn (fc a k) := hF6.turns hT7 (by omega)
      have hG7 : FB w7 (T + 1) (pf a k) := hG6.turns hT7 (by omega)
      have hT8 : Turns (fun b => b = T + 1) w7 (w7.setRow (T + 1) (fcC (fc a k))) := Turns.setRow (X := fun b => b = T + 1) _ (r := T + 1) rfl _
      have hT68 : Turns (fun b => b = T ∨ b = T + 1) (w5.drewN nq) (w7.setRow (T + 1) (fcC (fc a k))) := (hT7.mono (fun _ h => .inl h)).trans (hT8.mono (fun _ h => .inr h))
      have hT48 : Turns (fun b => b = F ∨ b = S ∨ b = T ∨ b = T + 1) w4 (w7.setRow (T + 1) (fcC (fc a k))) := (hT46.mono (fun _ h => h.elim (fun h => .inl h) (fun h => .inr (.inl h)))).trans (hT68.mono (fun _ h => .inr (.inr h)))
      have hTr8 : Turns (fun b => b = F ∨ b = S ∨ b = T ∨ b = T + 1) wr (w7.setRow (T + 1) (fcC (fc a k))) := (hT4.mono (fun _ h => h.elim)).trans hT48
      have hms : msI a k = ⟨x,y,kd,(fc a k).s,wdI (fc a k) mk,meetI (pf a k) (fc a k)⟩ := by
       unfold msI
       rw [hx'.out,hy'.out,hm1'.out,show (fc a k).kd = kd from hkd'.out]
      have hkp8 : Hid (Kp a w w.heap.size gl F S Bq T (T + 1) OL (k + 1) (.slice (some ⟨g,o + 1,none⟩) (m - 1) (c - 1)) (w7.setRow (T + 1) (fcC (fc a k)))) := by
       refine ⟨hbel.trans (hTr8.below (by omega) (fun b hb => by omega)),hpb.turns hTr8 (by omega),fun _ => (hTr8.block gl (Array.getElem?_eq_some_iff.1 hcl2).1 (by omega)).trans hcl2,fun _ => ⟨lkI a.sp x,by omega,by rw [hy'.out]; omega,?_⟩,⟨setRow_heap _ _ _ _ 180 _ hG7.row⟩,⟨_,(hT8.block T (Array.getElem?_eq_some_iff.1 hR7).1 (by omega)).trans hR7,laid_step hlaid hkn hms⟩,?_⟩
       ·have hL6 : LkAt a F S Bq (lkI a.sp x) (w5.drewN nq) := ⟨hL5.fr,hL5.sp,⟨hL5.pb.row⟩,hL5.ne⟩
        exact hL6.turns hT68 (by omega) (by omega) (by omega) (fun b o c e => by have := hbw b o c e hne; omega)
       ·exact mv_step hri'.out hm3'.out hm4 hm5 hg hmc
      clear hms hT48 hTr8 hT68 hT8 hbel hpb hah hcl2 hfok hlaid hLk hL4 hL5 hP4 hP5
      go_wp2_with (first | (refine wpList_load_row rfl 180 _ rfl Nn rfl 180 _ (0,0) _ hF7.row Tryz.underlying180 rfl (info68 _) ?_) | (refine wpList_store_row rfl 180 _ _ rfl (T + 1) (fcC (fc a k)) rfl rfl 180 _ hG7.row (info68 _) rfl (fcC_one _) ?_))
      go_roundw
      case rel => exact ⟨k + 1,by omega,by simp,hkp8⟩
      case measure => simp [intOf]; omega
   ·have h7' : (kd == 7) = false := by simpa using h7
    have hk7 : kindI (bt a.t (st a.t k)) ≠ 7 := by rw [hkd'.out]; exact h7
    have hri' : Hid (rI a.t (k + 1) = rI a.t k) := rI_no hk7
    have hm1' : Hid (mkAt a k = ⟨#[]⟩) := mark_no hk7
    clear hk7 h7
    go_wp2_with fail
    have hT46 : Turns (fun b => b = F ∨ b = S) w4 w5 := hT5
    have hC6 : CB w5 wr.heap.size x y kd := hC4.turns hT46 (by omega)
    have hG6 : FB w5 (T + 1) (pf a k) := (hah.turns hT4 (fun h => h)).turns hT46 (by omega)
    have hR6 : (w5).heap[T]? = some (.cells cs 107 (0,0)) := (hT46.block T (by omega) (by omega)).trans ((hT4.block T hTl (fun h => h)).trans hcs)
    have hF6 : FB w5 Nn (fc a k) := ⟨hF5.row⟩
    refine mass_r14 _ (fun _ _ _ _ _ h => h) _ _ T (T + 1) wr.heap.size Nn n k x y kd (fc a k) (pf a k) ⟨#[]⟩ cs hfok (by show 0 ≤ 4096; omega) hlt' (by rw [← hn'.out]; exact hlaid.1) (by omega) (by omega) (by omega) (w5) hC6 hF6 hG6 hR6 ?_
    intro w7 hR7 hT7
    unfold fr17
    have hF7 : FB w7 Nn (fc a k) := hF6.turns hT7 (by omega)
    have hG7 : FB w7 (T + 1) (pf a k) := hG6.turns hT7 (by omega)
    have hT8 : Turns (fun b => b = T + 1) w7 (w7.setRow (T + 1) (fcC (fc a k))) := Turns.setRow (X := fun b => b = T + 1) _ (r := T + 1) rfl _
    have hT68 : Turns (fun b => b = T ∨ b = T + 1) (w5) (w7.setRow (T + 1) (fcC (fc a k))) := (hT7.mono (fun _ h => .inl h)).trans (hT8.mono (fun _ h => .inr h))
    have hT48 : Turns (fun b => b = F ∨ b = S ∨ b = T ∨ b = T + 1) w4 (w7.setRow (T + 1) (fcC (fc a k))) := (hT46.mono (fun _ h => h.elim (fun h => .inl h) (fun h => .inr (.inl h)))).trans (hT68.mono (fun _ h => .inr (.inr h)))
    have hTr8 : Turns (fun b => b = F ∨ b = S ∨ b = T ∨ b = T + 1) wr (w7.setRow (T + 1) (fcC (fc a k))) := (hT4.mono (fun _ h => h.elim)).trans hT48
    have hms : msI a k = ⟨x,y,kd,(fc a k).s,wdI (fc a k) ⟨#[]⟩,meetI (pf a k) (fc a k)⟩ := by
     unfold msI
     rw [hx'.out,hy'.out,hm1'.out,show (fc a k).kd = kd from hkd'.out]
    have hkp8 : Hid (Kp a w w.heap.size gl F S Bq T (T + 1) OL (k + 1) (u7) (w7.setRow (T + 1) (fcC (fc a k)))) := by
     refine ⟨hbel.trans (hTr8.below (by omega) (fun b hb => by omega)),hpb.turns hTr8 (by omega),fun _ => (hTr8.block gl (Array.getElem?_eq_some_iff.1 hcl2).1 (by omega)).trans hcl2,fun _ => ⟨lkI a.sp x,by omega,by rw [hy'.out]; omega,?_⟩,⟨setRow_heap _ _ _ _ 180 _ hG7.row⟩,⟨_,(hT8.block T (Array.getElem?_eq_some_iff.1 hR7).1 (by omega)).trans hR7,laid_step hlaid hkn hms⟩,?_⟩
     ·have hL6 : LkAt a F S Bq (lkI a.sp x) (w5) := ⟨hL5.fr,hL5.sp,⟨hL5.pb.row⟩,hL5.ne⟩
      exact hL6.turns hT68 (by omega) (by omega) (by omega) (fun b o c e => by have := hbw b o c e hne; omega)
     ·rw [hri'.out]; exact hmv
    clear hms hT48 hTr8 hT68 hT8 hbel hpb hah hmv hcl2 hfok hlaid hLk hL4 hL5 hP4 hP5
    go_wp2_with (first | (refine wpList_load_row rfl 180 _ rfl Nn rfl 180 _ (0,0) _ hF7.row Tryz.underlying180 rfl (info68 _) ?_) | (refine wpList_store_row rfl 180 _ _ rfl (T + 1) (fcC (fc a k)) rfl rfl 180 _ hG7.row (info68 _) rfl (fcC_one _) ?_))
    go_roundw
    case rel => exact ⟨k + 1,by omega,by simp,hkp8⟩
    case measure => simp [intOf]; omega
  ·obtain rfl : k = n := by omega
   obtain ⟨cs,hcs,hlaid⟩ := hkp.out.told
   have hbel := hkp.out.bel
   have hbel' : Hid (Below w.heap.size w wr) := hbel
   have hsw1 := hB.size
   have hrow : Hid (wr.ownsRow w.heap.size 107 6 (.slice (some ⟨T,0,none⟩) k k) (num a.t) ((mss a).flatMap msL)) := by
    have hl := hn'.out
    rw [← hl] at hlaid ⊢
    have e := laid_all hlaid
    refine ⟨by rw [fm_len msL_len,mss_len],.inr ⟨T,num a.t,cs,rfl,by omega,hcs,Nat.le_refl _,by unfold maxLen; omega,hlaid.1,?_⟩⟩
    rw [e]
    exact List.take_of_length_le (by rw [fm_len msL_len,mss_len]; exact Nat.le_refl _)
   clear hlaid hcs hcl hkp
   go_wp2_with fail
   go_ret2
   exact hE.out _ _ hrow.out hbel'.out

theorem masses_any (a : Pa) (w : World) (hA : PaAt w a) : Calls Tryz.prog 83 #[paV a] w (MassEnd a w) := by
 by_cases h : chkI a = 0
 ·exact masses_ok a w hA h
 ·exact masses_no a w hA h
end Go.Proofs.YtlgcnbomfhmjiaaGreatDoor

namespace Go.Proofs.YtlgcnbomfhmjiaaGreatDoor
open Go.RowKit Go.Shelf

structure RF (W : World) (g o N : Nat) (M : Nat → Ms) : Prop where
 lt : 0 < N → g < W.heap.size
 all : ∀ i,i < N → ∀ (j : Nat) v,(msL (M i))[j]? = some v → W.cell? ⟨g,o + i * 6 + j,none⟩ = some v ∧ W.frozen? ⟨g,o + i * 6 + j,none⟩ = false
section
variable {W W' : World} {g o N : Nat} {M M' : Nat → Ms}
theorem RF.same (h : RF W g o N M) (hs : W.heap.size ≤ W'.heap.size) (hbk : 0 < N → W'.heap[g]? = W.heap[g]?) : RF W' g o N M := ⟨fun hN => Nat.lt_of_lt_of_le (h.lt hN) hs,fun i hi j v hv => by
 replace hbk := hbk (by omega)
 have := h.all i hi j v hv
 have e1 : W'.cell? ⟨g,o + i * 6 + j,none⟩ = W.cell? ⟨g,o + i * 6 + j,none⟩ := by unfold World.cell?; rw [hbk]
 have e2 : W'.frozen? ⟨g,o + i * 6 + j,none⟩ = W.frozen? ⟨g,o + i * 6 + j,none⟩ := by unfold World.frozen?; rw [hbk]
 rw [e1,e2]; exact this⟩
theorem RF.below {n : Nat} (h : RF W g o N M) (hb : Below n W W') (hn : 0 < N → g < n) : RF W' g o N M := h.same hb.size (fun hN => hb.block g (hn hN))
theorem RF.c (h : RF W g o N M) {i : Nat} (hi : i < N) : W.cell? ⟨g,o + i * 6,none⟩ = some (.int .i64 (M i).f) ∧ W.cell? ⟨g,o + i * 6 + 1,none⟩ = some (.int .i64 (M i).t) ∧ W.cell? ⟨g,o + i * 6 + 2,none⟩ = some (.int .i64 (M i).k) ∧ W.cell? ⟨g,o + i * 6 + 3,none⟩ = some (.int .i64 (M i).s) ∧ W.cell? ⟨g,o + i * 6 + 4,none⟩ = some (.int .i64 (M i).w) ∧ W.cell? ⟨g,o + i * 6 + 5,none⟩ = some (.int .i64 (M i).q) :=
 ⟨(h.all i hi 0 _ rfl).1,(h.all i hi 1 _ rfl).1,(h.all i hi 2 _ rfl).1,(h.all i hi 3 _ rfl).1,(h.all i hi 4 _ rfl).1,(h.all i hi 5 _ rfl).1⟩
end
end Go.Proofs.YtlgcnbomfhmjiaaGreatDoor

namespace Go.Proofs.YtlgcnbomfhmjiaaGreatDoor
open Go.RowKit Go.Shelf
set_option maxRecDepth 100000
set_option maxHeartbeats 2000000

def capB (p : Pa) (n : Nat) (k : Int) : Bool := decide (2 ≤ p.p.p14) && (decide (0 < n) && (k == 1))
theorem hasCapital_any (p : Pa) (w : World) (g n cap : Nat) (M : Nat → Ms) (hn : n ≤ 4096) (a : Option Addr) (ha : 0 < n → a = some ⟨g,0,none⟩) (hR : RF w g 0 n M) :
  Calls Tryz.prog 118 #[paV p,.slice a n cap] w fun e w' => e = .returned (.bool (capB p n (M 0).k)) ∧ Below w.heap.size w w' := by
 have hB := (Below.refl w.heap.size w).alloc (Nat.le_refl _) (Obj.cells (paC p) 36)
 have hP := PB.new w p
 have c16 : (w.alloc (.cells (paC p) 36)).cell? ⟨w.heap.size,16,none⟩ = some (.int .i64 p.p.p14) := hP.cell (k := 16) rfl
 have hc : 0 < n → (w.alloc (.cells (paC p) 36)).cell? ⟨g,2,none⟩ = some (.int .i64 (M 0).k) := fun h => ((hR.below hB (fun h => hR.lt h)).c h).2.2.1
 have hn' : (n : Int) ≤ 4096 := by omega
 clear hR hP
 unfold paV capB
 generalize hw1 : w.alloc (.cells (paC p) 36) = w1 at *
 by_cases h1 : 2 ≤ p.p.p14
 ·by_cases h2 : 0 < n
  ·obtain rfl := ha h2
   have c2 := hc h2
   have h2' : (0 : Int) < n := by omega
   rw [show decide (2 ≤ p.p.p14) = true by simpa using h1,show decide (0 < n) = true by simpa using h2]
   go_enter Tryz.func118,Tryz.ntmps118
   go_wp2_with fail
   go_ret
   exact ⟨by simp,hB⟩
  ·rw [show decide (2 ≤ p.p.p14) = true by simpa using h1,show decide (0 < n) = false by simpa using h2]
   have h2' : ¬ (0 : Int) < n := by omega
   go_enter Tryz.func118,Tryz.ntmps118
   go_wp2_with fail
   go_ret
   exact ⟨by simp,hB⟩
 ·rw [show decide (2 ≤ p.p.p14) = false by simpa using h1]
  go_enter Tryz.func118,Tryz.ntmps118
  go_wp2_with fail
  go_ret
  exact ⟨by simp,hB⟩
end Go.Proofs.YtlgcnbomfhmjiaaGreatDoor

namespace Go.Proofs.YtlgcnbomfhmjiaaGreatDoor
open Go.RowKit Go.Shelf
set_option maxRecDepth 100000
set_option maxHeartbeats 2000000

def cwI (p : Pa) : Int := wVal (p.t.extract 0 1) (if p.p.p0 * p.p.p14 ≤ 64 then p.p.p0 * p.p.p14 else 64)
theorem wVal_rng (t : ByteArray) (s : Int) (h : t.size ≤ 1) : 0 ≤ wVal t s ∧ wVal t s ≤ 64 := by
 rcases wErr_cases t s with ⟨_,e,_⟩ | ⟨_,e,_⟩ | ⟨_,e,h1,h2,h3⟩
 ·rw [e]; omega
 ·rw [e]; omega
 ·rw [e]
  have := tw_rng t (s := s) (by omega) h2 t.size
  unfold widthI
  omega
theorem cwI_rng (p : Pa) : 0 ≤ cwI p ∧ cwI p ≤ 64 := wVal_rng _ _ (by rw [ByteArray.size_extract]; omega)
theorem capitalWidth_any (p : Pa) (h1 : 1 ≤ p.t.size) (h0 : 1 ≤ p.p.p0 ∧ p.p.p0 ≤ 64) (h14 : 0 ≤ p.p.p14 ∧ p.p.p14 ≤ 4) (w : World) : Calls Tryz.prog 119 #[paV p] w fun e w' => e = .returned (.int .i64 (cwI p)) ∧ Below w.heap.size w w' := by
 have hB := (Below.refl w.heap.size w).alloc (Nat.le_refl _) (Obj.cells (paC p) 36)
 have hP := PB.new w p
 have c0 := hP.c0
 have c2 := hP.c2
 have c16 : (w.alloc (.cells (paC p) 36)).cell? ⟨w.heap.size,16,none⟩ = some (.int .i64 p.p.p14) := hP.cell (k := 16) rfl
 have hm0 : 0 ≤ p.p.p0 * p.p.p14 := Int.mul_nonneg (by omega) h14.1
 have hm1 : p.p.p0 * p.p.p14 ≤ 256 := by
  have a1 : p.p.p0 * p.p.p14 ≤ 64 * p.p.p14 := Int.mul_le_mul_of_nonneg_right h0.2 h14.1
  omega
 have hw := fun s W => Width_any (p.t.extract 0 1) s W
 have h1' : (1 : Int) ≤ p.t.size := by omega
 clear hP
 unfold paV cwI
 generalize hw1 : w.alloc (.cells (paC p) 36) = w1 at *
 generalize hmm : p.p.p0 * p.p.p14 = m at *
 by_cases hle : m ≤ 64
 ·rw [if_pos hle]
  go_enter Tryz.func119,Tryz.ntmps119
  go_wp2_with fail
  go_quiet (first | (go_at_call 121; refine Calls.quiet_of_same (hw _ _)))
  go_wp2_with fail
  go_ret
  first | exact ⟨rfl,below_drewN hB _⟩ | exact ⟨by rw [Int.min_eq_left hle]; rfl,below_drewN hB _⟩
 ·rw [if_neg hle]
  have hle2 : 64 ≤ m := by omega
  go_enter Tryz.func119,Tryz.ntmps119
  go_wp2_with fail
  go_quiet (first | (go_at_call 121; refine Calls.quiet_of_same (hw _ _)))
  go_wp2_with fail
  go_ret
  first | exact ⟨rfl,below_drewN hB _⟩ | exact ⟨by rw [Int.min_eq_right hle2]; rfl,below_drewN hB _⟩
end Go.Proofs.YtlgcnbomfhmjiaaGreatDoor

namespace Go.Proofs.YtlgcnbomfhmjiaaGreatDoor
open Go.RowKit Go.Shelf

theorem rf_row {W : World} {base : Nat} {v : Value} {a : Pa} (h : W.ownsRow base 107 6 v (num a.t) ((mss a).flatMap msL)) : ∃ av cap g,v = .slice av (num a.t) cap ∧ num a.t ≤ cap ∧ (0 < num a.t → av = some ⟨g,0,none⟩ ∧ base ≤ g) ∧ RF W g 0 (num a.t) (fun i => msI a i) := by
 have hl := mss_len a
 have h' : W.ownsRow base 107 6 v (mss a).length ((mss a).flatMap msL) := by rw [hl]; exact h
 have hr := rec_of_row msL_len rfl h'
 obtain ⟨av,cap,rfl,h2⟩ := hr.ex
 have hc := hr.le _ _ _ rfl
 rw [hl] at hc
 rcases h2 with h2 | ⟨b,o,rfl,hb,hcl⟩
 ·have h0 : num a.t = 0 := by rw [← hl,h2]; rfl
  exact ⟨av,cap,0,by rw [hl],hc,fun h => by omega,fun h => by omega,fun i hi => by omega⟩
 ·rcases h'.2 with ⟨e,_⟩ | ⟨gg,cc,cur,e,hb',hg,hnc,hcm,hcs,htk⟩
  ·cases e
  ·cases e
   refine ⟨_,cap,b,by rw [hl],hc,fun _ => ⟨rfl,hb'⟩,fun _ => hb,fun i hi j u hu => ⟨?_,Lib.frozen_of_heap hg _⟩⟩
   have := hcl i (by rw [hl]; exact hi) j u (by rw [mss_get]; exact hu)
   exact this
theorem GoodP.p14 {a : Pa} (h : GoodP a) : 0 ≤ a.p.p14 ∧ a.p.p14 ≤ 4 := by
 have := List.all_eq_true.1 h.pr (a.p.p14,0,4) (by simp [prB])
 simpa [bdB] using this
end Go.Proofs.YtlgcnbomfhmjiaaGreatDoor

namespace Go.Proofs.YtlgcnbomfhmjiaaGreatDoor
open Go.RowKit Go.Shelf
set_option maxRecDepth 100000
set_option maxHeartbeats 2000000

def drV (a : Pa) : Int := if chkI a = 0 ∧ capB a (num a.t) (msI a 0).k = true then cwI a + 4 else 0
theorem drop_any (a : Pa) (w : World) (hA : PaAt w a) : Calls Tryz.prog 79 #[paV a] w fun e w' => e = .returned (.tuple #[.int .i64 (drV a),.int .i64 (chkI a)]) ∧ Below w.heap.size w w' := by
 have hB := (Below.refl w.heap.size w).alloc (Nat.le_refl _) (Obj.cells (paC a) 36)
 have hP := PB.new w a
 have hms := masses_any a _ (hA.below hB (Nat.le_refl _))
 unfold MassEnd at hms
 have hr := cwI_rng a
 obtain ⟨r0,r1⟩ := hr
 by_cases hck : chkI a = 0
 ·have hG := good_of hck
  have hn4 : num a.t ≤ 4096 := Nat.le_trans (num_le a.t) hG.size
  have hcw : Hid (capB a (num a.t) (msI a 0).k = true → ∀ W,Calls Tryz.prog 119 #[.agg (paC a)] W fun e w' => e = .returned (.int .i64 (cwI a)) ∧ Below W.heap.size W w') := fun h W => by
   have hn : 0 < num a.t := by
    unfold capB at h
    rw [Bool.and_eq_true,Bool.and_eq_true,decide_eq_true_eq,decide_eq_true_eq] at h
    exact h.2.1
   exact capitalWidth_any a (by have := num_lt hn; omega) hG.p0 hG.p14 W
  have hcap : Hid (∀ W v,W.ownsRow (w.alloc (.cells (paC a) 36)).heap.size 107 6 v (num a.t) ((mss a).flatMap msL) → ∃ av cap,v = .slice av (num a.t) cap ∧ Calls Tryz.prog 118 #[.agg (paC a),.slice av (num a.t) cap] W fun e w' => e = .returned (.bool (capB a (num a.t) (msI a 0).k)) ∧ Below W.heap.size W w') := fun W v hv => by
   obtain ⟨av,cap,g,rfl,hcap,hav,hR⟩ := rf_row hv
   exact ⟨av,cap,rfl,hasCapital_any a W g (num a.t) cap (fun i => msI a i) hn4 av (fun h => (hav h).1) hR⟩
  have hdr : drV a = if capB a (num a.t) (msI a 0).k = true then cwI a + 4 else 0 := by unfold drV; simp [hck]
  rw [hck] at hms ⊢
  rw [hdr]
  unfold paV at hms ⊢
  generalize cwI a = cw at *
  generalize hcb : capB a (num a.t) (msI a 0).k = cb at *
  clear hA hG hdr hck
  generalize hw1 : w.alloc (.cells (paC a) 36) = w1 at *
  go_enter Tryz.func79,Tryz.ntmps79
  go_wp2_with (refine wpList_load_row rfl 36 _ rfl w.heap.size rfl 36 _ (0,0) _ hP.row Tryz.underlying36 rfl (info34 a) ?_)
  refine hms.mono ?_
  rintro e W ⟨⟨v,rfl,hv⟩,hbW⟩
  have hv' : W.ownsRow w1.heap.size 107 6 v (num a.t) ((mss a).flatMap msL) := by
   rcases hv with ⟨h,_⟩ | ⟨_,h⟩
   ·exact absurd rfl h
   ·exact h
  obtain ⟨av,cap,rfl,hc24⟩ := hcap.out W v hv'
  have hPW := hP.below hbW hP.lt
  have hBW := hB.trans (hbW.mono hB.size)
  have hPall : Hid (∀ W',Below W.heap.size W W' → PB W' w.heap.size a ∧ Below w.heap.size w W') := fun W' hb => ⟨hPW.below hb hPW.lt,hBW.trans (hb.mono hBW.size)⟩
  clear hv hv' hcap hms hP hB hbW hw1 hBW hcb
  cases cb
  ·clear hcw
   go_wp2_with (first | (refine wpList_load_want 36 _ rfl rfl w.heap.size rfl 36 _ (0,0) _ hPW.row Tryz.underlying36 rfl (info34 a) ?_) | (go_at_call 118; refine hc24.mono ?_; rintro e W2 ⟨rfl,hb2⟩))
   go_ret2
   exact ⟨rfl,(hPall.out _ hb2).2⟩
  ·have hcw1 : Hid (∀ W,Calls Tryz.prog 119 #[.agg (paC a)] W fun e w' => e = .returned (.int .i64 cw) ∧ Below W.heap.size W w') := hcw.out rfl
   clear hcw
   go_wp2_with (first | (refine wpList_load_want 36 _ rfl rfl w.heap.size rfl 36 _ (0,0) _ hPW.row Tryz.underlying36 rfl (info34 a) ?_) | (go_at_call 118; refine hc24.mono ?_; rintro e W2 ⟨rfl,hb2⟩; obtain ⟨hP2,hB2⟩ := hPall.out _ hb2) | (refine wpList_load_row rfl 36 _ rfl w.heap.size rfl 36 _ (0,0) _ hP2.row Tryz.underlying36 rfl (info34 a) ?_) | (go_at_call 119; refine (hcw1.out _).mono ?_; rintro e W3 ⟨rfl,hb3⟩))
   go_ret2
   exact ⟨rfl,hB2.trans (hb3.mono hB2.size)⟩
 ·have hdr : drV a = 0 := by unfold drV; rw [if_neg (fun h => hck h.1)]
  have hck' : (chkI a != 0) = true := by simpa using hck
  rw [hdr]
  unfold paV at hms ⊢
  clear hdr hA
  generalize chkI a = ec at *
  generalize hw1 : w.alloc (.cells (paC a) 36) = w1 at *
  go_enter Tryz.func79,Tryz.ntmps79
  go_wp2_with (refine wpList_load_row rfl 36 _ rfl w.heap.size rfl 36 _ (0,0) _ hP.row Tryz.underlying36 rfl (info34 a) ?_)
  refine hms.mono ?_
  rintro e W ⟨⟨v,rfl,hv⟩,hbW⟩
  have hBW := hB.trans (hbW.mono hB.size)
  clear hv hms hP hB hbW hw1
  go_wp2_with fail
  go_ret2
  exact ⟨rfl,hBW⟩
end Go.Proofs.YtlgcnbomfhmjiaaGreatDoor
