/-
  What is proved here: what Inner of para answers, of any paragraph and profile.
  What is proved here: what Lay of para answers of what may be laid.
-/
import Derived.Test.YtlgcnbomfhmjiaaGreatDoorS19
import Derived.Test.YtlgcnbomfhmjiaaGreatDoorS22
import Derived.Test.YtlgcnbomfhmjiaaGreatDoorS14
namespace Go.Proofs.YtlgcnbomfhmjiaaGreatDoor
open Go.RowKit Go.Shelf
set_option maxRecDepth 100000
set_option maxHeartbeats 4000000

theorem alloc3_heap (w : World) (x y u : Obj) : (((w.alloc x).alloc y).alloc u).heap[w.heap.size]? = some x ∧ (((w.alloc x).alloc y).alloc u).heap[w.heap.size + 1]? = some y ∧ (((w.alloc x).alloc y).alloc u).heap[w.heap.size + 1 + 1]? = some u := by
 refine ⟨?_,?_,?_⟩
 ·exact (Below.heap_alloc _ _ _ (by simp; omega)).trans ((Below.heap_alloc _ _ _ (by simp)).trans (World.alloc_heap_new w _))
 ·exact (Below.heap_alloc _ _ _ (by simp)).trans (alloc2_heap w _ _)
 ·have := alloc2_heap (w.alloc x) y u
  rwa [World.size_alloc] at this
theorem below3 (w : World) (x y u : Obj) : Below w.heap.size w (((w.alloc x).alloc y).alloc u) := (below2 w x y).alloc (by simp; omega) u
def InEnd (a : Pa) (ss : List Sl) (r : Sl) (w : World) (e : Ending) (w' : World) : Prop := Below w.heap.size w w' ∧
 ((paE a ss r ≠ 0 ∧ e = .returned (.tuple #[.slice none 0 0,.agg #[.int .i64 0,.int .i64 0],.int .i64 (paE a ss r)])) ∨
  (paE a ss r = 0 ∧ ∃ v,e = .returned (.tuple #[v,.agg (slL (inR a ss r)).toArray,.int .i64 0]) ∧ SlsAt w' v (inSs a ss r)))
theorem inner_any (a : Pa) (v : Value) (ss : List Sl) (r : Sl) (hl : ss.length ≤ 9223372036854775807) (w : World) (hA : PaAt w a) (hV : SlsAt w v ss) : Calls Tryz.prog 34 #[paV a,v,.agg (slL r).toArray] w (InEnd a ss r w) := by
 have hB := below3 w (Obj.cells (paC a) 36) (.cells #[.int .i64 r.x,.int .i64 r.w] 53) (.cells #[.int .i64 0,.int .i64 0] 53)
 have ha3 := alloc3_heap w (Obj.cells (paC a) 36) (.cells #[.int .i64 r.x,.int .i64 r.w] 53) (.cells #[.int .i64 0,.int .i64 0] 53)
 have hA1 := hA.below hB (Nat.le_refl _)
 have hV1 := hV.below hB (Nat.le_refl _)
 obtain ⟨av,cv,rfl,-⟩ := hV.ex
 have hBh : Hid (Below w.heap.size w (((w.alloc (.cells (paC a) 36)).alloc (.cells #[.int .i64 r.x,.int .i64 r.w] 53)).alloc (.cells #[.int .i64 0,.int .i64 0] 53))) := hB
 clear hB hA hV
 show Calls Tryz.prog 34 #[.agg (paC a),.slice av ss.length cv,.agg #[.int .i64 r.x,.int .i64 r.w]] w _
 generalize hwz : ((w.alloc (.cells (paC a) 36)).alloc (.cells #[.int .i64 r.x,.int .i64 r.w] 53)).alloc (.cells #[.int .i64 0,.int .i64 0] 53) = wz at *
 obtain ⟨k0,k1,k2⟩ := ha3
 have hP : PB wz w.heap.size a := ⟨k0⟩
 have hrf : Hid (Calls Tryz.prog 50 #[.agg (paC a),.slice av ss.length cv,.agg #[.int .i64 r.x,.int .i64 r.w]] wz fun e w' => e = .returned (.int .i64 (paE a ss r)) ∧ Below wz.heap.size wz w') := refuse44 a _ ss r hl wz hA1 hV1
 by_cases he : paE a ss r = 0
 ·obtain ⟨hck,hcs⟩ := paE_ok he
  have hend : Hid (∀ W,Below w.heap.size w W → ∀ u,SlsAt W u (inL' (inS (tkP a) ss r) (inN a ss)) → InEnd a ss r w (.returned (.tuple #[u,.agg (slL (tkI (tkP a) (inN a ss : Nat) r 5)).toArray,.int .i64 0])) W) := fun W hW u hu => ⟨hW,.inr ⟨he,u,rfl,hu⟩⟩
  have hp14 := (good_of hck).p14
  have hfew := ckS_few hcs
  have c16 : ∀ W,Below wz.heap.size wz W → W.cell? ⟨w.heap.size,16,none⟩ = some (.int .i64 a.p.p14) := fun W hW => (hP.below hW hP.lt).cell (k := 16) rfl
  have hc16 : Hid (∀ W,Below wz.heap.size wz W → W.cell? ⟨w.heap.size,16,none⟩ = some (.int .i64 a.p.p14)) := c16
  have hok : Hid ((tkP a).ok) := tkP_ok hck
  have htk : Hid (∀ W,Below wz.heap.size wz W → Calls Tryz.prog 51 #[.agg (paC a)] W fun e w' => (∃ v,e = .returned v ∧ TkAt w' v (tkP a)) ∧ Below W.heap.size W w') := fun W hW => takers_any a W (hA1.below hW (Nat.le_refl _))
  have hN : (inN a ss : Int) = max (max (ss.length : Int) 1) a.p.p14 := by unfold inN; omega
  have hmx : ∀ W,(Builtin.max_ #[3,3,3] 3 #[.int .i64 (ss.length : Nat),.int .i64 1,.int .i64 a.p.p14]).run Tryz.prog W = .ok (.int .i64 (inN a ss : Nat)) W := fun W => by
   rw [hN]
   simp [Builtin.max_,Builtin.max2]
   omega
  have hmk : ∀ W,(Instr.makeSlice 65 (.int .i64 (inN a ss : Nat)) (.int .i64 (inN a ss : Nat))).run Tryz.prog W = .ok (.slice (some ⟨W.heap.size,0,none⟩) (inN a ss) (inN a ss)) (W.alloc (.cells ((List.replicate (inN a ss) sl0).flatMap slL).toArray 53)) := make28 (by omega)
  have hNl : Hid (inN a ss ≤ 9100) := by show _ ≤ _; omega
  have hcsh : Hid (ckS ss r = 0) := hcs
  have hV1h : Hid (SlsAt wz (.slice av ss.length cv) ss) := hV1
  have k1h : Hid (wz.heap[w.heap.size + 1]? = some (.cells #[.int .i64 r.x,.int .i64 r.w] 53 (0,0)) ∧ wz.heap[w.heap.size + 1 + 1]? = some (.cells #[.int .i64 0,.int .i64 0] 53 (0,0))) := ⟨k1,k2⟩
  rw [he] at hrf
  clear he hck hcs hA1 hV1 c16 k2 hN
  generalize inN a ss = N at *
  generalize tkP a = q at *
  generalize hE : InEnd a ss r w = E at *
  go_enter Tryz.func34,Tryz.ntmps34
  change Code.wp Tryz.prog ((Code.region 0 #[⟨some 3,.box 36 (.tmp 0),0,"para.go:25",#[],none⟩,⟨some 5,.box 53 (.tmp 2),0,"para.go:25",#[],none⟩,⟨some 6,.assign (.const (.slice none 0 0)),65,"para.go:25",#[],none⟩,⟨some 7,.alloc 53,0,"para.go:25",#[],none⟩,⟨some 8,.assign (.const (.int .i64 0)),24,"para.go:25",#[⟨2,.chain⟩],none⟩] false).seq (((Code.region 1 #[⟨some 13,.load 36 (.tmp 3),36,"para.go:26",#[],none⟩,⟨some 14,.move (.tmp 1),65,"para.go:26",#[],none⟩,⟨some 15,.load 53 (.tmp 5),53,"para.go:26",#[],none⟩,⟨some 16,.call ⟨.value (.func 50),#[.tmp 13,.tmp 14,.tmp 15],#[36,65,53]⟩,24,"para.go:26",#[⟨0,.data⟩,⟨1,.data⟩,⟨2,.data⟩],none⟩,⟨some 9,.assign (.tmp 16),24,"para.go:26",#[⟨3,.data⟩,⟨3,.chain⟩,⟨0,.phase⟩,⟨1,.phase⟩,⟨2,.phase⟩,⟨3,.phase⟩],none⟩] false).seq ((Code.region 2 #[⟨some 17,.move (.tmp 9),24,"para.go:26",#[],none⟩,⟨some 18,.binOp .neq 24 (.tmp 17) (.const (.int .i64 0)) 24,4,"para.go:26",#[⟨0,.data⟩],none⟩] false).seq (Code.cond (Operand.tmp 18) ((Code.region 3 #[⟨some 19,.build 53 #[],53,"para.go:27",#[⟨2,.gcOnly .lateStores⟩],none⟩,⟨some 20,.move (.tmp 9),24,"para.go:27",#[⟨3,.gcOnly .lateStores⟩],none⟩,⟨some 6,.assign (.const (.slice none 0 0)),65,"para.go:27",#[⟨0,.textOnly .lateStores⟩,⟨1,.textOnly .lateStores⟩],none⟩,⟨none,.store 53 (.tmp 7) (.tmp 19),0,"para.go:27",#[⟨0,.data⟩,⟨2,.chain⟩,⟨0,.phase⟩,⟨1,.textOnly .lateStores⟩,⟨2,.phase⟩],none⟩,⟨some 8,.assign (.tmp 20),24,"para.go:27",#[⟨1,.data⟩,⟨3,.chain⟩,⟨0,.phase⟩,⟨1,.phase⟩,⟨2,.phase⟩,⟨3,.phase⟩],none⟩] false).seq Code.ret) Code.skip))).seq ((Code.region 4 #[⟨some 21,.load 36 (.tmp 3),36,"para.go:29",#[],none⟩,⟨some 22,.call ⟨.value (.func 51),#[.tmp 21],#[36]⟩,94,"para.go:29",#[⟨0,.data⟩],none⟩,⟨some 10,.assign (.tmp 22),94,"para.go:29",#[⟨1,.data⟩,⟨1,.chain⟩,⟨0,.phase⟩,⟨1,.phase⟩],none⟩] false).seq ((Code.region 5 #[⟨some 23,.move (.tmp 1),65,"para.go:30",#[],none⟩,⟨some 24,.call ⟨.builtin .len,#[.tmp 23],#[65]⟩,3,"para.go:30",#[⟨0,.data⟩],none⟩,⟨some 25,.fieldAddr 36 (.tmp 3) 2,0,"para.go:30",#[],none⟩,⟨some 26,.fieldAddr 33 (.tmp 25) 14,0,"para.go:30",#[⟨2,.data⟩],none⟩,⟨some 27,.load 3 (.tmp 26),3,"para.go:30",#[⟨3,.data⟩],none⟩,⟨some 28,.call ⟨.builtin .max,#[.tmp 24,.const (.int .i64 1),.tmp 27],#[3,3,3]⟩,3,"para.go:30",#[⟨1,.data⟩,⟨4,.data⟩],none⟩,⟨some 29,.makeSlice 65 (.tmp 28) (.tmp 28),65,"para.go:30",#[⟨5,.data⟩,⟨5,.data⟩],none⟩,⟨some 11,.assign (.tmp 29),65,"para.go:30",#[⟨6,.data⟩,⟨0,.phase⟩,⟨1,.phase⟩,⟨2,.phase⟩,⟨3,.phase⟩,⟨4,.phase⟩,⟨5,.phase⟩,⟨6,.phase⟩],none⟩] false).seq rest13)))) _ _ _
  go_wp2_with (first | (refine wpList_load_row rfl 36 _ rfl w.heap.size rfl 36 _ (0,0) _ hP.row Tryz.underlying36 rfl (info34 a) ?_) | (refine wpList_load_row rfl 53 _ rfl (w.heap.size + 1) rfl 53 _ (0,0) _ k1 Tryz.underlying53 rfl (info25 _ _) ?_) | (go_at_call 50; refine hrf.out.mono ?_; rintro e w2 ⟨rfl,hb2⟩; have hb2h : Hid (Below wz.heap.size wz w2) := hb2; have hP2 : w2.heap[w.heap.size]? = some (.cells (paC a) 36 (0,0)) := (hP.below hb2 hP.lt).row; clear hb2 hrf hP k1) | (refine wpList_load_row rfl 36 _ rfl w.heap.size rfl 36 _ (0,0) _ hP2 Tryz.underlying36 rfl (info34 a) ?_) | (go_at_call 51; refine (htk.out w2 hb2h.out).mono ?_; rintro e w3 ⟨⟨tv,rfl,hT⟩,hb3⟩; have hTh : Hid (TkAt w3 tv q) := hT; have hb3h : Hid (Below wz.heap.size wz w3) := hb2h.out.trans (hb3.mono hb2h.out.size); clear hb3 hT hb2h hP2 htk; have c16 := hc16.out w3 hb3h.out; clear hc16))
  have hz3 := hb3h.out
  obtain ⟨x1,x2⟩ := k1h.out
  have hsz := (Array.getElem?_eq_some_iff.1 x2).1
  subst hE
  refine in_rest _ q hok.out w w3 _ (w.heap.size + 1) N r ss _ tv hcsh.out hNl.out (hBh.out.trans (hz3.mono hBh.out.size)) (by omega) ((hz3.block _ (by omega)).trans x1) ((hz3.block _ hsz).trans x2) (hV1h.out.below hz3 (Nat.le_refl _)) hTh.out ((Below.refl w3.heap.size w3).alloc (Nat.le_refl _) _) (by rw [inK_zero]; exact made28 w3 N) ?_
  exact fun W h1 h2 => hend.out W h1 _ h2
 ·have hend : Hid (∀ W,Below w.heap.size w W → InEnd a ss r w (.returned (.tuple #[.slice none 0 0,.agg #[.int .i64 0,.int .i64 0],.int .i64 (paE a ss r)])) W) := fun W hW => ⟨hW,.inl ⟨he,rfl⟩⟩
  have he' : (paE a ss r == 0) = false := by simpa using he
  clear he hA1 hV1
  generalize paE a ss r = k at *
  generalize hE : InEnd a ss r w = E at *
  go_enter Tryz.func34,Tryz.ntmps34
  go_wp2_with (first | (refine wpList_load_row rfl 36 _ rfl w.heap.size rfl 36 _ (0,0) _ hP.row Tryz.underlying36 rfl (info34 a) ?_) | (refine wpList_load_row rfl 53 _ rfl (w.heap.size + 1) rfl 53 _ (0,0) _ k1 Tryz.underlying53 rfl (info25 _ _) ?_) | (go_at_call 50; refine hrf.out.mono ?_; rintro e w2 ⟨rfl,hb2⟩; have y2 : w2.heap[w.heap.size + 1 + 1]? = some (.cells #[.int .i64 0,.int .i64 0] 53 (0,0)) := (hb2.block _ (Array.getElem?_eq_some_iff.1 k2).1).trans k2; have g0 : w2.cell? ⟨w.heap.size + 1 + 1,0,none⟩ = some (.int .i64 0) := (Lib.cell_of_heap y2 _).trans rfl; have g1 : w2.cell? ⟨w.heap.size + 1 + 1,1,none⟩ = some (.int .i64 0) := (Lib.cell_of_heap y2 _).trans rfl; have g2 : w2.frozen? ⟨w.heap.size + 1 + 1,0,none⟩ = false := Lib.frozen_of_heap y2 0; have g3 : w2.frozen? ⟨w.heap.size + 1 + 1,1,none⟩ = false := Lib.frozen_of_heap y2 1; have y2h : Hid (w2.heap[w.heap.size + 1 + 1]? = some (.cells #[.int .i64 0,.int .i64 0] 53 (0,0))) := y2; clear y2))
  have y3 := heap_setCell_same _ (w.heap.size + 1 + 1) 0 _ 53 (.int .i64 0) y2h.out
  have y4 := heap_setCell_same _ (w.heap.size + 1 + 1) 1 _ 53 (.int .i64 0) y3
  refine bodyPost_ret (results_tct rfl _ _ (w.heap.size + 1 + 1) 53 #[.int .i64 0,.int .i64 0] (0,0) _ rfl y4 Tryz.underlying53 rfl (info25 _ _)) rfl ?_
  refine hend.out _ ?_
  have hT1 := Turns.setCell (X := fun j => j = w.heap.size + 1 + 1) w2 (p := ⟨w.heap.size + 1 + 1,0,none⟩) rfl (.int .i64 0)
  have hT2 := Turns.setCell (X := fun j => j = w.heap.size + 1 + 1) (w2.setCell ⟨w.heap.size + 1 + 1,0,none⟩ (.int .i64 0)) (p := ⟨w.heap.size + 1 + 1,1,none⟩) rfl (.int .i64 0)
  exact (hBh.out.trans (hb2.mono hBh.out.size)).trans ((hT1.trans hT2).below (Nat.le_trans hBh.out.size hb2.size) (fun j hj => by omega))
end Go.Proofs.YtlgcnbomfhmjiaaGreatDoor

namespace Go.Proofs.YtlgcnbomfhmjiaaGreatDoor
open Go.RowKit Go.Shelf
set_option maxRecDepth 100000
set_option maxHeartbeats 8000000

theorem in_ck {a : Pa} {ss : List Sl} {r : Sl} (h : paE a ss r = 0) : ckS (inSs a ss r) (inR a ss r) = 0 := by
 obtain ⟨hck,hcs⟩ := paE_ok h
 have hq := tkP_ok hck
 have h14 := (good_of hck).p14
 have hfew := ckS_few hcs
 have hr : okS r = true := by
  have := slN_ok hcs ss.length
  rw [slN_out (Nat.le_refl _)] at this
  exact this
 have hlen : (inSs a ss r).length = inN a ss := by simp [inSs,inL']
 have hN : inN a ss ≤ 256 := by unfold inN; omega
 unfold ckS
 rw [if_neg (by omega),if_pos]
 refine ⟨tkI_ok hq hr 5,?_⟩
 rw [List.all_eq_true]
 intro x hx
 unfold inSs inL' at hx
 rw [List.mem_map] at hx
 obtain ⟨n,_,rfl⟩ := hx
 exact tkI_ok hq (slN_ok hcs n) 5
def LayEnd (a : Pa) (L : List It) (iS : List Sl) (iR : Sl) (pl : List Pc) (lo : Bool) (w : World) (e : Ending) (w' : World) : Prop := (∃ g,w.heap.size ≤ g ∧ e = .returned (.tuple #[.slice (some ⟨g,0,none⟩) pl.length pl.length,.int .i64 0]) ∧ LxsAt w' (.slice (some ⟨g,0,none⟩) pl.length pl.length) (glL (lyY a L iS iR pl lo) pl.length)) ∧ Below w.heap.size w w'
theorem lay_ok (a : Pa) (v : Value) (ss : List Sl) (r : Sl) (L : List It) (pl : List Pc) (lo : Bool) (fn : Nat) (w : World) (hA : PaAt w a) (hV : SlsAt w v ss) (hE : paE a ss r = 0) (hL : L.length ≤ 8192) (hW : ∀ x ∈ L,x.w ≤ 524288) (hck : ckL L = 0)
  (hI : ∀ W,PaAt W a → Calls Tryz.prog 53 #[.agg (paC a)] W fun e w' => (∃ v,e = .returned (.tuple #[v,.int .i64 0]) ∧ ItsAt w' v L) ∧ Below W.heap.size W w')
  (hN : pl.length ≤ 9000) (hps : ∀ k (h : k < pl.length),pl[k].a ≤ pl[k].b ∧ pl[k].b ≤ L.length ∧ (0 < k → pl[k].a < L.length))
  (hfn : chN a L = fn) (h67 : fn = 55 ∨ fn = 56) (hc : ∀ w v u,ItsAt w v L → SlsAt w u (inSs a ss r) → Calls Tryz.prog fn #[v,u,.agg (slL (inR a ss r)).toArray] w (BkEnd pl lo w)) :
  Calls Tryz.prog 25 #[paV a,v,.agg (slL r).toArray] w (LayEnd a L (inSs a ss r) (inR a ss r) pl lo w) := by
 have hB := below2 w (Obj.cells (paC a) 36) (.cells #[.int .i64 r.x,.int .i64 r.w] 53)
 have hA1 := hA.below hB (Nat.le_refl _)
 have hV1 := hV.below hB (Nat.le_refl _)
 have k0 : ((w.alloc (.cells (paC a) 36)).alloc (.cells #[.int .i64 r.x,.int .i64 r.w] 53)).heap[w.heap.size]? = some (.cells (paC a) 36 (0,0)) := (Below.heap_alloc _ _ _ (by simp)).trans (World.alloc_heap_new w _)
 have k1 : ((w.alloc (.cells (paC a) 36)).alloc (.cells #[.int .i64 r.x,.int .i64 r.w] 53)).heap[w.heap.size + 1]? = some (.cells #[.int .i64 r.x,.int .i64 r.w] 53 (0,0)) := alloc2_heap w _ _
 have hcI := in_ck hE
 have hss : ss.length ≤ 9223372036854775807 := by have := ckS_few (paE_ok hE).2; omega
 generalize hwz : (w.alloc (.cells (paC a) 36)).alloc (.cells #[.int .i64 r.x,.int .i64 r.w] 53) = wz at *
 have hin : Hid (Calls Tryz.prog 34 #[.agg (paC a),v,.agg #[.int .i64 r.x,.int .i64 r.w]] wz fun e w' => (∃ u,e = .returned (.tuple #[u,.agg (slL (inR a ss r)).toArray,.int .i64 0]) ∧ SlsAt w' u (inSs a ss r)) ∧ Below wz.heap.size wz w') := by
  refine (inner_any a v ss r hss wz hA1 hV1).mono ?_
  rintro e w' ⟨h1,⟨h2,_⟩ | ⟨_,u,rfl,hu⟩⟩
  ·exact absurd hE h2
  ·exact ⟨⟨u,rfl,hu⟩,h1⟩
 have hit : Hid (∀ W,Below wz.heap.size wz W → Calls Tryz.prog 35 #[.agg (paC a)] W (PiEnd L W)) := fun W hb => pitems_any a L W (hA1.below hb (Nat.le_refl _)) hL hW hI
 generalize inSs a ss r = iS at *
 generalize inR a ss r = iR at *
 have hcall : Hid (∀ (X Y : Nat) (a1 a2 : Option Addr) (c1 c2 : Nat),∀ (ps : String) (fr : Act) (w : World) (K : Act → World → Prop) (Q : Exit → Act → World → Prop),fr.eval (.tmp 36) = .func (.func (chN a L)) #[] #[] → fr.eval (.tmp 37) = (.slice a1 L.length c1) → fr.eval (.tmp 38) = (.slice a2 iS.length c2) → fr.eval (.tmp 39) = .agg (slL iR).toArray → (L5S X Y a iR L iS (.slice a1 L.length c1) (.slice a2 iS.length c2)) w → (∀ a3 c3 w',PcsAt w' (.slice a3 pl.length c3) pl → Below w.heap.size w w' → K (fr.put (some 40) (.tuple #[.slice a3 pl.length c3,.bool lo])) w') → (opp11_5_6 ps).wp Tryz.prog fr w K Q) := by
  intro X Y a1 a2 c1 c2
  rcases h67 with rfl | rfl
  ·exact ly_call66 X Y a iR L iS pl lo a1 a2 c1 c2 hfn (fun w h1 h2 => hc w _ _ h1 h2)
  ·exact ly_call67 X Y a iR L iS pl lo a1 a2 c1 c2 hfn (fun w h1 h2 => hc w _ _ h1 h2)
 have hend : Hid (∀ W g,w.heap.size ≤ g → Below w.heap.size w W → LxsAt W (.slice (some ⟨g,0,none⟩) pl.length pl.length) (glL (lyY a L iS iR pl lo) pl.length) → LayEnd a L iS iR pl lo w (.returned (.tuple #[.slice (some ⟨g,0,none⟩) pl.length pl.length,.int .i64 0])) W) := fun W g hg h1 h2 => ⟨⟨g,hg,rfl,h2⟩,h1⟩
 have hBh : Hid (Below w.heap.size w wz) := hB
 have hk : Hid (ckL L = 0 ∧ ckS iS iR = 0 ∧ pl.length ≤ 9000 ∧ L.length ≤ 8192) := ⟨hck,hcI,hN,hL⟩
 have hpsh : Hid (∀ k (h : k < pl.length),pl[k].a ≤ pl[k].b ∧ pl[k].b ≤ L.length ∧ (0 < k → pl[k].a < L.length)) := hps
 have hmk : ∀ W,(Instr.makeSlice 23 (.int .i64 (pl.length : Nat)) (.int .i64 (pl.length : Nat))).run Tryz.prog W = .ok (.slice (some ⟨W.heap.size,0,none⟩) pl.length pl.length) (W.alloc (.cells ((List.replicate pl.length lx0).flatMap lxL).toArray 47)) := make34 (by omega)
 have hmkh : Hid (∀ W,(Instr.makeSlice 23 (.int .i64 (pl.length : Nat)) (.int .i64 (pl.length : Nat))).run Tryz.prog W = .ok (.slice (some ⟨W.heap.size,0,none⟩) pl.length pl.length) (W.alloc (.cells ((List.replicate pl.length lx0).flatMap lxL).toArray 47))) := hmk
 have hrep : Hid (∀ W : World,RB 7 lxL (W.alloc (.cells ((List.replicate pl.length lx0).flatMap lxL).toArray 47)) W.heap.size (glK lx0 (lyY a L iS iR pl lo) pl.length 0)) := fun W => by rw [glK_zero]; exact made34 W _
 have k0h : Hid (wz.heap[w.heap.size]? = some (.cells (paC a) 36 (0,0))) := k0
 clear hA hV hE hL hW hck hI hN hps hfn h67 hc hB hA1 hV1 hcI hss hmk
 generalize LayEnd a L iS iR pl lo w = E at *
 show Calls Tryz.prog 25 #[.agg (paC a),v,.agg #[.int .i64 r.x,.int .i64 r.w]] w E
 go_enter Tryz.func25,Tryz.ntmps25
 change Code.wp Tryz.prog ((Code.region 0 #[⟨some 3,.box 36 (.tmp 0),0,"para.go:38",#[],none⟩,⟨some 5,.box 53 (.tmp 2),0,"para.go:38",#[],none⟩,⟨some 6,.assign (.const (.slice none 0 0)),23,"para.go:38",#[],none⟩,⟨some 7,.assign (.const (.int .i64 0)),24,"para.go:38",#[⟨2,.chain⟩],none⟩] false).seq ((Code.region 1 #[⟨some 21,.load 36 (.tmp 3),36,"para.go:39",#[],none⟩,⟨some 22,.move (.tmp 1),65,"para.go:39",#[],none⟩,⟨some 23,.load 53 (.tmp 5),53,"para.go:39",#[],none⟩,⟨some 24,.call ⟨.value (.func 34),#[.tmp 21,.tmp 22,.tmp 23],#[36,65,53]⟩,66,"para.go:39",#[⟨0,.data⟩,⟨1,.data⟩,⟨2,.data⟩],none⟩,⟨some 20,.move (.tmp 24),66,"para.go:39",#[⟨3,.data⟩],none⟩,⟨some 25,.extract (.tmp 20) 0,65,"para.go:39",#[⟨4,.data⟩],none⟩,⟨some 26,.extract (.tmp 20) 1,53,"para.go:39",#[⟨4,.data⟩,⟨9,.gcOnly .lateStores⟩],none⟩,⟨some 27,.extract (.tmp 20) 2,24,"para.go:39",#[⟨4,.data⟩,⟨10,.gcOnly .lateStores⟩],none⟩,⟨some 9,.alloc 53,0,"para.go:39",#[],none⟩,⟨some 8,.assign (.tmp 25),65,"para.go:39",#[⟨5,.data⟩,⟨3,.chain⟩,⟨0,.phase⟩,⟨1,.phase⟩,⟨2,.phase⟩,⟨3,.phase⟩,⟨4,.phase⟩,⟨5,.phase⟩,⟨6,.textOnly .lateStores⟩,⟨7,.textOnly .lateStores⟩,⟨8,.phase⟩],none⟩,⟨none,.store 53 (.tmp 9) (.tmp 26),0,"para.go:39",#[⟨8,.data⟩,⟨6,.data⟩,⟨9,.chain⟩,⟨0,.phase⟩,⟨1,.phase⟩,⟨2,.phase⟩,⟨3,.phase⟩,⟨4,.phase⟩,⟨5,.phase⟩,⟨6,.phase⟩,⟨7,.textOnly .lateStores⟩,⟨8,.phase⟩,⟨9,.phase⟩],none⟩,⟨some 10,.assign (.tmp 27),24,"para.go:39",#[⟨7,.data⟩,⟨10,.chain⟩,⟨0,.phase⟩,⟨1,.phase⟩,⟨2,.phase⟩,⟨3,.phase⟩,⟨4,.phase⟩,⟨5,.phase⟩,⟨6,.phase⟩,⟨7,.phase⟩,⟨8,.phase⟩,⟨9,.phase⟩,⟨10,.phase⟩],none⟩] false).seq (((Code.region 2 #[⟨some 28,.move (.tmp 10),24,"para.go:40",#[],none⟩,⟨some 29,.binOp .neq 24 (.tmp 28) (.const (.int .i64 0)) 24,4,"para.go:40",#[⟨0,.data⟩],none⟩] false).seq (Code.cond (Operand.tmp 29) ((Code.region 3 #[⟨some 30,.move (.tmp 10),24,"para.go:41",#[⟨1,.gcOnly .lateStores⟩],none⟩,⟨some 6,.assign (.const (.slice none 0 0)),23,"para.go:41",#[⟨0,.textOnly .lateStores⟩],none⟩,⟨some 7,.assign (.tmp 30),24,"para.go:41",#[⟨0,.data⟩,⟨1,.chain⟩,⟨0,.phase⟩,⟨1,.phase⟩],none⟩] false).seq Code.ret) Code.skip)).seq ((Code.region 4 #[⟨some 31,.load 36 (.tmp 3),36,"para.go:43",#[],none⟩,⟨some 32,.call ⟨.value (.func 35),#[.tmp 31],#[36]⟩,68,"para.go:43",#[⟨0,.data⟩],none⟩,⟨some 11,.assign (.tmp 32),68,"para.go:43",#[⟨1,.data⟩,⟨1,.chain⟩,⟨0,.phase⟩,⟨1,.phase⟩],none⟩] false).seq ((Code.region 5 #[⟨some 34,.load 36 (.tmp 3),36,"para.go:44",#[],none⟩,⟨some 35,.move (.tmp 11),68,"para.go:44",#[],none⟩,⟨some 36,.call ⟨.value (.func 36),#[.tmp 34,.tmp 35],#[36,68]⟩,73,"para.go:44",#[⟨0,.data⟩,⟨1,.data⟩],none⟩,⟨some 37,.move (.tmp 11),68,"para.go:44",#[],none⟩,⟨some 38,.move (.tmp 8),65,"para.go:44",#[],none⟩,⟨some 39,.load 53 (.tmp 9),53,"para.go:44",#[],none⟩,⟨some 40,.call ⟨.value (.tmp 36),#[.tmp 37,.tmp 38,.tmp 39],#[68,65,53]⟩,71,"para.go:44",#[⟨2,.data⟩,⟨3,.data⟩,⟨4,.data⟩,⟨5,.data⟩,⟨2,.chain⟩],none⟩,⟨some 33,.move (.tmp 40),71,"para.go:44",#[⟨6,.data⟩],none⟩,⟨some 41,.extract (.tmp 33) 0,70,"para.go:44",#[⟨7,.data⟩],none⟩,⟨some 42,.extract (.tmp 33) 1,4,"para.go:44",#[⟨7,.data⟩,⟨10,.gcOnly .lateStores⟩],none⟩,⟨some 12,.assign (.tmp 41),70,"para.go:44",#[⟨8,.data⟩,⟨6,.chain⟩,⟨0,.phase⟩,⟨1,.phase⟩,⟨2,.phase⟩,⟨3,.phase⟩,⟨4,.phase⟩,⟨5,.phase⟩,⟨6,.phase⟩,⟨7,.phase⟩,⟨8,.phase⟩,⟨9,.textOnly .lateStores⟩],none⟩,⟨some 13,.assign (.tmp 42),4,"para.go:44",#[⟨9,.data⟩,⟨10,.chain⟩,⟨0,.phase⟩,⟨1,.phase⟩,⟨2,.phase⟩,⟨3,.phase⟩,⟨4,.phase⟩,⟨5,.phase⟩,⟨6,.phase⟩,⟨7,.phase⟩,⟨8,.phase⟩,⟨9,.phase⟩,⟨10,.phase⟩],none⟩] true).seq ((Code.region 6 #[⟨some 43,.move (.tmp 12),70,"para.go:45",#[],none⟩,⟨some 44,.call ⟨.builtin .len,#[.tmp 43],#[70]⟩,3,"para.go:45",#[⟨0,.data⟩],none⟩,⟨some 45,.makeSlice 23 (.tmp 44) (.tmp 44),23,"para.go:45",#[⟨1,.data⟩,⟨1,.data⟩],none⟩,⟨some 14,.assign (.tmp 45),23,"para.go:45",#[⟨2,.data⟩,⟨0,.phase⟩,⟨1,.phase⟩,⟨2,.phase⟩],none⟩] false).seq ((Code.region 7 #[⟨some 15,.assign (.const (.int .i64 0)),3,"para.go:46",#[],none⟩] false).seq rest11))))))) _ _ _
 go_wp2_with (first | (refine wpList_load_row rfl 36 _ rfl w.heap.size rfl 36 _ (0,0) _ k0 Tryz.underlying36 rfl (info34 a) ?_) | (refine wpList_load_row rfl 53 _ rfl (w.heap.size + 1) rfl 53 _ (0,0) _ k1 Tryz.underlying53 rfl (info25 _ _) ?_) | (go_at_call 34; refine hin.out.mono ?_; rintro e w2 ⟨⟨u,rfl,hu⟩,hb2⟩; obtain ⟨a2,c2,rfl,-⟩ := hu.ex; have huh : Hid (SlsAt w2 (.slice a2 iS.length c2) iS) := hu; have hb2h : Hid (Below wz.heap.size wz w2) := hb2; have hz9 : (w2.alloc (.cells #[.int .i64 0,.int .i64 0] 53)).heap[w2.heap.size]? = some (.cells #[.int .i64 0,.int .i64 0] 53 (0,0)) := World.alloc_heap_new w2 _; clear hu hb2 hin k0 k1) | (refine wpList_store_row rfl 53 _ _ rfl w2.heap.size (slL iR).toArray rfl rfl 53 _ hz9 (info25t _) rfl (slt_all _) ?_; have hT9 := Turns.setRow (X := fun j => j = w2.heap.size) (w2.alloc (.cells #[.int .i64 0,.int .i64 0] 53)) rfl (slL iR).toArray; have hB9 : Below w2.heap.size w2 ((w2.alloc (.cells #[.int .i64 0,.int .i64 0] 53)).setRow w2.heap.size (slL iR).toArray) := ((Below.refl w2.heap.size w2).alloc (Nat.le_refl _) _).trans (hT9.below (by simp) (fun j hj => by omega)); have hy3 : ((w2.alloc (.cells #[.int .i64 0,.int .i64 0] 53)).setRow w2.heap.size (slL iR).toArray).heap[w2.heap.size]? = some (.cells (slL iR).toArray 53 (0,0)) := setRow_heap _ _ _ _ _ _ hz9; have hu3 := huh.out.below hB9 (Nat.le_refl _); have hB3 := hb2h.out.trans (hB9.mono hb2h.out.size); clear hT9 hB9 hz9 huh hb2h; generalize (w2.alloc (.cells #[.int .i64 0,.int .i64 0] 53)).setRow w2.heap.size (slL iR).toArray = w3 at *; generalize w2.heap.size = g9 at *; have x3 := (hB3.block _ (Array.getElem?_eq_some_iff.1 k0h.out).1).trans k0h.out; have hF3 : Hid (Below wz.heap.size wz w3 ∧ w3.heap[g9]? = some (.cells (slL iR).toArray 53 (0,0)) ∧ SlsAt w3 (.slice a2 iS.length c2) iS) := ⟨hB3,hy3,hu3⟩; clear hB3 hy3 hu3) | (refine wpList_load_row rfl 36 _ rfl w.heap.size rfl 36 _ (0,0) _ x3 Tryz.underlying36 rfl (info34 a) ?_) | (go_at_call 35; refine (hit.out w3 hF3.out.1).mono ?_; rintro e w4 ⟨⟨v4,rfl,hv4⟩,hb4⟩; obtain ⟨a1,c1,rfl,-⟩ := hv4.ex; have hv4h : Hid (ItsAt w4 (.slice a1 L.length c1) L) := hv4; have hb4h : Hid (Below w3.heap.size w3 w4) := hb4; clear hv4 hb4 x3 hit))
 obtain ⟨f1,f2,f3⟩ := hF3.out
 have hb4 := hb4h.out
 have hz4 := f1.trans (hb4.mono f1.size)
 have hS4 : L5S w.heap.size g9 a iR L iS (.slice a1 L.length c1) (.slice a2 iS.length c2) w4 := ⟨⟨(hz4.block _ (Array.getElem?_eq_some_iff.1 k0h.out).1).trans k0h.out⟩,(hb4.block _ (Array.getElem?_eq_some_iff.1 f2).1).trans f2,hv4h.out,f3.below hb4 (Nat.le_refl _)⟩
 refine ly_r5 _ (fun _ _ _ _ _ h => h) _ _ w w.heap.size g9 a iR L iS pl lo a1 a2 c1 c2 w4 (hS4.below (below_drew w4)) (hBh.out.trans (hz4.mono hBh.out.size)).drew (by have := hk.out.2.2.2; omega) (hcall.out w.heap.size g9 a1 a2 c1 c2) ?_
 intro a3 c3 w5 hz5 hS5 hp5
 have hF5 : Hid (Below w.heap.size w w5 ∧ L5S w.heap.size g9 a iR L iS (.slice a1 L.length c1) (.slice a2 iS.length c2) w5 ∧ PcsAt w5 (.slice a3 pl.length c3) pl) := ⟨hz5,hS5,hp5⟩
 clear hz5 hS5 hp5 hS4 hz4 hb4 f1 f2 f3 hcall hb4h hv4h hF3 k0h hBh
 have hmk := hmkh.out
 unfold frp11
 go_wp2_with fail
 obtain ⟨z5,s5,p5⟩ := hF5.out
 refine ly_rest _ w w5 _ w.heap.size g9 a L iS iR pl lo a1 a2 a3 c1 c2 c3 hk.out.1 hk.out.2.1 hk.out.2.2.1 hpsh.out z5 s5.pb s5.s9 s5.hl s5.hs p5 ((Below.refl w5.heap.size w5).alloc (Nat.le_refl _) _) (hrep.out w5) ?_
 exact fun W h1 h2 => hend.out W _ z5.size h1 h2
end Go.Proofs.YtlgcnbomfhmjiaaGreatDoor
