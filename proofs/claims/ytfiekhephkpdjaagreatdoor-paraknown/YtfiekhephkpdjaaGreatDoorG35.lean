/-
  What is proved here: what Lay of para answers of what may be laid.
  What is proved here: the regions of alone, cut and box that make an item, in whatever order their operations come up.
-/
import Derived.Test.YtfiekhephkpdjaaGreatDoorG34
import Derived.Test.YtfiekhephkpdjaaGreatDoorG22
import Derived.Test.YtfiekhephkpdjaaGreatDoorG1
import Derived.Test.YtfiekhephkpdjaaGreatDoorG26
namespace Go.Proofs.YtfiekhephkpdjaaGreatDoor
open Go.RowKit Go.Shelf
set_option maxRecDepth 100000
set_option maxHeartbeats 8000000

theorem in_ck {a : Pa} {ss : List Sl} {r : Sl} (h : paE a ss r = 0) : ckS (inSs a ss r) (inR a ss r) = 0 := by
 obtain ⟨hck,hcs⟩ := paE_ok h
 have hq := tkP_ok hck
 have h14 := (good_of hck).p14
 have hfew := ckS_few hcs
 have hr : okS r = true := by
  have := slN_ok hcs ss.length
  rw [slN_out (Nat.le_refl _)] at this
  exact this
 have hlen : (inSs a ss r).length = inN a ss := by simp [inSs,inL']
 have hN : inN a ss ≤ 256 := by unfold inN; omega
 unfold ckS
 rw [if_neg (by omega),if_pos]
 refine ⟨tkI_ok hq hr 5,?_⟩
 rw [List.all_eq_true]
 intro x hx
 unfold inSs inL' at hx
 rw [List.mem_map] at hx
 obtain ⟨n,_,rfl⟩ := hx
 exact tkI_ok hq (slN_ok hcs n) 5
def LayEnd (a : Pa) (L : List It) (iS : List Sl) (iR : Sl) (pl : List Pc) (lo : Bool) (w : World) (e : Ending) (w' : World) : Prop := (∃ u,e = .returned (.tuple #[u,.int .i64 0]) ∧ LxsAt w' u (glL (lyY a L iS iR pl lo) pl.length)) ∧ Below w.heap.size w w'
theorem lay_ok (a : Pa) (v : Value) (ss : List Sl) (r : Sl) (L : List It) (pl : List Pc) (lo : Bool) (fn : Nat) (w : World) (hA : PaAt w a) (hV : SlsAt w v ss) (hE : paE a ss r = 0) (hL : L.length ≤ 8192) (hW : ∀ x ∈ L,x.w ≤ 524288) (hck : ckL L = 0)
  (hI : ∀ W,PaAt W a → Calls Tryz.prog 20 #[.agg (paC a)] W fun e w' => (∃ v,e = .returned (.tuple #[v,.int .i64 0]) ∧ ItsAt w' v L) ∧ Below W.heap.size W w')
  (hN : pl.length ≤ 9000) (hps : ∀ k (h : k < pl.length),pl[k].a ≤ pl[k].b ∧ pl[k].b ≤ L.length ∧ (0 < k → pl[k].a < L.length))
  (hfn : chN a L = fn) (h67 : fn = 22 ∨ fn = 23) (hc : ∀ w v u,ItsAt w v L → SlsAt w u (inSs a ss r) → Calls Tryz.prog fn #[v,u,.agg (slL (inR a ss r)).toArray] w (BkEnd pl lo w)) :
  Calls Tryz.prog 7 #[paV a,v,.agg (slL r).toArray] w (LayEnd a L (inSs a ss r) (inR a ss r) pl lo w) := by
 have hB := below2 w (Obj.cells (paC a) 27) (.cells #[.int .i64 r.x,.int .i64 r.w] 32)
 have hA1 := hA.below hB (Nat.le_refl _)
 have hV1 := hV.below hB (Nat.le_refl _)
 have k0 : ((w.alloc (.cells (paC a) 27)).alloc (.cells #[.int .i64 r.x,.int .i64 r.w] 32)).heap[w.heap.size]? = some (.cells (paC a) 27 (0,0)) := (Below.heap_alloc _ _ _ (by simp)).trans (World.alloc_heap_new w _)
 have k1 : ((w.alloc (.cells (paC a) 27)).alloc (.cells #[.int .i64 r.x,.int .i64 r.w] 32)).heap[w.heap.size + 1]? = some (.cells #[.int .i64 r.x,.int .i64 r.w] 32 (0,0)) := alloc2_heap w _ _
 have hcI := in_ck hE
 have hss : ss.length ≤ 9223372036854775807 := by have := ckS_few (paE_ok hE).2; omega
 generalize hwz : (w.alloc (.cells (paC a) 27)).alloc (.cells #[.int .i64 r.x,.int .i64 r.w] 32) = wz at *
 have hin : Hid (Calls Tryz.prog 10 #[.agg (paC a),v,.agg #[.int .i64 r.x,.int .i64 r.w]] wz fun e w' => (∃ u,e = .returned (.tuple #[u,.agg (slL (inR a ss r)).toArray,.int .i64 0]) ∧ SlsAt w' u (inSs a ss r)) ∧ Below wz.heap.size wz w') := by
  refine (inner_any a v ss r hss wz hA1 hV1).mono ?_
  rintro e w' ⟨h1,⟨h2,_⟩ | ⟨_,u,rfl,hu⟩⟩
  ·exact absurd hE h2
  ·exact ⟨⟨u,rfl,hu⟩,h1⟩
 have hit : Hid (∀ W,Below wz.heap.size wz W → Calls Tryz.prog 11 #[.agg (paC a)] W (PiEnd L W)) := fun W hb => pitems_any a L W (hA1.below hb (Nat.le_refl _)) hL hW hI
 generalize inSs a ss r = iS at *
 generalize inR a ss r = iR at *
 have hcall : Hid (∀ (X Y : Nat) (a1 a2 : Option Addr) (c1 c2 : Nat),∀ (ps : String) (fr : Act) (w : World) (K : Act → World → Prop) (Q : Exit → Act → World → Prop),fr.eval (.tmp 36) = .func (.func (chN a L)) #[] #[] → fr.eval (.tmp 37) = (.slice a1 L.length c1) → fr.eval (.tmp 38) = (.slice a2 iS.length c2) → fr.eval (.tmp 39) = .agg (slL iR).toArray → (L5S X Y a iR L iS (.slice a1 L.length c1) (.slice a2 iS.length c2)) w → (∀ a3 c3 w',PcsAt w' (.slice a3 pl.length c3) pl → Below w.heap.size w w' → K (fr.put (some 40) (.tuple #[.slice a3 pl.length c3,.bool lo])) w') → (opp11_5_6 ps).wp Tryz.prog fr w K Q) := by
  intro X Y a1 a2 c1 c2
  rcases h67 with rfl | rfl
  ·exact ly_call66 X Y a iR L iS pl lo a1 a2 c1 c2 hfn (fun w h1 h2 => hc w _ _ h1 h2)
  ·exact ly_call67 X Y a iR L iS pl lo a1 a2 c1 c2 hfn (fun w h1 h2 => hc w _ _ h1 h2)
 have hend : Hid (∀ W u,Below w.heap.size w W → LxsAt W u (glL (lyY a L iS iR pl lo) pl.length) → LayEnd a L iS iR pl lo w (.returned (.tuple #[u,.int .i64 0])) W) := fun W u h1 h2 => ⟨⟨u,rfl,h2⟩,h1⟩
 have hBh : Hid (Below w.heap.size w wz) := hB
 have hk : Hid (ckL L = 0 ∧ ckS iS iR = 0 ∧ pl.length ≤ 9000 ∧ L.length ≤ 8192) := ⟨hck,hcI,hN,hL⟩
 have hpsh : Hid (∀ k (h : k < pl.length),pl[k].a ≤ pl[k].b ∧ pl[k].b ≤ L.length ∧ (0 < k → pl[k].a < L.length)) := hps
 have hmk : ∀ W,(Instr.makeSlice 35 (.int .i64 (pl.length : Nat)) (.int .i64 (pl.length : Nat))).run Tryz.prog W = .ok (.slice (some ⟨W.heap.size,0,none⟩) pl.length pl.length) (W.alloc (.cells ((List.replicate pl.length lx0).flatMap lxL).toArray 34)) := make34 (by omega)
 have hmkh : Hid (∀ W,(Instr.makeSlice 35 (.int .i64 (pl.length : Nat)) (.int .i64 (pl.length : Nat))).run Tryz.prog W = .ok (.slice (some ⟨W.heap.size,0,none⟩) pl.length pl.length) (W.alloc (.cells ((List.replicate pl.length lx0).flatMap lxL).toArray 34))) := hmk
 have hrep : Hid (∀ W : World,RB 7 lxL (W.alloc (.cells ((List.replicate pl.length lx0).flatMap lxL).toArray 34)) W.heap.size (glK lx0 (lyY a L iS iR pl lo) pl.length 0)) := fun W => by rw [glK_zero]; exact made34 W _
 have k0h : Hid (wz.heap[w.heap.size]? = some (.cells (paC a) 27 (0,0))) := k0
 clear hA hV hE hL hW hck hI hN hps hfn h67 hc hB hA1 hV1 hcI hss hmk
 generalize LayEnd a L iS iR pl lo w = E at *
 show Calls Tryz.prog 7 #[.agg (paC a),v,.agg #[.int .i64 r.x,.int .i64 r.w]] w E
 go_enter Tryz.func7,Tryz.ntmps7
 change Code.wp Tryz.prog ((Code.region 0 #[⟨some 3,.box 27 (.tmp 0),0,"para.go:38",#[],none⟩,⟨some 5,.box 32 (.tmp 2),0,"para.go:38",#[],none⟩,⟨some 6,.assign (.const (.slice none 0 0)),35,"para.go:38",#[],none⟩,⟨some 7,.assign (.const (.int .i64 0)),36,"para.go:38",#[⟨2,.chain⟩],none⟩] false).seq ((Code.region 1 #[⟨some 21,.load 27 (.tmp 3),27,"para.go:39",#[],none⟩,⟨some 22,.move (.tmp 1),45,"para.go:39",#[],none⟩,⟨some 23,.load 32 (.tmp 5),32,"para.go:39",#[],none⟩,⟨some 24,.call ⟨.value (.func 10),#[.tmp 21,.tmp 22,.tmp 23],#[27,45,32]⟩,46,"para.go:39",#[⟨0,.data⟩,⟨1,.data⟩,⟨2,.data⟩],none⟩,⟨some 20,.move (.tmp 24),46,"para.go:39",#[⟨3,.data⟩],none⟩,⟨some 25,.extract (.tmp 20) 0,45,"para.go:39",#[⟨4,.data⟩],none⟩,⟨some 26,.extract (.tmp 20) 1,32,"para.go:39",#[⟨4,.data⟩,⟨9,.gcOnly .lateStores⟩],none⟩,⟨some 27,.extract (.tmp 20) 2,36,"para.go:39",#[⟨4,.data⟩,⟨10,.gcOnly .lateStores⟩],none⟩,⟨some 9,.alloc 32,0,"para.go:39",#[],none⟩,⟨some 8,.assign (.tmp 25),45,"para.go:39",#[⟨5,.data⟩,⟨3,.chain⟩,⟨0,.phase⟩,⟨1,.phase⟩,⟨2,.phase⟩,⟨3,.phase⟩,⟨4,.phase⟩,⟨5,.phase⟩,⟨6,.textOnly .lateStores⟩,⟨7,.textOnly .lateStores⟩,⟨8,.phase⟩],none⟩,⟨none,.store 32 (.tmp 9) (.tmp 26),0,"para.go:39",#[⟨8,.data⟩,⟨6,.data⟩,⟨9,.chain⟩,⟨0,.phase⟩,⟨1,.phase⟩,⟨2,.phase⟩,⟨3,.phase⟩,⟨4,.phase⟩,⟨5,.phase⟩,⟨6,.phase⟩,⟨7,.textOnly .lateStores⟩,⟨8,.phase⟩,⟨9,.phase⟩],none⟩,⟨some 10,.assign (.tmp 27),36,"para.go:39",#[⟨7,.data⟩,⟨10,.chain⟩,⟨0,.phase⟩,⟨1,.phase⟩,⟨2,.phase⟩,⟨3,.phase⟩,⟨4,.phase⟩,⟨5,.phase⟩,⟨6,.phase⟩,⟨7,.phase⟩,⟨8,.phase⟩,⟨9,.phase⟩,⟨10,.phase⟩],none⟩] false).seq (((Code.region 2 #[⟨some 28,.move (.tmp 10),36,"para.go:40",#[],none⟩,⟨some 29,.binOp .neq 36 (.tmp 28) (.const (.int .i64 0)) 36,4,"para.go:40",#[⟨0,.data⟩],none⟩] false).seq (Code.cond (Operand.tmp 29) ((Code.region 3 #[⟨some 30,.move (.tmp 10),36,"para.go:41",#[⟨1,.gcOnly .lateStores⟩],none⟩,⟨some 6,.assign (.const (.slice none 0 0)),35,"para.go:41",#[⟨0,.textOnly .lateStores⟩],none⟩,⟨some 7,.assign (.tmp 30),36,"para.go:41",#[⟨0,.data⟩,⟨1,.chain⟩,⟨0,.phase⟩,⟨1,.phase⟩],none⟩] false).seq Code.ret) Code.skip)).seq ((Code.region 4 #[⟨some 31,.load 27 (.tmp 3),27,"para.go:43",#[],none⟩,⟨some 32,.call ⟨.value (.func 11),#[.tmp 31],#[27]⟩,48,"para.go:43",#[⟨0,.data⟩],none⟩,⟨some 11,.assign (.tmp 32),48,"para.go:43",#[⟨1,.data⟩,⟨1,.chain⟩,⟨0,.phase⟩,⟨1,.phase⟩],none⟩] false).seq ((Code.region 5 #[⟨some 34,.load 27 (.tmp 3),27,"para.go:44",#[],none⟩,⟨some 35,.move (.tmp 11),48,"para.go:44",#[],none⟩,⟨some 36,.call ⟨.value (.func 12),#[.tmp 34,.tmp 35],#[27,48]⟩,53,"para.go:44",#[⟨0,.data⟩,⟨1,.data⟩],none⟩,⟨some 37,.move (.tmp 11),48,"para.go:44",#[],none⟩,⟨some 38,.move (.tmp 8),45,"para.go:44",#[],none⟩,⟨some 39,.load 32 (.tmp 9),32,"para.go:44",#[],none⟩,⟨some 40,.call ⟨.value (.tmp 36),#[.tmp 37,.tmp 38,.tmp 39],#[48,45,32]⟩,51,"para.go:44",#[⟨2,.data⟩,⟨3,.data⟩,⟨4,.data⟩,⟨5,.data⟩,⟨2,.chain⟩],none⟩,⟨some 33,.move (.tmp 40),51,"para.go:44",#[⟨6,.data⟩],none⟩,⟨some 41,.extract (.tmp 33) 0,50,"para.go:44",#[⟨7,.data⟩],none⟩,⟨some 42,.extract (.tmp 33) 1,4,"para.go:44",#[⟨7,.data⟩,⟨10,.gcOnly .lateStores⟩],none⟩,⟨some 12,.assign (.tmp 41),50,"para.go:44",#[⟨8,.data⟩,⟨6,.chain⟩,⟨0,.phase⟩,⟨1,.phase⟩,⟨2,.phase⟩,⟨3,.phase⟩,⟨4,.phase⟩,⟨5,.phase⟩,⟨6,.phase⟩,⟨7,.phase⟩,⟨8,.phase⟩,⟨9,.textOnly .lateStores⟩],none⟩,⟨some 13,.assign (.tmp 42),4,"para.go:44",#[⟨9,.data⟩,⟨10,.chain⟩,⟨0,.phase⟩,⟨1,.phase⟩,⟨2,.phase⟩,⟨3,.phase⟩,⟨4,.phase⟩,⟨5,.phase⟩,⟨6,.phase⟩,⟨7,.phase⟩,⟨8,.phase⟩,⟨9,.phase⟩,⟨10,.phase⟩],none⟩] true).seq ((Code.region 6 #[⟨some 43,.move (.tmp 12),50,"para.go:45",#[],none⟩,⟨some 44,.call ⟨.builtin .len,#[.tmp 43],#[50]⟩,3,"para.go:45",#[⟨0,.data⟩],none⟩,⟨some 45,.makeSlice 35 (.tmp 44) (.tmp 44),35,"para.go:45",#[⟨1,.data⟩,⟨1,.data⟩],none⟩,⟨some 14,.assign (.tmp 45),35,"para.go:45",#[⟨2,.data⟩,⟨0,.phase⟩,⟨1,.phase⟩,⟨2,.phase⟩],none⟩] false).seq ((Code.region 7 #[⟨some 15,.assign (.const (.int .i64 0)),3,"para.go:46",#[],none⟩] false).seq rest11))))))) _ _ _
 go_wp2_with (first | (refine wpList_load_row rfl 27 _ rfl w.heap.size rfl 27 _ (0,0) _ k0 Tryz.underlying27 rfl (info34 a) ?_) | (refine wpList_load_row rfl 32 _ rfl (w.heap.size + 1) rfl 32 _ (0,0) _ k1 Tryz.underlying32 rfl (info25 _ _) ?_) | (go_at_call 10; refine hin.out.mono ?_; rintro e w2 ⟨⟨u,rfl,hu⟩,hb2⟩; obtain ⟨a2,c2,rfl,-⟩ := hu.ex; have huh : Hid (SlsAt w2 (.slice a2 iS.length c2) iS) := hu; have hb2h : Hid (Below wz.heap.size wz w2) := hb2; have hz9 : (w2.alloc (.cells #[.int .i64 0,.int .i64 0] 32)).heap[w2.heap.size]? = some (.cells #[.int .i64 0,.int .i64 0] 32 (0,0)) := World.alloc_heap_new w2 _; clear hu hb2 hin k0 k1) | (refine wpList_store_row rfl 32 _ _ rfl w2.heap.size (slL iR).toArray rfl rfl 32 _ hz9 (info25t _) rfl (slt_all _) ?_; have hT9 := Turns.setRow (X := fun j => j = w2.heap.size) (w2.alloc (.cells #[.int .i64 0,.int .i64 0] 32)) rfl (slL iR).toArray; have hB9 : Below w2.heap.size w2 ((w2.alloc (.cells #[.int .i64 0,.int .i64 0] 32)).setRow w2.heap.size (slL iR).toArray) := ((Below.refl w2.heap.size w2).alloc (Nat.le_refl _) _).trans (hT9.below (by simp) (fun j hj => by omega)); have hy3 : ((w2.alloc (.cells #[.int .i64 0,.int .i64 0] 32)).setRow w2.heap.size (slL iR).toArray).heap[w2.heap.size]? = some (.cells (slL iR).toArray 32 (0,0)) := setRow_heap _ _ _ _ _ _ hz9; have hu3 := huh.out.below hB9 (Nat.le_refl _); have hB3 := hb2h.out.trans (hB9.mono hb2h.out.size); clear hT9 hB9 hz9 huh hb2h; generalize (w2.alloc (.cells #[.int .i64 0,.int .i64 0] 32)).setRow w2.heap.size (slL iR).toArray = w3 at *; generalize w2.heap.size = g9 at *; have x3 := (hB3.block _ (Array.getElem?_eq_some_iff.1 k0h.out).1).trans k0h.out; have hF3 : Hid (Below wz.heap.size wz w3 ∧ w3.heap[g9]? = some (.cells (slL iR).toArray 32 (0,0)) ∧ SlsAt w3 (.slice a2 iS.length c2) iS) := ⟨hB3,hy3,hu3⟩; clear hB3 hy3 hu3) | (refine wpList_load_row rfl 27 _ rfl w.heap.size rfl 27 _ (0,0) _ x3 Tryz.underlying27 rfl (info34 a) ?_) | (go_at_call 11; refine (hit.out w3 hF3.out.1).mono ?_; rintro e w4 ⟨⟨v4,rfl,hv4⟩,hb4⟩; obtain ⟨a1,c1,rfl,-⟩ := hv4.ex; have hv4h : Hid (ItsAt w4 (.slice a1 L.length c1) L) := hv4; have hb4h : Hid (Below w3.heap.size w3 w4) := hb4; clear hv4 hb4 x3 hit))
 obtain ⟨f1,f2,f3⟩ := hF3.out
 have hb4 := hb4h.out
 have hz4 := f1.trans (hb4.mono f1.size)
 have hS4 : L5S w.heap.size g9 a iR L iS (.slice a1 L.length c1) (.slice a2 iS.length c2) w4 := ⟨⟨(hz4.block _ (Array.getElem?_eq_some_iff.1 k0h.out).1).trans k0h.out⟩,(hb4.block _ (Array.getElem?_eq_some_iff.1 f2).1).trans f2,hv4h.out,f3.below hb4 (Nat.le_refl _)⟩
 refine ly_r5 _ (fun _ _ _ _ _ h => h) _ _ w w.heap.size g9 a iR L iS pl lo a1 a2 c1 c2 w4 (hS4.below (below_drew w4)) (hBh.out.trans (hz4.mono hBh.out.size)).drew (by have := hk.out.2.2.2; omega) (hcall.out w.heap.size g9 a1 a2 c1 c2) ?_
 intro a3 c3 w5 hz5 hS5 hp5
 have hF5 : Hid (Below w.heap.size w w5 ∧ L5S w.heap.size g9 a iR L iS (.slice a1 L.length c1) (.slice a2 iS.length c2) w5 ∧ PcsAt w5 (.slice a3 pl.length c3) pl) := ⟨hz5,hS5,hp5⟩
 clear hz5 hS5 hp5 hS4 hz4 hb4 f1 f2 f3 hcall hb4h hv4h hF3 k0h hBh
 have hmk := hmkh.out
 unfold frp11
 go_wp2_with fail
 obtain ⟨z5,s5,p5⟩ := hF5.out
 refine ly_rest _ w w5 _ w.heap.size g9 a L iS iR pl lo a1 a2 a3 c1 c2 c3 hk.out.1 hk.out.2.1 hk.out.2.2.1 hpsh.out z5 s5.pb s5.s9 s5.hl s5.hs p5 ((Below.refl w5.heap.size w5).alloc (Nat.le_refl _) _) (hrep.out w5) ?_
 exact fun W h1 h2 => hend.out W _ h1 h2
end Go.Proofs.YtfiekhephkpdjaaGreatDoor

namespace Go.Proofs.YtfiekhephkpdjaaGreatDoor
open Go.RowKit Go.Shelf
set_option maxRecDepth 100000
set_option maxHeartbeats 1000000

structure MX (b : Nat) (m : Ms) (W : World) : Prop where
 row : W.heap[b]? = some (.cells (msC m) 85 (0,0))
theorem MX.lt {W : World} {b : Nat} {m : Ms} (h : MX b m W) : b < W.heap.size := (Array.getElem?_eq_some_iff.1 h.row).1
theorem MX.c0 {W : World} {b : Nat} {m : Ms} (h : MX b m W) : W.cell? ⟨b,0,none⟩ = some (.int .i64 m.f) := by rw [Lib.cell_of_heap h.row]; rfl
theorem MX.c1 {W : World} {b : Nat} {m : Ms} (h : MX b m W) : W.cell? ⟨b,1,none⟩ = some (.int .i64 m.t) := by rw [Lib.cell_of_heap h.row]; rfl
theorem MX.c3 {W : World} {b : Nat} {m : Ms} (h : MX b m W) : W.cell? ⟨b,3,none⟩ = some (.int .i64 m.s) := by rw [Lib.cell_of_heap h.row]; rfl
theorem MX.turns {X : Nat → Prop} {W W' : World} {b : Nat} {m : Ms} (h : MX b m W) (ht : Turns X W W') (hn : ¬ X b) : MX b m W' := ⟨(ht.block b h.lt hn).trans h.row⟩
def fr72 (v0 v1 v2 v3 v4 v5 v6 v7 v8 v9 xa xb xc xd xe xf xg xh xi xj xk xl xm xn xo xp xq xr xt xu xv xw xx xy xz xA xB xC xD : Value) : Act := { tmps := #[v0,v1,v2,v3,v4,v5,v6,v7,v8,v9,xa,xb,xc,xd,xe,xf,xg,xh,xi,xj,xk,xl,xm,xn,xo,xp,xq,xr,xt,xu,xv,xw,xx,xy,xz,xA,xB,xC,xD],defers := [] }
def ops72_7_0 (ps : String) : Oper := ⟨some 30,.fieldAddr 85 (.tmp 1) 0,0,ps,#[],none⟩
def ops72_7_1 (ps : String) : Oper := ⟨some 31,.load 3 (.tmp 30),3,ps,#[⟨0,.data⟩],none⟩
def ops72_7_2 (ps : String) : Oper := ⟨some 32,.fieldAddr 85 (.tmp 1) 1,0,ps,#[],none⟩
def ops72_7_3 (ps : String) : Oper := ⟨some 33,.load 3 (.tmp 32),3,ps,#[⟨2,.data⟩],none⟩
def ops72_7_4 (ps : String) : Oper := ⟨some 34,.fieldAddr 85 (.tmp 1) 3,0,ps,#[],none⟩
def ops72_7_5 (ps : String) : Oper := ⟨some 35,.load 3 (.tmp 34),3,ps,#[⟨4,.data⟩],none⟩
def ops72_7_6 (ps : String) : Oper := ⟨some 36,.call ⟨.value (.func 95),#[.tmp 35],#[3]⟩,3,ps,#[⟨5,.data⟩],none⟩
def ops72_7_7 (ps : String) : Oper := ⟨some 37,.build 68 #[(0,.const (.int .i64 3)),(1,.tmp 31),(2,.tmp 33),(3,.tmp 36),(6,.const (.int .i64 50)),(7,.const (.bool true))],68,ps,#[⟨1,.data⟩,⟨3,.data⟩,⟨6,.data⟩],none⟩
def ops72_7_8 (ps : String) : Oper := ⟨none,.store 68 (.tmp 2) (.tmp 37),0,ps,#[⟨7,.data⟩,⟨6,.chain⟩,⟨0,.phase⟩,⟨1,.phase⟩,⟨2,.phase⟩,⟨3,.phase⟩,⟨4,.phase⟩,⟨5,.phase⟩,⟨6,.phase⟩,⟨7,.phase⟩],none⟩
def ops72_7_9 (ps : String) : Oper := ⟨some 3,.assign (.const (.bool true)),4,ps,#[⟨8,.chain⟩,⟨0,.phase⟩,⟨1,.phase⟩,⟨2,.phase⟩,⟨3,.phase⟩,⟨4,.phase⟩,⟨5,.phase⟩,⟨6,.phase⟩,⟨7,.phase⟩,⟨8,.phase⟩],none⟩
def ops72_7 (ps : String) : Array Oper := #[ops72_7_0 ps,ops72_7_1 ps,ops72_7_2 ps,ops72_7_3 ps,ops72_7_4 ps,ops72_7_5 ps,ops72_7_6 ps,ops72_7_7 ps,ops72_7_8 ps,ops72_7_9 ps]

theorem al_r7 (Q : Exit → Act → World → Prop) (hQ : ∀ c x (n : Nat) v w,Q (.panic c) (x.put (some n) v) w → Q (.panic c) x w) (id : Nat) (ps : String) {v0 v3 v4 v5 v6 v7 v8 v9 xa xb xc xd xe xf xg xh xi xj xk xl xm xn xo xp xq xr xt xu xv xw xx xy xz xA xB xC xD : Value} (M D : Nat) (m : Ms) (x0 : It) (w : World) (hS : MX M m (World.drew w))
  (hI : IX (World.drew w) D x0) (hne : M ≠ D)
  (hq : Q .normal (fr72 v0 (.pointer (some ⟨M,0,none⟩)) (.pointer (some ⟨D,0,none⟩)) (.bool true) v4 v5 v6 v7 v8 v9 xa xb xc xd xe xf xg xh xi xj xk xl xm xn xo xp xq xr xt xu (.pointer (some ⟨M,0,none⟩)) (.int .i64 m.f) (.pointer (some ⟨M,1,none⟩)) (.int .i64 m.t) (.pointer (some ⟨M,3,none⟩)) (.int .i64 m.s) (.int .i64 (hyW m.s)) (.agg (itC ⟨3,m.f,m.t,hyW m.s,0,0,50,true⟩)) xD) ((World.drew w).setRow D (itC ⟨3,m.f,m.t,hyW m.s,0,0,50,true⟩))) :
  (Code.region id (ops72_7 ps) true).wp Tryz.prog Q (fr72 v0 (.pointer (some ⟨M,0,none⟩)) (.pointer (some ⟨D,0,none⟩)) v3 v4 v5 v6 v7 v8 v9 xa xb xc xd xe xf xg xh xi xj xk xl xm xn xo xp xq xr xt xu xv xw xx xy xz xA xB xC xD) w := by
 refine wp_region_held (S := MX M m) (by kernel_rfl) ?_
 change wpAnyH _ _ _ _ _ 10 _ _ (World.drew w)
 refine take_r 0 ⟨some 30,.fieldAddr 85 (.tmp 1) 0,0,ps,#[],none⟩ (.pointer (some ⟨M,0,none⟩)) hQ (fun w hS => by unfold fr72; go_simp) hS ?_
 refine take_k 1 (ops72_7_1 ps) (.int .i64 m.f) (fr72 v0 (.pointer (some ⟨M,0,none⟩)) (.pointer (some ⟨D,0,none⟩)) v3 v4 v5 v6 v7 v8 v9 xa xb xc xd xe xf xg xh xi xj xk xl xm xn xo xp xq xr xt xu (.pointer (some ⟨M,0,none⟩)) (.int .i64 m.f) xx xy xz xA xB xC xD) hQ (fun w hS => by have e := hS.c0; unfold fr72 ops72_7_1; go_simp) hS ?_
 refine take_r 2 ⟨some 32,.fieldAddr 85 (.tmp 1) 1,0,ps,#[],none⟩ (.pointer (some ⟨M,1,none⟩)) hQ (fun w hS => by unfold fr72; go_simp) hS ?_
 refine take_k 3 (ops72_7_3 ps) (.int .i64 m.t) (fr72 v0 (.pointer (some ⟨M,0,none⟩)) (.pointer (some ⟨D,0,none⟩)) v3 v4 v5 v6 v7 v8 v9 xa xb xc xd xe xf xg xh xi xj xk xl xm xn xo xp xq xr xt xu (.pointer (some ⟨M,0,none⟩)) (.int .i64 m.f) (.pointer (some ⟨M,1,none⟩)) (.int .i64 m.t) xz xA xB xC xD) hQ (fun w hS => by have e := hS.c1; unfold fr72 ops72_7_3; go_simp) hS ?_
 refine take_r 4 ⟨some 34,.fieldAddr 85 (.tmp 1) 3,0,ps,#[],none⟩ (.pointer (some ⟨M,3,none⟩)) hQ (fun w hS => by unfold fr72; go_simp) hS ?_
 refine take_k 5 (ops72_7_5 ps) (.int .i64 m.s) (fr72 v0 (.pointer (some ⟨M,0,none⟩)) (.pointer (some ⟨D,0,none⟩)) v3 v4 v5 v6 v7 v8 v9 xa xb xc xd xe xf xg xh xi xj xk xl xm xn xo xp xq xr xt xu (.pointer (some ⟨M,0,none⟩)) (.int .i64 m.f) (.pointer (some ⟨M,1,none⟩)) (.int .i64 m.t) (.pointer (some ⟨M,3,none⟩)) (.int .i64 m.s) xB xC xD) hQ (fun w hS => by have e := hS.c3; unfold fr72 ops72_7_5; go_simp) hS ?_
 refine want_k 6 (ops72_7_6 ps) fun K hK => ?_
 unfold fr72 ops72_7_6
 go_simp
 refine (hyphenWidth_any m.s _).mono ?_
 rintro e w' ⟨rfl,hww⟩
 subst w'
 refine hK _ _ hS (cast_h (fr72 v0 (.pointer (some ⟨M,0,none⟩)) (.pointer (some ⟨D,0,none⟩)) v3 v4 v5 v6 v7 v8 v9 xa xb xc xd xe xf xg xh xi xj xk xl xm xn xo xp xq xr xt xu (.pointer (some ⟨M,0,none⟩)) (.int .i64 m.f) (.pointer (some ⟨M,1,none⟩)) (.int .i64 m.t) (.pointer (some ⟨M,3,none⟩)) (.int .i64 m.s) (.int .i64 (hyW m.s)) xC xD) (by kernel_rfl) ?_)
 clear hK K
 refine take_r 7 ⟨some 37,.build 68 #[(0,.const (.int .i64 3)),(1,.tmp 31),(2,.tmp 33),(3,.tmp 36),(6,.const (.int .i64 50)),(7,.const (.bool true))],68,ps,#[⟨1,.data⟩,⟨3,.data⟩,⟨6,.data⟩],none⟩ (.agg (itC ⟨3,m.f,m.t,hyW m.s,0,0,50,true⟩)) hQ (fun w hS => by unfold fr72; go_simp; try rfl) hS ?_
 refine want_k 8 (ops72_7_8 ps) fun K hK => ?_
 refine wp_store_row 68 _ _ (by unfold ops72_7_8; rfl) D (itC ⟨3,m.f,m.t,hyW m.s,0,0,50,true⟩) rfl rfl 68 _ hI.row (info51 _) rfl (itC_one _) ?_
 have hS2 : MX M m ((World.drew w).setRow D (itC ⟨3,m.f,m.t,hyW m.s,0,0,50,true⟩)) := hS.turns (Turns.setRow (X := fun b => b = D) _ (r := D) rfl _) hne
 refine hK _ _ hS2 (cast_h (fr72 v0 (.pointer (some ⟨M,0,none⟩)) (.pointer (some ⟨D,0,none⟩)) v3 v4 v5 v6 v7 v8 v9 xa xb xc xd xe xf xg xh xi xj xk xl xm xn xo xp xq xr xt xu (.pointer (some ⟨M,0,none⟩)) (.int .i64 m.f) (.pointer (some ⟨M,1,none⟩)) (.int .i64 m.t) (.pointer (some ⟨M,3,none⟩)) (.int .i64 m.s) (.int .i64 (hyW m.s)) (.agg (itC ⟨3,m.f,m.t,hyW m.s,0,0,50,true⟩)) xD) (by kernel_rfl) ?_)
 clear hK K
 refine take_r 9 ⟨some 3,.assign (.const (.bool true)),4,ps,#[⟨8,.chain⟩,⟨0,.phase⟩,⟨1,.phase⟩,⟨2,.phase⟩,⟨3,.phase⟩,⟨4,.phase⟩,⟨5,.phase⟩,⟨6,.phase⟩,⟨7,.phase⟩,⟨8,.phase⟩],none⟩ (.bool true) hQ (fun w _ => by kernel_rfl) hS2 ?_
 exact wpAnyH_done (by kernel_rfl) hq _
def fr73 (v0 v1 v2 v3 v4 v5 v6 v7 v8 v9 xa xb xc xd xe xf xg xh xi xj xk xl xm xn xo xp xq xr xt xu xv xw xx xy xz xA : Value) : Act := { tmps := #[v0,v1,v2,v3,v4,v5,v6,v7,v8,v9,xa,xb,xc,xd,xe,xf,xg,xh,xi,xj,xk,xl,xm,xn,xo,xp,xq,xr,xt,xu,xv,xw,xx,xy,xz,xA],defers := [] }
def ops73_3_0 (ps : String) : Oper := ⟨some 18,.fieldAddr 85 (.tmp 6) 0,0,ps,#[],none⟩
def ops73_3_1 (ps : String) : Oper := ⟨some 19,.load 3 (.tmp 18),3,ps,#[⟨0,.data⟩],none⟩
def ops73_3_2 (ps : String) : Oper := ⟨some 20,.fieldAddr 85 (.tmp 6) 0,0,ps,#[],none⟩
def ops73_3_3 (ps : String) : Oper := ⟨some 21,.load 3 (.tmp 20),3,ps,#[⟨2,.data⟩],none⟩
def ops73_3_4 (ps : String) : Oper := ⟨some 22,.fieldAddr 85 (.tmp 6) 3,0,ps,#[],none⟩
def ops73_3_5 (ps : String) : Oper := ⟨some 23,.load 3 (.tmp 22),3,ps,#[⟨4,.data⟩],none⟩
def ops73_3_6 (ps : String) : Oper := ⟨some 24,.call ⟨.value (.func 95),#[.tmp 23],#[3]⟩,3,ps,#[⟨5,.data⟩],none⟩
def ops73_3_7 (ps : String) : Oper := ⟨some 25,.build 68 #[(0,.const (.int .i64 3)),(1,.tmp 19),(2,.tmp 21),(3,.tmp 24),(6,.const (.int .i64 100)),(7,.const (.bool true))],68,ps,#[⟨1,.data⟩,⟨3,.data⟩,⟨6,.data⟩],none⟩
def ops73_3_8 (ps : String) : Oper := ⟨none,.store 68 (.tmp 4) (.tmp 25),0,ps,#[⟨7,.data⟩,⟨6,.chain⟩,⟨0,.phase⟩,⟨1,.phase⟩,⟨2,.phase⟩,⟨3,.phase⟩,⟨4,.phase⟩,⟨5,.phase⟩,⟨6,.phase⟩,⟨7,.phase⟩],none⟩
def ops73_3_9 (ps : String) : Oper := ⟨some 5,.assign (.const (.bool true)),4,ps,#[⟨8,.chain⟩,⟨0,.phase⟩,⟨1,.phase⟩,⟨2,.phase⟩,⟨3,.phase⟩,⟨4,.phase⟩,⟨5,.phase⟩,⟨6,.phase⟩,⟨7,.phase⟩,⟨8,.phase⟩],none⟩
def ops73_3 (ps : String) : Array Oper := #[ops73_3_0 ps,ops73_3_1 ps,ops73_3_2 ps,ops73_3_3 ps,ops73_3_4 ps,ops73_3_5 ps,ops73_3_6 ps,ops73_3_7 ps,ops73_3_8 ps,ops73_3_9 ps]

theorem cu_r3 (Q : Exit → Act → World → Prop) (hQ : ∀ c x (n : Nat) v w,Q (.panic c) (x.put (some n) v) w → Q (.panic c) x w) (id : Nat) (ps : String) {v0 v1 v2 v3 v5 v7 v8 v9 xa xb xc xd xe xf xg xh xi xj xk xl xm xn xo xp xq xr xt xu xv xw xx xy xz xA : Value} (M D : Nat) (m : Ms) (x0 : It) (w : World) (hS : MX M m (World.drew w))
  (hI : IX (World.drew w) D x0) (hne : M ≠ D)
  (hq : Q .normal (fr73 v0 v1 v2 v3 (.pointer (some ⟨D,0,none⟩)) (.bool true) (.pointer (some ⟨M,0,none⟩)) v7 v8 v9 xa xb xc xd xe xf xg xh (.pointer (some ⟨M,0,none⟩)) (.int .i64 m.f) (.pointer (some ⟨M,0,none⟩)) (.int .i64 m.f) (.pointer (some ⟨M,3,none⟩)) (.int .i64 m.s) (.int .i64 (hyW m.s)) (.agg (itC ⟨3,m.f,m.f,hyW m.s,0,0,100,true⟩)) xq xr xt xu xv xw xx xy xz xA) ((World.drew w).setRow D (itC ⟨3,m.f,m.f,hyW m.s,0,0,100,true⟩))) :
  (Code.region id (ops73_3 ps) true).wp Tryz.prog Q (fr73 v0 v1 v2 v3 (.pointer (some ⟨D,0,none⟩)) v5 (.pointer (some ⟨M,0,none⟩)) v7 v8 v9 xa xb xc xd xe xf xg xh xi xj xk xl xm xn xo xp xq xr xt xu xv xw xx xy xz xA) w := by
 refine wp_region_held (S := MX M m) (by kernel_rfl) ?_
 change wpAnyH _ _ _ _ _ 10 _ _ (World.drew w)
 refine take_r 0 ⟨some 18,.fieldAddr 85 (.tmp 6) 0,0,ps,#[],none⟩ (.pointer (some ⟨M,0,none⟩)) hQ (fun w hS => by unfold fr73; go_simp) hS ?_
 refine take_k 1 (ops73_3_1 ps) (.int .i64 m.f) (fr73 v0 v1 v2 v3 (.pointer (some ⟨D,0,none⟩)) v5 (.pointer (some ⟨M,0,none⟩)) v7 v8 v9 xa xb xc xd xe xf xg xh (.pointer (some ⟨M,0,none⟩)) (.int .i64 m.f) xk xl xm xn xo xp xq xr xt xu xv xw xx xy xz xA) hQ (fun w hS => by have e := hS.c0; unfold fr73 ops73_3_1; go_simp) hS ?_
 refine take_r 2 ⟨some 20,.fieldAddr 85 (.tmp 6) 0,0,ps,#[],none⟩ (.pointer (some ⟨M,0,none⟩)) hQ (fun w hS => by unfold fr73; go_simp) hS ?_
 refine take_k 3 (ops73_3_3 ps) (.int .i64 m.f) (fr73 v0 v1 v2 v3 (.pointer (some ⟨D,0,none⟩)) v5 (.pointer (some ⟨M,0,none⟩)) v7 v8 v9 xa xb xc xd xe xf xg xh (.pointer (some ⟨M,0,none⟩)) (.int .i64 m.f) (.pointer (some ⟨M,0,none⟩)) (.int .i64 m.f) xm xn xo xp xq xr xt xu xv xw xx xy xz xA) hQ (fun w hS => by have e := hS.c0; unfold fr73 ops73_3_3; go_simp) hS ?_
 refine take_r 4 ⟨some 22,.fieldAddr 85 (.tmp 6) 3,0,ps,#[],none⟩ (.pointer (some ⟨M,3,none⟩)) hQ (fun w hS => by unfold fr73; go_simp) hS ?_
 refine take_k 5 (ops73_3_5 ps) (.int .i64 m.s) (fr73 v0 v1 v2 v3 (.pointer (some ⟨D,0,none⟩)) v5 (.pointer (some ⟨M,0,none⟩)) v7 v8 v9 xa xb xc xd xe xf xg xh (.pointer (some ⟨M,0,none⟩)) (.int .i64 m.f) (.pointer (some ⟨M,0,none⟩)) (.int .i64 m.f) (.pointer (some ⟨M,3,none⟩)) (.int .i64 m.s) xo xp xq xr xt xu xv xw xx xy xz xA) hQ (fun w hS => by have e := hS.c3; unfold fr73 ops73_3_5; go_simp) hS ?_
 refine want_k 6 (ops73_3_6 ps) fun K hK => ?_
 unfold fr73 ops73_3_6
 go_simp
 refine (hyphenWidth_any m.s _).mono ?_
 rintro e w' ⟨rfl,hww⟩
 subst w'
 refine hK _ _ hS (cast_h (fr73 v0 v1 v2 v3 (.pointer (some ⟨D,0,none⟩)) v5 (.pointer (some ⟨M,0,none⟩)) v7 v8 v9 xa xb xc xd xe xf xg xh (.pointer (some ⟨M,0,none⟩)) (.int .i64 m.f) (.pointer (some ⟨M,0,none⟩)) (.int .i64 m.f) (.pointer (some ⟨M,3,none⟩)) (.int .i64 m.s) (.int .i64 (hyW m.s)) xp xq xr xt xu xv xw xx xy xz xA) (by kernel_rfl) ?_)
 clear hK K
 refine take_r 7 ⟨some 25,.build 68 #[(0,.const (.int .i64 3)),(1,.tmp 19),(2,.tmp 21),(3,.tmp 24),(6,.const (.int .i64 100)),(7,.const (.bool true))],68,ps,#[⟨1,.data⟩,⟨3,.data⟩,⟨6,.data⟩],none⟩ (.agg (itC ⟨3,m.f,m.f,hyW m.s,0,0,100,true⟩)) hQ (fun w hS => by unfold fr73; go_simp; try rfl) hS ?_
 refine want_k 8 (ops73_3_8 ps) fun K hK => ?_
 refine wp_store_row 68 _ _ (by unfold ops73_3_8; rfl) D (itC ⟨3,m.f,m.f,hyW m.s,0,0,100,true⟩) rfl rfl 68 _ hI.row (info51 _) rfl (itC_one _) ?_
 have hS2 : MX M m ((World.drew w).setRow D (itC ⟨3,m.f,m.f,hyW m.s,0,0,100,true⟩)) := hS.turns (Turns.setRow (X := fun b => b = D) _ (r := D) rfl _) hne
 refine hK _ _ hS2 (cast_h (fr73 v0 v1 v2 v3 (.pointer (some ⟨D,0,none⟩)) v5 (.pointer (some ⟨M,0,none⟩)) v7 v8 v9 xa xb xc xd xe xf xg xh (.pointer (some ⟨M,0,none⟩)) (.int .i64 m.f) (.pointer (some ⟨M,0,none⟩)) (.int .i64 m.f) (.pointer (some ⟨M,3,none⟩)) (.int .i64 m.s) (.int .i64 (hyW m.s)) (.agg (itC ⟨3,m.f,m.f,hyW m.s,0,0,100,true⟩)) xq xr xt xu xv xw xx xy xz xA) (by kernel_rfl) ?_)
 clear hK K
 refine take_r 9 ⟨some 5,.assign (.const (.bool true)),4,ps,#[⟨8,.chain⟩,⟨0,.phase⟩,⟨1,.phase⟩,⟨2,.phase⟩,⟨3,.phase⟩,⟨4,.phase⟩,⟨5,.phase⟩,⟨6,.phase⟩,⟨7,.phase⟩,⟨8,.phase⟩],none⟩ (.bool true) hQ (fun w _ => by kernel_rfl) hS2 ?_
 exact wpAnyH_done (by kernel_rfl) hq _
structure BX (g o n : Nat) (f t : Int) (W : World) : Prop where
 lt : g < W.heap.size
 c0 : W.cell? ⟨g,o,none⟩ = some (.int .i64 f)
 c1 : W.cell? ⟨g,o + (n - 1) * 6 + 1,none⟩ = some (.int .i64 t)
theorem BX.turns {X : Nat → Prop} {W W' : World} {g o n : Nat} {f t : Int} (h : BX g o n f t W) (ht : Turns X W W') (hn : ¬ X g) : BX g o n f t W' :=
 ⟨Nat.lt_of_lt_of_le h.lt ht.size,by rw [World.cell?_of_block (ht.block g h.lt hn)]; exact h.c0,by rw [World.cell?_of_block (ht.block g h.lt hn)]; exact h.c1⟩
def fr71 (v0 v1 v2 v3 v4 v5 v6 v7 v8 v9 xa xb xc xd xe xf xg xh xi xj xk xl xm xn xo : Value) : Act := { tmps := #[v0,v1,v2,v3,v4,v5,v6,v7,v8,v9,xa,xb,xc,xd,xe,xf,xg,xh,xi,xj,xk,xl,xm,xn,xo],defers := [] }
def ops71_2_0 (ps : String) : Oper := ⟨some 12,.move (.tmp 0),81,ps,#[],none⟩
def ops71_2_1 (ps : String) : Oper := ⟨some 13,.indexAddr 81 (.tmp 12) (.const (.int .i64 0)),0,ps,#[⟨0,.data⟩],none⟩
def ops71_2_2 (ps : String) : Oper := ⟨some 14,.fieldAddr 85 (.tmp 13) 0,0,ps,#[⟨1,.data⟩],none⟩
def ops71_2_3 (ps : String) : Oper := ⟨some 15,.load 3 (.tmp 14),3,ps,#[⟨2,.data⟩],none⟩
def ops71_2_4 (ps : String) : Oper := ⟨some 16,.move (.tmp 0),81,ps,#[],none⟩
def ops71_2_5 (ps : String) : Oper := ⟨some 17,.move (.tmp 0),81,ps,#[],none⟩
def ops71_2_6 (ps : String) : Oper := ⟨some 18,.call ⟨.builtin .len,#[.tmp 17],#[81]⟩,3,ps,#[⟨5,.data⟩],none⟩
def ops71_2_7 (ps : String) : Oper := ⟨some 19,.binOp .sub 3 (.tmp 18) (.const (.int .i64 1)) 3,3,ps,#[⟨6,.data⟩],none⟩
def ops71_2_8 (ps : String) : Oper := ⟨some 20,.indexAddr 81 (.tmp 16) (.tmp 19),0,ps,#[⟨4,.data⟩,⟨7,.data⟩],none⟩
def ops71_2_9 (ps : String) : Oper := ⟨some 21,.fieldAddr 85 (.tmp 20) 1,0,ps,#[⟨8,.data⟩],none⟩
def ops71_2_10 (ps : String) : Oper := ⟨some 22,.load 3 (.tmp 21),3,ps,#[⟨9,.data⟩],none⟩
def ops71_2_11 (ps : String) : Oper := ⟨some 23,.move (.tmp 3),3,ps,#[],none⟩
def ops71_2_12 (ps : String) : Oper := ⟨some 24,.build 68 #[(0,.const (.int .i64 1)),(1,.tmp 15),(2,.tmp 22),(3,.tmp 23)],68,ps,#[⟨3,.data⟩,⟨10,.data⟩,⟨11,.data⟩],none⟩
def ops71_2_13 (ps : String) : Oper := ⟨none,.store 68 (.tmp 2) (.tmp 24),0,ps,#[⟨12,.data⟩,⟨0,.phase⟩,⟨1,.phase⟩,⟨2,.phase⟩,⟨3,.phase⟩,⟨4,.phase⟩,⟨5,.phase⟩,⟨6,.phase⟩,⟨7,.phase⟩,⟨8,.phase⟩,⟨9,.phase⟩,⟨10,.phase⟩,⟨11,.phase⟩,⟨12,.phase⟩],none⟩
def ops71_2 (ps : String) : Array Oper := #[ops71_2_0 ps,ops71_2_1 ps,ops71_2_2 ps,ops71_2_3 ps,ops71_2_4 ps,ops71_2_5 ps,ops71_2_6 ps,ops71_2_7 ps,ops71_2_8 ps,ops71_2_9 ps,ops71_2_10 ps,ops71_2_11 ps,ops71_2_12 ps,ops71_2_13 ps]

theorem bo_r2 (Q : Exit → Act → World → Prop) (hQ : ∀ c x (n : Nat) v w,Q (.panic c) (x.put (some n) v) w → Q (.panic c) x w) (id : Nat) (ps : String) {v1 v4 v5 v6 v7 v8 v9 xa xb xc xd xe xf xg xh xi xj xk xl xm xn xo : Value} (g o n cap D : Nat) (f t wv : Int) (x0 : It) (w : World) (hS : BX g o n f t (World.drew w))
  (hI : IX (World.drew w) D x0) (hne : g ≠ D) (h1 : (1 : Int) ≤ n) (h2 : (n : Int) ≤ 4096)
  (hq : Q .normal (fr71 (.slice (some ⟨g,o,none⟩) n cap) v1 (.pointer (some ⟨D,0,none⟩)) (.int .i64 wv) v4 v5 v6 v7 v8 v9 xa xb (.slice (some ⟨g,o,none⟩) n cap) (.pointer (some ⟨g,o,none⟩)) (.pointer (some ⟨g,o,none⟩)) (.int .i64 f) (.slice (some ⟨g,o,none⟩) n cap) (.slice (some ⟨g,o,none⟩) n cap) (.int .i64 (n : Nat)) (.int .i64 ((n : Int) - 1)) (.pointer (some ⟨g,o + (n - 1) * 6,none⟩)) (.pointer (some ⟨g,o + (n - 1) * 6 + 1,none⟩)) (.int .i64 t) (.int .i64 wv) (.agg (itC ⟨1,f,t,wv,0,0,0,false⟩))) ((World.drew w).setRow D (itC ⟨1,f,t,wv,0,0,0,false⟩))) :
  (Code.region id (ops71_2 ps) true).wp Tryz.prog Q (fr71 (.slice (some ⟨g,o,none⟩) n cap) v1 (.pointer (some ⟨D,0,none⟩)) (.int .i64 wv) v4 v5 v6 v7 v8 v9 xa xb xc xd xe xf xg xh xi xj xk xl xm xn xo) w := by
 refine wp_region_held (S := BX g o n f t) (by kernel_rfl) ?_
 change wpAnyH _ _ _ _ _ 14 _ _ (World.drew w)
 refine take_r 0 ⟨some 12,.move (.tmp 0),81,ps,#[],none⟩ (.slice (some ⟨g,o,none⟩) n cap) hQ (fun w _ => by kernel_rfl) hS ?_
 refine take_k 1 (ops71_2_1 ps) (.pointer (some ⟨g,o,none⟩)) (fr71 (.slice (some ⟨g,o,none⟩) n cap) v1 (.pointer (some ⟨D,0,none⟩)) (.int .i64 wv) v4 v5 v6 v7 v8 v9 xa xb (.slice (some ⟨g,o,none⟩) n cap) (.pointer (some ⟨g,o,none⟩)) xe xf xg xh xi xj xk xl xm xn xo) hQ (fun w hS => by unfold fr71 ops71_2_1; go_simp; try (first | omega | (simp; omega))) hS ?_
 refine take_r 2 ⟨some 14,.fieldAddr 85 (.tmp 13) 0,0,ps,#[⟨1,.data⟩],none⟩ (.pointer (some ⟨g,o,none⟩)) hQ (fun w hS => by unfold fr71; go_simp) hS ?_
 refine take_k 3 (ops71_2_3 ps) (.int .i64 f) (fr71 (.slice (some ⟨g,o,none⟩) n cap) v1 (.pointer (some ⟨D,0,none⟩)) (.int .i64 wv) v4 v5 v6 v7 v8 v9 xa xb (.slice (some ⟨g,o,none⟩) n cap) (.pointer (some ⟨g,o,none⟩)) (.pointer (some ⟨g,o,none⟩)) (.int .i64 f) xg xh xi xj xk xl xm xn xo) hQ (fun w hS => by have e := hS.c0; unfold fr71 ops71_2_3; go_simp) hS ?_
 refine pures_h (fuel := 8) (by kernel_rfl) hQ hS [4,5] (fr71 (.slice (some ⟨g,o,none⟩) n cap) v1 (.pointer (some ⟨D,0,none⟩)) (.int .i64 wv) v4 v5 v6 v7 v8 v9 xa xb (.slice (some ⟨g,o,none⟩) n cap) (.pointer (some ⟨g,o,none⟩)) (.pointer (some ⟨g,o,none⟩)) (.int .i64 f) (.slice (some ⟨g,o,none⟩) n cap) (.slice (some ⟨g,o,none⟩) n cap) xi xj xk xl xm xn xo) (by kernel_rfl) (by kernel_rfl) ?_
 refine take_r 6 ⟨some 18,.call ⟨.builtin .len,#[.tmp 17],#[81]⟩,3,ps,#[⟨5,.data⟩],none⟩ (.int .i64 (n : Nat)) hQ (fun w hS => by unfold fr71; go_simp) hS ?_
 refine take_k 7 (ops71_2_7 ps) (.int .i64 ((n : Int) - 1)) (fr71 (.slice (some ⟨g,o,none⟩) n cap) v1 (.pointer (some ⟨D,0,none⟩)) (.int .i64 wv) v4 v5 v6 v7 v8 v9 xa xb (.slice (some ⟨g,o,none⟩) n cap) (.pointer (some ⟨g,o,none⟩)) (.pointer (some ⟨g,o,none⟩)) (.int .i64 f) (.slice (some ⟨g,o,none⟩) n cap) (.slice (some ⟨g,o,none⟩) n cap) (.int .i64 (n : Nat)) (.int .i64 ((n : Int) - 1)) xk xl xm xn xo) hQ (fun w hS => by unfold fr71 ops71_2_7; go_simp; exact wrap_ok (by omega) (by omega)) hS ?_
 refine take_r 8 ⟨some 20,.indexAddr 81 (.tmp 16) (.tmp 19),0,ps,#[⟨4,.data⟩,⟨7,.data⟩],none⟩ (.pointer (some ⟨g,o + (n - 1) * 6,none⟩)) hQ (fun w hS => by unfold fr71; go_simp; try (first | omega | (simp; omega))) hS ?_
 refine take_k 9 (ops71_2_9 ps) (.pointer (some ⟨g,o + (n - 1) * 6 + 1,none⟩)) (fr71 (.slice (some ⟨g,o,none⟩) n cap) v1 (.pointer (some ⟨D,0,none⟩)) (.int .i64 wv) v4 v5 v6 v7 v8 v9 xa xb (.slice (some ⟨g,o,none⟩) n cap) (.pointer (some ⟨g,o,none⟩)) (.pointer (some ⟨g,o,none⟩)) (.int .i64 f) (.slice (some ⟨g,o,none⟩) n cap) (.slice (some ⟨g,o,none⟩) n cap) (.int .i64 (n : Nat)) (.int .i64 ((n : Int) - 1)) (.pointer (some ⟨g,o + (n - 1) * 6,none⟩)) (.pointer (some ⟨g,o + (n - 1) * 6 + 1,none⟩)) xm xn xo) hQ (fun w hS => by unfold fr71 ops71_2_9; go_simp) hS ?_
 refine take_r 10 ⟨some 22,.load 3 (.tmp 21),3,ps,#[⟨9,.data⟩],none⟩ (.int .i64 t) hQ (fun w hS => by have e := hS.c1; unfold fr71; go_simp) hS ?_
 refine take_k 11 (ops71_2_11 ps) (.int .i64 wv) (fr71 (.slice (some ⟨g,o,none⟩) n cap) v1 (.pointer (some ⟨D,0,none⟩)) (.int .i64 wv) v4 v5 v6 v7 v8 v9 xa xb (.slice (some ⟨g,o,none⟩) n cap) (.pointer (some ⟨g,o,none⟩)) (.pointer (some ⟨g,o,none⟩)) (.int .i64 f) (.slice (some ⟨g,o,none⟩) n cap) (.slice (some ⟨g,o,none⟩) n cap) (.int .i64 (n : Nat)) (.int .i64 ((n : Int) - 1)) (.pointer (some ⟨g,o + (n - 1) * 6,none⟩)) (.pointer (some ⟨g,o + (n - 1) * 6 + 1,none⟩)) (.int .i64 t) (.int .i64 wv) xo) hQ (fun w _ => by kernel_rfl) hS ?_
 refine take_r 12 ⟨some 24,.build 68 #[(0,.const (.int .i64 1)),(1,.tmp 15),(2,.tmp 22),(3,.tmp 23)],68,ps,#[⟨3,.data⟩,⟨10,.data⟩,⟨11,.data⟩],none⟩ (.agg (itC ⟨1,f,t,wv,0,0,0,false⟩)) hQ (fun w hS => by unfold fr71; go_simp; try rfl) hS ?_
 refine want_k 13 (ops71_2_13 ps) fun K hK => ?_
 refine wp_store_row 68 _ _ (by unfold ops71_2_13; rfl) D (itC ⟨1,f,t,wv,0,0,0,false⟩) rfl rfl 68 _ hI.row (info51 _) rfl (itC_one _) ?_
 have hS2 : BX g o n f t ((World.drew w).setRow D (itC ⟨1,f,t,wv,0,0,0,false⟩)) := hS.turns (Turns.setRow (X := fun b => b = D) _ (r := D) rfl _) hne
 refine hK _ _ hS2 (cast_h (fr71 (.slice (some ⟨g,o,none⟩) n cap) v1 (.pointer (some ⟨D,0,none⟩)) (.int .i64 wv) v4 v5 v6 v7 v8 v9 xa xb (.slice (some ⟨g,o,none⟩) n cap) (.pointer (some ⟨g,o,none⟩)) (.pointer (some ⟨g,o,none⟩)) (.int .i64 f) (.slice (some ⟨g,o,none⟩) n cap) (.slice (some ⟨g,o,none⟩) n cap) (.int .i64 (n : Nat)) (.int .i64 ((n : Int) - 1)) (.pointer (some ⟨g,o + (n - 1) * 6,none⟩)) (.pointer (some ⟨g,o + (n - 1) * 6 + 1,none⟩)) (.int .i64 t) (.int .i64 wv) (.agg (itC ⟨1,f,t,wv,0,0,0,false⟩))) (by kernel_rfl) ?_)
 clear hK K
 exact wpAnyH_done (by kernel_rfl) hq _
end Go.Proofs.YtfiekhephkpdjaaGreatDoor
