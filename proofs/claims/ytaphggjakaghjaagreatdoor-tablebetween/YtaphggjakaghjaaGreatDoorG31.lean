/-
  What is proved here: what Lay of para answers of what may be laid.
  What is proved here: Items, from where it gathers what the iterator hands on.
  What is proved here: Items, from where its body is made.
  What is proved here: what Items of item answers of any paragraph.
-/
import Derived.Test.YtaphggjakaghjaaGreatDoorG30
import Derived.Test.YtaphggjakaghjaaGreatDoorG14
import Derived.Test.YtaphggjakaghjaaGreatDoorG23
namespace Go.Proofs.YtaphggjakaghjaaGreatDoor
open Go.RowKit Go.Shelf
set_option maxRecDepth 100000
set_option maxHeartbeats 8000000

theorem in_ck {a : Pa} {ss : List Sl} {r : Sl} (h : paE a ss r = 0) : ckS (inSs a ss r) (inR a ss r) = 0 := by
 obtain ⟨hck,hcs⟩ := paE_ok h
 have hq := tkP_ok hck
 have h14 := (good_of hck).p14
 have hfew := ckS_few hcs
 have hr : okS r = true := by
  have := slN_ok hcs ss.length
  rw [slN_out (Nat.le_refl _)] at this
  exact this
 have hlen : (inSs a ss r).length = inN a ss := by simp [inSs,inL']
 have hN : inN a ss ≤ 256 := by unfold inN; omega
 unfold ckS
 rw [if_neg (by omega),if_pos]
 refine ⟨tkI_ok hq hr 5,?_⟩
 rw [List.all_eq_true]
 intro x hx
 unfold inSs inL' at hx
 rw [List.mem_map] at hx
 obtain ⟨n,_,rfl⟩ := hx
 exact tkI_ok hq (slN_ok hcs n) 5
def LayEnd (a : Pa) (L : List It) (iS : List Sl) (iR : Sl) (pl : List Pc) (lo : Bool) (w : World) (e : Ending) (w' : World) : Prop := (∃ g,w.heap.size ≤ g ∧ e = .returned (.tuple #[.slice (some ⟨g,0,none⟩) pl.length pl.length,.int .i64 0]) ∧ LxsAt w' (.slice (some ⟨g,0,none⟩) pl.length pl.length) (glL (lyY a L iS iR pl lo) pl.length)) ∧ Below w.heap.size w w'
theorem lay_ok (a : Pa) (v : Value) (ss : List Sl) (r : Sl) (L : List It) (pl : List Pc) (lo : Bool) (fn : Nat) (w : World) (hA : PaAt w a) (hV : SlsAt w v ss) (hE : paE a ss r = 0) (hL : L.length ≤ 8192) (hW : ∀ x ∈ L,x.w ≤ 524288) (hck : ckL L = 0)
  (hI : ∀ W,PaAt W a → Calls Tryz.prog 105 #[.agg (paC a)] W fun e w' => (∃ v,e = .returned (.tuple #[v,.int .i64 0]) ∧ ItsAt w' v L) ∧ Below W.heap.size W w')
  (hN : pl.length ≤ 9000) (hps : ∀ k (h : k < pl.length),pl[k].a ≤ pl[k].b ∧ pl[k].b ≤ L.length ∧ (0 < k → pl[k].a < L.length))
  (hfn : chN a L = fn) (h67 : fn = 107 ∨ fn = 108) (hc : ∀ w v u,ItsAt w v L → SlsAt w u (inSs a ss r) → Calls Tryz.prog fn #[v,u,.agg (slL (inR a ss r)).toArray] w (BkEnd pl lo w)) :
  Calls Tryz.prog 60 #[paV a,v,.agg (slL r).toArray] w (LayEnd a L (inSs a ss r) (inR a ss r) pl lo w) := by
 have hB := below2 w (Obj.cells (paC a) 95) (.cells #[.int .i64 r.x,.int .i64 r.w] 98)
 have hA1 := hA.below hB (Nat.le_refl _)
 have hV1 := hV.below hB (Nat.le_refl _)
 have k0 : ((w.alloc (.cells (paC a) 95)).alloc (.cells #[.int .i64 r.x,.int .i64 r.w] 98)).heap[w.heap.size]? = some (.cells (paC a) 95 (0,0)) := (Below.heap_alloc _ _ _ (by simp)).trans (World.alloc_heap_new w _)
 have k1 : ((w.alloc (.cells (paC a) 95)).alloc (.cells #[.int .i64 r.x,.int .i64 r.w] 98)).heap[w.heap.size + 1]? = some (.cells #[.int .i64 r.x,.int .i64 r.w] 98 (0,0)) := alloc2_heap w _ _
 have hcI := in_ck hE
 have hss : ss.length ≤ 9223372036854775807 := by have := ckS_few (paE_ok hE).2; omega
 generalize hwz : (w.alloc (.cells (paC a) 95)).alloc (.cells #[.int .i64 r.x,.int .i64 r.w] 98) = wz at *
 have hin : Hid (Calls Tryz.prog 72 #[.agg (paC a),v,.agg #[.int .i64 r.x,.int .i64 r.w]] wz fun e w' => (∃ u,e = .returned (.tuple #[u,.agg (slL (inR a ss r)).toArray,.int .i64 0]) ∧ SlsAt w' u (inSs a ss r)) ∧ Below wz.heap.size wz w') := by
  refine (inner_any a v ss r hss wz hA1 hV1).mono ?_
  rintro e w' ⟨h1,⟨h2,_⟩ | ⟨_,u,rfl,hu⟩⟩
  ·exact absurd hE h2
  ·exact ⟨⟨u,rfl,hu⟩,h1⟩
 have hit : Hid (∀ W,Below wz.heap.size wz W → Calls Tryz.prog 73 #[.agg (paC a)] W (PiEnd L W)) := fun W hb => pitems_any a L W (hA1.below hb (Nat.le_refl _)) hL hW hI
 generalize inSs a ss r = iS at *
 generalize inR a ss r = iR at *
 have hcall : Hid (∀ (X Y : Nat) (a1 a2 : Option Addr) (c1 c2 : Nat),∀ (ps : String) (fr : Act) (w : World) (K : Act → World → Prop) (Q : Exit → Act → World → Prop),fr.eval (.tmp 36) = .func (.func (chN a L)) #[] #[] → fr.eval (.tmp 37) = (.slice a1 L.length c1) → fr.eval (.tmp 38) = (.slice a2 iS.length c2) → fr.eval (.tmp 39) = .agg (slL iR).toArray → (L5S X Y a iR L iS (.slice a1 L.length c1) (.slice a2 iS.length c2)) w → (∀ a3 c3 w',PcsAt w' (.slice a3 pl.length c3) pl → Below w.heap.size w w' → K (fr.put (some 40) (.tuple #[.slice a3 pl.length c3,.bool lo])) w') → (opp11_5_6 ps).wp Tryz.prog fr w K Q) := by
  intro X Y a1 a2 c1 c2
  rcases h67 with rfl | rfl
  ·exact ly_call66 X Y a iR L iS pl lo a1 a2 c1 c2 hfn (fun w h1 h2 => hc w _ _ h1 h2)
  ·exact ly_call67 X Y a iR L iS pl lo a1 a2 c1 c2 hfn (fun w h1 h2 => hc w _ _ h1 h2)
 have hend : Hid (∀ W g,w.heap.size ≤ g → Below w.heap.size w W → LxsAt W (.slice (some ⟨g,0,none⟩) pl.length pl.length) (glL (lyY a L iS iR pl lo) pl.length) → LayEnd a L iS iR pl lo w (.returned (.tuple #[.slice (some ⟨g,0,none⟩) pl.length pl.length,.int .i64 0])) W) := fun W g hg h1 h2 => ⟨⟨g,hg,rfl,h2⟩,h1⟩
 have hBh : Hid (Below w.heap.size w wz) := hB
 have hk : Hid (ckL L = 0 ∧ ckS iS iR = 0 ∧ pl.length ≤ 9000 ∧ L.length ≤ 8192) := ⟨hck,hcI,hN,hL⟩
 have hpsh : Hid (∀ k (h : k < pl.length),pl[k].a ≤ pl[k].b ∧ pl[k].b ≤ L.length ∧ (0 < k → pl[k].a < L.length)) := hps
 have hmk : ∀ W,(Instr.makeSlice 44 (.int .i64 (pl.length : Nat)) (.int .i64 (pl.length : Nat))).run Tryz.prog W = .ok (.slice (some ⟨W.heap.size,0,none⟩) pl.length pl.length) (W.alloc (.cells ((List.replicate pl.length lx0).flatMap lxL).toArray 55)) := make34 (by omega)
 have hmkh : Hid (∀ W,(Instr.makeSlice 44 (.int .i64 (pl.length : Nat)) (.int .i64 (pl.length : Nat))).run Tryz.prog W = .ok (.slice (some ⟨W.heap.size,0,none⟩) pl.length pl.length) (W.alloc (.cells ((List.replicate pl.length lx0).flatMap lxL).toArray 55))) := hmk
 have hrep : Hid (∀ W : World,RB 7 lxL (W.alloc (.cells ((List.replicate pl.length lx0).flatMap lxL).toArray 55)) W.heap.size (glK lx0 (lyY a L iS iR pl lo) pl.length 0)) := fun W => by rw [glK_zero]; exact made34 W _
 have k0h : Hid (wz.heap[w.heap.size]? = some (.cells (paC a) 95 (0,0))) := k0
 clear hA hV hE hL hW hck hI hN hps hfn h67 hc hB hA1 hV1 hcI hss hmk
 generalize LayEnd a L iS iR pl lo w = E at *
 show Calls Tryz.prog 60 #[.agg (paC a),v,.agg #[.int .i64 r.x,.int .i64 r.w]] w E
 go_enter Tryz.func60,Tryz.ntmps60
 change Code.wp Tryz.prog ((Code.region 0 #[⟨some 3,.box 95 (.tmp 0),0,"para.go:38",#[],none⟩,⟨some 5,.box 98 (.tmp 2),0,"para.go:38",#[],none⟩,⟨some 6,.assign (.const (.slice none 0 0)),44,"para.go:38",#[],none⟩,⟨some 7,.assign (.const (.int .i64 0)),28,"para.go:38",#[⟨2,.chain⟩],none⟩] false).seq ((Code.region 1 #[⟨some 21,.load 95 (.tmp 3),95,"para.go:39",#[],none⟩,⟨some 22,.move (.tmp 1),109,"para.go:39",#[],none⟩,⟨some 23,.load 98 (.tmp 5),98,"para.go:39",#[],none⟩,⟨some 24,.call ⟨.value (.func 72),#[.tmp 21,.tmp 22,.tmp 23],#[95,109,98]⟩,133,"para.go:39",#[⟨0,.data⟩,⟨1,.data⟩,⟨2,.data⟩],none⟩,⟨some 20,.move (.tmp 24),133,"para.go:39",#[⟨3,.data⟩],none⟩,⟨some 25,.extract (.tmp 20) 0,109,"para.go:39",#[⟨4,.data⟩],none⟩,⟨some 26,.extract (.tmp 20) 1,98,"para.go:39",#[⟨4,.data⟩,⟨9,.gcOnly .lateStores⟩],none⟩,⟨some 27,.extract (.tmp 20) 2,28,"para.go:39",#[⟨4,.data⟩,⟨10,.gcOnly .lateStores⟩],none⟩,⟨some 9,.alloc 98,0,"para.go:39",#[],none⟩,⟨some 8,.assign (.tmp 25),109,"para.go:39",#[⟨5,.data⟩,⟨3,.chain⟩,⟨0,.phase⟩,⟨1,.phase⟩,⟨2,.phase⟩,⟨3,.phase⟩,⟨4,.phase⟩,⟨5,.phase⟩,⟨6,.textOnly .lateStores⟩,⟨7,.textOnly .lateStores⟩,⟨8,.phase⟩],none⟩,⟨none,.store 98 (.tmp 9) (.tmp 26),0,"para.go:39",#[⟨8,.data⟩,⟨6,.data⟩,⟨9,.chain⟩,⟨0,.phase⟩,⟨1,.phase⟩,⟨2,.phase⟩,⟨3,.phase⟩,⟨4,.phase⟩,⟨5,.phase⟩,⟨6,.phase⟩,⟨7,.textOnly .lateStores⟩,⟨8,.phase⟩,⟨9,.phase⟩],none⟩,⟨some 10,.assign (.tmp 27),28,"para.go:39",#[⟨7,.data⟩,⟨10,.chain⟩,⟨0,.phase⟩,⟨1,.phase⟩,⟨2,.phase⟩,⟨3,.phase⟩,⟨4,.phase⟩,⟨5,.phase⟩,⟨6,.phase⟩,⟨7,.phase⟩,⟨8,.phase⟩,⟨9,.phase⟩,⟨10,.phase⟩],none⟩] false).seq (((Code.region 2 #[⟨some 28,.move (.tmp 10),28,"para.go:40",#[],none⟩,⟨some 29,.binOp .neq 28 (.tmp 28) (.const (.int .i64 0)) 28,4,"para.go:40",#[⟨0,.data⟩],none⟩] false).seq (Code.cond (Operand.tmp 29) ((Code.region 3 #[⟨some 30,.move (.tmp 10),28,"para.go:41",#[⟨1,.gcOnly .lateStores⟩],none⟩,⟨some 6,.assign (.const (.slice none 0 0)),44,"para.go:41",#[⟨0,.textOnly .lateStores⟩],none⟩,⟨some 7,.assign (.tmp 30),28,"para.go:41",#[⟨0,.data⟩,⟨1,.chain⟩,⟨0,.phase⟩,⟨1,.phase⟩],none⟩] false).seq Code.ret) Code.skip)).seq ((Code.region 4 #[⟨some 31,.load 95 (.tmp 3),95,"para.go:43",#[],none⟩,⟨some 32,.call ⟨.value (.func 73),#[.tmp 31],#[95]⟩,111,"para.go:43",#[⟨0,.data⟩],none⟩,⟨some 11,.assign (.tmp 32),111,"para.go:43",#[⟨1,.data⟩,⟨1,.chain⟩,⟨0,.phase⟩,⟨1,.phase⟩],none⟩] false).seq ((Code.region 5 #[⟨some 34,.load 95 (.tmp 3),95,"para.go:44",#[],none⟩,⟨some 35,.move (.tmp 11),111,"para.go:44",#[],none⟩,⟨some 36,.call ⟨.value (.func 74),#[.tmp 34,.tmp 35],#[95,111]⟩,138,"para.go:44",#[⟨0,.data⟩,⟨1,.data⟩],none⟩,⟨some 37,.move (.tmp 11),111,"para.go:44",#[],none⟩,⟨some 38,.move (.tmp 8),109,"para.go:44",#[],none⟩,⟨some 39,.load 98 (.tmp 9),98,"para.go:44",#[],none⟩,⟨some 40,.call ⟨.value (.tmp 36),#[.tmp 37,.tmp 38,.tmp 39],#[111,109,98]⟩,136,"para.go:44",#[⟨2,.data⟩,⟨3,.data⟩,⟨4,.data⟩,⟨5,.data⟩,⟨2,.chain⟩],none⟩,⟨some 33,.move (.tmp 40),136,"para.go:44",#[⟨6,.data⟩],none⟩,⟨some 41,.extract (.tmp 33) 0,116,"para.go:44",#[⟨7,.data⟩],none⟩,⟨some 42,.extract (.tmp 33) 1,4,"para.go:44",#[⟨7,.data⟩,⟨10,.gcOnly .lateStores⟩],none⟩,⟨some 12,.assign (.tmp 41),116,"para.go:44",#[⟨8,.data⟩,⟨6,.chain⟩,⟨0,.phase⟩,⟨1,.phase⟩,⟨2,.phase⟩,⟨3,.phase⟩,⟨4,.phase⟩,⟨5,.phase⟩,⟨6,.phase⟩,⟨7,.phase⟩,⟨8,.phase⟩,⟨9,.textOnly .lateStores⟩],none⟩,⟨some 13,.assign (.tmp 42),4,"para.go:44",#[⟨9,.data⟩,⟨10,.chain⟩,⟨0,.phase⟩,⟨1,.phase⟩,⟨2,.phase⟩,⟨3,.phase⟩,⟨4,.phase⟩,⟨5,.phase⟩,⟨6,.phase⟩,⟨7,.phase⟩,⟨8,.phase⟩,⟨9,.phase⟩,⟨10,.phase⟩],none⟩] true).seq ((Code.region 6 #[⟨some 43,.move (.tmp 12),116,"para.go:45",#[],none⟩,⟨some 44,.call ⟨.builtin .len,#[.tmp 43],#[116]⟩,3,"para.go:45",#[⟨0,.data⟩],none⟩,⟨some 45,.makeSlice 44 (.tmp 44) (.tmp 44),44,"para.go:45",#[⟨1,.data⟩,⟨1,.data⟩],none⟩,⟨some 14,.assign (.tmp 45),44,"para.go:45",#[⟨2,.data⟩,⟨0,.phase⟩,⟨1,.phase⟩,⟨2,.phase⟩],none⟩] false).seq ((Code.region 7 #[⟨some 15,.assign (.const (.int .i64 0)),3,"para.go:46",#[],none⟩] false).seq rest11))))))) _ _ _
 go_wp2_with (first | (refine wpList_load_row rfl 95 _ rfl w.heap.size rfl 95 _ (0,0) _ k0 Tryz.underlying95 rfl (info34 a) ?_) | (refine wpList_load_row rfl 98 _ rfl (w.heap.size + 1) rfl 98 _ (0,0) _ k1 Tryz.underlying98 rfl (info25 _ _) ?_) | (go_at_call 72; refine hin.out.mono ?_; rintro e w2 ⟨⟨u,rfl,hu⟩,hb2⟩; obtain ⟨a2,c2,rfl,-⟩ := hu.ex; have huh : Hid (SlsAt w2 (.slice a2 iS.length c2) iS) := hu; have hb2h : Hid (Below wz.heap.size wz w2) := hb2; have hz9 : (w2.alloc (.cells #[.int .i64 0,.int .i64 0] 98)).heap[w2.heap.size]? = some (.cells #[.int .i64 0,.int .i64 0] 98 (0,0)) := World.alloc_heap_new w2 _; clear hu hb2 hin k0 k1) | (refine wpList_store_row rfl 98 _ _ rfl w2.heap.size (slL iR).toArray rfl rfl 98 _ hz9 (info25t _) rfl (slt_all _) ?_; have hT9 := Turns.setRow (X := fun j => j = w2.heap.size) (w2.alloc (.cells #[.int .i64 0,.int .i64 0] 98)) rfl (slL iR).toArray; have hB9 : Below w2.heap.size w2 ((w2.alloc (.cells #[.int .i64 0,.int .i64 0] 98)).setRow w2.heap.size (slL iR).toArray) := ((Below.refl w2.heap.size w2).alloc (Nat.le_refl _) _).trans (hT9.below (by simp) (fun j hj => by omega)); have hy3 : ((w2.alloc (.cells #[.int .i64 0,.int .i64 0] 98)).setRow w2.heap.size (slL iR).toArray).heap[w2.heap.size]? = some (.cells (slL iR).toArray 98 (0,0)) := setRow_heap _ _ _ _ _ _ hz9; have hu3 := huh.out.below hB9 (Nat.le_refl _); have hB3 := hb2h.out.trans (hB9.mono hb2h.out.size); clear hT9 hB9 hz9 huh hb2h; generalize (w2.alloc (.cells #[.int .i64 0,.int .i64 0] 98)).setRow w2.heap.size (slL iR).toArray = w3 at *; generalize w2.heap.size = g9 at *; have x3 := (hB3.block _ (Array.getElem?_eq_some_iff.1 k0h.out).1).trans k0h.out; have hF3 : Hid (Below wz.heap.size wz w3 ∧ w3.heap[g9]? = some (.cells (slL iR).toArray 98 (0,0)) ∧ SlsAt w3 (.slice a2 iS.length c2) iS) := ⟨hB3,hy3,hu3⟩; clear hB3 hy3 hu3) | (refine wpList_load_row rfl 95 _ rfl w.heap.size rfl 95 _ (0,0) _ x3 Tryz.underlying95 rfl (info34 a) ?_) | (go_at_call 73; refine (hit.out w3 hF3.out.1).mono ?_; rintro e w4 ⟨⟨v4,rfl,hv4⟩,hb4⟩; obtain ⟨a1,c1,rfl,-⟩ := hv4.ex; have hv4h : Hid (ItsAt w4 (.slice a1 L.length c1) L) := hv4; have hb4h : Hid (Below w3.heap.size w3 w4) := hb4; clear hv4 hb4 x3 hit))
 obtain ⟨f1,f2,f3⟩ := hF3.out
 have hb4 := hb4h.out
 have hz4 := f1.trans (hb4.mono f1.size)
 have hS4 : L5S w.heap.size g9 a iR L iS (.slice a1 L.length c1) (.slice a2 iS.length c2) w4 := ⟨⟨(hz4.block _ (Array.getElem?_eq_some_iff.1 k0h.out).1).trans k0h.out⟩,(hb4.block _ (Array.getElem?_eq_some_iff.1 f2).1).trans f2,hv4h.out,f3.below hb4 (Nat.le_refl _)⟩
 refine ly_r5 _ (fun _ _ _ _ _ h => h) _ _ w w.heap.size g9 a iR L iS pl lo a1 a2 c1 c2 w4 (hS4.below (below_drew w4)) (hBh.out.trans (hz4.mono hBh.out.size)).drew (by have := hk.out.2.2.2; omega) (hcall.out w.heap.size g9 a1 a2 c1 c2) ?_
 intro a3 c3 w5 hz5 hS5 hp5
 have hF5 : Hid (Below w.heap.size w w5 ∧ L5S w.heap.size g9 a iR L iS (.slice a1 L.length c1) (.slice a2 iS.length c2) w5 ∧ PcsAt w5 (.slice a3 pl.length c3) pl) := ⟨hz5,hS5,hp5⟩
 clear hz5 hS5 hp5 hS4 hz4 hb4 f1 f2 f3 hcall hb4h hv4h hF3 k0h hBh
 have hmk := hmkh.out
 unfold frp11
 go_wp2_with fail
 obtain ⟨z5,s5,p5⟩ := hF5.out
 refine ly_rest _ w w5 _ w.heap.size g9 a L iS iR pl lo a1 a2 a3 c1 c2 c3 hk.out.1 hk.out.2.1 hk.out.2.2.1 hpsh.out z5 s5.pb s5.s9 s5.hl s5.hs p5 ((Below.refl w5.heap.size w5).alloc (Nat.le_refl _) _) (hrep.out w5) ?_
 exact fun W h1 h2 => hend.out W _ z5.size h1 h2
end Go.Proofs.YtaphggjakaghjaaGreatDoor

namespace Go.Proofs.YtaphggjakaghjaaGreatDoor
open Go.RowKit Go.Shelf
set_option maxRecDepth 100000
set_option maxHeartbeats 4000000
attribute [local go_sem] Oper.semAt_some wide_fn wide_depth

def rest9b : Code := (Code.region 9 #[⟨some 7,.alloc 111,0,"item.go:39",#[],none⟩] false).seq (((Code.region 10 #[⟨some 48,.load 225 (.tmp 6),225,"item.go:40",#[],none⟩,⟨some 49,.call ⟨.value (.func 146),#[.tmp 48],#[225]⟩,227,"item.go:40",#[⟨0,.data⟩],none⟩] false).seq (Code.block 0 (Code.rangeFunc (Operand.tmp 49) #[50] (Code.region 11 #[⟨some 8,.alloc 125,0,"item.go:40",#[],none⟩,⟨none,.store 125 (.tmp 8) (.tmp 50),0,"item.go:40",#[⟨0,.data⟩,⟨0,.phase⟩],none⟩] false) (Code.block 1 (Code.region 12 #[⟨some 51,.load 111 (.tmp 7),111,"item.go:41",#[],none⟩,⟨some 52,.load 125 (.tmp 8),125,"item.go:41",#[],none⟩,⟨some 53,.buildSlice 111 1 #[(0,.tmp 52)],111,"item.go:41",#[⟨1,.data⟩],none⟩,⟨some 54,.call ⟨.builtin .append,#[.tmp 51,.tmp 53],#[111,111]⟩,111,"item.go:41",#[⟨0,.data⟩,⟨2,.data⟩],none⟩,⟨none,.store 111 (.tmp 7) (.tmp 54),0,"item.go:41",#[⟨3,.data⟩,⟨3,.chain⟩,⟨0,.phase⟩,⟨1,.phase⟩,⟨2,.phase⟩,⟨3,.phase⟩],none⟩] false))))).seq ((Code.region 13 #[⟨some 55,.load 111 (.tmp 7),111,"item.go:43",#[],none⟩,⟨some 2,.assign (.tmp 55),111,"item.go:43",#[⟨0,.data⟩,⟨0,.phase⟩],none⟩,⟨some 3,.assign (.const (.int .i64 0)),28,"item.go:43",#[⟨1,.chain⟩,⟨0,.phase⟩,⟨1,.phase⟩],none⟩] false).seq Code.ret))
def rest9 : Code := ((Code.region 7 #[⟨some 42,.fieldAddr 95 (.tmp 1) 2,0,"item.go:36",#[],none⟩,⟨some 43,.fieldAddr 93 (.tmp 42) 12,0,"item.go:36",#[⟨0,.data⟩],none⟩,⟨some 44,.load 3 (.tmp 43),3,"item.go:36",#[⟨1,.data⟩],none⟩,⟨some 45,.binOp .eql 3 (.tmp 44) (.const (.int .i64 1)) 3,4,"item.go:36",#[⟨2,.data⟩],none⟩] false).seq (Code.cond (Operand.tmp 45) (Code.region 8 #[⟨some 46,.load 225 (.tmp 6),225,"item.go:37",#[],none⟩,⟨some 47,.call ⟨.value (.func 145),#[.tmp 46],#[225]⟩,0,"item.go:37",#[⟨0,.data⟩],none⟩] false) Code.skip)).seq rest9b

theorem steady_rowF {w₁ : World} {own : Nat → Prop} {B : Nat} (hB : B < w₁.heap.size) (base : Nat) (t : TypeId) (k : Nat → Nat) (xs : Nat → List Value) :
  Steady (fun i X W => Base w₁ own X W ∧ ∃ v,W.heap[B]? = some (.cells #[v] t) ∧ W.ownsRow base 125 8 v (k i) (xs i) ∧ FillI W v ∧ ∀ g,v.ownBlock = some g → ¬ X g) :=
 fun _ X X' W W' hs ht hx => by
  obtain ⟨hb,v,hv,hr,hf,hg⟩ := hs
  refine ⟨hb.step ht hx,v,(hb.keep ht hB).trans hv,ownsRow_turns hr ht hg,hf.turns ht (fun g h => ⟨(hr.lt g h).2,hg g h⟩),fun g h h' => ?_⟩
  have := (hr.lt g h).2
  exact (hx g h').elim (hg g h) (fun h => by omega)
theorem FillI.set {W : World} {v : Value} (h : FillI W v) {B : Nat} (x : Value) (hx : v.ownBlock ≠ some B) : FillI (W.setCell ⟨B,0,none⟩ x) v := fun g n cap cur e hg => by
 rw [Below.heap_setCell _ _ _ g (fun e' => hx (by rw [e,e']; rfl))] at hg
 exact h g n cap cur e hg
theorem rowI_succ (l : List It) {j : Nat} (h : j < l.length) : (l.take (j + 1)).flatMap itL = (l.take j).flatMap itL ++ itL (itAt l j) := by
 rw [List.take_add_one,List.flatMap_append,itAt_is h,List.getElem?_eq_getElem h]
 simp

theorem items_b (R : Ending → World → Prop) (b : Bod) (Bx : Nat) (w W : World) {v0 v1 v2 v3 v4 v5 v7 v8 v9 xa xb xd xe xg xi xj xl xm xn xo xp xq xr xu xv xx xz xA xB xC xD xE xF xG xH xI xJ xK xL xM xN xO xP xQ xR xS xT xU xV xW xX xY xZ ya yb : Value} (hb : Below w.heap.size w W) (hbx : W.heap[Bx]? = some (.cells (bodC b) 225 (0,0))) (hA : BodAt W b)
  (hE : ∀ W' v,W'.ownsRow w.heap.size 125 8 v (itsL b.t b.l b.pd).length ((itsL b.t b.l b.pd).flatMap itL) → FillI W' v → Below w.heap.size w W' → R (.returned (.tuple #[v,.int .i64 0])) W') :
  rest9b.wp Tryz.prog (bodyPostM Fence.wide 0 Tryz.prog Tryz.f105 R) (fr9 v0 v1 v2 v3 v4 v5 (.pointer (some ⟨Bx,0,none⟩)) v7 v8 v9 xa xb xd xe xg xi xj xl xm xn xo xp xq xr xu xv xx xz xA xB xC xD xE xF xG xH xI xJ xK xL xM xN xO xP xQ xR xS xT xU xV xW xX xY xZ ya yb) W := by
 unfold rest9b fr9
 have hbx2 : Hid ((W.alloc (.cells #[.slice none 0 0] 111)).heap[Bx]? = some (.cells (bodC b) 225 (0,0))) := (Below.heap_alloc _ _ _ (Array.getElem?_eq_some_iff.1 hbx).1).trans hbx
 have hit : Hid (Calls Tryz.prog 146 #[.agg (bodC b)] (W.alloc (.cells #[.slice none 0 0] 111)) fun e W' => e = .returned (.func (.func 189) #[] #[.pointer (some ⟨W.heap.size + 1,0,none⟩)]) ∧ W' = (W.alloc (.cells #[.slice none 0 0] 111)).alloc (.cells (bodC b) 225)) := by
  have := items_any b (W.alloc (.cells #[.slice none 0 0] 111))
  rw [World.size_alloc] at this
  exact this
 have hEh : Hid (∀ W' v,W'.ownsRow w.heap.size 125 8 v (itsL b.t b.l b.pd).length ((itsL b.t b.l b.pd).flatMap itL) → FillI W' v → Below w.heap.size w W' → R (.returned (.tuple #[v,.int .i64 0])) W') := hE
 obtain ⟨w1,hw1⟩ : ∃ w1,(W.alloc (.cells #[.slice none 0 0] 111)).alloc (.cells (bodC b) 225) = w1 := ⟨_,rfl⟩
 have hs1 : w1.heap.size = W.heap.size + 2 := by rw [← hw1]; simp
 have hT1 : Turns Noth W w1 := by rw [← hw1]; exact (Turns.alloc _ _ _).trans (Turns.alloc _ _ _)
 have hB1 : w1.heap[W.heap.size]? = some (.cells #[.slice none 0 0] 111) := by rw [← hw1]; exact (Below.heap_alloc _ _ _ (by simp)).trans (World.alloc_heap_new W _)
 have hBo : BoX w1 (W.heap.size + 1) b := ⟨by rw [← hw1]; have := World.alloc_heap_new (W.alloc (.cells #[.slice none 0 0] 111)) (.cells (bodC b) 225); rwa [World.size_alloc] at this⟩
 have hWb : Below W.heap.size W w1 := by rw [← hw1]; exact two_below W _ _
 have hA1 : BodAt w1 b := hA.below hWb (Nat.le_refl _)
 have hrd : Hid (∀ W',Turns (fun k => k = W.heap.size) w1 W' → RdI (W.heap.size + 1) b W') := fun W' ht => by
  have hlt : ∀ {v : Value} {α : Type} {k : Nat} {f : α → List Value} {rs : List α},RecAt k f W v rs → RecAt k f w1 v rs → RecAt k f W' v rs := fun {v α k f rs} h0 h1 => by
   have hle := h1.le
   obtain ⟨aa,cc,rfl,h2⟩ := h0.ex
   refine ⟨⟨aa,cc,rfl,?_⟩,hle⟩
   rcases h2 with h2 | ⟨b',o',rfl,hb',hc⟩
   ·exact .inl h2
   ·refine .inr ⟨b',o',rfl,?_,fun i hi j u hu => ?_⟩
    ·have := hWb.size; have := ht.size; omega
    ·rw [World.cell?_of_block (ht.block b' (by have := hWb.size; omega) (by omega)),hWb.cell hb']
     exact hc i hi j u hu
  exact ⟨⟨(ht.block _ (Array.getElem?_eq_some_iff.1 hBo.row).1 (by omega)).trans hBo.row⟩,⟨hlt hA.ms hA1.ms,hlt hA.pv hA1.pv,hA.len,hA.few,hA.fit⟩⟩
 have hfew := its_few b.t b.l b.pd
 have hl4 := hA.few
 obtain ⟨i0,hi,hz0,hz1,hz2⟩ := info_parts info51z
 have hw1' : Hid ((W.alloc (.cells #[.slice none 0 0] 111)).alloc (.cells (bodC b) 225) = w1) := hw1
 clear hw1 hBo hA1 hA hE hbx
 go_wp2_with (first | (refine wpList_load_row rfl 225 _ rfl Bx rfl 225 _ (0,0) _ hbx2.out Tryz.underlying225 rfl (by show _ = some 3; kernel_rfl) ?_) | (go_at_call 146; refine hit.out.mono ?_; rintro e w' ⟨rfl,hww⟩; rw [hw1'.out] at hww; subst w'))
 refine (wpIn_wide (n := 0)).1 ?_
 refine wp_range (gf := 189) (lb := #[.pointer (some ⟨W.heap.size + 1,0,none⟩)]) rfl (enters_of Tryz.func189 (by kernel_rfl) rfl) (items1_gives (W.heap.size + 1) b) (fun _ => rfl)
  (fun j X W' => Base w1 (fun k => k = W.heap.size) X W' ∧ ∃ v,W'.heap[W.heap.size]? = some (.cells #[v] 111) ∧ W'.ownsRow w1.heap.size 125 8 v j (((itsL b.t b.l b.pd).take j).flatMap itL) ∧ FillI W' v ∧ ∀ g,v.ownBlock = some g → ¬ X g)
  (fun _ _ _ _ => False)
  (fun a' j X W' => (Base w1 (fun k => k = W.heap.size) X W' ∧ ∃ v,W'.heap[W.heap.size]? = some (.cells #[v] 111) ∧ W'.ownsRow w1.heap.size 125 8 v j (((itsL b.t b.l b.pd).take j).flatMap itL) ∧ FillI W' v ∧ ∀ g,v.ownBlock = some g → ¬ X g) ∧
   ∃ B,¬ X B ∧ W'.heap[B]? = some (.cells (itC (itAt (itsL b.t b.l b.pd) j)) 125) ∧
   a' = { tmps := #[v0,v1,v2,v3,v4,v5,.pointer (some ⟨Bx,0,none⟩),.pointer (some ⟨W.heap.size,0,none⟩),.pointer (some ⟨B,0,none⟩),v9,xa,xb,xd,xe,xg,xi,xj,xl,xm,xn,xo,xp,xq,xr,xu,xv,xx,xz,xA,xB,xC,xD,xE,xF,xG,xH,xI,xJ,xK,xL,xM,xN,xO,xP,xQ,xR,xS,xT,.agg (bodC b),.func (.func 189) #[] #[.pointer (some ⟨W.heap.size + 1,0,none⟩)],.agg (itC (itAt (itsL b.t b.l b.pd) j)),xX,xY,xZ,ya,yb],defers := [] })
  (steady_rowF (by omega) _ _ _ _) (fun _ => steady_never) (fun a' => (steady_rowF (by omega) _ _ _ _).and (steady_round a' _ _)) ?hR ⟨Base.start _ _,_,hB1,World.ownsRow_nil _ _ _ _,FillI.nil _,fun g hg => by cases hg⟩ ?assign ?body ?done ?stop
 case hR =>
  rintro i X W' ⟨hb',_⟩
  exact hrd.out W' hb'.turns
 case assign =>
  rintro l j X W' K hj ⟨hb',v,hv,hr,hf,hg⟩ hK
  unfold encI
  have hsz := hb'.turns.size
  have hnx : Hid ((Base w1 (fun k => k = W.heap.size) X (W'.alloc (.cells (itC (itAt (itsL b.t b.l b.pd) j)) 125)) ∧ ∃ v,(W'.alloc (.cells (itC (itAt (itsL b.t b.l b.pd) j)) 125)).heap[W.heap.size]? = some (.cells #[v] 111) ∧ (W'.alloc (.cells (itC (itAt (itsL b.t b.l b.pd) j)) 125)).ownsRow w1.heap.size 125 8 v j (((itsL b.t b.l b.pd).take j).flatMap itL) ∧ FillI (W'.alloc (.cells (itC (itAt (itsL b.t b.l b.pd) j)) 125)) v ∧ ∀ g,v.ownBlock = some g → ¬ X g) ∧ ¬ X W'.heap.size ∧ (W'.alloc (.cells (itC (itAt (itsL b.t b.l b.pd) j)) 125)).heap[W'.heap.size]? = some (.cells (itC (itAt (itsL b.t b.l b.pd) j)) 125)) :=
   ⟨⟨hb'.alloc _,v,(Below.heap_alloc _ _ _ (by omega)).trans hv,hr.alloc _,hf.turns (Turns.alloc Noth _ _) (fun g h => ⟨(hr.lt g h).2,fun h => h⟩),hg⟩,hb'.fresh,World.alloc_heap_new _ _⟩
  have hK' : Hid (∀ a',a' = ({ tmps := #[v0,v1,v2,v3,v4,v5,.pointer (some ⟨Bx,0,none⟩),.pointer (some ⟨W.heap.size,0,none⟩),.pointer (some ⟨W'.heap.size,0,none⟩),v9,xa,xb,xd,xe,xg,xi,xj,xl,xm,xn,xo,xp,xq,xr,xu,xv,xx,xz,xA,xB,xC,xD,xE,xF,xG,xH,xI,xJ,xK,xL,xM,xN,xO,xP,xQ,xR,xS,xT,.agg (bodC b),.func (.func 189) #[] #[.pointer (some ⟨W.heap.size + 1,0,none⟩)],.agg (itC (itAt (itsL b.t b.l b.pd) j)),xX,xY,xZ,ya,yb],defers := [] } : Act) → K a' (W'.alloc (.cells (itC (itAt (itsL b.t b.l b.pd) j)) 125))) := fun a' e => hK _ _ (Keeps.alloc _ _ _) ⟨hnx.out.1,W'.heap.size,hnx.out.2.1,hnx.out.2.2,e⟩
  clear hnx hK hf hr hv hrd
  generalize itAt (itsL b.t b.l b.pd) j = x at *
  obtain ⟨xk,xf,xt,xw,xs,xh,xc,xy⟩ := x
  unfold itC at hK' ⊢
  gi_wp2
  exact hK'.out _ rfl
 case body =>
  rintro l j X a' W' hj ⟨⟨hb',v,hv,hrow,hfl,hg⟩,B,hB,hr,rfl⟩
  have hc0 : W'.cell? ⟨W.heap.size,0,none⟩ = some v := by rw [Lib.cell_of_heap hv]; rfl
  have hbs := hb'.turns.size
  have hjn : j < (itsL b.t b.l b.pd).length := hj
  have hsucc := rowI_succ (itsL b.t b.l b.pd) hjn
  have hkds : KdL (((itsL b.t b.l b.pd).take j).flatMap itL) := kd_its _
  have hkx := kd_item (itAt (itsL b.t b.l b.pd) j)
  have hxl : ((((itsL b.t b.l b.pd).take j).flatMap itL)).length = j * 8 := by rw [fm_len itL_len,List.length_take]; congr 1; omega
  have hstep : Hid (∀ v' w2,w2.ownsRow w1.heap.size 125 8 v' (j + 1) (((itsL b.t b.l b.pd).take j).flatMap itL ++ itL (itAt (itsL b.t b.l b.pd) j)) → (W'.alloc (.cells (itC (itAt (itsL b.t b.l b.pd) j)) 125)).grownBy w2 v.ownBlock → (v'.ownBlock = v.ownBlock ∨ ∀ g,v'.ownBlock = some g → (W'.alloc (.cells (itC (itAt (itsL b.t b.l b.pd) j)) 125)).heap.size ≤ g) → FillI w2 v' → (∃ g' cap',v' = .slice g' (j + 1) cap') ∧ w2.cell? ⟨W.heap.size,0,none⟩ = some v ∧ w2.frozen? ⟨W.heap.size,0,none⟩ = false ∧ leftBy (fun j X W' => Base w1 (fun k => k = W.heap.size) X W' ∧ ∃ v,W'.heap[W.heap.size]? = some (.cells #[v] 111) ∧ W'.ownsRow w1.heap.size 125 8 v j (((itsL b.t b.l b.pd).take j).flatMap itL) ∧ FillI W' v ∧ ∀ g,v.ownBlock = some g → ¬ X g) (fun _ _ _ _ => False) j X W' .normal { tmps := #[],defers := [] } (w2.setCell ⟨W.heap.size,0,none⟩ v')) := fun v' w2 hown' hgrow hwh hfl' => by
   obtain ⟨hv1,q1,q2,q3,q4,q5⟩ := append_step hb' (by omega) hv (by decide) hrow hg hown' hgrow hwh
   obtain ⟨g',cap',hv'⟩ := Hy.row_val hown'
   refine ⟨⟨g',cap',hv'⟩,hv1.cell,hv1.frozen,q1,q2,_,q3,by rw [hsucc]; exact q4,hfl'.set _ ?_,q5⟩
   exact (hv1.not_row (by decide) hown').symm
  have hrowa : Hid ((W'.alloc (.cells (itC (itAt (itsL b.t b.l b.pd) j)) 125)).ownsRow w1.heap.size 125 8 v j (((itsL b.t b.l b.pd).take j).flatMap itL)) := hrow.alloc _
  have hfla : Hid (FillI (W'.alloc (.cells (itC (itAt (itsL b.t b.l b.pd) j)) 125)) v) := hfl.turns (Turns.alloc Noth _ _) (fun g h => ⟨(hrow.lt g h).2,fun h => h⟩)
  have hnew : Hid (∀ q u,(itL (itAt (itsL b.t b.l b.pd) j))[q]? = some u → (W'.alloc (.cells (itC (itAt (itsL b.t b.l b.pd) j)) 125)).cell? ((⟨W'.heap.size,0,none⟩ : Addr).add q) = some u) := cells_new W' (itL (itAt (itsL b.t b.l b.pd) j)) 125
  have hj8 : j + 1 ≤ 8193 := by omega
  obtain ⟨rowj,hrowj⟩ : ∃ r,((itsL b.t b.l b.pd).take j).flatMap itL = r := ⟨_,rfl⟩
  rw [hrowj] at hkds hrowa
  have hstep2 := hstep
  clear hrow hfl hv hsucc hxl hrd hg hb'
  have hr0 : W'.heap[B]? = some (.cells (itC (itAt (itsL b.t b.l b.pd) j)) 125) := hr
  generalize itAt (itsL b.t b.l b.pd) j = x at *
  obtain ⟨xk,xf,xt,xw,xs,xh,xc,xy⟩ := x
  have r0 : W'.cell? ⟨B,0,none⟩ = some (.int .i64 xk) := by rw [Lib.cell_of_heap hr]; rfl
  have r1 : W'.cell? ⟨B,1,none⟩ = some (.int .i64 xf) := by rw [Lib.cell_of_heap hr]; rfl
  have r2 : W'.cell? ⟨B,2,none⟩ = some (.int .i64 xt) := by rw [Lib.cell_of_heap hr]; rfl
  have r3 : W'.cell? ⟨B,3,none⟩ = some (.int .i64 xw) := by rw [Lib.cell_of_heap hr]; rfl
  have r4 : W'.cell? ⟨B,4,none⟩ = some (.int .i64 xs) := by rw [Lib.cell_of_heap hr]; rfl
  have r5 : W'.cell? ⟨B,5,none⟩ = some (.int .i64 xh) := by rw [Lib.cell_of_heap hr]; rfl
  have r6 : W'.cell? ⟨B,6,none⟩ = some (.int .i64 xc) := by rw [Lib.cell_of_heap hr]; rfl
  have r7 : W'.cell? ⟨B,7,none⟩ = some (.bool xy) := by rw [Lib.cell_of_heap hr]; rfl
  clear hr0 hr
  unfold itC at *
  clear hs1
  gi_wp2_with (gi_at_builtin; refine wpListIn_append_kinds _ rfl _ _ 111 rfl w1.heap.size i0 Tryz.underlying111 hi hz0 hz1 hz2 v j rowj rfl hrowa.out hkds hfla.out ⟨W'.heap.size,0,none⟩ 1 _ rfl rfl hnew.out (itL_one _) hkx (by unfold maxLen; omega) (by omega) (by simp; omega) ?_; intro v' w2 hown' hgrow hwh hfl'; obtain ⟨⟨g',cap',rfl⟩,hc1,hf1,hlb⟩ := hstep2.out v' w2 (by rw [hrowj]; exact hown') hgrow hwh hfl')
  exact hlb
 case done =>
  rintro D W' hD ⟨hb',v,hv,hrow,hfl,hg⟩ hK
  have hc0 : W'.cell? ⟨W.heap.size,0,none⟩ = some v := by rw [Lib.cell_of_heap hv]; rfl
  rw [List.take_of_length_le (Nat.le_refl _)] at hrow
  have hfin : Hid (∀ o,R (.returned (.tuple #[v,.int .i64 0])) (W'.putObj D o)) := fun o => by
   have ht := Turns.putObj (X := fun k => k = D) W' rfl o
   refine hEh.out _ v (ownsRow_turns (ownsRow_base hrow (by have := hb.size; omega)) ht hg) (hfl.turns ht (fun g h => ⟨(hrow.lt g h).2,hg g h⟩)) ?_
   exact hb.trans ((below_end hT1 hb' (fun k h => by omega) o).mono hb.size)
  have hsz := hb'.turns.size
  clear hrow hfl hrd hEh
  go_wp2_with fail
  refine ⟨by simp,.inl ⟨_,_,rfl,run_takeDeferred hK,?_⟩⟩
  refine ⟨_,results_tmp2 rfl _ _ _,?_⟩
  exact hfin.out _
 case stop =>
  rintro D c i W' _ _ h _
  exact h.elim
end Go.Proofs.YtaphggjakaghjaaGreatDoor

namespace Go.Proofs.YtaphggjakaghjaaGreatDoor
open Go.RowKit Go.Shelf
set_option maxRecDepth 100000
set_option maxHeartbeats 4000000

def ItemsEnd (a : Pa) (w : World) (e : Ending) (w' : World) : Prop :=
 (∃ v,e = .returned (.tuple #[v,.int .i64 (chkI a)]) ∧ ((chkI a ≠ 0 ∧ v = .slice none 0 0) ∨ (chkI a = 0 ∧ w'.ownsRow w.heap.size 125 8 v (itemsOf a).length ((itemsOf a).flatMap itL) ∧ FillI w' v))) ∧ Below w.heap.size w w'

theorem items_a (R : Ending → World → Prop) (a : Pa) (B0 Bx Pb cm : Nat) (am : Option Addr) (w W : World) {v0 v2 v3 v4 v5 v7 v8 v9 xa xb xc xd xe xf xg xh xi xj xk xl xm xn xo xp xq xr xt xu xv xw xx xy xz xA xB xC xD xE xF xG xH xI xJ xK xL xM xN xO xP xQ xR xS xT xU : Value} (hb : Below w.heap.size w W) (hP : PB W B0 a)
  (hbx : W.heap[Bx]? = some (.cells #[.string a.t,.slice am (bodyL a).length cm,.slice (some ⟨Pb,0,none⟩) (bodyL a).length (bodyL a).length] 225 (0,0))) (hbl : Hy.Blk W Pb (bcells (List.replicate (bodyL a).length false)) 4)
  (hms : RecAt 6 msL W (.slice am (bodyL a).length cm) (bodyL a)) (_hne : ∀ g o,am = some ⟨g,o,none⟩ → g ≠ Pb) (_hPb : w.heap.size ≤ Pb) (_hPx : Pb ≠ Bx) (h12 : a.p.p12 ≠ 1) (hG : GoodP a)
  (hE : ∀ W' v,W'.ownsRow w.heap.size 125 8 v (itemsOf a).length ((itemsOf a).flatMap itL) → FillI W' v → Below w.heap.size w W' → R (.returned (.tuple #[v,.int .i64 0])) W') :
  rest9.wp Tryz.prog (bodyPostM Fence.wide 0 Tryz.prog Tryz.f105 R) (fr9 v0 (.pointer (some ⟨B0,0,none⟩)) v2 v3 v4 v5 (.pointer (some ⟨Bx,0,none⟩)) v7 v8 v9 xa xb xc xd xe xf xg xh xi xj xk xl xm xn xo xp xq xr xt xu xv xw xx xy xz xA xB xC xD xE xF xG xH xI xJ xK xL xM xN xO xP xQ xR xS xT xU) W := by
 have c14 : W.cell? ⟨B0,14,none⟩ = some (.int .i64 a.p.p12) := hP.cell rfl
 have hA0 : BodAt W ⟨a.t,.slice am (bodyL a).length cm,.slice (some ⟨Pb,0,none⟩) (bodyL a).length (bodyL a).length,bodyL a,List.replicate (bodyL a).length false⟩ :=
  ⟨hms,bools_of hbl (by simp) (Nat.le_refl _),by simp,bodyL_few hG,bodyL_fit hG⟩
 have hio : Hid (itemsOf a = itsL a.t (bodyL a) (pdOf a)) := rfl
 unfold rest9 fr9
 have e : pdOf a = List.replicate (bodyL a).length false := rfl
 have q1 : (a.p.p12 == 1) = false := by simpa using h12
 have hnx : Hid (∀ (v0 v1 v2 v3 v4 v5 v7 v8 v9 xa xb xc xd xe xf xg xh xi xj xk xl xm xn xo xp xq xr xt xu xv xw xx xy xz xA xB xC xD xE xF xG xH xI xJ xK xL xM xN xO xP xQ xR xS xT xU : Value),rest9b.wp Tryz.prog (bodyPostM Fence.wide 0 Tryz.prog Tryz.f105 R) (fr9 v0 v1 v2 v3 v4 v5 (.pointer (some ⟨Bx,0,none⟩)) v7 v8 v9 xa xb xc xd xe xf xg xh xi xj xk xl xm xn xo xp xq xr xt xu xv xw xx xy xz xA xB xC xD xE xF xG xH xI xJ xK xL xM xN xO xP xQ xR xS xT xU) W) := fun v0 v1 v2 v3 v4 v5 v7 v8 v9 xa xb xc xd xe xf xg xh xi xj xk xl xm xn xo xp xq xr xt xu xv xw xx xy xz xA xB xC xD xE xF xG xH xI xJ xK xL xM xN xO xP xQ xR xS xT xU => by
  refine items_b R ⟨a.t,.slice am (bodyL a).length cm,.slice (some ⟨Pb,0,none⟩) (bodyL a).length (bodyL a).length,bodyL a,List.replicate (bodyL a).length false⟩ Bx w W hb hbx hA0 (fun W' v h1 h2 h3 => hE W' v ?_ h2 h3)
  rw [hio.out,e]; exact h1
 clear hA0 hE hms hbl hbx e
 go_wp2_with fail
 exact hnx.out _ _ _ _ _ _ _ _ _ _ _ _ _ _ _ _ _ _ _ _ _ _ _ _ _ _ _ _ _ _ _ _ _ _ _ _ _ _ _ _ _ _ _ _ _ _ _ _ _ _ _ _ _ _ _

theorem items_tail (R : Ending → World → Prop) (K : Act → World → Prop) (hK : ∀ a_1 w_1,rest9.wp Tryz.prog (bodyPostM Fence.wide 0 Tryz.prog Tryz.f105 R) a_1 w_1 → K a_1 w_1) (id : Nat) (ps : String) {v0 v2 v3 v5 v6 v7 v8 v9 xa xb xc xd xe xf xg xh xi xj xk xl xm xn xo xp xq xr xt xu xv xw xx xy xz xA xB xC xD xE xF xG xH xI xJ xK xL xM xN xO xP xQ xR xS xT xU : Value} (a : Pa) (B0 cm n : Nat) (am : Option Addr) (w W : World) (hn : n = (bodyL a).length) (hb : Below w.heap.size w W) (hP : PB W B0 a) (_hB0 : w.heap.size ≤ B0)
  (hms : RecAt 6 msL W (.slice am n cm) (bodyL a)) (hlt : ∀ g o,am = some ⟨g,o,none⟩ → g < W.heap.size) (h12 : a.p.p12 ≠ 1) (hG : GoodP a)
  (hE : ∀ W' v,W'.ownsRow w.heap.size 125 8 v (itemsOf a).length ((itemsOf a).flatMap itL) → FillI W' v → Below w.heap.size w W' → R (.returned (.tuple #[v,.int .i64 0])) W') :
  (Code.region id (ops9_6 ps) true).wp Tryz.prog (Exit.then K (bodyPostM Fence.wide 0 Tryz.prog Tryz.f105 R)) (fr9 v0 (.pointer (some ⟨B0,0,none⟩)) v2 v3 (.slice am n cm) v5 v6 v7 v8 v9 xa xb xc xd xe xf xg xh xi xj xk xl xm xn xo xp xq xr xt xu xv xw xx xy xz xA xB xC xD xE xF xG xH xI xJ xK xL xM xN xO xP xQ xR xS xT xU) W := by
 subst hn
 refine Code.wp_mono (Q := fun e x W => e = .normal ∧ K x W) (fun e x W h => by obtain ⟨rfl,h⟩ := h; exact h) ?_
 refine it_r6 _ (fun _ _ _ _ _ h => by cases h.1) id ps B0 (bodyL a).length cm am a.t W ⟨hP.lt,hP.c0⟩ (bodyL_few hG) ?_
 intro Pb Bx w' hb' h1 h2 h3 hbl hbx
 refine ⟨rfl,hK _ _ ?_⟩
 have hsz := hb.size
 exact items_a R a B0 Bx Pb cm am w w' (hb.trans (hb'.mono hb.size)) (hP.below hb' hP.lt) hbx hbl (hms.below hb' (Nat.le_refl _)) (fun g o e => by have := hlt g o e; omega) (by omega) h3 h12 hG hE
end Go.Proofs.YtaphggjakaghjaaGreatDoor

namespace Go.Proofs.YtaphggjakaghjaaGreatDoor
open Go.RowKit Go.Shelf
set_option maxRecDepth 100000
set_option maxHeartbeats 8000000

theorem items_no (a : Pa) (w : World) (hA : PaAt w a) (h : chkI a ≠ 0) : Calls Tryz.prog 105 #[paV a] w (ItemsEnd a w) := by
 have hB := (Below.refl w.heap.size w).alloc (Nat.le_refl _) (Obj.cells (paC a) 95)
 have hP := PB.new w a
 have hs := masses_any a _ (hA.below hB (Nat.le_refl _))
 have hE : Hid (∀ W,Below w.heap.size w W → ItemsEnd a w (.returned (.tuple #[.slice none 0 0,.int .i64 (chkI a)])) W) := fun W hW => ⟨⟨_,rfl,.inl ⟨h,rfl⟩⟩,hW⟩
 unfold MassEnd at hs
 unfold paV at hs ⊢
 have h' : (chkI a == 0) = false := by simpa using h
 have hs' : Hid (Calls Tryz.prog 99 #[.agg (paC a)] (w.alloc (.cells (paC a) 95)) fun e w' => (∃ v,e = .returned (.tuple #[v,.int .i64 (chkI a)]) ∧ v = .slice none 0 0) ∧ Below w.heap.size w w') := by
  refine hs.mono ?_
  rintro e w' ⟨⟨v,rfl,hv⟩,hb⟩
  refine ⟨⟨v,rfl,?_⟩,hB.trans (hb.mono hB.size)⟩
  rcases hv with ⟨_,h1⟩ | ⟨h1,_⟩
  ·exact h1
  ·exact absurd h1 h
 clear hs h
 generalize chkI a = n at *
 generalize hw1 : w.alloc (.cells (paC a) 95) = w1 at *
 go_enter Tryz.func105,Tryz.ntmps105
 go_wp2_with (first | (refine wpList_load_row rfl 95 _ rfl w.heap.size rfl 95 _ (0,0) _ hP.row Tryz.underlying95 rfl (info34 a) ?_) | (go_at_call 99; refine hs'.out.mono ?_; rintro e w' ⟨⟨v,rfl,rfl⟩,hb2⟩))
 go_ret2
 exact hE.out _ hb2

theorem rowlt {w : World} {base : Nat} {t : TypeId} {sz : Nat} {a : Option Addr} {n c : Nat} {xs : List Value} (h : w.ownsRow base t sz (.slice a n c) n xs) {g o : Nat} (e : a = some ⟨g,o,none⟩) : g < w.heap.size := by
 subst e
 have hl := h.lt
 rcases h.2 with ⟨h1,_⟩ | ⟨g',cap,cur,h1,_⟩
 ·cases h1
 ·cases h1; exact (hl g rfl).2
theorem items_A (a : Pa) (w : World) (hA : PaAt w a) (h12 : a.p.p12 ≠ 1) (h : chkI a = 0) (h14 : ¬ 2 ≤ a.p.p14) : Calls Tryz.prog 105 #[paV a] w (ItemsEnd a w) := by
 have hB := (Below.refl w.heap.size w).alloc (Nat.le_refl _) (Obj.cells (paC a) 95)
 have hP := PB.new w a
 have hG := good_of h
 have hbl : Hid (bodyL a = mss a) := if_neg (fun h => h14 h.1)
 have q1 : decide (2 ≤ a.p.p14) = false := decide_eq_false h14
 have hs := masses_any a _ (hA.below hB (Nat.le_refl _))
 have hE : Hid (∀ W v,W.ownsRow w.heap.size 125 8 v (itemsOf a).length ((itemsOf a).flatMap itL) → FillI W v → Below w.heap.size w W → ItemsEnd a w (.returned (.tuple #[v,.int .i64 0])) W) := fun W v hv hf hW => ⟨⟨_,by rw [h],.inr ⟨h,hv,hf⟩⟩,hW⟩
 unfold MassEnd at hs
 unfold paV at hs ⊢
 rw [h] at hs
 have hs' : Hid (Calls Tryz.prog 99 #[.agg (paC a)] (w.alloc (.cells (paC a) 95)) fun e w' => ∃ v,e = .returned (.tuple #[v,.int .i64 0]) ∧ w'.ownsRow (w.alloc (.cells (paC a) 95)).heap.size 147 6 v (num a.t) ((mss a).flatMap msL) ∧ Below (w.alloc (.cells (paC a) 95)).heap.size (w.alloc (.cells (paC a) 95)) w') := by
  refine hs.mono ?_
  rintro e w' ⟨⟨v,rfl,hv⟩,hb⟩
  refine ⟨v,rfl,?_,hb⟩
  rcases hv with ⟨h1,_⟩ | ⟨_,h1⟩
  ·exact absurd rfl h1
  ·exact h1
 clear hs h
 have hsz1 : Hid ((w.alloc (.cells (paC a) 95)).heap.size = w.heap.size + 1) := World.size_alloc _ _
 generalize hw1 : w.alloc (.cells (paC a) 95) = w1 at *
 refine (callsIn_wide (n := 0)).1 ?_
 refine callsIn_of_wp_marks Tryz.func105 rfl trivial ?_ rfl
 simp only [Tryz.ntmps105,List.size_toArray,List.length_cons,List.length_nil,Nat.reduceAdd,Nat.reduceSub,Array.replicate_succ,Array.replicate_zero,List.push_toArray,List.append_toArray,List.nil_append,List.cons_append]
 refine wpIn_wide.2 ?_
 go_wp2_with (first | (refine wpList_load_row rfl 95 _ rfl w.heap.size rfl 95 _ (0,0) _ hP.row Tryz.underlying95 rfl (info34 a) ?_) | (go_at_call 99; refine hs'.out.mono ?_; rintro e w2 ⟨v,rfl,hown,hb2⟩; obtain ⟨av,cv,rfl⟩ := Hy.row_val hown; have hP2 := hP.below hb2 hP.lt; have c16 : w2.cell? ⟨w.heap.size,16,none⟩ = some (.int .i64 a.p.p14) := hP2.cell rfl; have hB2 : Below w.heap.size w w2 := hB.trans (hb2.mono hB.size); have hrec := rec_of_row msL_len (mss_len a).symm hown; have hown0 := hown))
 rename_i K hK
 refine items_tail (ItemsEnd a w) K hK 6 "item.go:35" a w.heap.size _ _ _ w w2 (by rw [hbl.out,mss_len]) hB2 hP2 (Nat.le_refl _) (by rw [hbl.out]; exact hrec) (fun g0 o0 e => rowlt hown0 e) h12 hG hE.out
theorem items_all (a : Pa) (w : World) (hA : PaAt w a) (h12 : a.p.p12 ≠ 1) (h14 : ¬ 2 ≤ a.p.p14) : Calls Tryz.prog 105 #[paV a] w (ItemsEnd a w) := by
 by_cases h : chkI a = 0
 ·exact items_A a w hA h12 h h14
 ·exact items_no a w hA h
end Go.Proofs.YtaphggjakaghjaaGreatDoor
