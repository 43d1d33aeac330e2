/-
  What is proved here: what Inner of para answers.
  What is proved here: what end, choose, asFits and best of para answer.
  What is proved here: lines in memory; the region of Lay that tells where a line ends.
-/
import Derived.Test.YtaphggjakaghjaaGreatDoorG13
import Derived.Test.YtaphggjakaghjaaGreatDoorG18
import Derived.Test.YtaphggjakaghjaaGreatDoorG14
import Derived.ProofKit
import Derived.OpenShut
import Derived.ChangeOld
import Derived.Below
import Derived.Deep.Slices
import Derived.SizedLaws
import Derived.Maps.OwnSet
import Derived.DeepKeys4
import Derived.Test.YtaphggjakaghjaaGreatDoorG1
import Derived.Test.YtaphggjakaghjaaGreatDoorG15
namespace Go.Proofs.YtaphggjakaghjaaGreatDoor
open Go.RowKit Go.Shelf
set_option maxRecDepth 100000
set_option maxHeartbeats 4000000

def inN (a : Pa) (ss : List Sl) : Nat := max (max ss.length 1) a.p.p14.toNat
def inS (q : Tk) (ss : List Sl) (r : Sl) (n : Nat) : Sl := tkI q n (slN ss r n) 5
def inK (f : Nat → Sl) (N k : Nat) : List Sl := (List.range N).map fun i => if i < k then f i else sl0
def inL' (f : Nat → Sl) (N : Nat) : List Sl := (List.range N).map f
def inSs (a : Pa) (ss : List Sl) (r : Sl) : List Sl := inL' (inS (tkP a) ss r) (inN a ss)
def inR (a : Pa) (ss : List Sl) (r : Sl) : Sl := tkI (tkP a) (inN a ss : Nat) r 5
theorem inK_len (f : Nat → Sl) (N k : Nat) : (inK f N k).length = N := by simp [inK]
theorem inK_zero (f : Nat → Sl) (N : Nat) : inK f N 0 = List.replicate N sl0 := by
 apply List.ext_getElem
 ·simp [inK]
 ·intro i h1 h2; simp [inK]
theorem inK_all (f : Nat → Sl) (N : Nat) : inK f N N = inL' f N := by
 apply List.ext_getElem
 ·simp [inK,inL']
 ·intro i h1 h2
  have : i < N := by simpa [inK] using h1
  simp [inK,inL',this]
theorem inK_set {f : Nat → Sl} {N k : Nat} (_hk : k < N) : (inK f N k).set k (f k) = inK f N (k + 1) := by
 apply List.ext_getElem
 ·simp [inK]
 ·intro i h1 h2
  have hi : i < N := by simpa [inK] using h1
  rw [List.getElem_set]
  simp only [inK,List.getElem_map,List.getElem_range]
  split
  ·rename_i e; subst e; rw [if_pos (by omega)]
  ·split
   ·rw [if_pos (by omega)]
   ·rw [if_neg (by omega)]
theorem slL_len (s : Sl) : (slL s).length = 2 := rfl
theorem infoP30z : ∃ i z,Tryz.prog.info? 98 = some i ∧ i.zero = some z ∧ i.size = 2 ∧ i.bytes = 16 ∧ z = .agg (slL sl0).toArray := by
 have h : (Tryz.prog.info? 98).map (fun i => (i.zero,i.size,i.bytes)) = some (some (.agg (slL sl0).toArray),2,16) := by kernel_rfl
 cases hi : Tryz.prog.info? 98 with
 | none => rw [hi] at h; cases h
 | some i =>
  rw [hi] at h
  simp only [Option.map_some,Option.some.injEq,Prod.mk.injEq] at h
  obtain ⟨h1,h2,h3⟩ := h
  exact ⟨i,_,rfl,h1,h2,h3,rfl⟩
theorem make28 {n : Nat} (h : n ≤ 9100) (W : World) : (Instr.makeSlice 109 (.int .i64 (n : Int)) (.int .i64 (n : Int))).run Tryz.prog W = .ok (.slice (some ⟨W.heap.size,0,none⟩) n n) (W.alloc (.cells ((List.replicate n sl0).flatMap slL).toArray 98)) := by
 obtain ⟨i9,z,hi,hz0,hz1,hz2,rfl⟩ := infoP30z
 have := run_makeSlice (P := Tryz.prog) (w := W) 109 98 i9 _ Tryz.underlying109 hi hz0 .i64 .i64 n n (by omega) (by omega) (by rw [hz1]; omega) (by rw [hz2]; omega) (by omega)
 rw [hz1,Int.toNat_natCast] at this
 rw [← made_rec slL_len (by omega)]
 exact this
theorem made28 (W : World) (n : Nat) : RB 2 slL (W.alloc (.cells ((List.replicate n sl0).flatMap slL).toArray 98)) W.heap.size (List.replicate n sl0) :=
 RB.of_row (World.alloc_heap_new W _) fun i hi j v hv => by
  have hj : j < 2 := by have := (List.getElem?_eq_some_iff.1 hv).1; rw [slL_len] at this; exact this
  have := fm_get slL_len (List.replicate n sl0) hi j hj
  rw [hv] at this
  simpa using this
def rest13 : Code := (((Code.region 6 #[⟨some 30,.move (.tmp 11),109,"para.go:31",#[],none⟩,⟨some 31,.call ⟨.builtin .len,#[.tmp 30],#[109]⟩,3,"para.go:31",#[⟨0,.data⟩],none⟩,⟨some 32,.move (.const (.int .i64 0)),3,"para.go:31",#[],none⟩] false).seq (Code.block 0 ((Code.region 7 #[⟨some 33,.binOp .lss 3 (.tmp 32) (.tmp 31) 3,0,"para.go:31",#[],none⟩] false).seq ((Code.cond (Operand.tmp 33) Code.skip (Code.exit 0)).seq ((Code.block 1 ((Code.region 8 #[⟨some 34,.move (.tmp 32),3,"para.go:31",#[],none⟩,⟨some 12,.assign (.tmp 34),3,"para.go:31",#[⟨0,.data⟩,⟨0,.phase⟩],none⟩] false).seq (Code.region 9 #[⟨some 35,.move (.tmp 11),109,"para.go:32",#[],none⟩,⟨some 36,.move (.tmp 12),3,"para.go:32",#[],none⟩,⟨some 37,.move (.tmp 10),172,"para.go:32",#[],none⟩,⟨some 38,.move (.tmp 12),3,"para.go:32",#[],none⟩,⟨some 39,.move (.tmp 1),109,"para.go:32",#[],none⟩,⟨some 40,.load 98 (.tmp 5),98,"para.go:32",#[],none⟩,⟨some 41,.move (.tmp 12),3,"para.go:32",#[],none⟩,⟨some 42,.call ⟨.value (.func 75),#[.tmp 39,.tmp 40,.tmp 41],#[109,98,3]⟩,98,"para.go:32",#[⟨4,.data⟩,⟨5,.data⟩,⟨6,.data⟩],none⟩,⟨some 43,.call ⟨.value (.func 104),#[.tmp 37,.tmp 38,.tmp 42],#[172,3,98]⟩,98,"para.go:32",#[⟨2,.data⟩,⟨3,.data⟩,⟨7,.data⟩,⟨7,.chain⟩],none⟩,⟨some 44,.indexAddr 109 (.tmp 35) (.tmp 36),0,"para.go:32",#[⟨0,.data⟩,⟨1,.data⟩,⟨0,.phase⟩,⟨1,.phase⟩,⟨2,.phase⟩,⟨3,.phase⟩,⟨4,.phase⟩,⟨5,.phase⟩,⟨6,.phase⟩,⟨7,.phase⟩,⟨8,.phase⟩],none⟩,⟨none,.store 98 (.tmp 44) (.tmp 43),0,"para.go:32",#[⟨9,.data⟩,⟨8,.data⟩,⟨8,.chain⟩,⟨0,.phase⟩,⟨1,.phase⟩,⟨2,.phase⟩,⟨3,.phase⟩,⟨4,.phase⟩,⟨5,.phase⟩,⟨6,.phase⟩,⟨7,.phase⟩,⟨8,.phase⟩],none⟩] false))).seq (Code.region 10 #[⟨some 45,.binOp .add 3 (.tmp 32) (.const (.int .i64 1)) 3,3,"para.go:31",#[],none⟩,⟨some 32,.move (.tmp 45),3,"para.go:31",#[⟨0,.data⟩],none⟩] false)))).loop)).seq ((Code.region 11 #[⟨some 46,.move (.tmp 11),109,"para.go:34",#[],none⟩,⟨some 47,.move (.tmp 10),172,"para.go:34",#[],none⟩,⟨some 48,.move (.tmp 11),109,"para.go:34",#[],none⟩,⟨some 49,.call ⟨.builtin .len,#[.tmp 48],#[109]⟩,3,"para.go:34",#[⟨2,.data⟩],none⟩,⟨some 50,.load 98 (.tmp 5),98,"para.go:34",#[],none⟩,⟨some 51,.call ⟨.value (.func 104),#[.tmp 47,.tmp 49,.tmp 50],#[172,3,98]⟩,98,"para.go:34",#[⟨1,.data⟩,⟨3,.data⟩,⟨4,.data⟩],none⟩,⟨some 6,.assign (.tmp 46),109,"para.go:34",#[⟨0,.data⟩,⟨5,.chain⟩,⟨0,.phase⟩,⟨1,.textOnly .lateStores⟩,⟨2,.textOnly .lateStores⟩,⟨3,.textOnly .lateStoresUnsure⟩,⟨4,.textOnly .lateStores⟩,⟨5,.textOnly .lateStoresUnsure⟩],none⟩,⟨none,.store 98 (.tmp 7) (.tmp 51),0,"para.go:34",#[⟨5,.data⟩,⟨6,.chain⟩,⟨0,.phase⟩,⟨1,.phase⟩,⟨2,.phase⟩,⟨3,.phase⟩,⟨4,.phase⟩,⟨5,.phase⟩,⟨6,.phase⟩],none⟩,⟨some 8,.assign (.const (.int .i64 0)),28,"para.go:34",#[⟨7,.chain⟩,⟨0,.phase⟩,⟨1,.phase⟩,⟨2,.phase⟩,⟨3,.phase⟩,⟨4,.phase⟩,⟨5,.phase⟩,⟨6,.phase⟩,⟨7,.phase⟩],none⟩] false).seq Code.ret))
theorem in_rest (RR : Ending → World → Prop) (q : Tk) (hq : q.ok) (z w0 w : World) (X N : Nat) (r : Sl) (ss : List Sl) (vs tv : Value) (hck : ckS ss r = 0) (hN : N ≤ 9100) (hz : Below z.heap.size z w0) (hzx : z.heap.size ≤ X) (h5 : w0.heap[X]? = some (.cells (slL r).toArray 98 (0,0))) (h7 : w0.heap[X + 1]? = some (.cells #[.int .i64 0,.int .i64 0] 98 (0,0))) (hV : SlsAt w0 vs ss) (hT : TkAt w0 tv q)
  (hw : Below w0.heap.size w0 w) (hr : RB 2 slL w w0.heap.size (inK (inS q ss r) N 0)) {v0 v2 v3 v4 v6 v8 v9 xa xb xc xd xe xf xg xh xi xj xk xl xm xn xo xp xq xr xt xu xv xw xx xy xz xA xB xC xD xE xF xG xH xI xJ xK xL xM xN xO : Value}
  (hR : Hid (∀ W,Below z.heap.size z W → SlsAt W (.slice (some ⟨w0.heap.size,0,none⟩) N N) (inL' (inS q ss r) N) → RR (.returned (.tuple #[.slice (some ⟨w0.heap.size,0,none⟩) N N,.agg (slL (tkI q (N : Nat) r 5)).toArray,.int .i64 0])) W)) :
  rest13.wp Tryz.prog (bodyPost Tryz.prog Tryz.f72 RR) { tmps := #[v0,vs,v2,v3,v4,.pointer (some ⟨X,0,none⟩),v6,.pointer (some ⟨X + 1,0,none⟩),v8,v9,tv,.slice (some ⟨w0.heap.size,0,none⟩) N N,xa,xb,xc,xd,xe,xf,xg,xh,xi,xj,xk,xl,xm,xn,xo,xp,xq,xr,xt,xu,xv,xw,xx,xy,xz,xA,xB,xC,xD,xE,xF,xG,xH,xI,xJ,xK,xL,xM,xN,xO],defers := [] } w := by
 have hX1 := (Array.getElem?_eq_some_iff.1 h7).1
 have hI0 : Hid (Below w0.heap.size w0 w ∧ RB 2 slL w w0.heap.size (inK (inS q ss r) N 0)) := ⟨hw,hr⟩
 have hfew := ckS_few hck
 have hsl : Hid (∀ k W,Below w0.heap.size w0 W → Calls Tryz.prog 75 #[vs,.agg #[.int .i64 r.x,.int .i64 r.w],.int .i64 (k : Nat)] W fun e w' => e = .returned (.agg #[.int .i64 (slN ss r k).x,.int .i64 (slN ss r k).w]) ∧ Below W.heap.size W w') := fun k W hW => sls_slot (by omega) (hV.below hW (Nat.le_refl _))
 have hna : Hid (∀ (k : Nat) W,Below w0.heap.size w0 W → Calls Tryz.prog 104 #[tv,.int .i64 (k : Nat),.agg #[.int .i64 (slN ss r k).x,.int .i64 (slN ss r k).w]] W fun e w' => e = .returned (.agg (slL (inS q ss r k)).toArray) ∧ Below W.heap.size W w') := fun k W hW => narrow_any tv q hq k _ (slN_ok hck k) W (hT.below hW (Nat.le_refl _))
 have hok : okS r = true := by
  have := slN_ok hck ss.length
  rw [slN_out (Nat.le_refl _)] at this
  exact this
 have hnr : Hid (∀ W,Below w0.heap.size w0 W → Calls Tryz.prog 104 #[tv,.int .i64 (N : Nat),.agg #[.int .i64 r.x,.int .i64 r.w]] W fun e w' => e = .returned (.agg (slL (tkI q (N : Nat) r 5)).toArray) ∧ Below W.heap.size W w') := fun W hW => narrow_any tv q hq N _ hok W (hT.below hW (Nat.le_refl _))
 obtain ⟨av,cv,rfl,-⟩ := hV.ex
 obtain ⟨gt,c0,c1,c2,c3,c4,rfl,-⟩ := hT.ex
 have hrow : Hid (∀ W,Below w0.heap.size w0 W → W.heap[X]? = some (.cells #[.int .i64 r.x,.int .i64 r.w] 98 (0,0)) ∧ W.heap[X + 1]? = some (.cells #[.int .i64 0,.int .i64 0] 98 (0,0))) := fun W hW => ⟨(hW.block _ (by omega)).trans h5,(hW.block _ hX1).trans h7⟩
 have hzh : Hid (Below z.heap.size z w0) := hz
 have hXh : Hid (z.heap.size ≤ X ∧ X + 1 < w0.heap.size) := ⟨hzx,hX1⟩
 clear hV hT hok hck hq h5 h7 hw hr hz hzx hX1
 unfold rest13
 go_wp2_with fail
 go_loopw [32] (fun xv wr => ∃ k : Nat,k ≤ N ∧ xv = .int .i64 k ∧ Hid (Below w0.heap.size w0 wr ∧ RB 2 slL wr w0.heap.size (inK (inS q ss r) N k))) (fun xv _ => N - (intOf xv).toNat)
 case atStart => exact ⟨0,by omega,rfl,hI0⟩
 case round =>
  obtain ⟨k,hk,rfl,hI⟩ := hrel
  clear hI0
  obtain ⟨x5,x7⟩ := hrow.out wr hI.out.1
  by_cases hlt : k < N
  ·have hlt' : (k : Int) < (N : Int) := by omega
   have hs1 : Hid (Calls Tryz.prog 75 #[.slice av ss.length cv,.agg #[.int .i64 r.x,.int .i64 r.w],.int .i64 (k : Nat)] wr fun e w' => e = .returned (.agg #[.int .i64 (slN ss r k).x,.int .i64 (slN ss r k).w]) ∧ Below wr.heap.size wr w') := hsl.out k wr hI.out.1
   have hn1 : Hid (∀ W,Below w0.heap.size w0 W → Calls Tryz.prog 104 #[.slice (some ⟨gt,0,none⟩) 5 5,.int .i64 (k : Nat),.agg #[.int .i64 (slN ss r k).x,.int .i64 (slN ss r k).w]] W fun e w' => e = .returned (.agg (slL (inS q ss r k)).toArray) ∧ Below W.heap.size W w') := fun W hW => hna.out k W hW
   have hst : Hid (∀ W,RB 2 slL W w0.heap.size (inK (inS q ss r) N k) → RB 2 slL (W.setCells w0.heap.size (k * 2) (slL (inS q ss r k))) w0.heap.size (inK (inS q ss r) N (k + 1))) := fun W h => by
    have := h.set slL_len (p := k) (by rw [inK_len]; exact hlt) (inS q ss r k)
    rwa [inK_set hlt] at this
   have hth : Hid (∀ W,RB 2 slL W w0.heap.size (inK (inS q ss r) N k) → W.there w0.heap.size (k * 2) (slL (inS q ss r k)).toArray.size) := fun W h => h.there slL_len (by rw [inK_len]; exact hlt)
   clear hsl hna hnr hrow
   generalize (slN ss r k).x = sx at *
   generalize (slN ss r k).w = sw at *
   generalize inS q ss r k = y at *
   go_wp2_with (first | (refine wpList_load_row rfl 98 _ rfl X rfl 98 _ (0,0) _ x5 Tryz.underlying98 rfl (info25 _ _) ?_) | (go_at_call 75; refine hs1.out.mono ?_; rintro e w4 ⟨rfl,hb4⟩; have hI4 : Hid (Below w0.heap.size w0 w4 ∧ RB 2 slL w4 w0.heap.size (inK (inS q ss r) N k)) := ⟨hI.out.1.trans (hb4.mono hI.out.1.size),hI.out.2.below hb4 hI.out.2.lt⟩; clear hb4 hI hs1 x5 x7) | (go_at_call 104; refine (hn1.out w4 hI4.out.1).mono ?_; rintro e w5 ⟨rfl,hb5⟩; have hI5 : Hid (Below w0.heap.size w0 w5 ∧ RB 2 slL w5 w0.heap.size (inK (inS q ss r) N k)) := ⟨hI4.out.1.trans (hb5.mono hI4.out.1.size),hI4.out.2.below hb5 hI4.out.2.lt⟩; clear hb5 hI4 hn1) | (refine wpList_store_mid rfl 98 _ _ rfl w0.heap.size (k * 2) (slL y).toArray rfl rfl (hth.out w5 hI5.out.2) (info25t _) (slt_all _) ?_))
   refine ⟨⟨k + 1,by omega,rfl,?_,hst.out _ hI5.out.2⟩,by simp [intOf]; omega⟩
   exact hI5.out.1.trans ((turns_setCells (X := fun j => j = w0.heap.size) rfl _ _ _).below hI5.out.1.size (fun j hj => by omega))
  ·have hkn : k = N := by omega
   subst hkn
   have hge : ¬ (k : Int) < (k : Int) := by omega
   have hn1 : Hid (Calls Tryz.prog 104 #[.slice (some ⟨gt,0,none⟩) 5 5,.int .i64 (k : Nat),.agg #[.int .i64 r.x,.int .i64 r.w]] wr fun e w' => e = .returned (.agg (slL (tkI q (k : Nat) r 5)).toArray) ∧ Below wr.heap.size wr w') := hnr.out wr hI.out.1
   clear hsl hna hnr hrow
   go_wp2_with (first | (refine wpList_load_row rfl 98 _ rfl X rfl 98 _ (0,0) _ x5 Tryz.underlying98 rfl (info25 _ _) ?_) | (go_at_call 104; refine hn1.out.mono ?_; rintro e w5 ⟨rfl,hb5⟩; have y7 : w5.heap[X + 1]? = some (.cells #[.int .i64 0,.int .i64 0] 98 (0,0)) := (hb5.block _ (Array.getElem?_eq_some_iff.1 x7).1).trans x7; have hI5 : Hid (Below w0.heap.size w0 w5 ∧ RB 2 slL w5 w0.heap.size (inK (inS q ss r) k k)) := ⟨hI.out.1.trans (hb5.mono hI.out.1.size),hI.out.2.below hb5 hI.out.2.lt⟩; clear hb5 hI hn1 x7) | (refine wpList_store_row rfl 98 _ _ rfl (X + 1) (slL (tkI q (k : Nat) r 5)).toArray rfl rfl 98 _ y7 (info25t _) rfl (slt_all _) ?_))
   refine bodyPost_ret (results_tct rfl _ _ (X + 1) 98 (slL (tkI q (k : Nat) r 5)).toArray (0,0) _ rfl (setRow_heap _ _ _ _ _ _ y7) Tryz.underlying98 rfl (info25t _)) rfl ?_
   have hTn := Turns.setRow (X := fun j => j = X + 1) w5 rfl (slL (tkI q (k : Nat) r 5)).toArray
   obtain ⟨hx1,hx2⟩ := hXh.out
   obtain ⟨hI1,hI2⟩ := hI5.out
   refine hR.out _ ((hzh.out.trans (hI1.mono hzh.out.size)).trans (hTn.below (Nat.le_trans hzh.out.size hI1.size) (fun j hj => by omega))) ?_
   have h2 := (hI2.turns hTn (by omega)).recs (n := k) (cap := k) (by rw [inK_len]; exact Nat.le_refl _) (Nat.le_refl _)
   rw [inK_all,List.take_of_length_le (by simp [inL'])] at h2
   exact h2
end Go.Proofs.YtaphggjakaghjaaGreatDoor

namespace Go.Proofs.YtaphggjakaghjaaGreatDoor
open Go.RowKit Go.Shelf
set_option maxRecDepth 100000
set_option maxHeartbeats 2000000

def edI (a : Pa) (L : List It) (ps : List Pc) : Int := match ps with
 | [] => a.t.size
 | p :: _ => (itAt L p.a).f
theorem pcs_first {W : World} {a : Option Addr} {n cap : Nat} {p : Pc} {ps : List Pc} (h : PcsAt W (.slice a n cap) (p :: ps)) : n = ps.length + 1 ∧ ∃ b o,a = some ⟨b,o,none⟩ ∧ b < W.heap.size ∧ W.cell? ⟨b,o,none⟩ = some (.int .i64 (p.a : Nat)) := by
 obtain ⟨a',cap',h1,h2⟩ := h.ex
 cases h1
 refine ⟨by simp,?_⟩
 rcases h2 with h2 | ⟨b,o,rfl,hb,hc⟩
 ·cases h2
 ·refine ⟨b,o,rfl,hb,?_⟩
  have := hc 0 (by simp) 0 (.int .i64 (p.a : Nat)) rfl
  simpa using this
theorem end33 (a : Pa) (v vp : Value) (L : List It) (ps : List Pc) (hp : ∀ p ∈ ps.head?,p.a < L.length) (w : World) (hS : ItsAt w v L) (hV : PcsAt w vp ps) : Calls Tryz.prog 76 #[paV a,v,vp] w fun e w' => e = .returned (.int .i64 (edI a L ps)) ∧ Below w.heap.size w w' := by
 have hB := (Below.refl w.heap.size w).alloc (Nat.le_refl _) (Obj.cells (paC a) 95)
 have hP := PB.new w a
 have c0 := hP.c0
 have hBh : Hid (Below w.heap.size w (w.alloc (.cells (paC a) 95))) := hB
 cases ps with
 | nil =>
  obtain ⟨va,vc,rfl,-⟩ := hV.ex
  obtain ⟨sa,sc,rfl,-⟩ := hS.ex
  clear hV hS hB hP
  unfold paV
  show Calls Tryz.prog 76 #[.agg (paC a),.slice sa L.length sc,.slice va 0 vc] w _
  generalize hw1 : w.alloc (.cells (paC a) 95) = w1 at *
  go_enter Tryz.func76,Tryz.ntmps76
  go_wp2_with fail
  go_ret
  exact ⟨rfl,hBh.out⟩
 | cons p qs =>
  have hpl : p.a < L.length := hp p (by simp)
  obtain ⟨sa,sc,rfl,-⟩ := hS.ex
  obtain ⟨va,vc,rfl,-⟩ := hV.ex
  obtain ⟨-,b,o,rfl,hb,hc0⟩ := pcs_first hV
  obtain ⟨b2,o2,rfl,hb2,hrg⟩ := its_range hS hpl
  have hc1 : (w.alloc (.cells (paC a) 95)).cell? ⟨b,o,none⟩ = some (.int .i64 (p.a : Nat)) := (hB.cell hb).trans hc0
  have hc2 : (w.alloc (.cells (paC a) 95)).cell? ⟨b2,o2 + p.a * 8 + 1,none⟩ = some (.int .i64 (L[p.a]).f) := (hB.cell hb2).trans (hrg 1 _ rfl)
  have e : edI a L (p :: qs) = (L[p.a]).f := by show (itAt L p.a).f = _; rw [itAt_is hpl]
  have hpl' : (p.a : Int) < (L.length : Int) := by omega
  rw [e]
  have hne : (((p :: qs).length : Int) == 0) = false := by rw [beq_eq_false_iff_ne]; simp; omega
  have h0l : 0 < (p :: qs).length := by simp
  have h0l' : (0 : Int) < ((p :: qs).length : Nat) := by omega
  clear hV hS hB hP hrg hc0 e hp hb hb2
  generalize L[p.a].f = y at *
  generalize p.a = pa at *
  generalize (p :: qs).length = n at *
  unfold paV
  generalize hw1 : w.alloc (.cells (paC a) 95) = w1 at *
  go_enter Tryz.func76,Tryz.ntmps76
  go_wp2_with fail
  go_ret
  exact ⟨rfl,hBh.out⟩
def chN (a : Pa) (L : List It) : Nat := if a.p.p13 = 1 ∧ lpB L = false then 107 else 108
theorem choose31 (a : Pa) (v : Value) (L : List It) (hl : L.length ≤ 9223372036854775807) (w : World) (hS : ItsAt w v L) : Calls Tryz.prog 74 #[paV a,v] w fun e w' => e = .returned (.func (.func (chN a L)) #[] #[]) ∧ Below w.heap.size w w' := by
 have hB := (Below.refl w.heap.size w).alloc (Nat.le_refl _) (Obj.cells (paC a) 95)
 have hP := PB.new w a
 have c15 : (w.alloc (.cells (paC a) 95)).cell? ⟨w.heap.size,15,none⟩ = some (.int .i64 a.p.p13) := hP.cell (k := 15) rfl
 have hlp : Hid (Calls Tryz.prog 106 #[v] (w.alloc (.cells (paC a) 95)) fun e w' => e = .returned (.bool (lpB L)) ∧ Below (w.alloc (.cells (paC a) 95)).heap.size (w.alloc (.cells (paC a) 95)) w') := leaps_any v L hl _ (hS.below hB (Nat.le_refl _))
 have hBh : Hid (Below w.heap.size w (w.alloc (.cells (paC a) 95))) := hB
 clear hB hP hS
 unfold paV chN
 generalize hw1 : w.alloc (.cells (paC a) 95) = w1 at *
 generalize lpB L = lp at *
 by_cases h : a.p.p13 = 1
 ·rw [h] at c15
  cases lp
  ·rw [if_pos ⟨h,rfl⟩]
   go_enter Tryz.func74,Tryz.ntmps74
   go_wp2_with (go_at_call 106; refine hlp.out.mono ?_; rintro e w2 ⟨rfl,hb2⟩)
   go_ret
   exact ⟨rfl,hBh.out.trans (hb2.mono hBh.out.size)⟩
  ·rw [if_neg (by simp)]
   go_enter Tryz.func74,Tryz.ntmps74
   go_wp2_with (go_at_call 106; refine hlp.out.mono ?_; rintro e w2 ⟨rfl,hb2⟩)
   go_ret
   exact ⟨rfl,hBh.out.trans (hb2.mono hBh.out.size)⟩
 ·rw [if_neg (fun h' => h h'.1)]
  have h' : (a.p.p13 == 1) = false := by simpa using h
  clear h hlp
  go_enter Tryz.func74,Tryz.ntmps74
  go_wp2_with fail
  go_ret
  exact ⟨rfl,hBh.out⟩
def BkEnd (ps : List Pc) (b : Bool) (w : World) (e : Ending) (w' : World) : Prop := (∃ v,e = .returned (.tuple #[v,.bool b]) ∧ PcsAt w' v ps) ∧ Below w.heap.size w w'
theorem fits67 (v vs : Value) (l : List It) (ss : List Sl) (r : Sl) (hck : ckL l = 0) (hcs : ckS ss r = 0) (w : World) (hS : ItsAt w v l) (hV : SlsAt w vs ss) : Calls Tryz.prog 108 #[v,vs,.agg (slL r).toArray] w (BkEnd (lsL l ss r) false w) := by
 have hB := (Below.refl w.heap.size w).alloc (Nat.le_refl _) (Obj.cells (slL r).toArray 98)
 have hx : (w.alloc (.cells (slL r).toArray 98)).heap[w.heap.size]? = some (.cells (slL r).toArray 98 (0,0)) := World.alloc_heap_new w _
 have e0 : fbrE l ss r = 0 := by unfold fbrE; rw [if_neg (by rw [hck]; exact fun h => h rfl)]; exact hcs
 have hb : Hid (Calls Tryz.prog 150 #[v,vs,.agg (slL r).toArray] (w.alloc (.cells (slL r).toArray 98)) fun e w' => (∃ u,e = .returned (.tuple #[u,.int .i64 0]) ∧ PcsAt w' u (lsL l ss r)) ∧ Below (w.alloc (.cells (slL r).toArray 98)).heap.size (w.alloc (.cells (slL r).toArray 98)) w') := by
  refine (fbreak_any v vs l ss r (by have := ckS_few hcs; omega) _ (hS.below hB (Nat.le_refl _)) (hV.below hB (Nat.le_refl _))).mono ?_
  rintro e w' ⟨⟨u,rfl,hu⟩,h2⟩
  rw [e0] at hu ⊢
  rcases hu with ⟨h,_⟩ | ⟨_,h⟩
  ·exact absurd rfl h
  ·exact ⟨⟨u,rfl,h⟩,h2⟩
 have hBh : Hid (Below w.heap.size w (w.alloc (.cells (slL r).toArray 98))) := hB
 have hend : Hid (∀ W u,Below w.heap.size w W → PcsAt W u (lsL l ss r) → BkEnd (lsL l ss r) false w (.returned (.tuple #[u,.bool false])) W) := fun W u h1 h2 => ⟨⟨u,rfl,h2⟩,h1⟩
 obtain ⟨a1,c1,rfl,-⟩ := hS.ex
 obtain ⟨a2,c2,rfl,-⟩ := hV.ex
 clear hB hS hV e0 hck hcs
 generalize BkEnd (lsL l ss r) false w = E at *
 generalize hw1 : w.alloc (.cells (slL r).toArray 98) = w1 at *
 go_enter Tryz.func108,Tryz.ntmps108
 go_wp2_with (first | (refine wpList_load_row rfl 98 _ rfl w.heap.size rfl 98 _ (0,0) _ hx Tryz.underlying98 rfl (info25t _) ?_) | (go_at_call 150; refine hb.out.mono ?_; rintro e w2 ⟨⟨u,rfl,hu⟩,hb2⟩; have huh : Hid (PcsAt w2 u (lsL l ss r)) := hu; obtain ⟨a3,c3,rfl,-⟩ := hu.ex; clear hu))
 exact hend.out _ _ (hBh.out.trans (hb2.mono hBh.out.size)) huh.out
end Go.Proofs.YtaphggjakaghjaaGreatDoor

namespace Go.Proofs.YtaphggjakaghjaaGreatDoor
open Go.RowKit Go.Shelf
set_option maxRecDepth 100000
set_option maxHeartbeats 1000000

structure Lx where
 f : Int
 t : Int
 x : Int
 w : Int
 nt : Int
 hy : Bool
 fl : Int
def lxL (y : Lx) : List Value := [.int .i64 y.f,.int .i64 y.t,.int .i64 y.x,.int .i64 y.w,.int .i64 y.nt,.bool y.hy,.int .i64 y.fl]
theorem lxL_len (y : Lx) : (lxL y).length = 7 := rfl
theorem lxL_one (y : Lx) : ∀ u ∈ lxL y,u.oneCell' = true := by
 intro u hu; simp [lxL] at hu; rcases hu with rfl | rfl | rfl | rfl | rfl | rfl | rfl <;> rfl
theorem lxL_all (y : Lx) : (lxL y).toArray.all (·.oneCell') = true := all_oneCell_toArray (lxL_one y)
theorem infoL51 (y : Lx) : (Tryz.prog.info? 55).map (·.size) = some (lxL y).toArray.size := by show _ = some 7; kernel_rfl
def lx0 : Lx := ⟨0,0,0,0,0,false,0⟩
abbrev LxsAt (W : World) (v : Value) (l : List Lx) : Prop := RecAt 7 lxL W v l
def glK {α : Type} (z : α) (f : Nat → α) (N k : Nat) : List α := (List.range N).map fun i => if i < k then f i else z
def glL {α : Type} (f : Nat → α) (N : Nat) : List α := (List.range N).map f
section
variable {α : Type} {z : α} {f : Nat → α} {N k : Nat}
theorem glK_len : (glK z f N k).length = N := by simp [glK]
theorem glL_len : (glL f N).length = N := by simp [glL]
theorem glK_zero : glK z f N 0 = List.replicate N z := by
 apply List.ext_getElem
 ·simp [glK]
 ·intro i h1 h2; simp [glK]
theorem glK_all : glK z f N N = glL f N := by
 apply List.ext_getElem
 ·simp [glK,glL]
 ·intro i h1 h2
  have : i < N := by simpa [glK] using h1
  simp [glK,glL,this]
theorem glK_set (_hk : k < N) : (glK z f N k).set k (f k) = glK z f N (k + 1) := by
 apply List.ext_getElem
 ·simp [glK]
 ·intro i h1 h2
  have hi : i < N := by simpa [glK] using h1
  rw [List.getElem_set]
  simp only [glK,List.getElem_map,List.getElem_range]
  split
  ·rename_i e; subst e; rw [if_pos (by omega)]
  ·split
   ·rw [if_pos (by omega)]
   ·rw [if_neg (by omega)]
end
theorem infoL51z : ∃ i z,Tryz.prog.info? 55 = some i ∧ i.zero = some z ∧ i.size = 7 ∧ i.bytes = 56 ∧ z = .agg (lxL lx0).toArray := by
 have h : (Tryz.prog.info? 55).map (fun i => (i.zero,i.size,i.bytes)) = some (some (.agg (lxL lx0).toArray),7,56) := by kernel_rfl
 cases hi : Tryz.prog.info? 55 with
 | none => rw [hi] at h; cases h
 | some i =>
  rw [hi] at h
  simp only [Option.map_some,Option.some.injEq,Prod.mk.injEq] at h
  obtain ⟨h1,h2,h3⟩ := h
  exact ⟨i,_,rfl,h1,h2,h3,rfl⟩
theorem make34 {n : Nat} (h : n ≤ 9100) (W : World) : (Instr.makeSlice 44 (.int .i64 (n : Int)) (.int .i64 (n : Int))).run Tryz.prog W = .ok (.slice (some ⟨W.heap.size,0,none⟩) n n) (W.alloc (.cells ((List.replicate n lx0).flatMap lxL).toArray 55)) := by
 obtain ⟨i9,z,hi,hz0,hz1,hz2,rfl⟩ := infoL51z
 have := run_makeSlice (P := Tryz.prog) (w := W) 44 55 i9 _ Tryz.underlying44 hi hz0 .i64 .i64 n n (by omega) (by omega) (by rw [hz1]; omega) (by rw [hz2]; omega) (by omega)
 rw [hz1,Int.toNat_natCast] at this
 rw [← made_rec lxL_len (by omega)]
 exact this
theorem made34 (W : World) (n : Nat) : RB 7 lxL (W.alloc (.cells ((List.replicate n lx0).flatMap lxL).toArray 55)) W.heap.size (List.replicate n lx0) :=
 RB.of_row (World.alloc_heap_new W _) fun i hi j v hv => by
  have hj : j < 7 := by have := (List.getElem?_eq_some_iff.1 hv).1; rw [lxL_len] at this; exact this
  have := fm_get lxL_len (List.replicate n lx0) hi j hj
  rw [hv] at this
  simpa using this
theorem low59 (a : Option Addr) (n cap f : Nat) (h1 : f ≤ n) (h2 : n ≤ cap) : ∃ a',(∀ W : World,(Instr.slice 116 (.slice a n cap) (some (.int .i64 (f : Int))) none none).run Tryz.prog W = .ok (.slice a' (n - f) (cap - f)) W) ∧ ∀ b o,a = some ⟨b,o,none⟩ → f < n → a' = some ⟨b,o + f * 5,none⟩ := by
 have he : Tryz.prog.elem 116 = 122 := by kernel_rfl
 have hu : Tryz.prog.underlying 116 = some (.slice (Tryz.prog.elem 116)) := by rw [he]; exact Tryz.underlying116
 have hr := fun W => run_slice_l (P := Tryz.prog) (w := W) 116 a n cap hu .i64 f (by omega) (by omega)
 have hs : ∀ W,(sizeOf (Tryz.prog.elem 116)).run Tryz.prog W = .ok 5 W := fun W => by kernel_rfl
 simp only [hs,Result.andThen,sliced,Int.toNat_natCast] at hr
 refine ⟨_,hr,fun b o e hlt => ?_⟩
 rw [if_neg (by omega),e]
 simp [addr_add]
theorem drop_pcs {W : World} {a : Option Addr} {n cap : Nat} {l : List Pc} (h : PcsAt W (.slice a n cap) l) {f : Nat} (h1 : f ≤ l.length) {a' : Option Addr} (ha : ∀ b o,a = some ⟨b,o,none⟩ → f < l.length → a' = some ⟨b,o + f * 5,none⟩) : PcsAt W (.slice a' (l.length - f) (cap - f)) (l.drop f) := by
 have hle := h.le _ _ _ rfl
 obtain ⟨a0,cap0,e1,e2⟩ := h.ex
 cases e1
 have hl : (l.drop f).length = l.length - f := List.length_drop
 refine ⟨⟨a',cap - f,by rw [hl],?_⟩,fun _ _ _ e => by cases e; omega⟩
 rcases e2 with e2 | ⟨b,o,rfl,hb,hc⟩
 ·left; subst e2; simp
 ·by_cases hft : f < l.length
  ·refine .inr ⟨b,o + f * 5,ha b o rfl hft,hb,fun i hi j u hu => ?_⟩
   rw [hl] at hi
   rw [List.getElem_drop] at hu
   have := hc (f + i) (by omega) j u hu
   rw [show o + f * 5 + i * 5 + j = o + (f + i) * 5 + j by omega]
   exact this
  ·left
   exact List.drop_eq_nil_of_le (by omega)
theorem pcs_range {W : World} {a : Option Addr} {n cap : Nat} {l : List Pc} (h : PcsAt W (.slice a n cap) l) {i : Nat} (hi : i < l.length) : ∃ b o,a = some ⟨b,o,none⟩ ∧ b < W.heap.size ∧ W.rangeAt b (o + i * 5) (pcL l[i]) := by
 obtain ⟨a',cap',h1,h2⟩ := h.ex
 cases h1
 rcases h2 with h2 | ⟨b,o,rfl,hb,hc⟩
 ·subst h2; simp at hi
 ·exact ⟨b,o,rfl,hb,fun j v hv => hc i hi j v hv⟩
structure LrS (X G P Z : Nat) (a : Pa) (L : List It) (pl : List Pc) (p : Pc) (s : Sl) (M : List Lx) (v vp : Value) (W : World) : Prop where
 pb : PB W X a
 hl : ItsAt W v L
 hp : PcsAt W vp pl
 bp : W.heap[P]? = some (.cells (pcL p).toArray 122 (0,0))
 bs : W.heap[Z]? = some (.cells (slL s).toArray 98 (0,0))
 rb : RB 7 lxL W G M
section
variable {X G P Z : Nat} {a : Pa} {L : List It} {pl : List Pc} {p : Pc} {s : Sl} {M : List Lx} {v vp : Value} {W W' : World}
theorem LrS.below (h : LrS X G P Z a L pl p s M v vp W) (hb : Below W.heap.size W W') : LrS X G P Z a L pl p s M v vp W' :=
 ⟨h.pb.below hb h.pb.lt,h.hl.below hb (Nat.le_refl _),h.hp.below hb (Nat.le_refl _),(hb.block _ (Array.getElem?_eq_some_iff.1 h.bp).1).trans h.bp,(hb.block _ (Array.getElem?_eq_some_iff.1 h.bs).1).trans h.bs,h.rb.below hb h.rb.lt⟩
end
theorem load_r70 {a : Act} {w : World} {D : Nat} {p : Pc} {o : Oper} {x : Operand} (h : w.heap[D]? = some (.cells (pcL p).toArray 122 (0,0))) (ho : o.op = .load 122 x) (hx : a.eval x = .pointer (some ⟨D,0,none⟩)) : (execOp a.eval o).run Tryz.prog w = .ok (.value (.agg (pcL p).toArray)) w := by
 have hl := run_loadVar_row (P := Tryz.prog) w D 122 122 (pcL p).toArray (0,0) _ h Tryz.underlying122 rfl (info41 p)
 simp [execOp,ho,hx,Instr.loadAt,Instr.sureAddr,hl]
theorem load_r30 {a : Act} {w : World} {D : Nat} {p : Sl} {o : Oper} {x : Operand} (h : w.heap[D]? = some (.cells (slL p).toArray 98 (0,0))) (ho : o.op = .load 98 x) (hx : a.eval x = .pointer (some ⟨D,0,none⟩)) : (execOp a.eval o).run Tryz.prog w = .ok (.value (.agg (slL p).toArray)) w := by
 have hl := run_loadVar_row (P := Tryz.prog) w D 98 98 (slL p).toArray (0,0) _ h Tryz.underlying98 rfl (info25t p)
 simp [execOp,ho,hx,Instr.loadAt,Instr.sureAddr,hl]
theorem wrap_sp {k : Nat} (h : k ≤ 9000) : IntKind.i64.wrap ((k : Int) + 1) = (k : Int) + 1 := by rw [IntKind.wrap_i64]; omega
def frp11 (v0 v1 v2 v3 v4 v5 v6 v7 v8 v9 xa xb xc xd xe xf xg xh xi xj xk xl xm xn xo xp xq xr xt xu xv xw xx xy xz xA xB xC xD xE xF xG xH xI xJ xK xL xM xN xO xP xQ xR xS xT xU xV xW xX xY xZ ya yb yc yd ye yf yg yh yi yj yk yl ym yn yo yp yq yr yt yu yv yw yx yy yz yA : Value) : Act := { tmps := #[v0,v1,v2,v3,v4,v5,v6,v7,v8,v9,xa,xb,xc,xd,xe,xf,xg,xh,xi,xj,xk,xl,xm,xn,xo,xp,xq,xr,xt,xu,xv,xw,xx,xy,xz,xA,xB,xC,xD,xE,xF,xG,xH,xI,xJ,xK,xL,xM,xN,xO,xP,xQ,xR,xS,xT,xU,xV,xW,xX,xY,xZ,ya,yb,yc,yd,ye,yf,yg,yh,yi,yj,yk,yl,ym,yn,yo,yp,yq,yr,yt,yu,yv,yw,yx,yy,yz,yA],defers := [] }
def opp11_12_0 (ps : String) : Oper := ⟨some 57,.load 95 (.tmp 3),95,ps,#[],none⟩
def opp11_12_1 (ps : String) : Oper := ⟨some 58,.move (.tmp 11),111,ps,#[],none⟩
def opp11_12_2 (ps : String) : Oper := ⟨some 59,.move (.tmp 12),116,ps,#[],none⟩
def opp11_12_3 (ps : String) : Oper := ⟨some 60,.move (.tmp 16),3,ps,#[],none⟩
def opp11_12_4 (ps : String) : Oper := ⟨some 61,.binOp .add 3 (.tmp 60) (.const (.int .i64 1)) 3,3,ps,#[⟨3,.data⟩],none⟩
def opp11_12_5 (ps : String) : Oper := ⟨some 62,.slice 116 (.tmp 59) (some (.tmp 61)) none none,116,ps,#[⟨2,.data⟩,⟨4,.data⟩],none⟩
def opp11_12_6 (ps : String) : Oper := ⟨some 63,.call ⟨.value (.func 76),#[.tmp 57,.tmp 58,.tmp 62],#[95,111,116]⟩,3,ps,#[⟨0,.data⟩,⟨1,.data⟩,⟨5,.data⟩],none⟩
def opp11_12_7 (ps : String) : Oper := ⟨some 19,.assign (.tmp 63),3,ps,#[⟨6,.data⟩,⟨6,.chain⟩,⟨0,.phase⟩,⟨1,.phase⟩,⟨2,.phase⟩,⟨3,.phase⟩,⟨4,.phase⟩,⟨5,.phase⟩,⟨6,.phase⟩],none⟩
def opp11_12 (ps : String) : Array Oper := #[opp11_12_0 ps,opp11_12_1 ps,opp11_12_2 ps,opp11_12_3 ps,opp11_12_4 ps,opp11_12_5 ps,opp11_12_6 ps,opp11_12_7 ps]

theorem ly_r12 (Q : Exit → Act → World → Prop) (hQ : ∀ c x (n : Nat) v w,Q (.panic c) (x.put (some n) v) w → Q (.panic c) x w) (id : Nat) (ps : String) {v0 v1 v2 v4 v5 v6 v7 v8 v9 xa xd xe xf xh xi xj xk xl xm xn xo xp xq xr xt xu xv xw xx xy xz xA xB xC xD xE xF xG xH xI xJ xK xL xM xN xO xP xQ xR xS xT xU xV xW xX xY xZ ya yb yc yd ye yf yg yh yi yj yk yl ym yn yo yp yq yr yt yu yv yw yx yy yz yA : Value} (z : World) (X G P Z k : Nat) (a : Pa) (L : List It) (pl : List Pc) (p : Pc) (s : Sl) (M : List Lx) (a1 a2 a3 : Option Addr) (c1 c2 : Nat) (w : World) (hS : LrS X G P Z a L pl p s M (.slice a1 L.length c1) (.slice a2 pl.length c2) (World.drew w))
  (hz0 : Below z.heap.size z (World.drew w)) (hk : k + 1 ≤ pl.length) (hk8 : k ≤ 9000) (hlt : ∀ p ∈ (pl.drop (k + 1)).head?,p.a < L.length) (hsl : ∀ W : World,(Instr.slice 116 (.slice a2 pl.length c2) (some (.int .i64 ((k : Int) + 1))) none none).run Tryz.prog W = .ok (.slice a3 (pl.length - (k + 1)) (c2 - (k + 1))) W) (h3 : ∀ b o,a2 = some ⟨b,o,none⟩ → k + 1 < pl.length → a3 = some ⟨b,o + (k + 1) * 5,none⟩)
  (hq : ∀ w',Below z.heap.size z w' → (LrS X G P Z a L pl p s M (.slice a1 L.length c1) (.slice a2 pl.length c2)) w' → Q .normal (frp11 v0 v1 v2 (.pointer (some ⟨X,0,none⟩)) v4 v5 v6 v7 v8 v9 xa (.slice a1 L.length c1) (.slice a2 pl.length c2) xd xe xf (.int .i64 (k : Nat)) xh xi (.int .i64 (edI a L (pl.drop (k + 1)))) xk xl xm xn xo xp xq xr xt xu xv xw xx xy xz xA xB xC xD xE xF xG xH xI xJ xK xL xM xN xO xP xQ xR xS xT xU xV (.agg (paC a)) (.slice a1 L.length c1) (.slice a2 pl.length c2) (.int .i64 (k : Nat)) (.int .i64 ((k : Int) + 1)) (.slice a3 (pl.length - (k + 1)) (c2 - (k + 1))) (.int .i64 (edI a L (pl.drop (k + 1)))) yd ye yf yg yh yi yj yk yl ym yn yo yp yq yr yt yu yv yw yx yy yz yA) w') :
  (Code.region id (opp11_12 ps) true).wp Tryz.prog Q (frp11 v0 v1 v2 (.pointer (some ⟨X,0,none⟩)) v4 v5 v6 v7 v8 v9 xa (.slice a1 L.length c1) (.slice a2 pl.length c2) xd xe xf (.int .i64 (k : Nat)) xh xi xj xk xl xm xn xo xp xq xr xt xu xv xw xx xy xz xA xB xC xD xE xF xG xH xI xJ xK xL xM xN xO xP xQ xR xS xT xU xV xW xX xY xZ ya yb yc yd ye yf yg yh yi yj yk yl ym yn yo yp yq yr yt yu yv yw yx yy yz yA) w := by
 refine wp_region_held (S := LrS X G P Z a L pl p s M (.slice a1 L.length c1) (.slice a2 pl.length c2)) (by kernel_rfl) ?_
 change wpAnyH _ _ _ _ _ 8 _ _ (World.drew w)
 refine take_r 0 ⟨some 57,.load 95 (.tmp 3),95,ps,#[],none⟩ (.agg (paC a)) hQ (fun w hS => load_pa hS.pb rfl rfl) hS ?_
 refine take_r 1 ⟨some 58,.move (.tmp 11),111,ps,#[],none⟩ (.slice a1 L.length c1) hQ (fun w _ => by kernel_rfl) hS ?_
 refine take_r 2 ⟨some 59,.move (.tmp 12),116,ps,#[],none⟩ (.slice a2 pl.length c2) hQ (fun w _ => by kernel_rfl) hS ?_
 refine take_r 3 ⟨some 60,.move (.tmp 16),3,ps,#[],none⟩ (.int .i64 (k : Nat)) hQ (fun w _ => by kernel_rfl) hS ?_
 refine take_r 4 ⟨some 61,.binOp .add 3 (.tmp 60) (.const (.int .i64 1)) 3,3,ps,#[⟨3,.data⟩],none⟩ (.int .i64 ((k : Int) + 1)) hQ (fun w hS => by unfold frp11; go_simp; try exact wrap_sp hk8) hS ?_
 refine take_k 5 (opp11_12_5 ps) (.slice a3 (pl.length - (k + 1)) (c2 - (k + 1))) (frp11 v0 v1 v2 (.pointer (some ⟨X,0,none⟩)) v4 v5 v6 v7 v8 v9 xa (.slice a1 L.length c1) (.slice a2 pl.length c2) xd xe xf (.int .i64 (k : Nat)) xh xi xj xk xl xm xn xo xp xq xr xt xu xv xw xx xy xz xA xB xC xD xE xF xG xH xI xJ xK xL xM xN xO xP xQ xR xS xT xU xV (.agg (paC a)) (.slice a1 L.length c1) (.slice a2 pl.length c2) (.int .i64 (k : Nat)) (.int .i64 ((k : Int) + 1)) (.slice a3 (pl.length - (k + 1)) (c2 - (k + 1))) yc yd ye yf yg yh yi yj yk yl ym yn yo yp yq yr yt yu yv yw yx yy yz yA) hQ (fun w hS => by have e := hsl w; unfold frp11 opp11_12_5; go_simp) hS ?_
 refine want_k 6 (opp11_12_6 ps) fun K hK => ?_
 unfold frp11 opp11_12_6
 go_simp
 refine (end33 a (.slice a1 L.length c1) (.slice a3 (pl.length - (k + 1)) (c2 - (k + 1))) L (pl.drop (k + 1)) hlt _ hS.hl (drop_pcs hS.hp hk h3)).mono ?_
 rintro e w1 ⟨rfl,hb1⟩
 have hS1 : LrS X G P Z a L pl p s M (.slice a1 L.length c1) (.slice a2 pl.length c2) w1 := hS.below hb1
 have hz1 := hz0.trans (hb1.mono hz0.size)
 refine hK _ _ hS1 (cast_h (frp11 v0 v1 v2 (.pointer (some ⟨X,0,none⟩)) v4 v5 v6 v7 v8 v9 xa (.slice a1 L.length c1) (.slice a2 pl.length c2) xd xe xf (.int .i64 (k : Nat)) xh xi xj xk xl xm xn xo xp xq xr xt xu xv xw xx xy xz xA xB xC xD xE xF xG xH xI xJ xK xL xM xN xO xP xQ xR xS xT xU xV (.agg (paC a)) (.slice a1 L.length c1) (.slice a2 pl.length c2) (.int .i64 (k : Nat)) (.int .i64 ((k : Int) + 1)) (.slice a3 (pl.length - (k + 1)) (c2 - (k + 1))) (.int .i64 (edI a L (pl.drop (k + 1)))) yd ye yf yg yh yi yj yk yl ym yn yo yp yq yr yt yu yv yw yx yy yz yA) (by kernel_rfl) ?_)
 clear hK K
 refine take_r 7 ⟨some 19,.assign (.tmp 63),3,ps,#[⟨6,.data⟩,⟨6,.chain⟩,⟨0,.phase⟩,⟨1,.phase⟩,⟨2,.phase⟩,⟨3,.phase⟩,⟨4,.phase⟩,⟨5,.phase⟩,⟨6,.phase⟩],none⟩ (.int .i64 (edI a L (pl.drop (k + 1)))) hQ (fun w _ => by kernel_rfl) hS1 ?_
 exact wpAnyH_done (by kernel_rfl) (hq _ hz1 hS1) _
end Go.Proofs.YtaphggjakaghjaaGreatDoor
