/-
  What is proved here: the plan that Break of least makes, its last region.
  What is proved here: what Break of least answers.
-/
import Derived.Test.YtfndocmgonlhpaaGreatDoorG1
import Derived.Test.YtfndocmgonlhpaaGreatDoorG34
namespace Go.Proofs.YtfndocmgonlhpaaGreatDoor
open Go.RowKit Go.Shelf
set_option maxRecDepth 100000
set_option maxHeartbeats 1000000

structure BkS (P : Pl) (f : Nat × Nat → Option Wy) (M T : Nat) (y : Wy) (W : World) : Prop where
 p : PlM P f M W
 t : W.heap[T]? = some (.cells (wyL y).toArray 58 (0,0))
theorem BkS.below {P : Pl} {f : Nat × Nat → Option Wy} {M T : Nat} {y : Wy} {W W' : World} (h : BkS P f M T y W) (hb : Below W.heap.size W W') : BkS P f M T y W' := ⟨h.p.below hb,(hb.block _ (Array.getElem?_eq_some_iff.1 h.t).1).trans h.t⟩
theorem BkS.c0 {P : Pl} {f : Nat × Nat → Option Wy} {M T : Nat} {y : Wy} {W : World} (h : BkS P f M T y W) : W.cell? ⟨T,0,none⟩ = some (.int .i64 y.d) := by rw [Lib.cell_of_heap h.t]; rfl
def ob4_11_0 (ps : String) : Oper := ⟨some 46,.load 58 (.tmp 11),58,ps,#[],none⟩
def ob4_11_1 (ps : String) : Oper := ⟨some 47,.call ⟨.value (.func 17),#[.tmp 10,.tmp 46],#[56,58]⟩,22,ps,#[⟨0,.data⟩],none⟩
def ob4_11_2 (ps : String) : Oper := ⟨some 48,.fieldAddr 58 (.tmp 11) 0,0,ps,#[⟨4,.gcOnly .lateStores⟩],none⟩
def ob4_11_3 (ps : String) : Oper := ⟨some 49,.load 3 (.tmp 48),3,ps,#[⟨2,.data⟩,⟨4,.gcOnly .lateStores⟩],none⟩
def ob4_11_4 (ps : String) : Oper := ⟨some 6,.assign (.tmp 47),22,ps,#[⟨1,.data⟩,⟨1,.chain⟩,⟨0,.phase⟩,⟨1,.phase⟩,⟨2,.textOnly .lateStores⟩,⟨3,.textOnly .lateStores⟩],none⟩
def ob4_11_5 (ps : String) : Oper := ⟨some 7,.assign (.tmp 49),3,ps,#[⟨3,.data⟩,⟨4,.chain⟩,⟨0,.phase⟩,⟨1,.phase⟩,⟨2,.phase⟩,⟨3,.phase⟩,⟨4,.phase⟩],none⟩
def ob4_11_6 (ps : String) : Oper := ⟨some 8,.assign (.const (.int .i64 0)),23,ps,#[⟨5,.chain⟩,⟨0,.phase⟩,⟨1,.phase⟩,⟨2,.phase⟩,⟨3,.phase⟩,⟨4,.phase⟩,⟨5,.phase⟩],none⟩
def ob4_11 (ps : String) : Array Oper := #[ob4_11_0 ps,ob4_11_1 ps,ob4_11_2 ps,ob4_11_3 ps,ob4_11_4 ps,ob4_11_5 ps,ob4_11_6 ps]

theorem br_r11 (Q : Exit → Act → World → Prop) (hQ : ∀ c x (n : Nat) v w,Q (.panic c) (x.put (some n) v) w → Q (.panic c) x w) (id : Nat) (ps : String) {v0 v1 v2 v3 v4 v5 v6 v7 v8 v9 xa xb xc xd xe xf xg xh xi xj xk xl xm xn xo xp xq xr xt xu xv xw xx xy xz xA xB xC xD xE xF xG xH xI xJ xK xL xM : Value} (P : Pl) (f : Nat × Nat → Option Wy) (M T : Nat) (y : Wy) (w : World) (hS : BkS P f M T y (World.drew w))
  (hpi : Hid (∀ W,PlM P f M W → Calls Tryz.prog 17 #[(.pointer (some ⟨P.B,0,none⟩)),.agg #[.int .i64 y.d,.int .i64 y.n,.int .i64 y.f]] W fun e w' => ∃ g,e = .returned (.slice (some ⟨g,0,none⟩) y.n y.n) ∧ W.heap.size ≤ g ∧ RB 5 pcL w' g (pwL P f y.n (P.sts.length - 1) y) ∧ Below W.heap.size W w'))
  (hq : ∀ g w',RB 5 pcL w' g (pwL P f y.n (P.sts.length - 1) y) → Below w.heap.size w w' → Q .normal (fb4 v0 v1 v2 v3 v4 v5 (.slice (some ⟨g,0,none⟩) y.n y.n) (.int .i64 y.d) (.int .i64 0) v9 (.pointer (some ⟨P.B,0,none⟩)) (.pointer (some ⟨T,0,none⟩)) xa xb xc xd xe xf xg xh xi xj xk xl xm xn xo xp xq xr xt xu xv xw xx xy xz xA xB xC xD xE xF xG xH xI (wyV y) (.slice (some ⟨g,0,none⟩) y.n y.n) (.pointer (some ⟨T,0,none⟩)) (.int .i64 y.d)) w') :
  (Code.region id (ob4_11 ps) true).wp Tryz.prog Q (fb4 v0 v1 v2 v3 v4 v5 v6 v7 v8 v9 (.pointer (some ⟨P.B,0,none⟩)) (.pointer (some ⟨T,0,none⟩)) xa xb xc xd xe xf xg xh xi xj xk xl xm xn xo xp xq xr xt xu xv xw xx xy xz xA xB xC xD xE xF xG xH xI xJ xK xL xM) w := by
 refine wp_region_held (S := BkS P f M T y) (by kernel_rfl) ?_
 change wpAnyH _ _ _ _ _ 7 _ _ (World.drew w)
 refine take_h (i := 0) (oi := ob4_11_0 ps) (fuel := 6) (v := (wyV y)) (fb4 v0 v1 v2 v3 v4 v5 v6 v7 v8 v9 (.pointer (some ⟨P.B,0,none⟩)) (.pointer (some ⟨T,0,none⟩)) xa xb xc xd xe xf xg xh xi xj xk xl xm xn xo xp xq xr xt xu xv xw xx xy xz xA xB xC xD xE xF xG xH xI (wyV y) xK xL xM) (by kernel_rfl) (by kernel_rfl) (by kernel_rfl) (by kernel_rfl) (fun c x w => hQ c x _ _ w) (by kernel_rfl) (fun w hS => exec_load_mid (x := (Operand.tmp 11)) 58 T 0 (wyL y) _ (by kernel_rfl) (by kernel_rfl) (range_row hS.t) Tryz.underlying58 rfl (info58l y)) (by kernel_rfl) hS ?_
 refine take_h (i := 2) (oi := ob4_11_2 ps) (fuel := 5) (v := (.pointer (some ⟨T,0,none⟩))) (fb4 v0 v1 v2 v3 v4 v5 v6 v7 v8 v9 (.pointer (some ⟨P.B,0,none⟩)) (.pointer (some ⟨T,0,none⟩)) xa xb xc xd xe xf xg xh xi xj xk xl xm xn xo xp xq xr xt xu xv xw xx xy xz xA xB xC xD xE xF xG xH xI (wyV y) xK (.pointer (some ⟨T,0,none⟩)) xM) (by kernel_rfl) (by kernel_rfl) (by kernel_rfl) (by kernel_rfl) (fun c x w => hQ c x _ _ w) (by kernel_rfl) (fun w hS => by unfold fb4 ob4_11_2; go_simp) (by kernel_rfl) hS ?_
 refine take_h (i := 3) (oi := ob4_11_3 ps) (fuel := 4) (v := (.int .i64 y.d)) (fb4 v0 v1 v2 v3 v4 v5 v6 v7 v8 v9 (.pointer (some ⟨P.B,0,none⟩)) (.pointer (some ⟨T,0,none⟩)) xa xb xc xd xe xf xg xh xi xj xk xl xm xn xo xp xq xr xt xu xv xw xx xy xz xA xB xC xD xE xF xG xH xI (wyV y) xK (.pointer (some ⟨T,0,none⟩)) (.int .i64 y.d)) (by kernel_rfl) (by kernel_rfl) (by kernel_rfl) (by kernel_rfl) (fun c x w => hQ c x _ _ w) (by kernel_rfl) (fun w hS => by have e := hS.c0; unfold fb4 ob4_11_3; go_simp) (by kernel_rfl) hS ?_
 refine want_k 1 (ob4_11_1 ps) fun K hK => ?_
 unfold fb4 ob4_11_1
 go_simp
 refine (hpi.out _ hS.p).mono ?_
 rintro e w1 ⟨g,rfl,q1,q2,B1⟩
 have hS1 : BkS P f M T y w1 := hS.below B1
 refine hK _ _ hS1 (cast_h (fb4 v0 v1 v2 v3 v4 v5 v6 v7 v8 v9 (.pointer (some ⟨P.B,0,none⟩)) (.pointer (some ⟨T,0,none⟩)) xa xb xc xd xe xf xg xh xi xj xk xl xm xn xo xp xq xr xt xu xv xw xx xy xz xA xB xC xD xE xF xG xH xI (wyV y) (.slice (some ⟨g,0,none⟩) y.n y.n) (.pointer (some ⟨T,0,none⟩)) (.int .i64 y.d)) (by kernel_rfl) ?_)
 clear hK K
 refine take_h (i := 4) (oi := ob4_11_4 ps) (fuel := 2) (v := (.slice (some ⟨g,0,none⟩) y.n y.n)) (fb4 v0 v1 v2 v3 v4 v5 (.slice (some ⟨g,0,none⟩) y.n y.n) v7 v8 v9 (.pointer (some ⟨P.B,0,none⟩)) (.pointer (some ⟨T,0,none⟩)) xa xb xc xd xe xf xg xh xi xj xk xl xm xn xo xp xq xr xt xu xv xw xx xy xz xA xB xC xD xE xF xG xH xI (wyV y) (.slice (some ⟨g,0,none⟩) y.n y.n) (.pointer (some ⟨T,0,none⟩)) (.int .i64 y.d)) (by kernel_rfl) (by kernel_rfl) (by kernel_rfl) (by kernel_rfl) (fun c x w => hQ c x _ _ w) (by kernel_rfl) (fun w _ => by kernel_rfl) (by kernel_rfl) hS1 ?_
 refine take_h (i := 5) (oi := ob4_11_5 ps) (fuel := 1) (v := (.int .i64 y.d)) (fb4 v0 v1 v2 v3 v4 v5 (.slice (some ⟨g,0,none⟩) y.n y.n) (.int .i64 y.d) v8 v9 (.pointer (some ⟨P.B,0,none⟩)) (.pointer (some ⟨T,0,none⟩)) xa xb xc xd xe xf xg xh xi xj xk xl xm xn xo xp xq xr xt xu xv xw xx xy xz xA xB xC xD xE xF xG xH xI (wyV y) (.slice (some ⟨g,0,none⟩) y.n y.n) (.pointer (some ⟨T,0,none⟩)) (.int .i64 y.d)) (by kernel_rfl) (by kernel_rfl) (by kernel_rfl) (by kernel_rfl) (fun c x w => hQ c x _ _ w) (by kernel_rfl) (fun w _ => by kernel_rfl) (by kernel_rfl) hS1 ?_
 refine take_h (i := 6) (oi := ob4_11_6 ps) (fuel := 0) (v := (.int .i64 0)) (fb4 v0 v1 v2 v3 v4 v5 (.slice (some ⟨g,0,none⟩) y.n y.n) (.int .i64 y.d) (.int .i64 0) v9 (.pointer (some ⟨P.B,0,none⟩)) (.pointer (some ⟨T,0,none⟩)) xa xb xc xd xe xf xg xh xi xj xk xl xm xn xo xp xq xr xt xu xv xw xx xy xz xA xB xC xD xE xF xG xH xI (wyV y) (.slice (some ⟨g,0,none⟩) y.n y.n) (.pointer (some ⟨T,0,none⟩)) (.int .i64 y.d)) (by kernel_rfl) (by kernel_rfl) (by kernel_rfl) (by kernel_rfl) (fun c x w => hQ c x _ _ w) (by kernel_rfl) (fun w _ => by kernel_rfl) (by kernel_rfl) hS1 ?_
 exact wpAnyH_done (by kernel_rfl) (hq _ _ q2 ((below_drew w).trans B1)) _
theorem rec_cell {α : Type} {k : Nat} {f : α → List Value} {W : World} {b o n cap : Nat} {rs : List α} (h : RecAt k f W (.slice (some ⟨b,o,none⟩) n cap) rs) (hn : 0 < rs.length) : b < W.heap.size ∧ ∀ i (hi : i < rs.length) j u,(f rs[i])[j]? = some u → W.cell? ⟨b,o + i * k + j,none⟩ = some u := by
 obtain ⟨a,c,e,h2⟩ := h.ex
 rcases h2 with h2 | ⟨b',o',e',hb,hc⟩
 ·rw [h2] at hn; cases hn
 ·subst e'
  cases e
  exact ⟨hb,hc⟩
theorem MapW.nocell {w : World} {mb M : Nat} {f : Nat × Nat → Option Wy} (h : MapW w mb f M) (j : Nat) : w.cell? ⟨mb,j,none⟩ = none := by
 obtain ⟨D,⟨es,clock,hb2,_⟩,_⟩ := h
 unfold World.cell?
 simp [hb2]
def plB (l : List It) (ss : List Sl) (r : Sl) (B gs os cs gw ow cw mb : Nat) : Pl := ⟨B,gs,os,cs,gw,ow,cw,mb,stopsL l,wdsL ss r⟩
theorem stops_some (l : List It) : 0 < (stopsL l).length := by rw [stopsL_len]; unfold spA; simp
theorem wds_some (ss : List Sl) (r : Sl) : 0 < (wdsL ss r).length := by unfold wdsL; rw [wdL_len]; exact (kN_le _ _ _).2 (by omega)
theorem plB_ok {l : List It} {ss : List Sl} {r : Sl} (hck : ckL l = 0) (hcs : ckS ss r = 0) (B gs os cs gw ow cw mb : Nat) : PlOk l (plB l ss r B gs os cs gw ow cw mb) := by
 refine ⟨hck,fun x hx => ⟨stopsL_f hck x hx,stopsL_ok hck x hx⟩,fun x hx => ?_,⟨stops_some l,?_⟩,⟨wds_some ss r,?_⟩⟩
 ·have hx' : x ∈ wdsL ss r := hx
  unfold wdsL wdL at hx'
  obtain ⟨i,-,rfl⟩ := List.mem_map.1 hx'
  exact (okS_rng (slN_ok hcs i)).2
 ·show (stopsL l).length ≤ _
  rw [stopsL_len]
  have := spA_len l
  have := ck_len hck
  omega
 ·show (wdsL ss r).length ≤ _
  unfold wdsL
  rw [wdL_len]
  have := (kN_le (wdF ss r) r.w (ss.length + 1)).1
  have := ckS_few hcs
  omega
theorem plan_made {l : List It} {ss : List Sl} {r : Sl} {W : World} {gs os cs gw ow cw mb R : Nat} (hs : StsAt W (.slice (some ⟨gs,os,none⟩) (stopsL l).length cs) (stopsL l)) (hw : IntsAt W (.slice (some ⟨gw,ow,none⟩) (wdsL ss r).length cw) (wdsL ss r)) (hm : MapW W mb (fun _ => none) 0)
  (hR : W.heap[R]? = some (.cells #[.slice none 0 0,.slice none 0 0,.map none] 56 (0,0))) :
  PlM (plB l ss r R gs os cs gw ow cw mb) (fun _ => none) 0 (W.setRow R #[.slice (some ⟨gs,os,none⟩) (stopsL l).length cs,.slice (some ⟨gw,ow,none⟩) (wdsL ss r).length cw,.map (some mb)]) := by
 obtain ⟨s1,s2⟩ := rec_cell hs (stops_some l)
 obtain ⟨w1,w2⟩ := rec_cell hw (wds_some ss r)
 have ht := Turns.setRow (X := fun k => k = R) W rfl #[.slice (some ⟨gs,os,none⟩) (stopsL l).length cs,.slice (some ⟨gw,ow,none⟩) (wdsL ss r).length cw,.map (some mb)]
 have cs0 : ∀ j n,W.cell? ⟨R,j,none⟩ ≠ some (.int .i64 n) := fun j n e => by
  rw [Lib.cell_of_heap hR] at e
  match j,e with
  | 0,e => cases e
  | 1,e => cases e
  | 2,e => cases e
  | j + 3,e => simp at e
 have es := s2 0 (stops_some l) 0 _ rfl
 have ew := w2 0 (wds_some ss r) 0 _ rfl
 have nsR : gs ≠ R := fun e => by rw [e] at es; exact cs0 _ _ es
 have nwR : gw ≠ R := fun e => by rw [e] at ew; exact cs0 _ _ ew
 have nsm : gs ≠ mb := fun e => by rw [e,hm.nocell] at es; cases es
 have nwm : gw ≠ mb := fun e => by rw [e,hm.nocell] at ew; cases ew
 have nRm : R ≠ mb := fun e => by
  have h1 := hm.nocell 0
  rw [← e,Lib.cell_of_heap hR] at h1
  cases h1
 refine ⟨⟨setRow_heap _ _ _ _ _ _ hR,fun i hi => ?_,fun i hi => ?_,Nat.lt_of_lt_of_le w1 ht.size,Nat.lt_of_lt_of_le s1 ht.size,nRm,nsm,nwm⟩,hm.turns ht (fun e => nRm e.symm)⟩
 ·exact StAt.turns (W := W) ⟨s1,fun j u hu => s2 i hi j u hu⟩ ht nsR
 ·have := w2 i hi 0 _ rfl
  rw [Nat.mul_one,Nat.add_zero] at this
  exact cell_turns this w1 ht nwR
end Go.Proofs.YtfndocmgonlhpaaGreatDoor

namespace Go.Proofs.YtfndocmgonlhpaaGreatDoor
open Go.RowKit Go.Shelf
set_option maxRecDepth 100000
set_option maxHeartbeats 4000000

def BrP (P : Pl) (ps : List Pc) (d c : Int) : Prop := match endO P (srF P (fun _ => none)) with
 | none => ps = [] ∧ d = 0 ∧ c = 6
 | some y => ps = pwL P (srF P (fun _ => none)) y.n (P.sts.length - 1) y ∧ d = y.d ∧ c = 0
def BrR (l : List It) (ss : List Sl) (r : Sl) (ps : List Pc) (d c : Int) : Prop :=
 if rfE l ss r ≠ 0 then ps = [] ∧ d = 0 ∧ c = rfE l ss r
 else if sk l 0 = l.length then ps = [⟨l.length,l.length,false,false,0⟩] ∧ d = 100 ∧ c = 0
 else ∃ B gs os cs gw ow cw mb,BrP (plB l ss r B gs os cs gw ow cw mb) ps d c
def BrEnd (l : List It) (ss : List Sl) (r : Sl) (w : World) (e : Ending) (w' : World) : Prop := ∃ v ps d c,e = .returned (.tuple #[v,.int .i64 d,.int .i64 c]) ∧ PcsAt w' v ps ∧ Below w.heap.size w w' ∧ BrR l ss r ps d c
theorem rfE_ok {l : List It} {ss : List Sl} {r : Sl} (h : rfE l ss r = 0) : ckL l = 0 ∧ ckS ss r = 0 := by
 unfold rfE at h
 split at h
 ·contradiction
 ·rename_i h1
  split at h
  ·contradiction
  ·rename_i h2
   exact ⟨Decidable.not_not.1 h1,Decidable.not_not.1 h2⟩
theorem mp_none : MpOk (fun _ => none) := fun _ _ h => by cases h
theorem break_any (v vs : Value) (l : List It) (ss : List Sl) (r : Sl) (hl : ss.length ≤ 9223372036854775807) (hll : l.length ≤ 9223372036854775807) (w : World) (hS : ItsAt w v l) (hV : SlsAt w vs ss) :
  Calls Tryz.prog 4 #[v,vs,.agg (slL r).toArray] w (BrEnd l ss r w) := by
 have hb0 := (Below.refl w.heap.size w).alloc (Nat.le_refl _) (.cells #[.int .i64 r.x,.int .i64 r.w] 29)
 have hbox : (w.alloc (.cells #[.int .i64 r.x,.int .i64 r.w] 29)).heap[w.heap.size]? = some (.cells #[.int .i64 r.x,.int .i64 r.w] 29 (0,0)) := World.alloc_heap_new w _
 have hS1 : Hid (BrS v l vs ss w.heap.size r (w.alloc (.cells #[.int .i64 r.x,.int .i64 r.w] 29))) := ⟨hS.below hb0 (Nat.le_refl _),hV.below hb0 (Nat.le_refl _),hbox⟩
 have hrf : Hid (Calls Tryz.prog 10 #[v,vs,.agg #[.int .i64 r.x,.int .i64 r.w]] (w.alloc (.cells #[.int .i64 r.x,.int .i64 r.w] 29)) fun e w' => e = .returned (.int .i64 (rfE l ss r)) ∧ Below (w.alloc (.cells #[.int .i64 r.x,.int .i64 r.w] 29)).heap.size (w.alloc (.cells #[.int .i64 r.x,.int .i64 r.w] 29)) w') := lrefuse_any v vs l ss r hl _ hS1.out.i hS1.out.s
 have hbg : Hid (∀ W,ItsAt W v l → Calls Tryz.prog 11 #[v] W fun e w' => e = .returned (.int .i64 (sk l 0 : Nat)) ∧ Below W.heap.size W w') := fun W hW => begin_any v l hll W hW
 have hb0h : Hid (Below w.heap.size w (w.alloc (.cells #[.int .i64 r.x,.int .i64 r.w] 29))) := hb0
 obtain ⟨a,cap,rfl,-⟩ := hS.ex
 have hbx2 : ∀ W : World,W.heap[w.heap.size]? = some (.cells #[.int .i64 r.x,.int .i64 r.w] 29 (0,0)) → W.cell? ⟨w.heap.size,0,none⟩ = some (.int .i64 r.x) := fun W h => by rw [Lib.cell_of_heap h]; rfl
 have hend : Hid (∀ e W v' ps d c,e = .returned (.tuple #[v',.int .i64 d,.int .i64 c]) → PcsAt W v' ps → Below w.heap.size w W → BrR l ss r ps d c → BrEnd l ss r w e W) := fun e W v' ps d c h1 h2 h3 h4 => ⟨v',ps,d,c,h1,h2,h3,h4⟩
 clear hS hV hb0 hbx2
 generalize BrEnd l ss r w = E at *
 show Calls Tryz.prog 4 #[.slice a l.length cap,vs,.agg #[.int .i64 r.x,.int .i64 r.w]] w E
 by_cases hz : rfE l ss r = 0
 ·obtain ⟨hck,hcs⟩ := rfE_ok hz
  rw [hz] at hrf
  have hckh : Hid (ckL l = 0) := hck
  have hcsh : Hid (ckS ss r = 0) := hcs
  have hl8 := ck_len hck
  have hskl := sk_len (l := l)
  by_cases he : sk l 0 = l.length
  ·have hR : Hid (BrR l ss r [⟨l.length,l.length,false,false,0⟩] 100 0) := by
    show BrR _ _ _ _ _ _
    unfold BrR
    rw [if_neg (by rw [hz]; exact fun h => h rfl),if_pos he]
    exact ⟨rfl,rfl,rfl⟩
   have hbge : Hid (∀ W,ItsAt W (.slice a l.length cap) l → Calls Tryz.prog 11 #[.slice a l.length cap] W fun e w' => e = .returned (.int .i64 (l.length : Nat)) ∧ Below W.heap.size W w') := fun W hW => (hbg.out W hW).mono fun e w' h => by rw [he] at h; exact h
   clear hck hcs hcsh hbg he hskl hz
   go_enter Tryz.func4,Tryz.ntmps4
   go_wp2_with (first | (go_at_call 10; refine hrf.out.mono ?_; rintro e w2 ⟨rfl,hb2⟩; have hS2 : Hid (BrS (.slice a l.length cap) l vs ss w.heap.size r w2) := hS1.out.below hb2; have hB2 : Hid (Below w.heap.size w w2) := hb0h.out.trans (hb2.mono hb0h.out.size); clear hb2 hS1 hb0h hrf hbox) | (go_at_call 11; refine (hbge.out w2 hS2.out.i).mono ?_; rintro e w3 ⟨rfl,hb3⟩; have hB3 : Hid (Below w.heap.size w w3) := hB2.out.trans (hb3.mono hB2.out.size); clear hb3 hS2 hB2 hbge))
   exact hend.out _ _ (.slice (some ⟨w3.heap.size,0,none⟩) 1 1) [⟨l.length,l.length,false,false,0⟩] 100 0 rfl (rec_new pcL_len w3 46 [⟨l.length,l.length,false,false,0⟩]) (hB3.out.alloc hB3.out.size _) hR.out
  ·have hR : Hid (∀ B gs os cs gw ow cw mb ps d c,BrP (plB l ss r B gs os cs gw ow cw mb) ps d c → BrR l ss r ps d c) := fun B gs os cs gw ow cw mb ps d c h => by
    unfold BrR
    rw [if_neg (by rw [hz]; exact fun h => h rfl),if_neg he]
    exact ⟨B,gs,os,cs,gw,ow,cw,mb,h⟩
   have hne : ((sk l 0 : Int) == (l.length : Int)) = false := by rw [beq_eq_false_iff_ne]; omega
   have hbgh : Hid (∀ W,ItsAt W (.slice a l.length cap) l → Calls Tryz.prog 11 #[.slice a l.length cap] W fun e w' => e = .returned (.int .i64 (sk l 0 : Nat)) ∧ Below W.heap.size W w') := hbg
   clear hck hcs hbg he hskl hz
   go_enter Tryz.func4,Tryz.ntmps4
   go_wp2_with (first | (go_at_call 10; refine hrf.out.mono ?_; rintro e w2 ⟨rfl,hb2⟩; have hS2 : Hid (BrS (.slice a l.length cap) l vs ss w.heap.size r w2) := hS1.out.below hb2; have hB2 : Hid (Below w.heap.size w w2) := hb0h.out.trans (hb2.mono hb0h.out.size); clear hb2 hS1 hb0h hrf hbox) | (go_at_call 11; refine (hbgh.out w2 hS2.out.i).mono ?_; rintro e w3 ⟨rfl,hb3⟩; have hS3 : Hid (BrS (.slice a l.length cap) l vs ss w.heap.size r w3) := hS2.out.below hb3; have hB3 : Hid (Below w.heap.size w w3) := hB2.out.trans (hb3.mono hB2.out.size); clear hb3 hS2 hB2 hbgh))
   refine br_r6 _ (fun _ _ _ _ _ h => h) _ _ (.slice a l.length cap) vs l ss w.heap.size r w3 w3 (below_drew w3) (hS3.out.below (below_drew w3)) hckh.out hcsh.out ⟨stops_some l,wds_some ss r⟩ hS3.out (fun va vb gs os cs gw ow cw mb R w4 hb4 hS4 f1 f2 f5 f6 f8 => ?_)
   have hP4 : Hid (PlM (plB l ss r R gs os cs gw ow cw mb) (fun _ => none) 0 (w4.setRow R #[.slice (some ⟨gs,os,none⟩) (stopsL l).length cs,.slice (some ⟨gw,ow,none⟩) (wdsL ss r).length cw,.map (some mb)])) := plan_made f2 f5 f6.2 f8.2
   have hB4 : Hid (Below w.heap.size w (w4.setRow R #[.slice (some ⟨gs,os,none⟩) (stopsL l).length cs,.slice (some ⟨gw,ow,none⟩) (wdsL ss r).length cw,.map (some mb)])) := by
    have h1 := hB3.out.trans (hb4.mono hB3.out.size)
    have h2 := hB3.out.size
    exact h1.trans ((Turns.setRow (X := fun k => k = R) _ rfl _).below h1.size (fun k hk => by have := f8.1; omega))
   have hmbw : Hid (w.heap.size ≤ mb) := by have := hB3.out.size; have := f6.1; show _ ≤ _; omega
   have hRP := hR.out R gs os cs gw ow cw mb
   have hO := plB_ok hckh.out hcsh.out R gs os cs gw ow cw mb
   have hPB : (plB l ss r R gs os cs gw ow cw mb).B = R := rfl
   have hPm : Hid ((plB l ss r R gs os cs gw ow cw mb).mb = mb) := rfl
   clear hb4 hS4 f1 f2 f5 f6 f8 hS3 hB3 hR
   generalize w4.setRow R #[.slice (some ⟨gs,os,none⟩) (stopsL l).length cs,.slice (some ⟨gw,ow,none⟩) (wdsL ss r).length cw,.map (some mb)] = w5 at *
   generalize plB l ss r R gs os cs gw ow cw mb = P at *
   obtain rfl : R = P.B := hPB.symm
   have hsr : Hid (Calls Tryz.prog 15 #[.pointer (some ⟨P.B,0,none⟩)] w5 fun e w' => e = .returned (.tuple #[]) ∧ (∃ M',PlM P (srF P (fun _ => none)) M' w') ∧ Turns (fun k => k = P.mb) w5 w') := search_any l P hO (fun _ => none) 0 mp_none (by
    have h1 := Nat.mul_le_mul hO.nw.2 hO.ns.2
    unfold maxLen; omega) w5 hP4.out
   have hmp : Hid (MpOk (srF P (fun _ => none))) := srF_ok hO mp_none
   have hRPh : Hid (∀ ps d c,BrP P ps d c → BrR l ss r ps d c) := hRP
   have hOh : Hid (PlOk l P) := hO
   have hPU : Hid (∀ ps d c,BrP P ps d c = match endO P (srF P (fun _ => none)) with | none => ps = [] ∧ d = 0 ∧ c = 6 | some y => ps = pwL P (srF P (fun _ => none)) y.n (P.sts.length - 1) y ∧ d = y.d ∧ c = 0) := fun _ _ _ => rfl
   clear hRP hO hPB hP4
   generalize srF P (fun _ => none) = F at *
   unfold fb4
   go_wp2_with (go_at_call 15; refine hsr.out.mono ?_; rintro e w6 ⟨rfl,⟨M6,hP6⟩,ht6⟩; have hP6h : Hid (PlM P F M6 w6) := hP6; have hB6 : Hid (Below w.heap.size w w6) := hB4.out.trans (ht6.below hB4.out.size (fun k hk => by rw [hk,hPm.out]; exact hmbw.out)); clear hP6 ht6 hsr hB4)
   have hs8 := hOh.out.ns
   have hpe : Hid (Calls Tryz.prog 16 #[.pointer (some ⟨P.B,0,none⟩)] w6 fun e w' => e = .returned (.tuple #[.agg (wyL ((endO P F).getD wy0)).toArray,.bool (endO P F).isSome]) ∧ Below w6.heap.size w6 w') := pend_any P F M6 hs8 hOh.out.nw w6 hP6h.out
   cases hen : endO P F with
   | none =>
    rw [hen] at hpe hPU
    have hpe2 : Hid (Calls Tryz.prog 16 #[.pointer (some ⟨P.B,0,none⟩)] w6 fun e w' => e = .returned (.tuple #[.agg #[.int .i64 0,.int .i64 0,.int .i64 0],.bool false]) ∧ Below w6.heap.size w6 w') := hpe
    have hBR : Hid (BrR l ss r [] 0 6) := hRPh.out _ _ _ (by rw [hPU.out]; exact ⟨rfl,rfl,rfl⟩)
    clear hpe hPU hRPh hOh hmp hen
    go_wp2_with (go_at_call 16; refine hpe2.out.mono ?_; rintro e w7 ⟨rfl,hb7⟩; have hB7 : Hid (Below w.heap.size w w7) := hB6.out.trans (hb7.mono hB6.out.size); clear hb7 hpe2 hB6 hP6h)
    exact hend.out _ _ (.slice none 0 0) [] 0 6 rfl (RecAt.nil _ _) (hB7.out.alloc hB7.out.size _) hBR.out
   | some y =>
    rw [hen] at hpe hPU
    have hpe2 : Hid (Calls Tryz.prog 16 #[.pointer (some ⟨P.B,0,none⟩)] w6 fun e w' => e = .returned (.tuple #[.agg #[.int .i64 y.d,.int .i64 y.n,.int .i64 y.f],.bool true]) ∧ Below w6.heap.size w6 w') := hpe
    have hBR : Hid (BrR l ss r (pwL P F y.n (P.sts.length - 1) y) y.d 0) := hRPh.out _ _ _ (by rw [hPU.out]; exact ⟨rfl,rfl,rfl⟩)
    obtain ⟨k,-,hk⟩ := endO_mem hen
    have hyo := hmp.out _ _ hk
    have hpi : Hid (∀ W,PlM P F M6 W → Calls Tryz.prog 17 #[.pointer (some ⟨P.B,0,none⟩),.agg #[.int .i64 y.d,.int .i64 y.n,.int .i64 y.f]] W fun e w' => ∃ g,e = .returned (.slice (some ⟨g,0,none⟩) y.n y.n) ∧ W.heap.size ≤ g ∧ RB 5 pcL w' g (pwL P F y.n (P.sts.length - 1) y) ∧ Below W.heap.size W w') := fun W hW => pieces_any l P hOh.out F M6 hmp.out y ⟨by have h1 := hyo.2.1; simp only at h1; omega,by have h1 := hyo.2.2.1; simp only at h1; omega⟩ W hW
    clear hpe hPU hRPh hOh hmp hen hk hyo
    go_wp2_with (go_at_call 16; refine hpe2.out.mono ?_; rintro e w7 ⟨rfl,hb7⟩; have hB7 : Hid (Below w.heap.size w w7) := hB6.out.trans (hb7.mono hB6.out.size); have hP7 : Hid (PlM P F M6 w7) := hP6h.out.below hb7; clear hb7 hpe2 hB6 hP6h)
    have hb8 := (Below.refl w7.heap.size w7).alloc (Nat.le_refl _) (.cells #[.int .i64 y.d,.int .i64 y.n,.int .i64 y.f] 58)
    have hS8 : Hid (BkS P F M6 w7.heap.size y (w7.alloc (.cells #[.int .i64 y.d,.int .i64 y.n,.int .i64 y.f] 58))) := ⟨hP7.out.below hb8,World.alloc_heap_new w7 _⟩
    have hB8 : Hid (Below w.heap.size w (w7.alloc (.cells #[.int .i64 y.d,.int .i64 y.n,.int .i64 y.f] 58))) := hB7.out.trans (hb8.mono hB7.out.size)
    clear hb8 hB7 hP7
    generalize w7.alloc (.cells #[.int .i64 y.d,.int .i64 y.n,.int .i64 y.f] 58) = w8 at *
    refine br_r11 _ (fun _ _ _ _ _ h => h) _ _ P F M6 w7.heap.size y w8 (hS8.out.below (below_drew w8)) hpi ?_
    intro g w9 hrb9 hb9
    have hpc : Hid (PcsAt w9 (.slice (some ⟨g,0,none⟩) y.n y.n) (pwL P F y.n (P.sts.length - 1) y)) := by
     have hlp := pwL_len P F y.n (P.sts.length - 1) y
     have := hrb9.recs (n := y.n) (cap := y.n) (by rw [hlp]; exact Nat.le_refl _) (Nat.le_refl _)
     rw [List.take_of_length_le (by rw [hlp]; exact Nat.le_refl _)] at this
     exact this
    have hB9 : Hid (Below w.heap.size w w9) := hB8.out.trans (hb9.mono hB8.out.size)
    clear hrb9 hb9 hB8 hS8 hpi
    unfold fb4
    go_wp2_with fail
    exact hend.out _ _ (.slice (some ⟨g,0,none⟩) y.n y.n) _ y.d 0 rfl hpc.out hB9.out hBR.out
 ·have hR : Hid (BrR l ss r [] 0 (rfE l ss r)) := by
   show BrR _ _ _ _ _ _
   unfold BrR
   rw [if_pos hz]
   exact ⟨rfl,rfl,rfl⟩
  have hne : (rfE l ss r == 0) = false := by rw [beq_eq_false_iff_ne]; exact hz
  clear hbg hz
  generalize rfE l ss r = c at *
  go_enter Tryz.func4,Tryz.ntmps4
  go_wp2_with (go_at_call 10; refine hrf.out.mono ?_; rintro e w2 ⟨rfl,hb2⟩; have hB2 : Hid (Below w.heap.size w w2) := hb0h.out.trans (hb2.mono hb0h.out.size); clear hb2 hS1 hb0h hrf hbox)
  exact hend.out _ _ (.slice none 0 0) [] 0 c rfl (RecAt.nil _ _) hB2.out hR.out
end Go.Proofs.YtfndocmgonlhpaaGreatDoor
