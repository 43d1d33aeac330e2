/-
  What is proved here: SetKnown answers true.
  What is proved here: SetOrders answers true at every input.
  What is proved here: how lists of masses and paragraphs that are handed in look.
-/
import Derived.Test.YtbdpghjegachaaaGreatDoorG38
import Derived.Test.YtbdpghjegachaaaGreatDoorG37
import Derived.Test.YtbdpghjegachaaaGreatDoorG6
import Derived.ProofKit
import Derived.OpenShut
import Derived.ChangeOld
import Derived.Below
import Derived.Deep.Slices
import Derived.SizedLaws
namespace Go.Proofs.YtbdpghjegachaaaGreatDoor
open Go.RowKit Go.Shelf
set_option maxRecDepth 100000
set_option maxHeartbeats 8000000

theorem four_mid (w2 : World) (sv : Value) (hA2 : PaAt w2 (ofP babT sv 0)) : ∃ W4,(w2.alloc (.cells #[.string ⟨#[]⟩,.slice none 0 0,.int .i64 0,.int .i64 0,.int .i64 0,.int .i64 0,.int .i64 0,.int .i64 0,.int .i64 0,.int .i64 0,.int .i64 0,.int .i64 0,.int .i64 0,.int .i64 0,.int .i64 0,.int .i64 0,.int .i64 0,.int .i64 0,.int .i64 0,.string ⟨#[]⟩,.slice none 0 0] 27)).setRow w2.heap.size (paC (ofP babT sv 0)) = W4 ∧ W4.cell? ⟨w2.heap.size,4,none⟩ = some (.int .i64 0) ∧ W4.frozen? ⟨w2.heap.size,4,none⟩ = false ∧ (W4.setCell ⟨w2.heap.size,4,none⟩ (.int .i64 2)).heap[w2.heap.size]? = some (.cells (paC (alP babT sv 2)) 27 (0,0)) ∧ PaAt (W4.setCell ⟨w2.heap.size,4,none⟩ (.int .i64 2)) (alP babT sv 2) ∧ Below w2.heap.size w2 (W4.setCell ⟨w2.heap.size,4,none⟩ (.int .i64 2)) := by
 have hT4 : Turns (fun k => k = w2.heap.size) w2 ((w2.alloc (.cells #[.string ⟨#[]⟩,.slice none 0 0,.int .i64 0,.int .i64 0,.int .i64 0,.int .i64 0,.int .i64 0,.int .i64 0,.int .i64 0,.int .i64 0,.int .i64 0,.int .i64 0,.int .i64 0,.int .i64 0,.int .i64 0,.int .i64 0,.int .i64 0,.int .i64 0,.int .i64 0,.string ⟨#[]⟩,.slice none 0 0] 27)).setRow w2.heap.size (paC (ofP babT sv 0))) := (Turns.alloc _ w2 _).trans (Turns.setRow (X := fun k => k = w2.heap.size) _ rfl _)
 have hl4 : ((w2.alloc (.cells #[.string ⟨#[]⟩,.slice none 0 0,.int .i64 0,.int .i64 0,.int .i64 0,.int .i64 0,.int .i64 0,.int .i64 0,.int .i64 0,.int .i64 0,.int .i64 0,.int .i64 0,.int .i64 0,.int .i64 0,.int .i64 0,.int .i64 0,.int .i64 0,.int .i64 0,.int .i64 0,.string ⟨#[]⟩,.slice none 0 0] 27)).setRow w2.heap.size (paC (ofP babT sv 0))).heap[w2.heap.size]? = some (.cells (paC (ofP babT sv 0)) 27 (0,0)) := setRow_heap _ _ _ _ 27 _ (PB.new w2 zeroP).row
 refine ⟨_,rfl,?_⟩
 generalize (w2.alloc (.cells #[.string ⟨#[]⟩,.slice none 0 0,.int .i64 0,.int .i64 0,.int .i64 0,.int .i64 0,.int .i64 0,.int .i64 0,.int .i64 0,.int .i64 0,.int .i64 0,.int .i64 0,.int .i64 0,.int .i64 0,.int .i64 0,.int .i64 0,.int .i64 0,.int .i64 0,.int .i64 0,.string ⟨#[]⟩,.slice none 0 0] 27)).setRow w2.heap.size (paC (ofP babT sv 0)) = W4 at *
 have hT5 := Turns.setCell (X := fun k => k = w2.heap.size) W4 (p := ⟨w2.heap.size,4,none⟩) rfl (.int .i64 2)
 have hl5 := heap_setCell_same W4 w2.heap.size 4 _ 27 (.int .i64 2) hl4
 rw [alP_set] at hl5
 have hB : Below w2.heap.size w2 (W4.setCell ⟨w2.heap.size,4,none⟩ (.int .i64 2)) := (hT4.trans hT5).below (Nat.le_refl _) (fun k hk => by omega)
 exact ⟨by rw [Lib.cell_of_heap hl4]; rfl,Lib.frozen_of_heap hl4 _,hl5,(hA2.below hB (Nat.le_refl _)).al 2,hB⟩
theorem known4 (w : World) : Calls Tryz.prog 4 #[] w fun e w' => e = .returned (.bool true) ∧ Below w.heap.size w w' := by
 have hB0 := (Below.refl w.heap.size w).alloc (Nat.le_refl _) (.cells #[.int .i64 0,.int .i64 5,.int .i64 5,.int .i64 3,.int .i64 8,.int .i64 5,.int .i64 13,.int .i64 3,.int .i64 16,.int .i64 5] 3)
 have hGr : (w.alloc (.cells #[.int .i64 0,.int .i64 5,.int .i64 5,.int .i64 3,.int .i64 8,.int .i64 5,.int .i64 13,.int .i64 3,.int .i64 16,.int .i64 5] 3)).heap[w.heap.size]? = some (.cells #[.int .i64 0,.int .i64 5,.int .i64 5,.int .i64 3,.int .i64 8,.int .i64 5,.int .i64 13,.int .i64 3,.int .i64 16,.int .i64 5] 3 (0,0)) := World.alloc_heap_new w _
 have hGl : w.heap.size < (w.alloc (.cells #[.int .i64 0,.int .i64 5,.int .i64 5,.int .i64 3,.int .i64 8,.int .i64 5,.int .i64 13,.int .i64 3,.int .i64 16,.int .i64 5] 3)).heap.size := by simp
 generalize hw0 : w.alloc (.cells #[.int .i64 0,.int .i64 5,.int .i64 5,.int .i64 3,.int .i64 8,.int .i64 5,.int .i64 13,.int .i64 3,.int .i64 16,.int .i64 5] 3) = W0 at *
 have hS : Hid (Below W0.heap.size W0 W0) := Below.refl _ _
 have hz : Hid (∀ w2 : World,(w2.alloc (.cells #[.string ⟨#[]⟩,.slice none 0 0,.int .i64 0,.int .i64 0,.int .i64 0,.int .i64 0,.int .i64 0,.int .i64 0,.int .i64 0,.int .i64 0,.int .i64 0,.int .i64 0,.int .i64 0,.int .i64 0,.int .i64 0,.int .i64 0,.int .i64 0,.int .i64 0,.int .i64 0,.string ⟨#[]⟩,.slice none 0 0] 27)).heap[w2.heap.size]? = some (.cells (paC zeroP) 27 (0,0))) := fun w2 => (PB.new w2 zeroP).row
 have hof : Hid (∀ W,Calls Tryz.prog 19 #[.string ⟨#[32,97,98]⟩] W fun e w' => (∃ sv,e = .returned (.agg (paC (ofP babT sv 0))) ∧ PaAt w' (ofP babT sv 0)) ∧ Below W.heap.size W w') := fun W => of_any babT (by decide) W
 have h7w : Hid (∀ (W6 : World) (B : Nat) (s5 : Value),PaAt (W6.setCell ⟨B,4,none⟩ (.int .i64 2)) (alP babT s5 2) → Hid (Below W0.heap.size W0 (W6.setCell ⟨B,4,none⟩ (.int .i64 2))) → Hid (Calls Tryz.prog 17 #[.agg (paC (alP babT s5 2)),.agg #[.int .i64 0,.int .i64 3,.int .i64 0,.int .i64 30,.int .i64 0,.bool false,.int .i64 0],.bool false,.slice (some ⟨W6.heap.size,0,none⟩) 6 6] ((W6.setCell ⟨B,4,none⟩ (.int .i64 2)).alloc (.cells #[.int .i64 20,.int .i64 0,.int .i64 20,.int .i64 5,.int .i64 25,.int .i64 5] 3)) fun e w' => e = .returned (.bool true) ∧ Hid (Below W0.heap.size W0 w'))) := fun W6 B s5 hA hS => by
  have h := e7_at s5 _ hA
  rw [World.size_setCell] at h
  refine h.mono ?_
  rintro e w' ⟨rfl,hb⟩
  have hz := hS.out.size
  rw [World.size_setCell] at hz
  exact ⟨rfl,hS.out.trans (hb.mono hz)⟩
 go_enter Tryz.func4,Tryz.ntmps4
 go_wp2_with (first | (go_at_call 16; refine (awake_any _).mono ?_; rintro e W2 ⟨rfl,hb⟩; have hS : Hid (Below W0.heap.size W0 W2) := hS.out.trans (hb.mono hS.out.size); clear hb) | (go_at_call 18; refine (aligned_any _ _).mono ?_; rintro e W1 ⟨⟨sv,rfl,hA⟩,hb⟩; have hS : Hid (Below W0.heap.size W0 W1) := hS.out.trans (hb.mono hS.out.size); clear hb) | (go_at_call 17; first | ((with_reducible refine (e1_at _ w.heap.size _ hA ((hS.out.block _ hGl).trans hGr)).mono ?_); rintro e W2 ⟨rfl,hb⟩; have hS : Hid (Below W0.heap.size W0 W2) := hS.out.trans (hb.mono hS.out.size); clear hA hb) | ((with_reducible refine (e2_at _ _ hA).mono ?_); rintro e W2 ⟨rfl,hb⟩; have hS : Hid (Below W0.heap.size W0 W2) := hS.out.trans (hb.mono hS.out.size); clear hA hb) | ((with_reducible refine (e3_at _ _ hA).mono ?_); rintro e W2 ⟨rfl,hb⟩; have hS : Hid (Below W0.heap.size W0 W2) := hS.out.trans (hb.mono hS.out.size); clear hA hb) | ((with_reducible refine (e4_at _ _ hA).mono ?_); rintro e W2 ⟨rfl,hb⟩; have hS : Hid (Below W0.heap.size W0 W2) := hS.out.trans (hb.mono hS.out.size); clear hA hb) | ((with_reducible refine (e5_at _ w.heap.size _ hA ((hS.out.block _ hGl).trans hGr)).mono ?_); rintro e W2 ⟨rfl,hb⟩; have hS : Hid (Below W0.heap.size W0 W2) := hS.out.trans (hb.mono hS.out.size); clear hA hb) | ((with_reducible refine (e6_at _ _ hA).mono ?_); rintro e W2 ⟨rfl,hb⟩; have hS : Hid (Below W0.heap.size W0 W2) := hS.out.trans (hb.mono hS.out.size); clear hA hb) | ((with_reducible refine h7.out.mono ?_); rintro e W2 ⟨rfl,hS⟩; clear h7)) | (go_at_call 8; refine (e8_at _ _ hA).mono ?_; rintro e W2 ⟨rfl,hb⟩; have hS : Hid (Below W0.heap.size W0 W2) := hS.out.trans (hb.mono hS.out.size); clear hA hb) | (go_at_call 19; refine (hof.out _).mono ?_; rintro e W5 ⟨⟨s5,rfl,hA5⟩,hb⟩; have hS : Hid (Below W0.heap.size W0 W5) := hS.out.trans (hb.mono hS.out.size); obtain ⟨W6,e6,c6,z6,l7,hA,hb7⟩ := four_mid W5 s5 hA5; have hsv := hA5.one; have hS : Hid (Below W0.heap.size W0 (W6.setCell ⟨W5.heap.size,4,none⟩ (.int .i64 2))) := hS.out.trans (hb7.mono hS.out.size); have h7 := h7w.out W6 W5.heap.size s5 hA hS; clear hb hA5 hb7 hA h7w) | (refine wpList_store_row rfl 27 (.tmp 5) (.tmp 42) rfl W5.heap.size (paC (ofP babT s5 0)) rfl rfl 27 _ (hz.out W5) (info34 _) rfl (paC_one _ hsv rfl) ?_; rw [e6]) | (refine wpList_load_want 27 _ rfl rfl W5.heap.size rfl 27 _ (0,0) _ l7 Tryz.underlying27 rfl (info34 _) ?_))
 go_ret
 exact ⟨rfl,hB0.trans (hS.out.mono hB0.size)⟩
end Go.Proofs.YtbdpghjegachaaaGreatDoor

namespace Go.Proofs.YtbdpghjegachaaaGreatDoor
open Go.RowKit Go.Shelf
set_option maxRecDepth 100000
set_option maxHeartbeats 4000000

theorem drV_rng (a : Pa) (_h : chkI a = 0) : 0 ≤ drV a ∧ drV a ≤ 4095 := by
 have := cwI_rng a
 unfold drV
 split <;> omega
theorem orders_any (a : Pa) (l : Ln) (last : Bool) (w : World) (hA : PaAt w a) (htb : Hy.Tab w) : Calls Tryz.prog 5 #[paV a,.agg (lnC l),.bool last] w fun e w' => e = .returned (.bool true) ∧ Below w.heap.size w w' := by
 have hB1 := (Below.refl w.heap.size w).alloc (Nat.le_refl _) (Obj.cells (paC a) 27)
 have hB2 := hB1.alloc hB1.size (Obj.cells (lnC l) 29)
 have s1 : (w.alloc (.cells (paC a) 27)).heap.size = w.heap.size + 1 := World.size_alloc _ _
 have hp0 : PB ((w.alloc (.cells (paC a) 27)).alloc (.cells (lnC l) 29)) w.heap.size a := ⟨(Below.heap_alloc _ _ _ (by omega)).trans (World.alloc_heap_new w _)⟩
 have hl0 : LB ((w.alloc (.cells (paC a) 27)).alloc (.cells (lnC l) 29)) (w.heap.size + 1) l := ⟨by have := World.alloc_heap_new (w.alloc (.cells (paC a) 27)) (.cells (lnC l) 29); rw [s1] at this; exact this⟩
 have hA2 := hA.below hB2 (Nat.le_refl _)
 have ht2 := htb.below hB2
 have hkn := known4 ((w.alloc (.cells (paC a) 27)).alloc (.cells (lnC l) 29))
 have hlC : lnC l = #[.int .i64 l.f,.int .i64 l.t,.int .i64 l.x,.int .i64 l.w,.int .i64 l.n,.bool l.y,.int .i64 l.g] := rfl
 have hgo : Hid (∀ W1 v base,Below w.heap.size w W1 → Hid (PB W1 w.heap.size a ∧ LB W1 (w.heap.size + 1) l) → plE a l = 0 → W1.ownsRow base 41 4 v (plL a l last (pnB a)).length ((plL a l last (pnB a)).flatMap glL) → ∃ va vc,v = .slice va (plL a l last (pnB a)).length vc ∧ ∀ W2,Below W1.heap.size W1 W2 → ∀ W3 u,Below W2.heap.size W2 W3 → W3.ownsRow W2.heap.size 53 6 u (num a.t) ((mss a).flatMap msL) → ∃ ma mc,u = .slice ma (num a.t) mc ∧ ∀ v0 v1 v2 v5 v6 v9 xa xb xc xd xe xf xg xh xi xj xk xl xm xn xo xp xq xr xt xu xv xw xx xy xz xA xB xC xD xE xF xG xH xI xJ xK xL xM xN xO xP xQ xR xS xT xU xV xW xX xY xZ ya yb yc yd ye yf yg yh yi yj yk yl ym yn yo yp yq yr yt yu yv yw yx yy yz yA yB yC yD yE yF yG yH yI yJ yK yL yM yN yO yP yQ yR yS yT yU yV yW yX yY yZ za zb zc zd ze zf zg zh zi zj zk zl zm zn zo zp zq zr zs zt zu zv zw zx zy zz zA zB zC zD zE zF zG zH zI zJ zK zL zM zN zO zP zQ zR zS zT zU zV zW zX zY zZ qa qb qc qd qf qg qh qi qj qk ql qm qn qo qp qq qr qs qt qu qv qw qx qy qz qA qB qC qD qE qF qG qH qI qJ qK qL qM qN qO qP qQ qR qS qT qU qV qW qX qY qZ ja jb jc jd je jf jg jh ji jj jk jl jm jn jo jp jq jr js jt ju jv jw : Value,o9.wp Tryz.prog (bodyPost Tryz.prog Tryz.f5 (fun e w' => e = .returned (.bool true) ∧ Below w.heap.size w w')) (fr5 v0 v1 v2 (.pointer (some ⟨w.heap.size,0,none⟩)) (.pointer (some ⟨(w.heap.size + 1),0,none⟩)) v5 v6 (.bool true) (.slice va (plL a l last (pnB a)).length vc) v9 (.int .i64 (drV a)) xa (.slice ma (num a.t) mc) xb xc xd xe xf xg xh xi xj xk xl xm xn xo xp xq xr xt xu xv xw xx xy xz xA xB xC xD xE xF xG xH xI xJ xK xL xM xN xO xP xQ xR xS xT xU xV xW xX xY xZ ya yb yc yd ye yf yg yh yi yj yk yl ym yn yo yp yq yr yt yu yv yw yx yy yz yA yB yC yD yE yF yG yH yI yJ yK yL yM yN yO yP yQ yR yS yT yU yV yW yX yY yZ za zb zc zd ze zf zg zh zi zj zk zl zm zn zo zp zq zr zs zt zu zv zw zx zy zz zA zB zC zD zE zF zG zH zI zJ zK zL zM zN zO zP zQ zR zS zT zU zV zW zX zY zZ qa qb qc qd qf qg qh qi qj qk ql qm qn qo qp qq qr qs qt qu qv qw qx qy qz qA qB qC qD qE qF qG qH qI qJ qK qL qM qN qO qP qQ qR qS qT qU qV qW qX qY qZ ja jb jc jd je jf jg jh ji jj jk jl jm jn jo jp jq jr js jt ju jv jw) W3) := by
  intro W1 v base hb1 hpl he hrow
  obtain ⟨hp1,hl1⟩ := hpl.out
  obtain ⟨hck,hok⟩ := plE_ok he
  have hG := good_of hck
  have hn4 := num_4096 hck
  have hrec := rec_of_row glL_len rfl hrow
  obtain ⟨va,vc,rfl,hvl⟩ := hrec.ex
  refine ⟨va,vc,rfl,fun W2 hb2 W3 u hb3 hu => ?_⟩
  obtain ⟨ma,mc,g,rfl,hcap,hav,hR⟩ := rf_row hu
  refine ⟨ma,mc,rfl,?_⟩
  obtain ⟨b,o,hva,hbl,hcl⟩ : ∃ b o,(0 < (plL a l last (pnB a)).length → va = some ⟨b,o,none⟩) ∧ (0 < (plL a l last (pnB a)).length → b < W1.heap.size) ∧ ∀ i (_ : i < (plL a l last (pnB a)).length) (j : Nat) (u : Value),(glL (plL a l last (pnB a))[i])[j]? = some u → W1.cell? ⟨b,o + i * 4 + j,none⟩ = some u := by
   rcases hvl with h0 | ⟨b,o,h1,h2,h3⟩
   ·exact ⟨0,0,fun h => by rw [h0] at h; simp at h,fun h => by rw [h0] at h; simp at h,fun i h => by rw [h0] at h; simp at h⟩
   ·exact ⟨b,o,fun _ => h1,fun _ => h2,h3⟩
  have hb13 : Below W1.heap.size W1 W3 := hb2.trans (hb3.mono hb2.size)
  have hp3 := hp1.below hb13 hp1.lt
  have hl3 : LB W3 (w.heap.size + 1) l := ⟨(hb13.block _ hl1.lt).trans hl1.row⟩
  have hW : OrW a l (plL a l last (pnB a)) b o g 0 w.heap.size (w.heap.size + 1) W3 := by
   refine ⟨fun i hi => ?_,fun i hi => ?_,hp3.cell rfl,hl3.c0,hl3.c1,hl3.c2,hl3.c5,fun h => Nat.lt_of_lt_of_le (hbl h) hb13.size,hR.lt,⟨hp3.lt,hl3.lt⟩⟩
   ·have hlt := hbl (by omega)
    exact ⟨(hb13.cell hlt).trans (hcl i hi 0 _ rfl),(hb13.cell hlt).trans (hcl i hi 1 _ rfl),(hb13.cell hlt).trans (hcl i hi 2 _ rfl),(hb13.cell hlt).trans (hcl i hi 3 _ rfl)⟩
   ·have := hR.c hi
    exact ⟨this.1,this.2.2.2.2.2⟩
  intro v0 v1 v2 v5 v6 v9 xa xb xc xd xe xf xg xh xi xj xk xl xm xn xo xp xq xr xt xu xv xw xx xy xz xA xB xC xD xE xF xG xH xI xJ xK xL xM xN xO xP xQ xR xS xT xU xV xW xX xY xZ ya yb yc yd ye yf yg yh yi yj yk yl ym yn yo yp yq yr yt yu yv yw yx yy yz yA yB yC yD yE yF yG yH yI yJ yK yL yM yN yO yP yQ yR yS yT yU yV yW yX yY yZ za zb zc zd ze zf zg zh zi zj zk zl zm zn zo zp zq zr zs zt zu zv zw zx zy zz zA zB zC zD zE zF zG zH zI zJ zK zL zM zN zO zP zQ zR zS zT zU zV zW zX zY zZ qa qb qc qd qf qg qh qi qj qk ql qm qn qo qp qq qr qs qt qu qv qw qx qy qz qA qB qC qD qE qF qG qH qI qJ qK qL qM qN qO qP qQ qR qS qT qU qV qW qX qY qZ ja jb jc jd je jf jg jh ji jj jk jl jm jn jo jp jq jr js jt ju jv jw
  exact ord_9 a l (plL a l last (pnB a)) (loI a l.f) (loI a l.t - loI a l.f) (drV a) (ord_ok he) (plL_rng he) (by have := plL_len (l := l) (last := last) (pn := pnB a) hn4; omega) (by omega) (fun i hi => ⟨(hG.msOk hi).ok.q0,(hG.msOk hi).ok.q1⟩) (drV_rng a hck) hok.2.2.2.1 w.heap.size (w.heap.size + 1) va ma vc mc b o g 0 hva (fun h => (hav h).1) hG.wr W3 hW _ (fun W' hb => ⟨rfl,hb1.trans ((hb13.trans (hb.mono hb13.size)).mono hb1.size)⟩) v0 v1 v2 v5 v6 v9 xa xb xc xd xe xf xg xh xi xj xk xl xm xn xo xp xq xr xt xu xv xw xx xy xz xA xB xC xD xE xF xG xH xI xJ xK xL xM xN xO xP xQ xR xS xT xU xV xW xX xY xZ ya yb yc yd ye yf yg yh yi yj yk yl ym yn yo yp yq yr yt yu yv yw yx yy yz yA yB yC yD yE yF yG yH yI yJ yK yL yM yN yO yP yQ yR yS yT yU yV yW yX yY yZ za zb zc zd ze zf zg zh zi zj zk zl zm zn zo zp zq zr zs zt zu zv zw zx zy zz zA zB zC zD zE zF zG zH zI zJ zK zL zM zN zO zP zQ zR zS zT zU zV zW zX zY zZ qa qb qc qd qf qg qh qi qj qk ql qm qn qo qp qq qr qs qt qu qv qw qx qy qz qA qB qC qD qE qF qG qH qI qJ qK qL qM qN qO qP qQ qR qS qT qU qV qW qX qY qZ ja jb jc jd je jf jg jh ji jj jk jl jm jn jo jp jq jr js jt ju jv jw
 have hck0 : Hid (plE a l = 0 → chkI a = 0) := fun h => (plE_ok h).1
 unfold paV
 rw [hlC] at hp0 hl0 hA2 ht2 hkn hB2 ⊢
 have hlr := hl0.row
 rw [hlC] at hlr
 generalize hw2 : (w.alloc (.cells (paC a) 27)).alloc (.cells #[.int .i64 l.f,.int .i64 l.t,.int .i64 l.x,.int .i64 l.w,.int .i64 l.n,.bool l.y,.int .i64 l.g] 29) = w2 at *
 refine calls_of_wp (c := o0) Tryz.func5 f5_body ?_
 simp only [Tryz.ntmps5,List.size_toArray,List.length_cons,List.length_nil,Nat.reduceAdd,Nat.reduceSub,Array.replicate_succ,Array.replicate_zero,List.push_toArray,List.append_toArray,List.nil_append,List.cons_append]
 unfold o0
 go_wp2_with fail
 refine hkn.mono ?_
 rintro e W0 ⟨rfl,hb0⟩
 have hp00 := hp0.below hb0 hp0.lt
 have hl00 : W0.heap[w.heap.size + 1]? = some (.cells #[.int .i64 l.f,.int .i64 l.t,.int .i64 l.x,.int .i64 l.w,.int .i64 l.n,.bool l.y,.int .i64 l.g] 29 (0,0)) := (hb0.block _ hl0.lt).trans hlr
 have hlw0 : LB W0 (w.heap.size + 1) l := ⟨hl00⟩
 have hplc := place_all a l last W0 (hA2.below hb0 (Nat.le_refl _)) (ht2.below hb0)
 have hB0 := hB2.trans (hb0.mono hB2.size)
 have hA0 := hA2.below hb0 (Nat.le_refl _)
 unfold PlEnd paV at hplc
 rw [hlC] at hplc
 clear hkn hp0 hl0 hA2 ht2 hlr hb0 hB1 s1 hA htb hw2 hB2
 go_wp2_with (first | (refine wpList_load_row rfl 27 _ rfl w.heap.size rfl 27 _ (0,0) _ hp00.row Tryz.underlying27 rfl (info34 a) ?_) | (refine wpList_load_row rfl 29 _ rfl (w.heap.size + 1) rfl 29 _ (0,0) _ hl00 Tryz.underlying29 rfl (by kernel_rfl) ?_))
 refine hplc.mono ?_
 rintro e W1 ⟨⟨v,rfl,hv⟩,hb1⟩
 have hp1 := hp00.below hb1 hp00.lt
 have hl1 : LB W1 (w.heap.size + 1) l := ⟨(hb1.block _ hlw0.lt).trans hlw0.row⟩
 have hBW1 := hB0.trans (hb1.mono hB0.size)
 have hA1 := hA0.below hb1 (Nat.le_refl _)
 have pc : W1.cell? ⟨w.heap.size,0,none⟩ = some (.string a.t) := hp1.cell (k := 0) rfl
 clear hplc hp00 hl00 hlw0 hlC hb1 hB0 hA0
 by_cases he : plE a l = 0
 ·obtain ⟨base,hbs,hrow⟩ : ∃ base,W0.heap.size ≤ base ∧ W1.ownsRow base 41 4 v (plL a l last (pnB a)).length ((plL a l last (pnB a)).flatMap glL) := by
   rcases hv with ⟨h,_⟩ | ⟨_,h⟩
   ·exact absurd he h
   ·exact h
  obtain ⟨va,vc,rfl,hgo2⟩ := hgo.out W1 v base hBW1 (⟨hp1,hl1⟩ : PB W1 w.heap.size a ∧ LB W1 (w.heap.size + 1) l) he hrow
  have hck := hck0.out he
  have hdr := fun W hA => drop_any a W hA
  have hms := fun W hA => masses_any a W hA
  rw [he]
  replace hgo2 : Hid _ := hgo2
  clear hgo hv hrow hbs hl1 hck0
  by_cases hsz : a.t.size ≤ 400
  ·have hsz' : ¬ (400 : Int) < (a.t.size : Nat) := by omega
   have hd1 := hdr W1 hA1
   rw [hck] at hd1
   unfold paV at hd1
   clear hdr
   generalize drV a = dv at *
   generalize (plL a l last (pnB a)).length = ln at *
   go_wp2_with (refine wpList_load_row rfl 27 _ rfl w.heap.size rfl 27 _ (0,0) _ hp1.row Tryz.underlying27 rfl (info34 a) ?_)
   refine hd1.mono ?_
   rintro e W2 ⟨rfl,hb2⟩
   have hp2 := hp1.below hb2 hp1.lt
   have hm2 := hms W2 (hA1.below hb2 (Nat.le_refl _))
   unfold MassEnd paV at hm2
   rw [hck] at hm2
   clear hd1 hms pc hp1
   go_wp2_with (refine wpList_load_row rfl 27 _ rfl w.heap.size rfl 27 _ (0,0) _ hp2.row Tryz.underlying27 rfl (info34 a) ?_)
   refine hm2.mono ?_
   rintro e W3 ⟨⟨u,rfl,hu⟩,hb3⟩
   have hu' : W3.ownsRow W2.heap.size 53 6 u (num a.t) ((mss a).flatMap msL) := by
    rcases hu with ⟨h,_⟩ | ⟨_,h⟩
    ·exact absurd rfl h
    ·exact h
   obtain ⟨ma,mc,rfl,h9⟩ := hgo2.out W2 hb2 W3 u hb3 hu'
   generalize num a.t = nm at *
   replace h9 : Hid (∀ v0 v1 v2 v5 v6 v9 xa xb xc xd xe xf xg xh xi xj xk xl xm xn xo xp xq xr xt xu xv xw xx xy xz xA xB xC xD xE xF xG xH xI xJ xK xL xM xN xO xP xQ xR xS xT xU xV xW xX xY xZ ya yb yc yd ye yf yg yh yi yj yk yl ym yn yo yp yq yr yt yu yv yw yx yy yz yA yB yC yD yE yF yG yH yI yJ yK yL yM yN yO yP yQ yR yS yT yU yV yW yX yY yZ za zb zc zd ze zf zg zh zi zj zk zl zm zn zo zp zq zr zs zt zu zv zw zx zy zz zA zB zC zD zE zF zG zH zI zJ zK zL zM zN zO zP zQ zR zS zT zU zV zW zX zY zZ qa qb qc qd qf qg qh qi qj qk ql qm qn qo qp qq qr qs qt qu qv qw qx qy qz qA qB qC qD qE qF qG qH qI qJ qK qL qM qN qO qP qQ qR qS qT qU qV qW qX qY qZ ja jb jc jd je jf jg jh ji jj jk jl jm jn jo jp jq jr js jt ju jv jw : Value,o9.wp Tryz.prog (bodyPost Tryz.prog Tryz.f5 (fun e w' => e = .returned (.bool true) ∧ Below w.heap.size w w')) (fr5 v0 v1 v2 (.pointer (some ⟨w.heap.size,0,none⟩)) (.pointer (some ⟨(w.heap.size + 1),0,none⟩)) v5 v6 (.bool true) (.slice va ln vc) v9 (.int .i64 dv) xa (.slice ma nm mc) xb xc xd xe xf xg xh xi xj xk xl xm xn xo xp xq xr xt xu xv xw xx xy xz xA xB xC xD xE xF xG xH xI xJ xK xL xM xN xO xP xQ xR xS xT xU xV xW xX xY xZ ya yb yc yd ye yf yg yh yi yj yk yl ym yn yo yp yq yr yt yu yv yw yx yy yz yA yB yC yD yE yF yG yH yI yJ yK yL yM yN yO yP yQ yR yS yT yU yV yW yX yY yZ za zb zc zd ze zf zg zh zi zj zk zl zm zn zo zp zq zr zs zt zu zv zw zx zy zz zA zB zC zD zE zF zG zH zI zJ zK zL zM zN zO zP zQ zR zS zT zU zV zW zX zY zZ qa qb qc qd qf qg qh qi qj qk ql qm qn qo qp qq qr qs qt qu qv qw qx qy qz qA qB qC qD qE qF qG qH qI qJ qK qL qM qN qO qP qQ qR qS qT qU qV qW qX qY qZ ja jb jc jd je jf jg jh ji jj jk jl jm jn jo jp jq jr js jt ju jv jw) W3) := h9
   clear hgo2 hu hu' hm2 hp2 hb2 hb3 hBW1 hA1 hck hsz he
   go_wp2_with fail
   exact h9.out _ _ _ _ _ _ _ _ _ _ _ _ _ _ _ _ _ _ _ _ _ _ _ _ _ _ _ _ _ _ _ _ _ _ _ _ _ _ _ _ _ _ _ _ _ _ _ _ _ _ _ _ _ _ _ _ _ _ _ _ _ _ _ _ _ _ _ _ _ _ _ _ _ _ _ _ _ _ _ _ _ _ _ _ _ _ _ _ _ _ _ _ _ _ _ _ _ _ _ _ _ _ _ _ _ _ _ _ _ _ _ _ _ _ _ _ _ _ _ _ _ _ _ _ _ _ _ _ _ _ _ _ _ _ _ _ _ _ _ _ _ _ _ _ _ _ _ _ _ _ _ _ _ _ _ _ _ _ _ _ _ _ _ _ _ _ _ _ _ _ _ _ _ _ _ _ _ _ _ _ _ _ _ _ _ _ _ _ _ _ _ _ _ _ _ _ _ _ _ _ _ _ _ _ _ _ _ _ _ _ _ _ _ _ _ _ _ _ _ _ _ _ _ _ _ _ _ _ _ _ _ _ _ _
  ·have hsz' : (400 : Int) < (a.t.size : Nat) := by omega
   clear hgo2 hdr hms hA1
   go_wp2_with fail
   go_ret
   exact ⟨rfl,hBW1⟩
 ·have he' : (plE a l != 0) = true := by simpa using he
  clear hgo hv hp1 hl1 hck0 hA1
  generalize plE a l = pe at *
  go_wp2_with fail
  go_ret
  exact ⟨rfl,hBW1⟩
end Go.Proofs.YtbdpghjegachaaaGreatDoor

namespace Go.Proofs.YtbdpghjegachaaaGreatDoor
open Go.ChangeShapes Go.WideShapes Go.ChangeAt Go.RowKit

theorem own : ownKnob Tryz.prog.godebug = none := by kernel_rfl
theorem laidOut : laidOutB Tryz.prog = true := by kernel_rfl

end Go.Proofs.YtbdpghjegachaaaGreatDoor
