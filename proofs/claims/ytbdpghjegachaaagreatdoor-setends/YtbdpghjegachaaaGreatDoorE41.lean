/-
  What is proved here: SetEnds answers true at every input.
-/
import Derived.Test.YtbdpghjegachaaaGreatDoorE37
import Derived.Test.YtbdpghjegachaaaGreatDoorE39
import Derived.Test.YtbdpghjegachaaaGreatDoorE40
namespace Go.Proofs.YtbdpghjegachaaaGreatDoor
open Go.RowKit Go.Shelf
set_option maxRecDepth 100000
set_option maxHeartbeats 4000000

theorem alloc_box {W : World} {c : Array Value} {t : TypeId} : (W.alloc (.cells c t)).heap[W.heap.size]? = some (.cells c t (0,0)) := World.alloc_heap_new W _
theorem left_cells (a : Pa) (v u : Value) : (paC (paW a v u)).setIfInBounds 4 (.int .i64 0) = paC (a.left v u) := rfl
theorem PaAt.left {w : World} {a : Pa} {v u : Value} (h : PaAt w (paW a v u)) : PaAt w (a.left v u) := ⟨h.sp,h.ms,h.few⟩
theorem paC_two {W : World} {a : Pa} (h : PaAt W a) : (paC a).all (·.oneCell') = true := by
 refine paC_one2 ?_ ?_
 ·obtain ⟨ad,c,e,_⟩ := h.sp.ex; rw [e]; rfl
 ·obtain ⟨ad,c,e,_⟩ := h.ms.ex; rw [e]; rfl
theorem bare_mid (a : Pa) (v u : Value) (W3 : World) (hA : PaAt W3 (paW a v u)) : ∃ W4,(W3.alloc (.cells #[.string ⟨#[]⟩,.slice none 0 0,.int .i64 0,.int .i64 0,.int .i64 0,.int .i64 0,.int .i64 0,.int .i64 0,.int .i64 0,.int .i64 0,.int .i64 0,.int .i64 0,.int .i64 0,.int .i64 0,.int .i64 0,.int .i64 0,.int .i64 0,.int .i64 0,.int .i64 0,.string ⟨#[]⟩,.slice none 0 0] 27)).setRow W3.heap.size (paC (paW a v u)) = W4 ∧ (∃ q,W4.cell? ⟨W3.heap.size,4,none⟩ = some q) ∧ W4.frozen? ⟨W3.heap.size,4,none⟩ = false ∧ (W4.setCell ⟨W3.heap.size,4,none⟩ (.int .i64 0)).heap[W3.heap.size]? = some (.cells (paC (a.left v u)) 27 (0,0)) ∧ PaAt (W4.setCell ⟨W3.heap.size,4,none⟩ (.int .i64 0)) (a.left v u) ∧ Below W3.heap.size W3 (W4.setCell ⟨W3.heap.size,4,none⟩ (.int .i64 0)) := by
 have hz : (W3.alloc (.cells #[.string ⟨#[]⟩,.slice none 0 0,.int .i64 0,.int .i64 0,.int .i64 0,.int .i64 0,.int .i64 0,.int .i64 0,.int .i64 0,.int .i64 0,.int .i64 0,.int .i64 0,.int .i64 0,.int .i64 0,.int .i64 0,.int .i64 0,.int .i64 0,.int .i64 0,.int .i64 0,.string ⟨#[]⟩,.slice none 0 0] 27)).heap[W3.heap.size]? = some (.cells #[.string ⟨#[]⟩,.slice none 0 0,.int .i64 0,.int .i64 0,.int .i64 0,.int .i64 0,.int .i64 0,.int .i64 0,.int .i64 0,.int .i64 0,.int .i64 0,.int .i64 0,.int .i64 0,.int .i64 0,.int .i64 0,.int .i64 0,.int .i64 0,.int .i64 0,.int .i64 0,.string ⟨#[]⟩,.slice none 0 0] 27 (0,0)) := World.alloc_heap_new W3 _
 have hT4 : Turns (fun k => k = W3.heap.size) W3 ((W3.alloc (.cells #[.string ⟨#[]⟩,.slice none 0 0,.int .i64 0,.int .i64 0,.int .i64 0,.int .i64 0,.int .i64 0,.int .i64 0,.int .i64 0,.int .i64 0,.int .i64 0,.int .i64 0,.int .i64 0,.int .i64 0,.int .i64 0,.int .i64 0,.int .i64 0,.int .i64 0,.int .i64 0,.string ⟨#[]⟩,.slice none 0 0] 27)).setRow W3.heap.size (paC (paW a v u))) := (Turns.alloc _ W3 _).trans (Turns.setRow (X := fun k => k = W3.heap.size) _ rfl _)
 have hl4 : ((W3.alloc (.cells #[.string ⟨#[]⟩,.slice none 0 0,.int .i64 0,.int .i64 0,.int .i64 0,.int .i64 0,.int .i64 0,.int .i64 0,.int .i64 0,.int .i64 0,.int .i64 0,.int .i64 0,.int .i64 0,.int .i64 0,.int .i64 0,.int .i64 0,.int .i64 0,.int .i64 0,.int .i64 0,.string ⟨#[]⟩,.slice none 0 0] 27)).setRow W3.heap.size (paC (paW a v u))).heap[W3.heap.size]? = some (.cells (paC (paW a v u)) 27 (0,0)) := setRow_heap _ _ _ _ 27 _ hz
 refine ⟨_,rfl,?_⟩
 generalize (W3.alloc (.cells #[.string ⟨#[]⟩,.slice none 0 0,.int .i64 0,.int .i64 0,.int .i64 0,.int .i64 0,.int .i64 0,.int .i64 0,.int .i64 0,.int .i64 0,.int .i64 0,.int .i64 0,.int .i64 0,.int .i64 0,.int .i64 0,.int .i64 0,.int .i64 0,.int .i64 0,.int .i64 0,.string ⟨#[]⟩,.slice none 0 0] 27)).setRow W3.heap.size (paC (paW a v u)) = W4 at *
 have hT5 := Turns.setCell (X := fun k => k = W3.heap.size) W4 (p := ⟨W3.heap.size,4,none⟩) rfl (.int .i64 0)
 have hl5 := heap_setCell_same W4 W3.heap.size 4 _ 27 (.int .i64 0) hl4
 rw [left_cells] at hl5
 have hB5 : Below W3.heap.size W3 (W4.setCell ⟨W3.heap.size,4,none⟩ (.int .i64 0)) := (hT4.trans hT5).below (Nat.le_refl _) (fun k hk => by omega)
 exact ⟨⟨_,by rw [Lib.cell_of_heap hl4]; rfl⟩,Lib.frozen_of_heap hl4 _,hl5,(hA.below hB5 (Nat.le_refl _)).left,hB5⟩
theorem ends_any (a : Pa) (l : Ln) (last : Bool) (_hlb : a.lb.size ≤ 9223372036854775807) (_hms : ∀ i (h : i < a.ms.length),(a.ms[i]).size ≤ 9223372036854775807) (w : World) (hA : PaAt w a) (htb : Hy.Tab w) : Calls Tryz.prog 6 #[paV a,.agg (lnC l),.bool last] w fun e w' => e = .returned (.bool true) ∧ Below w.heap.size w w' := by
 clear _hlb _hms
 have hB1 := (Below.refl w.heap.size w).alloc (Nat.le_refl _) (Obj.cells (paC a) 27)
 have hB2 := hB1.alloc hB1.size (Obj.cells (lnC l) 29)
 have s1 : (w.alloc (.cells (paC a) 27)).heap.size = w.heap.size + 1 := World.size_alloc _ _
 have hp0 : PB ((w.alloc (.cells (paC a) 27)).alloc (.cells (lnC l) 29)) w.heap.size a := ⟨(Below.heap_alloc _ _ _ (by omega)).trans (World.alloc_heap_new w _)⟩
 have hl0 : LB ((w.alloc (.cells (paC a) 27)).alloc (.cells (lnC l) 29)) (w.heap.size + 1) l := ⟨by have := World.alloc_heap_new (w.alloc (.cells (paC a) 27)) (.cells (lnC l) 29); rw [s1] at this; exact this⟩
 have hA2 := hA.below hB2 (Nat.le_refl _)
 have ht2 := htb.below hB2
 have hkn := known4 ((w.alloc (.cells (paC a) 27)).alloc (.cells (lnC l) 29))
 have hlC : lnC l = #[.int .i64 l.f,.int .i64 l.t,.int .i64 l.x,.int .i64 l.w,.int .i64 l.n,.bool l.y,.int .i64 l.g] := rfl
 have hgo : Hid (∀ W,Below w.heap.size w W → PB W w.heap.size a → LB W (w.heap.size + 1) l → plE a l = 0 → ¬ 0 < drV a → a.t.size ≤ 400 → ¬ (l.f = l.t ∧ l.y = false) → ∀ v0 v1 v5 v6 v9 xa xb xc xd xe xf xg xh xi xj xk xl xm xn xo xp xq xr xt xu xv xw xx xy xz xA xB xC xD xE xF xG xH xI xJ xK xL xM xN xO xP xQ xR xS xT xU xV xW xX xY xZ ya yb yc yd ye yf yg yh yi yj yk yl ym yn yo yp yq yr yt yu yv yw yx yy yz yA yB yC yD yE yF yG yH yI yJ yK yL yM yN yO yP yQ yR yS yT yU yV yW yX yY yZ za zb zc zd ze zf zg zh zi zj zk zl zm zn zo zp zq zr zs zt zu zv zw zx zy zz zA zB zC zD zE zF zG zH zI zJ zK zL zM zN zO zP zQ zR zS zT zU zV zW zX zY zZ qa qb qc qd qf qg qh qi qj qk ql qm qn qo qp qq qr qs qt qu qv qw qx qy qz qA qB qC qD qE qF qG qH qI qJ qK qL qM qN qO qP qQ qR qS qT qU qV qW qX qY qZ ja jb jc jd je jf jg jh ji jj jk jl jm jn jo jp jq jr : Value,n11.wp Tryz.prog (bodyPost Tryz.prog Tryz.f6 (fun e w' => e = .returned (.bool true) ∧ Below w.heap.size w w')) (fr6 v0 v1 (.bool last) (.pointer (some ⟨w.heap.size,0,none⟩)) (.pointer (some ⟨(w.heap.size + 1),0,none⟩)) v5 v6 (.bool true) (.int .i64 (enV a l last)) v9 xa xb xc (.int .i64 (bareN a l)) xd xe xf xg xh xi xj xk xl xm xn xo xp xq xr xt xu xv xw xx xy xz xA xB xC xD xE xF xG xH xI xJ xK xL xM xN xO xP xQ xR xS xT xU xV xW xX xY xZ ya yb yc yd ye yf yg yh yi yj yk yl ym yn yo yp yq yr yt yu yv yw yx yy yz yA yB yC yD yE yF yG yH yI yJ yK yL yM yN yO yP yQ yR yS yT yU yV yW yX yY yZ za zb zc zd ze zf zg zh zi zj zk zl zm zn zo zp zq zr zs zt zu zv zw zx zy zz zA zB zC zD zE zF zG zH zI zJ zK zL zM zN zO zP zQ zR zS zT zU zV zW zX zY zZ qa qb qc qd qf qg qh qi qj qk ql qm qn qo qp qq qr qs qt qu qv qw qx qy qz qA qB qC qD qE qF qG qH qI qJ qK qL qM qN qO qP qQ qR qS qT qU qV qW qX qY qZ ja jb jc jd je jf jg jh ji jj jk jl jm jn jo jp jq jr) W) := by
  intro W hb hp hl he hd hsz hne v0 v1 v5 v6 v9 xa xb xc xd xe xf xg xh xi xj xk xl xm xn xo xp xq xr xt xu xv xw xx xy xz xA xB xC xD xE xF xG xH xI xJ xK xL xM xN xO xP xQ xR xS xT xU xV xW xX xY xZ ya yb yc yd ye yf yg yh yi yj yk yl ym yn yo yp yq yr yt yu yv yw yx yy yz yA yB yC yD yE yF yG yH yI yJ yK yL yM yN yO yP yQ yR yS yT yU yV yW yX yY yZ za zb zc zd ze zf zg zh zi zj zk zl zm zn zo zp zq zr zs zt zu zv zw zx zy zz zA zB zC zD zE zF zG zH zI zJ zK zL zM zN zO zP zQ zR zS zT zU zV zW zX zY zZ qa qb qc qd qf qg qh qi qj qk ql qm qn qo qp qq qr qs qt qu qv qw qx qy qz qA qB qC qD qE qF qG qH qI qJ qK qL qM qN qO qP qQ qR qS qT qU qV qW qX qY qZ ja jb jc jd je jf jg jh ji jj jk jl jm jn jo jp jq jr
  obtain ⟨hck,hb1,hb2,hle,hx,hw⟩ := plE_ok he
  have hG := good_of hck
  have s0 := bd_st hb1
  have s2 := bd_st hb2
  have d0 := hl.c0
  have d1 := hl.c1
  rw [← s0] at d0
  rw [← s2] at d1
  have hnt : -1000000000000 ≤ bareN a l ∧ bareN a l ≤ 1000000000000 := bareN_rng he
  have hp2 := hG.p2
  exact en_11 w.heap.size (w.heap.size + 1) a.p.p2 (enV a l last) (bareN a l) (l.x + l.w - bareN a l) l.x l.w last a.t (st a.t (loI a l.f)) (st a.t (loI a l.t)) (st_mono a.t hle) (st_le _ _) hsz hx hw hnt rfl (by omega) (fun fs hF => ask_ok he hd hne hF) (by
   have hF0 : ∃ fs,Fst a.t (st a.t (loI a l.f)) (st a.t (loI a l.t)) fs := fst_ex (st_mono a.t hle)
   obtain ⟨fs,hF⟩ := hF0
   exact (ask_ok (last := last) he hd hne hF).le) W (hp.cell (k := 0) rfl) (hp.cell (k := 4) rfl) d0 d1 hl.c2 hl.c3 _ ⟨rfl,hb⟩ v0 v1 v5 v6 v9 xa xb xc xd xe xf xg xh xi xj xk xl xm xn xo xp xq xr xt xu xv xw xx xy xz xA xB xC xD xE xF xG xH xI xJ xK xL xM xN xO xP xQ xR xS xT xU xV xW xX xY xZ ya yb yc yd ye yf yg yh yi yj yk yl ym yn yo yp yq yr yt yu yv yw yx yy yz yA yB yC yD yE yF yG yH yI yJ yK yL yM yN yO yP yQ yR yS yT yU yV yW yX yY yZ za zb zc zd ze zf zg zh zi zj zk zl zm zn zo zp zq zr zs zt zu zv zw zx zy zz zA zB zC zD zE zF zG zH zI zJ zK zL zM zN zO zP zQ zR zS zT zU zV zW zX zY zZ qa qb qc qd qf qg qh qi qj qk ql qm qn qo qp qq qr qs qt qu qv qw qx qy qz qA qB qC qD qE qF qG qH qI qJ qK qL qM qN qO qP qQ qR qS qT qU qV qW qX qY qZ ja jb jc jd je jf jg jh ji jj jk jl jm jn jo jp jq jr
 have hck0 : Hid (plE a l = 0 → chkI a = 0) := fun h => (plE_ok h).1
 have hlf : Hid (∀ v u,plE a l = 0 → ¬ 0 < drV a → ¬ (l.f = l.t ∧ l.y = false) → enV (a.left v u) l last = bareN a l ∧ plE (a.left v u) l = 0) := fun v u h1 h2 h3 => ⟨left_end a v u l last h1 h2 h3,left_plE a v u l h1⟩
 unfold paV
 rw [hlC] at hp0 hl0 hA2 ht2 hkn hB2 ⊢
 have hlr := hl0.row
 rw [hlC] at hlr
 generalize hw2 : (w.alloc (.cells (paC a) 27)).alloc (.cells #[.int .i64 l.f,.int .i64 l.t,.int .i64 l.x,.int .i64 l.w,.int .i64 l.n,.bool l.y,.int .i64 l.g] 29) = w2 at *
 refine calls_of_wp (c := n0) Tryz.func6 f6_body ?_
 simp only [Tryz.ntmps6,List.size_toArray,List.length_cons,List.length_nil,Nat.reduceAdd,Nat.reduceSub,Array.replicate_succ,Array.replicate_zero,List.push_toArray,List.append_toArray,List.nil_append,List.cons_append]
 unfold n0
 go_wp2_with fail
 refine hkn.mono ?_
 rintro e W0 ⟨rfl,hb0⟩
 have hp00 := hp0.below hb0 hp0.lt
 have hl00 : W0.heap[w.heap.size + 1]? = some (.cells #[.int .i64 l.f,.int .i64 l.t,.int .i64 l.x,.int .i64 l.w,.int .i64 l.n,.bool l.y,.int .i64 l.g] 29 (0,0)) := (hb0.block _ hl0.lt).trans hlr
 have hlw0 : LB W0 (w.heap.size + 1) l := ⟨hl00⟩
 have hA0 := hA2.below hb0 (Nat.le_refl _)
 have ht0 := ht2.below hb0
 have hend := send_any a l last W0 hA0 ht0
 have hB0 := hB2.trans (hb0.mono hB2.size)
 unfold paV at hend
 rw [hlC] at hend
 clear hkn hp0 hl0 hA2 ht2 hlr hb0 hB1 s1 hA htb hw2 hB2
 go_wp2_with (first | (refine wpList_load_row rfl 27 _ rfl w.heap.size rfl 27 _ (0,0) _ hp00.row Tryz.underlying27 rfl (info34 a) ?_) | (refine wpList_load_row rfl 29 _ rfl (w.heap.size + 1) rfl 29 _ (0,0) _ hl00 Tryz.underlying29 rfl (by kernel_rfl) ?_))
 refine hend.mono ?_
 rintro e W1 ⟨rfl,hb1⟩
 have hp1 := hp00.below hb1 hp00.lt
 have hl1 : LB W1 (w.heap.size + 1) l := ⟨(hb1.block _ hlw0.lt).trans hlw0.row⟩
 have hBW1 := hB0.trans (hb1.mono hB0.size)
 have hA1 := hA0.below hb1 (Nat.le_refl _)
 have ht1 := ht0.below hb1
 have hdr := drop_any a W1 hA1
 unfold paV at hdr
 clear hend hp00 hl00 hlw0 hb1 hB0 hA0 ht0
 go_wp2_with (refine wpList_load_row rfl 27 _ rfl w.heap.size rfl 27 _ (0,0) _ hp1.row Tryz.underlying27 rfl (info34 a) ?_)
 refine hdr.mono ?_
 rintro e W2 ⟨rfl,hb2⟩
 have hp2 := hp1.below hb2 hp1.lt
 have hl2 : LB W2 (w.heap.size + 1) l := ⟨(hb2.block _ hl1.lt).trans hl1.row⟩
 have hBW2 := hBW1.trans (hb2.mono hBW1.size)
 have hA2 := hA1.below hb2 (Nat.le_refl _)
 have ht2 := ht1.below hb2
 have pc : W2.cell? ⟨w.heap.size,0,none⟩ = some (.string a.t) := hp2.cell (k := 0) rfl
 have l0 := hl2.c0
 have l1 := hl2.c1
 have l5 := hl2.c5
 clear hdr hp1 hl1 hb2 hBW1 hA1 ht1
 by_cases he : plE a l = 0
 ·have hck := hck0.out he
  by_cases hd : 0 < drV a
  ·rw [he,hck]
   clear hgo hlf hck0 hp2 hl2 hA2 ht2 he hck
   generalize drV a = dv at *
   generalize enV a l last = ev at *
   go_wp2_with fail
   go_ret
   exact ⟨rfl,hBW2⟩
  ·by_cases hsz : a.t.size ≤ 400
   ·have hsz' : ¬ (400 : Int) < (a.t.size : Nat) := by omega
    by_cases hne : l.f = l.t ∧ l.y = false
    ·have hft : (l.f == l.t) = true := by simpa using hne.1
     rw [hne.2] at l5
     rw [he,hck]
     clear hgo hlf hck0 hp2 hl2 hA2 ht2 he hck hne
     generalize drV a = dv at *
     generalize enV a l last = ev at *
     go_wp2_with fail
     go_ret
     exact ⟨rfl,hBW2⟩
    ·have hor : (l.f == l.t) = false ∨ ((l.f == l.t) = true ∧ l.y = true) := by
      by_cases h1 : l.f = l.t
      ·right
       refine ⟨by simpa using h1,?_⟩
       cases hy : l.y
       ·exact absurd ⟨h1,hy⟩ hne
       ·rfl
      ·left; simpa using h1
     have hfew := few_of hck hsz
     have hcp := copy_any a hfew.1 hfew.2 W2 hA2
     unfold paV at hcp
     have hgo2 : Hid (∀ W,Below w.heap.size w W → PB W w.heap.size a → LB W (w.heap.size + 1) l → ∀ v0 v1 v5 v6 v9 xa xb xc xd xe xf xg xh xi xj xk xl xm xn xo xp xq xr xt xu xv xw xx xy xz xA xB xC xD xE xF xG xH xI xJ xK xL xM xN xO xP xQ xR xS xT xU xV xW xX xY xZ ya yb yc yd ye yf yg yh yi yj yk yl ym yn yo yp yq yr yt yu yv yw yx yy yz yA yB yC yD yE yF yG yH yI yJ yK yL yM yN yO yP yQ yR yS yT yU yV yW yX yY yZ za zb zc zd ze zf zg zh zi zj zk zl zm zn zo zp zq zr zs zt zu zv zw zx zy zz zA zB zC zD zE zF zG zH zI zJ zK zL zM zN zO zP zQ zR zS zT zU zV zW zX zY zZ qa qb qc qd qf qg qh qi qj qk ql qm qn qo qp qq qr qs qt qu qv qw qx qy qz qA qB qC qD qE qF qG qH qI qJ qK qL qM qN qO qP qQ qR qS qT qU qV qW qX qY qZ ja jb jc jd je jf jg jh ji jj jk jl jm jn jo jp jq jr : Value,n11.wp Tryz.prog (bodyPost Tryz.prog Tryz.f6 (fun e w' => e = .returned (.bool true) ∧ Below w.heap.size w w')) (fr6 v0 v1 (.bool last) (.pointer (some ⟨w.heap.size,0,none⟩)) (.pointer (some ⟨(w.heap.size + 1),0,none⟩)) v5 v6 (.bool true) (.int .i64 (enV a l last)) v9 xa xb xc (.int .i64 (bareN a l)) xd xe xf xg xh xi xj xk xl xm xn xo xp xq xr xt xu xv xw xx xy xz xA xB xC xD xE xF xG xH xI xJ xK xL xM xN xO xP xQ xR xS xT xU xV xW xX xY xZ ya yb yc yd ye yf yg yh yi yj yk yl ym yn yo yp yq yr yt yu yv yw yx yy yz yA yB yC yD yE yF yG yH yI yJ yK yL yM yN yO yP yQ yR yS yT yU yV yW yX yY yZ za zb zc zd ze zf zg zh zi zj zk zl zm zn zo zp zq zr zs zt zu zv zw zx zy zz zA zB zC zD zE zF zG zH zI zJ zK zL zM zN zO zP zQ zR zS zT zU zV zW zX zY zZ qa qb qc qd qf qg qh qi qj qk ql qm qn qo qp qq qr qs qt qu qv qw qx qy qz qA qB qC qD qE qF qG qH qI qJ qK qL qM qN qO qP qQ qR qS qT qU qV qW qX qY qZ ja jb jc jd je jf jg jh ji jj jk jl jm jn jo jp jq jr) W) := fun W h1 h2 h3 => hgo.out W h1 h2 h3 he (by first | exact hd | omega) hsz (by first | exact hne | (intro hq; cases hyy : l.y <;> simp_all))
     have hlf2 : Hid (∀ v u,enV (a.left v u) l last = bareN a l ∧ plE (a.left v u) l = 0) := fun v u => hlf.out v u he (by first | exact hd | omega) (by first | exact hne | (intro hq; cases hyy : l.y <;> simp_all))
     have hl2r : Hid (LB W2 (w.heap.size + 1) l) := hl2
     have hlC2 : Hid (lnC l = #[.int .i64 l.f,.int .i64 l.t,.int .i64 l.x,.int .i64 l.w,.int .i64 l.n,.bool l.y,.int .i64 l.g]) := hlC
     have ht2' : Hid (Hy.Tab W2) := ht2
     have hBW2' : Hid (Below w.heap.size w W2) := hBW2
     rw [he,hck]
     clear hgo hlf hck0 hA2 he hck hne hl2 hlC ht2 hBW2 hfew
     generalize drV a = dv at *
     generalize enV a l last = ev at *
     rcases hor with hft | ⟨hft,hy⟩
     all_goals try (rw [hy] at l5; clear hy)
     all_goals
      go_wp2_with (refine wpList_load_row rfl 27 _ rfl w.heap.size rfl 27 _ (0,0) _ hp2.row Tryz.underlying27 rfl (info34 a) ?_)
      refine hcp.mono ?_
      rintro e W3 ⟨v,u,rfl,hA3,hb3⟩
      obtain ⟨W4,e4,⟨q4,c4⟩,z4,l5',hA5,hB5⟩ := bare_mid a v u W3 hA3
      have hone := paC_two hA3
      have hp3 := hp2.below hb3 hp2.lt
      have hlw3 : LB W3 (w.heap.size + 1) l := ⟨(hb3.block _ hl2r.out.lt).trans hl2r.out.row⟩
      have hp5 := hp3.below hB5 hp3.lt
      have hlw5 : LB (W4.setCell ⟨W3.heap.size,4,none⟩ (.int .i64 0)) (w.heap.size + 1) l := ⟨(hB5.block _ hlw3.lt).trans hlw3.row⟩
      have hlr5 := hlw5.row
      rw [hlC2.out] at hlr5
      have hb35 := hb3.trans (hB5.mono hb3.size)
      have hend := send_any (a.left v u) l last (W4.setCell ⟨W3.heap.size,4,none⟩ (.int .i64 0)) hA5 (ht2'.out.below hb35)
      have hBW5 := hBW2'.out.trans (hb35.mono hBW2'.out.size)
      have hlv := hlf2.out v u
      rw [hlv.1,hlv.2,hlC2.out] at hend
      unfold paV at hend
      replace hone : Hid _ := hone
      replace hA5 : Hid _ := hA5
      replace hB5 : Hid _ := hB5
      replace hlw5 : Hid _ := hlw5
      replace hBW5 : Hid _ := hBW5
      clear hcp hlw3 hp3 hb35 hlv hA3 hb3 hl2r hp2 l0 l1 pc hlf2 ht2' hBW2'
      go_wp2_with (first | (refine wpList_store_row rfl 27 _ _ rfl W3.heap.size (paC (paW a v u)) rfl rfl 27 _ alloc_box (info34 _) rfl hone.out ?_; rw [e4]) | (refine wpList_load_row rfl 27 _ rfl W3.heap.size rfl 27 _ (0,0) _ l5' Tryz.underlying27 rfl (info34 _) ?_) | (refine wpList_load_row rfl 29 _ rfl (w.heap.size + 1) rfl 29 _ (0,0) _ hlr5 Tryz.underlying29 rfl (by kernel_rfl) ?_))
      refine hend.mono ?_
      rintro e W6 ⟨rfl,hb6⟩
      have hp6 := hp5.below hb6 hp5.lt
      have hl6 : LB W6 (w.heap.size + 1) l := ⟨(hb6.block _ hlw5.out.lt).trans hlw5.out.row⟩
      have hB6 := hBW5.out.trans (hb6.mono hBW5.out.size)
      have h11 := fun v0 v1 v5 v6 v9 xa xb xc xd xe xf xg xh xi xj xk xl xm xn xo xp xq xr xt xu xv xw xx xy xz xA xB xC xD xE xF xG xH xI xJ xK xL xM xN xO xP xQ xR xS xT xU xV xW xX xY xZ ya yb yc yd ye yf yg yh yi yj yk yl ym yn yo yp yq yr yt yu yv yw yx yy yz yA yB yC yD yE yF yG yH yI yJ yK yL yM yN yO yP yQ yR yS yT yU yV yW yX yY yZ za zb zc zd ze zf zg zh zi zj zk zl zm zn zo zp zq zr zs zt zu zv zw zx zy zz zA zB zC zD zE zF zG zH zI zJ zK zL zM zN zO zP zQ zR zS zT zU zV zW zX zY zZ qa qb qc qd qf qg qh qi qj qk ql qm qn qo qp qq qr qs qt qu qv qw qx qy qz qA qB qC qD qE qF qG qH qI qJ qK qL qM qN qO qP qQ qR qS qT qU qV qW qX qY qZ ja jb jc jd je jf jg jh ji jj jk jl jm jn jo jp jq jr => hgo2.out W6 hB6 hp6 hl6 v0 v1 v5 v6 v9 xa xb xc xd xe xf xg xh xi xj xk xl xm xn xo xp xq xr xt xu xv xw xx xy xz xA xB xC xD xE xF xG xH xI xJ xK xL xM xN xO xP xQ xR xS xT xU xV xW xX xY xZ ya yb yc yd ye yf yg yh yi yj yk yl ym yn yo yp yq yr yt yu yv yw yx yy yz yA yB yC yD yE yF yG yH yI yJ yK yL yM yN yO yP yQ yR yS yT yU yV yW yX yY yZ za zb zc zd ze zf zg zh zi zj zk zl zm zn zo zp zq zr zs zt zu zv zw zx zy zz zA zB zC zD zE zF zG zH zI zJ zK zL zM zN zO zP zQ zR zS zT zU zV zW zX zY zZ qa qb qc qd qf qg qh qi qj qk ql qm qn qo qp qq qr qs qt qu qv qw qx qy qz qA qB qC qD qE qF qG qH qI qJ qK qL qM qN qO qP qQ qR qS qT qU qV qW qX qY qZ ja jb jc jd je jf jg jh ji jj jk jl jm jn jo jp jq jr
      replace h11 : Hid _ := h11
      clear hend hp5 hlw5 hb6 hp6 hl6 hB6 hgo2 hBW5 hB5 hA5 hone l5' hlr5 c4 z4 e4
      go_wp2_with fail
      have h12 := h11.out
      clear h11
      unfold fr6 at h12
      exact h12 _ _ _ _ _ _ _ _ _ _ _ _ _ _ _ _ _ _ _ _ _ _ _ _ _ _ _ _ _ _ _ _ _ _ _ _ _ _ _ _ _ _ _ _ _ _ _ _ _ _ _ _ _ _ _ _ _ _ _ _ _ _ _ _ _ _ _ _ _ _ _ _ _ _ _ _ _ _ _ _ _ _ _ _ _ _ _ _ _ _ _ _ _ _ _ _ _ _ _ _ _ _ _ _ _ _ _ _ _ _ _ _ _ _ _ _ _ _ _ _ _ _ _ _ _ _ _ _ _ _ _ _ _ _ _ _ _ _ _ _ _ _ _ _ _ _ _ _ _ _ _ _ _ _ _ _ _ _ _ _ _ _ _ _ _ _ _ _ _ _ _ _ _ _ _ _ _ _ _ _ _ _ _ _ _ _ _ _ _ _ _ _ _ _ _ _ _ _ _ _ _ _ _ _ _ _ _ _ _ _ _ _ _ _ _ _ _ _ _ _ _ _ _ _ _ _ _ _
   ·have hsz' : (400 : Int) < (a.t.size : Nat) := by omega
    rw [he,hck]
    clear hgo hlf hck0 hp2 hl2 hA2 ht2 he hck
    generalize drV a = dv at *
    generalize enV a l last = ev at *
    go_wp2_with fail
    go_ret
    exact ⟨rfl,hBW2⟩
 ·have he' : (plE a l != 0) = true := by simpa using he
  clear hgo hlf hck0 hp2 hl2 hA2 ht2
  generalize plE a l = pe at *
  generalize chkI a = ce at *
  generalize drV a = dv at *
  generalize enV a l last = ev at *
  go_wp2_with fail
  go_ret
  exact ⟨rfl,hBW2⟩
end Go.Proofs.YtbdpghjegachaaaGreatDoor
