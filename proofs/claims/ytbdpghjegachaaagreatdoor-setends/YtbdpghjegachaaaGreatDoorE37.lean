/-
  What is proved here: the second loop of SetEnds.
  What is proved here: the first loop of SetEnds, and what is ahead of it.
  What is proved here: bounds of a line's natural end; the first byte of a line that counts.
  What is proved here: what Plain answers.
  What is proved here: the examples' items; when two lists of items are the same; what two, wide and Of answer.
  What is proved here: what two, wide, Of answer.
-/
import Derived.Test.YtbdpghjegachaaaGreatDoorE36
import Derived.Test.YtbdpghjegachaaaGreatDoorE35
import Derived.Test.YtbdpghjegachaaaGreatDoorE8
import Derived.Test.YtbdpghjegachaaaGreatDoorE23
import Derived.Test.YtbdpghjegachaaaGreatDoorE3
namespace Go.Proofs.YtbdpghjegachaaaGreatDoor
open Go.RowKit Go.Shelf
set_option maxRecDepth 100000
set_option maxHeartbeats 4000000

theorem en_19 (Pb Lb : Nat) (al en nt rm lx lw : Int) (last : Bool) (t : ByteArray) (f e : Nat) (_hfe : f ≤ e) (het : e ≤ t.size) (ht4 : t.size ≤ 400) (hlx : 0 ≤ lx ∧ lx ≤ 4095) (hlw : 0 ≤ lw ∧ lw ≤ 4095) (hnt : -1000000000000 ≤ nt ∧ nt ≤ 1000000000000) (hrm : rm = lx + lw - nt) (hal : al = 0 ∨ al = 1 ∨ al = 2 ∨ al = 3) (fs : Nat) (hfs : f ≤ fs ∧ fs ≤ e) (hA : AskE al en nt rm (lx + lw) last (tbK t e (e - fs)) (blK t e (e - fs))) (W : World) (c0 : W.cell? ⟨Pb,0,none⟩ = some (.string t)) (c4 : W.cell? ⟨Pb,4,none⟩ = some (.int .i64 al)) (_d0 : W.cell? ⟨Lb,0,none⟩ = some (.int .i64 (f : Nat))) (d1 : W.cell? ⟨Lb,1,none⟩ = some (.int .i64 (e : Nat))) (c2 : W.cell? ⟨Lb,2,none⟩ = some (.int .i64 lx)) (c3 : W.cell? ⟨Lb,3,none⟩ = some (.int .i64 lw)) (RR : Ending → World → Prop) (hfin : RR (.returned (.bool true)) W) (v0 v1 v5 v6 v9 xa xb xc xd xg xh xi xj xk xl xm xn xo xp xq xr xt xu xv xw xx xy xz xA xB xC xD xE xF xG xH xI xJ xK xL xM xN xO xP xQ xR xS xT xU xV xW xX xY xZ ya yb yc yd ye yf yg yh yi yj yk yl ym yn yo yp yq yr yt yu yv yw yx yy yz yA yB yC yD yE yF yG yH yI yJ yK yL yM yN yO yP yQ yR yS yT yU yV yW yX yY yZ za zb zc zd ze zf zg zh zi zj zk zl zm zn zo zp zq zr zs zt zu zv zw zx zy zz zA zB zC zD zE zF zG zH zI zJ zK zL zM zN zO zP zQ zR zS zT zU zV zW zX zY zZ qa qb qc qd qf qg qh qi qj qk ql qm qn qo qp qq qr qs qt qu qv qw qx qy qz qA qB qC qD qE qF qG qH qI qJ qK qL qM qN qO qP qQ qR qS qT qU qV qW qX qY qZ ja jb jc jd je jf jg jh ji jj jk jl jm jn jo : Value) :
  n19.wp Tryz.prog (bodyPost Tryz.prog Tryz.f6 RR) (fr6 v0 v1 (.bool last) (.pointer (some ⟨Pb,0,none⟩)) (.pointer (some ⟨Lb,0,none⟩)) v5 v6 (.bool true) (.int .i64 en) v9 xa xb xc (.int .i64 nt) xd (.int .i64 rm) (.int .i64 0) (.int .i64 0) (.bool false) (.int .i64 (fs : Nat)) xg xh xi xj xk xl xm xn xo xp xq xr xt xu xv xw xx xy xz xA xB xC xD xE xF xG xH xI xJ xK xL xM xN xO xP xQ xR xS xT xU xV xW xX xY xZ ya yb yc yd ye yf yg yh yi yj yk yl ym yn yo yp yq yr yt yu yv yw yx yy yz yA yB yC yD yE yF yG yH yI yJ yK yL yM yN yO yP yQ yR yS yT yU yV yW yX yY yZ za zb zc zd ze zf zg zh zi zj zk zl zm zn zo zp zq zr zs zt zu zv zw zx zy zz zA zB zC zD zE zF zG zH zI zJ zK zL zM zN zO zP zQ zR zS zT zU zV zW zX zY zZ qa qb qc qd qf qg qh qi qj qk ql qm qn qo qp qq qr qs qt qu qv qw qx qy qz qA qB qC qD qE qF qG qH qI qJ qK qL qM qN qO qP qQ qR qS qT qU qV qW qX qY qZ ja jb jc jd je jf jg jh ji jj jk jl jm jn jo) W := by
 have h29 : Hid (∀ v0 v1 v5 v6 v9 xa xb xc xd xe xf xg xh xi xj xk xl xm xn xo xp xq xr xt xu xv xw xx xy xz xA xB xC xD xE xF xG xH xI xJ xK xL xM xN xO xP xQ xR xS xT xU xV xW xX xY xZ ya yb yc yd ye yf yg yh yi yj yk yl ym yn yo yp yq yr yt yu yv yw yx yy yz yA yB yC yD yE yF yG yH yI yJ yK yL yM yN yO yP yQ yR yS yT yU yV yW yX yY yZ za zb zc zd ze zf zg zh zi zj zk zl zm zn zo zp zq zr zs zt zu zv zw zx zy zz zA zB zC zD zE zF zG zH zI zJ zK zL zM zN zO zP zQ zR zS zT zU zV zW zX zY zZ qa qb qc qd qf qg qh qi qj qk ql qm qn qo qp qq qr qs qt qu qv qw qx qy qz qA qB qC qD qE qF qG qH qI qJ qK qL qM qN qO qP qQ qR qS qT qU qV qW qX qY qZ ja jb jc jd je jf jg jh ji jj jk jl jm jn jo : Value,n29.wp Tryz.prog (bodyPost Tryz.prog Tryz.f6 RR) (fr6 v0 v1 (.bool last) (.pointer (some ⟨Pb,0,none⟩)) (.pointer (some ⟨Lb,0,none⟩)) v5 v6 (.bool true) (.int .i64 en) v9 xa xb xc (.int .i64 nt) xd (.int .i64 rm) (.int .i64 ((blK t e (e - fs)) : Nat)) (.int .i64 ((tbK t e (e - fs)) : Nat)) xe xf xg xh xi xj xk xl xm xn xo xp xq xr xt xu xv xw xx xy xz xA xB xC xD xE xF xG xH xI xJ xK xL xM xN xO xP xQ xR xS xT xU xV xW xX xY xZ ya yb yc yd ye yf yg yh yi yj yk yl ym yn yo yp yq yr yt yu yv yw yx yy yz yA yB yC yD yE yF yG yH yI yJ yK yL yM yN yO yP yQ yR yS yT yU yV yW yX yY yZ za zb zc zd ze zf zg zh zi zj zk zl zm zn zo zp zq zr zs zt zu zv zw zx zy zz zA zB zC zD zE zF zG zH zI zJ zK zL zM zN zO zP zQ zR zS zT zU zV zW zX zY zZ qa qb qc qd qf qg qh qi qj qk ql qm qn qo qp qq qr qs qt qu qv qw qx qy qz qA qB qC qD qE qF qG qH qI qJ qK qL qM qN qO qP qQ qR qS qT qU qV qW qX qY qZ ja jb jc jd je jf jg jh ji jj jk jl jm jn jo) W) := fun v0 v1 v5 v6 v9 xa xb xc xd xe xf xg xh xi xj xk xl xm xn xo xp xq xr xt xu xv xw xx xy xz xA xB xC xD xE xF xG xH xI xJ xK xL xM xN xO xP xQ xR xS xT xU xV xW xX xY xZ ya yb yc yd ye yf yg yh yi yj yk yl ym yn yo yp yq yr yt yu yv yw yx yy yz yA yB yC yD yE yF yG yH yI yJ yK yL yM yN yO yP yQ yR yS yT yU yV yW yX yY yZ za zb zc zd ze zf zg zh zi zj zk zl zm zn zo zp zq zr zs zt zu zv zw zx zy zz zA zB zC zD zE zF zG zH zI zJ zK zL zM zN zO zP zQ zR zS zT zU zV zW zX zY zZ qa qb qc qd qf qg qh qi qj qk ql qm qn qo qp qq qr qs qt qu qv qw qx qy qz qA qB qC qD qE qF qG qH qI qJ qK qL qM qN qO qP qQ qR qS qT qU qV qW qX qY qZ ja jb jc jd je jf jg jh ji jj jk jl jm jn jo => en_29 Pb Lb al en nt rm lx lw last (tbK t e (e - fs)) (blK t e (e - fs)) hA hlx hlw hnt hrm hal W c4 c2 c3 RR hfin v0 v1 v5 v6 v9 xa xb xc xd xe xf xg xh xi xj xk xl xm xn xo xp xq xr xt xu xv xw xx xy xz xA xB xC xD xE xF xG xH xI xJ xK xL xM xN xO xP xQ xR xS xT xU xV xW xX xY xZ ya yb yc yd ye yf yg yh yi yj yk yl ym yn yo yp yq yr yt yu yv yw yx yy yz yA yB yC yD yE yF yG yH yI yJ yK yL yM yN yO yP yQ yR yS yT yU yV yW yX yY yZ za zb zc zd ze zf zg zh zi zj zk zl zm zn zo zp zq zr zs zt zu zv zw zx zy zz zA zB zC zD zE zF zG zH zI zJ zK zL zM zN zO zP zQ zR zS zT zU zV zW zX zY zZ qa qb qc qd qf qg qh qi qj qk ql qm qn qo qp qq qr qs qt qu qv qw qx qy qz qA qB qC qD qE qF qG qH qI qJ qK qL qM qN qO qP qQ qR qS qT qU qV qW qX qY qZ ja jb jc jd je jf jg jh ji jj jk jl jm jn jo
 clear hA hlx hlw hnt hrm hal c4 c2 c3 _d0 hfin
 have hw0 : IntKind.i64.wrap (((e : Nat) : Int) - 1) = ((e : Nat) : Int) - 1 := wrap_i (by omega) (by omega)
 unfold n19 fr6
 go_wp2_with fail
 go_loopw [16,17,18,20,21] (fun bl tb sn i _ wr => ∃ k : Nat,k ≤ e - fs ∧ i = .int .i64 ((e : Int) - 1 - k) ∧ tb = .int .i64 (tbK t e k : Nat) ∧ bl = .int .i64 (blK t e k : Nat) ∧ sn = .bool (snK t e k) ∧ wr = W) (fun _ _ _ i _ _ => (intOf i + 1).toNat)
 case atStart => exact ⟨0,by omega,by simp,rfl,rfl,rfl,rfl⟩
 case round =>
  obtain ⟨k,hk,rfl,rfl,rfl,rfl,rfl⟩ := hrel
  by_cases hke : k < e - fs
  ·obtain ⟨p,hpi⟩ : ∃ p : Nat,(e : Int) - 1 - k = (p : Nat) := ⟨e - 1 - k,by omega⟩
   have hlt : p < t.size := by omega
   have hpk : e - 1 - k = p := by omega
   have hb := bt_eq hlt
   have hk1 : k + 1 ≤ e - fs := hke
   have hge : ((fs : Nat) : Int) ≤ (p : Nat) := by omega
   have hwp : IntKind.i64.wrap (((p : Nat) : Int) - 1) = ((p : Nat) : Int) - 1 := wrap_i (by omega) (by omega)
   have htl := tbK_le t e k
   have hbl := blK_le t e k
   have hs2 := bt_rng t p
   have hwt : IntKind.i64.wrap (((tbK t e k : Nat) : Int) + 1) = ((tbK t e k : Nat) : Int) + 1 := wrap_i (by omega) (by omega)
   have hwb : IntKind.i64.wrap (((blK t e k : Nat) : Int) + 1) = ((blK t e k : Nat) : Int) + 1 := wrap_i (by omega) (by omega)
   rw [hpi]
   by_cases hy : bt t p = 9
   ·have e9 : (((t[p]'hlt).toNat : Int) == 9) = true := by rw [← hb]; simp; omega
    have e32 : (((t[p]'hlt).toNat : Int) == 32) = false := by rw [← hb]; simp; omega
    have n32 : (((t[p]'hlt).toNat : Int) != 32) = true := by rw [← hb]; simp; omega
    have n31 : (((t[p]'hlt).toNat : Int) != 31) = true := by rw [← hb]; simp; omega
    have hT : Hid (tbK t e (k + 1) = tbK t e k + 1) := by
     show tbK t e k + _ = _
     rw [hpk,if_pos hy]
    have hS : Hid (snK t e (k + 1) = true) := by
     show (snK t e k || _) = _
     rw [hpk]
     rw [decide_eq_true (by omega),decide_eq_true (by omega)]; simp
    have hL : Hid (blK t e (k + 1) = blK t e k) := by
     show blK t e k + _ = _
     rw [hpk,if_neg (fun h => by omega)]; rfl
    clear hb h29 hpk hs2 hk
    generalize hqT : tbK t e k = tk at *
    generalize hqB : blK t e k = bk at *
    generalize hqS : snK t e k = sk at *
    replace hqT : Hid (tbK t e k = tk) := hqT
    replace hqB : Hid (blK t e k = bk) := hqB
    replace hqS : Hid (snK t e k = sk) := hqS
    go_wp2_with fail
    refine ⟨⟨k + 1,hk1,?_,?_,?_,?_,by first | trivial | rfl⟩,?_⟩
    ·rw [show ((p : Nat) : Int) - 1 = (e : Int) - 1 - ((k + 1 : Nat) : Int) by omega]
    ·first | (rw [hT.out]; done) | (rw [hT.out]; rfl) | (rw [hT.out]; simp)
    ·first | (rw [hL.out]; done) | (rw [hL.out]; rfl) | (rw [hL.out]; simp)
    ·first | (rw [hS.out]; done) | (rw [hS.out,hsn]; done) | (rw [hS.out]; rfl)
    ·simp [intOf] <;> omega
   by_cases hy : bt t p = 32
   ·cases hsn : snK t e k
    ·have e9 : (((t[p]'hlt).toNat : Int) == 9) = false := by rw [← hb]; simp; omega
     have e32 : (((t[p]'hlt).toNat : Int) == 32) = true := by rw [← hb]; simp; omega
     have n32 : (((t[p]'hlt).toNat : Int) != 32) = false := by rw [← hb]; simp; omega
     have n31 : (((t[p]'hlt).toNat : Int) != 31) = true := by rw [← hb]; simp; omega
     have hT : Hid (tbK t e (k + 1) = tbK t e k) := by
      show tbK t e k + _ = _
      rw [hpk,if_neg (by omega)]; rfl
     have hS : Hid (snK t e (k + 1) = snK t e k) := by
      show (snK t e k || _) = _
      rw [hpk]
      rw [hy]; simp
     have hL : Hid (blK t e (k + 1) = blK t e k) := by
      show blK t e k + _ = _
      rw [hpk,if_neg (fun h => by rw [hsn] at h; exact absurd h.2 (by decide))]; rfl
     clear hb h29 hpk hs2 hk
     generalize hqT : tbK t e k = tk at *
     generalize hqB : blK t e k = bk at *
     generalize hqS : snK t e k = sk at *
     replace hqT : Hid (tbK t e k = tk) := hqT
     replace hqB : Hid (blK t e k = bk) := hqB
     replace hqS : Hid (snK t e k = sk) := hqS
     go_wp2_with fail
     refine ⟨⟨k + 1,hk1,?_,?_,?_,?_,by first | trivial | rfl⟩,?_⟩
     ·rw [show ((p : Nat) : Int) - 1 = (e : Int) - 1 - ((k + 1 : Nat) : Int) by omega]
     ·first | (rw [hT.out]; done) | (rw [hT.out]; rfl) | (rw [hT.out]; simp)
     ·first | (rw [hL.out]; done) | (rw [hL.out]; rfl) | (rw [hL.out]; simp)
     ·first | (rw [hS.out]; done) | (rw [hS.out,hsn]; done) | (rw [hS.out]; rfl)
     ·simp [intOf] <;> omega
    ·have e9 : (((t[p]'hlt).toNat : Int) == 9) = false := by rw [← hb]; simp; omega
     have e32 : (((t[p]'hlt).toNat : Int) == 32) = true := by rw [← hb]; simp; omega
     have n32 : (((t[p]'hlt).toNat : Int) != 32) = false := by rw [← hb]; simp; omega
     have n31 : (((t[p]'hlt).toNat : Int) != 31) = true := by rw [← hb]; simp; omega
     have hT : Hid (tbK t e (k + 1) = tbK t e k) := by
      show tbK t e k + _ = _
      rw [hpk,if_neg (by omega)]; rfl
     have hS : Hid (snK t e (k + 1) = snK t e k) := by
      show (snK t e k || _) = _
      rw [hpk]
      rw [hy]; simp
     have hL : Hid (blK t e (k + 1) = blK t e k + 1) := by
      show blK t e k + _ = _
      rw [hpk,if_pos ⟨hy,hsn⟩]
     clear hb h29 hpk hs2 hk
     generalize hqT : tbK t e k = tk at *
     generalize hqB : blK t e k = bk at *
     generalize hqS : snK t e k = sk at *
     replace hqT : Hid (tbK t e k = tk) := hqT
     replace hqB : Hid (blK t e k = bk) := hqB
     replace hqS : Hid (snK t e k = sk) := hqS
     go_wp2_with fail
     refine ⟨⟨k + 1,hk1,?_,?_,?_,?_,by first | trivial | rfl⟩,?_⟩
     ·rw [show ((p : Nat) : Int) - 1 = (e : Int) - 1 - ((k + 1 : Nat) : Int) by omega]
     ·first | (rw [hT.out]; done) | (rw [hT.out]; rfl) | (rw [hT.out]; simp)
     ·first | (rw [hL.out]; done) | (rw [hL.out]; rfl) | (rw [hL.out]; simp)
     ·first | (rw [hS.out]; done) | (rw [hS.out,hsn]; done) | (rw [hS.out]; rfl)
     ·simp [intOf] <;> omega
   by_cases hy : bt t p = 31
   ·have e9 : (((t[p]'hlt).toNat : Int) == 9) = false := by rw [← hb]; simp; omega
    have e32 : (((t[p]'hlt).toNat : Int) == 32) = false := by rw [← hb]; simp; omega
    have n32 : (((t[p]'hlt).toNat : Int) != 32) = true := by rw [← hb]; simp; omega
    have n31 : (((t[p]'hlt).toNat : Int) != 31) = false := by rw [← hb]; simp; omega
    have hT : Hid (tbK t e (k + 1) = tbK t e k) := by
     show tbK t e k + _ = _
     rw [hpk,if_neg (by omega)]; rfl
    have hS : Hid (snK t e (k + 1) = snK t e k) := by
     show (snK t e k || _) = _
     rw [hpk]
     rw [hy]; simp
    have hL : Hid (blK t e (k + 1) = blK t e k) := by
     show blK t e k + _ = _
     rw [hpk,if_neg (fun h => by omega)]; rfl
    clear hb h29 hpk hs2 hk
    generalize hqT : tbK t e k = tk at *
    generalize hqB : blK t e k = bk at *
    generalize hqS : snK t e k = sk at *
    replace hqT : Hid (tbK t e k = tk) := hqT
    replace hqB : Hid (blK t e k = bk) := hqB
    replace hqS : Hid (snK t e k = sk) := hqS
    go_wp2_with fail
    refine ⟨⟨k + 1,hk1,?_,?_,?_,?_,by first | trivial | rfl⟩,?_⟩
    ·rw [show ((p : Nat) : Int) - 1 = (e : Int) - 1 - ((k + 1 : Nat) : Int) by omega]
    ·first | (rw [hT.out]; done) | (rw [hT.out]; rfl) | (rw [hT.out]; simp)
    ·first | (rw [hL.out]; done) | (rw [hL.out]; rfl) | (rw [hL.out]; simp)
    ·first | (rw [hS.out]; done) | (rw [hS.out,hsn]; done) | (rw [hS.out]; rfl)
    ·simp [intOf] <;> omega
   ·have e9 : (((t[p]'hlt).toNat : Int) == 9) = false := by rw [← hb]; simp; omega
    have e32 : (((t[p]'hlt).toNat : Int) == 32) = false := by rw [← hb]; simp; omega
    have n32 : (((t[p]'hlt).toNat : Int) != 32) = true := by rw [← hb]; simp; omega
    have n31 : (((t[p]'hlt).toNat : Int) != 31) = true := by rw [← hb]; simp; omega
    have hT : Hid (tbK t e (k + 1) = tbK t e k) := by
     show tbK t e k + _ = _
     rw [hpk,if_neg (by omega)]; rfl
    have hS : Hid (snK t e (k + 1) = true) := by
     show (snK t e k || _) = _
     rw [hpk]
     rw [decide_eq_true (by omega),decide_eq_true (by omega)]; simp
    have hL : Hid (blK t e (k + 1) = blK t e k) := by
     show blK t e k + _ = _
     rw [hpk,if_neg (fun h => by omega)]; rfl
    clear hb h29 hpk hs2 hk
    generalize hqT : tbK t e k = tk at *
    generalize hqB : blK t e k = bk at *
    generalize hqS : snK t e k = sk at *
    replace hqT : Hid (tbK t e k = tk) := hqT
    replace hqB : Hid (blK t e k = bk) := hqB
    replace hqS : Hid (snK t e k = sk) := hqS
    go_wp2_with fail
    refine ⟨⟨k + 1,hk1,?_,?_,?_,?_,by first | trivial | rfl⟩,?_⟩
    ·rw [show ((p : Nat) : Int) - 1 = (e : Int) - 1 - ((k + 1 : Nat) : Int) by omega]
    ·first | (rw [hT.out]; done) | (rw [hT.out]; rfl) | (rw [hT.out]; simp)
    ·first | (rw [hL.out]; done) | (rw [hL.out]; rfl) | (rw [hL.out]; simp)
    ·first | (rw [hS.out]; done) | (rw [hS.out,hsn]; done) | (rw [hS.out]; rfl)
    ·simp [intOf] <;> omega
  ·obtain rfl : k = e - fs := by omega
   have hge : ¬ ((fs : Nat) : Int) ≤ (e : Int) - 1 - ((e - fs : Nat) : Int) := by omega
   generalize tbK t e (e - fs) = tk at *
   generalize blK t e (e - fs) = bk at *
   go_wp2_with fail
   exact h29.out _ _ _ _ _ _ _ _ _ _ _ _ _ _ _ _ _ _ _ _ _ _ _ _ _ _ _ _ _ _ _ _ _ _ _ _ _ _ _ _ _ _ _ _ _ _ _ _ _ _ _ _ _ _ _ _ _ _ _ _ _ _ _ _ _ _ _ _ _ _ _ _ _ _ _ _ _ _ _ _ _ _ _ _ _ _ _ _ _ _ _ _ _ _ _ _ _ _ _ _ _ _ _ _ _ _ _ _ _ _ _ _ _ _ _ _ _ _ _ _ _ _ _ _ _ _ _ _ _ _ _ _ _ _ _ _ _ _ _ _ _ _ _ _ _ _ _ _ _ _ _ _ _ _ _ _ _ _ _ _ _ _ _ _ _ _ _ _ _ _ _ _ _ _ _ _ _ _ _ _ _ _ _ _ _ _ _ _ _ _ _ _ _ _ _ _ _ _ _ _ _ _ _ _ _ _ _ _ _ _ _ _ _ _ _ _ _ _ _ _ _ _ _ _ _
end Go.Proofs.YtbdpghjegachaaaGreatDoor

namespace Go.Proofs.YtbdpghjegachaaaGreatDoor
open Go.RowKit Go.Shelf
set_option maxRecDepth 100000
set_option maxHeartbeats 4000000

theorem en_16 (Pb Lb : Nat) (al en nt rm lx lw : Int) (last : Bool) (t : ByteArray) (f e : Nat) (hfe : f ≤ e) (het : e ≤ t.size) (ht4 : t.size ≤ 400) (hlx : 0 ≤ lx ∧ lx ≤ 4095) (hlw : 0 ≤ lw ∧ lw ≤ 4095) (hnt : -1000000000000 ≤ nt ∧ nt ≤ 1000000000000) (hrm : rm = lx + lw - nt) (hal : al = 0 ∨ al = 1 ∨ al = 2 ∨ al = 3) (hA : ∀ fs,Fst t f e fs → AskE al en nt rm (lx + lw) last (tbK t e (e - fs)) (blK t e (e - fs))) (W : World) (c0 : W.cell? ⟨Pb,0,none⟩ = some (.string t)) (c4 : W.cell? ⟨Pb,4,none⟩ = some (.int .i64 al)) (d0 : W.cell? ⟨Lb,0,none⟩ = some (.int .i64 (f : Nat))) (d1 : W.cell? ⟨Lb,1,none⟩ = some (.int .i64 (e : Nat))) (c2 : W.cell? ⟨Lb,2,none⟩ = some (.int .i64 lx)) (c3 : W.cell? ⟨Lb,3,none⟩ = some (.int .i64 lw)) (RR : Ending → World → Prop) (hfin : RR (.returned (.bool true)) W) (v0 v1 v5 v6 v9 xa xb xc xd xi xj xk xl xm xn xo xp xq xr xt xu xv xw xx xy xz xA xB xC xD xE xF xG xH xI xJ xK xL xM xN xO xP xQ xR xS xT xU xV xW xX xY xZ ya yb yc yd ye yf yg yh yi yj yk yl ym yn yo yp yq yr yt yu yv yw yx yy yz yA yB yC yD yE yF yG yH yI yJ yK yL yM yN yO yP yQ yR yS yT yU yV yW yX yY yZ za zb zc zd ze zf zg zh zi zj zk zl zm zn zo zp zq zr zs zt zu zv zw zx zy zz zA zB zC zD zE zF zG zH zI zJ zK zL zM zN zO zP zQ zR zS zT zU zV zW zX zY zZ qa qb qc qd qf qg qh qi qj qk ql qm qn qo qp qq qr qs qt qu qv qw qx qy qz qA qB qC qD qE qF qG qH qI qJ qK qL qM qN qO qP qQ qR qS qT qU qV qW qX qY qZ ja jb jc jd je jf jg jh ji jj jk jl jm jn jo jp jq jr : Value) :
  n16.wp Tryz.prog (bodyPost Tryz.prog Tryz.f6 RR) (fr6 v0 v1 (.bool last) (.pointer (some ⟨Pb,0,none⟩)) (.pointer (some ⟨Lb,0,none⟩)) v5 v6 (.bool true) (.int .i64 en) v9 xa xb xc (.int .i64 nt) xd (.int .i64 rm) (.int .i64 0) (.int .i64 0) (.bool false) xi xj xk xl xm xn xo xp xq xr xt xu xv xw xx xy xz xA xB xC xD xE xF xG xH xI xJ xK xL xM xN xO xP xQ xR xS xT xU xV xW xX xY xZ ya yb yc yd ye yf yg yh yi yj yk yl ym yn yo yp yq yr yt yu yv yw yx yy yz yA yB yC yD yE yF yG yH yI yJ yK yL yM yN yO yP yQ yR yS yT yU yV yW yX yY yZ za zb zc zd ze zf zg zh zi zj zk zl zm zn zo zp zq zr zs zt zu zv zw zx zy zz zA zB zC zD zE zF zG zH zI zJ zK zL zM zN zO zP zQ zR zS zT zU zV zW zX zY zZ qa qb qc qd qf qg qh qi qj qk ql qm qn qo qp qq qr qs qt qu qv qw qx qy qz qA qB qC qD qE qF qG qH qI qJ qK qL qM qN qO qP qQ qR qS qT qU qV qW qX qY qZ ja jb jc jd je jf jg jh ji jj jk jl jm jn jo jp jq jr) W := by
 have h19 : Hid (∀ fs,Fst t f e fs → ∀ v0 v1 v5 v6 v9 xa xb xc xd xj xk xl xm xn xo xp xq xr xt xu xv xw xx xy xz xA xB xC xD xE xF xG xH xI xJ xK xL xM xN xO xP xQ xR xS xT xU xV xW xX xY xZ ya yb yc yd ye yf yg yh yi yj yk yl ym yn yo yp yq yr yt yu yv yw yx yy yz yA yB yC yD yE yF yG yH yI yJ yK yL yM yN yO yP yQ yR yS yT yU yV yW yX yY yZ za zb zc zd ze zf zg zh zi zj zk zl zm zn zo zp zq zr zs zt zu zv zw zx zy zz zA zB zC zD zE zF zG zH zI zJ zK zL zM zN zO zP zQ zR zS zT zU zV zW zX zY zZ qa qb qc qd qf qg qh qi qj qk ql qm qn qo qp qq qr qs qt qu qv qw qx qy qz qA qB qC qD qE qF qG qH qI qJ qK qL qM qN qO qP qQ qR qS qT qU qV qW qX qY qZ ja jb jc jd je jf jg jh ji jj jk jl jm jn jo jp jq jr : Value,n19.wp Tryz.prog (bodyPost Tryz.prog Tryz.f6 RR) (fr6 v0 v1 (.bool last) (.pointer (some ⟨Pb,0,none⟩)) (.pointer (some ⟨Lb,0,none⟩)) v5 v6 (.bool true) (.int .i64 en) v9 xa xb xc (.int .i64 nt) xd (.int .i64 rm) (.int .i64 0) (.int .i64 0) (.bool false) (.int .i64 (fs : Nat)) xj xk xl xm xn xo xp xq xr xt xu xv xw xx xy xz xA xB xC xD xE xF xG xH xI xJ xK xL xM xN xO xP xQ xR xS xT xU xV xW xX xY xZ ya yb yc yd ye yf yg yh yi yj yk yl ym yn yo yp yq yr yt yu yv yw yx yy yz yA yB yC yD yE yF yG yH yI yJ yK yL yM yN yO yP yQ yR yS yT yU yV yW yX yY yZ za zb zc zd ze zf zg zh zi zj zk zl zm zn zo zp zq zr zs zt zu zv zw zx zy zz zA zB zC zD zE zF zG zH zI zJ zK zL zM zN zO zP zQ zR zS zT zU zV zW zX zY zZ qa qb qc qd qf qg qh qi qj qk ql qm qn qo qp qq qr qs qt qu qv qw qx qy qz qA qB qC qD qE qF qG qH qI qJ qK qL qM qN qO qP qQ qR qS qT qU qV qW qX qY qZ ja jb jc jd je jf jg jh ji jj jk jl jm jn jo jp jq jr) W) := fun fs hF v0 v1 v5 v6 v9 xa xb xc xd xj xk xl xm xn xo xp xq xr xt xu xv xw xx xy xz xA xB xC xD xE xF xG xH xI xJ xK xL xM xN xO xP xQ xR xS xT xU xV xW xX xY xZ ya yb yc yd ye yf yg yh yi yj yk yl ym yn yo yp yq yr yt yu yv yw yx yy yz yA yB yC yD yE yF yG yH yI yJ yK yL yM yN yO yP yQ yR yS yT yU yV yW yX yY yZ za zb zc zd ze zf zg zh zi zj zk zl zm zn zo zp zq zr zs zt zu zv zw zx zy zz zA zB zC zD zE zF zG zH zI zJ zK zL zM zN zO zP zQ zR zS zT zU zV zW zX zY zZ qa qb qc qd qf qg qh qi qj qk ql qm qn qo qp qq qr qs qt qu qv qw qx qy qz qA qB qC qD qE qF qG qH qI qJ qK qL qM qN qO qP qQ qR qS qT qU qV qW qX qY qZ ja jb jc jd je jf jg jh ji jj jk jl jm jn jo jp jq jr => en_19 Pb Lb al en nt rm lx lw last t f e hfe het ht4 hlx hlw hnt hrm hal fs ⟨hF.lo,hF.hi⟩ (hA fs hF) W c0 c4 d0 d1 c2 c3 RR hfin v0 v1 v5 v6 v9 xa xb xc xd xj xk xl xm xn xo xp xq xr xt xu xv xw xx xy xz xA xB xC xD xE xF xG xH xI xJ xK xL xM xN xO xP xQ xR xS xT xU xV xW xX xY xZ ya yb yc yd ye yf yg yh yi yj yk yl ym yn yo yp yq yr yt yu yv yw yx yy yz yA yB yC yD yE yF yG yH yI yJ yK yL yM yN yO yP yQ yR yS yT yU yV yW yX yY yZ za zb zc zd ze zf zg zh zi zj zk zl zm zn zo zp zq zr zs zt zu zv zw zx zy zz zA zB zC zD zE zF zG zH zI zJ zK zL zM zN zO zP zQ zR zS zT zU zV zW zX zY zZ qa qb qc qd qf qg qh qi qj qk ql qm qn qo qp qq qr qs qt qu qv qw qx qy qz qA qB qC qD qE qF qG qH qI qJ qK qL qM qN qO qP qQ qR qS qT qU qV qW qX qY qZ ja jb jc jd je jf jg jh ji jj jk jl jm jn jo jp jq jr
 clear hA hlx hlw hnt hrm hal c4 c2 c3 hfin
 unfold n16 fr6
 go_wp2_with fail
 go_loopw [19] (fun x wr => ∃ c : Nat,f ≤ c ∧ c ≤ e ∧ x = .int .i64 (c : Nat) ∧ Hid (∀ p,f ≤ p → p < c → bt t p = 32) ∧ Hid (f ≠ 0 → c = f) ∧ wr = W) (fun x _ => e - (intOf x).toNat)
 case atStart => exact ⟨f,by omega,by omega,rfl,fun p h1 h2 => by omega,fun _ => rfl,rfl⟩
 case round =>
  obtain ⟨c,hc1,hc2,rfl,hrun,hnz,rfl⟩ := hrel
  by_cases hce : c < e
  ·have hce' : ((c : Nat) : Int) < (e : Nat) := by omega
   have hlt : c < t.size := by omega
   have hb := bt_eq hlt
   by_cases hf : f = 0
   ·have hf' : (((f : Nat) : Int) == 0) = true := by simpa using hf
    by_cases hy : bt t c = 32
    ·have e32 : (((t[c]'hlt).toNat : Int) == 32) = true := by rw [← hb,hy]; rfl
     have hr2 : Hid (∀ p,f ≤ p → p < c + 1 → bt t p = 32) := fun p h1 h2 => by
      by_cases e' : p = c
      ·rw [e']; exact hy
      ·exact hrun.out p h1 (by omega)
     have hn2 : Hid (f ≠ 0 → c + 1 = f) := fun h => absurd hf h
     clear hb h19 hrun hnz hy hf
     go_wp2_with fail
     exact ⟨⟨c + 1,by omega,by omega,by simp,hr2,hn2,by first | trivial | rfl⟩,by simp [intOf]; omega⟩
    ·have e32 : (((t[c]'hlt).toNat : Int) == 32) = false := by rw [← hb]; simpa using hy
     have h19' := h19.out c ⟨hc1,hc2,hrun.out,hnz.out,fun _ _ => hy⟩
     replace h19' : Hid _ := h19'
     clear hb h19 hrun hnz hy hf
     go_wp2_with fail
     exact h19'.out _ _ _ _ _ _ _ _ _ _ _ _ _ _ _ _ _ _ _ _ _ _ _ _ _ _ _ _ _ _ _ _ _ _ _ _ _ _ _ _ _ _ _ _ _ _ _ _ _ _ _ _ _ _ _ _ _ _ _ _ _ _ _ _ _ _ _ _ _ _ _ _ _ _ _ _ _ _ _ _ _ _ _ _ _ _ _ _ _ _ _ _ _ _ _ _ _ _ _ _ _ _ _ _ _ _ _ _ _ _ _ _ _ _ _ _ _ _ _ _ _ _ _ _ _ _ _ _ _ _ _ _ _ _ _ _ _ _ _ _ _ _ _ _ _ _ _ _ _ _ _ _ _ _ _ _ _ _ _ _ _ _ _ _ _ _ _ _ _ _ _ _ _ _ _ _ _ _ _ _ _ _ _ _ _ _ _ _ _ _ _ _ _ _ _ _ _ _ _ _ _ _ _ _ _ _ _ _ _ _ _ _ _ _ _ _ _ _ _ _ _ _ _
   ·have hf' : (((f : Nat) : Int) == 0) = false := by simpa using hf
    have h19' := h19.out c ⟨hc1,hc2,hrun.out,hnz.out,fun h _ => absurd h hf⟩
    replace h19' : Hid _ := h19'
    clear hb h19 hrun hnz hf
    go_wp2_with fail
    exact h19'.out _ _ _ _ _ _ _ _ _ _ _ _ _ _ _ _ _ _ _ _ _ _ _ _ _ _ _ _ _ _ _ _ _ _ _ _ _ _ _ _ _ _ _ _ _ _ _ _ _ _ _ _ _ _ _ _ _ _ _ _ _ _ _ _ _ _ _ _ _ _ _ _ _ _ _ _ _ _ _ _ _ _ _ _ _ _ _ _ _ _ _ _ _ _ _ _ _ _ _ _ _ _ _ _ _ _ _ _ _ _ _ _ _ _ _ _ _ _ _ _ _ _ _ _ _ _ _ _ _ _ _ _ _ _ _ _ _ _ _ _ _ _ _ _ _ _ _ _ _ _ _ _ _ _ _ _ _ _ _ _ _ _ _ _ _ _ _ _ _ _ _ _ _ _ _ _ _ _ _ _ _ _ _ _ _ _ _ _ _ _ _ _ _ _ _ _ _ _ _ _ _ _ _ _ _ _ _ _ _ _ _ _ _ _ _ _ _ _ _ _ _ _ _
  ·have hce' : ¬ ((c : Nat) : Int) < (e : Nat) := by omega
   have h19' := h19.out c ⟨hc1,hc2,hrun.out,hnz.out,fun _ h => absurd h hce⟩
   replace h19' : Hid _ := h19'
   clear h19 hrun hnz
   go_wp2_with fail
   exact h19'.out _ _ _ _ _ _ _ _ _ _ _ _ _ _ _ _ _ _ _ _ _ _ _ _ _ _ _ _ _ _ _ _ _ _ _ _ _ _ _ _ _ _ _ _ _ _ _ _ _ _ _ _ _ _ _ _ _ _ _ _ _ _ _ _ _ _ _ _ _ _ _ _ _ _ _ _ _ _ _ _ _ _ _ _ _ _ _ _ _ _ _ _ _ _ _ _ _ _ _ _ _ _ _ _ _ _ _ _ _ _ _ _ _ _ _ _ _ _ _ _ _ _ _ _ _ _ _ _ _ _ _ _ _ _ _ _ _ _ _ _ _ _ _ _ _ _ _ _ _ _ _ _ _ _ _ _ _ _ _ _ _ _ _ _ _ _ _ _ _ _ _ _ _ _ _ _ _ _ _ _ _ _ _ _ _ _ _ _ _ _ _ _ _ _ _ _ _ _ _ _ _ _ _ _ _ _ _ _ _ _ _ _ _ _ _ _ _ _ _ _ _ _ _
theorem en_11 (Pb Lb : Nat) (al en nt rm lx lw : Int) (last : Bool) (t : ByteArray) (f e : Nat) (hfe : f ≤ e) (het : e ≤ t.size) (ht4 : t.size ≤ 400) (hlx : 0 ≤ lx ∧ lx ≤ 4095) (hlw : 0 ≤ lw ∧ lw ≤ 4095) (hnt : -1000000000000 ≤ nt ∧ nt ≤ 1000000000000) (hrm : rm = lx + lw - nt) (hal : al = 0 ∨ al = 1 ∨ al = 2 ∨ al = 3) (hA : ∀ fs,Fst t f e fs → AskE al en nt rm (lx + lw) last (tbK t e (e - fs)) (blK t e (e - fs))) (hle : 0 ≤ rm → en ≤ lx + lw) (W : World) (c0 : W.cell? ⟨Pb,0,none⟩ = some (.string t)) (c4 : W.cell? ⟨Pb,4,none⟩ = some (.int .i64 al)) (d0 : W.cell? ⟨Lb,0,none⟩ = some (.int .i64 (f : Nat))) (d1 : W.cell? ⟨Lb,1,none⟩ = some (.int .i64 (e : Nat))) (c2 : W.cell? ⟨Lb,2,none⟩ = some (.int .i64 lx)) (c3 : W.cell? ⟨Lb,3,none⟩ = some (.int .i64 lw)) (RR : Ending → World → Prop) (hfin : RR (.returned (.bool true)) W) (v0 v1 v5 v6 v9 xa xb xc xd xe xf xg xh xi xj xk xl xm xn xo xp xq xr xt xu xv xw xx xy xz xA xB xC xD xE xF xG xH xI xJ xK xL xM xN xO xP xQ xR xS xT xU xV xW xX xY xZ ya yb yc yd ye yf yg yh yi yj yk yl ym yn yo yp yq yr yt yu yv yw yx yy yz yA yB yC yD yE yF yG yH yI yJ yK yL yM yN yO yP yQ yR yS yT yU yV yW yX yY yZ za zb zc zd ze zf zg zh zi zj zk zl zm zn zo zp zq zr zs zt zu zv zw zx zy zz zA zB zC zD zE zF zG zH zI zJ zK zL zM zN zO zP zQ zR zS zT zU zV zW zX zY zZ qa qb qc qd qf qg qh qi qj qk ql qm qn qo qp qq qr qs qt qu qv qw qx qy qz qA qB qC qD qE qF qG qH qI qJ qK qL qM qN qO qP qQ qR qS qT qU qV qW qX qY qZ ja jb jc jd je jf jg jh ji jj jk jl jm jn jo jp jq jr : Value) :
  n11.wp Tryz.prog (bodyPost Tryz.prog Tryz.f6 RR) (fr6 v0 v1 (.bool last) (.pointer (some ⟨Pb,0,none⟩)) (.pointer (some ⟨Lb,0,none⟩)) v5 v6 (.bool true) (.int .i64 en) v9 xa xb xc (.int .i64 nt) xd xe xf xg xh xi xj xk xl xm xn xo xp xq xr xt xu xv xw xx xy xz xA xB xC xD xE xF xG xH xI xJ xK xL xM xN xO xP xQ xR xS xT xU xV xW xX xY xZ ya yb yc yd ye yf yg yh yi yj yk yl ym yn yo yp yq yr yt yu yv yw yx yy yz yA yB yC yD yE yF yG yH yI yJ yK yL yM yN yO yP yQ yR yS yT yU yV yW yX yY yZ za zb zc zd ze zf zg zh zi zj zk zl zm zn zo zp zq zr zs zt zu zv zw zx zy zz zA zB zC zD zE zF zG zH zI zJ zK zL zM zN zO zP zQ zR zS zT zU zV zW zX zY zZ qa qb qc qd qf qg qh qi qj qk ql qm qn qo qp qq qr qs qt qu qv qw qx qy qz qA qB qC qD qE qF qG qH qI qJ qK qL qM qN qO qP qQ qR qS qT qU qV qW qX qY qZ ja jb jc jd je jf jg jh ji jj jk jl jm jn jo jp jq jr) W := by
 have h16 : Hid (∀ v0 v1 v5 v6 v9 xa xb xc xd xi xj xk xl xm xn xo xp xq xr xt xu xv xw xx xy xz xA xB xC xD xE xF xG xH xI xJ xK xL xM xN xO xP xQ xR xS xT xU xV xW xX xY xZ ya yb yc yd ye yf yg yh yi yj yk yl ym yn yo yp yq yr yt yu yv yw yx yy yz yA yB yC yD yE yF yG yH yI yJ yK yL yM yN yO yP yQ yR yS yT yU yV yW yX yY yZ za zb zc zd ze zf zg zh zi zj zk zl zm zn zo zp zq zr zs zt zu zv zw zx zy zz zA zB zC zD zE zF zG zH zI zJ zK zL zM zN zO zP zQ zR zS zT zU zV zW zX zY zZ qa qb qc qd qf qg qh qi qj qk ql qm qn qo qp qq qr qs qt qu qv qw qx qy qz qA qB qC qD qE qF qG qH qI qJ qK qL qM qN qO qP qQ qR qS qT qU qV qW qX qY qZ ja jb jc jd je jf jg jh ji jj jk jl jm jn jo jp jq jr : Value,n16.wp Tryz.prog (bodyPost Tryz.prog Tryz.f6 RR) (fr6 v0 v1 (.bool last) (.pointer (some ⟨Pb,0,none⟩)) (.pointer (some ⟨Lb,0,none⟩)) v5 v6 (.bool true) (.int .i64 en) v9 xa xb xc (.int .i64 nt) xd (.int .i64 rm) (.int .i64 0) (.int .i64 0) (.bool false) xi xj xk xl xm xn xo xp xq xr xt xu xv xw xx xy xz xA xB xC xD xE xF xG xH xI xJ xK xL xM xN xO xP xQ xR xS xT xU xV xW xX xY xZ ya yb yc yd ye yf yg yh yi yj yk yl ym yn yo yp yq yr yt yu yv yw yx yy yz yA yB yC yD yE yF yG yH yI yJ yK yL yM yN yO yP yQ yR yS yT yU yV yW yX yY yZ za zb zc zd ze zf zg zh zi zj zk zl zm zn zo zp zq zr zs zt zu zv zw zx zy zz zA zB zC zD zE zF zG zH zI zJ zK zL zM zN zO zP zQ zR zS zT zU zV zW zX zY zZ qa qb qc qd qf qg qh qi qj qk ql qm qn qo qp qq qr qs qt qu qv qw qx qy qz qA qB qC qD qE qF qG qH qI qJ qK qL qM qN qO qP qQ qR qS qT qU qV qW qX qY qZ ja jb jc jd je jf jg jh ji jj jk jl jm jn jo jp jq jr) W) := fun v0 v1 v5 v6 v9 xa xb xc xd xi xj xk xl xm xn xo xp xq xr xt xu xv xw xx xy xz xA xB xC xD xE xF xG xH xI xJ xK xL xM xN xO xP xQ xR xS xT xU xV xW xX xY xZ ya yb yc yd ye yf yg yh yi yj yk yl ym yn yo yp yq yr yt yu yv yw yx yy yz yA yB yC yD yE yF yG yH yI yJ yK yL yM yN yO yP yQ yR yS yT yU yV yW yX yY yZ za zb zc zd ze zf zg zh zi zj zk zl zm zn zo zp zq zr zs zt zu zv zw zx zy zz zA zB zC zD zE zF zG zH zI zJ zK zL zM zN zO zP zQ zR zS zT zU zV zW zX zY zZ qa qb qc qd qf qg qh qi qj qk ql qm qn qo qp qq qr qs qt qu qv qw qx qy qz qA qB qC qD qE qF qG qH qI qJ qK qL qM qN qO qP qQ qR qS qT qU qV qW qX qY qZ ja jb jc jd je jf jg jh ji jj jk jl jm jn jo jp jq jr => en_16 Pb Lb al en nt rm lx lw last t f e hfe het ht4 hlx hlw hnt hrm hal hA W c0 c4 d0 d1 c2 c3 RR hfin v0 v1 v5 v6 v9 xa xb xc xd xi xj xk xl xm xn xo xp xq xr xt xu xv xw xx xy xz xA xB xC xD xE xF xG xH xI xJ xK xL xM xN xO xP xQ xR xS xT xU xV xW xX xY xZ ya yb yc yd ye yf yg yh yi yj yk yl ym yn yo yp yq yr yt yu yv yw yx yy yz yA yB yC yD yE yF yG yH yI yJ yK yL yM yN yO yP yQ yR yS yT yU yV yW yX yY yZ za zb zc zd ze zf zg zh zi zj zk zl zm zn zo zp zq zr zs zt zu zv zw zx zy zz zA zB zC zD zE zF zG zH zI zJ zK zL zM zN zO zP zQ zR zS zT zU zV zW zX zY zZ qa qb qc qd qf qg qh qi qj qk ql qm qn qo qp qq qr qs qt qu qv qw qx qy qz qA qB qC qD qE qF qG qH qI qJ qK qL qM qN qO qP qQ qR qS qT qU qV qW qX qY qZ ja jb jc jd je jf jg jh ji jj jk jl jm jn jo jp jq jr
 have hw1 : IntKind.i64.wrap (lx + lw) = lx + lw := wrap_i (by omega) (by omega)
 have hw2 : IntKind.i64.wrap (lx + lw - nt) = rm := by rw [hrm]; exact wrap_i (by omega) (by omega)
 clear hA hlx hlw hnt hrm hal c4 hfin c0 d0 d1
 unfold n11 fr6
 by_cases hr : 0 ≤ rm
 ·have he : ¬ lx + lw < en := by have := hle hr; omega
  clear hle
  go_wp2_with fail
  exact h16.out _ _ _ _ _ _ _ _ _ _ _ _ _ _ _ _ _ _ _ _ _ _ _ _ _ _ _ _ _ _ _ _ _ _ _ _ _ _ _ _ _ _ _ _ _ _ _ _ _ _ _ _ _ _ _ _ _ _ _ _ _ _ _ _ _ _ _ _ _ _ _ _ _ _ _ _ _ _ _ _ _ _ _ _ _ _ _ _ _ _ _ _ _ _ _ _ _ _ _ _ _ _ _ _ _ _ _ _ _ _ _ _ _ _ _ _ _ _ _ _ _ _ _ _ _ _ _ _ _ _ _ _ _ _ _ _ _ _ _ _ _ _ _ _ _ _ _ _ _ _ _ _ _ _ _ _ _ _ _ _ _ _ _ _ _ _ _ _ _ _ _ _ _ _ _ _ _ _ _ _ _ _ _ _ _ _ _ _ _ _ _ _ _ _ _ _ _ _ _ _ _ _ _ _ _ _ _ _ _ _ _ _ _ _ _ _ _ _ _ _ _ _ _ _
 ·clear hle
  go_wp2_with fail
  exact h16.out _ _ _ _ _ _ _ _ _ _ _ _ _ _ _ _ _ _ _ _ _ _ _ _ _ _ _ _ _ _ _ _ _ _ _ _ _ _ _ _ _ _ _ _ _ _ _ _ _ _ _ _ _ _ _ _ _ _ _ _ _ _ _ _ _ _ _ _ _ _ _ _ _ _ _ _ _ _ _ _ _ _ _ _ _ _ _ _ _ _ _ _ _ _ _ _ _ _ _ _ _ _ _ _ _ _ _ _ _ _ _ _ _ _ _ _ _ _ _ _ _ _ _ _ _ _ _ _ _ _ _ _ _ _ _ _ _ _ _ _ _ _ _ _ _ _ _ _ _ _ _ _ _ _ _ _ _ _ _ _ _ _ _ _ _ _ _ _ _ _ _ _ _ _ _ _ _ _ _ _ _ _ _ _ _ _ _ _ _ _ _ _ _ _ _ _ _ _ _ _ _ _ _ _ _ _ _ _ _ _ _ _ _ _ _ _ _ _ _ _ _ _ _ _
end Go.Proofs.YtbdpghjegachaaaGreatDoor

namespace Go.Proofs.YtbdpghjegachaaaGreatDoor
open Go.RowKit Go.Shelf

theorem bareN_rng {a : Pa} {l : Ln} (he : plE a l = 0) : -1000000000000 ≤ bareN a l ∧ bareN a l ≤ 1000000000000 := by
 obtain ⟨hck,hb1,hb2,hle,hx,hw⟩ := plE_ok he
 have hG := good_of hck
 have hn := num_4096 hck
 have ht : loI a l.t ≤ num a.t := lowN_le _ _ _
 have hM : ∀ i,i < loI a l.t - loI a l.f → MOk (bareM a l i) := fun i hi => ptM_ok (loM_ok hi (hG.msOk (by omega)))
 have hSE : bareS a l ≤ bareE a l := fwN_le _ _ _
 have hEN : bareE a l ≤ loI a l.t - loI a l.f := toN_le _ _
 have h1 := atN_rng hM (s := bareS a l) (x := l.x) hx.1 (bareE a l - bareS a l) (by omega)
 have h2 := hyI_rng a l (bareM a l) (loI a l.t - loI a l.f)
 have h3 : bareN a l = atQ (bareM a l) (bareS a l) l.x (bareE a l - bareS a l) + hyI a l (bareM a l) (loI a l.t - loI a l.f) := rfl
 omega
theorem fst_run (t : ByteArray) (e : Nat) : ∀ (k f : Nat),f + k = e → ∃ fs,f ≤ fs ∧ fs ≤ e ∧ (∀ p,f ≤ p → p < fs → bt t p = 32) ∧ (fs < e → bt t fs ≠ 32)
 | 0,f,h => ⟨f,Nat.le_refl _,by omega,fun p h1 h2 => by omega,fun h1 => by omega⟩
 | k + 1, f, h => by
  by_cases hb : bt t f = 32
  ·obtain ⟨fs,h1,h2,h3,h4⟩ := fst_run t e k (f + 1) (by omega)
   refine ⟨fs,by omega,h2,fun p h5 h6 => ?_,h4⟩
   by_cases e1 : p = f
   ·rw [e1]; exact hb
   ·exact h3 p (by omega) h6
  ·exact ⟨f,Nat.le_refl _,by omega,fun p h1 h2 => by omega,fun _ => hb⟩
theorem fst_ex {t : ByteArray} {f e : Nat} (h : f ≤ e) : ∃ fs,Fst t f e fs := by
 by_cases hf : f = 0
 ·obtain ⟨fs,h1,h2,h3,h4⟩ := fst_run t e (e - f) f (by omega)
  exact ⟨fs,h1,h2,h3,fun h => absurd hf h,fun _ => h4⟩
 ·exact ⟨f,Nat.le_refl _,h,fun p h1 h2 => by omega,fun _ => rfl,fun h => absurd h hf⟩
end Go.Proofs.YtbdpghjegachaaaGreatDoor

namespace Go.Proofs.YtbdpghjegachaaaGreatDoor
open Go.RowKit Go.Shelf
set_option maxRecDepth 100000
set_option maxHeartbeats 2000000

theorem prL_one (p : Pr) : (prL p).toArray.all (·.oneCell') = true := by simp [prL,Value.oneCell']
theorem paC_one (a : Pa) (h1 : a.sv.oneCell' = true) (h2 : a.mv.oneCell' = true) : (paC a).all (·.oneCell') = true := by simp [paC,Value.oneCell']; exact ⟨h1,h2⟩
def plainP (s : Int) : Pr := ⟨s,12,0,0,0,0,0,0,0,0,1,1,0,0,0,0,0⟩

theorem plain_any (s : Int) (w : World) : Calls Tryz.prog 44 #[.int .i64 s] w fun e w' => e = .returned (.agg (prL (plainP s)).toArray) ∧ Below w.heap.size w w' := by
 have hB := (Below.refl w.heap.size w).alloc (Nat.le_refl _) (Obj.cells #[.int .i64 0,.int .i64 0,.int .i64 0,.int .i64 0,.int .i64 0,.int .i64 0,.int .i64 0,.int .i64 0,.int .i64 0,.int .i64 0,.int .i64 0,.int .i64 0,.int .i64 0,.int .i64 0,.int .i64 0,.int .i64 0,.int .i64 0] 24)
 have hz : (w.alloc (.cells #[.int .i64 0,.int .i64 0,.int .i64 0,.int .i64 0,.int .i64 0,.int .i64 0,.int .i64 0,.int .i64 0,.int .i64 0,.int .i64 0,.int .i64 0,.int .i64 0,.int .i64 0,.int .i64 0,.int .i64 0,.int .i64 0,.int .i64 0] 24)).heap[w.heap.size]? = some (.cells #[.int .i64 0,.int .i64 0,.int .i64 0,.int .i64 0,.int .i64 0,.int .i64 0,.int .i64 0,.int .i64 0,.int .i64 0,.int .i64 0,.int .i64 0,.int .i64 0,.int .i64 0,.int .i64 0,.int .i64 0,.int .i64 0,.int .i64 0] 24 (0,0)) := World.alloc_heap_new w _
 go_enter Tryz.func44,Tryz.ntmps44
 go_wp2_with (refine wpList_store_row rfl 24 _ _ rfl w.heap.size (prL (plainP s)).toArray rfl rfl 24 _ hz (info31 _) rfl (prL_one _) ?_)
 refine bodyPost_ret (results_cell_row rfl _ _ w.heap.size 24 _ (0,0) _ rfl (setRow_heap _ _ _ _ 24 _ hz) Tryz.underlying24 rfl (info31 (plainP s))) rfl ⟨rfl,?_⟩
 exact hB.trans ((Turns.setRow (X := fun b => b = w.heap.size) (w.alloc (.cells #[.int .i64 0,.int .i64 0,.int .i64 0,.int .i64 0,.int .i64 0,.int .i64 0,.int .i64 0,.int .i64 0,.int .i64 0,.int .i64 0,.int .i64 0,.int .i64 0,.int .i64 0,.int .i64 0,.int .i64 0,.int .i64 0,.int .i64 0] 24)) rfl _).below (by simp) (fun b hb => by omega))

end Go.Proofs.YtbdpghjegachaaaGreatDoor

namespace Go.Proofs.YtbdpghjegachaaaGreatDoor
open Go.RowKit Go.Shelf

def ofP (t : ByteArray) (sv : Value) (h : Int) : Pa := ⟨t,sv,⟨8,12,0,0,0,0,0,0,0,0,1,1,h,0,0,0,0⟩,⟨#[]⟩,.slice none 0 0,[⟨t.size,0,0,0⟩],[]⟩
end Go.Proofs.YtbdpghjegachaaaGreatDoor

namespace Go.Proofs.YtbdpghjegachaaaGreatDoor
open Go.RowKit Go.Shelf

def zeroP : Pa := ⟨⟨#[]⟩,.slice none 0 0,⟨0,0,0,0,0,0,0,0,0,0,0,0,0,0,0,0,0⟩,⟨#[]⟩,.slice none 0 0,[],[]⟩
def rawP (t : ByteArray) : Pa := ⟨t,.slice none 0 0,plainP 8,⟨#[]⟩,.slice none 0 0,[],[]⟩
end Go.Proofs.YtbdpghjegachaaaGreatDoor
