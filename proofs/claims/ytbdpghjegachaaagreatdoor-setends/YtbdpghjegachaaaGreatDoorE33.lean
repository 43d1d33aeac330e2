/-
  What is proved here: what Place of set answers.
  What is proved here: lines without kerning are left as they are.
  What is proved here: what part of set does with any line.
  What is proved here: what Place of set answers of any paragraph and line.
  What is proved here: how much room a drop capital takes, as Drop of set tells it.
-/
import Derived.Test.YtbdpghjegachaaaGreatDoorE32
import Derived.Test.YtbdpghjegachaaaGreatDoorE22
import Derived.Test.YtbdpghjegachaaaGreatDoorE8
import Derived.Test.YtbdpghjegachaaaGreatDoorE28
import Derived.Test.YtbdpghjegachaaaGreatDoorE24
namespace Go.Proofs.YtbdpghjegachaaaGreatDoor
open Go.RowKit Go.Shelf
set_option maxRecDepth 100000
set_option maxHeartbeats 8000000

theorem rf_row {W : World} {base : Nat} {v : Value} {a : Pa} (h : W.ownsRow base 53 6 v (num a.t) ((mss a).flatMap msL)) : ∃ av cap g,v = .slice av (num a.t) cap ∧ num a.t ≤ cap ∧ (0 < num a.t → av = some ⟨g,0,none⟩ ∧ base ≤ g) ∧ RF W g 0 (num a.t) (fun i => msI a i) := by
 have hl := mss_len a
 have h' : W.ownsRow base 53 6 v (mss a).length ((mss a).flatMap msL) := by rw [hl]; exact h
 have hr := rec_of_row msL_len rfl h'
 obtain ⟨av,cap,rfl,h2⟩ := hr.ex
 have hc := hr.le _ _ _ rfl
 rw [hl] at hc
 rcases h2 with h2 | ⟨b,o,rfl,hb,hcl⟩
 ·have h0 : num a.t = 0 := by rw [← hl,h2]; rfl
  exact ⟨av,cap,0,by rw [hl],hc,fun h => by omega,fun h => by omega,fun i hi => by omega⟩
 ·rcases h'.2 with ⟨e,_⟩ | ⟨gg,cc,cur,e,hb',hg,hnc,hcm,hcs,htk⟩
  ·cases e
  ·cases e
   refine ⟨_,cap,b,by rw [hl],hc,fun _ => ⟨rfl,hb'⟩,fun _ => hb,fun i hi j u hu => ⟨?_,Lib.frozen_of_heap hg _⟩⟩
   have := hcl i (by rw [hl]; exact hi) j u (by rw [mss_get]; exact hu)
   exact this
theorem st_rise {t : ByteArray} : ∀ {j i : Nat},j < num t → i < j → st t i < st t j
 | 0,i,_,h => by omega
 | j + 1,i,hj,h => by
  have h1 := num_lt (show j < num t by omega)
  have h2 := st_lt h1
  by_cases e : i = j
  ·subst e; exact h2
  ·exact Nat.lt_trans (st_rise (by omega) (by omega)) h2
theorem GoodP.p2 {a : Pa} (h : GoodP a) : 0 ≤ a.p.p2 ∧ a.p.p2 ≤ 3 := by
 have := List.all_eq_true.1 h.pr (a.p.p2,0,3) (by simp [prB])
 simpa [bdB] using this
theorem GoodP.p14 {a : Pa} (h : GoodP a) : 0 ≤ a.p.p14 ∧ a.p.p14 ≤ 4 := by
 have := List.all_eq_true.1 h.pr (a.p.p14,0,4) (by simp [prB])
 simpa [bdB] using this
def loI (a : Pa) (t : Int) : Nat := lowN (fun i => (msI a i).f) t (num a.t)
def bdQ (a : Pa) (t : Int) : Bool := fndB (fun i => (msI a i).f) t (num a.t) || (t == a.t.size)
def okL (a : Pa) (l : Ln) : Prop := bdQ a l.f = true ∧ bdQ a l.t = true ∧ loI a l.f ≤ loI a l.t ∧ (0 ≤ l.x ∧ l.x ≤ 4095) ∧ (0 ≤ l.w ∧ l.w ≤ 4095)
instance (a : Pa) (l : Ln) : Decidable (okL a l) := by unfold okL; infer_instance
def plE (a : Pa) (l : Ln) : Int := if chkI a = 0 then (if okL a l then 0 else 5) else chkI a
def plL (a : Pa) (l : Ln) (last : Bool) (pn : Int → Bool) : List Gl := gyL a l last pn (fun i => msI a i) (num a.t) (loI a l.f) (loI a l.t)
def PlEnd (a : Pa) (l : Ln) (last : Bool) (pn : Int → Bool) (w : World) (e : Ending) (w' : World) : Prop :=
 (∃ v,e = .returned (.tuple #[v,.int .i64 (plE a l)]) ∧ ((plE a l ≠ 0 ∧ v = .slice none 0 0) ∨ (plE a l = 0 ∧ ∃ base,w.heap.size ≤ base ∧ w'.ownsRow base 41 4 v (plL a l last pn).length ((plL a l last pn).flatMap glL)))) ∧ Below w.heap.size w w'
theorem place_any (a : Pa) (l : Ln) (last : Bool) (Cq : Int → Prop) (pn : Int → Bool) (w : World) (hpart : PartOk a Cq pn w) (hCq : chkI a = 0 → ∀ i,i < num a.t → Cq (msI a i).q) (hA : PaAt w a) :
  Calls Tryz.prog 8 #[paV a,.agg (lnC l),.bool last] w (PlEnd a l last pn w) := by
 have hB1 := (Below.refl w.heap.size w).alloc (Nat.le_refl _) (Obj.cells (paC a) 27)
 have hB2 := hB1.alloc hB1.size (Obj.cells (lnC l) 29)
 have s1 : (w.alloc (.cells (paC a) 27)).heap.size = w.heap.size + 1 := World.size_alloc _ _
 have s2 : ((w.alloc (.cells (paC a) 27)).alloc (.cells (lnC l) 29)).heap.size = w.heap.size + 2 := by rw [World.size_alloc,s1]
 have hp0 : PB ((w.alloc (.cells (paC a) 27)).alloc (.cells (lnC l) 29)) w.heap.size a := ⟨(Below.heap_alloc _ _ _ (by omega)).trans (World.alloc_heap_new w _)⟩
 have hl0 : LB ((w.alloc (.cells (paC a) 27)).alloc (.cells (lnC l) 29)) (w.heap.size + 1) l := ⟨by have := World.alloc_heap_new (w.alloc (.cells (paC a) 27)) (.cells (lnC l) 29); rw [s1] at this; exact this⟩
 have hA2 := hA.below hB2 (Nat.le_refl _)
 have hms := masses_any a _ hA2
 unfold MassEnd at hms
 have hl0v : (Value.agg (lnC l)) = .agg #[.int .i64 l.f,.int .i64 l.t,.int .i64 l.x,.int .i64 l.w,.int .i64 l.n,.bool l.y,.int .i64 l.g] := rfl
 have hlC : lnC l = #[.int .i64 l.f,.int .i64 l.t,.int .i64 l.x,.int .i64 l.w,.int .i64 l.n,.bool l.y,.int .i64 l.g] := rfl
 unfold paV at hms ⊢
 rw [hl0v]
 rw [hlC] at hms hp0 hl0 hA2 hB2 s2
 clear hl0v hlC
 generalize hw2 : (w.alloc (.cells (paC a) 27)).alloc (.cells #[.int .i64 l.f,.int .i64 l.t,.int .i64 l.x,.int .i64 l.w,.int .i64 l.n,.bool l.y,.int .i64 l.g] 29) = w2 at *
 by_cases hck : chkI a = 0
 ·have hG := good_of hck
  have hn4 : num a.t ≤ 4096 := Nat.le_trans (num_le a.t) hG.size
  have hsz := hG.size
  have hrise : ∀ j i,j < num a.t → i < j → (msI a i).f < (msI a j).f := fun j i hj hi => by
   show ((st a.t i : Nat) : Int) < (st a.t j : Nat)
   have := st_rise hj hi
   omega
  have he0 : ∀ h : okL a l,plE a l = 0 := fun h => by unfold plE; rw [if_pos hck,if_pos h]
  have he5 : ∀ h : ¬ okL a l,plE a l = 5 := fun h => by unfold plE; rw [if_pos hck,if_neg h]
  have hend5 : Hid (¬ okL a l → ∀ W,Below w.heap.size w W → PlEnd a l last pn w (.returned (.tuple #[.slice none 0 0,.int .i64 5])) W) := fun h W hW => ⟨⟨_,by rw [he5 h],.inl ⟨by rw [he5 h]; decide,rfl⟩⟩,hW⟩
  have hfin : Hid (okL a l → ∀ base v' W',w.heap.size ≤ base → W'.ownsRow base 41 4 v' (plL a l last pn).length ((plL a l last pn).flatMap glL) → Below w.heap.size w W' → PlEnd a l last pn w (.returned (.tuple #[v',.int .i64 0])) W') := fun h base v' W' h1 h2 h3 => ⟨⟨_,by rw [he0 h],.inr ⟨he0 h,base,h1,h2⟩⟩,h3⟩
  have hall : Hid (∀ W v,Below w2.heap.size w2 W → W.ownsRow w2.heap.size 53 6 v (num a.t) ((mss a).flatMap msL) → ∃ av cap g,v = .slice av (num a.t) cap ∧ (∀ W',Below W.heap.size W W' → ∀ t,Calls Tryz.prog 22 #[.agg (paC a),.slice av (num a.t) cap,.int .i64 t] W' fun e w' => e = .returned (.tuple #[.int .i64 (loI a t : Nat),.bool (bdQ a t)]) ∧ Below W'.heap.size W' w') ∧ (okL a l → ∀ W',Below W.heap.size W W' → ∀ v0 v1 v5 v6 v7 v9 xa xb xc xd xe xf xg xh xi xj xk xl xm xn xo xp xq xr xt xu xv xw xx xy xz xA xB xC xD xE xF xG xH xI xJ xK xL xM xN xO xP xQ xR xS xT xU xV xW xX xY xZ ya yb yc yd ye yf yg yh yi yj yk yl ym yn yo yp yq yr yt yu yv yw yx yy yz yA yB yC yD yE yF yG yH yI yJ yK yL yM yN yO yP yQ yR yS yT yU yV yW yX yY yZ za zb zc zd ze zf zg zh zi zj zk zl zm zn zo zp zq zr zs zt zu zv zw zx zy : Value,restP8.wp Tryz.prog (bodyPost Tryz.prog Tryz.f8 (PlEnd a l last pn w)) (fr8 v0 v1 (.bool last) (.pointer (some ⟨w.heap.size,0,none⟩)) (.pointer (some ⟨(w.heap.size + 1),0,none⟩)) v5 v6 v7 (.slice av (num a.t) cap) v9 (.int .i64 (loI a l.f : Nat)) xa (.int .i64 (loI a l.t : Nat)) xb xc xd xe xf xg xh xi xj xk xl xm xn xo xp xq xr xt xu xv xw xx xy xz xA xB xC xD xE xF xG xH xI xJ xK xL xM xN xO xP xQ xR xS xT xU xV xW xX xY xZ ya yb yc yd ye yf yg yh yi yj yk yl ym yn yo yp yq yr yt yu yv yw yx yy yz yA yB yC yD yE yF yG yH yI yJ yK yL yM yN yO yP yQ yR yS yT yU yV yW yX yY yZ za zb zc zd ze zf zg zh zi zj zk zl zm zn zo zp zq zr zs zt zu zv zw zx zy) W')) := fun W v hb hv => by
   obtain ⟨av,cap,g,rfl,hcap,hav,hR⟩ := rf_row hv
   refine ⟨av,cap,g,rfl,fun W' hb' t => ?_,fun hok W' hb' => ?_⟩
   ·exact ahead_any a hsz W' g (num a.t) cap (fun i => msI a i) t hrise hn4 hcap av (fun h => (hav h).1) (hR.below hb' (fun h => hR.lt h))
   ·intro v0 v1 v5 v6 v7 v9 xa xb xc xd xe xf xg xh xi xj xk xl xm xn xo xp xq xr xt xu xv xw xx xy xz xA xB xC xD xE xF xG xH xI xJ xK xL xM xN xO xP xQ xR xS xT xU xV xW xX xY xZ ya yb yc yd ye yf yg yh yi yj yk yl ym yn yo yp yq yr yt yu yv yw yx yy yz yA yB yC yD yE yF yG yH yI yJ yK yL yM yN yO yP yQ yR yS yT yU yV yW yX yY yZ za zb zc zd ze zf zg zh zi zj zk zl zm zn zo zp zq zr zs zt zu zv zw zx zy
    have hbb := hb.trans (hb'.mono hb.size)
    have hg2 : 0 < num a.t → w2.heap.size ≤ g := fun h => (hav h).2
    refine place_f a l w w.heap.size (w.heap.size + 1) g (num a.t) cap (loI a l.f) (loI a l.t) (fun i => msI a i) last av Cq pn hpart hA hG (fun h => by have := num_lt h; omega) (fun h => (hav h).1) hcap hn4 hok.2.2.1 (lowN_le _ _ _) (fun i hi => hG.msOk hi) (hCq hck) hG.p14 hG.p2 hok.2.2.2.1 hok.2.2.2.2 W' (hB2.trans (hbb.mono hB2.size)) (hp0.below hbb hp0.lt) ⟨(hbb.block _ hl0.lt).trans hl0.row⟩ (hR.below hb' (fun h => hR.lt h)) (fun h => ⟨?_,?_,?_⟩) _ (fun base v' W2 h1 h2 h3 => hfin.out hok base v' W2 h1 h2 h3) v0 v1 v5 v6 v7 v9 xa xb xc xd xe xf xg xh xi xj xk xl xm xn xo xp xq xr xt xu xv xw xx xy xz xA xB xC xD xE xF xG xH xI xJ xK xL xM xN xO xP xQ xR xS xT xU xV xW xX xY xZ ya yb yc yd ye yf yg yh yi yj yk yl ym yn yo yp yq yr yt yu yv yw yx yy yz yA yB yC yD yE yF yG yH yI yJ yK yL yM yN yO yP yQ yR yS yT yU yV yW yX yY yZ za zb zc zd ze zf zg zh zi zj zk zl zm zn zo zp zq zr zs zt zu zv zw zx zy
    ·have := hg2 h; omega
    ·have := hg2 h; omega
    ·have := hg2 h; omega
  have hkx := fun W => skeeps_any l.x W
  have hkw := fun W => skeeps_any l.w W
  go_enter Tryz.func8,Tryz.ntmps8
  go_wp2_with (refine wpList_load_row rfl 27 _ rfl w.heap.size rfl 27 _ (0,0) _ hp0.row Tryz.underlying27 rfl (info34 a) ?_)
  refine hms.mono ?_
  rintro e W ⟨⟨v,rfl,hv⟩,hbW⟩
  have hv' : W.ownsRow w2.heap.size 53 6 v (num a.t) ((mss a).flatMap msL) := by
   rcases hv with ⟨h,_⟩ | ⟨_,h⟩
   ·exact absurd hck h
   ·exact h
  obtain ⟨av,cap,g,rfl,hah,hgo⟩ := hall.out W v hbW hv'
  have hpl : Hid (∀ W',Below W.heap.size W W' → PB W' w.heap.size a ∧ LB W' (w.heap.size + 1) l ∧ Below w.heap.size w W') := fun W' hb => by
   have hbb := hbW.trans (hb.mono hbW.size)
   exact ⟨hp0.below hbb hp0.lt,⟨(hbb.block _ hl0.lt).trans hl0.row⟩,hB2.trans (hbb.mono hB2.size)⟩
  have hah1 : Hid (∀ t,Calls Tryz.prog 22 #[.agg (paC a),.slice av (num a.t) cap,.int .i64 t] W fun e w' => e = .returned (.tuple #[.int .i64 (loI a t : Nat),.bool (bdQ a t)]) ∧ Below W.heap.size W w') := fun t => hah W (Below.refl _ _) t
  have hah2 : Hid (∀ t W',Below W.heap.size W W' → Calls Tryz.prog 22 #[.agg (paC a),.slice av (num a.t) cap,.int .i64 t] W' fun e w' => e = .returned (.tuple #[.int .i64 (loI a t : Nat),.bool (bdQ a t)]) ∧ Below W'.heap.size W' w') := fun t W' hb => hah W' hb t
  replace hgo : Hid (okL a l → ∀ W',Below W.heap.size W W' → ∀ v0 v1 v5 v6 v7 v9 xa xb xc xd xe xf xg xh xi xj xk xl xm xn xo xp xq xr xt xu xv xw xx xy xz xA xB xC xD xE xF xG xH xI xJ xK xL xM xN xO xP xQ xR xS xT xU xV xW xX xY xZ ya yb yc yd ye yf yg yh yi yj yk yl ym yn yo yp yq yr yt yu yv yw yx yy yz yA yB yC yD yE yF yG yH yI yJ yK yL yM yN yO yP yQ yR yS yT yU yV yW yX yY yZ za zb zc zd ze zf zg zh zi zj zk zl zm zn zo zp zq zr zs zt zu zv zw zx zy : Value,restP8.wp Tryz.prog (bodyPost Tryz.prog Tryz.f8 (PlEnd a l last pn w)) (fr8 v0 v1 (.bool last) (.pointer (some ⟨w.heap.size,0,none⟩)) (.pointer (some ⟨(w.heap.size + 1),0,none⟩)) v5 v6 v7 (.slice av (num a.t) cap) v9 (.int .i64 (loI a l.f : Nat)) xa (.int .i64 (loI a l.t : Nat)) xb xc xd xe xf xg xh xi xj xk xl xm xn xo xp xq xr xt xu xv xw xx xy xz xA xB xC xD xE xF xG xH xI xJ xK xL xM xN xO xP xQ xR xS xT xU xV xW xX xY xZ ya yb yc yd ye yf yg yh yi yj yk yl ym yn yo yp yq yr yt yu yv yw yx yy yz yA yB yC yD yE yF yG yH yI yJ yK yL yM yN yO yP yQ yR yS yT yU yV yW yX yY yZ za zb zc zd ze zf zg zh zi zj zk zl zm zn zo zp zq zr zs zt zu zv zw zx zy) W') := hgo
  obtain ⟨hpW,hlW,_⟩ := hpl.out W (Below.refl _ _)
  have c0 := hlW.c0
  rw [hck]
  clear hv hv' hall hah hms hp0 hl0 hA2 hA hB1 hB2 hCq hpart he0 he5 hrise hfin hbW hlW s1 s2 hw2
  go_wp2_with (refine wpList_load_row rfl 27 _ rfl w.heap.size rfl 27 _ (0,0) _ hpW.row Tryz.underlying27 rfl (info34 a) ?_)
  refine (hah1.out l.f).mono ?_
  rintro e W1 ⟨rfl,hb1⟩
  obtain ⟨hpW1,hlW1,_⟩ := hpl.out W1 hb1
  have c1 := hlW1.c1
  clear hpW c0 hah1 hlW1
  go_wp2_with (refine wpList_load_row rfl 27 _ rfl w.heap.size rfl 27 _ (0,0) _ hpW1.row Tryz.underlying27 rfl (info34 a) ?_)
  refine (hah2.out l.t W1 hb1).mono ?_
  rintro e W2 ⟨rfl,hb2⟩
  have hb12 := hb1.trans (hb2.mono hb1.size)
  obtain ⟨hpW2,hlW2,hB2⟩ := hpl.out W2 hb12
  have c2 := hlW2.c2
  have c3 := hlW2.c3
  have hB2h : Hid (Below w.heap.size w W2) := hB2
  have hgo2 : Hid (okL a l → ∀ v0 v1 v5 v6 v7 v9 xa xb xc xd xe xf xg xh xi xj xk xl xm xn xo xp xq xr xt xu xv xw xx xy xz xA xB xC xD xE xF xG xH xI xJ xK xL xM xN xO xP xQ xR xS xT xU xV xW xX xY xZ ya yb yc yd ye yf yg yh yi yj yk yl ym yn yo yp yq yr yt yu yv yw yx yy yz yA yB yC yD yE yF yG yH yI yJ yK yL yM yN yO yP yQ yR yS yT yU yV yW yX yY yZ za zb zc zd ze zf zg zh zi zj zk zl zm zn zo zp zq zr zs zt zu zv zw zx zy : Value,restP8.wp Tryz.prog (bodyPost Tryz.prog Tryz.f8 (PlEnd a l last pn w)) (fr8 v0 v1 (.bool last) (.pointer (some ⟨w.heap.size,0,none⟩)) (.pointer (some ⟨(w.heap.size + 1),0,none⟩)) v5 v6 v7 (.slice av (num a.t) cap) v9 (.int .i64 (loI a l.f : Nat)) xa (.int .i64 (loI a l.t : Nat)) xb xc xd xe xf xg xh xi xj xk xl xm xn xo xp xq xr xt xu xv xw xx xy xz xA xB xC xD xE xF xG xH xI xJ xK xL xM xN xO xP xQ xR xS xT xU xV xW xX xY xZ ya yb yc yd ye yf yg yh yi yj yk yl ym yn yo yp yq yr yt yu yv yw yx yy yz yA yB yC yD yE yF yG yH yI yJ yK yL yM yN yO yP yQ yR yS yT yU yV yW yX yY yZ za zb zc zd ze zf zg zh zi zj zk zl zm zn zo zp zq zr zs zt zu zv zw zx zy) W2) := fun h => hgo.out h W2 hb12
  clear hpW1 c1 hah2 hlW2 hgo hpl hb1 hb2 hb12 hB2 hpW2
  have hok : Hid (okL a l ↔ bdQ a l.f = true ∧ bdQ a l.t = true ∧ loI a l.f ≤ loI a l.t ∧ (0 ≤ l.x ∧ l.x ≤ 4095) ∧ (0 ≤ l.w ∧ l.w ≤ 4095)) := Iff.rfl
  by_cases h1 : bdQ a l.f = true
  ·rw [h1]
   by_cases h2 : bdQ a l.t = true
   ·rw [h2]
    by_cases h3 : loI a l.f ≤ loI a l.t
    ·have h3' : ¬ ((loI a l.t : Nat) : Int) < (loI a l.f : Nat) := by omega
     by_cases h4 : 0 ≤ l.x ∧ l.x ≤ 4095
     ·rw [show decide (0 ≤ l.x ∧ l.x ≤ 4095) = true by simpa using h4] at hkx
      by_cases h5 : 0 ≤ l.w ∧ l.w ≤ 4095
      ·rw [show decide (0 ≤ l.w ∧ l.w ≤ 4095) = true by simpa using h5] at hkw
       have hgo3 := hgo2.out (hok.out.2 ⟨h1,h2,h3,h4,h5⟩)
       replace hgo3 : Hid (∀ v0 v1 v5 v6 v7 v9 xa xb xc xd xe xf xg xh xi xj xk xl xm xn xo xp xq xr xt xu xv xw xx xy xz xA xB xC xD xE xF xG xH xI xJ xK xL xM xN xO xP xQ xR xS xT xU xV xW xX xY xZ ya yb yc yd ye yf yg yh yi yj yk yl ym yn yo yp yq yr yt yu yv yw yx yy yz yA yB yC yD yE yF yG yH yI yJ yK yL yM yN yO yP yQ yR yS yT yU yV yW yX yY yZ za zb zc zd ze zf zg zh zi zj zk zl zm zn zo zp zq zr zs zt zu zv zw zx zy : Value,restP8.wp Tryz.prog (bodyPost Tryz.prog Tryz.f8 (PlEnd a l last pn w)) (fr8 v0 v1 (.bool last) (.pointer (some ⟨w.heap.size,0,none⟩)) (.pointer (some ⟨(w.heap.size + 1),0,none⟩)) v5 v6 v7 (.slice av (num a.t) cap) v9 (.int .i64 (loI a l.f : Nat)) xa (.int .i64 (loI a l.t : Nat)) xb xc xd xe xf xg xh xi xj xk xl xm xn xo xp xq xr xt xu xv xw xx xy xz xA xB xC xD xE xF xG xH xI xJ xK xL xM xN xO xP xQ xR xS xT xU xV xW xX xY xZ ya yb yc yd ye yf yg yh yi yj yk yl ym yn yo yp yq yr yt yu yv yw yx yy yz yA yB yC yD yE yF yG yH yI yJ yK yL yM yN yO yP yQ yR yS yT yU yV yW yX yY yZ za zb zc zd ze zf zg zh zi zj zk zl zm zn zo zp zq zr zs zt zu zv zw zx zy) W2) := hgo3
       clear hend5 hgo2 hok hB2h h1 h2 h4 h5
       generalize loI a l.f = f0 at *
       generalize loI a l.t = t0 at *
       rename_i K1 hK1 K2 hK2
       replace hK1 : Hid _ := hK1
       go_wp2_with fail
       refine hK1.out _ _ ?_
       clear hK1
       refine wp_seq_k ?_
       intro K3 hK3
       replace hK3 : Hid _ := hK3
       go_wp2_with (go_at_call 23; first | (with_reducible refine (hkx _).mono ?_; rintro e W3 ⟨rfl,hw3⟩; subst hw3) | (with_reducible refine (hkw _).mono ?_; rintro e W3 ⟨rfl,hw3⟩; subst hw3))
       refine hK3.out _ _ ?_
       exact hgo3.out _ _ _ _ _ _ _ _ _ _ _ _ _ _ _ _ _ _ _ _ _ _ _ _ _ _ _ _ _ _ _ _ _ _ _ _ _ _ _ _ _ _ _ _ _ _ _ _ _ _ _ _ _ _ _ _ _ _ _ _ _ _ _ _ _ _ _ _ _ _ _ _ _ _ _ _ _ _ _ _ _ _ _ _ _ _ _ _ _ _ _ _ _ _ _ _ _ _ _ _ _ _ _ _ _ _ _ _ _ _ _ _ _ _ _ _ _ _ _ _ _ _ _ _ _ _ _ _ _ _ _ _ _
      ·rw [show decide (0 ≤ l.w ∧ l.w ≤ 4095) = false by simpa using h5] at hkw
       have hE := hend5.out (fun h => h5 (hok.out.1 h).2.2.2.2) W2 hB2h.out
       clear hend5 hgo2 hok hB2h
       generalize loI a l.f = f0 at *
       generalize loI a l.t = t0 at *
       go_wp2_with (go_at_call 23; first | (with_reducible refine (hkx _).mono ?_; rintro e W3 ⟨rfl,hw3⟩; subst hw3) | (with_reducible refine (hkw _).mono ?_; rintro e W3 ⟨rfl,hw3⟩; subst hw3))
       go_ret2
       exact hE
     ·rw [show decide (0 ≤ l.x ∧ l.x ≤ 4095) = false by simpa using h4] at hkx
      have hE := hend5.out (fun h => h4 (hok.out.1 h).2.2.2.1) W2 hB2h.out
      clear hend5 hgo2 hok hB2h
      generalize loI a l.f = f0 at *
      generalize loI a l.t = t0 at *
      go_wp2_with (go_at_call 23; first | (with_reducible refine (hkx _).mono ?_; rintro e W3 ⟨rfl,hw3⟩; subst hw3) | (with_reducible refine (hkw _).mono ?_; rintro e W3 ⟨rfl,hw3⟩; subst hw3))
      go_ret2
      exact hE
    ·have h3' : ((loI a l.t : Nat) : Int) < (loI a l.f : Nat) := by omega
     have hE := hend5.out (fun h => h3 (hok.out.1 h).2.2.1) W2 hB2h.out
     clear hend5 hgo2 hok hB2h
     generalize loI a l.f = f0 at *
     generalize loI a l.t = t0 at *
     go_wp2_with (go_at_call 23; first | (with_reducible refine (hkx _).mono ?_; rintro e W3 ⟨rfl,hw3⟩; subst hw3) | (with_reducible refine (hkw _).mono ?_; rintro e W3 ⟨rfl,hw3⟩; subst hw3))
     go_ret2
     exact hE
   ·rw [show bdQ a l.t = false by simpa using h2]
    have hE := hend5.out (fun h => h2 (hok.out.1 h).2.1) W2 hB2h.out
    clear hend5 hgo2 hok hB2h
    generalize loI a l.f = f0 at *
    generalize loI a l.t = t0 at *
    go_wp2_with (go_at_call 23; first | (with_reducible refine (hkx _).mono ?_; rintro e W3 ⟨rfl,hw3⟩; subst hw3) | (with_reducible refine (hkw _).mono ?_; rintro e W3 ⟨rfl,hw3⟩; subst hw3))
    go_ret2
    exact hE
  ·rw [show bdQ a l.f = false by simpa using h1]
   have hE := hend5.out (fun h => h1 (hok.out.1 h).1) W2 hB2h.out
   clear hend5 hgo2 hok hB2h
   generalize bdQ a l.t = b2 at *
   generalize loI a l.f = f0 at *
   generalize loI a l.t = t0 at *
   go_wp2_with (go_at_call 23; first | (with_reducible refine (hkx _).mono ?_; rintro e W3 ⟨rfl,hw3⟩; subst hw3) | (with_reducible refine (hkw _).mono ?_; rintro e W3 ⟨rfl,hw3⟩; subst hw3))
   go_ret2
   exact hE
 ·have he : plE a l = chkI a := by unfold plE; rw [if_neg hck]
  have hend : Hid (∀ W,Below w.heap.size w W → PlEnd a l last pn w (.returned (.tuple #[.slice none 0 0,.int .i64 (chkI a)])) W) := fun W hW => ⟨⟨_,by rw [he],.inl ⟨by rw [he]; exact hck,rfl⟩⟩,hW⟩
  have hck' : (chkI a == 0) = false := by simpa using hck
  clear he hpart hCq
  generalize chkI a = ec at *
  go_enter Tryz.func8,Tryz.ntmps8
  go_wp2_with (refine wpList_load_row rfl 27 _ rfl w.heap.size rfl 27 _ (0,0) _ hp0.row Tryz.underlying27 rfl (info34 a) ?_)
  refine hms.mono ?_
  rintro e W ⟨⟨v,rfl,hv⟩,hbW⟩
  have hB := hB2.trans (hbW.mono hB2.size)
  clear hv hms hp0 hl0 hA2 hA hB1 hB2 hbW hw2
  go_wp2_with fail
  go_ret2
  exact hend.out _ hB
end Go.Proofs.YtbdpghjegachaaaGreatDoor

namespace Go.Proofs.YtbdpghjegachaaaGreatDoor
open Go.RowKit Go.Shelf
set_option maxRecDepth 100000
set_option maxHeartbeats 1000000

def noP (_ : Int) : Bool := false
theorem part_none (a : Pa) (w0 : World) : PartOk a (fun q => q = 0) noP w0 := by
 intro w r g o N cap M av vb x hy rm l hav hcap hN hq _ _ hA hR hW hrg
 have hB := (Below.refl w.heap.size w).alloc (Nat.le_refl _) (Obj.cells (paC a) 27)
 have hW1 := hW.below hB hW.lt
 have hR1 := hR.below hB (fun h => hR.lt h)
 have hc := contains56 (fun m => m.q != 0) kern56 (w.alloc (.cells (paC a) 27)) g o N M 0 N cap o (by show o = o + 0 * 6; omega) (by omega) hN hcap av hav hR1
 rw [anyB_no (fun i hi => by show ((M (0 + i)).q != 0) = false; rw [Nat.zero_add,hq i hi]; rfl)] at hc
 have c0 := hW1.c.1
 have hend : Hid (∀ W,Below (w.alloc (.cells (paC a) 27)).heap.size (w.alloc (.cells (paC a) 27)) W → Turns (XG g N) w W ∧ RF W g o N (ptM noP M)) := fun W hb => by
  have hb2 := hB.trans (hb.mono hB.size)
  refine ⟨(Turns.of_below hb2).mono fun _ k => k.elim,(hR.below hb2 (fun h => hR.lt h)).congr fun i hi => ?_⟩
  have := hq i hi
  unfold ptM noP
  split
  ·rw [← this]
  ·rfl
 clear hA hR hW hR1 hW1 hav hq hB
 generalize hw1 : w.alloc (.cells (paC a) 27) = w1 at *
 go_enter Tryz.func27,Tryz.ntmps27
 go_wp2_with (go_at_call 55; refine hc.mono ?_; rintro e W2 ⟨rfl,hb2⟩)
 exact bodyPost_ret (results_none rfl _ _ _) rfl ⟨rfl,hend.out _ hb2⟩
end Go.Proofs.YtbdpghjegachaaaGreatDoor

namespace Go.Proofs.YtbdpghjegachaaaGreatDoor
open Go.RowKit Go.Shelf
set_option maxRecDepth 100000
set_option maxHeartbeats 4000000

def ptK (pn : Int → Bool) (M : Nat → Ms) (k i : Nat) : Ms := { M i with q := if i = 0 ∨ (i < k ∧ pn (M i).f = true) then 0 else (M i).q }
theorem ptK_end (pn : Int → Bool) (M : Nat → Ms) (N : Nat) {i : Nat} (h : i < N) : ptM pn M i = ptK pn M N i := by
 unfold ptM ptK
 by_cases h0 : i = 0
 ·rw [if_pos (.inl h0),if_pos (.inl h0)]
 ·by_cases hp : pn (M i).f = true
  ·rw [if_pos (.inr hp),if_pos (.inr ⟨h,hp⟩)]
  ·rw [if_neg (by rintro (e | e); exact h0 e; exact hp e),if_neg (by rintro (e | e); exact h0 e; exact hp e.2)]
theorem ptK_yes {pn : Int → Bool} {M : Nat → Ms} {k : Nat} (h : pn (M k).f = true) (i : Nat) : ptK pn M (k + 1) i = if i = k then { ptK pn M k k with q := 0 } else ptK pn M k i := by
 unfold ptK
 by_cases e : i = k
 ·subst e; rw [if_pos rfl,if_pos (.inr ⟨by omega,h⟩)]
 ·rw [if_neg e]
  by_cases h1 : i = 0 ∨ (i < k ∧ pn (M i).f = true)
  ·rw [if_pos h1,if_pos (h1.imp id (fun h => ⟨by omega,h.2⟩))]
  ·rw [if_neg h1,if_neg (fun h2 => h1 (h2.imp id (fun h => ⟨by omega,h.2⟩)))]
theorem ptK_no {pn : Int → Bool} {M : Nat → Ms} {k : Nat} (h : pn (M k).f = false) (i : Nat) : ptK pn M (k + 1) i = ptK pn M k i := by
 unfold ptK
 by_cases h1 : i = 0 ∨ (i < k ∧ pn (M i).f = true)
 ·rw [if_pos h1,if_pos (h1.imp id (fun h => ⟨by omega,h.2⟩))]
 ·rw [if_neg h1,if_neg]
  rintro (h2 | ⟨h2,h3⟩)
  ·exact h1 (.inl h2)
  ·by_cases e : i = k
   ·subst e; rw [h] at h3; cases h3
   ·exact h1 (.inr ⟨by omega,h3⟩)
theorem ptK_f (pn : Int → Bool) (M : Nat → Ms) (k i : Nat) : (ptK pn M k i).f = (M i).f := rfl
theorem ptK_zero (pn : Int → Bool) (M : Nat → Ms) (i : Nat) : ptK pn M 0 i = if i = 0 then { M 0 with q := 0 } else M i := by
 unfold ptK
 by_cases e : i = 0
 ·subst e; rw [if_pos (.inl rfl),if_pos rfl]
 ·rw [if_neg e,if_neg (by rintro (h | ⟨h,_⟩); exact e h; omega)]
structure PkS (w : World) (g o N : Nat) (b bo n : Nat) (F : Nat → Int) (W : World) (M : Nat → Ms) : Prop where
 t : Turns (XG g N) w W
 fR : RF W g o N M
 ps : ∀ i,i < n → W.cell? ⟨b,bo + i,none⟩ = some (.int .i64 (F i))
theorem spart_any (a : Pa) (hck : chkI a = 0) (w0 : World) (hA0 : PaAt w0 a) (htb : Hy.Tab w0) : PartOk a (fun _ => True) (pnB a) w0 := by
 intro w r g o N cap M av vb x hy rm l hav hcap hN _ hg0 hlow hA hR hW hrg
 have hB := (Below.refl w.heap.size w).alloc (Nat.le_refl _) (Obj.cells (paC a) 27)
 have hW1 := hW.below hB hW.lt
 have hR1 := hR.below hB (fun h => hR.lt h)
 have hP1 := PB.new w a
 have hc := contains56 (fun m => m.q != 0) kern56 (w.alloc (.cells (paC a) 27)) g o N M 0 N cap o (by show o = o + 0 * 6; omega) (by omega) hN hcap av hav hR1
 have c0 := hW1.c.1
 have hN' : (N : Int) ≤ 4096 := by omega
 by_cases hk : aniB (fun m => m.q != 0) M 0 N = true
 ·rw [hk] at hc
  obtain ⟨i0,hi0,_⟩ := anyB_iff.1 hk
  obtain rfl := hav (by omega)
  have hN0 : 0 < N := by omega
  have hN0' : (0 : Int) < (N : Nat) := by omega
  have hNz : ¬ N = 0 := by omega
  have hrise := pnA_rise a
  have hfm : ∀ t,fndB (fun i => (pnA a).getD i 0) t (pnA a).length = pnB a t := fun t => fnd_mem hrise t
  have hpl9 : (pnA a).length ≤ 9000 := by
   have h1 := pnF_len (itemsOf a)
   have h2 := its_len9 a.t (bodyL a) (pdOf a) (bodyL_few (good_of hck))
   unfold pnA
   exact Nat.le_trans h1 (Nat.le_trans h2 (by omega))
  have hmid : Hid (∀ W2,Below (w.alloc (.cells (paC a) 27)).heap.size (w.alloc (.cells (paC a) 27)) W2 → W2.cell? ⟨r,0,none⟩ = some (.slice (some ⟨g,o,none⟩) N cap) ∧ (∃ u,W2.cell? ⟨g,o + 5,none⟩ = some u) ∧ W2.frozen? ⟨g,o + 5,none⟩ = false ∧ PB (W2.setCell ⟨g,o + 5,none⟩ (.int .i64 0)) w.heap.size a ∧
    Calls Tryz.prog 57 #[.agg (paC a)] (W2.setCell ⟨g,o + 5,none⟩ (.int .i64 0)) fun e W4 => ∃ vp cp b bo,e = .returned (.slice vp (pnA a).length cp) ∧ (pnA a).length ≤ cp ∧ Hid (0 < (pnA a).length → vp = some ⟨b,bo,none⟩ ∧ ¬ XG g N b ∧ b < W4.heap.size) ∧ W4.cell? ⟨r,0,none⟩ = some (.slice (some ⟨g,o,none⟩) N cap) ∧ Hid (PkS w g o N b bo (pnA a).length (fun i => (pnA a).getD i 0) W4 (ptK (pnB a) M 0))) := fun W2 hb2 => by
   have hbw := hB.trans (hb2.mono hB.size)
   have hR2 := hR.below hbw (fun h => hR.lt h)
   have hW2 := hW.below hbw hW.lt
   have hc5 := (hR2.c hN0).2.2.2.2.2
   have hz5 := (hR2.z hN0).2
   have hs5 := hR2.setQ hN0 0
   rw [show o + 0 * 6 + 5 = o + 5 by omega] at hc5 hz5 hs5
   have ht := Turns.setCell (X := XG g N) W2 (p := ⟨g,o + 5,none⟩) ⟨rfl,hN0⟩ (.int .i64 0)
   have hgl := hR.lt hN0
   have hP3 : PB (W2.setCell ⟨g,o + 5,none⟩ (.int .i64 0)) w.heap.size a := (hP1.below hb2 hP1.lt).turns ht (fun e => by have := e.1; omega)
   have hW3 := hW2.turns ht hrg
   have hl2 : Below w0.heap.size w0 W2 := hlow.trans (hbw.mono hlow.size)
   have hl3 : Below w0.heap.size w0 (W2.setCell ⟨g,o + 5,none⟩ (.int .i64 0)) := hl2.trans (ht.below hl2.size (fun k hk => by obtain ⟨e1,e2⟩ := hk; subst e1; exact hg0 e2))
   have htw : Turns (XG g N) w (W2.setCell ⟨g,o + 5,none⟩ (.int .i64 0)) := ((Turns.of_below hbw).mono fun _ k => k.elim).trans ht
   have hs3 : RF (W2.setCell ⟨g,o + 5,none⟩ (.int .i64 0)) g o N (ptK (pnB a) M 0) := hs5.congr fun i _ => ptK_zero _ M i
   refine ⟨hW2.c.1,⟨_,hc5⟩,hz5,hP3,?_⟩
   have hgl3 : g < (W2.setCell ⟨g,o + 5,none⟩ (.int .i64 0)).heap.size := hs3.lt hN0
   generalize W2.setCell ⟨g,o + 5,none⟩ (.int .i64 0) = W3 at *
   refine (penalties_any a hck W3 (hA0.below hl3 (Nat.le_refl _)) (htb.below hl3)).mono ?_
   rintro e W4 ⟨v,base,rfl,hbs,hrow,hb4⟩
   have hrec := rec_of_row nmL_len rfl hrow
   obtain ⟨vp,cp,rfl,hvl⟩ := hrec.ex
   have hvc := hrec.le _ _ _ rfl
   have htw4 := htw.trans ((Turns.of_below hb4).mono fun _ k => k.elim)
   have hs4 := hs3.below hb4 (fun h => hs3.lt h)
   have hW4 := hW3.below hb4 hW3.lt
   rcases hvl with hvl | ⟨b,bo,e2,hbl,hcl⟩
   ·have hl0 : (pnA a).length = 0 := by rw [hvl]; rfl
    exact ⟨vp,cp,0,0,rfl,hvc,fun h => by omega,hW4.c.1,htw4,hs4,fun i hi => by omega⟩
   ·refine ⟨vp,cp,b,bo,rfl,hvc,fun h => ⟨e2,fun hX => ?_,hbl⟩,hW4.c.1,htw4,hs4,fun i hi => ?_⟩
    ·have h1 := (hrow.lt b (by rw [e2]; rfl)).1
     have h2 := hX.1
     omega
    ·have := hcl i hi 0 _ rfl
     rw [show bo + i * 1 + 0 = bo + i by omega] at this
     rw [this,List.getD_eq_getElem?_getD,List.getElem?_eq_getElem hi]
     rfl
  have hrc : Hid (∀ W,Turns (XG g N) w W → W.cell? ⟨r,0,none⟩ = some (.slice (some ⟨g,o,none⟩) N cap)) := fun W ht => (hW.turns ht hrg).c.1
  have hrs := rise_at hrise
  have hpe : Hid (∀ W b bo,PkS w g o N b bo (pnA a).length (fun i => (pnA a).getD i 0) W (ptK (pnB a) M N) → Turns (XG g N) w W ∧ RF W g o N (ptM (pnB a) M)) := fun W b bo h => ⟨h.t,h.fR.congr fun i hi => ptK_end _ M N hi⟩
  generalize hFe : (fun i => (pnA a).getD i 0) = F at *
  have hrsF : ∀ j i,j < (pnA a).length → i < j → F i < F j := by rw [← hFe]; exact hrs
  clear hA hA0 hR hW hR1 hW1 hav hB hP1 hlow htb hck hk hrise hrs hFe hg0
  generalize (pnA a).length = n at *
  generalize hw1 : w.alloc (.cells (paC a) 27) = w1 at *
  go_enter Tryz.func27,Tryz.ntmps27
  go_wp2_with fail
  refine hc.mono ?_
  rintro e W2 ⟨rfl,hb2⟩
  obtain ⟨d0,⟨u5,d5⟩,z5,hp3,hpen⟩ := hmid.out W2 hb2
  clear hmid hc hb2
  go_wp2_with (first | (refine wpList_load_row rfl 27 _ rfl w.heap.size rfl 27 _ (0,0) _ hp3.row Tryz.underlying27 rfl (info34 a) ?_) | (go_at_call 57; refine hpen.mono ?_; rintro e W4 ⟨vp,cp,b,bo,rfl,hcp,hvp,f0,hK0⟩; clear hpen))
  have hvp4 : Hid (0 < n → vp = some ⟨b,bo,none⟩ ∧ ¬ XG g N b) := fun h => ⟨(hvp.out h).1,(hvp.out h).2.1⟩
  have hbl : Hid (∀ W,Turns (XG g N) W4 W → PkS w g o N b bo n F W4 (ptK (pnB a) M 0) → ∀ i,i < n → W.cell? ⟨b,bo + i,none⟩ = some (.int .i64 (F i))) := fun W ht h i hi => by
   obtain ⟨h1,h2,h3⟩ := hvp.out (by omega)
   have e : W.cell? ⟨b,bo + i,none⟩ = W4.cell? ⟨b,bo + i,none⟩ := by unfold World.cell?; rw [ht.block b h3 h2]
   rw [e]
   exact h.ps i hi
  go_loopw [27] (fun i wr => ∃ k : Nat,k ≤ N ∧ i = .int .i64 k ∧ Hid (PkS w g o N b bo n F wr (ptK (pnB a) M k) ∧ Turns (XG g N) W4 wr)) (fun i _ => N - (intOf i).toNat)
  case atStart => exact ⟨0,by omega,rfl,hK0.out,Turns.refl _ _⟩
  case round =>
   obtain ⟨k,hk,rfl,hI⟩ := hrel
   have q0 := hrc.out wr hI.out.1.t
   by_cases hlt : k < N
   ·have hlt' : (k : Int) < (N : Nat) := by omega
    have hc := hI.out.1.fR.c hlt
    rw [ptK_f] at hc
    obtain ⟨m0,_,_,_,_,m5⟩ := hc
    have z5k := (hI.out.1.fR.z hlt).2
    have hse := isearch_any wr b bo n cp F (M k).f hrsF hpl9 hcp vp (fun h => (hvp4.out h).1) hI.out.1.ps
    rw [hfm] at hse
    cases hpn : pnB a (M k).f
    ·rw [hpn] at hse
     have hI2 : Hid (PkS w g o N b bo n F wr (ptK (pnB a) M (k + 1)) ∧ Turns (XG g N) W4 wr) := ⟨⟨hI.out.1.t,hI.out.1.fR.congr fun i _ => ptK_no hpn i,hI.out.1.ps⟩,hI.out.2⟩
     clear hI hpn
     generalize lowN F (M k).f n = lo at *
     generalize (M k).f = fk at *
     generalize (ptK (pnB a) M k k).q = qk at *
     go_wp2_with (go_at_call 58; refine hse.mono ?_; rintro e W5 ⟨rfl,rfl⟩)
     exact ⟨⟨k + 1,by omega,by simp,hI2⟩,by simp [intOf]; omega⟩
    ·rw [hpn] at hse
     have ht := Turns.setCell (X := XG g N) wr (p := ⟨g,o + k * 6 + 5,none⟩) ⟨rfl,hN0⟩ (.int .i64 0)
     have hI2 : Hid (PkS w g o N b bo n F (wr.setCell ⟨g,o + k * 6 + 5,none⟩ (.int .i64 0)) (ptK (pnB a) M (k + 1)) ∧ Turns (XG g N) W4 (wr.setCell ⟨g,o + k * 6 + 5,none⟩ (.int .i64 0))) := ⟨⟨hI.out.1.t.trans ht,(hI.out.1.fR.setQ hlt 0).congr fun i _ => ptK_yes hpn i,hbl.out _ (hI.out.2.trans ht) hK0.out⟩,hI.out.2.trans ht⟩
     clear hI hpn ht
     generalize lowN F (M k).f n = lo at *
     generalize (M k).f = fk at *
     generalize (ptK (pnB a) M k k).q = qk at *
     go_wp2_with (go_at_call 58; refine hse.mono ?_; rintro e W5 ⟨rfl,rfl⟩)
     exact ⟨⟨k + 1,by omega,by simp,hI2⟩,by simp [intOf]; omega⟩
   ·obtain rfl : k = N := by omega
    have hlt' : ¬ (k : Int) < k := by omega
    go_wp2_with fail
    exact bodyPost_end (v := .tuple #[]) (by kernel_rfl) rfl ⟨rfl,hpe.out _ _ _ hI.out.1⟩
 ·rw [show aniB (fun m => m.q != 0) M 0 N = false by simpa using hk] at hc
  have hq : ∀ i,i < N → (M i).q = 0 := fun i hi => by
   apply Classical.byContradiction
   intro h
   exact hk (anyB_iff.2 ⟨i,hi,by rw [Nat.zero_add]; simpa using h⟩)
  have hend : Hid (∀ W,Below (w.alloc (.cells (paC a) 27)).heap.size (w.alloc (.cells (paC a) 27)) W → Turns (XG g N) w W ∧ RF W g o N (ptM (pnB a) M)) := fun W hb => by
   have hb2 := hB.trans (hb.mono hB.size)
   refine ⟨(Turns.of_below hb2).mono fun _ k => k.elim,(hR.below hb2 (fun h => hR.lt h)).congr fun i hi => ?_⟩
   have := hq i hi
   unfold ptM
   split
   ·rw [← this]
   ·rfl
  clear hA hR hW hR1 hW1 hav hq hB hP1 hlow htb hck hk
  generalize hw1 : w.alloc (.cells (paC a) 27) = w1 at *
  go_enter Tryz.func27,Tryz.ntmps27
  go_wp2_with (go_at_call 55; refine hc.mono ?_; rintro e W2 ⟨rfl,hb2⟩)
  exact bodyPost_ret (results_none rfl _ _ _) rfl ⟨rfl,hend.out _ hb2⟩
end Go.Proofs.YtbdpghjegachaaaGreatDoor

namespace Go.Proofs.YtbdpghjegachaaaGreatDoor
open Go.RowKit Go.Shelf

theorem place_all (a : Pa) (l : Ln) (last : Bool) (w : World) (hA : PaAt w a) (htb : Hy.Tab w) : Calls Tryz.prog 8 #[paV a,.agg (lnC l),.bool last] w (PlEnd a l last (pnB a) w) := by
 by_cases hck : chkI a = 0
 ·exact place_any a l last (fun _ => True) (pnB a) w (spart_any a hck w hA htb) (fun _ _ _ => trivial) hA
 ·refine (place_any a l last (fun q => q = 0) noP w (part_none a w) (fun h => absurd h hck) hA).mono ?_
  rintro e w' ⟨⟨v,rfl,hv⟩,hb⟩
  have he : plE a l ≠ 0 := by unfold plE; rw [if_neg hck]; exact hck
  refine ⟨⟨v,rfl,.inl ⟨he,?_⟩⟩,hb⟩
  rcases hv with ⟨_,h⟩ | ⟨h,_⟩
  ·exact h
  ·exact absurd h he
def enI (L : List Gl) (x : Int) : Int := match L.getLast? with | none => x | some g => g.x + g.w
end Go.Proofs.YtbdpghjegachaaaGreatDoor

namespace Go.Proofs.YtbdpghjegachaaaGreatDoor
open Go.RowKit Go.Shelf
set_option maxRecDepth 100000
set_option maxHeartbeats 2000000

def drV (a : Pa) : Int := if chkI a = 0 ∧ capB a (num a.t) (msI a 0).k = true then cwI a + 4 else 0
theorem drop_any (a : Pa) (w : World) (hA : PaAt w a) : Calls Tryz.prog 12 #[paV a] w fun e w' => e = .returned (.tuple #[.int .i64 (drV a),.int .i64 (chkI a)]) ∧ Below w.heap.size w w' := by
 have hB := (Below.refl w.heap.size w).alloc (Nat.le_refl _) (Obj.cells (paC a) 27)
 have hP := PB.new w a
 have hms := masses_any a _ (hA.below hB (Nat.le_refl _))
 unfold MassEnd at hms
 have hr := cwI_rng a
 obtain ⟨r0,r1⟩ := hr
 by_cases hck : chkI a = 0
 ·have hG := good_of hck
  have hn4 : num a.t ≤ 4096 := Nat.le_trans (num_le a.t) hG.size
  have hcw : Hid (capB a (num a.t) (msI a 0).k = true → ∀ W,Calls Tryz.prog 41 #[.agg (paC a)] W fun e w' => e = .returned (.int .i64 (cwI a)) ∧ Below W.heap.size W w') := fun h W => by
   have hn : 0 < num a.t := by
    unfold capB at h
    rw [Bool.and_eq_true,Bool.and_eq_true,decide_eq_true_eq,decide_eq_true_eq] at h
    exact h.2.1
   exact capitalWidth_any a (by have := num_lt hn; omega) hG.p0 hG.p14 W
  have hcap : Hid (∀ W v,W.ownsRow (w.alloc (.cells (paC a) 27)).heap.size 53 6 v (num a.t) ((mss a).flatMap msL) → ∃ av cap,v = .slice av (num a.t) cap ∧ Calls Tryz.prog 24 #[.agg (paC a),.slice av (num a.t) cap] W fun e w' => e = .returned (.bool (capB a (num a.t) (msI a 0).k)) ∧ Below W.heap.size W w') := fun W v hv => by
   obtain ⟨av,cap,g,rfl,hcap,hav,hR⟩ := rf_row hv
   exact ⟨av,cap,rfl,hasCapital_any a W g (num a.t) cap (fun i => msI a i) hn4 av (fun h => (hav h).1) hR⟩
  have hdr : drV a = if capB a (num a.t) (msI a 0).k = true then cwI a + 4 else 0 := by unfold drV; simp [hck]
  rw [hck] at hms ⊢
  rw [hdr]
  unfold paV at hms ⊢
  generalize cwI a = cw at *
  generalize hcb : capB a (num a.t) (msI a 0).k = cb at *
  clear hA hG hdr hck
  generalize hw1 : w.alloc (.cells (paC a) 27) = w1 at *
  go_enter Tryz.func12,Tryz.ntmps12
  go_wp2_with (refine wpList_load_row rfl 27 _ rfl w.heap.size rfl 27 _ (0,0) _ hP.row Tryz.underlying27 rfl (info34 a) ?_)
  refine hms.mono ?_
  rintro e W ⟨⟨v,rfl,hv⟩,hbW⟩
  have hv' : W.ownsRow w1.heap.size 53 6 v (num a.t) ((mss a).flatMap msL) := by
   rcases hv with ⟨h,_⟩ | ⟨_,h⟩
   ·exact absurd rfl h
   ·exact h
  obtain ⟨av,cap,rfl,hc24⟩ := hcap.out W v hv'
  have hPW := hP.below hbW hP.lt
  have hBW := hB.trans (hbW.mono hB.size)
  have hPall : Hid (∀ W',Below W.heap.size W W' → PB W' w.heap.size a ∧ Below w.heap.size w W') := fun W' hb => ⟨hPW.below hb hPW.lt,hBW.trans (hb.mono hBW.size)⟩
  clear hv hv' hcap hms hP hB hbW hw1 hBW hcb
  cases cb
  ·clear hcw
   go_wp2_with (first | (refine wpList_load_want 27 _ rfl rfl w.heap.size rfl 27 _ (0,0) _ hPW.row Tryz.underlying27 rfl (info34 a) ?_) | (go_at_call 24; refine hc24.mono ?_; rintro e W2 ⟨rfl,hb2⟩))
   go_ret2
   exact ⟨rfl,(hPall.out _ hb2).2⟩
  ·have hcw1 : Hid (∀ W,Calls Tryz.prog 41 #[.agg (paC a)] W fun e w' => e = .returned (.int .i64 cw) ∧ Below W.heap.size W w') := hcw.out rfl
   clear hcw
   go_wp2_with (first | (refine wpList_load_want 27 _ rfl rfl w.heap.size rfl 27 _ (0,0) _ hPW.row Tryz.underlying27 rfl (info34 a) ?_) | (go_at_call 24; refine hc24.mono ?_; rintro e W2 ⟨rfl,hb2⟩; obtain ⟨hP2,hB2⟩ := hPall.out _ hb2) | (refine wpList_load_row rfl 27 _ rfl w.heap.size rfl 27 _ (0,0) _ hP2.row Tryz.underlying27 rfl (info34 a) ?_) | (go_at_call 41; refine (hcw1.out _).mono ?_; rintro e W3 ⟨rfl,hb3⟩))
   go_ret2
   exact ⟨rfl,hB2.trans (hb3.mono hB2.size)⟩
 ·have hdr : drV a = 0 := by unfold drV; rw [if_neg (fun h => hck h.1)]
  have hck' : (chkI a != 0) = true := by simpa using hck
  rw [hdr]
  unfold paV at hms ⊢
  clear hdr hA
  generalize chkI a = ec at *
  generalize hw1 : w.alloc (.cells (paC a) 27) = w1 at *
  go_enter Tryz.func12,Tryz.ntmps12
  go_wp2_with (refine wpList_load_row rfl 27 _ rfl w.heap.size rfl 27 _ (0,0) _ hP.row Tryz.underlying27 rfl (info34 a) ?_)
  refine hms.mono ?_
  rintro e W ⟨⟨v,rfl,hv⟩,hbW⟩
  have hBW := hB.trans (hbW.mono hB.size)
  clear hv hms hP hB hbW hw1
  go_wp2_with fail
  go_ret2
  exact ⟨rfl,hBW⟩
end Go.Proofs.YtbdpghjegachaaaGreatDoor
