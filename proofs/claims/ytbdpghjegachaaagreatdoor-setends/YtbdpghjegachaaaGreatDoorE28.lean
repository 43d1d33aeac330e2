/-
  What is proved here: what stands while a line is set; the end of Place.
  What is proved here: the natural width of a line; its tabs are made as wide as they are to their stops.
  What is proved here: whether one of a line's masses is a tab, whether one is kerned; the shares of blanks.
-/
import Derived.Test.YtbdpghjegachaaaGreatDoorE27
import Derived.Test.YtbdpghjegachaaaGreatDoorE24
import Derived.Test.YtbdpghjegachaaaGreatDoorE22
namespace Go.Proofs.YtbdpghjegachaaaGreatDoor
open Go.RowKit Go.Shelf
set_option maxRecDepth 100000
set_option maxHeartbeats 4000000

structure PS (w0 : World) (a : Pa) (l : Ln) (Pb Lb base : Nat) (v : Value) (L : List Gl) (W : World) : Prop where
 low : Below w0.heap.size w0 W
 pb : PB W Pb a
 lb : LB W Lb l
 row : W.ownsRow base 41 4 v L.length (L.flatMap glL)
 bs : w0.heap.size ≤ base ∧ base ≤ W.heap.size
 own : ∀ k,v.ownBlock = some k → k ≠ Pb ∧ k ≠ Lb
section
variable {w0 : World} {a : Pa} {l : Ln} {Pb Lb base : Nat} {v : Value} {L : List Gl} {W W' : World}
theorem PS.turns {X : Nat → Prop} (h : PS w0 a l Pb Lb base v L W) (ht : Turns X W W') (hX : ∀ k,X k → w0.heap.size ≤ k ∧ k ≠ Pb ∧ k ≠ Lb) (hv : ∀ k,v.ownBlock = some k → ¬ X k) : PS w0 a l Pb Lb base v L W' :=
 ⟨h.low.trans (ht.below h.low.size (fun k hk => (hX k hk).1)),h.pb.turns ht (fun e => (hX _ e).2.1 rfl),h.lb.turns ht (fun e => (hX _ e).2.2 rfl),ownsRow_turns h.row ht hv,⟨h.bs.1,Nat.le_trans h.bs.2 ht.size⟩,h.own⟩
theorem PS.below (h : PS w0 a l Pb Lb base v L W) (hb : Below W.heap.size W W') : PS w0 a l Pb Lb base v L W' := h.turns (Turns.of_below hb) (fun _k hk => hk.elim) (fun _k _ hk => hk.elim)
theorem PS.drew (h : PS w0 a l Pb Lb base v L W) : PS w0 a l Pb Lb base v L W.drew := h.below (below_drew W)
theorem PS.app {v' : Value} {L' : List Gl} (h : PS w0 a l Pb Lb base v L W) (hr : W'.ownsRow base 41 4 v' L'.length (L'.flatMap glL)) (ht : Turns (fun k => v.ownBlock = some k) W W') (hw : v'.ownBlock = v.ownBlock ∨ ∀ k,v'.ownBlock = some k → W.heap.size ≤ k) : PS w0 a l Pb Lb base v' L' W' := by
 have hb1 := h.bs.1
 have hX : ∀ k,v.ownBlock = some k → w0.heap.size ≤ k ∧ k ≠ Pb ∧ k ≠ Lb := fun k hk => ⟨Nat.le_trans hb1 (h.row.lt k hk).1,h.own k hk⟩
 refine ⟨h.low.trans (ht.below h.low.size (fun k hk => (hX k hk).1)),h.pb.turns ht (fun e => (hX _ e).2.1 rfl),h.lb.turns ht (fun e => (hX _ e).2.2 rfl),hr,⟨h.bs.1,Nat.le_trans h.bs.2 ht.size⟩,fun k hk => ?_⟩
 rcases hw with e | e
 ·exact h.own k (e ▸ hk)
 ·have h1 := e k hk
  have h2 := h.pb.lt
  have h3 := h.lb.lt
  exact ⟨by omega,by omega⟩
end
def rest19 : Code := (Code.region 19 #[⟨some 121,.move (.tmp 14),31,"set.go:63",#[],none⟩,⟨some 122,.call ⟨.value (.func 32),#[.tmp 15,.tmp 121],#[60,31]⟩,70,"set.go:63",#[⟨0,.data⟩],none⟩,⟨some 120,.move (.tmp 122),70,"set.go:63",#[⟨1,.data⟩],none⟩,⟨some 123,.extract (.tmp 120) 0,31,"set.go:63",#[⟨2,.data⟩],none⟩,⟨some 124,.extract (.tmp 120) 1,3,"set.go:63",#[⟨2,.data⟩,⟨5,.gcOnly .lateStores⟩],none⟩,⟨some 14,.assign (.tmp 123),31,"set.go:63",#[⟨3,.data⟩,⟨1,.chain⟩,⟨0,.phase⟩,⟨1,.phase⟩,⟨2,.phase⟩,⟨3,.phase⟩,⟨4,.textOnly .lateStores⟩],none⟩,⟨some 16,.assign (.tmp 124),3,"set.go:63",#[⟨4,.data⟩,⟨5,.chain⟩,⟨0,.phase⟩,⟨1,.phase⟩,⟨2,.phase⟩,⟨3,.phase⟩,⟨4,.phase⟩,⟨5,.phase⟩],none⟩] false).seq (((Code.region 20 #[⟨some 125,.fieldAddr 29 (.tmp 4) 5,0,"set.go:64",#[],none⟩,⟨some 126,.load 4 (.tmp 125),4,"set.go:64",#[⟨0,.data⟩],none⟩] false).seq (Code.cond (Operand.tmp 126) (Code.region 21 #[⟨some 127,.move (.tmp 14),31,"set.go:65",#[],none⟩,⟨some 128,.fieldAddr 29 (.tmp 4) 1,0,"set.go:65",#[],none⟩,⟨some 129,.load 3 (.tmp 128),3,"set.go:65",#[⟨1,.data⟩],none⟩,⟨some 130,.fieldAddr 29 (.tmp 4) 1,0,"set.go:65",#[],none⟩,⟨some 131,.load 3 (.tmp 130),3,"set.go:65",#[⟨3,.data⟩],none⟩,⟨some 132,.move (.tmp 16),3,"set.go:65",#[],none⟩,⟨some 133,.fieldAddr 60 (.tmp 15) 3,0,"set.go:65",#[],none⟩,⟨some 134,.load 3 (.tmp 133),3,"set.go:65",#[⟨6,.data⟩],none⟩,⟨some 135,.build 41 #[(0,.tmp 129),(1,.tmp 131),(2,.tmp 132),(3,.tmp 134)],41,"set.go:65",#[⟨2,.data⟩,⟨4,.data⟩,⟨5,.data⟩,⟨7,.data⟩],none⟩,⟨some 136,.buildSlice 31 1 #[(0,.tmp 135)],31,"set.go:65",#[⟨8,.data⟩],none⟩,⟨some 137,.call ⟨.builtin .append,#[.tmp 127,.tmp 136],#[31,31]⟩,31,"set.go:65",#[⟨0,.data⟩,⟨9,.data⟩],none⟩,⟨some 14,.assign (.tmp 137),31,"set.go:65",#[⟨10,.data⟩,⟨10,.chain⟩,⟨0,.phase⟩,⟨1,.phase⟩,⟨2,.phase⟩,⟨3,.phase⟩,⟨4,.phase⟩,⟨5,.phase⟩,⟨6,.phase⟩,⟨7,.phase⟩,⟨8,.phase⟩,⟨9,.phase⟩,⟨10,.phase⟩],none⟩] false) Code.skip)).seq ((Code.region 22 #[⟨some 138,.move (.tmp 14),31,"set.go:67",#[],none⟩,⟨some 6,.assign (.tmp 138),31,"set.go:67",#[⟨0,.data⟩,⟨0,.phase⟩],none⟩,⟨some 7,.assign (.const (.int .i64 0)),32,"set.go:67",#[⟨1,.chain⟩,⟨0,.phase⟩,⟨1,.phase⟩],none⟩] false).seq Code.ret))
theorem place_c (a : Pa) (l : Ln) (w0 : World) (Pb Lb r g o N cap base : Nat) (M : Nat → Ms) (x hy rm : Int) (last : Bool) (vb v : Value) (L : List Gl) (av : Option Addr) (hav : 0 < N → av = some ⟨g,o,none⟩) (hcap : N ≤ cap) (hN : N ≤ 4096) (hL : L.length ≤ 1)
  (hM : ∀ i,i < N → (-64 ≤ (M i).q ∧ (M i).q ≤ 0) ∧ -200000000 ≤ (M i).w ∧ (M i).w ≤ 200000000) (hx : -1000000000 ≤ x ∧ x ≤ 1000000000) (W : World) (hP : PS w0 a l Pb Lb base v L W) (hW : RW W r (.slice av N cap) vb x hy rm last) (hR : RF W g o N M) (hvg : 0 < N → v.ownBlock ≠ some g) (hvr : v.ownBlock ≠ some r)
  (RR : Ending → World → Prop) (hfin : ∀ v' W',W'.ownsRow base 41 4 v' (L ++ glS M x N ++ (if l.y = true then [(⟨l.t,l.t,psN M x N,hy⟩ : Gl)] else [])).length ((L ++ glS M x N ++ (if l.y = true then [(⟨l.t,l.t,psN M x N,hy⟩ : Gl)] else [])).flatMap glL) → Below w0.heap.size w0 W' → RR (.returned (.tuple #[v',.int .i64 0])) W') (v0 v1 v2 v5 v6 v7 v8 v9 xa xb xc xd xe xf xg xh xi xj xk xl xm xn xo xp xq xr xt xu xv xw xx xy xz xA xB xC xD xE xF xG xH xI xJ xK xL xM xN xO xP xQ xR xS xT xU xV xW xX xY xZ ya yb yc yd ye yf yg yh yi yj yk yl ym yn yo yp yq yr yt yu yv yw yx yy yz yA yB yC yD yE yF yG yH yI yJ yK yL yM yN yO yP yQ yR yS yT yU yV yW yX yY yZ za zb zc zd ze zf zg zh zi zj zk zl zm zn zo zp zq zr zs zt zu zv zw zx zy : Value) :
  rest19.wp Tryz.prog (bodyPost Tryz.prog Tryz.f8 RR) (fr8 v0 v1 v2 (.pointer (some ⟨Pb,0,none⟩)) (.pointer (some ⟨Lb,0,none⟩)) v5 v6 v7 v8 v9 xa xb xc xd v (.pointer (some ⟨r,0,none⟩)) xe xf xg xh xi xj xk xl xm xn xo xp xq xr xt xu xv xw xx xy xz xA xB xC xD xE xF xG xH xI xJ xK xL xM xN xO xP xQ xR xS xT xU xV xW xX xY xZ ya yb yc yd ye yf yg yh yi yj yk yl ym yn yo yp yq yr yt yu yv yw yx yy yz yA yB yC yD yE yF yG yH yI yJ yK yL yM yN yO yP yQ yR yS yT yU yV yW yX yY yZ za zb zc zd ze zf zg zh zi zj zk zl zm zn zo zp zq zr zs zt zu zv zw zx zy) W := by
 have hg := glyphs_any W r g o N cap M x hy rm last vb hN av hav hcap hM hx hR hW base v L hL hP.row hP.bs.2 hvg hvr
 have hrc : Hid (∀ W',Turns (fun k => v.ownBlock = some k) W W' → W'.cell? ⟨r,3,none⟩ = some (.int .i64 hy)) := fun W' ht => (hW.turns ht hvr).c.2.2.2.1
 have hPh : Hid (PS w0 a l Pb Lb base v L W) := hP
 have hll : (L ++ glS M x N).length ≤ 9000 := by rw [List.length_append,glS_len]; omega
 have hfh : Hid (∀ v' W',W'.ownsRow base 41 4 v' (L ++ glS M x N ++ (if l.y = true then [(⟨l.t,l.t,psN M x N,hy⟩ : Gl)] else [])).length ((L ++ glS M x N ++ (if l.y = true then [(⟨l.t,l.t,psN M x N,hy⟩ : Gl)] else [])).flatMap glL) → Below w0.heap.size w0 W' → RR (.returned (.tuple #[v',.int .i64 0])) W') := hfin
 clear hR hW hM hP hfin
 unfold GyEnd at hg
 generalize L ++ glS M x N = LL at *
 cases hly : l.y
 ·rw [hly,if_neg (by simp),List.append_nil] at hfh
  unfold rest19 fr8
  go_wp2_with (go_at_call 32; refine hg.mono ?_; rintro e W2 ⟨v2,rfl,hr2,hT2,ho2⟩; have hP2 : Hid (PS w0 a l Pb Lb base v2 (LL) W2) := hPh.out.app hr2 hT2 ho2; have l5 := hP2.out.lb.c5; rw [hly] at l5; clear hr2 hT2 ho2 hPh hrc hly)
  exact hfh.out _ _ hP2.out.row hP2.out.low
 ·rw [hly,if_pos rfl] at hfh
  unfold rest19 fr8
  go_wp2_with (first | (go_at_call 32; refine hg.mono ?_; rintro e W2 ⟨v2,rfl,hr2,hT2,ho2⟩; have hP2 : Hid (PS w0 a l Pb Lb base v2 (LL) W2) := hPh.out.app hr2 hT2 ho2; have c3 := hrc.out W2 hT2; have l1 := hP2.out.lb.c1; have l5 := hP2.out.lb.c5; rw [hly] at l5; clear hr2 hT2 ho2 hPh hrc hly; obtain ⟨va2,vc2,rfl,_⟩ := row_slice glL_len hP2.out.row) | (refine wpList_app2 (k := 4) (f := glL) (w0 := W2) (bytes := 32) rfl el31 glL_len glL_one (by omega) (by omega) _ _ rfl base (.slice va2 (LL).length vc2) (LL) ⟨l.t,l.t,psN M x N,hy⟩ rfl hP2.out.row hP2.out.bs.2 hll rfl rfl ?_; intro v' w6 hr6 hT6 hw6; have hP6 : Hid (PS w0 a l Pb Lb base v' (LL ++ [(⟨l.t,l.t,psN M x N,hy⟩ : Gl)]) w6) := hP2.out.app hr6 hT6 hw6; clear hr6 hT6 hw6 hP2))
  exact hfh.out _ _ hP6.out.row hP6.out.low
end Go.Proofs.YtbdpghjegachaaaGreatDoor

namespace Go.Proofs.YtbdpghjegachaaaGreatDoor
open Go.RowKit Go.Shelf
set_option maxRecDepth 100000
set_option maxHeartbeats 2000000

def wdT (m : Ms) (y : Int) : Int := if m.k = 4 then 48 - y % 48 else m.w
def atQ (M : Nat → Ms) (s : Nat) (x : Int) : Nat → Int
 | 0 => x
 | k + 1 => atQ M s x k + (M (s + k)).q + wdT (M (s + k)) (atQ M s x k)
def tabM (M : Nat → Ms) (s : Nat) (x : Int) (n i : Nat) : Ms := if (s ≤ i ∧ i < s + n) ∧ (M i).k = 4 then { M i with w := 48 - atQ M s x (i - s) % 48 } else M i
structure MOk (m : Ms) : Prop where
 w0 : 0 ≤ m.w
 w1 : m.w ≤ 4095
 q0 : -64 ≤ m.q
 q1 : m.q ≤ 0
 wq : 0 ≤ m.w + m.q
 tb : m.k = 4 → m.q = 0
theorem wdT_rng {m : Ms} (h : MOk m) {y : Int} : 0 ≤ wdT m y ∧ wdT m y ≤ 4095 ∧ 0 ≤ m.q + wdT m y := by
 have := h.w0; have := h.w1; have := h.wq
 unfold wdT
 split
 ·rename_i e; have := h.tb e; omega
 ·omega
theorem atN_rng {M : Nat → Ms} {N : Nat} (hM : ∀ i,i < N → MOk (M i)) {s : Nat} {x : Int} (hx : 0 ≤ x) : ∀ k,s + k ≤ N → x ≤ atQ M s x k ∧ atQ M s x k ≤ x + 4095 * k
 | 0,_ => by simp [atQ]
 | k + 1,h => by
  have ih := atN_rng hM (s := s) hx k (by omega)
  have h1 := wdT_rng (hM (s + k) (by omega)) (y := atQ M s x k)
  have h2 := (hM (s + k) (by omega)).q1
  show x ≤ atQ M s x k + (M (s + k)).q + wdT (M (s + k)) (atQ M s x k) ∧ atQ M s x k + (M (s + k)).q + wdT (M (s + k)) (atQ M s x k) ≤ _
  omega
theorem tabM_no {M : Nat → Ms} {s : Nat} {x : Int} {k : Nat} (h : (M (s + k)).k ≠ 4) (i : Nat) : tabM M s x (k + 1) i = tabM M s x k i := by
 unfold tabM
 by_cases e : i = s + k
 ·subst e; rw [if_neg (fun hh => h hh.2),if_neg (fun hh => h hh.2)]
 ·by_cases hh : (s ≤ i ∧ i < s + k) ∧ (M i).k = 4
  ·rw [if_pos hh,if_pos ⟨⟨hh.1.1,by omega⟩,hh.2⟩]
  ·rw [if_neg hh,if_neg (fun g => hh ⟨⟨g.1.1,by omega⟩,g.2⟩)]
theorem tabM_at {M : Nat → Ms} {s : Nat} {x : Int} {k : Nat} : tabM M s x k (s + k) = M (s + k) := by unfold tabM; rw [if_neg (by omega)]
theorem tabM_yes {M : Nat → Ms} {s : Nat} {x : Int} {k : Nat} (h : (M (s + k)).k = 4) (i : Nat) : tabM M s x (k + 1) i = if i = s + k then { tabM M s x k (s + k) with w := 48 - atQ M s x k % 48 } else tabM M s x k i := by
 rw [tabM_at]
 unfold tabM
 by_cases e : i = s + k
 ·subst e; rw [if_pos ⟨⟨by omega,by omega⟩,h⟩,if_pos rfl,show s + k - s = k by omega]
 ·rw [if_neg e]
  by_cases hh : (s ≤ i ∧ i < s + k) ∧ (M i).k = 4
  ·rw [if_pos hh,if_pos ⟨⟨hh.1.1,by omega⟩,hh.2⟩]
  ·rw [if_neg hh,if_neg (fun g => hh ⟨⟨g.1.1,by omega⟩,g.2⟩)]
theorem tabM_is {M : Nat → Ms} {s : Nat} {x : Int} {k : Nat} : (tabM M s x (k + 1) (s + k)).q = (M (s + k)).q ∧ (tabM M s x (k + 1) (s + k)).w = wdT (M (s + k)) (atQ M s x k) ∧ (tabM M s x (k + 1) (s + k)).k = (M (s + k)).k := by
 by_cases h : (M (s + k)).k = 4
 ·rw [tabM_yes h,if_pos rfl,tabM_at]; exact ⟨rfl,by unfold wdT; rw [if_pos h],rfl⟩
 ·rw [tabM_no h,tabM_at]; exact ⟨rfl,by unfold wdT; rw [if_neg h],rfl⟩
structure NS (w : World) (g o N c : Nat) (W : World) (y : Int) (M : Nat → Ms) : Prop where
 t : Turns (XG g N) w W
 b : Boxed W c 3 (.int .i64 y)
 f : RF W g o N M
theorem NS.below {w : World} {g o N c : Nat} {W W' : World} {y : Int} {M : Nat → Ms} (h : NS w g o N c W y M) (hb : Below W.heap.size W W') : NS w g o N c W' y M :=
 ⟨h.t.trans ((Turns.of_below hb).mono fun _ k => k.elim),(hb.block c (Boxed.lt h.b)).trans h.b,h.f.below hb h.f.lt⟩
theorem NS.drew {w : World} {g o N c : Nat} {W : World} {y : Int} {M : Nat → Ms} (h : NS w g o N c W y M) : NS w g o N c W.drew y M := h.below ⟨rfl,rfl,rfl,Nat.le_refl _,fun _ _ => rfl⟩
theorem NS.step {w : World} {g o N c : Nat} {W : World} {y : Int} {M : Nat → Ms} (h : NS w g o N c W y M) (hcg : ¬ XG g N c) (hcw : w.heap.size ≤ c) {k d : Int} (hy : -1000000000000 ≤ y ∧ y ≤ 1000000000000) (hk : -1000000000000 ≤ k ∧ k ≤ 1000000000000) (hd : -1000000000000 ≤ d ∧ d ≤ 1000000000000) :
  Calls Tryz.prog 103 #[.int .i64 k,.int .i64 d,.pointer (some ⟨c,0,none⟩)] W fun e w' => e = .returned (.int .i64 (y + k)) ∧ NS w g o N c w' (y + k + d) M := by
 refine (step_any c y k d hy hk hd W h.b).mono ?_
 rintro e w' ⟨rfl,rfl⟩
 have ht := Turns.setCell (X := fun k => k = c) W (p := ⟨c,0,none⟩) rfl (.int .i64 (y + k + d))
 exact ⟨rfl,h.t.trans' ht (fun i hi => .inr (by omega)),Boxed.set _ h.b,h.f.turns ht (fun hN e => hcg ⟨e.symm,hN⟩)⟩
theorem NS.setW {w : World} {g o N c : Nat} {W : World} {y : Int} {M : Nat → Ms} (h : NS w g o N c W y M) (hcg : ¬ XG g N c) {p : Nat} (hp : p < N) (u : Int) : NS w g o N c (W.setCell ⟨g,o + p * 6 + 4,none⟩ (.int .i64 u)) y (fun i => if i = p then { M p with w := u } else M i) := by
 have ht := Turns.setCell (X := XG g N) W (p := ⟨g,o + p * 6 + 4,none⟩) ⟨rfl,by omega⟩ (.int .i64 u)
 exact ⟨h.t.trans ht,(ht.block c (Boxed.lt h.b) hcg).trans h.b,h.f.setW hp u⟩
theorem lnat_any (w : World) (r g o N s n cap q : Nat) (M : Nat → Ms) (x hy rm : Int) (l : Bool) (va : Value) (hq : Hid (q = o + s * 6)) (hs : s + n ≤ N) (hN : N ≤ 4096) (a : Option Addr) (ha : 0 < n → a = some ⟨g,q,none⟩) (hcap : n ≤ cap) (hM : ∀ i,i < N → MOk (M i)) (hx : 0 ≤ x ∧ x ≤ 4095) (hhy : 0 ≤ hy ∧ hy ≤ 4095) (hR : RF w g o N M) (hW : RW w r va (.slice a n cap) x hy rm l) (hrg : ¬ XG g N r) :
  Calls Tryz.prog 30 #[.pointer (some ⟨r,0,none⟩)] w fun e w' => e = .returned (.int .i64 (atQ M s x n + hy - x)) ∧ Turns (XG g N) w w' ∧ RF w' g o N (tabM M s x n) := by
 have hn' : (n : Int) ≤ 4096 := by omega
 obtain ⟨x0,x1⟩ := hx
 obtain ⟨y0,y1⟩ := hhy
 have hw := walk_any x w
 have hc := hW.c
 obtain ⟨_,c1,c2,c3,_,_⟩ := hc
 have hlt := hW.lt
 have hglt := hR.lt
 have hB1 := (Below.refl w.heap.size w).alloc (Nat.le_refl _) (.cells #[.int .i64 x] 3)
 have hN1 : Hid (NS w g o N w.heap.size (w.alloc (.cells #[.int .i64 x] 3)) x (tabM M s x 0)) := ⟨(Turns.of_below hB1).mono fun _ k => k.elim,Boxed.new _ _ _,(hR.below hB1 hglt).congr fun i _ => by unfold tabM; rw [if_neg (by omega)]⟩
 have hrow : Hid (∀ W,Turns (XG g N) w W → W.cell? ⟨r,1,none⟩ = some (.slice a n cap) ∧ W.cell? ⟨r,2,none⟩ = some (.int .i64 x) ∧ W.cell? ⟨r,3,none⟩ = some (.int .i64 hy)) := fun W ht => by
  have := (hW.turns ht hrg).c
  exact ⟨this.2.1,this.2.2.1,this.2.2.2.1⟩
 have hcg : Hid (¬ XG g N w.heap.size) := fun e => by have := hglt e.2; have := e.1; omega
 have hat : Hid (∀ k,s + k ≤ N → 0 ≤ atQ M s x k ∧ atQ M s x k ≤ 16777216) := fun k hk => by
  have := atN_rng hM (s := s) x0 k hk
  omega
 have hMh : Hid (∀ i,i < N → MOk (M i)) := hM
 have c1' := (hrow.out _ hN1.out.t).1
 clear hW hR hM hB1
 generalize hc0 : w.heap.size = c at *
 replace hc0 : Hid (w.heap.size = c) := hc0
 generalize hw1 : w.alloc (.cells #[.int .i64 x] 3) = w1 at *
 go_enter Tryz.func30,Tryz.ntmps30
 go_wp2_with (go_at_call 61; refine hw.mono ?_; rintro e w' ⟨rfl,rfl⟩; unfold wkV)
 go_loopw [16] (fun i wr => ∃ k : Nat,k ≤ n ∧ i = .int .i64 k ∧ Hid (NS w g o N c wr (atQ M s x k) (tabM M s x k))) (fun i _ => n - (intOf i).toNat)
 case atStart => exact ⟨0,by omega,rfl,hN1⟩
 case round =>
  obtain ⟨k,hk,rfl,hI⟩ := hrel
  have d1 := hrow.out _ hI.out.t
  obtain ⟨d1,d2,d3⟩ := d1
  by_cases hlt : k < n
  ·obtain rfl := ha (by omega)
   have hlt' : (k : Int) < n := by omega
   have hsk : s + k < N := by omega
   have eq0 : o + (s + k) * 6 = q + k * 6 := by have := hq.out; omega
   have hc := hI.out.f.c hsk
   rw [eq0,tabM_at] at hc
   obtain ⟨_,_,m2,_,m4,m5⟩ := hc
   have ⟨a0,a1⟩ := hat.out k (by omega)
   have hmk := hMh.out _ hsk
   have hq0 := hmk.q0
   have hq1 := hmk.q1
   have hws := wdT_rng hmk (y := atQ M s x k)
   have hcl : Hid (∀ w' y,Hid (NS w g o N c w' y (tabM M s x (k + 1))) → w'.cell? ⟨g,q + k * 6 + 5,none⟩ = some (.int .i64 (M (s + k)).q) ∧ w'.cell? ⟨g,q + k * 6 + 4,none⟩ = some (.int .i64 (wdT (M (s + k)) (atQ M s x k)))) := fun w' y h => by
    have h7 := h.out.f.c hsk
    rw [eq0] at h7
    obtain ⟨_,_,_,_,h8,h9⟩ := h7
    rw [tabM_is.2.1] at h8
    rw [tabM_is.1] at h9
    exact ⟨h9,h8⟩
   by_cases h4 : (M (s + k)).k = 4
   ·have hst0 : Hid (∀ W,NS w g o N c W (atQ M s x k) (tabM M s x k) → Calls Tryz.prog 103 #[.int .i64 0,.int .i64 0,.pointer (some ⟨c,0,none⟩)] W fun e w' => e = .returned (.int .i64 (atQ M s x k)) ∧ Hid (NS w g o N c w' (atQ M s x k) (tabM M s x k))) := fun W hW => by
     refine (hW.step hcg.out (Nat.le_of_eq hc0.out) (by omega) (by omega) (by omega)).mono ?_
     rintro e w' ⟨rfl,h⟩
     simp only [Int.add_zero] at h
     exact ⟨by rw [Int.add_zero],h⟩
    have hto : Hid (∀ W,NS w g o N c W (atQ M s x k) (tabM M s x k) → Calls Tryz.prog 62 #[.int .i64 (atQ M s x k)] W fun e w' => e = .returned (.int .i64 (48 - atQ M s x k % 48)) ∧ (∃ u,w'.cell? ⟨g,q + k * 6 + 4,none⟩ = some u) ∧ w'.frozen? ⟨g,q + k * 6 + 4,none⟩ = false ∧ (w'.setCell ⟨g,q + k * 6 + 4,none⟩ (.int .i64 (48 - atQ M s x k % 48))).cell? ⟨g,q + k * 6 + 4,none⟩ = some (.int .i64 (48 - atQ M s x k % 48)) ∧ (w'.setCell ⟨g,q + k * 6 + 4,none⟩ (.int .i64 (48 - atQ M s x k % 48))).cell? ⟨g,q + k * 6 + 5,none⟩ = some (.int .i64 (M (s + k)).q) ∧ Hid (NS w g o N c (w'.setCell ⟨g,q + k * 6 + 4,none⟩ (.int .i64 (48 - atQ M s x k % 48))) (atQ M s x k) (tabM M s x (k + 1)))) := fun W hW => by
     refine (toStop_any _ (by omega) W).mono ?_
     rintro e w' ⟨rfl,hb⟩
     have h3 := hW.below hb
     have hcc := (h3.f.c hsk).2.2.2.2.1
     have hzz := (h3.f.z hsk).1
     have h5 := h3.setW hcg.out hsk (48 - atQ M s x k % 48)
     rw [eq0] at hcc hzz h5
     have h6 : NS w g o N c (w'.setCell ⟨g,q + k * 6 + 4,none⟩ (.int .i64 (48 - atQ M s x k % 48))) (atQ M s x k) (tabM M s x (k + 1)) := ⟨h5.t,h5.b,h5.f.congr fun i _ => tabM_yes h4 i⟩
     have h7 := h6.f.c hsk
     rw [eq0] at h7
     obtain ⟨_,_,_,_,h8,h9⟩ := h7
     rw [tabM_is.2.1,wdT,if_pos h4] at h8
     rw [tabM_is.1] at h9
     exact ⟨rfl,⟨_,hcc⟩,hzz,h8,h9,h6⟩
    have e4 : wdT (M (s + k)) (atQ M s x k) = 48 - atQ M s x k % 48 := if_pos h4
    have hst : Hid (∀ W,NS w g o N c W (atQ M s x k) (tabM M s x (k + 1)) → Calls Tryz.prog 103 #[.int .i64 (M (s + k)).q,.int .i64 (48 - atQ M s x k % 48),.pointer (some ⟨c,0,none⟩)] W fun e w' => ∃ v,e = .returned v ∧ Hid (NS w g o N c w' (atQ M s x (k + 1)) (tabM M s x (k + 1)))) := fun W hW => by
     refine (hW.step hcg.out (Nat.le_of_eq hc0.out) (by omega) (by omega) (by rw [e4] at hws; omega)).mono ?_
     rintro e w' ⟨rfl,h⟩
     rw [← e4] at h
     exact ⟨_,rfl,h⟩
    rw [e4] at hcl
    have h4' : ((M (s + k)).k == 4) = true := by simpa using h4
    clear hws e4 hmk
    generalize (M (s + k)).k = kk at *
    generalize (M (s + k)).q = qq at *
    generalize (M (s + k)).w = ww at *
    generalize 48 - atQ M s x k % 48 = dd at *
    go_wp2_with (first | (go_at_call 103; refine (hst0.out _ hI.out).mono ?_; rintro e w2 ⟨rfl,hI2⟩) | (go_at_call 62; refine (hto.out _ hI2.out).mono ?_; rintro e w3 ⟨rfl,⟨uu,g1⟩,g2,g3,g4,hN2⟩))
    generalize w3.setCell ⟨g,q + k * 6 + 4,none⟩ (.int .i64 dd) = w4 at *
    have hN3 : Hid (NS w g o N c w4.drew (atQ M s x k) (tabM M s x (k + 1))) := hN2.out.drew
    clear hI hI2 hto hst0 g1 g2
    refine nt_r8 _ (fun _ _ _ _ _ h => h) _ _ c g (q + k * 6) qq dd (fun w' => Hid (NS w g o N c w' (atQ M s x (k + 1)) (tabM M s x (k + 1)))) w4 ⟨g4,g3⟩ ((hst.out _ hN3.out).mono (fun e w' h => by obtain ⟨v,h1,h2⟩ := h; exact ⟨v,h1,h2,hcl.out w' _ h2⟩)) ?_
    intro vv w' hN4
    unfold fr30
    go_wp2_with fail
    exact ⟨⟨k + 1,by omega,by simp,hN4⟩,by simp [intOf]; omega⟩
   ·have hN2 : Hid (NS w g o N c wr (atQ M s x k) (tabM M s x (k + 1))) := ⟨hI.out.t,hI.out.b,hI.out.f.congr fun i _ => tabM_no h4 i⟩
    have e4 : wdT (M (s + k)) (atQ M s x k) = (M (s + k)).w := if_neg h4
    have hst : Hid (∀ W,NS w g o N c W (atQ M s x k) (tabM M s x (k + 1)) → Calls Tryz.prog 103 #[.int .i64 (M (s + k)).q,.int .i64 (M (s + k)).w,.pointer (some ⟨c,0,none⟩)] W fun e w' => ∃ v,e = .returned v ∧ Hid (NS w g o N c w' (atQ M s x (k + 1)) (tabM M s x (k + 1)))) := fun W hW => by
     refine (hW.step hcg.out (Nat.le_of_eq hc0.out) (by omega) (by omega) (by rw [e4] at hws; omega)).mono ?_
     rintro e w' ⟨rfl,h⟩
     rw [← e4] at h
     exact ⟨_,rfl,h⟩
    have hN3 : Hid (NS w g o N c wr.drew (atQ M s x k) (tabM M s x (k + 1))) := hN2.out.drew
    rw [e4] at hcl
    have h4' : ((M (s + k)).k == 4) = false := by simpa using h4
    clear hI hws e4 hmk
    generalize (M (s + k)).k = kk at *
    generalize (M (s + k)).q = qq at *
    generalize (M (s + k)).w = ww at *
    go_wp2_with fail
    refine nt_r8 _ (fun _ _ _ _ _ h => h) _ _ c g (q + k * 6) qq ww (fun w' => Hid (NS w g o N c w' (atQ M s x (k + 1)) (tabM M s x (k + 1)))) wr ⟨m5,m4⟩ ((hst.out _ hN3.out).mono (fun e w' h => by obtain ⟨v,h1,h2⟩ := h; exact ⟨v,h1,h2,hcl.out w' _ h2⟩)) ?_
    intro vv w' hN4
    unfold fr30
    go_wp2_with fail
    exact ⟨⟨k + 1,by omega,by simp,hN4⟩,by simp [intOf]; omega⟩
  ·obtain rfl : k = n := by omega
   have hlt' : ¬ (k : Int) < k := by omega
   have ⟨a0,a1⟩ := hat.out k (by omega)
   have hst : Hid (∀ W,NS w g o N c W (atQ M s x k) (tabM M s x k) → Calls Tryz.prog 103 #[.int .i64 0,.int .i64 0,.pointer (some ⟨c,0,none⟩)] W fun e w' => e = .returned (.int .i64 (atQ M s x k)) ∧ Turns (XG g N) w w' ∧ RF w' g o N (tabM M s x k) ∧ w'.cell? ⟨r,2,none⟩ = some (.int .i64 x) ∧ w'.cell? ⟨r,3,none⟩ = some (.int .i64 hy)) := fun W hW => by
    refine (hW.step hcg.out (Nat.le_of_eq hc0.out) (by omega) (by omega) (by omega)).mono ?_
    rintro e w' ⟨rfl,h⟩
    simp only [Int.add_zero] at h
    exact ⟨by rw [Int.add_zero],h.t,h.f,(hrow.out _ h.t).2⟩
   have hN3 : Hid (NS w g o N c wr.drew (atQ M s x k) (tabM M s x k)) := hI.out.drew
   clear hI ha
   go_wp2_with fail
   refine nt_r10 _ (fun _ _ _ _ _ h => h) _ _ c r x hy (atQ M s x k) (fun w' => Turns (XG g N) w w' ∧ RF w' g o N (tabM M s x k)) wr ⟨d2,d3⟩ x0 x1 y0 y1 a0 (by omega) ((hst.out _ hN3.out).mono (fun e w' h => ⟨h.1,⟨h.2.1,h.2.2.1⟩,h.2.2.2⟩)) ?_
   intro w' hF
   unfold fr30
   go_wp2_with fail
   go_ret
   exact ⟨rfl,hF⟩
end Go.Proofs.YtbdpghjegachaaaGreatDoor

namespace Go.Proofs.YtbdpghjegachaaaGreatDoor
open Go.RowKit Go.Shelf
set_option maxRecDepth 100000
set_option maxHeartbeats 1000000

def aniB (P : Ms → Bool) (M : Nat → Ms) (s : Nat) : Nat → Bool
 | 0 => false
 | k + 1 => aniB P M s k || P (M (s + k))
theorem anyB_no {P : Ms → Bool} {M : Nat → Ms} {s : Nat} : ∀ {n : Nat},(∀ i,i < n → P (M (s + i)) = false) → aniB P M s n = false
 | 0,_ => rfl
 | n + 1,h => by
  show (aniB P M s n || P (M (s + n))) = false
  rw [anyB_no (fun i hi => h i (by omega)),h n (by omega)]; rfl
theorem anyB_yes {P : Ms → Bool} {M : Nat → Ms} {s i : Nat} : ∀ {n : Nat},i < n → P (M (s + i)) = true → aniB P M s n = true
 | n + 1,h,hp => by
  show (aniB P M s n || P (M (s + n))) = true
  by_cases e : i = n
  ·subst e; rw [hp,Bool.or_true]
  ·rw [anyB_yes (by omega) hp]; rfl
theorem anyB_iff {P : Ms → Bool} {M : Nat → Ms} {s n : Nat} : aniB P M s n = true ↔ ∃ i,i < n ∧ P (M (s + i)) = true := by
 constructor
 ·intro h
  apply Classical.byContradiction
  intro hn
  have e : aniB P M s n = false := anyB_no fun i hi => by
   cases hp : P (M (s + i))
   ·rfl
   ·exact absurd ⟨i,hi,hp⟩ hn
  rw [e] at h
  cases h
 ·rintro ⟨i,hi,hp⟩; exact anyB_yes hi hp
theorem kern56 (m : Ms) (w : World) : Calls Tryz.prog 56 #[.agg (msL m).toArray] w fun e w' => e = .returned (.bool (m.q != 0)) ∧ Below w.heap.size w w' := by
 obtain ⟨x0,x1,x2,x3,x4,x5⟩ := m
 show Calls Tryz.prog 56 #[.agg #[.int .i64 x0,.int .i64 x1,.int .i64 x2,.int .i64 x3,.int .i64 x4,.int .i64 x5]] w _
 have hB := (Below.refl w.heap.size w).alloc (Nat.le_refl _) (.cells #[.int .i64 x0,.int .i64 x1,.int .i64 x2,.int .i64 x3,.int .i64 x4,.int .i64 x5] 53)
 go_enter Tryz.func56,Tryz.ntmps56
 go_wp2_with fail
 go_ret
 exact ⟨rfl,hB⟩
theorem tab133 (m : Ms) (w : World) : Calls Tryz.prog 133 #[.agg (msL m).toArray] w fun e w' => e = .returned (.bool (m.k == 4)) ∧ Below w.heap.size w w' := by
 obtain ⟨x0,x1,x2,x3,x4,x5⟩ := m
 show Calls Tryz.prog 133 #[.agg #[.int .i64 x0,.int .i64 x1,.int .i64 x2,.int .i64 x3,.int .i64 x4,.int .i64 x5]] w _
 have hB := (Below.refl w.heap.size w).alloc (Nat.le_refl _) (.cells #[.int .i64 x0,.int .i64 x1,.int .i64 x2,.int .i64 x3,.int .i64 x4,.int .i64 x5] 53)
 go_enter Tryz.func133,Tryz.ntmps133
 go_wp2_with fail
 go_ret
 exact ⟨rfl,hB⟩
theorem index56 (P : Ms → Bool) (hfn : ∀ m W,Calls Tryz.prog 56 #[.agg (msL m).toArray] W fun e w' => e = .returned (.bool (P m)) ∧ Below W.heap.size W w') (w : World) (g o N : Nat) (M : Nat → Ms) (s n cap q : Nat) (hq : Hid (q = o + s * 6)) (hs : s + n ≤ N) (hN : N ≤ 4096) (hcap : n ≤ cap) (a : Option Addr) (ha : 0 < n → a = some ⟨g,q,none⟩) (hR : RF w g o N M) :
  Calls Tryz.prog 98 #[.slice a n cap,.func (.func 56) #[] #[]] w fun e w' => ∃ x : Int,e = .returned (.int .i64 x) ∧ decide (0 ≤ x) = aniB P M s n ∧ Below w.heap.size w w' := by
 have hn' : (n : Int) ≤ 4096 := by omega
 have hfh : Hid (∀ m W,Calls Tryz.prog 56 #[.agg (msL m).toArray] W fun e w' => e = .returned (.bool (P m)) ∧ Below W.heap.size W w') := hfn
 have hRh : Hid (RF w g o N M) := hR
 clear hfn hR
 go_enter Tryz.func98,Tryz.ntmps98
 go_wp2_with fail
 go_loopw [8] (fun i wr => ∃ k : Nat,k ≤ n ∧ i = .int .i64 k ∧ Hid (Below w.heap.size w wr ∧ ∀ j,j < k → P (M (s + j)) = false)) (fun i _ => n - (intOf i).toNat)
 case atStart => exact ⟨0,by omega,rfl,Below.refl _ _,fun j hj => by omega⟩
 case round =>
  obtain ⟨k,hk,rfl,hI⟩ := hrel
  by_cases hlt : k < n
  ·obtain rfl := ha (by omega)
   have hlt' : (k : Int) < n := by omega
   have hb := hI.out.1
   have hR2 := hRh.out.below hb (fun h => hRh.out.lt h)
   have hc := hR2.c (i := s + k) (by omega)
   rw [show o + (s + k) * 6 = q + k * 6 by have := hq.out; omega] at hc
   obtain ⟨m0,m1,m2,m3,m4,m5⟩ := hc
   have hcall : Hid (Calls Tryz.prog 56 #[.agg #[.int .i64 (M (s + k)).f,.int .i64 (M (s + k)).t,.int .i64 (M (s + k)).k,.int .i64 (M (s + k)).s,.int .i64 (M (s + k)).w,.int .i64 (M (s + k)).q]] wr fun e w' => e = .returned (.bool (P (M (s + k)))) ∧ Below wr.heap.size wr w') := hfh.out (M (s + k)) wr
   clear hR2
   cases hp : P (M (s + k))
   ·have hnx : Hid (∀ w',Below wr.heap.size wr w' → Below w.heap.size w w' ∧ ∀ j,j < k + 1 → P (M (s + j)) = false) := fun w' h => ⟨hb.trans (h.mono hb.size),fun j hj => by
     by_cases e : j = k
     ·subst e; exact hp
     ·exact hI.out.2 j (by omega)⟩
    rw [hp] at hcall
    clear hI hb hp
    generalize M (s + k) = m at *
    obtain ⟨x0,x1,x2,x3,x4,x5⟩ := m
    go_wp2_with (go_at_call 56; refine hcall.out.mono ?_; rintro e w2 ⟨rfl,hb2⟩; have hI2 := hnx.out w2 hb2; replace hI2 : Hid _ := hI2)
    exact ⟨⟨k + 1,by omega,by simp,hI2⟩,by simp [intOf]; omega⟩
   ·have hfin : Hid (aniB P M s n = true) := anyB_yes hlt hp
    rw [hp] at hcall
    clear hI hp
    generalize M (s + k) = m at *
    obtain ⟨x0,x1,x2,x3,x4,x5⟩ := m
    go_wp2_with (go_at_call 56; refine hcall.out.mono ?_; rintro e w2 ⟨rfl,hb2⟩)
    go_ret
    exact ⟨_,rfl,by rw [hfin.out]; simp,hb.trans (hb2.mono hb.size)⟩
  ·obtain rfl : k = n := by omega
   have hlt' : ¬ (k : Int) < k := by omega
   go_wp2_with fail
   go_ret
   exact ⟨_,rfl,by rw [anyB_no hI.out.2]; rfl,hI.out.1⟩
theorem contains56 (P : Ms → Bool) (hfn : ∀ m W,Calls Tryz.prog 56 #[.agg (msL m).toArray] W fun e w' => e = .returned (.bool (P m)) ∧ Below W.heap.size W w') (w : World) (g o N : Nat) (M : Nat → Ms) (s n cap q : Nat) (hq : Hid (q = o + s * 6)) (hs : s + n ≤ N) (hN : N ≤ 4096) (hcap : n ≤ cap) (a : Option Addr) (ha : 0 < n → a = some ⟨g,q,none⟩) (hR : RF w g o N M) :
  Calls Tryz.prog 55 #[.slice a n cap,.func (.func 56) #[] #[]] w fun e w' => e = .returned (.bool (aniB P M s n)) ∧ Below w.heap.size w w' := by
 have hi := index56 P hfn w g o N M s n cap q hq hs hN hcap a ha hR
 clear hR ha hfn
 generalize aniB P M s n = z at *
 go_enter Tryz.func55,Tryz.ntmps55
 go_wp2_with (refine hi.mono ?_; rintro e w2 ⟨y,rfl,hy,hb2⟩)
 go_ret
 exact ⟨by rw [← hy]; rfl,hb2⟩
theorem index133 (P : Ms → Bool) (hfn : ∀ m W,Calls Tryz.prog 133 #[.agg (msL m).toArray] W fun e w' => e = .returned (.bool (P m)) ∧ Below W.heap.size W w') (w : World) (g o N : Nat) (M : Nat → Ms) (s n cap q : Nat) (hq : Hid (q = o + s * 6)) (hs : s + n ≤ N) (hN : N ≤ 4096) (hcap : n ≤ cap) (a : Option Addr) (ha : 0 < n → a = some ⟨g,q,none⟩) (hR : RF w g o N M) :
  Calls Tryz.prog 98 #[.slice a n cap,.func (.func 133) #[] #[]] w fun e w' => ∃ x : Int,e = .returned (.int .i64 x) ∧ decide (0 ≤ x) = aniB P M s n ∧ Below w.heap.size w w' := by
 have hn' : (n : Int) ≤ 4096 := by omega
 have hfh : Hid (∀ m W,Calls Tryz.prog 133 #[.agg (msL m).toArray] W fun e w' => e = .returned (.bool (P m)) ∧ Below W.heap.size W w') := hfn
 have hRh : Hid (RF w g o N M) := hR
 clear hfn hR
 go_enter Tryz.func98,Tryz.ntmps98
 go_wp2_with fail
 go_loopw [8] (fun i wr => ∃ k : Nat,k ≤ n ∧ i = .int .i64 k ∧ Hid (Below w.heap.size w wr ∧ ∀ j,j < k → P (M (s + j)) = false)) (fun i _ => n - (intOf i).toNat)
 case atStart => exact ⟨0,by omega,rfl,Below.refl _ _,fun j hj => by omega⟩
 case round =>
  obtain ⟨k,hk,rfl,hI⟩ := hrel
  by_cases hlt : k < n
  ·obtain rfl := ha (by omega)
   have hlt' : (k : Int) < n := by omega
   have hb := hI.out.1
   have hR2 := hRh.out.below hb (fun h => hRh.out.lt h)
   have hc := hR2.c (i := s + k) (by omega)
   rw [show o + (s + k) * 6 = q + k * 6 by have := hq.out; omega] at hc
   obtain ⟨m0,m1,m2,m3,m4,m5⟩ := hc
   have hcall : Hid (Calls Tryz.prog 133 #[.agg #[.int .i64 (M (s + k)).f,.int .i64 (M (s + k)).t,.int .i64 (M (s + k)).k,.int .i64 (M (s + k)).s,.int .i64 (M (s + k)).w,.int .i64 (M (s + k)).q]] wr fun e w' => e = .returned (.bool (P (M (s + k)))) ∧ Below wr.heap.size wr w') := hfh.out (M (s + k)) wr
   clear hR2
   cases hp : P (M (s + k))
   ·have hnx : Hid (∀ w',Below wr.heap.size wr w' → Below w.heap.size w w' ∧ ∀ j,j < k + 1 → P (M (s + j)) = false) := fun w' h => ⟨hb.trans (h.mono hb.size),fun j hj => by
     by_cases e : j = k
     ·subst e; exact hp
     ·exact hI.out.2 j (by omega)⟩
    rw [hp] at hcall
    clear hI hb hp
    generalize M (s + k) = m at *
    obtain ⟨x0,x1,x2,x3,x4,x5⟩ := m
    go_wp2_with (go_at_call 133; refine hcall.out.mono ?_; rintro e w2 ⟨rfl,hb2⟩; have hI2 := hnx.out w2 hb2; replace hI2 : Hid _ := hI2)
    exact ⟨⟨k + 1,by omega,by simp,hI2⟩,by simp [intOf]; omega⟩
   ·have hfin : Hid (aniB P M s n = true) := anyB_yes hlt hp
    rw [hp] at hcall
    clear hI hp
    generalize M (s + k) = m at *
    obtain ⟨x0,x1,x2,x3,x4,x5⟩ := m
    go_wp2_with (go_at_call 133; refine hcall.out.mono ?_; rintro e w2 ⟨rfl,hb2⟩)
    go_ret
    exact ⟨_,rfl,by rw [hfin.out]; simp,hb.trans (hb2.mono hb.size)⟩
  ·obtain rfl : k = n := by omega
   have hlt' : ¬ (k : Int) < k := by omega
   go_wp2_with fail
   go_ret
   exact ⟨_,rfl,by rw [anyB_no hI.out.2]; rfl,hI.out.1⟩
theorem contains133 (P : Ms → Bool) (hfn : ∀ m W,Calls Tryz.prog 133 #[.agg (msL m).toArray] W fun e w' => e = .returned (.bool (P m)) ∧ Below W.heap.size W w') (w : World) (g o N : Nat) (M : Nat → Ms) (s n cap q : Nat) (hq : Hid (q = o + s * 6)) (hs : s + n ≤ N) (hN : N ≤ 4096) (hcap : n ≤ cap) (a : Option Addr) (ha : 0 < n → a = some ⟨g,q,none⟩) (hR : RF w g o N M) :
  Calls Tryz.prog 55 #[.slice a n cap,.func (.func 133) #[] #[]] w fun e w' => e = .returned (.bool (aniB P M s n)) ∧ Below w.heap.size w w' := by
 have hi := index133 P hfn w g o N M s n cap q hq hs hN hcap a ha hR
 clear hR ha hfn
 generalize aniB P M s n = z at *
 go_enter Tryz.func55,Tryz.ntmps55
 go_wp2_with (refine hi.mono ?_; rintro e w2 ⟨y,rfl,hy,hb2⟩)
 go_ret
 exact ⟨by rw [← hy]; rfl,hb2⟩
end Go.Proofs.YtbdpghjegachaaaGreatDoor
