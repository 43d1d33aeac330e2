/-
  What is proved here: the middle of Place: what it is made of.
  What is proved here: the middle of Place.
  What is proved here: bounds of a paragraph's masses, and of those of a line once its blanks are left out and its kerning is taken off (no program is named).
-/
import Derived.Test.YtbdpghjegachaaaGreatDoorE28
import Derived.Test.YtbdpghjegachaaaGreatDoorE29
import Derived.Test.YtbdpghjegachaaaGreatDoorE30
namespace Go.Proofs.YtbdpghjegachaaaGreatDoor
open Go.RowKit Go.Shelf
set_option maxRecDepth 100000
set_option maxHeartbeats 1000000

def rest18 : Code := (Code.region 18 #[⟨some 110,.fieldAddr 60 (.tmp 15) 2,0,"set.go:62",#[],none⟩,⟨some 111,.load 3 (.tmp 110),3,"set.go:62",#[⟨0,.data⟩],none⟩,⟨some 112,.call ⟨.value (.func 31),#[],#[]⟩,67,"set.go:62",#[],none⟩,⟨some 113,.fieldAddr 27 (.tmp 3) 2,0,"set.go:62",#[],none⟩,⟨some 114,.fieldAddr 24 (.tmp 113) 2,0,"set.go:62",#[⟨3,.data⟩],none⟩,⟨some 115,.load 3 (.tmp 114),3,"set.go:62",#[⟨4,.data⟩],none⟩,⟨some 116,.index 67 (.tmp 112) (.tmp 115),66,"set.go:62",#[⟨2,.data⟩,⟨5,.data⟩],none⟩,⟨some 117,.call ⟨.value (.tmp 116),#[.tmp 15],#[69]⟩,3,"set.go:62",#[⟨6,.data⟩,⟨2,.chain⟩],none⟩,⟨some 118,.binOp .add 3 (.tmp 111) (.tmp 117) 3,3,"set.go:62",#[⟨1,.data⟩,⟨7,.data⟩],none⟩,⟨some 119,.fieldAddr 60 (.tmp 15) 2,0,"set.go:62",#[⟨0,.phase⟩,⟨1,.phase⟩,⟨2,.phase⟩,⟨3,.phase⟩,⟨4,.phase⟩,⟨5,.phase⟩,⟨6,.phase⟩,⟨7,.phase⟩,⟨8,.phase⟩],none⟩,⟨none,.store 3 (.tmp 119) (.tmp 118),0,"set.go:62",#[⟨9,.data⟩,⟨8,.data⟩,⟨7,.chain⟩,⟨0,.phase⟩,⟨1,.phase⟩,⟨2,.phase⟩,⟨3,.phase⟩,⟨4,.phase⟩,⟨5,.phase⟩,⟨6,.phase⟩,⟨7,.phase⟩,⟨8,.phase⟩],none⟩] true).seq rest19
def rest17 : Code := (Code.region 17 #[⟨some 105,.fieldAddr 29 (.tmp 4) 3,0,"set.go:61",#[],none⟩,⟨some 106,.load 3 (.tmp 105),3,"set.go:61",#[⟨0,.data⟩],none⟩,⟨some 107,.call ⟨.value (.func 30),#[.tmp 15],#[60]⟩,3,"set.go:61",#[],none⟩,⟨some 108,.binOp .sub 3 (.tmp 106) (.tmp 107) 3,3,"set.go:61",#[⟨1,.data⟩,⟨2,.data⟩],none⟩,⟨some 109,.fieldAddr 60 (.tmp 15) 4,0,"set.go:61",#[⟨0,.phase⟩,⟨1,.phase⟩,⟨2,.phase⟩,⟨3,.phase⟩],none⟩,⟨none,.store 3 (.tmp 109) (.tmp 108),0,"set.go:61",#[⟨4,.data⟩,⟨3,.data⟩,⟨2,.chain⟩,⟨0,.phase⟩,⟨1,.phase⟩,⟨2,.phase⟩,⟨3,.phase⟩],none⟩] true).seq rest18
def rest15 : Code := ((Code.region 15 #[⟨some 99,.fieldAddr 29 (.tmp 4) 5,0,"set.go:58",#[],none⟩,⟨some 100,.load 4 (.tmp 99),4,"set.go:58",#[⟨0,.data⟩],none⟩] false).seq (Code.cond (Operand.tmp 100) (Code.region 16 #[⟨some 101,.load 27 (.tmp 3),27,"set.go:59",#[],none⟩,⟨some 102,.call ⟨.value (.func 29),#[.tmp 15,.tmp 101],#[60,27]⟩,3,"set.go:59",#[⟨0,.data⟩],none⟩,⟨some 103,.call ⟨.value (.func 28),#[.tmp 102],#[3]⟩,3,"set.go:59",#[⟨1,.data⟩,⟨1,.chain⟩],none⟩,⟨some 104,.fieldAddr 60 (.tmp 15) 3,0,"set.go:59",#[⟨0,.phase⟩,⟨1,.phase⟩,⟨2,.phase⟩],none⟩,⟨none,.store 3 (.tmp 104) (.tmp 103),0,"set.go:59",#[⟨3,.data⟩,⟨2,.data⟩,⟨2,.chain⟩,⟨0,.phase⟩,⟨1,.phase⟩,⟨2,.phase⟩],none⟩] false) Code.skip)).seq rest17
theorem r18_call0 (ps : String) (r : Nat) (mv : Int) (P1 PP : World → Prop) (h : ∀ w,P1 w → Calls Tryz.prog 63 #[.pointer (some ⟨r,0,none⟩)] w fun e w' => e = .returned (.int .i64 mv) ∧ PP w') : ∀ (fr : Act) (w : World) (K : Act → World → Prop) (Q : Exit → Act → World → Prop),fr.eval (.tmp 116) = .func (.func 63) #[] #[] → fr.eval (.tmp 15) = .pointer (some ⟨r,0,none⟩) → P1 w → (∀ w',PP w' → K (fr.put (some 117) (.int .i64 mv)) w') → (ops8_18_7 ps).wp Tryz.prog fr w K Q := by
 intro fr w K Q h1 h2 hP hK
 have hc := h w hP
 unfold ops8_18_7
 unfold Oper.wp execOp
 simp only [resolve,List.map_toArray,List.map_cons,List.map_nil,h1,h2]
 go_simp
 refine hc.mono ?_
 rintro e w' ⟨rfl,h3⟩
 exact hK w' h3
theorem r18_call1 (ps : String) (r : Nat) (mv : Int) (P1 PP : World → Prop) (h : ∀ w,P1 w → Calls Tryz.prog 64 #[.pointer (some ⟨r,0,none⟩)] w fun e w' => e = .returned (.int .i64 mv) ∧ PP w') : ∀ (fr : Act) (w : World) (K : Act → World → Prop) (Q : Exit → Act → World → Prop),fr.eval (.tmp 116) = .func (.func 64) #[] #[] → fr.eval (.tmp 15) = .pointer (some ⟨r,0,none⟩) → P1 w → (∀ w',PP w' → K (fr.put (some 117) (.int .i64 mv)) w') → (ops8_18_7 ps).wp Tryz.prog fr w K Q := by
 intro fr w K Q h1 h2 hP hK
 have hc := h w hP
 unfold ops8_18_7
 unfold Oper.wp execOp
 simp only [resolve,List.map_toArray,List.map_cons,List.map_nil,h1,h2]
 go_simp
 refine hc.mono ?_
 rintro e w' ⟨rfl,h3⟩
 exact hK w' h3
theorem r18_call2 (ps : String) (r : Nat) (mv : Int) (P1 PP : World → Prop) (h : ∀ w,P1 w → Calls Tryz.prog 65 #[.pointer (some ⟨r,0,none⟩)] w fun e w' => e = .returned (.int .i64 mv) ∧ PP w') : ∀ (fr : Act) (w : World) (K : Act → World → Prop) (Q : Exit → Act → World → Prop),fr.eval (.tmp 116) = .func (.func 65) #[] #[] → fr.eval (.tmp 15) = .pointer (some ⟨r,0,none⟩) → P1 w → (∀ w',PP w' → K (fr.put (some 117) (.int .i64 mv)) w') → (ops8_18_7 ps).wp Tryz.prog fr w K Q := by
 intro fr w K Q h1 h2 hP hK
 have hc := h w hP
 unfold ops8_18_7
 unfold Oper.wp execOp
 simp only [resolve,List.map_toArray,List.map_cons,List.map_nil,h1,h2]
 go_simp
 refine hc.mono ?_
 rintro e w' ⟨rfl,h3⟩
 exact hK w' h3
theorem r18_call3 (ps : String) (r : Nat) (mv : Int) (P1 PP : World → Prop) (h : ∀ w,P1 w → Calls Tryz.prog 66 #[.pointer (some ⟨r,0,none⟩)] w fun e w' => e = .returned (.int .i64 mv) ∧ PP w') : ∀ (fr : Act) (w : World) (K : Act → World → Prop) (Q : Exit → Act → World → Prop),fr.eval (.tmp 116) = .func (.func 66) #[] #[] → fr.eval (.tmp 15) = .pointer (some ⟨r,0,none⟩) → P1 w → (∀ w',PP w' → K (fr.put (some 117) (.int .i64 mv)) w') → (ops8_18_7 ps).wp Tryz.prog fr w K Q := by
 intro fr w K Q h1 h2 hP hK
 have hc := h w hP
 unfold ops8_18_7
 unfold Oper.wp execOp
 simp only [resolve,List.map_toArray,List.map_cons,List.map_nil,h1,h2]
 go_simp
 refine hc.mono ?_
 rintro e w' ⟨rfl,h3⟩
 exact hK w' h3
structure Sep (w0 : World) (r g N Pb Lb : Nat) (v : Value) : Prop where
 rP : r ≠ Pb
 rL : r ≠ Lb
 r0 : w0.heap.size ≤ r
 gg : 0 < N → w0.heap.size ≤ g ∧ g ≠ Pb ∧ g ≠ Lb ∧ g ≠ r
 vr : v.ownBlock ≠ some r
 vg : 0 < N → v.ownBlock ≠ some g
theorem Sep.rg {w0 : World} {r g N Pb Lb : Nat} {v : Value} (h : Sep w0 r g N Pb Lb v) : ¬ XG g N r := fun e => (h.gg e.2).2.2.2 e.1.symm
structure QS (w0 : World) (a : Pa) (l : Ln) (Pb Lb base : Nat) (v : Value) (L : List Gl) (r g o N cap : Nat) (av : Option Addr) (vb : Value) (x h m : Int) (last : Bool) (M : Nat → Ms) (W : World) : Prop where
 ps : PS w0 a l Pb Lb base v L W
 rw : RW W r (.slice av N cap) vb x h m last
 rf : RF W g o N M
section
variable {w0 : World} {a : Pa} {l : Ln} {Pb Lb base : Nat} {v : Value} {L : List Gl} {r g o N cap : Nat} {av : Option Addr} {vb : Value} {x h m : Int} {last : Bool} {M M' : Nat → Ms} {W W' : World}
theorem QS.below (k : QS w0 a l Pb Lb base v L r g o N cap av vb x h m last M W) (hb : Below W.heap.size W W') : QS w0 a l Pb Lb base v L r g o N cap av vb x h m last M W' :=
 ⟨k.ps.below hb,k.rw.below hb k.rw.lt,k.rf.below hb (fun h => k.rf.lt h)⟩
theorem QS.drew (k : QS w0 a l Pb Lb base v L r g o N cap av vb x h m last M W) : QS w0 a l Pb Lb base v L r g o N cap av vb x h m last M W.drew := k.below (below_drew W)
theorem QS.mass (k : QS w0 a l Pb Lb base v L r g o N cap av vb x h m last M W) (s : Sep w0 r g N Pb Lb v) (ht : Turns (XG g N) W W') (hf : RF W' g o N M') : QS w0 a l Pb Lb base v L r g o N cap av vb x h m last M' W' :=
 ⟨k.ps.turns ht (fun j hj => by obtain ⟨e1,e2⟩ := hj; subst e1; have := s.gg e2; exact ⟨this.1,this.2.1,this.2.2.1⟩) (fun j hj hX => by obtain ⟨e1,e2⟩ := hX; subst e1; exact s.vg e2 hj),k.rw.turns ht s.rg,hf⟩
theorem QS.setr (k : QS w0 a l Pb Lb base v L r g o N cap av vb x h m last M W) (s : Sep w0 r g N Pb Lb v) (j : Nat) (u : Value) : PS w0 a l Pb Lb base v L (W.setCell ⟨r,j,none⟩ u) ∧ RF (W.setCell ⟨r,j,none⟩ u) g o N M := by
 have ht := Turns.setCell (X := fun k => k = r) W (p := ⟨r,j,none⟩) rfl u
 exact ⟨k.ps.turns ht (fun j hj => by subst hj; exact ⟨s.r0,s.rP,s.rL⟩) (fun j hj hX => by subst hX; exact s.vr hj),k.rf.turns ht (fun hN e => (s.gg hN).2.2.2 e)⟩
theorem QS.set2 (k : QS w0 a l Pb Lb base v L r g o N cap av vb x h m last M W) (s : Sep w0 r g N Pb Lb v) (u : Int) : QS w0 a l Pb Lb base v L r g o N cap av vb u h m last M (W.setCell ⟨r,2,none⟩ (.int .i64 u)) := ⟨(k.setr s 2 _).1,k.rw.set2 u,(k.setr s 2 _).2⟩
theorem QS.set3 (k : QS w0 a l Pb Lb base v L r g o N cap av vb x h m last M W) (s : Sep w0 r g N Pb Lb v) (u : Int) : QS w0 a l Pb Lb base v L r g o N cap av vb x u m last M (W.setCell ⟨r,3,none⟩ (.int .i64 u)) := ⟨(k.setr s 3 _).1,k.rw.set3 u,(k.setr s 3 _).2⟩
theorem QS.set4 (k : QS w0 a l Pb Lb base v L r g o N cap av vb x h m last M W) (s : Sep w0 r g N Pb Lb v) (u : Int) : QS w0 a l Pb Lb base v L r g o N cap av vb x h u last M (W.setCell ⟨r,4,none⟩ (.int .i64 u)) := ⟨(k.setr s 4 _).1,k.rw.set4 u,(k.setr s 4 _).2⟩
end
def alM (al : Int) (last : Bool) (M : Nat → Ms) (s n : Nat) (rm : Int) : Nat → Ms := if al = 1 then spF last M s n rm else M
def mvI (al rm : Int) : Int := if al = 2 then posI rm else if al = 3 then posI rm / 2 else 0
theorem tdiv_small {rm S A : Int} (h0 : 0 ≤ S) (h1 : S ≤ A) (hA : 0 < A) (hr : -50000000 ≤ rm ∧ rm ≤ 50000000) : -50000000 ≤ Int.tdiv (rm * S) A ∧ Int.tdiv (rm * S) A ≤ 50000000 := by
 have h : (Int.tdiv (rm * S) A).natAbs ≤ 50000000 := by
  rw [Int.natAbs_tdiv,Int.natAbs_mul]
  apply Nat.div_le_of_le_mul
  have a1 : rm.natAbs ≤ 50000000 := by omega
  have a2 : S.natAbs ≤ A.natAbs := by omega
  have a3 := Nat.mul_le_mul a1 a2
  rw [Nat.mul_comm 50000000] at a3
  exact a3
 omega
theorem shS_mono {M : Nat → Ms} {s n : Nat} {rm : Int} (hM : ∀ i,i < n → 0 ≤ (M (s + i)).w ∧ (M (s + i)).w ≤ 4095) (j : Nat) : ∀ d,j + d ≤ n → shS M s rm j ≤ shS M s rm (j + d)
 | 0,_ => Int.le_refl _
 | d + 1, hd => by
  have h1 := shS_mono (rm := rm) hM j d (by omega)
  have h2 : shS M s rm (j + d) ≤ shS M s rm (j + d + 1) := by
   unfold shS
   by_cases h3 : (M (s + (j + d))).k = 3
   ·rw [bkL_yes h3,ssL_app]
    have := (shI_rng (rm := rm) (hM (j + d) (by omega))).1
    omega
   ·rw [bkL_no h3]; exact Int.le_refl _
  rw [show j + (d + 1) = j + d + 1 by omega]
  omega
theorem spW_rng {M : Nat → Ms} {s n : Nat} {rm : Int} (hn : n ≤ 4096) (hM : ∀ i,i < n → 0 ≤ (M (s + i)).w ∧ (M (s + i)).w ≤ 4095) (hrm : -50000000 ≤ rm ∧ rm ≤ 50000000) (hA : 0 < shS M s rm n) {i : Nat} (hi : i < n) : -100000000 ≤ spW M s rm (shS M s rm n) i ∧ spW M s rm (shS M s rm n) i ≤ 110000000 := by
 have key : ∀ j,j ≤ n → -50000000 ≤ Int.tdiv (rm * shS M s rm j) (shS M s rm n) ∧ Int.tdiv (rm * shS M s rm j) (shS M s rm n) ≤ 50000000 := fun j hj => by
  have hle := shS_mono (rm := rm) hM j (n - j) (by omega)
  rw [show j + (n - j) = n by omega] at hle
  exact tdiv_small (shS_rng hM hn rm hj).1 hle hA hrm
 have k1 := key i (by omega)
 have k2 := key (i + 1) (by omega)
 have k3 := hM i hi
 unfold spW
 omega
theorem spF_rng {M : Nat → Ms} {N s n : Nat} {rm : Int} {last : Bool} (hs : s + n ≤ N) (hN : N ≤ 4096) (hM : ∀ i,i < N → 0 ≤ (M i).w ∧ (M i).w ≤ 4095) (hrm : -50000000 ≤ rm ∧ rm ≤ 50000000) {i : Nat} (hi : i < N) : (spF last M s n rm i).q = (M i).q ∧ (spF last M s n rm i).f = (M i).f ∧ (spF last M s n rm i).t = (M i).t ∧ -200000000 ≤ (spF last M s n rm i).w ∧ (spF last M s n rm i).w ≤ 200000000 := by
 have hm := hM i hi
 unfold spF
 split
 ·exact ⟨rfl,rfl,rfl,by omega,by omega⟩
 ·rename_i hc
  have hA : 0 < shS M s rm n := by
   have hne : bkL M s n ≠ [] := fun e => hc (.inr (.inr (.inl e)))
   have hbig : ¬ rm < -(shS M s rm n) := fun e => hc (.inr (.inr (.inr e)))
   by_cases hr : rm < 0
   ·omega
   ·unfold shS
    rw [shS_even hr]
    have := List.length_pos_iff.2 hne
    omega
  unfold spQ
  split
  ·rename_i hb
   have h1 := (bkL_mem.1 hb.2).1
   have h2 := spW_rng (M := M) (s := s) (n := n) (rm := rm) (by omega) (fun j hj => hM (s + j) (by omega)) hrm hA h1
   exact ⟨rfl,rfl,rfl,by show _ ≤ spW M s rm (shS M s rm n) (i - s); omega,by show spW M s rm (shS M s rm n) (i - s) ≤ _; omega⟩
  ·exact ⟨rfl,rfl,rfl,by omega,by omega⟩
theorem tabM_rng {M : Nat → Ms} {N s n : Nat} {x : Int} (hM : ∀ i,i < N → MOk (M i)) {i : Nat} (hi : i < N) : (tabM M s x n i).q = (M i).q ∧ (tabM M s x n i).f = (M i).f ∧ (tabM M s x n i).t = (M i).t ∧ (tabM M s x n i).k = (M i).k ∧ 0 ≤ (tabM M s x n i).w ∧ (tabM M s x n i).w ≤ 4095 := by
 have hm := hM i hi
 have h0 := hm.w0
 have h1 := hm.w1
 unfold tabM
 split
 ·exact ⟨rfl,rfl,rfl,rfl,by show 0 ≤ 48 - _ % 48; omega,by show 48 - _ % 48 ≤ 4095; omega⟩
 ·exact ⟨rfl,rfl,rfl,rfl,h0,h1⟩
end Go.Proofs.YtbdpghjegachaaaGreatDoor

namespace Go.Proofs.YtbdpghjegachaaaGreatDoor
open Go.RowKit Go.Shelf
set_option maxRecDepth 100000
set_option maxHeartbeats 4000000

def fiL (a : Pa) (l : Ln) (last : Bool) (M : Nat → Ms) (s n N : Nat) (hh : Int) (L : List Gl) : List Gl := (L ++ glS (alM a.p.p2 last (tabM M s l.x n) s n (l.w - (atQ M s l.x n + hh - l.x))) (l.x + (mvI a.p.p2 (l.w - (atQ M s l.x n + hh - l.x)))) N ++ (if l.y = true then [(⟨l.t,l.t,psN (alM a.p.p2 last (tabM M s l.x n) s n (l.w - (atQ M s l.x n + hh - l.x))) (l.x + (mvI a.p.p2 (l.w - (atQ M s l.x n + hh - l.x)))) N,hh⟩ : Gl)] else []))
theorem place_d (a : Pa) (l : Ln) (w0 : World) (Pb Lb r g o N cap base s n cap' q : Nat) (M : Nat → Ms) (last : Bool) (v : Value) (L : List Gl) (av a' : Option Addr) (hav : 0 < N → av = some ⟨g,o,none⟩) (hcap : N ≤ cap) (hN : N ≤ 4096) (hL : L.length ≤ 1) (hq : Hid (q = o + s * 6)) (hs : s + n ≤ N) (ha' : 0 < n → a' = some ⟨g,q,none⟩) (hcap' : n ≤ cap') (hM : ∀ i,i < N → MOk (M i)) (hal : 0 ≤ a.p.p2 ∧ a.p.p2 ≤ 3) (hlx : 0 ≤ l.x ∧ l.x ≤ 4095) (hlw : 0 ≤ l.w ∧ l.w ≤ 4095) (hSep : Sep w0 r g N Pb Lb v) (hh : Int) (hhh : 0 ≤ hh ∧ hh ≤ 64) (W : World) (hQ0 : QS w0 a l Pb Lb base v L r g o N cap av (.slice a' n cap') l.x hh (l.w - (atQ M s l.x n + hh - l.x)) last (tabM M s l.x n) W)
  (RR : Ending → World → Prop) (hfin : ∀ v' W',W'.ownsRow base 41 4 v' (fiL a l last M s n N hh L).length ((fiL a l last M s n N hh L).flatMap glL) → Below w0.heap.size w0 W' → RR (.returned (.tuple #[v',.int .i64 0])) W') (v0 v1 v2 v5 v6 v7 v8 v9 xa xb xc xd xe xf xg xh xi xj xk xl xm xn xo xp xq xr xt xu xv xw xx xy xz xA xB xC xD xE xF xG xH xI xJ xK xL xM xN xO xP xQ xR xS xT xU xV xW xX xY xZ ya yb yc yd ye yf yg yh yi yj yk yl ym yn yo yp yq yr yt yu yv yw yx yy yz yA yB yC yD yE yF yG yH yI yJ yK yL yM yN yO yP yQ yR yS yT yU yV yW yX yY yZ za zb zc zd ze zf zg zh zi zj zk zl zm zn zo zp zq zr zs zt zu zv zw zx zy : Value) :
  rest18.wp Tryz.prog (bodyPost Tryz.prog Tryz.f8 RR) (fr8 v0 v1 v2 (.pointer (some ⟨Pb,0,none⟩)) (.pointer (some ⟨Lb,0,none⟩)) v5 v6 v7 v8 v9 xa xb xc xd v (.pointer (some ⟨r,0,none⟩)) xe xf xg xh xi xj xk xl xm xn xo xp xq xr xt xu xv xw xx xy xz xA xB xC xD xE xF xG xH xI xJ xK xL xM xN xO xP xQ xR xS xT xU xV xW xX xY xZ ya yb yc yd ye yf yg yh yi yj yk yl ym yn yo yp yq yr yt yu yv yw yx yy yz yA yB yC yD yE yF yG yH yI yJ yK yL yM yN yO yP yQ yR yS yT yU yV yW yX yY yZ za zb zc zd ze zf zg zh zi zj zk zl zm zn zo zp zq zr zs zt zu zv zw zx zy) W := by
 have hat := atN_rng hM (s := s) hlx.1 n hs
 have hrm : -50000000 ≤ (l.w - (atQ M s l.x n + hh - l.x)) ∧ (l.w - (atQ M s l.x n + hh - l.x)) ≤ 50000000 := by omega
 have hT : ∀ i,i < N → (tabM M s l.x n i).q = (M i).q ∧ (tabM M s l.x n i).f = (M i).f ∧ (tabM M s l.x n i).t = (M i).t ∧ (tabM M s l.x n i).k = (M i).k ∧ 0 ≤ (tabM M s l.x n i).w ∧ (tabM M s l.x n i).w ≤ 4095 := fun i hi => tabM_rng hM hi
 unfold fiL at hfin
 generalize hrme : (l.w - (atQ M s l.x n + hh - l.x)) = rm at *
 have hq0 : Hid (QS w0 a l Pb Lb base v L r g o N cap av (.slice a' n cap') l.x hh rm last (tabM M s l.x n) W.drew) := hQ0.drew
 -- what each way does
 have main : ∀ (al mv : Int) (FV : Value) (M4 : Nat → Ms),a.p.p2 = al → (0 ≤ mv ∧ mv ≤ 100000000) → (∀ i,i < N → (-64 ≤ (M4 i).q ∧ (M4 i).q ≤ 0) ∧ -200000000 ≤ (M4 i).w ∧ (M4 i).w ≤ 200000000) → alM a.p.p2 last (tabM M s l.x n) s n rm = M4 → mvI a.p.p2 rm = mv → (∀ W,(Instr.index 67 (.agg alC) (.int .i64 al)).run Tryz.prog W = .ok FV W) →
   (∀ ps,∀ (fr : Act) (w : World) (K : Act → World → Prop) (Q : Exit → Act → World → Prop),fr.eval (.tmp 116) = FV → fr.eval (.tmp 15) = .pointer (some ⟨r,0,none⟩) → QS w0 a l Pb Lb base v L r g o N cap av (.slice a' n cap') l.x hh rm last (tabM M s l.x n) w → (∀ w',QS w0 a l Pb Lb base v L r g o N cap av (.slice a' n cap') l.x hh rm last M4 w' → K (fr.put (some 117) (.int .i64 mv)) w') → (ops8_18_7 ps).wp Tryz.prog fr w K Q) →
   rest18.wp Tryz.prog (bodyPost Tryz.prog Tryz.f8 RR) (fr8 v0 v1 v2 (.pointer (some ⟨Pb,0,none⟩)) (.pointer (some ⟨Lb,0,none⟩)) v5 v6 v7 v8 v9 xa xb xc xd v (.pointer (some ⟨r,0,none⟩)) xe xf xg xh xi xj xk xl xm xn xo xp xq xr xt xu xv xw xx xy xz xA xB xC xD xE xF xG xH xI xJ xK xL xM xN xO xP xQ xR xS xT xU xV xW xX xY xZ ya yb yc yd ye yf yg yh yi yj yk yl ym yn yo yp yq yr yt yu yv yw yx yy yz yA yB yC yD yE yF yG yH yI yJ yK yL yM yN yO yP yQ yR yS yT yU yV yW yX yY yZ za zb zc zd ze zf zg zh zi zj zk zl zm zn zo zp zq zr zs zt zu zv zw zx zy) W := by
  intro al mv FV M4 h1 h2 h3 h4 h5 h6 h7
  rw [h4,h5] at hfin
  have hcell : ∀ {M : Nat → Ms} w,QS w0 a l Pb Lb base v L r g o N cap av (.slice a' n cap') l.x hh rm last M w → w.cell? ⟨r,2,none⟩ = some (.int .i64 l.x) ∧ w.cell? ⟨Pb,4,none⟩ = some (.int .i64 al) := fun w hw => ⟨hw.rw.c.2.2.1,by rw [← h1]; exact hw.ps.pb.c4⟩
  unfold rest18
  refine wp_seq_k ?_
  intro K hK
  refine pl_r18 _ (fun _ _ _ _ _ h => h) _ _ r Pb l.x mv al FV (QS w0 a l Pb Lb base v L r g o N cap av (.slice a' n cap') l.x hh rm last (tabM M s l.x n)) (QS w0 a l Pb Lb base v L r g o N cap av (.slice a' n cap') l.x hh rm last (tabM M s l.x n)) (QS w0 a l Pb Lb base v L r g o N cap av (.slice a' n cap') l.x hh rm last M4) W hq0.out h6 hlx.1 hlx.2 h2.1 h2.2 (fun w hw => hcell w hw) (fun w hw => hcell w hw) (fun w hw => ⟨(hcell w hw).1,(hcell w hw).2,hw.rw.z 2,by rw [← h1]; exact (hw.set2 hSep _).ps.pb.c4⟩) (fun w hw => (alignments_any w).mono (fun e w' h => ⟨h.1,hw.below h.2⟩)) (h7 _) ?_
  intro w' hw'
  have hw2 := hw'.set2 hSep (l.x + mv)
  refine hK _ _ ?_
  exact place_c a l w0 Pb Lb r g o N cap base M4 (l.x + mv) hh rm last _ v L av hav hcap hN hL h3 (by omega) _ hw2.ps hw2.rw hw2.rf hSep.vg hSep.vr RR hfin _ _ _ _ _ _ _ _ _ _ _ _ _ _ _ _ _ _ _ _ _ _ _ _ _ _ _ _ _ _ _ _ _ _ _ _ _ _ _ _ _ _ _ _ _ _ _ _ _ _ _ _ _ _ _ _ _ _ _ _ _ _ _ _ _ _ _ _ _ _ _ _ _ _ _ _ _ _ _ _ _ _ _ _ _ _ _ _ _ _ _ _ _ _ _ _ _ _ _ _ _ _ _ _ _ _ _ _ _ _ _ _ _ _ _ _ _ _ _ _ _ _ _ _ _ _ _ _ _ _ _ _ _ _ _
 have hpos := posI_rng rm (by omega)
 have hposr : posI rm ≤ 50000000 := by unfold posI; split <;> omega
 have hMT : ∀ i,i < N → (-64 ≤ (tabM M s l.x n i).q ∧ (tabM M s l.x n i).q ≤ 0) ∧ -200000000 ≤ (tabM M s l.x n i).w ∧ (tabM M s l.x n i).w ≤ 200000000 := fun i hi => by
  have e := hT i hi
  have hm := hM i hi
  have := hm.q0; have := hm.q1
  omega
 rcases (by omega : a.p.p2 = 0 ∨ a.p.p2 = 1 ∨ a.p.p2 = 2 ∨ a.p.p2 = 3) with e | e | e | e
 ·exact main 0 0 (.func (.func 63) #[] #[]) (tabM M s l.x n) e (by omega) hMT (by unfold alM; rw [e]; rfl) (by unfold mvI; rw [e]; rfl) (fun W => by kernel_rfl) (fun ps => r18_call0 ps r 0 _ _ (fun w hw => (stay_any _ w).mono (fun e w' h => ⟨h.1,by rw [h.2]; exact hw⟩)))
 ·exact main 1 0 (.func (.func 64) #[] #[]) (spF last (tabM M s l.x n) s n rm) e (by omega) (fun i hi => by
   have e1 := hT i hi
   have e2 := spF_rng (last := last) (M := tabM M s l.x n) hs hN (fun j hj => ⟨(hT j hj).2.2.2.2.1,(hT j hj).2.2.2.2.2⟩) hrm hi
   have hm := hM i hi
   have := hm.q0; have := hm.q1
   omega) (by unfold alM; rw [e]; rfl) (by unfold mvI; rw [e]; rfl) (fun W => by kernel_rfl) (fun ps => r18_call1 ps r 0 _ _ (fun w hw => (spread_any w r g o N s n cap' q (tabM M s l.x n) l.x hh rm last _ hq hs hN a' ha' hcap' (fun i hi => ⟨(hT (s + i) (by omega)).2.2.2.2.1,(hT (s + i) (by omega)).2.2.2.2.2⟩) (by omega) hw.rf hw.rw hSep.rg).mono (fun e w' h => ⟨h.1,hw.mass hSep h.2.1 h.2.2⟩)))
 ·exact main 2 (posI rm) (.func (.func 65) #[] #[]) (tabM M s l.x n) e (by omega) hMT (by unfold alM; rw [e]; rfl) (by unfold mvI; rw [e]; rfl) (fun W => by kernel_rfl) (fun ps => r18_call2 ps r (posI rm) _ _ (fun w hw => (moveAll_any r _ _ _ _ rm last w hw.rw).mono (fun e w' h => ⟨h.1,by rw [h.2]; exact hw⟩)))
 ·exact main 3 (posI rm / 2) (.func (.func 66) #[] #[]) (tabM M s l.x n) e (by omega) hMT (by unfold alM; rw [e]; rfl) (by unfold mvI; rw [e]; rfl) (fun W => by kernel_rfl) (fun ps => r18_call3 ps r (posI rm / 2) _ _ (fun w hw => (moveHalf_any r _ _ _ _ rm last (by omega) w hw.rw).mono (fun e w' h => ⟨h.1,by rw [h.2]; exact hw⟩)))
theorem place_e (a : Pa) (l : Ln) (w0 : World) (Pb Lb r g o N cap base s n cap' q : Nat) (M : Nat → Ms) (last : Bool) (v : Value) (L : List Gl) (av a' : Option Addr) (hav : 0 < N → av = some ⟨g,o,none⟩) (hcap : N ≤ cap) (hN : N ≤ 4096) (hL : L.length ≤ 1) (hq : Hid (q = o + s * 6)) (hs : s + n ≤ N) (ha' : 0 < n → a' = some ⟨g,q,none⟩) (hcap' : n ≤ cap') (hM : ∀ i,i < N → MOk (M i)) (hal : 0 ≤ a.p.p2 ∧ a.p.p2 ≤ 3) (hlx : 0 ≤ l.x ∧ l.x ≤ 4095) (hlw : 0 ≤ l.w ∧ l.w ≤ 4095) (hSep : Sep w0 r g N Pb Lb v) (hh : Int) (hhh : 0 ≤ hh ∧ hh ≤ 64) (W : World) (hQ0 : QS w0 a l Pb Lb base v L r g o N cap av (.slice a' n cap') l.x hh 0 last M W)
  (RR : Ending → World → Prop) (hfin : ∀ v' W',W'.ownsRow base 41 4 v' (fiL a l last M s n N hh L).length ((fiL a l last M s n N hh L).flatMap glL) → Below w0.heap.size w0 W' → RR (.returned (.tuple #[v',.int .i64 0])) W') (v0 v1 v2 v5 v6 v7 v8 v9 xa xb xc xd xe xf xg xh xi xj xk xl xm xn xo xp xq xr xt xu xv xw xx xy xz xA xB xC xD xE xF xG xH xI xJ xK xL xM xN xO xP xQ xR xS xT xU xV xW xX xY xZ ya yb yc yd ye yf yg yh yi yj yk yl ym yn yo yp yq yr yt yu yv yw yx yy yz yA yB yC yD yE yF yG yH yI yJ yK yL yM yN yO yP yQ yR yS yT yU yV yW yX yY yZ za zb zc zd ze zf zg zh zi zj zk zl zm zn zo zp zq zr zs zt zu zv zw zx zy : Value) :
  rest17.wp Tryz.prog (bodyPost Tryz.prog Tryz.f8 RR) (fr8 v0 v1 v2 (.pointer (some ⟨Pb,0,none⟩)) (.pointer (some ⟨Lb,0,none⟩)) v5 v6 v7 v8 v9 xa xb xc xd v (.pointer (some ⟨r,0,none⟩)) xe xf xg xh xi xj xk xl xm xn xo xp xq xr xt xu xv xw xx xy xz xA xB xC xD xE xF xG xH xI xJ xK xL xM xN xO xP xQ xR xS xT xU xV xW xX xY xZ ya yb yc yd ye yf yg yh yi yj yk yl ym yn yo yp yq yr yt yu yv yw yx yy yz yA yB yC yD yE yF yG yH yI yJ yK yL yM yN yO yP yQ yR yS yT yU yV yW yX yY yZ za zb zc zd ze zf zg zh zi zj zk zl zm zn zo zp zq zr zs zt zu zv zw zx zy) W := by
 have hat := atN_rng hM (s := s) hlx.1 n hs
 have hq0 := hQ0.drew
 unfold rest17
 refine wp_seq_k ?_
 intro K hK
 refine pl_r17 _ (fun _ _ _ _ _ h => h) _ _ Lb r l (atQ M s l.x n + hh - l.x) (QS w0 a l Pb Lb base v L r g o N cap av (.slice a' n cap') l.x hh 0 last (tabM M s l.x n)) W hq0.ps.lb hSep.rL (fun w1 h => h.turns (Turns.setCell (X := fun k => k = r) w1 (p := ⟨r,4,none⟩) rfl _) (fun e => hSep.rL e.symm)) hlw.1 hlw.2 (by omega) (by omega) ((lnat_any _ r g o N s n cap' q M l.x hh 0 last _ hq hs hN a' ha' hcap' hM hlx (by omega) hq0.rf hq0.rw hSep.rg).mono (fun e w' h => ?_)) ?_
 ·have h1 := hq0.mass hSep h.2.1 h.2.2
  exact ⟨h.1,h1,h1.ps.lb,⟨_,h1.rw.c.2.2.2.2.1⟩,h1.rw.z 4⟩
 ·intro w' hw'
  refine hK _ _ ?_
  exact place_d a l w0 Pb Lb r g o N cap base s n cap' q M last v L av a' hav hcap hN hL hq hs ha' hcap' hM hal hlx hlw hSep hh hhh _ (hw'.set4 hSep _) RR hfin _ _ _ _ _ _ _ _ _ _ _ _ _ _ _ _ _ _ _ _ _ _ _ _ _ _ _ _ _ _ _ _ _ _ _ _ _ _ _ _ _ _ _ _ _ _ _ _ _ _ _ _ _ _ _ _ _ _ _ _ _ _ _ _ _ _ _ _ _ _ _ _ _ _ _ _ _ _ _ _ _ _ _ _ _ _ _ _ _ _ _ _ _ _ _ _ _ _ _ _ _ _ _ _ _ _ _ _ _ _ _ _ _ _ _ _ _ _ _ _ _ _ _ _ _ _ _ _ _ _ _ _ _ _ _
def hyI (a : Pa) (l : Ln) (M : Nat → Ms) (N : Nat) : Int := if l.y = true then shyW (hsI M a.p.p0 N) else 0
theorem hyW_any (s : Int) : 0 ≤ shyW s ∧ shyW s ≤ 64 := wVal_rng _ _ (by decide)
theorem place_b (a : Pa) (l : Ln) (w0 : World) (Pb Lb r g o N cap base s n cap' q : Nat) (M : Nat → Ms) (last : Bool) (v : Value) (L : List Gl) (av a' : Option Addr) (hav : 0 < N → av = some ⟨g,o,none⟩) (hcap : N ≤ cap) (hN : N ≤ 4096) (hL : L.length ≤ 1) (hq : Hid (q = o + s * 6)) (hs : s + n ≤ N) (ha' : 0 < n → a' = some ⟨g,q,none⟩) (hcap' : n ≤ cap') (hM : ∀ i,i < N → MOk (M i)) (hal : 0 ≤ a.p.p2 ∧ a.p.p2 ≤ 3) (hlx : 0 ≤ l.x ∧ l.x ≤ 4095) (hlw : 0 ≤ l.w ∧ l.w ≤ 4095) (hSep : Sep w0 r g N Pb Lb v) (W : World) (hQ0 : QS w0 a l Pb Lb base v L r g o N cap av (.slice a' n cap') l.x 0 0 last M W)
  (RR : Ending → World → Prop) (hfin : ∀ v' W',W'.ownsRow base 41 4 v' (fiL a l last M s n N (hyI a l M N) L).length ((fiL a l last M s n N (hyI a l M N) L).flatMap glL) → Below w0.heap.size w0 W' → RR (.returned (.tuple #[v',.int .i64 0])) W') (v0 v1 v2 v5 v6 v7 v8 v9 xa xb xc xd xe xf xg xh xi xj xk xl xm xn xo xp xq xr xt xu xv xw xx xy xz xA xB xC xD xE xF xG xH xI xJ xK xL xM xN xO xP xQ xR xS xT xU xV xW xX xY xZ ya yb yc yd ye yf yg yh yi yj yk yl ym yn yo yp yq yr yt yu yv yw yx yy yz yA yB yC yD yE yF yG yH yI yJ yK yL yM yN yO yP yQ yR yS yT yU yV yW yX yY yZ za zb zc zd ze zf zg zh zi zj zk zl zm zn zo zp zq zr zs zt zu zv zw zx zy : Value) :
  rest15.wp Tryz.prog (bodyPost Tryz.prog Tryz.f8 RR) (fr8 v0 v1 v2 (.pointer (some ⟨Pb,0,none⟩)) (.pointer (some ⟨Lb,0,none⟩)) v5 v6 v7 v8 v9 xa xb xc xd v (.pointer (some ⟨r,0,none⟩)) xe xf xg xh xi xj xk xl xm xn xo xp xq xr xt xu xv xw xx xy xz xA xB xC xD xE xF xG xH xI xJ xK xL xM xN xO xP xQ xR xS xT xU xV xW xX xY xZ ya yb yc yd ye yf yg yh yi yj yk yl ym yn yo yp yq yr yt yu yv yw yx yy yz yA yB yC yD yE yF yG yH yI yJ yK yL yM yN yO yP yQ yR yS yT yU yV yW yX yY yZ za zb zc zd ze zf zg zh zi zj zk zl zm zn zo zp zq zr zs zt zu zv zw zx zy) W := by
 have hlb := hQ0.ps.lb.c5
 cases hly : l.y
 ·have e0 : hyI a l M N = 0 := by unfold hyI; rw [hly]; rfl
  rw [e0] at hfin
  rw [hly] at hlb
  have hend : Hid (∀ v0 v1 v2 v5 v6 v7 v8 v9 xa xb xc xd xe xf xg xh xi xj xk xl xm xn xo xp xq xr xt xu xv xw xx xy xz xA xB xC xD xE xF xG xH xI xJ xK xL xM xN xO xP xQ xR xS xT xU xV xW xX xY xZ ya yb yc yd ye yf yg yh yi yj yk yl ym yn yo yp yq yr yt yu yv yw yx yy yz yA yB yC yD yE yF yG yH yI yJ yK yL yM yN yO yP yQ yR yS yT yU yV yW yX yY yZ za zb zc zd ze zf zg zh zi zj zk zl zm zn zo zp zq zr zs zt zu zv zw zx zy : Value,rest17.wp Tryz.prog (bodyPost Tryz.prog Tryz.f8 RR) (fr8 v0 v1 v2 (.pointer (some ⟨Pb,0,none⟩)) (.pointer (some ⟨Lb,0,none⟩)) v5 v6 v7 v8 v9 xa xb xc xd v (.pointer (some ⟨r,0,none⟩)) xe xf xg xh xi xj xk xl xm xn xo xp xq xr xt xu xv xw xx xy xz xA xB xC xD xE xF xG xH xI xJ xK xL xM xN xO xP xQ xR xS xT xU xV xW xX xY xZ ya yb yc yd ye yf yg yh yi yj yk yl ym yn yo yp yq yr yt yu yv yw yx yy yz yA yB yC yD yE yF yG yH yI yJ yK yL yM yN yO yP yQ yR yS yT yU yV yW yX yY yZ za zb zc zd ze zf zg zh zi zj zk zl zm zn zo zp zq zr zs zt zu zv zw zx zy) W) := fun v0 v1 v2 v5 v6 v7 v8 v9 xa xb xc xd xe xf xg xh xi xj xk xl xm xn xo xp xq xr xt xu xv xw xx xy xz xA xB xC xD xE xF xG xH xI xJ xK xL xM xN xO xP xQ xR xS xT xU xV xW xX xY xZ ya yb yc yd ye yf yg yh yi yj yk yl ym yn yo yp yq yr yt yu yv yw yx yy yz yA yB yC yD yE yF yG yH yI yJ yK yL yM yN yO yP yQ yR yS yT yU yV yW yX yY yZ za zb zc zd ze zf zg zh zi zj zk zl zm zn zo zp zq zr zs zt zu zv zw zx zy => place_e a l w0 Pb Lb r g o N cap base s n cap' q M last v L av a' hav hcap hN hL hq hs ha' hcap' hM hal hlx hlw hSep 0 (by omega) W hQ0 RR hfin v0 v1 v2 v5 v6 v7 v8 v9 xa xb xc xd xe xf xg xh xi xj xk xl xm xn xo xp xq xr xt xu xv xw xx xy xz xA xB xC xD xE xF xG xH xI xJ xK xL xM xN xO xP xQ xR xS xT xU xV xW xX xY xZ ya yb yc yd ye yf yg yh yi yj yk yl ym yn yo yp yq yr yt yu yv yw yx yy yz yA yB yC yD yE yF yG yH yI yJ yK yL yM yN yO yP yQ yR yS yT yU yV yW yX yY yZ za zb zc zd ze zf zg zh zi zj zk zl zm zn zo zp zq zr zs zt zu zv zw zx zy
  clear hQ0 hfin hM hav ha' hSep hly e0
  unfold rest15 fr8
  unfold fr8 at hend
  go_wp2_with fail
  exact hend.out _ _ _ _ _ _ _ _ _ _ _ _ _ _ _ _ _ _ _ _ _ _ _ _ _ _ _ _ _ _ _ _ _ _ _ _ _ _ _ _ _ _ _ _ _ _ _ _ _ _ _ _ _ _ _ _ _ _ _ _ _ _ _ _ _ _ _ _ _ _ _ _ _ _ _ _ _ _ _ _ _ _ _ _ _ _ _ _ _ _ _ _ _ _ _ _ _ _ _ _ _ _ _ _ _ _ _ _ _ _ _ _ _ _ _ _ _ _ _ _ _ _ _ _ _ _ _ _ _ _ _ _ _ _ _
 ·have e0 : hyI a l M N = shyW (hsI M a.p.p0 N) := by unfold hyI; rw [hly]; rfl
  rw [e0] at hfin
  rw [hly] at hlb
  have hpr := hQ0.ps.pb
  have hsz : Hid (Calls Tryz.prog 29 #[.pointer (some ⟨r,0,none⟩),.agg (paC a)] W fun e w' => e = .returned (.int .i64 (hsI M a.p.p0 N)) ∧ Below W.heap.size W w') := hyphenSize_any a W r g o N cap M av hav hcap hN _ _ _ _ last hQ0.rf hQ0.rw
  have hwd : Hid (∀ w',Below W.heap.size W w' → Calls Tryz.prog 28 #[.int .i64 (hsI M a.p.p0 N)] w' fun e w'' => e = .returned (.int .i64 (shyW (hsI M a.p.p0 N))) ∧ w'' = w' ∧ w'.cell? ⟨r,3,none⟩ = some (.int .i64 0) ∧ w'.frozen? ⟨r,3,none⟩ = false ∧ Hid (∀ v0 v1 v2 v5 v6 v7 v8 v9 xa xb xc xd xe xf xg xh xi xj xk xl xm xn xo xp xq xr xt xu xv xw xx xy xz xA xB xC xD xE xF xG xH xI xJ xK xL xM xN xO xP xQ xR xS xT xU xV xW xX xY xZ ya yb yc yd ye yf yg yh yi yj yk yl ym yn yo yp yq yr yt yu yv yw yx yy yz yA yB yC yD yE yF yG yH yI yJ yK yL yM yN yO yP yQ yR yS yT yU yV yW yX yY yZ za zb zc zd ze zf zg zh zi zj zk zl zm zn zo zp zq zr zs zt zu zv zw zx zy : Value,rest17.wp Tryz.prog (bodyPost Tryz.prog Tryz.f8 RR) (fr8 v0 v1 v2 (.pointer (some ⟨Pb,0,none⟩)) (.pointer (some ⟨Lb,0,none⟩)) v5 v6 v7 v8 v9 xa xb xc xd v (.pointer (some ⟨r,0,none⟩)) xe xf xg xh xi xj xk xl xm xn xo xp xq xr xt xu xv xw xx xy xz xA xB xC xD xE xF xG xH xI xJ xK xL xM xN xO xP xQ xR xS xT xU xV xW xX xY xZ ya yb yc yd ye yf yg yh yi yj yk yl ym yn yo yp yq yr yt yu yv yw yx yy yz yA yB yC yD yE yF yG yH yI yJ yK yL yM yN yO yP yQ yR yS yT yU yV yW yX yY yZ za zb zc zd ze zf zg zh zi zj zk zl zm zn zo zp zq zr zs zt zu zv zw zx zy) (w'.setCell ⟨r,3,none⟩ (.int .i64 (shyW (hsI M a.p.p0 N)))))) := fun w' hb => by
   have hq1 := hQ0.below hb
   refine (shyphenWidth_any (hsI M a.p.p0 N) w').mono ?_
   rintro e w'' ⟨rfl,rfl⟩
   exact ⟨rfl,rfl,hq1.rw.c.2.2.2.1,hq1.rw.z 3,fun v0 v1 v2 v5 v6 v7 v8 v9 xa xb xc xd xe xf xg xh xi xj xk xl xm xn xo xp xq xr xt xu xv xw xx xy xz xA xB xC xD xE xF xG xH xI xJ xK xL xM xN xO xP xQ xR xS xT xU xV xW xX xY xZ ya yb yc yd ye yf yg yh yi yj yk yl ym yn yo yp yq yr yt yu yv yw yx yy yz yA yB yC yD yE yF yG yH yI yJ yK yL yM yN yO yP yQ yR yS yT yU yV yW yX yY yZ za zb zc zd ze zf zg zh zi zj zk zl zm zn zo zp zq zr zs zt zu zv zw zx zy => place_e a l w0 Pb Lb r g o N cap base s n cap' q M last v L av a' hav hcap hN hL hq hs ha' hcap' hM hal hlx hlw hSep (shyW (hsI M a.p.p0 N)) (hyW_any _) _ (hq1.set3 hSep _) RR hfin v0 v1 v2 v5 v6 v7 v8 v9 xa xb xc xd xe xf xg xh xi xj xk xl xm xn xo xp xq xr xt xu xv xw xx xy xz xA xB xC xD xE xF xG xH xI xJ xK xL xM xN xO xP xQ xR xS xT xU xV xW xX xY xZ ya yb yc yd ye yf yg yh yi yj yk yl ym yn yo yp yq yr yt yu yv yw yx yy yz yA yB yC yD yE yF yG yH yI yJ yK yL yM yN yO yP yQ yR yS yT yU yV yW yX yY yZ za zb zc zd ze zf zg zh zi zj zk zl zm zn zo zp zq zr zs zt zu zv zw zx zy⟩
  clear hQ0 hfin hM hav ha' hSep hly e0
  generalize shyW (hsI M a.p.p0 N) = hv at *
  generalize hsI M a.p.p0 N = sv at *
  unfold rest15 fr8
  unfold fr8 at hwd
  go_wp2_with (first | (refine wpList_load_row rfl 27 _ rfl Pb rfl 27 _ (0,0) _ hpr.row Tryz.underlying27 rfl (info34 a) ?_) | (go_at_call 29; refine hsz.out.mono ?_; rintro e W2 ⟨rfl,hb2⟩; have hwd2 := hwd.out W2 hb2; clear hwd hsz) | (go_at_call 28; refine hwd2.mono ?_; rintro e W3 ⟨rfl,rfl,c3,z3,hend⟩; clear hwd2))
  exact hend.out _ _ _ _ _ _ _ _ _ _ _ _ _ _ _ _ _ _ _ _ _ _ _ _ _ _ _ _ _ _ _ _ _ _ _ _ _ _ _ _ _ _ _ _ _ _ _ _ _ _ _ _ _ _ _ _ _ _ _ _ _ _ _ _ _ _ _ _ _ _ _ _ _ _ _ _ _ _ _ _ _ _ _ _ _ _ _ _ _ _ _ _ _ _ _ _ _ _ _ _ _ _ _ _ _ _ _ _ _ _ _ _ _ _ _ _ _ _ _ _ _ _ _ _ _ _ _ _ _ _ _ _ _ _ _
end Go.Proofs.YtbdpghjegachaaaGreatDoor

namespace Go.Proofs.YtbdpghjegachaaaGreatDoor
open Go.RowKit Go.Shelf

theorem kernI_rngS (x y : Int) {s : Int} (h0 : 0 ≤ s) (h1 : s ≤ 64) : -64 ≤ kernI x y s ∧ kernI x y s ≤ 0 := by
 unfold kernI
 split
 ·omega
 ·split <;> omega
theorem GoodP.massS {a : Pa} (h : GoodP a) {i : Nat} (hi : i < num a.t) : (0 ≤ (msI a i).w ∧ (msI a i).w ≤ 4095) ∧ (-64 ≤ (msI a i).q ∧ (msI a i).q ≤ 0) := by
 have hf := h.fok hi
 refine ⟨?_,?_⟩
 ·show 0 ≤ wdI (fc a i) (mkAt a i) ∧ wdI (fc a i) (mkAt a i) ≤ 4095
  unfold wdI
  split
  ·have := bw_rng (fc a i).b hf.s.1 hf.s.2
   have := hf.t
   omega
  ·split
   ·rename_i h7
    obtain ⟨hr,hm1,hm2⟩ := h.mark hi h7
    rw [hm1]
    have := tw_rng a.ms[rI a.t i] hf.s.1 hf.s.2 a.ms[rI a.t i].size
    unfold widthI
    omega
   ·omega
 ·show -64 ≤ meetI (pf a i) (fc a i) ∧ meetI (pf a i) (fc a i) ≤ 0
  unfold meetI
  split
  ·have := kernI_rngS (pf a i).b (fc a i).b hf.s.1 hf.s.2
   omega
  ·omega
theorem em_two {x : Int} (h : kindI x = 1 ∨ kindI x = 2) : 2 ≤ emI x := by
 have hx : 32 < x ∧ x ≤ 126 := by
  unfold kindI at h
  by_cases h1 : (97 ≤ x ∧ x ≤ 122) ∨ (65 ≤ x ∧ x ≤ 90)
  ·omega
  ·rw [if_neg h1] at h
   by_cases h2 : x = 32
   ·rw [if_pos h2] at h; omega
   ·rw [if_neg h2] at h
    by_cases h3 : 32 < x ∧ x ≤ 126
    ·exact h3
    ·rw [if_neg h3] at h
     repeat' split at h
     all_goals omega
 unfold emI
 repeat' split
 all_goals omega
theorem bw_two {x s : Int} (h : 2 ≤ emI x) (hs : 0 ≤ s) : (2 * s) / 8 ≤ bw x s := by
 unfold bw
 exact Int.ediv_le_ediv (by omega) (Int.mul_le_mul_of_nonneg_right h hs)
theorem kern_rng {x y s : Int} (hs : 0 ≤ s) : -((2 * s) / 16) ≤ kernI x y s := by
 unfold kernI
 split
 ·omega
 ·split <;> omega
structure MsOk (m : Ms) : Prop where
 ok : MOk m
 bl : (m.k = 3 ∨ m.k = 5) → m.q = 0
theorem GoodP.msOk {a : Pa} (h : GoodP a) {i : Nat} (hi : i < num a.t) : MsOk (msI a i) := by
 obtain ⟨⟨w0,w1⟩,q0,q1⟩ := h.massS hi
 have hf := h.fok hi
 have hq : ∀ hk : ¬ ((fc a i).kd = 1 ∨ (fc a i).kd = 2),(msI a i).q = 0 := fun hk => by
  show meetI (pf a i) (fc a i) = 0
  unfold meetI
  refine if_neg (fun e => ?_)
  have := e.2.1
  unfold kerB at this
  rw [decide_eq_true_eq] at this
  exact hk this.2
 refine ⟨⟨w0,w1,q0,q1,?_,fun e => hq (by have : (fc a i).kd = 4 := e; omega)⟩,fun e => hq (by have : (fc a i).kd = 3 ∨ (fc a i).kd = 5 := e; omega)⟩
 by_cases hk : (fc a i).kd = 1 ∨ (fc a i).kd = 2
 ·have hem : 2 ≤ emI (fc a i).b := em_two (x := bt a.t (st a.t i)) hk
  have hb := bw_two hem hf.s.1
  have hw : (msI a i).w = bw (fc a i).b (fc a i).s + (fc a i).t := by
   show wdI (fc a i) (mkAt a i) = _
   unfold wdI
   rw [if_pos (by omega)]
  have hk2 : -((2 * (fc a i).s) / 16) ≤ (msI a i).q := by
   show _ ≤ meetI (pf a i) (fc a i)
   unfold meetI
   have := hf.s.1
   split
   ·exact kern_rng hf.s.1
   ·omega
  have := hf.t.1
  have := hf.s.1
  rw [hw]
  omega
 ·rw [hq hk]; omega
theorem toN_at {M : Nat → Ms} : ∀ {N i : Nat},toN M N ≤ i → i < N → (M i).k = 3 ∨ (M i).k = 5
 | 0,i,_,h => by omega
 | N + 1, i, h1, h2 => by
  by_cases h : (M N).k = 3 ∨ (M N).k = 5
  ·rw [toN_yes h] at h1
   by_cases e : i = N
   ·subst e; exact h
   ·exact toN_at h1 (by omega)
  ·rw [toN_no h] at h1; omega
theorem frG_at {M : Nat → Ms} : ∀ {n j i : Nat},j ≤ i → i < frG M n j → (M i).k = 3
 | 0,j,i,h1,h2 => by have : i < j := h2; omega
 | n + 1, j, i, h1, h2 => by
  by_cases h : (M j).k = 3
  ·rw [frG_yes h] at h2
   by_cases e : i = j
   ·subst e; exact h
   ·exact frG_at (by omega) h2
  ·rw [frG_no h] at h2; omega
theorem frN_at {b : Bool} {M : Nat → Ms} {t i : Nat} (h : i < fwN b M t) : (M i).k = 3 := by
 unfold fwN at h
 split at h
 ·exact frG_at (Nat.zero_le _) h
 ·omega
def ptM (pn : Int → Bool) (M : Nat → Ms) (i : Nat) : Ms := { M i with q := if i = 0 ∨ pn (M i).f = true then 0 else (M i).q }
def loM (b : Bool) (M : Nat → Ms) (N : Nat) : Nat → Ms := narM (narM M 0 (fwN b M (toN M N))) (toN M N) (N - toN M N)
theorem narM_ok {M : Nat → Ms} {s n i : Nat} (h : MsOk (M i)) (hk : s ≤ i ∧ i < s + n → (M i).k = 3 ∨ (M i).k = 5) : MsOk (narM M s n i) := by
 unfold narM
 split
 ·rename_i hc
  have hq := h.bl (hk hc)
  have h4 : (M i).k ≠ 4 := by have := hk hc; omega
  exact ⟨⟨Int.le_refl _,by show (0 : Int) ≤ 4095; omega,h.ok.q0,h.ok.q1,by show 0 ≤ 0 + (M i).q; omega,fun e => absurd e h4⟩,h.bl⟩
 ·exact h
theorem narM_k (M : Nat → Ms) (s n i : Nat) : (narM M s n i).k = (M i).k ∧ (narM M s n i).f = (M i).f ∧ (narM M s n i).q = (M i).q ∧ (narM M s n i).t = (M i).t ∧ (narM M s n i).s = (M i).s := by
 unfold narM
 split <;> exact ⟨rfl,rfl,rfl,rfl,rfl⟩
theorem loM_ok {b : Bool} {M : Nat → Ms} {N i : Nat} (hi : i < N) (h : MsOk (M i)) : MsOk (loM b M N i) := by
 refine narM_ok (narM_ok h (fun hc => .inl (frN_at (b := b) (t := toN M N) (by omega)))) (fun hc => ?_)
 rw [(narM_k _ _ _ _).1]
 exact toN_at (by omega) hi
theorem loM_k (b : Bool) (M : Nat → Ms) (N i : Nat) : (loM b M N i).k = (M i).k ∧ (loM b M N i).f = (M i).f ∧ (loM b M N i).q = (M i).q ∧ (loM b M N i).t = (M i).t ∧ (loM b M N i).s = (M i).s := by
 obtain ⟨a1,a2,a3,a4,a5⟩ := narM_k (narM M 0 (fwN b M (toN M N))) (toN M N) (N - toN M N) i
 obtain ⟨b1,b2,b3,b4,b5⟩ := narM_k M 0 (fwN b M (toN M N)) i
 exact ⟨a1.trans b1,a2.trans b2,a3.trans b3,a4.trans b4,a5.trans b5⟩
theorem ptM_ok {pn : Int → Bool} {M : Nat → Ms} {i : Nat} (h : MsOk (M i)) : MOk (ptM pn M i) := by
 unfold ptM
 have h1 := h.ok.w0
 have h2 := h.ok.w1
 have h3 := h.ok.q0
 have h4 := h.ok.q1
 have h5 := h.ok.wq
 refine ⟨h1,h2,?_,?_,?_,?_⟩ <;> show _ <;> simp only [] <;> split
 ·omega
 ·exact h3
 ·omega
 ·exact h4
 ·omega
 ·exact h5
 ·intro _; rfl
 ·exact h.ok.tb
end Go.Proofs.YtbdpghjegachaaaGreatDoor
