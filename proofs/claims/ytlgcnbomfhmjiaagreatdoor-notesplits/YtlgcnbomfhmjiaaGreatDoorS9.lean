/-
  What is proved here: how plain regions with guards are gone through, moves and skipped operations many at once (no function of the program is named).
  What is proved here: how regions whose order is drawn are gone through, moves and skipped operations many at once (no function of the program is named).
  What is proved here: the masses of a paragraph (no program is named): what they are, how many marks are used.
  What is proved here: the region of Masses that tells what a cluster shows.
-/
import Derived.Test.YtlgcnbomfhmjiaaGreatDoorS1
import Derived.BigFrame
import Derived.Test.YtlgcnbomfhmjiaaGreatDoorS8
namespace Go.Proofs.YtlgcnbomfhmjiaaGreatDoor
open Go.RowKit Go.Shelf

section
variable {P : Program} {ops : Array Oper} {Q : Exit → Act → World → Prop} {w : World}
def pureVal (a : Act) (o : Oper) : Option Value :=
 match o.op with
 | .move x => some (a.eval x)
 | .assign x => some (a.eval x)
 | .pick c x y => match a.eval c with
  | .bool b => some (if b then a.eval x else a.eval y)
  | _ => none
 | _ => none
theorem pureVal_run {a : Act} {o : Oper} {v : Value} (h : pureVal a o = some v) : (execOp a.eval o).run P w = .ok (.value v) w := by
 unfold pureVal at h
 unfold execOp
 split at h
 ·rename_i x e
  cases h
  rw [e]; rfl
 ·rename_i x e
  cases h
  rw [e]; rfl
 ·rename_i c x y e
  rw [e]
  split at h
  ·rename_i b e2
   cases h
   simp only [e2]
   rfl
  ·cases h
 ·cases h
end
end Go.Proofs.YtlgcnbomfhmjiaaGreatDoor

namespace Go.Proofs.YtlgcnbomfhmjiaaGreatDoor
open Go.RowKit Go.Shelf

def pureRunH (md : Region.Mode) (ops : Array Oper) : List Nat → Array Bool → Act → Option Act
 | [],_,a => some a
 | i :: is,l,a => match ops[i]? with
  | none => none
  | some o => if Region.free md ops l i && (Region.ready md ops l).contains i then (if Region.wanted o (yielded ops a.tmps) then (match pureVal a o with
    | some v => pureRunH md ops is (l.setIfInBounds i true) (a.put o.dst v)
    | none => none) else pureRunH md ops is (l.setIfInBounds i true) (a.put o.dst undef)) else none
def doneH : List Nat → Array Bool → Array Bool
 | [],l => l
 | i :: is,l => doneH is (l.setIfInBounds i true)
theorem put_any {Q : Exit → Act → World → Prop} (hQ : ∀ c x (n : Nat) v w,Q (.panic c) (x.put (some n) v) w → Q (.panic c) x w) (d : Option Tmp) (v : Value) : ∀ c x w,Q (.panic c) (x.put d v) w → Q (.panic c) x w := fun c x w h => by
 cases d with
 | none => exact h
 | some n => exact hQ c x n v w h
theorem pures_h {P : Program} {md : Region.Mode} {ops : Array Oper} {Q : Exit → Act → World → Prop} {S : World → Prop} {w : World} {fuel : Nat} (hs : Region.noSelect ops = true) (hQ : ∀ c x (n : Nat) v w,Q (.panic c) (x.put (some n) v) w → Q (.panic c) x w) (hS : S w) :
  ∀ (is : List Nat) {n : Nat} {l : Array Bool} {a : Act} (a' : Act),pureRunH md ops is l a = some a' → fuel + is.length = n → wpAnyH P md ops Q S fuel (doneH is l) a' w → wpAnyH P md ops Q S n l a w
 | [],n,l,a,a',h,hn,hq => by cases h; subst hn; exact hq
 | i :: is, n, l, a, a', h, hn, hq => by
  subst hn
  unfold pureRunH at h
  split at h
  ·cases h
  ·rename_i o ho
   split at h
   ·rename_i hfr
    rw [Bool.and_eq_true] at hfr
    split at h
    ·rename_i hw
     split at h
     ·rename_i v hv
      exact wpAnyH_take ho hs hfr.1 hfr.2 (put_any hQ _ _) (Or.inl ⟨hw,fun w _ => pureVal_run hv⟩) hS (pures_h hs hQ hS is a' h rfl hq)
     ·cases h
    ·rename_i hw
     exact wpAnyH_take ho hs hfr.1 hfr.2 (put_any hQ _ _) (Or.inr ⟨by simpa using hw,rfl⟩) hS (pures_h hs hQ hS is a' h rfl hq)
   ·cases h
end Go.Proofs.YtlgcnbomfhmjiaaGreatDoor

namespace Go.Proofs.YtlgcnbomfhmjiaaGreatDoor
open Go.RowKit Go.Shelf

theorem kind7 {x : Int} : kindI x = 7 ↔ x = 2 := by
 unfold kindI
 constructor
 ·intro h
  repeat (split at h <;> try omega)
 ·rintro rfl; decide
theorem acc_ne2 {x : Int} (h : accB x = true) : x ≠ 2 := by
 rintro rfl; revert h; decide
def rI (t : ByteArray) : Nat → Nat
 | 0 => 0
 | i + 1 => rI t i + (if kindI (bt t (st t i)) = 7 then 1 else 0)
theorem refN_succ (t : ByteArray) (k : Nat) : refN t (k + 1) = refN t k + (if bt t k = 2 then 1 else 0) := rfl
theorem refN_end {t : ByteArray} (p : Nat) : refN t (endN t p) = refN t p + (if kindI (bt t p) = 7 then 1 else 0) := by
 have e : (if kindI (bt t p) = 7 then 1 else 0) = (if bt t p = 2 then 1 else 0) := by
  by_cases h : bt t p = 2
  ·rw [if_pos h,if_pos (kind7.2 h)]
  ·rw [if_neg h,if_neg (fun h' => h (kind7.1 h'))]
 rw [e]
 unfold endN
 split
 ·split
  ·rename_i h1
   split
   ·rename_i h2
    rw [refN_succ,refN_succ,refN_succ,if_neg (acc_ne2 h1),if_neg (acc_ne2 h2)]; omega
   ·rw [refN_succ,refN_succ,if_neg (acc_ne2 h1)]; omega
  ·rw [refN_succ]
 ·rw [refN_succ]
theorem rI_ref (t : ByteArray) : ∀ i,i ≤ num t → rI t i = refN t (st t i)
 | 0,_ => rfl
 | i + 1,h => by
  have hl := num_lt (show i < num t by omega)
  rw [st_succ hl,refN_end,← rI_ref t i (by omega)]
  rfl
theorem refN_mono (t : ByteArray) {i j : Nat} (h : i ≤ j) : refN t i ≤ refN t j := by
 induction j with
 | zero => obtain rfl : i = 0 := by omega
           exact Nat.le_refl _
 | succ j ih =>
  by_cases e : i = j + 1
  ·rw [e]; exact Nat.le_refl _
  ·have := ih (by omega)
   rw [refN_succ]; omega
theorem rI_lt {t : ByteArray} {i : Nat} (h : i < num t) (h7 : kindI (bt t (st t i)) = 7) : rI t i < refN t t.size := by
 have h1 := rI_ref t (i + 1) h
 have h2 := refN_mono t (st_le t (i + 1))
 have h3 : rI t (i + 1) = rI t i + 1 := by show rI t i + _ = _; rw [if_pos h7]
 omega

theorem rowC_get (t : ByteArray) : ∀ (n i : Nat),i < n → ∀ j u,(clC t i)[j]? = some u → (rowC t n)[i * 3 + j]? = some u
 | 0,i,h,_,_,_ => by omega
 | n + 1, i, h, j, u, hu => by
  have hj : j < 3 := (List.getElem?_eq_some_iff.1 hu).1
  show (rowC t n ++ clC t n)[i * 3 + j]? = some u
  by_cases hi : i < n
  ·rw [List.getElem?_append_left (by rw [rowC_len]; omega)]
   exact rowC_get t n i hi j u hu
  ·obtain rfl : i = n := by omega
   rw [List.getElem?_append_right (by rw [rowC_len]; omega),rowC_len]
   rw [show i * 3 + j - i * 3 = j by omega]
   exact hu

structure Ms where
 f : Int
 t : Int
 k : Int
 s : Int
 w : Int
 q : Int
def msL (m : Ms) : List Value := [.int .i64 m.f,.int .i64 m.t,.int .i64 m.k,.int .i64 m.s,.int .i64 m.w,.int .i64 m.q]
theorem msL_len (m : Ms) : (msL m).length = 6 := rfl
def fc0 : Fc := ⟨0,0,0,0,0⟩
def fc (a : Pa) (i : Nat) : Fc := ⟨kindI (bt a.t (st a.t i)),bt a.t (st a.t i),szAt a (st a.t i : Nat),(spAt a.sp (st a.t i : Nat)).t,(spAt a.sp (st a.t i : Nat)).k⟩
def pf (a : Pa) : Nat → Fc
 | 0 => fc0
 | i + 1 => fc a i
def mkAt (a : Pa) (i : Nat) : ByteArray := if kindI (bt a.t (st a.t i)) = 7 then a.ms.getD (rI a.t i) ByteArray.empty else ByteArray.empty
def msI (a : Pa) (i : Nat) : Ms := ⟨st a.t i,st a.t (i + 1),(fc a i).kd,(fc a i).s,wdI (fc a i) (mkAt a i),meetI (pf a i) (fc a i)⟩
def mss (a : Pa) : List Ms := (List.range (num a.t)).map (msI a)
theorem mss_len (a : Pa) : (mss a).length = num a.t := by simp [mss]
theorem mss_get (a : Pa) {i : Nat} (h : i < (mss a).length) : (mss a)[i] = msI a i := by simp [mss]

structure GoodP (a : Pa) : Prop where
 wr : wrongI a.t = 0
 fd : fieldB a.t = false
 sp : spB a.sp a.t.size = true
 pr : keepB (prB a.p) = true
 lb : standB a.lb 0 16 = true
 mrk : markB a.t a.ms = true
theorem good_of {a : Pa} (h : chkI a = 0) : GoodP a := by
 rcases chk_cases a with ⟨e1,e2⟩ | ⟨e1,_⟩ | ⟨e1,_⟩ | ⟨e1,e2,e3,e4⟩
 ·rw [e1] at h; exact absurd h e2
 ·rw [e1] at h; cases h
 ·rw [e1] at h; cases h
 ·obtain ⟨f1,f2,f3,f4⟩ := rest_yes a e4
  exact ⟨e2,e3,f1,f2,f3,f4⟩
theorem GoodP.size {a : Pa} (h : GoodP a) : a.t.size ≤ 4096 := ok_size h.wr
theorem GoodP.p0 {a : Pa} (h : GoodP a) : 1 ≤ a.p.p0 ∧ a.p.p0 ≤ 64 := by
 have := List.all_eq_true.1 h.pr (a.p.p0,1,64) (by simp [prB])
 simpa [bdB] using this
theorem GoodP.ms {a : Pa} (h : GoodP a) : a.ms.length = refN a.t a.t.size ∧ ∀ m ∈ a.ms,standB m 1 8 = true := by
 have := h.mrk
 unfold markB at this
 rw [Bool.and_eq_true,decide_eq_true_eq,List.all_eq_true] at this
 exact this
theorem GoodP.span {a : Pa} (h : GoodP a) {k : Nat} (hk : k < a.t.size) : chB (spAt a.sp k) = true := by
 obtain ⟨h1,_,_⟩ := lk_spec h.sp (k := k) (by omega) (by omega)
 unfold spAt
 rw [List.getD_eq_getElem?_getD,List.getElem?_eq_getElem h1]
 exact (spB_all h.sp _ h1).2.1
theorem GoodP.fok {a : Pa} (h : GoodP a) {i : Nat} (hi : i < num a.t) : Fok (fc a i) := by
 have hk := num_lt hi
 have hs := h.span hk
 unfold chB at hs
 rw [decide_eq_true_eq] at hs
 refine ⟨?_,hs.2.1,bt_rng _ _⟩
 show 0 ≤ szAt a _ ∧ szAt a _ ≤ 64
 unfold szAt
 have := h.p0
 split
 ·omega
 ·exact hs.1
theorem stand_size {m : ByteArray} {x y : Int} (h : standB m x y = true) : x ≤ m.size ∧ (m.size : Int) ≤ y := by
 unfold standB at h
 rw [Bool.and_eq_true,decide_eq_true_eq] at h
 exact h.1
theorem GoodP.mark {a : Pa} (h : GoodP a) {i : Nat} (hi : i < num a.t) (h7 : kindI (bt a.t (st a.t i)) = 7) : ∃ hr : rI a.t i < a.ms.length,mkAt a i = a.ms[rI a.t i] ∧ a.ms[rI a.t i].size ≤ 8 := by
 have hr : rI a.t i < a.ms.length := by rw [h.ms.1]; exact rI_lt hi h7
 refine ⟨hr,?_,?_⟩
 ·unfold mkAt
  rw [if_pos h7,List.getD_eq_getElem?_getD,List.getElem?_eq_getElem hr]; rfl
 ·have := stand_size (h.ms.2 _ (List.getElem_mem hr)); omega
theorem mark_no {a : Pa} {i : Nat} (h7 : kindI (bt a.t (st a.t i)) ≠ 7) : mkAt a i = ByteArray.empty := if_neg h7
theorem rI_yes {t : ByteArray} {i : Nat} (h : kindI (bt t (st t i)) = 7) : rI t (i + 1) = rI t i + 1 := by show rI t i + _ = _; rw [if_pos h]
theorem rI_no {t : ByteArray} {i : Nat} (h : kindI (bt t (st t i)) ≠ 7) : rI t (i + 1) = rI t i := by show rI t i + _ = _; rw [if_neg h]; rfl

def Laid (a : Pa) (k : Nat) (cs : Array Value) : Prop := cs.size = num a.t * 6 ∧ ∀ j,j < k → ∀ q u,(msL (msI a j))[q]? = some u → cs[j * 6 + q]? = some u
theorem laid_all {a : Pa} {cs : Array Value} (h : Laid a (num a.t) cs) : cs.toList = (mss a).flatMap msL := by
 apply List.ext_getElem?
 intro j
 by_cases hj : j < num a.t * 6
 ·have hi : j / 6 < num a.t := by omega
  have hi' : j / 6 < (mss a).length := by rw [mss_len]; exact hi
  have hg := fm_get msL_len (mss a) hi' (j % 6) (by omega)
  rw [show j / 6 * 6 + j % 6 = j by omega,mss_get] at hg
  rw [hg]
  have hl : j % 6 < (msL (msI a (j / 6))).length := by rw [msL_len]; omega
  have := h.2 (j / 6) hi (j % 6) _ (List.getElem?_eq_getElem hl)
  rw [show j / 6 * 6 + j % 6 = j by omega] at this
  rw [List.getElem?_eq_getElem hl,← this]
  simp
 ·rw [List.getElem?_eq_none (by simp [h.1]; omega),List.getElem?_eq_none (by rw [fm_len msL_len,mss_len]; omega)]

end Go.Proofs.YtlgcnbomfhmjiaaGreatDoor

namespace Go.Proofs.YtlgcnbomfhmjiaaGreatDoor
open Go.RowKit Go.Shelf
set_option maxRecDepth 100000
set_option maxHeartbeats 2000000
theorem fcC_one (f : Fc) : (fcC f).all (·.oneCell') = true := by simp [fcC,Value.oneCell']
def ops17_10 (ps : String) : Array Oper := #[⟨some 36,.fieldAddr 182 (.tmp 11) 2,0,ps,#[],none⟩,⟨some 37,.load 3 (.tmp 36),3,ps,#[⟨0,.data⟩],none⟩,⟨some 38,.fieldAddr 36 (.tmp 1) 0,0,ps,#[],none⟩,⟨some 39,.load 9 (.tmp 38),9,ps,#[⟨2,.data⟩],none⟩,⟨some 40,.fieldAddr 182 (.tmp 11) 0,0,ps,#[],none⟩,⟨some 41,.load 3 (.tmp 40),3,ps,#[⟨4,.data⟩],none⟩,⟨some 42,.index 9 (.tmp 39) (.tmp 41),5,ps,#[⟨3,.data⟩,⟨5,.data⟩],none⟩,⟨some 43,.move (.tmp 6),177,ps,#[],none⟩,⟨some 44,.fieldAddr 182 (.tmp 11) 0,0,ps,#[],none⟩,⟨some 45,.load 3 (.tmp 44),3,ps,#[⟨8,.data⟩],none⟩,⟨some 46,.call ⟨.value (.tmp 43),#[.tmp 45],#[3]⟩,59,ps,#[⟨7,.data⟩,⟨9,.data⟩],none⟩,⟨some 47,.build 180 #[(0,.tmp 37),(1,.tmp 42),(2,.tmp 46)],180,ps,#[⟨1,.data⟩,⟨6,.data⟩,⟨10,.data⟩],none⟩,⟨some 12,.alloc 180,0,ps,#[],none⟩,⟨none,.store 180 (.tmp 12) (.tmp 47),0,ps,#[⟨12,.data⟩,⟨11,.data⟩,⟨10,.chain⟩,⟨0,.phase⟩,⟨1,.phase⟩,⟨2,.phase⟩,⟨3,.phase⟩,⟨4,.phase⟩,⟨5,.phase⟩,⟨6,.phase⟩,⟨7,.phase⟩,⟨8,.phase⟩,⟨9,.phase⟩,⟨10,.phase⟩,⟨11,.phase⟩,⟨12,.phase⟩],none⟩]

theorem mass_r10 (Q : Exit → Act → World → Prop) (hQ : ∀ c x (n : Nat) v w,Q (.panic c) (x.put (some n) v) w → Q (.panic c) x w) (id : Nat) (ps : String) {v0 v2 v3 v4 v5 v7 v8 v9 xa xb xc xd xe xf xg xh xi xj xk xl xm xn xo xp xq xr xt xu xv xw xx xy xz xA xB xC xD xE xF xG xH xI xJ xK xL xM xN xO xP xQ xR xS xT xU xV xW xX xY xZ ya yc yd ye yf yg yh yi yj yk yl ym yn yo yp yq : Value}
  (B C F S Bq i x : Nat) (a : Pa) (y kd yb : Int) (hx : x < a.t.size) (hyb : ((a.t[x]'hx).toNat : Int) = yb) (ht : a.t.size ≤ 4096) (hsp : spB a.sp a.t.size = true) (hi0 : i ≤ a.sp.length) (hik : offs a.sp i ≤ x) (hneB : ¬ (B = F ∨ B = S)) (hneC : ¬ (C = F ∨ C = S)) (w0 : World) (hP : PB w0 B a) (hC : CB w0 C x y kd) (hL : LkAt a F S Bq i w0)
  (hq : ∀ Nn w',w0.heap.size ≤ Nn → FB w' Nn ⟨kd,yb,szAt a x,(spAt a.sp x).t,(spAt a.sp x).k⟩ → LkAt a F S Bq (lkI a.sp x) w' → Turns (fun b => b = F ∨ b = S) w0 w' → Q .normal (fr17 v0 (.pointer (some ⟨B,0,none⟩)) v2 v3 v4 v5 (.func (.func 181) #[] #[.pointer (some ⟨F,0,none⟩),.pointer (some ⟨S,0,none⟩),.pointer (some ⟨Bq,0,none⟩)]) v7 v8 v9 xa (.pointer (some ⟨C,0,none⟩)) (.pointer (some ⟨Nn,0,none⟩)) xc xd xe xf xg xh xi xj xk xl xm xn xo xp xq xr xt xu xv xw xx xy xz (.pointer (some ⟨C,2,none⟩)) (.int .i64 kd) (.pointer (some ⟨B,0,none⟩)) (.string a.t) (.pointer (some ⟨C,0,none⟩)) (.int .i64 (x : Nat)) (.int .u8 yb) (.func (.func 181) #[] #[.pointer (some ⟨F,0,none⟩),.pointer (some ⟨S,0,none⟩),.pointer (some ⟨Bq,0,none⟩)]) (.pointer (some ⟨C,0,none⟩)) (.int .i64 (x : Nat)) (.agg #[.int .i64 (szAt a x),.int .i64 (spAt a.sp x).t,.int .i64 (spAt a.sp x).k]) (.agg #[.int .i64 kd,.int .u8 yb,.int .i64 (szAt a x),.int .i64 (spAt a.sp x).t,.int .i64 (spAt a.sp x).k]) xM xN xO xP xQ xR xS xT xU xV xW xX xY xZ ya yc yd ye yf yg yh yi yj yk yl ym yn yo yp yq) w') :
  (Code.region id (ops17_10 ps) true).wp Tryz.prog Q (fr17 v0 (.pointer (some ⟨B,0,none⟩)) v2 v3 v4 v5 (.func (.func 181) #[] #[.pointer (some ⟨F,0,none⟩),.pointer (some ⟨S,0,none⟩),.pointer (some ⟨Bq,0,none⟩)]) v7 v8 v9 xa (.pointer (some ⟨C,0,none⟩)) xb xc xd xe xf xg xh xi xj xk xl xm xn xo xp xq xr xt xu xv xw xx xy xz xA xB xC xD xE xF xG xH xI xJ xK xL xM xN xO xP xQ xR xS xT xU xV xW xX xY xZ ya yc yd ye yf yg yh yi yj yk yl ym yn yo yp yq) w0 := by
 refine wp_region_held (S := fun w => PB w B a ∧ CB w C x y kd) (by kernel_rfl) ?_
 change wpAnyH _ _ _ _ _ 14 _ _ (World.drew w0)
 have C0 : PB w0.drew B a ∧ CB w0.drew C x y kd := ⟨hP.below (below_drew w0) hP.lt,hC.below (below_drew w0) hC.lt⟩
 have T0 : Turns (fun b => b = F ∨ b = S) w0 w0.drew := Turns.drew _ _
 have hL0 : LkAt a F S Bq i w0.drew := hL.turns (Turns.drew Noth _) (fun h => h) (fun h => h) (fun h => h) (fun _ _ _ _ h => h)
 have hF1 := hL.fr.lt
 have hB1 := hP.lt
 have hC1 := hC.lt
 have hP1 := hL.pb.lt
 have hS1 : S < w0.heap.size := by obtain ⟨b,o,cap,hsv,hb,hc,n1,n2,hS,hcs⟩ := hL.sp; exact hS.lt
 have hbw : ∀ b o cap,a.sv = .slice (some ⟨b,o,none⟩) a.sp.length cap → b < w0.heap.size := by
  obtain ⟨b,o,cap,hsv,hb,hc,n1,n2,hS,hcs⟩ := hL.sp
  intro b' o' cap' e
  rw [hsv] at e
  cases e
  exact hb
 refine take_h (i := 0) (oi := ⟨some 36,.fieldAddr 182 (.tmp 11) 2,0,ps,#[],none⟩) (fuel := 13) (v := (.pointer (some ⟨C,2,none⟩))) _ (by kernel_rfl) (by kernel_rfl) (by kernel_rfl) (by kernel_rfl) (fun c x w => hQ c x _ _ w) (by kernel_rfl) (fun w hS => by unfold fr17; go_simp) rfl C0 ?_
 refine take_h (i := 1) (oi := ⟨some 37,.load 3 (.tmp 36),3,ps,#[⟨0,.data⟩],none⟩) (fuel := 12) (v := (.int .i64 kd)) _ (by kernel_rfl) (by kernel_rfl) (by kernel_rfl) (by kernel_rfl) (fun c x w => hQ c x _ _ w) (by kernel_rfl) (fun w hS => by have e := hS.2.c2; unfold fr17; go_simp) rfl C0 ?_
 refine take_h (i := 2) (oi := ⟨some 38,.fieldAddr 36 (.tmp 1) 0,0,ps,#[],none⟩) (fuel := 11) (v := (.pointer (some ⟨B,0,none⟩))) (fr17 v0 (.pointer (some ⟨B,0,none⟩)) v2 v3 v4 v5 (.func (.func 181) #[] #[.pointer (some ⟨F,0,none⟩),.pointer (some ⟨S,0,none⟩),.pointer (some ⟨Bq,0,none⟩)]) v7 v8 v9 xa (.pointer (some ⟨C,0,none⟩)) xb xc xd xe xf xg xh xi xj xk xl xm xn xo xp xq xr xt xu xv xw xx xy xz (.pointer (some ⟨C,2,none⟩)) (.int .i64 kd) (.pointer (some ⟨B,0,none⟩)) xD xE xF xG xH xI xJ xK xL xM xN xO xP xQ xR xS xT xU xV xW xX xY xZ ya yc yd ye yf yg yh yi yj yk yl ym yn yo yp yq) (by kernel_rfl) (by kernel_rfl) (by kernel_rfl) (by kernel_rfl) (fun c x w => hQ c x _ _ w) (by kernel_rfl) (fun w hS => by unfold fr17; go_simp) (by kernel_rfl) C0 ?_
 refine take_h (i := 3) (oi := ⟨some 39,.load 9 (.tmp 38),9,ps,#[⟨2,.data⟩],none⟩) (fuel := 10) (v := (.string a.t)) _ (by kernel_rfl) (by kernel_rfl) (by kernel_rfl) (by kernel_rfl) (fun c x w => hQ c x _ _ w) (by kernel_rfl) (fun w hS => by have e := hS.1.c0; unfold fr17; go_simp) rfl C0 ?_
 refine take_h (i := 4) (oi := ⟨some 40,.fieldAddr 182 (.tmp 11) 0,0,ps,#[],none⟩) (fuel := 9) (v := (.pointer (some ⟨C,0,none⟩))) _ (by kernel_rfl) (by kernel_rfl) (by kernel_rfl) (by kernel_rfl) (fun c x w => hQ c x _ _ w) (by kernel_rfl) (fun w hS => by unfold fr17; go_simp) rfl C0 ?_
 refine take_h (i := 5) (oi := ⟨some 41,.load 3 (.tmp 40),3,ps,#[⟨4,.data⟩],none⟩) (fuel := 8) (v := (.int .i64 (x : Nat))) (fr17 v0 (.pointer (some ⟨B,0,none⟩)) v2 v3 v4 v5 (.func (.func 181) #[] #[.pointer (some ⟨F,0,none⟩),.pointer (some ⟨S,0,none⟩),.pointer (some ⟨Bq,0,none⟩)]) v7 v8 v9 xa (.pointer (some ⟨C,0,none⟩)) xb xc xd xe xf xg xh xi xj xk xl xm xn xo xp xq xr xt xu xv xw xx xy xz (.pointer (some ⟨C,2,none⟩)) (.int .i64 kd) (.pointer (some ⟨B,0,none⟩)) (.string a.t) (.pointer (some ⟨C,0,none⟩)) (.int .i64 (x : Nat)) xG xH xI xJ xK xL xM xN xO xP xQ xR xS xT xU xV xW xX xY xZ ya yc yd ye yf yg yh yi yj yk yl ym yn yo yp yq) (by kernel_rfl) (by kernel_rfl) (by kernel_rfl) (by kernel_rfl) (fun c x w => hQ c x _ _ w) (by kernel_rfl) (fun w hS => by have e := hS.2.c0; unfold fr17; go_simp) (by kernel_rfl) C0 ?_
 refine take_h (i := 6) (oi := ⟨some 42,.index 9 (.tmp 39) (.tmp 41),5,ps,#[⟨3,.data⟩,⟨5,.data⟩],none⟩) (fuel := 7) (v := (.int .u8 yb)) _ (by kernel_rfl) (by kernel_rfl) (by kernel_rfl) (by kernel_rfl) (fun c x w => hQ c x _ _ w) (by kernel_rfl) (fun w hS => by have h1 := hyb; have h2 : (x : Int) < a.t.size := (by omega); unfold fr17; go_simp) rfl C0 ?_
 refine take_h (i := 7) (oi := ⟨some 43,.move (.tmp 6),177,ps,#[],none⟩) (fuel := 6) (v := (.func (.func 181) #[] #[.pointer (some ⟨F,0,none⟩),.pointer (some ⟨S,0,none⟩),.pointer (some ⟨Bq,0,none⟩)])) _ (by kernel_rfl) (by kernel_rfl) (by kernel_rfl) (by kernel_rfl) (fun c x w => hQ c x _ _ w) (by kernel_rfl) (fun w _ => by kernel_rfl) rfl C0 ?_
 refine take_h (i := 8) (oi := ⟨some 44,.fieldAddr 182 (.tmp 11) 0,0,ps,#[],none⟩) (fuel := 5) (v := (.pointer (some ⟨C,0,none⟩))) (fr17 v0 (.pointer (some ⟨B,0,none⟩)) v2 v3 v4 v5 (.func (.func 181) #[] #[.pointer (some ⟨F,0,none⟩),.pointer (some ⟨S,0,none⟩),.pointer (some ⟨Bq,0,none⟩)]) v7 v8 v9 xa (.pointer (some ⟨C,0,none⟩)) xb xc xd xe xf xg xh xi xj xk xl xm xn xo xp xq xr xt xu xv xw xx xy xz (.pointer (some ⟨C,2,none⟩)) (.int .i64 kd) (.pointer (some ⟨B,0,none⟩)) (.string a.t) (.pointer (some ⟨C,0,none⟩)) (.int .i64 (x : Nat)) (.int .u8 yb) (.func (.func 181) #[] #[.pointer (some ⟨F,0,none⟩),.pointer (some ⟨S,0,none⟩),.pointer (some ⟨Bq,0,none⟩)]) (.pointer (some ⟨C,0,none⟩)) xJ xK xL xM xN xO xP xQ xR xS xT xU xV xW xX xY xZ ya yc yd ye yf yg yh yi yj yk yl ym yn yo yp yq) (by kernel_rfl) (by kernel_rfl) (by kernel_rfl) (by kernel_rfl) (fun c x w => hQ c x _ _ w) (by kernel_rfl) (fun w hS => by unfold fr17; go_simp) (by kernel_rfl) C0 ?_
 refine take_h (i := 9) (oi := ⟨some 45,.load 3 (.tmp 44),3,ps,#[⟨8,.data⟩],none⟩) (fuel := 4) (v := (.int .i64 (x : Nat))) _ (by kernel_rfl) (by kernel_rfl) (by kernel_rfl) (by kernel_rfl) (fun c x w => hQ c x _ _ w) (by kernel_rfl) (fun w hS => by have e := hS.2.c0; unfold fr17; go_simp) rfl C0 ?_
 refine two_h (i := 10) (j := 12) (oi := ⟨some 46,.call ⟨.value (.tmp 43),#[.tmp 45],#[3]⟩,59,ps,#[⟨7,.data⟩,⟨9,.data⟩],none⟩) (oj := ⟨some 12,.alloc 180,0,ps,#[],none⟩) (fuel := 3) (by kernel_rfl) (by kernel_rfl) (by kernel_rfl) (by kernel_rfl) (by kernel_rfl) (fun K hK => ?_) (fun K hK => ?_)
 ·skip
  unfold fr17
  go_simp
  refine (looks1_any a hsp F S Bq i x hx ht hi0 hik _ hL0).mono ?_
  rintro e w1 ⟨rfl,hL1,T1⟩
  have C1 : PB w1 B a ∧ CB w1 C x y kd := ⟨C0.1.turns T1 hneB,C0.2.turns T1 hneC⟩
  refine hK _ _ C1 (cast_h (fr17 v0 (.pointer (some ⟨B,0,none⟩)) v2 v3 v4 v5 (.func (.func 181) #[] #[.pointer (some ⟨F,0,none⟩),.pointer (some ⟨S,0,none⟩),.pointer (some ⟨Bq,0,none⟩)]) v7 v8 v9 xa (.pointer (some ⟨C,0,none⟩)) xb xc xd xe xf xg xh xi xj xk xl xm xn xo xp xq xr xt xu xv xw xx xy xz (.pointer (some ⟨C,2,none⟩)) (.int .i64 kd) (.pointer (some ⟨B,0,none⟩)) (.string a.t) (.pointer (some ⟨C,0,none⟩)) (.int .i64 (x : Nat)) (.int .u8 yb) (.func (.func 181) #[] #[.pointer (some ⟨F,0,none⟩),.pointer (some ⟨S,0,none⟩),.pointer (some ⟨Bq,0,none⟩)]) (.pointer (some ⟨C,0,none⟩)) (.int .i64 (x : Nat)) (.agg #[.int .i64 (szAt a x),.int .i64 (spAt a.sp x).t,.int .i64 (spAt a.sp x).k]) xL xM xN xO xP xQ xR xS xT xU xV xW xX xY xZ ya yc yd ye yf yg yh yi yj yk yl ym yn yo yp yq) (by kernel_rfl) ?_)
  clear hK K
  refine take_h (i := 11) (oi := ⟨some 47,.build 180 #[(0,.tmp 37),(1,.tmp 42),(2,.tmp 46)],180,ps,#[⟨1,.data⟩,⟨6,.data⟩,⟨10,.data⟩],none⟩) (fuel := 2) (v := (.agg #[.int .i64 kd,.int .u8 yb,.int .i64 (szAt a x),.int .i64 (spAt a.sp x).t,.int .i64 (spAt a.sp x).k])) _ (by kernel_rfl) (by kernel_rfl) (by kernel_rfl) (by kernel_rfl) (fun c x w => hQ c x _ _ w) (by kernel_rfl) (fun w hS => by unfold fr17; go_simp) rfl C1 ?_
  refine want_h (i := 12) (oi := ⟨some 12,.alloc 180,0,ps,#[],none⟩) (fuel := 1) (by kernel_rfl) (by kernel_rfl) (by kernel_rfl) fun K hK => ?_
  unfold fr17
  go_simp
  have hZ : (w1.alloc (.cells #[.int .i64 0,.int .u8 0,.int .i64 0,.int .i64 0,.int .i64 0] 180)).heap[w1.heap.size]? = some (.cells #[.int .i64 0,.int .u8 0,.int .i64 0,.int .i64 0,.int .i64 0] 180 (0,0)) := World.alloc_heap_new w1 _
  have hs1 := T1.size
  have hs1' : w0.heap.size ≤ w1.heap.size := hs1
  have T2 : Turns (fun b => b = F ∨ b = S) w0 (w1.alloc (.cells #[.int .i64 0,.int .u8 0,.int .i64 0,.int .i64 0,.int .i64 0] 180)) := (T0.trans T1).trans (Turns.alloc _ _ _)
  have L2 : LkAt a F S Bq (lkI a.sp x) (w1.alloc (.cells #[.int .i64 0,.int .u8 0,.int .i64 0,.int .i64 0,.int .i64 0] 180)) := hL1.turns (Turns.alloc Noth _ _) (fun h => h) (fun h => h) (fun h => h) (fun _ _ _ _ h => h)
  have C2 : PB (w1.alloc (.cells #[.int .i64 0,.int .u8 0,.int .i64 0,.int .i64 0,.int .i64 0] 180)) B a ∧ CB (w1.alloc (.cells #[.int .i64 0,.int .u8 0,.int .i64 0,.int .i64 0,.int .i64 0] 180)) C x y kd := ⟨C1.1.turns (Turns.alloc Noth _ _) (fun h => h),C1.2.turns (Turns.alloc Noth _ _) (fun h => h)⟩
  refine hK _ _ C2 (cast_h (fr17 v0 (.pointer (some ⟨B,0,none⟩)) v2 v3 v4 v5 (.func (.func 181) #[] #[.pointer (some ⟨F,0,none⟩),.pointer (some ⟨S,0,none⟩),.pointer (some ⟨Bq,0,none⟩)]) v7 v8 v9 xa (.pointer (some ⟨C,0,none⟩)) (.pointer (some ⟨w1.heap.size,0,none⟩)) xc xd xe xf xg xh xi xj xk xl xm xn xo xp xq xr xt xu xv xw xx xy xz (.pointer (some ⟨C,2,none⟩)) (.int .i64 kd) (.pointer (some ⟨B,0,none⟩)) (.string a.t) (.pointer (some ⟨C,0,none⟩)) (.int .i64 (x : Nat)) (.int .u8 yb) (.func (.func 181) #[] #[.pointer (some ⟨F,0,none⟩),.pointer (some ⟨S,0,none⟩),.pointer (some ⟨Bq,0,none⟩)]) (.pointer (some ⟨C,0,none⟩)) (.int .i64 (x : Nat)) (.agg #[.int .i64 (szAt a x),.int .i64 (spAt a.sp x).t,.int .i64 (spAt a.sp x).k]) (.agg #[.int .i64 kd,.int .u8 yb,.int .i64 (szAt a x),.int .i64 (spAt a.sp x).t,.int .i64 (spAt a.sp x).k]) xM xN xO xP xQ xR xS xT xU xV xW xX xY xZ ya yc yd ye yf yg yh yi yj yk yl ym yn yo yp yq) (by kernel_rfl) ?_)
  clear hK K
  refine want_h (i := 13) (oi := ⟨none,.store 180 (.tmp 12) (.tmp 47),0,ps,#[⟨12,.data⟩,⟨11,.data⟩,⟨10,.chain⟩,⟨0,.phase⟩,⟨1,.phase⟩,⟨2,.phase⟩,⟨3,.phase⟩,⟨4,.phase⟩,⟨5,.phase⟩,⟨6,.phase⟩,⟨7,.phase⟩,⟨8,.phase⟩,⟨9,.phase⟩,⟨10,.phase⟩,⟨11,.phase⟩,⟨12,.phase⟩],none⟩) (fuel := 0) (by kernel_rfl) (by kernel_rfl) (by kernel_rfl) fun K hK => ?_
  refine wp_store_row 180 _ _ rfl (w1.heap.size) (fcC ⟨kd,yb,szAt a x,(spAt a.sp x).t,(spAt a.sp x).k⟩) rfl rfl 180 _ hZ (info68 _) rfl (fcC_one _) ?_
  have G9 : FB ((w1.alloc (.cells #[.int .i64 0,.int .u8 0,.int .i64 0,.int .i64 0,.int .i64 0] 180)).setRow (w1.heap.size) (fcC ⟨kd,yb,szAt a x,(spAt a.sp x).t,(spAt a.sp x).k⟩)) (w1.heap.size) ⟨kd,yb,szAt a x,(spAt a.sp x).t,(spAt a.sp x).k⟩ := ⟨setRow_heap _ _ _ _ 180 _ hZ⟩
  have T9 : Turns (fun b => b = w1.heap.size) (w1.alloc (.cells #[.int .i64 0,.int .u8 0,.int .i64 0,.int .i64 0,.int .i64 0] 180)) ((w1.alloc (.cells #[.int .i64 0,.int .u8 0,.int .i64 0,.int .i64 0,.int .i64 0] 180)).setRow (w1.heap.size) (fcC ⟨kd,yb,szAt a x,(spAt a.sp x).t,(spAt a.sp x).k⟩)) := Turns.setRow (X := fun b => b = w1.heap.size) _ (r := w1.heap.size) rfl _
  have L9 : LkAt a F S Bq (lkI a.sp x) ((w1.alloc (.cells #[.int .i64 0,.int .u8 0,.int .i64 0,.int .i64 0,.int .i64 0] 180)).setRow (w1.heap.size) (fcC ⟨kd,yb,szAt a x,(spAt a.sp x).t,(spAt a.sp x).k⟩)) := L2.turns T9 (by omega) (by omega) (by omega) (fun b o c e => by have := hbw b o c e; omega)
  have C9 : PB ((w1.alloc (.cells #[.int .i64 0,.int .u8 0,.int .i64 0,.int .i64 0,.int .i64 0] 180)).setRow (w1.heap.size) (fcC ⟨kd,yb,szAt a x,(spAt a.sp x).t,(spAt a.sp x).k⟩)) B a ∧ CB ((w1.alloc (.cells #[.int .i64 0,.int .u8 0,.int .i64 0,.int .i64 0,.int .i64 0] 180)).setRow (w1.heap.size) (fcC ⟨kd,yb,szAt a x,(spAt a.sp x).t,(spAt a.sp x).k⟩)) C x y kd := ⟨C2.1.turns T9 (by omega),C2.2.turns T9 (by omega)⟩
  have D9 : Turns (fun b => b = F ∨ b = S) w0 ((w1.alloc (.cells #[.int .i64 0,.int .u8 0,.int .i64 0,.int .i64 0,.int .i64 0] 180)).setRow (w1.heap.size) (fcC ⟨kd,yb,szAt a x,(spAt a.sp x).t,(spAt a.sp x).k⟩)) := T2.trans' T9 (fun q hq => .inr (by omega))
  refine hK _ _ C9 (cast_h (fr17 v0 (.pointer (some ⟨B,0,none⟩)) v2 v3 v4 v5 (.func (.func 181) #[] #[.pointer (some ⟨F,0,none⟩),.pointer (some ⟨S,0,none⟩),.pointer (some ⟨Bq,0,none⟩)]) v7 v8 v9 xa (.pointer (some ⟨C,0,none⟩)) (.pointer (some ⟨w1.heap.size,0,none⟩)) xc xd xe xf xg xh xi xj xk xl xm xn xo xp xq xr xt xu xv xw xx xy xz (.pointer (some ⟨C,2,none⟩)) (.int .i64 kd) (.pointer (some ⟨B,0,none⟩)) (.string a.t) (.pointer (some ⟨C,0,none⟩)) (.int .i64 (x : Nat)) (.int .u8 yb) (.func (.func 181) #[] #[.pointer (some ⟨F,0,none⟩),.pointer (some ⟨S,0,none⟩),.pointer (some ⟨Bq,0,none⟩)]) (.pointer (some ⟨C,0,none⟩)) (.int .i64 (x : Nat)) (.agg #[.int .i64 (szAt a x),.int .i64 (spAt a.sp x).t,.int .i64 (spAt a.sp x).k]) (.agg #[.int .i64 kd,.int .u8 yb,.int .i64 (szAt a x),.int .i64 (spAt a.sp x).t,.int .i64 (spAt a.sp x).k]) xM xN xO xP xQ xR xS xT xU xV xW xX xY xZ ya yc yd ye yf yg yh yi yj yk yl ym yn yo yp yq) (by kernel_rfl) ?_)
  clear hK K
  exact wpAnyH_done (by kernel_rfl) (hq _ _ hs1' G9 L9 D9) _
 ·skip
  unfold fr17
  go_simp
  have hZ : (w0.drew.alloc (.cells #[.int .i64 0,.int .u8 0,.int .i64 0,.int .i64 0,.int .i64 0] 180)).heap[w0.heap.size]? = some (.cells #[.int .i64 0,.int .u8 0,.int .i64 0,.int .i64 0,.int .i64 0] 180 (0,0)) := World.alloc_heap_new w0.drew _
  have L1 : LkAt a F S Bq i (w0.drew.alloc (.cells #[.int .i64 0,.int .u8 0,.int .i64 0,.int .i64 0,.int .i64 0] 180)) := hL0.turns (Turns.alloc Noth _ _) (fun h => h) (fun h => h) (fun h => h) (fun _ _ _ _ h => h)
  have C1 : PB (w0.drew.alloc (.cells #[.int .i64 0,.int .u8 0,.int .i64 0,.int .i64 0,.int .i64 0] 180)) B a ∧ CB (w0.drew.alloc (.cells #[.int .i64 0,.int .u8 0,.int .i64 0,.int .i64 0,.int .i64 0] 180)) C x y kd := ⟨C0.1.turns (Turns.alloc Noth _ _) (fun h => h),C0.2.turns (Turns.alloc Noth _ _) (fun h => h)⟩
  have T2 : Turns (fun b => b = F ∨ b = S) w0 (w0.drew.alloc (.cells #[.int .i64 0,.int .u8 0,.int .i64 0,.int .i64 0,.int .i64 0] 180)) := T0.trans (Turns.alloc _ _ _)
  refine hK _ _ C1 (cast_h (fr17 v0 (.pointer (some ⟨B,0,none⟩)) v2 v3 v4 v5 (.func (.func 181) #[] #[.pointer (some ⟨F,0,none⟩),.pointer (some ⟨S,0,none⟩),.pointer (some ⟨Bq,0,none⟩)]) v7 v8 v9 xa (.pointer (some ⟨C,0,none⟩)) (.pointer (some ⟨w0.heap.size,0,none⟩)) xc xd xe xf xg xh xi xj xk xl xm xn xo xp xq xr xt xu xv xw xx xy xz (.pointer (some ⟨C,2,none⟩)) (.int .i64 kd) (.pointer (some ⟨B,0,none⟩)) (.string a.t) (.pointer (some ⟨C,0,none⟩)) (.int .i64 (x : Nat)) (.int .u8 yb) (.func (.func 181) #[] #[.pointer (some ⟨F,0,none⟩),.pointer (some ⟨S,0,none⟩),.pointer (some ⟨Bq,0,none⟩)]) (.pointer (some ⟨C,0,none⟩)) (.int .i64 (x : Nat)) xK xL xM xN xO xP xQ xR xS xT xU xV xW xX xY xZ ya yc yd ye yf yg yh yi yj yk yl ym yn yo yp yq) (by kernel_rfl) ?_)
  clear hK K
  refine want_h (i := 10) (oi := ⟨some 46,.call ⟨.value (.tmp 43),#[.tmp 45],#[3]⟩,59,ps,#[⟨7,.data⟩,⟨9,.data⟩],none⟩) (fuel := 2) (by kernel_rfl) (by kernel_rfl) (by kernel_rfl) fun K hK => ?_
  unfold fr17
  go_simp
  refine (looks1_any a hsp F S Bq i x hx ht hi0 hik _ L1).mono ?_
  rintro e w1 ⟨rfl,hL1,T1⟩
  have C2 : PB w1 B a ∧ CB w1 C x y kd := ⟨C1.1.turns T1 hneB,C1.2.turns T1 hneC⟩
  have hZ1 : w1.heap[w0.heap.size]? = some (.cells #[.int .i64 0,.int .u8 0,.int .i64 0,.int .i64 0,.int .i64 0] 180 (0,0)) := (T1.block _ (Array.getElem?_eq_some_iff.1 hZ).1 (by omega)).trans hZ
  have T3 := T2.trans T1
  refine hK _ _ C2 (cast_h (fr17 v0 (.pointer (some ⟨B,0,none⟩)) v2 v3 v4 v5 (.func (.func 181) #[] #[.pointer (some ⟨F,0,none⟩),.pointer (some ⟨S,0,none⟩),.pointer (some ⟨Bq,0,none⟩)]) v7 v8 v9 xa (.pointer (some ⟨C,0,none⟩)) (.pointer (some ⟨w0.heap.size,0,none⟩)) xc xd xe xf xg xh xi xj xk xl xm xn xo xp xq xr xt xu xv xw xx xy xz (.pointer (some ⟨C,2,none⟩)) (.int .i64 kd) (.pointer (some ⟨B,0,none⟩)) (.string a.t) (.pointer (some ⟨C,0,none⟩)) (.int .i64 (x : Nat)) (.int .u8 yb) (.func (.func 181) #[] #[.pointer (some ⟨F,0,none⟩),.pointer (some ⟨S,0,none⟩),.pointer (some ⟨Bq,0,none⟩)]) (.pointer (some ⟨C,0,none⟩)) (.int .i64 (x : Nat)) (.agg #[.int .i64 (szAt a x),.int .i64 (spAt a.sp x).t,.int .i64 (spAt a.sp x).k]) xL xM xN xO xP xQ xR xS xT xU xV xW xX xY xZ ya yc yd ye yf yg yh yi yj yk yl ym yn yo yp yq) (by kernel_rfl) ?_)
  clear hK K
  refine take_h (i := 11) (oi := ⟨some 47,.build 180 #[(0,.tmp 37),(1,.tmp 42),(2,.tmp 46)],180,ps,#[⟨1,.data⟩,⟨6,.data⟩,⟨10,.data⟩],none⟩) (fuel := 1) (v := (.agg #[.int .i64 kd,.int .u8 yb,.int .i64 (szAt a x),.int .i64 (spAt a.sp x).t,.int .i64 (spAt a.sp x).k])) _ (by kernel_rfl) (by kernel_rfl) (by kernel_rfl) (by kernel_rfl) (fun c x w => hQ c x _ _ w) (by kernel_rfl) (fun w hS => by unfold fr17; go_simp) rfl C2 ?_
  refine want_h (i := 13) (oi := ⟨none,.store 180 (.tmp 12) (.tmp 47),0,ps,#[⟨12,.data⟩,⟨11,.data⟩,⟨10,.chain⟩,⟨0,.phase⟩,⟨1,.phase⟩,⟨2,.phase⟩,⟨3,.phase⟩,⟨4,.phase⟩,⟨5,.phase⟩,⟨6,.phase⟩,⟨7,.phase⟩,⟨8,.phase⟩,⟨9,.phase⟩,⟨10,.phase⟩,⟨11,.phase⟩,⟨12,.phase⟩],none⟩) (fuel := 0) (by kernel_rfl) (by kernel_rfl) (by kernel_rfl) fun K hK => ?_
  refine wp_store_row 180 _ _ rfl (w0.heap.size) (fcC ⟨kd,yb,szAt a x,(spAt a.sp x).t,(spAt a.sp x).k⟩) rfl rfl 180 _ hZ1 (info68 _) rfl (fcC_one _) ?_
  have G9 : FB ((w1).setRow (w0.heap.size) (fcC ⟨kd,yb,szAt a x,(spAt a.sp x).t,(spAt a.sp x).k⟩)) (w0.heap.size) ⟨kd,yb,szAt a x,(spAt a.sp x).t,(spAt a.sp x).k⟩ := ⟨setRow_heap _ _ _ _ 180 _ hZ1⟩
  have T9 : Turns (fun b => b = w0.heap.size) (w1) ((w1).setRow (w0.heap.size) (fcC ⟨kd,yb,szAt a x,(spAt a.sp x).t,(spAt a.sp x).k⟩)) := Turns.setRow (X := fun b => b = w0.heap.size) _ (r := w0.heap.size) rfl _
  have L9 : LkAt a F S Bq (lkI a.sp x) ((w1).setRow (w0.heap.size) (fcC ⟨kd,yb,szAt a x,(spAt a.sp x).t,(spAt a.sp x).k⟩)) := hL1.turns T9 (by omega) (by omega) (by omega) (fun b o c e => by have := hbw b o c e; omega)
  have C9 : PB ((w1).setRow (w0.heap.size) (fcC ⟨kd,yb,szAt a x,(spAt a.sp x).t,(spAt a.sp x).k⟩)) B a ∧ CB ((w1).setRow (w0.heap.size) (fcC ⟨kd,yb,szAt a x,(spAt a.sp x).t,(spAt a.sp x).k⟩)) C x y kd := ⟨C2.1.turns T9 (by omega),C2.2.turns T9 (by omega)⟩
  have D9 : Turns (fun b => b = F ∨ b = S) w0 ((w1).setRow (w0.heap.size) (fcC ⟨kd,yb,szAt a x,(spAt a.sp x).t,(spAt a.sp x).k⟩)) := T3.trans' T9 (fun q hq => .inr (by omega))
  refine hK _ _ C9 (cast_h (fr17 v0 (.pointer (some ⟨B,0,none⟩)) v2 v3 v4 v5 (.func (.func 181) #[] #[.pointer (some ⟨F,0,none⟩),.pointer (some ⟨S,0,none⟩),.pointer (some ⟨Bq,0,none⟩)]) v7 v8 v9 xa (.pointer (some ⟨C,0,none⟩)) (.pointer (some ⟨w0.heap.size,0,none⟩)) xc xd xe xf xg xh xi xj xk xl xm xn xo xp xq xr xt xu xv xw xx xy xz (.pointer (some ⟨C,2,none⟩)) (.int .i64 kd) (.pointer (some ⟨B,0,none⟩)) (.string a.t) (.pointer (some ⟨C,0,none⟩)) (.int .i64 (x : Nat)) (.int .u8 yb) (.func (.func 181) #[] #[.pointer (some ⟨F,0,none⟩),.pointer (some ⟨S,0,none⟩),.pointer (some ⟨Bq,0,none⟩)]) (.pointer (some ⟨C,0,none⟩)) (.int .i64 (x : Nat)) (.agg #[.int .i64 (szAt a x),.int .i64 (spAt a.sp x).t,.int .i64 (spAt a.sp x).k]) (.agg #[.int .i64 kd,.int .u8 yb,.int .i64 (szAt a x),.int .i64 (spAt a.sp x).t,.int .i64 (spAt a.sp x).k]) xM xN xO xP xQ xR xS xT xU xV xW xX xY xZ ya yc yd ye yf yg yh yi yj yk yl ym yn yo yp yq) (by kernel_rfl) ?_)
  clear hK K
  exact wpAnyH_done (by kernel_rfl) (hq _ _ (Nat.le_refl _) G9 L9 D9) _
end Go.Proofs.YtlgcnbomfhmjiaaGreatDoor
