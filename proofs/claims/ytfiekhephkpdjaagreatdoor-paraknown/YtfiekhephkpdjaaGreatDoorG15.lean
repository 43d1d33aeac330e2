/-
  What is proved here: the regions of measure of least whose order is drawn.
-/
import Derived.Test.YtfiekhephkpdjaaGreatDoorG1
import Derived.Test.YtfiekhephkpdjaaGreatDoorG14
namespace Go.Proofs.YtfiekhephkpdjaaGreatDoor
open Go.RowKit Go.Shelf
set_option maxRecDepth 100000
set_option maxHeartbeats 2000000

def AnyW (_ : World) : Prop := True
def ruA (v a b : Value) : Array Value := #[v,a,b]
theorem info89z : ∃ i z,Tryz.prog.info? 182 = some i ∧ i.zero = some z ∧ i.size = 3 ∧ i.bytes = 24 ∧ z = .agg (suL su0).toArray := by
 have h : (Tryz.prog.info? 182).map (fun i => (i.zero,i.size,i.bytes)) = some (some (.agg (suL su0).toArray),3,24) := by kernel_rfl
 cases hi : Tryz.prog.info? 182 with
 | none => rw [hi] at h; cases h
 | some i =>
  rw [hi] at h
  simp only [Option.map_some,Option.some.injEq,Prod.mk.injEq] at h
  obtain ⟨h1,h2,h3⟩ := h
  exact ⟨i,_,rfl,h1,h2,h3,rfl⟩
theorem make48 {n : Nat} (h : n ≤ 9100) (W : World) : (Instr.makeSlice 131 (.int .i64 (n : Int)) (.int .i64 (n : Int))).run Tryz.prog W = .ok (.slice (some ⟨W.heap.size,0,none⟩) n n) (W.alloc (.cells ((List.replicate n su0).flatMap suL).toArray 182)) := by
 obtain ⟨i9,z,hi,hz0,hz1,hz2,rfl⟩ := info89z
 have := run_makeSlice (P := Tryz.prog) (w := W) 131 182 i9 _ Tryz.underlying131 hi hz0 .i64 .i64 n n (by omega) (by omega) (by rw [hz1]; omega) (by rw [hz2]; omega) (by omega)
 rw [hz1,Int.toNat_natCast] at this
 rw [← made_rec suL_len (by omega)]
 exact this
def fr12 (v0 v1 v2 v3 v4 v5 v6 v7 v8 v9 xa xb xc xd xe xf xg xh xi xj xk xl xm xn xo xp xq xr xt xu xv xw xx xy xz xA xB xC xD xE xF xG xH xI xJ xK xL xM xN xO xP xQ xR xS xT xU xV xW xX xY xZ ya yb yc yd ye yf yg yh yi yj yk yl ym yn yo yp : Value) : Act := { tmps := #[v0,v1,v2,v3,v4,v5,v6,v7,v8,v9,xa,xb,xc,xd,xe,xf,xg,xh,xi,xj,xk,xl,xm,xn,xo,xp,xq,xr,xt,xu,xv,xw,xx,xy,xz,xA,xB,xC,xD,xE,xF,xG,xH,xI,xJ,xK,xL,xM,xN,xO,xP,xQ,xR,xS,xT,xU,xV,xW,xX,xY,xZ,ya,yb,yc,yd,ye,yf,yg,yh,yi,yj,yk,yl,ym,yn,yo,yp],defers := [] }
def ops12_1_0 (ps : String) : Oper := ⟨some 7,.move (.tmp 0),48,ps,#[],none⟩
def ops12_1_1 (ps : String) : Oper := ⟨some 8,.move (.tmp 0),48,ps,#[],none⟩
def ops12_1_2 (ps : String) : Oper := ⟨some 9,.call ⟨.builtin .len,#[.tmp 8],#[48]⟩,3,ps,#[⟨1,.data⟩],none⟩
def ops12_1_3 (ps : String) : Oper := ⟨some 10,.binOp .add 3 (.tmp 9) (.const (.int .i64 1)) 3,3,ps,#[⟨2,.data⟩],none⟩
def ops12_1_4 (ps : String) : Oper := ⟨some 11,.makeSlice 131 (.tmp 10) (.tmp 10),131,ps,#[⟨3,.data⟩,⟨3,.data⟩],none⟩
def ops12_1_5 (ps : String) : Oper := ⟨some 12,.move (.tmp 0),48,ps,#[],none⟩
def ops12_1_6 (ps : String) : Oper := ⟨some 13,.call ⟨.builtin .len,#[.tmp 12],#[48]⟩,3,ps,#[⟨5,.data⟩],none⟩
def ops12_1_7 (ps : String) : Oper := ⟨some 14,.binOp .add 3 (.tmp 13) (.const (.int .i64 1)) 3,3,ps,#[⟨6,.data⟩],none⟩
def ops12_1_8 (ps : String) : Oper := ⟨some 15,.makeSlice 131 (.tmp 14) (.tmp 14),131,ps,#[⟨7,.data⟩,⟨7,.data⟩],none⟩
def ops12_1_9 (ps : String) : Oper := ⟨some 16,.build 133 #[(0,.tmp 7),(1,.tmp 11),(2,.tmp 15)],133,ps,#[⟨0,.data⟩,⟨4,.data⟩,⟨8,.data⟩],none⟩
def ops12_1_10 (ps : String) : Oper := ⟨some 3,.alloc 133,0,ps,#[],none⟩
def ops12_1_11 (ps : String) : Oper := ⟨none,.store 133 (.tmp 3) (.tmp 16),0,ps,#[⟨10,.data⟩,⟨9,.data⟩,⟨0,.phase⟩,⟨1,.phase⟩,⟨2,.phase⟩,⟨3,.phase⟩,⟨4,.phase⟩,⟨5,.phase⟩,⟨6,.phase⟩,⟨7,.phase⟩,⟨8,.phase⟩,⟨9,.phase⟩,⟨10,.phase⟩],none⟩
def ops12_1 (ps : String) : Array Oper := #[ops12_1_0 ps,ops12_1_1 ps,ops12_1_2 ps,ops12_1_3 ps,ops12_1_4 ps,ops12_1_5 ps,ops12_1_6 ps,ops12_1_7 ps,ops12_1_8 ps,ops12_1_9 ps,ops12_1_10 ps,ops12_1_11 ps]

theorem me_r1_4_8_10_ (Q : Exit → Act → World → Prop) (_hQ : ∀ c x (n : Nat) v w,Q (.panic c) (x.put (some n) v) w → Q (.panic c) x w) (ps : String) {v1 v2 v4 v5 v6 xh xi xj xk xl xm xn xo xp xq xr xt xu xv xw xx xy xz xA xB xC xD xE xF xG xH xI xJ xK xL xM xN xO xP xQ xR xS xT xU xV xW xX xY xZ ya yb yc yd ye yf yg yh yi yj yk yl ym yn yo yp : Value} (av : Option Addr) (n cap : Nat) (z w : World) (hz : Below z.heap.size z w) (hS : AnyW w) (_hn : n ≤ 8192) (_hn2 : (n : Int) ≤ 8192) (GA : Nat) (GB : Nat) (R : Nat) (f4 : z.heap.size ≤ GA ∧ w.heap[GA]? = some (.cells ((List.replicate (n + 1) su0).flatMap suL).toArray 182 (0,0))) (f8 : z.heap.size ≤ GB ∧ w.heap[GB]? = some (.cells ((List.replicate (n + 1) su0).flatMap suL).toArray 182 (0,0))) (f10 : z.heap.size ≤ R ∧ w.heap[R]? = some (.cells #[.slice none 0 0,.slice none 0 0,.slice none 0 0] 133 (0,0))) (p4_8 : GA ≠ GB) (p4_10 : GA ≠ R) (p8_10 : GB ≠ R)
  (hq : Hid (∀ (GA : Nat) (GB : Nat) (R : Nat) w',Below z.heap.size z w' → AnyW w' → z.heap.size ≤ GA ∧ w'.heap[GA]? = some (.cells ((List.replicate (n + 1) su0).flatMap suL).toArray 182 (0,0)) → z.heap.size ≤ GB ∧ w'.heap[GB]? = some (.cells ((List.replicate (n + 1) su0).flatMap suL).toArray 182 (0,0)) → z.heap.size ≤ R ∧ w'.heap[R]? = some (.cells #[.slice none 0 0,.slice none 0 0,.slice none 0 0] 133 (0,0)) → GA ≠ GB → GA ≠ R → GB ≠ R → Q .normal (fr12 (.slice av n cap) v1 v2 (.pointer (some ⟨R,0,none⟩)) v4 v5 v6 (.slice av n cap) (.slice av n cap) (.int .i64 (n : Nat)) (.int .i64 ((n : Nat) + 1)) (.slice (some ⟨GA,0,none⟩) (n + 1) (n + 1)) (.slice av n cap) (.int .i64 (n : Nat)) (.int .i64 ((n : Nat) + 1)) (.slice (some ⟨GB,0,none⟩) (n + 1) (n + 1)) (.agg (ruA (.slice av n cap) (.slice (some ⟨GA,0,none⟩) (n + 1) (n + 1)) (.slice (some ⟨GB,0,none⟩) (n + 1) (n + 1)))) xh xi xj xk xl xm xn xo xp xq xr xt xu xv xw xx xy xz xA xB xC xD xE xF xG xH xI xJ xK xL xM xN xO xP xQ xR xS xT xU xV xW xX xY xZ ya yb yc yd ye yf yg yh yi yj yk yl ym yn yo yp) (w'.setRow R (ruA (.slice av n cap) (.slice (some ⟨GA,0,none⟩) (n + 1) (n + 1)) (.slice (some ⟨GB,0,none⟩) (n + 1) (n + 1)))))) :
  wpAnyH Tryz.prog .any (ops12_1 ps) Q (AnyW) 1 #[true,true,true,true,true,true,true,true,true,true,true,false] (fr12 (.slice av n cap) v1 v2 (.pointer (some ⟨R,0,none⟩)) v4 v5 v6 (.slice av n cap) (.slice av n cap) (.int .i64 (n : Nat)) (.int .i64 ((n : Nat) + 1)) (.slice (some ⟨GA,0,none⟩) (n + 1) (n + 1)) (.slice av n cap) (.int .i64 (n : Nat)) (.int .i64 ((n : Nat) + 1)) (.slice (some ⟨GB,0,none⟩) (n + 1) (n + 1)) (.agg (ruA (.slice av n cap) (.slice (some ⟨GA,0,none⟩) (n + 1) (n + 1)) (.slice (some ⟨GB,0,none⟩) (n + 1) (n + 1)))) xh xi xj xk xl xm xn xo xp xq xr xt xu xv xw xx xy xz xA xB xC xD xE xF xG xH xI xJ xK xL xM xN xO xP xQ xR xS xT xU xV xW xX xY xZ ya yb yc yd ye yf yg yh yi yj yk yl ym yn yo yp) w := by
 refine want_k 11 (ops12_1_11 ps) fun K hK => ?_
 refine wp_store_row 133 _ _ (by unfold ops12_1_11; rfl) R (ruA (.slice av n cap) (.slice (some ⟨GA,0,none⟩) (n + 1) (n + 1)) (.slice (some ⟨GB,0,none⟩) (n + 1) (n + 1))) rfl rfl 133 _ f10.2 (by show _ = some 3; kernel_rfl) rfl (by kernel_rfl) ?_
 have hS1 : AnyW (w.setRow R (ruA (.slice av n cap) (.slice (some ⟨GA,0,none⟩) (n + 1) (n + 1)) (.slice (some ⟨GB,0,none⟩) (n + 1) (n + 1)))) := trivial
 refine hK _ _ hS1 (cast_h (fr12 (.slice av n cap) v1 v2 (.pointer (some ⟨R,0,none⟩)) v4 v5 v6 (.slice av n cap) (.slice av n cap) (.int .i64 (n : Nat)) (.int .i64 ((n : Nat) + 1)) (.slice (some ⟨GA,0,none⟩) (n + 1) (n + 1)) (.slice av n cap) (.int .i64 (n : Nat)) (.int .i64 ((n : Nat) + 1)) (.slice (some ⟨GB,0,none⟩) (n + 1) (n + 1)) (.agg (ruA (.slice av n cap) (.slice (some ⟨GA,0,none⟩) (n + 1) (n + 1)) (.slice (some ⟨GB,0,none⟩) (n + 1) (n + 1)))) xh xi xj xk xl xm xn xo xp xq xr xt xu xv xw xx xy xz xA xB xC xD xE xF xG xH xI xJ xK xL xM xN xO xP xQ xR xS xT xU xV xW xX xY xZ ya yb yc yd ye yf yg yh yi yj yk yl ym yn yo yp) (by kernel_rfl) ?_)
 clear hK K
 exact wpAnyH_done (by kernel_rfl) (hq.out GA GB R w hz hS f4 f8 f10 p4_8 p4_10 p8_10) _

theorem me_r1_4_8_ (Q : Exit → Act → World → Prop) (hQ : ∀ c x (n : Nat) v w,Q (.panic c) (x.put (some n) v) w → Q (.panic c) x w) (ps : String) {v1 v2 v3 v4 v5 v6 xh xi xj xk xl xm xn xo xp xq xr xt xu xv xw xx xy xz xA xB xC xD xE xF xG xH xI xJ xK xL xM xN xO xP xQ xR xS xT xU xV xW xX xY xZ ya yb yc yd ye yf yg yh yi yj yk yl ym yn yo yp : Value} (av : Option Addr) (n cap : Nat) (z w : World) (hz : Below z.heap.size z w) (_hS : AnyW w) (hn : n ≤ 8192) (hn2 : (n : Int) ≤ 8192) (GA : Nat) (GB : Nat) (f4 : z.heap.size ≤ GA ∧ w.heap[GA]? = some (.cells ((List.replicate (n + 1) su0).flatMap suL).toArray 182 (0,0))) (f8 : z.heap.size ≤ GB ∧ w.heap[GB]? = some (.cells ((List.replicate (n + 1) su0).flatMap suL).toArray 182 (0,0))) (p4_8 : GA ≠ GB)
  (hq : Hid (∀ (GA : Nat) (GB : Nat) (R : Nat) w',Below z.heap.size z w' → AnyW w' → z.heap.size ≤ GA ∧ w'.heap[GA]? = some (.cells ((List.replicate (n + 1) su0).flatMap suL).toArray 182 (0,0)) → z.heap.size ≤ GB ∧ w'.heap[GB]? = some (.cells ((List.replicate (n + 1) su0).flatMap suL).toArray 182 (0,0)) → z.heap.size ≤ R ∧ w'.heap[R]? = some (.cells #[.slice none 0 0,.slice none 0 0,.slice none 0 0] 133 (0,0)) → GA ≠ GB → GA ≠ R → GB ≠ R → Q .normal (fr12 (.slice av n cap) v1 v2 (.pointer (some ⟨R,0,none⟩)) v4 v5 v6 (.slice av n cap) (.slice av n cap) (.int .i64 (n : Nat)) (.int .i64 ((n : Nat) + 1)) (.slice (some ⟨GA,0,none⟩) (n + 1) (n + 1)) (.slice av n cap) (.int .i64 (n : Nat)) (.int .i64 ((n : Nat) + 1)) (.slice (some ⟨GB,0,none⟩) (n + 1) (n + 1)) (.agg (ruA (.slice av n cap) (.slice (some ⟨GA,0,none⟩) (n + 1) (n + 1)) (.slice (some ⟨GB,0,none⟩) (n + 1) (n + 1)))) xh xi xj xk xl xm xn xo xp xq xr xt xu xv xw xx xy xz xA xB xC xD xE xF xG xH xI xJ xK xL xM xN xO xP xQ xR xS xT xU xV xW xX xY xZ ya yb yc yd ye yf yg yh yi yj yk yl ym yn yo yp) (w'.setRow R (ruA (.slice av n cap) (.slice (some ⟨GA,0,none⟩) (n + 1) (n + 1)) (.slice (some ⟨GB,0,none⟩) (n + 1) (n + 1)))))) :
  wpAnyH Tryz.prog .any (ops12_1 ps) Q (AnyW) 2 #[true,true,true,true,true,true,true,true,true,true,false,false] (fr12 (.slice av n cap) v1 v2 v3 v4 v5 v6 (.slice av n cap) (.slice av n cap) (.int .i64 (n : Nat)) (.int .i64 ((n : Nat) + 1)) (.slice (some ⟨GA,0,none⟩) (n + 1) (n + 1)) (.slice av n cap) (.int .i64 (n : Nat)) (.int .i64 ((n : Nat) + 1)) (.slice (some ⟨GB,0,none⟩) (n + 1) (n + 1)) (.agg (ruA (.slice av n cap) (.slice (some ⟨GA,0,none⟩) (n + 1) (n + 1)) (.slice (some ⟨GB,0,none⟩) (n + 1) (n + 1)))) xh xi xj xk xl xm xn xo xp xq xr xt xu xv xw xx xy xz xA xB xC xD xE xF xG xH xI xJ xK xL xM xN xO xP xQ xR xS xT xU xV xW xX xY xZ ya yb yc yd ye yf yg yh yi yj yk yl ym yn yo yp) w := by
 refine all_h (fuel := 1) [10] (by kernel_rfl) (by simp) ?_
 intro i hi
 simp only [List.mem_cons,List.not_mem_nil,or_false] at hi
 subst hi
 ·refine ⟨ops12_1_10 ps,by kernel_rfl,by kernel_rfl,fun K hK => ?_⟩
  unfold fr12 ops12_1_10
  go_simp
  have hb1 : Below w.heap.size w (w.alloc (.cells #[.slice none 0 0,.slice none 0 0,.slice none 0 0] 133)) := (Below.refl _ _).alloc (Nat.le_refl _) _
  have fn : (w.alloc (.cells #[.slice none 0 0,.slice none 0 0,.slice none 0 0] 133)).heap[w.heap.size]? = some (.cells #[.slice none 0 0,.slice none 0 0,.slice none 0 0] 133 (0,0)) := World.alloc_heap_new w _
  generalize w.alloc (.cells #[.slice none 0 0,.slice none 0 0,.slice none 0 0] 133) = w1 at *
  obtain ⟨R,hR⟩ : ∃ g,g = w.heap.size := ⟨_,rfl⟩
  rw [← hR] at fn
  replace fn := And.intro (show z.heap.size ≤ R by rw [hR]; exact hz.size) fn
  rw [← hR]
  have hS1 : AnyW w1 := trivial
  have g4 : z.heap.size ≤ GA ∧ w1.heap[GA]? = some (.cells ((List.replicate (n + 1) su0).flatMap suL).toArray 182 (0,0)) := ⟨f4.1,(hb1.block _ (Array.getElem?_eq_some_iff.1 f4.2).1).trans f4.2⟩
  have g8 : z.heap.size ≤ GB ∧ w1.heap[GB]? = some (.cells ((List.replicate (n + 1) su0).flatMap suL).toArray 182 (0,0)) := ⟨f8.1,(hb1.block _ (Array.getElem?_eq_some_iff.1 f8.2).1).trans f8.2⟩
  refine hK _ _ hS1 (cast_h (fr12 (.slice av n cap) v1 v2 (.pointer (some ⟨R,0,none⟩)) v4 v5 v6 (.slice av n cap) (.slice av n cap) (.int .i64 (n : Nat)) (.int .i64 ((n : Nat) + 1)) (.slice (some ⟨GA,0,none⟩) (n + 1) (n + 1)) (.slice av n cap) (.int .i64 (n : Nat)) (.int .i64 ((n : Nat) + 1)) (.slice (some ⟨GB,0,none⟩) (n + 1) (n + 1)) (.agg (ruA (.slice av n cap) (.slice (some ⟨GA,0,none⟩) (n + 1) (n + 1)) (.slice (some ⟨GB,0,none⟩) (n + 1) (n + 1)))) xh xi xj xk xl xm xn xo xp xq xr xt xu xv xw xx xy xz xA xB xC xD xE xF xG xH xI xJ xK xL xM xN xO xP xQ xR xS xT xU xV xW xX xY xZ ya yb yc yd ye yf yg yh yi yj yk yl ym yn yo yp) (by kernel_rfl) ?_)
  clear hK K
  exact me_r1_4_8_10_ Q hQ ps av n cap z w1 (hz.trans (hb1.mono hz.size)) hS1 hn hn2 GA GB R g4 g8 fn p4_8 (by have := (Array.getElem?_eq_some_iff.1 f4.2).1; omega) (by have := (Array.getElem?_eq_some_iff.1 f8.2).1; omega) hq

theorem me_r1_4_10_ (Q : Exit → Act → World → Prop) (hQ : ∀ c x (n : Nat) v w,Q (.panic c) (x.put (some n) v) w → Q (.panic c) x w) (ps : String) {v1 v2 v4 v5 v6 xf xg xh xi xj xk xl xm xn xo xp xq xr xt xu xv xw xx xy xz xA xB xC xD xE xF xG xH xI xJ xK xL xM xN xO xP xQ xR xS xT xU xV xW xX xY xZ ya yb yc yd ye yf yg yh yi yj yk yl ym yn yo yp : Value} (av : Option Addr) (n cap : Nat) (z w : World) (hz : Below z.heap.size z w) (_hS : AnyW w) (hn : n ≤ 8192) (hn2 : (n : Int) ≤ 8192) (GA : Nat) (R : Nat) (f4 : z.heap.size ≤ GA ∧ w.heap[GA]? = some (.cells ((List.replicate (n + 1) su0).flatMap suL).toArray 182 (0,0))) (f10 : z.heap.size ≤ R ∧ w.heap[R]? = some (.cells #[.slice none 0 0,.slice none 0 0,.slice none 0 0] 133 (0,0))) (p4_10 : GA ≠ R)
  (hq : Hid (∀ (GA : Nat) (GB : Nat) (R : Nat) w',Below z.heap.size z w' → AnyW w' → z.heap.size ≤ GA ∧ w'.heap[GA]? = some (.cells ((List.replicate (n + 1) su0).flatMap suL).toArray 182 (0,0)) → z.heap.size ≤ GB ∧ w'.heap[GB]? = some (.cells ((List.replicate (n + 1) su0).flatMap suL).toArray 182 (0,0)) → z.heap.size ≤ R ∧ w'.heap[R]? = some (.cells #[.slice none 0 0,.slice none 0 0,.slice none 0 0] 133 (0,0)) → GA ≠ GB → GA ≠ R → GB ≠ R → Q .normal (fr12 (.slice av n cap) v1 v2 (.pointer (some ⟨R,0,none⟩)) v4 v5 v6 (.slice av n cap) (.slice av n cap) (.int .i64 (n : Nat)) (.int .i64 ((n : Nat) + 1)) (.slice (some ⟨GA,0,none⟩) (n + 1) (n + 1)) (.slice av n cap) (.int .i64 (n : Nat)) (.int .i64 ((n : Nat) + 1)) (.slice (some ⟨GB,0,none⟩) (n + 1) (n + 1)) (.agg (ruA (.slice av n cap) (.slice (some ⟨GA,0,none⟩) (n + 1) (n + 1)) (.slice (some ⟨GB,0,none⟩) (n + 1) (n + 1)))) xh xi xj xk xl xm xn xo xp xq xr xt xu xv xw xx xy xz xA xB xC xD xE xF xG xH xI xJ xK xL xM xN xO xP xQ xR xS xT xU xV xW xX xY xZ ya yb yc yd ye yf yg yh yi yj yk yl ym yn yo yp) (w'.setRow R (ruA (.slice av n cap) (.slice (some ⟨GA,0,none⟩) (n + 1) (n + 1)) (.slice (some ⟨GB,0,none⟩) (n + 1) (n + 1)))))) :
  wpAnyH Tryz.prog .any (ops12_1 ps) Q (AnyW) 3 #[true,true,true,true,true,true,true,true,false,false,true,false] (fr12 (.slice av n cap) v1 v2 (.pointer (some ⟨R,0,none⟩)) v4 v5 v6 (.slice av n cap) (.slice av n cap) (.int .i64 (n : Nat)) (.int .i64 ((n : Nat) + 1)) (.slice (some ⟨GA,0,none⟩) (n + 1) (n + 1)) (.slice av n cap) (.int .i64 (n : Nat)) (.int .i64 ((n : Nat) + 1)) xf xg xh xi xj xk xl xm xn xo xp xq xr xt xu xv xw xx xy xz xA xB xC xD xE xF xG xH xI xJ xK xL xM xN xO xP xQ xR xS xT xU xV xW xX xY xZ ya yb yc yd ye yf yg yh yi yj yk yl ym yn yo yp) w := by
 refine all_h (fuel := 2) [8] (by kernel_rfl) (by simp) ?_
 intro i hi
 simp only [List.mem_cons,List.not_mem_nil,or_false] at hi
 subst hi
 ·refine ⟨ops12_1_8 ps,by kernel_rfl,by kernel_rfl,fun K hK => ?_⟩
  have hr := make48 (n := n + 1) (by omega) w
  rw [show ((n + 1 : Nat) : Int) = (n : Int) + 1 by omega] at hr
  have hb1 : Below w.heap.size w (w.alloc (.cells ((List.replicate (n + 1) su0).flatMap suL).toArray 182)) := (Below.refl _ _).alloc (Nat.le_refl _) _
  have fn : (w.alloc (.cells ((List.replicate (n + 1) su0).flatMap suL).toArray 182)).heap[w.heap.size]? = some (.cells ((List.replicate (n + 1) su0).flatMap suL).toArray 182 (0,0)) := World.alloc_heap_new w _
  unfold fr12 ops12_1_8
  generalize w.alloc (.cells ((List.replicate (n + 1) su0).flatMap suL).toArray 182) = w1 at *
  go_simp
  obtain ⟨GB,hGB⟩ : ∃ g,g = w.heap.size := ⟨_,rfl⟩
  rw [← hGB] at fn
  replace fn := And.intro (show z.heap.size ≤ GB by rw [hGB]; exact hz.size) fn
  rw [← hGB]
  have hS1 : AnyW w1 := trivial
  have g4 : z.heap.size ≤ GA ∧ w1.heap[GA]? = some (.cells ((List.replicate (n + 1) su0).flatMap suL).toArray 182 (0,0)) := ⟨f4.1,(hb1.block _ (Array.getElem?_eq_some_iff.1 f4.2).1).trans f4.2⟩
  have g10 : z.heap.size ≤ R ∧ w1.heap[R]? = some (.cells #[.slice none 0 0,.slice none 0 0,.slice none 0 0] 133 (0,0)) := ⟨f10.1,(hb1.block _ (Array.getElem?_eq_some_iff.1 f10.2).1).trans f10.2⟩
  refine hK _ _ hS1 (cast_h (fr12 (.slice av n cap) v1 v2 (.pointer (some ⟨R,0,none⟩)) v4 v5 v6 (.slice av n cap) (.slice av n cap) (.int .i64 (n : Nat)) (.int .i64 ((n : Nat) + 1)) (.slice (some ⟨GA,0,none⟩) (n + 1) (n + 1)) (.slice av n cap) (.int .i64 (n : Nat)) (.int .i64 ((n : Nat) + 1)) (.slice (some ⟨GB,0,none⟩) (n + 1) (n + 1)) xg xh xi xj xk xl xm xn xo xp xq xr xt xu xv xw xx xy xz xA xB xC xD xE xF xG xH xI xJ xK xL xM xN xO xP xQ xR xS xT xU xV xW xX xY xZ ya yb yc yd ye yf yg yh yi yj yk yl ym yn yo yp) (by kernel_rfl) ?_)
  clear hK K
  refine take_r 9 ⟨some 16,.build 133 #[(0,.tmp 7),(1,.tmp 11),(2,.tmp 15)],133,ps,#[⟨0,.data⟩,⟨4,.data⟩,⟨8,.data⟩],none⟩ (.agg (ruA (.slice av n cap) (.slice (some ⟨GA,0,none⟩) (n + 1) (n + 1)) (.slice (some ⟨GB,0,none⟩) (n + 1) (n + 1)))) hQ (fun w hS => by unfold fr12; go_simp; try rfl) hS1 ?_
  exact me_r1_4_8_10_ Q hQ ps av n cap z w1 (hz.trans (hb1.mono hz.size)) hS1 hn hn2 GA GB R g4 fn g10 (by have := (Array.getElem?_eq_some_iff.1 f4.2).1; omega) p4_10 (by have := (Array.getElem?_eq_some_iff.1 f10.2).1; omega) hq

theorem me_r1_4_ (Q : Exit → Act → World → Prop) (hQ : ∀ c x (n : Nat) v w,Q (.panic c) (x.put (some n) v) w → Q (.panic c) x w) (ps : String) {v1 v2 v3 v4 v5 v6 xf xg xh xi xj xk xl xm xn xo xp xq xr xt xu xv xw xx xy xz xA xB xC xD xE xF xG xH xI xJ xK xL xM xN xO xP xQ xR xS xT xU xV xW xX xY xZ ya yb yc yd ye yf yg yh yi yj yk yl ym yn yo yp : Value} (av : Option Addr) (n cap : Nat) (z w : World) (hz : Below z.heap.size z w) (_hS : AnyW w) (hn : n ≤ 8192) (hn2 : (n : Int) ≤ 8192) (GA : Nat) (f4 : z.heap.size ≤ GA ∧ w.heap[GA]? = some (.cells ((List.replicate (n + 1) su0).flatMap suL).toArray 182 (0,0))) 
  (hq : Hid (∀ (GA : Nat) (GB : Nat) (R : Nat) w',Below z.heap.size z w' → AnyW w' → z.heap.size ≤ GA ∧ w'.heap[GA]? = some (.cells ((List.replicate (n + 1) su0).flatMap suL).toArray 182 (0,0)) → z.heap.size ≤ GB ∧ w'.heap[GB]? = some (.cells ((List.replicate (n + 1) su0).flatMap suL).toArray 182 (0,0)) → z.heap.size ≤ R ∧ w'.heap[R]? = some (.cells #[.slice none 0 0,.slice none 0 0,.slice none 0 0] 133 (0,0)) → GA ≠ GB → GA ≠ R → GB ≠ R → Q .normal (fr12 (.slice av n cap) v1 v2 (.pointer (some ⟨R,0,none⟩)) v4 v5 v6 (.slice av n cap) (.slice av n cap) (.int .i64 (n : Nat)) (.int .i64 ((n : Nat) + 1)) (.slice (some ⟨GA,0,none⟩) (n + 1) (n + 1)) (.slice av n cap) (.int .i64 (n : Nat)) (.int .i64 ((n : Nat) + 1)) (.slice (some ⟨GB,0,none⟩) (n + 1) (n + 1)) (.agg (ruA (.slice av n cap) (.slice (some ⟨GA,0,none⟩) (n + 1) (n + 1)) (.slice (some ⟨GB,0,none⟩) (n + 1) (n + 1)))) xh xi xj xk xl xm xn xo xp xq xr xt xu xv xw xx xy xz xA xB xC xD xE xF xG xH xI xJ xK xL xM xN xO xP xQ xR xS xT xU xV xW xX xY xZ ya yb yc yd ye yf yg yh yi yj yk yl ym yn yo yp) (w'.setRow R (ruA (.slice av n cap) (.slice (some ⟨GA,0,none⟩) (n + 1) (n + 1)) (.slice (some ⟨GB,0,none⟩) (n + 1) (n + 1)))))) :
  wpAnyH Tryz.prog .any (ops12_1 ps) Q (AnyW) 4 #[true,true,true,true,true,true,true,true,false,false,false,false] (fr12 (.slice av n cap) v1 v2 v3 v4 v5 v6 (.slice av n cap) (.slice av n cap) (.int .i64 (n : Nat)) (.int .i64 ((n : Nat) + 1)) (.slice (some ⟨GA,0,none⟩) (n + 1) (n + 1)) (.slice av n cap) (.int .i64 (n : Nat)) (.int .i64 ((n : Nat) + 1)) xf xg xh xi xj xk xl xm xn xo xp xq xr xt xu xv xw xx xy xz xA xB xC xD xE xF xG xH xI xJ xK xL xM xN xO xP xQ xR xS xT xU xV xW xX xY xZ ya yb yc yd ye yf yg yh yi yj yk yl ym yn yo yp) w := by
 refine all_h (fuel := 3) [8,10] (by kernel_rfl) (by simp) ?_
 intro i hi
 simp only [List.mem_cons,List.not_mem_nil,or_false] at hi
 rcases hi with rfl | rfl
 ·refine ⟨ops12_1_8 ps,by kernel_rfl,by kernel_rfl,fun K hK => ?_⟩
  have hr := make48 (n := n + 1) (by omega) w
  rw [show ((n + 1 : Nat) : Int) = (n : Int) + 1 by omega] at hr
  have hb1 : Below w.heap.size w (w.alloc (.cells ((List.replicate (n + 1) su0).flatMap suL).toArray 182)) := (Below.refl _ _).alloc (Nat.le_refl _) _
  have fn : (w.alloc (.cells ((List.replicate (n + 1) su0).flatMap suL).toArray 182)).heap[w.heap.size]? = some (.cells ((List.replicate (n + 1) su0).flatMap suL).toArray 182 (0,0)) := World.alloc_heap_new w _
  unfold fr12 ops12_1_8
  generalize w.alloc (.cells ((List.replicate (n + 1) su0).flatMap suL).toArray 182) = w1 at *
  go_simp
  obtain ⟨GB,hGB⟩ : ∃ g,g = w.heap.size := ⟨_,rfl⟩
  rw [← hGB] at fn
  replace fn := And.intro (show z.heap.size ≤ GB by rw [hGB]; exact hz.size) fn
  rw [← hGB]
  have hS1 : AnyW w1 := trivial
  have g4 : z.heap.size ≤ GA ∧ w1.heap[GA]? = some (.cells ((List.replicate (n + 1) su0).flatMap suL).toArray 182 (0,0)) := ⟨f4.1,(hb1.block _ (Array.getElem?_eq_some_iff.1 f4.2).1).trans f4.2⟩
  refine hK _ _ hS1 (cast_h (fr12 (.slice av n cap) v1 v2 v3 v4 v5 v6 (.slice av n cap) (.slice av n cap) (.int .i64 (n : Nat)) (.int .i64 ((n : Nat) + 1)) (.slice (some ⟨GA,0,none⟩) (n + 1) (n + 1)) (.slice av n cap) (.int .i64 (n : Nat)) (.int .i64 ((n : Nat) + 1)) (.slice (some ⟨GB,0,none⟩) (n + 1) (n + 1)) xg xh xi xj xk xl xm xn xo xp xq xr xt xu xv xw xx xy xz xA xB xC xD xE xF xG xH xI xJ xK xL xM xN xO xP xQ xR xS xT xU xV xW xX xY xZ ya yb yc yd ye yf yg yh yi yj yk yl ym yn yo yp) (by kernel_rfl) ?_)
  clear hK K
  refine take_r 9 ⟨some 16,.build 133 #[(0,.tmp 7),(1,.tmp 11),(2,.tmp 15)],133,ps,#[⟨0,.data⟩,⟨4,.data⟩,⟨8,.data⟩],none⟩ (.agg (ruA (.slice av n cap) (.slice (some ⟨GA,0,none⟩) (n + 1) (n + 1)) (.slice (some ⟨GB,0,none⟩) (n + 1) (n + 1)))) hQ (fun w hS => by unfold fr12; go_simp; try rfl) hS1 ?_
  exact me_r1_4_8_ Q hQ ps av n cap z w1 (hz.trans (hb1.mono hz.size)) hS1 hn hn2 GA GB g4 fn (by have := (Array.getElem?_eq_some_iff.1 f4.2).1; omega) hq
 ·refine ⟨ops12_1_10 ps,by kernel_rfl,by kernel_rfl,fun K hK => ?_⟩
  unfold fr12 ops12_1_10
  go_simp
  have hb1 : Below w.heap.size w (w.alloc (.cells #[.slice none 0 0,.slice none 0 0,.slice none 0 0] 133)) := (Below.refl _ _).alloc (Nat.le_refl _) _
  have fn : (w.alloc (.cells #[.slice none 0 0,.slice none 0 0,.slice none 0 0] 133)).heap[w.heap.size]? = some (.cells #[.slice none 0 0,.slice none 0 0,.slice none 0 0] 133 (0,0)) := World.alloc_heap_new w _
  generalize w.alloc (.cells #[.slice none 0 0,.slice none 0 0,.slice none 0 0] 133) = w1 at *
  obtain ⟨R,hR⟩ : ∃ g,g = w.heap.size := ⟨_,rfl⟩
  rw [← hR] at fn
  replace fn := And.intro (show z.heap.size ≤ R by rw [hR]; exact hz.size) fn
  rw [← hR]
  have hS1 : AnyW w1 := trivial
  have g4 : z.heap.size ≤ GA ∧ w1.heap[GA]? = some (.cells ((List.replicate (n + 1) su0).flatMap suL).toArray 182 (0,0)) := ⟨f4.1,(hb1.block _ (Array.getElem?_eq_some_iff.1 f4.2).1).trans f4.2⟩
  refine hK _ _ hS1 (cast_h (fr12 (.slice av n cap) v1 v2 (.pointer (some ⟨R,0,none⟩)) v4 v5 v6 (.slice av n cap) (.slice av n cap) (.int .i64 (n : Nat)) (.int .i64 ((n : Nat) + 1)) (.slice (some ⟨GA,0,none⟩) (n + 1) (n + 1)) (.slice av n cap) (.int .i64 (n : Nat)) (.int .i64 ((n : Nat) + 1)) xf xg xh xi xj xk xl xm xn xo xp xq xr xt xu xv xw xx xy xz xA xB xC xD xE xF xG xH xI xJ xK xL xM xN xO xP xQ xR xS xT xU xV xW xX xY xZ ya yb yc yd ye yf yg yh yi yj yk yl ym yn yo yp) (by kernel_rfl) ?_)
  clear hK K
  exact me_r1_4_10_ Q hQ ps av n cap z w1 (hz.trans (hb1.mono hz.size)) hS1 hn hn2 GA R g4 fn (by have := (Array.getElem?_eq_some_iff.1 f4.2).1; omega) hq

theorem me_r1_8_10_ (Q : Exit → Act → World → Prop) (hQ : ∀ c x (n : Nat) v w,Q (.panic c) (x.put (some n) v) w → Q (.panic c) x w) (ps : String) {v1 v2 v4 v5 v6 xb xg xh xi xj xk xl xm xn xo xp xq xr xt xu xv xw xx xy xz xA xB xC xD xE xF xG xH xI xJ xK xL xM xN xO xP xQ xR xS xT xU xV xW xX xY xZ ya yb yc yd ye yf yg yh yi yj yk yl ym yn yo yp : Value} (av : Option Addr) (n cap : Nat) (z w : World) (hz : Below z.heap.size z w) (_hS : AnyW w) (hn : n ≤ 8192) (hn2 : (n : Int) ≤ 8192) (GB : Nat) (R : Nat) (f8 : z.heap.size ≤ GB ∧ w.heap[GB]? = some (.cells ((List.replicate (n + 1) su0).flatMap suL).toArray 182 (0,0))) (f10 : z.heap.size ≤ R ∧ w.heap[R]? = some (.cells #[.slice none 0 0,.slice none 0 0,.slice none 0 0] 133 (0,0))) (p8_10 : GB ≠ R)
  (hq : Hid (∀ (GA : Nat) (GB : Nat) (R : Nat) w',Below z.heap.size z w' → AnyW w' → z.heap.size ≤ GA ∧ w'.heap[GA]? = some (.cells ((List.replicate (n + 1) su0).flatMap suL).toArray 182 (0,0)) → z.heap.size ≤ GB ∧ w'.heap[GB]? = some (.cells ((List.replicate (n + 1) su0).flatMap suL).toArray 182 (0,0)) → z.heap.size ≤ R ∧ w'.heap[R]? = some (.cells #[.slice none 0 0,.slice none 0 0,.slice none 0 0] 133 (0,0)) → GA ≠ GB → GA ≠ R → GB ≠ R → Q .normal (fr12 (.slice av n cap) v1 v2 (.pointer (some ⟨R,0,none⟩)) v4 v5 v6 (.slice av n cap) (.slice av n cap) (.int .i64 (n : Nat)) (.int .i64 ((n : Nat) + 1)) (.slice (some ⟨GA,0,none⟩) (n + 1) (n + 1)) (.slice av n cap) (.int .i64 (n : Nat)) (.int .i64 ((n : Nat) + 1)) (.slice (some ⟨GB,0,none⟩) (n + 1) (n + 1)) (.agg (ruA (.slice av n cap) (.slice (some ⟨GA,0,none⟩) (n + 1) (n + 1)) (.slice (some ⟨GB,0,none⟩) (n + 1) (n + 1)))) xh xi xj xk xl xm xn xo xp xq xr xt xu xv xw xx xy xz xA xB xC xD xE xF xG xH xI xJ xK xL xM xN xO xP xQ xR xS xT xU xV xW xX xY xZ ya yb yc yd ye yf yg yh yi yj yk yl ym yn yo yp) (w'.setRow R (ruA (.slice av n cap) (.slice (some ⟨GA,0,none⟩) (n + 1) (n + 1)) (.slice (some ⟨GB,0,none⟩) (n + 1) (n + 1)))))) :
  wpAnyH Tryz.prog .any (ops12_1 ps) Q (AnyW) 3 #[true,true,true,true,false,true,true,true,true,false,true,false] (fr12 (.slice av n cap) v1 v2 (.pointer (some ⟨R,0,none⟩)) v4 v5 v6 (.slice av n cap) (.slice av n cap) (.int .i64 (n : Nat)) (.int .i64 ((n : Nat) + 1)) xb (.slice av n cap) (.int .i64 (n : Nat)) (.int .i64 ((n : Nat) + 1)) (.slice (some ⟨GB,0,none⟩) (n + 1) (n + 1)) xg xh xi xj xk xl xm xn xo xp xq xr xt xu xv xw xx xy xz xA xB xC xD xE xF xG xH xI xJ xK xL xM xN xO xP xQ xR xS xT xU xV xW xX xY xZ ya yb yc yd ye yf yg yh yi yj yk yl ym yn yo yp) w := by
 refine all_h (fuel := 2) [4] (by kernel_rfl) (by simp) ?_
 intro i hi
 simp only [List.mem_cons,List.not_mem_nil,or_false] at hi
 subst hi
 ·refine ⟨ops12_1_4 ps,by kernel_rfl,by kernel_rfl,fun K hK => ?_⟩
  have hr := make48 (n := n + 1) (by omega) w
  rw [show ((n + 1 : Nat) : Int) = (n : Int) + 1 by omega] at hr
  have hb1 : Below w.heap.size w (w.alloc (.cells ((List.replicate (n + 1) su0).flatMap suL).toArray 182)) := (Below.refl _ _).alloc (Nat.le_refl _) _
  have fn : (w.alloc (.cells ((List.replicate (n + 1) su0).flatMap suL).toArray 182)).heap[w.heap.size]? = some (.cells ((List.replicate (n + 1) su0).flatMap suL).toArray 182 (0,0)) := World.alloc_heap_new w _
  unfold fr12 ops12_1_4
  generalize w.alloc (.cells ((List.replicate (n + 1) su0).flatMap suL).toArray 182) = w1 at *
  go_simp
  obtain ⟨GA,hGA⟩ : ∃ g,g = w.heap.size := ⟨_,rfl⟩
  rw [← hGA] at fn
  replace fn := And.intro (show z.heap.size ≤ GA by rw [hGA]; exact hz.size) fn
  rw [← hGA]
  have hS1 : AnyW w1 := trivial
  have g8 : z.heap.size ≤ GB ∧ w1.heap[GB]? = some (.cells ((List.replicate (n + 1) su0).flatMap suL).toArray 182 (0,0)) := ⟨f8.1,(hb1.block _ (Array.getElem?_eq_some_iff.1 f8.2).1).trans f8.2⟩
  have g10 : z.heap.size ≤ R ∧ w1.heap[R]? = some (.cells #[.slice none 0 0,.slice none 0 0,.slice none 0 0] 133 (0,0)) := ⟨f10.1,(hb1.block _ (Array.getElem?_eq_some_iff.1 f10.2).1).trans f10.2⟩
  refine hK _ _ hS1 (cast_h (fr12 (.slice av n cap) v1 v2 (.pointer (some ⟨R,0,none⟩)) v4 v5 v6 (.slice av n cap) (.slice av n cap) (.int .i64 (n : Nat)) (.int .i64 ((n : Nat) + 1)) (.slice (some ⟨GA,0,none⟩) (n + 1) (n + 1)) (.slice av n cap) (.int .i64 (n : Nat)) (.int .i64 ((n : Nat) + 1)) (.slice (some ⟨GB,0,none⟩) (n + 1) (n + 1)) xg xh xi xj xk xl xm xn xo xp xq xr xt xu xv xw xx xy xz xA xB xC xD xE xF xG xH xI xJ xK xL xM xN xO xP xQ xR xS xT xU xV xW xX xY xZ ya yb yc yd ye yf yg yh yi yj yk yl ym yn yo yp) (by kernel_rfl) ?_)
  clear hK K
  refine take_r 9 ⟨some 16,.build 133 #[(0,.tmp 7),(1,.tmp 11),(2,.tmp 15)],133,ps,#[⟨0,.data⟩,⟨4,.data⟩,⟨8,.data⟩],none⟩ (.agg (ruA (.slice av n cap) (.slice (some ⟨GA,0,none⟩) (n + 1) (n + 1)) (.slice (some ⟨GB,0,none⟩) (n + 1) (n + 1)))) hQ (fun w hS => by unfold fr12; go_simp; try rfl) hS1 ?_
  exact me_r1_4_8_10_ Q hQ ps av n cap z w1 (hz.trans (hb1.mono hz.size)) hS1 hn hn2 GA GB R fn g8 g10 (by have := (Array.getElem?_eq_some_iff.1 f8.2).1; omega) (by have := (Array.getElem?_eq_some_iff.1 f10.2).1; omega) p8_10 hq

theorem me_r1_8_ (Q : Exit → Act → World → Prop) (hQ : ∀ c x (n : Nat) v w,Q (.panic c) (x.put (some n) v) w → Q (.panic c) x w) (ps : String) {v1 v2 v3 v4 v5 v6 xb xg xh xi xj xk xl xm xn xo xp xq xr xt xu xv xw xx xy xz xA xB xC xD xE xF xG xH xI xJ xK xL xM xN xO xP xQ xR xS xT xU xV xW xX xY xZ ya yb yc yd ye yf yg yh yi yj yk yl ym yn yo yp : Value} (av : Option Addr) (n cap : Nat) (z w : World) (hz : Below z.heap.size z w) (_hS : AnyW w) (hn : n ≤ 8192) (hn2 : (n : Int) ≤ 8192) (GB : Nat) (f8 : z.heap.size ≤ GB ∧ w.heap[GB]? = some (.cells ((List.replicate (n + 1) su0).flatMap suL).toArray 182 (0,0))) 
  (hq : Hid (∀ (GA : Nat) (GB : Nat) (R : Nat) w',Below z.heap.size z w' → AnyW w' → z.heap.size ≤ GA ∧ w'.heap[GA]? = some (.cells ((List.replicate (n + 1) su0).flatMap suL).toArray 182 (0,0)) → z.heap.size ≤ GB ∧ w'.heap[GB]? = some (.cells ((List.replicate (n + 1) su0).flatMap suL).toArray 182 (0,0)) → z.heap.size ≤ R ∧ w'.heap[R]? = some (.cells #[.slice none 0 0,.slice none 0 0,.slice none 0 0] 133 (0,0)) → GA ≠ GB → GA ≠ R → GB ≠ R → Q .normal (fr12 (.slice av n cap) v1 v2 (.pointer (some ⟨R,0,none⟩)) v4 v5 v6 (.slice av n cap) (.slice av n cap) (.int .i64 (n : Nat)) (.int .i64 ((n : Nat) + 1)) (.slice (some ⟨GA,0,none⟩) (n + 1) (n + 1)) (.slice av n cap) (.int .i64 (n : Nat)) (.int .i64 ((n : Nat) + 1)) (.slice (some ⟨GB,0,none⟩) (n + 1) (n + 1)) (.agg (ruA (.slice av n cap) (.slice (some ⟨GA,0,none⟩) (n + 1) (n + 1)) (.slice (some ⟨GB,0,none⟩) (n + 1) (n + 1)))) xh xi xj xk xl xm xn xo xp xq xr xt xu xv xw xx xy xz xA xB xC xD xE xF xG xH xI xJ xK xL xM xN xO xP xQ xR xS xT xU xV xW xX xY xZ ya yb yc yd ye yf yg yh yi yj yk yl ym yn yo yp) (w'.setRow R (ruA (.slice av n cap) (.slice (some ⟨GA,0,none⟩) (n + 1) (n + 1)) (.slice (some ⟨GB,0,none⟩) (n + 1) (n + 1)))))) :
  wpAnyH Tryz.prog .any (ops12_1 ps) Q (AnyW) 4 #[true,true,true,true,false,true,true,true,true,false,false,false] (fr12 (.slice av n cap) v1 v2 v3 v4 v5 v6 (.slice av n cap) (.slice av n cap) (.int .i64 (n : Nat)) (.int .i64 ((n : Nat) + 1)) xb (.slice av n cap) (.int .i64 (n : Nat)) (.int .i64 ((n : Nat) + 1)) (.slice (some ⟨GB,0,none⟩) (n + 1) (n + 1)) xg xh xi xj xk xl xm xn xo xp xq xr xt xu xv xw xx xy xz xA xB xC xD xE xF xG xH xI xJ xK xL xM xN xO xP xQ xR xS xT xU xV xW xX xY xZ ya yb yc yd ye yf yg yh yi yj yk yl ym yn yo yp) w := by
 refine all_h (fuel := 3) [4,10] (by kernel_rfl) (by simp) ?_
 intro i hi
 simp only [List.mem_cons,List.not_mem_nil,or_false] at hi
 rcases hi with rfl | rfl
 ·refine ⟨ops12_1_4 ps,by kernel_rfl,by kernel_rfl,fun K hK => ?_⟩
  have hr := make48 (n := n + 1) (by omega) w
  rw [show ((n + 1 : Nat) : Int) = (n : Int) + 1 by omega] at hr
  have hb1 : Below w.heap.size w (w.alloc (.cells ((List.replicate (n + 1) su0).flatMap suL).toArray 182)) := (Below.refl _ _).alloc (Nat.le_refl _) _
  have fn : (w.alloc (.cells ((List.replicate (n + 1) su0).flatMap suL).toArray 182)).heap[w.heap.size]? = some (.cells ((List.replicate (n + 1) su0).flatMap suL).toArray 182 (0,0)) := World.alloc_heap_new w _
  unfold fr12 ops12_1_4
  generalize w.alloc (.cells ((List.replicate (n + 1) su0).flatMap suL).toArray 182) = w1 at *
  go_simp
  obtain ⟨GA,hGA⟩ : ∃ g,g = w.heap.size := ⟨_,rfl⟩
  rw [← hGA] at fn
  replace fn := And.intro (show z.heap.size ≤ GA by rw [hGA]; exact hz.size) fn
  rw [← hGA]
  have hS1 : AnyW w1 := trivial
  have g8 : z.heap.size ≤ GB ∧ w1.heap[GB]? = some (.cells ((List.replicate (n + 1) su0).flatMap suL).toArray 182 (0,0)) := ⟨f8.1,(hb1.block _ (Array.getElem?_eq_some_iff.1 f8.2).1).trans f8.2⟩
  refine hK _ _ hS1 (cast_h (fr12 (.slice av n cap) v1 v2 v3 v4 v5 v6 (.slice av n cap) (.slice av n cap) (.int .i64 (n : Nat)) (.int .i64 ((n : Nat) + 1)) (.slice (some ⟨GA,0,none⟩) (n + 1) (n + 1)) (.slice av n cap) (.int .i64 (n : Nat)) (.int .i64 ((n : Nat) + 1)) (.slice (some ⟨GB,0,none⟩) (n + 1) (n + 1)) xg xh xi xj xk xl xm xn xo xp xq xr xt xu xv xw xx xy xz xA xB xC xD xE xF xG xH xI xJ xK xL xM xN xO xP xQ xR xS xT xU xV xW xX xY xZ ya yb yc yd ye yf yg yh yi yj yk yl ym yn yo yp) (by kernel_rfl) ?_)
  clear hK K
  refine take_r 9 ⟨some 16,.build 133 #[(0,.tmp 7),(1,.tmp 11),(2,.tmp 15)],133,ps,#[⟨0,.data⟩,⟨4,.data⟩,⟨8,.data⟩],none⟩ (.agg (ruA (.slice av n cap) (.slice (some ⟨GA,0,none⟩) (n + 1) (n + 1)) (.slice (some ⟨GB,0,none⟩) (n + 1) (n + 1)))) hQ (fun w hS => by unfold fr12; go_simp; try rfl) hS1 ?_
  exact me_r1_4_8_ Q hQ ps av n cap z w1 (hz.trans (hb1.mono hz.size)) hS1 hn hn2 GA GB fn g8 (by have := (Array.getElem?_eq_some_iff.1 f8.2).1; omega) hq
 ·refine ⟨ops12_1_10 ps,by kernel_rfl,by kernel_rfl,fun K hK => ?_⟩
  unfold fr12 ops12_1_10
  go_simp
  have hb1 : Below w.heap.size w (w.alloc (.cells #[.slice none 0 0,.slice none 0 0,.slice none 0 0] 133)) := (Below.refl _ _).alloc (Nat.le_refl _) _
  have fn : (w.alloc (.cells #[.slice none 0 0,.slice none 0 0,.slice none 0 0] 133)).heap[w.heap.size]? = some (.cells #[.slice none 0 0,.slice none 0 0,.slice none 0 0] 133 (0,0)) := World.alloc_heap_new w _
  generalize w.alloc (.cells #[.slice none 0 0,.slice none 0 0,.slice none 0 0] 133) = w1 at *
  obtain ⟨R,hR⟩ : ∃ g,g = w.heap.size := ⟨_,rfl⟩
  rw [← hR] at fn
  replace fn := And.intro (show z.heap.size ≤ R by rw [hR]; exact hz.size) fn
  rw [← hR]
  have hS1 : AnyW w1 := trivial
  have g8 : z.heap.size ≤ GB ∧ w1.heap[GB]? = some (.cells ((List.replicate (n + 1) su0).flatMap suL).toArray 182 (0,0)) := ⟨f8.1,(hb1.block _ (Array.getElem?_eq_some_iff.1 f8.2).1).trans f8.2⟩
  refine hK _ _ hS1 (cast_h (fr12 (.slice av n cap) v1 v2 (.pointer (some ⟨R,0,none⟩)) v4 v5 v6 (.slice av n cap) (.slice av n cap) (.int .i64 (n : Nat)) (.int .i64 ((n : Nat) + 1)) xb (.slice av n cap) (.int .i64 (n : Nat)) (.int .i64 ((n : Nat) + 1)) (.slice (some ⟨GB,0,none⟩) (n + 1) (n + 1)) xg xh xi xj xk xl xm xn xo xp xq xr xt xu xv xw xx xy xz xA xB xC xD xE xF xG xH xI xJ xK xL xM xN xO xP xQ xR xS xT xU xV xW xX xY xZ ya yb yc yd ye yf yg yh yi yj yk yl ym yn yo yp) (by kernel_rfl) ?_)
  clear hK K
  exact me_r1_8_10_ Q hQ ps av n cap z w1 (hz.trans (hb1.mono hz.size)) hS1 hn hn2 GB R g8 fn (by have := (Array.getElem?_eq_some_iff.1 f8.2).1; omega) hq

theorem me_r1_10_ (Q : Exit → Act → World → Prop) (hQ : ∀ c x (n : Nat) v w,Q (.panic c) (x.put (some n) v) w → Q (.panic c) x w) (ps : String) {v1 v2 v4 v5 v6 xb xf xg xh xi xj xk xl xm xn xo xp xq xr xt xu xv xw xx xy xz xA xB xC xD xE xF xG xH xI xJ xK xL xM xN xO xP xQ xR xS xT xU xV xW xX xY xZ ya yb yc yd ye yf yg yh yi yj yk yl ym yn yo yp : Value} (av : Option Addr) (n cap : Nat) (z w : World) (hz : Below z.heap.size z w) (_hS : AnyW w) (hn : n ≤ 8192) (hn2 : (n : Int) ≤ 8192) (R : Nat) (f10 : z.heap.size ≤ R ∧ w.heap[R]? = some (.cells #[.slice none 0 0,.slice none 0 0,.slice none 0 0] 133 (0,0))) 
  (hq : Hid (∀ (GA : Nat) (GB : Nat) (R : Nat) w',Below z.heap.size z w' → AnyW w' → z.heap.size ≤ GA ∧ w'.heap[GA]? = some (.cells ((List.replicate (n + 1) su0).flatMap suL).toArray 182 (0,0)) → z.heap.size ≤ GB ∧ w'.heap[GB]? = some (.cells ((List.replicate (n + 1) su0).flatMap suL).toArray 182 (0,0)) → z.heap.size ≤ R ∧ w'.heap[R]? = some (.cells #[.slice none 0 0,.slice none 0 0,.slice none 0 0] 133 (0,0)) → GA ≠ GB → GA ≠ R → GB ≠ R → Q .normal (fr12 (.slice av n cap) v1 v2 (.pointer (some ⟨R,0,none⟩)) v4 v5 v6 (.slice av n cap) (.slice av n cap) (.int .i64 (n : Nat)) (.int .i64 ((n : Nat) + 1)) (.slice (some ⟨GA,0,none⟩) (n + 1) (n + 1)) (.slice av n cap) (.int .i64 (n : Nat)) (.int .i64 ((n : Nat) + 1)) (.slice (some ⟨GB,0,none⟩) (n + 1) (n + 1)) (.agg (ruA (.slice av n cap) (.slice (some ⟨GA,0,none⟩) (n + 1) (n + 1)) (.slice (some ⟨GB,0,none⟩) (n + 1) (n + 1)))) xh xi xj xk xl xm xn xo xp xq xr xt xu xv xw xx xy xz xA xB xC xD xE xF xG xH xI xJ xK xL xM xN xO xP xQ xR xS xT xU xV xW xX xY xZ ya yb yc yd ye yf yg yh yi yj yk yl ym yn yo yp) (w'.setRow R (ruA (.slice av n cap) (.slice (some ⟨GA,0,none⟩) (n + 1) (n + 1)) (.slice (some ⟨GB,0,none⟩) (n + 1) (n + 1)))))) :
  wpAnyH Tryz.prog .any (ops12_1 ps) Q (AnyW) 4 #[true,true,true,true,false,true,true,true,false,false,true,false] (fr12 (.slice av n cap) v1 v2 (.pointer (some ⟨R,0,none⟩)) v4 v5 v6 (.slice av n cap) (.slice av n cap) (.int .i64 (n : Nat)) (.int .i64 ((n : Nat) + 1)) xb (.slice av n cap) (.int .i64 (n : Nat)) (.int .i64 ((n : Nat) + 1)) xf xg xh xi xj xk xl xm xn xo xp xq xr xt xu xv xw xx xy xz xA xB xC xD xE xF xG xH xI xJ xK xL xM xN xO xP xQ xR xS xT xU xV xW xX xY xZ ya yb yc yd ye yf yg yh yi yj yk yl ym yn yo yp) w := by
 refine all_h (fuel := 3) [4,8] (by kernel_rfl) (by simp) ?_
 intro i hi
 simp only [List.mem_cons,List.not_mem_nil,or_false] at hi
 rcases hi with rfl | rfl
 ·refine ⟨ops12_1_4 ps,by kernel_rfl,by kernel_rfl,fun K hK => ?_⟩
  have hr := make48 (n := n + 1) (by omega) w
  rw [show ((n + 1 : Nat) : Int) = (n : Int) + 1 by omega] at hr
  have hb1 : Below w.heap.size w (w.alloc (.cells ((List.replicate (n + 1) su0).flatMap suL).toArray 182)) := (Below.refl _ _).alloc (Nat.le_refl _) _
  have fn : (w.alloc (.cells ((List.replicate (n + 1) su0).flatMap suL).toArray 182)).heap[w.heap.size]? = some (.cells ((List.replicate (n + 1) su0).flatMap suL).toArray 182 (0,0)) := World.alloc_heap_new w _
  unfold fr12 ops12_1_4
  generalize w.alloc (.cells ((List.replicate (n + 1) su0).flatMap suL).toArray 182) = w1 at *
  go_simp
  obtain ⟨GA,hGA⟩ : ∃ g,g = w.heap.size := ⟨_,rfl⟩
  rw [← hGA] at fn
  replace fn := And.intro (show z.heap.size ≤ GA by rw [hGA]; exact hz.size) fn
  rw [← hGA]
  have hS1 : AnyW w1 := trivial
  have g10 : z.heap.size ≤ R ∧ w1.heap[R]? = some (.cells #[.slice none 0 0,.slice none 0 0,.slice none 0 0] 133 (0,0)) := ⟨f10.1,(hb1.block _ (Array.getElem?_eq_some_iff.1 f10.2).1).trans f10.2⟩
  refine hK _ _ hS1 (cast_h (fr12 (.slice av n cap) v1 v2 (.pointer (some ⟨R,0,none⟩)) v4 v5 v6 (.slice av n cap) (.slice av n cap) (.int .i64 (n : Nat)) (.int .i64 ((n : Nat) + 1)) (.slice (some ⟨GA,0,none⟩) (n + 1) (n + 1)) (.slice av n cap) (.int .i64 (n : Nat)) (.int .i64 ((n : Nat) + 1)) xf xg xh xi xj xk xl xm xn xo xp xq xr xt xu xv xw xx xy xz xA xB xC xD xE xF xG xH xI xJ xK xL xM xN xO xP xQ xR xS xT xU xV xW xX xY xZ ya yb yc yd ye yf yg yh yi yj yk yl ym yn yo yp) (by kernel_rfl) ?_)
  clear hK K
  exact me_r1_4_10_ Q hQ ps av n cap z w1 (hz.trans (hb1.mono hz.size)) hS1 hn hn2 GA R fn g10 (by have := (Array.getElem?_eq_some_iff.1 f10.2).1; omega) hq
 ·refine ⟨ops12_1_8 ps,by kernel_rfl,by kernel_rfl,fun K hK => ?_⟩
  have hr := make48 (n := n + 1) (by omega) w
  rw [show ((n + 1 : Nat) : Int) = (n : Int) + 1 by omega] at hr
  have hb1 : Below w.heap.size w (w.alloc (.cells ((List.replicate (n + 1) su0).flatMap suL).toArray 182)) := (Below.refl _ _).alloc (Nat.le_refl _) _
  have fn : (w.alloc (.cells ((List.replicate (n + 1) su0).flatMap suL).toArray 182)).heap[w.heap.size]? = some (.cells ((List.replicate (n + 1) su0).flatMap suL).toArray 182 (0,0)) := World.alloc_heap_new w _
  unfold fr12 ops12_1_8
  generalize w.alloc (.cells ((List.replicate (n + 1) su0).flatMap suL).toArray 182) = w1 at *
  go_simp
  obtain ⟨GB,hGB⟩ : ∃ g,g = w.heap.size := ⟨_,rfl⟩
  rw [← hGB] at fn
  replace fn := And.intro (show z.heap.size ≤ GB by rw [hGB]; exact hz.size) fn
  rw [← hGB]
  have hS1 : AnyW w1 := trivial
  have g10 : z.heap.size ≤ R ∧ w1.heap[R]? = some (.cells #[.slice none 0 0,.slice none 0 0,.slice none 0 0] 133 (0,0)) := ⟨f10.1,(hb1.block _ (Array.getElem?_eq_some_iff.1 f10.2).1).trans f10.2⟩
  refine hK _ _ hS1 (cast_h (fr12 (.slice av n cap) v1 v2 (.pointer (some ⟨R,0,none⟩)) v4 v5 v6 (.slice av n cap) (.slice av n cap) (.int .i64 (n : Nat)) (.int .i64 ((n : Nat) + 1)) xb (.slice av n cap) (.int .i64 (n : Nat)) (.int .i64 ((n : Nat) + 1)) (.slice (some ⟨GB,0,none⟩) (n + 1) (n + 1)) xg xh xi xj xk xl xm xn xo xp xq xr xt xu xv xw xx xy xz xA xB xC xD xE xF xG xH xI xJ xK xL xM xN xO xP xQ xR xS xT xU xV xW xX xY xZ ya yb yc yd ye yf yg yh yi yj yk yl ym yn yo yp) (by kernel_rfl) ?_)
  clear hK K
  exact me_r1_8_10_ Q hQ ps av n cap z w1 (hz.trans (hb1.mono hz.size)) hS1 hn hn2 GB R fn g10 (by have := (Array.getElem?_eq_some_iff.1 f10.2).1; omega) hq

theorem me_r1_none (Q : Exit → Act → World → Prop) (hQ : ∀ c x (n : Nat) v w,Q (.panic c) (x.put (some n) v) w → Q (.panic c) x w) (ps : String) {v1 v2 v3 v4 v5 v6 xb xf xg xh xi xj xk xl xm xn xo xp xq xr xt xu xv xw xx xy xz xA xB xC xD xE xF xG xH xI xJ xK xL xM xN xO xP xQ xR xS xT xU xV xW xX xY xZ ya yb yc yd ye yf yg yh yi yj yk yl ym yn yo yp : Value} (av : Option Addr) (n cap : Nat) (z w : World) (hz : Below z.heap.size z w) (_hS : AnyW w) (hn : n ≤ 8192) (hn2 : (n : Int) ≤ 8192)   
  (hq : Hid (∀ (GA : Nat) (GB : Nat) (R : Nat) w',Below z.heap.size z w' → AnyW w' → z.heap.size ≤ GA ∧ w'.heap[GA]? = some (.cells ((List.replicate (n + 1) su0).flatMap suL).toArray 182 (0,0)) → z.heap.size ≤ GB ∧ w'.heap[GB]? = some (.cells ((List.replicate (n + 1) su0).flatMap suL).toArray 182 (0,0)) → z.heap.size ≤ R ∧ w'.heap[R]? = some (.cells #[.slice none 0 0,.slice none 0 0,.slice none 0 0] 133 (0,0)) → GA ≠ GB → GA ≠ R → GB ≠ R → Q .normal (fr12 (.slice av n cap) v1 v2 (.pointer (some ⟨R,0,none⟩)) v4 v5 v6 (.slice av n cap) (.slice av n cap) (.int .i64 (n : Nat)) (.int .i64 ((n : Nat) + 1)) (.slice (some ⟨GA,0,none⟩) (n + 1) (n + 1)) (.slice av n cap) (.int .i64 (n : Nat)) (.int .i64 ((n : Nat) + 1)) (.slice (some ⟨GB,0,none⟩) (n + 1) (n + 1)) (.agg (ruA (.slice av n cap) (.slice (some ⟨GA,0,none⟩) (n + 1) (n + 1)) (.slice (some ⟨GB,0,none⟩) (n + 1) (n + 1)))) xh xi xj xk xl xm xn xo xp xq xr xt xu xv xw xx xy xz xA xB xC xD xE xF xG xH xI xJ xK xL xM xN xO xP xQ xR xS xT xU xV xW xX xY xZ ya yb yc yd ye yf yg yh yi yj yk yl ym yn yo yp) (w'.setRow R (ruA (.slice av n cap) (.slice (some ⟨GA,0,none⟩) (n + 1) (n + 1)) (.slice (some ⟨GB,0,none⟩) (n + 1) (n + 1)))))) :
  wpAnyH Tryz.prog .any (ops12_1 ps) Q (AnyW) 5 #[true,true,true,true,false,true,true,true,false,false,false,false] (fr12 (.slice av n cap) v1 v2 v3 v4 v5 v6 (.slice av n cap) (.slice av n cap) (.int .i64 (n : Nat)) (.int .i64 ((n : Nat) + 1)) xb (.slice av n cap) (.int .i64 (n : Nat)) (.int .i64 ((n : Nat) + 1)) xf xg xh xi xj xk xl xm xn xo xp xq xr xt xu xv xw xx xy xz xA xB xC xD xE xF xG xH xI xJ xK xL xM xN xO xP xQ xR xS xT xU xV xW xX xY xZ ya yb yc yd ye yf yg yh yi yj yk yl ym yn yo yp) w := by
 refine all_h (fuel := 4) [4,8,10] (by kernel_rfl) (by simp) ?_
 intro i hi
 simp only [List.mem_cons,List.not_mem_nil,or_false] at hi
 rcases hi with rfl | rfl | rfl
 ·refine ⟨ops12_1_4 ps,by kernel_rfl,by kernel_rfl,fun K hK => ?_⟩
  have hr := make48 (n := n + 1) (by omega) w
  rw [show ((n + 1 : Nat) : Int) = (n : Int) + 1 by omega] at hr
  have hb1 : Below w.heap.size w (w.alloc (.cells ((List.replicate (n + 1) su0).flatMap suL).toArray 182)) := (Below.refl _ _).alloc (Nat.le_refl _) _
  have fn : (w.alloc (.cells ((List.replicate (n + 1) su0).flatMap suL).toArray 182)).heap[w.heap.size]? = some (.cells ((List.replicate (n + 1) su0).flatMap suL).toArray 182 (0,0)) := World.alloc_heap_new w _
  unfold fr12 ops12_1_4
  generalize w.alloc (.cells ((List.replicate (n + 1) su0).flatMap suL).toArray 182) = w1 at *
  go_simp
  obtain ⟨GA,hGA⟩ : ∃ g,g = w.heap.size := ⟨_,rfl⟩
  rw [← hGA] at fn
  replace fn := And.intro (show z.heap.size ≤ GA by rw [hGA]; exact hz.size) fn
  rw [← hGA]
  have hS1 : AnyW w1 := trivial
  refine hK _ _ hS1 (cast_h (fr12 (.slice av n cap) v1 v2 v3 v4 v5 v6 (.slice av n cap) (.slice av n cap) (.int .i64 (n : Nat)) (.int .i64 ((n : Nat) + 1)) (.slice (some ⟨GA,0,none⟩) (n + 1) (n + 1)) (.slice av n cap) (.int .i64 (n : Nat)) (.int .i64 ((n : Nat) + 1)) xf xg xh xi xj xk xl xm xn xo xp xq xr xt xu xv xw xx xy xz xA xB xC xD xE xF xG xH xI xJ xK xL xM xN xO xP xQ xR xS xT xU xV xW xX xY xZ ya yb yc yd ye yf yg yh yi yj yk yl ym yn yo yp) (by kernel_rfl) ?_)
  clear hK K
  exact me_r1_4_ Q hQ ps av n cap z w1 (hz.trans (hb1.mono hz.size)) hS1 hn hn2 GA fn  hq
 ·refine ⟨ops12_1_8 ps,by kernel_rfl,by kernel_rfl,fun K hK => ?_⟩
  have hr := make48 (n := n + 1) (by omega) w
  rw [show ((n + 1 : Nat) : Int) = (n : Int) + 1 by omega] at hr
  have hb1 : Below w.heap.size w (w.alloc (.cells ((List.replicate (n + 1) su0).flatMap suL).toArray 182)) := (Below.refl _ _).alloc (Nat.le_refl _) _
  have fn : (w.alloc (.cells ((List.replicate (n + 1) su0).flatMap suL).toArray 182)).heap[w.heap.size]? = some (.cells ((List.replicate (n + 1) su0).flatMap suL).toArray 182 (0,0)) := World.alloc_heap_new w _
  unfold fr12 ops12_1_8
  generalize w.alloc (.cells ((List.replicate (n + 1) su0).flatMap suL).toArray 182) = w1 at *
  go_simp
  obtain ⟨GB,hGB⟩ : ∃ g,g = w.heap.size := ⟨_,rfl⟩
  rw [← hGB] at fn
  replace fn := And.intro (show z.heap.size ≤ GB by rw [hGB]; exact hz.size) fn
  rw [← hGB]
  have hS1 : AnyW w1 := trivial
  refine hK _ _ hS1 (cast_h (fr12 (.slice av n cap) v1 v2 v3 v4 v5 v6 (.slice av n cap) (.slice av n cap) (.int .i64 (n : Nat)) (.int .i64 ((n : Nat) + 1)) xb (.slice av n cap) (.int .i64 (n : Nat)) (.int .i64 ((n : Nat) + 1)) (.slice (some ⟨GB,0,none⟩) (n + 1) (n + 1)) xg xh xi xj xk xl xm xn xo xp xq xr xt xu xv xw xx xy xz xA xB xC xD xE xF xG xH xI xJ xK xL xM xN xO xP xQ xR xS xT xU xV xW xX xY xZ ya yb yc yd ye yf yg yh yi yj yk yl ym yn yo yp) (by kernel_rfl) ?_)
  clear hK K
  exact me_r1_8_ Q hQ ps av n cap z w1 (hz.trans (hb1.mono hz.size)) hS1 hn hn2 GB fn  hq
 ·refine ⟨ops12_1_10 ps,by kernel_rfl,by kernel_rfl,fun K hK => ?_⟩
  unfold fr12 ops12_1_10
  go_simp
  have hb1 : Below w.heap.size w (w.alloc (.cells #[.slice none 0 0,.slice none 0 0,.slice none 0 0] 133)) := (Below.refl _ _).alloc (Nat.le_refl _) _
  have fn : (w.alloc (.cells #[.slice none 0 0,.slice none 0 0,.slice none 0 0] 133)).heap[w.heap.size]? = some (.cells #[.slice none 0 0,.slice none 0 0,.slice none 0 0] 133 (0,0)) := World.alloc_heap_new w _
  generalize w.alloc (.cells #[.slice none 0 0,.slice none 0 0,.slice none 0 0] 133) = w1 at *
  obtain ⟨R,hR⟩ : ∃ g,g = w.heap.size := ⟨_,rfl⟩
  rw [← hR] at fn
  replace fn := And.intro (show z.heap.size ≤ R by rw [hR]; exact hz.size) fn
  rw [← hR]
  have hS1 : AnyW w1 := trivial
  refine hK _ _ hS1 (cast_h (fr12 (.slice av n cap) v1 v2 (.pointer (some ⟨R,0,none⟩)) v4 v5 v6 (.slice av n cap) (.slice av n cap) (.int .i64 (n : Nat)) (.int .i64 ((n : Nat) + 1)) xb (.slice av n cap) (.int .i64 (n : Nat)) (.int .i64 ((n : Nat) + 1)) xf xg xh xi xj xk xl xm xn xo xp xq xr xt xu xv xw xx xy xz xA xB xC xD xE xF xG xH xI xJ xK xL xM xN xO xP xQ xR xS xT xU xV xW xX xY xZ ya yb yc yd ye yf yg yh yi yj yk yl ym yn yo yp) (by kernel_rfl) ?_)
  clear hK K
  exact me_r1_10_ Q hQ ps av n cap z w1 (hz.trans (hb1.mono hz.size)) hS1 hn hn2 R fn  hq

theorem me_r1 (Q : Exit → Act → World → Prop) (hQ : ∀ c x (n : Nat) v w,Q (.panic c) (x.put (some n) v) w → Q (.panic c) x w) (id : Nat) (ps : String) {v1 v2 v3 v4 v5 v6 v7 v8 v9 xa xb xc xd xe xf xg xh xi xj xk xl xm xn xo xp xq xr xt xu xv xw xx xy xz xA xB xC xD xE xF xG xH xI xJ xK xL xM xN xO xP xQ xR xS xT xU xV xW xX xY xZ ya yb yc yd ye yf yg yh yi yj yk yl ym yn yo yp : Value} (av : Option Addr) (n cap : Nat) (z w : World) (hz : Below z.heap.size z (World.drew w)) (hS : AnyW (World.drew w)) (hn : n ≤ 8192) (hn2 : (n : Int) ≤ 8192)
  (hq : Hid (∀ (GA : Nat) (GB : Nat) (R : Nat) w',Below z.heap.size z w' → AnyW w' → z.heap.size ≤ GA ∧ w'.heap[GA]? = some (.cells ((List.replicate (n + 1) su0).flatMap suL).toArray 182 (0,0)) → z.heap.size ≤ GB ∧ w'.heap[GB]? = some (.cells ((List.replicate (n + 1) su0).flatMap suL).toArray 182 (0,0)) → z.heap.size ≤ R ∧ w'.heap[R]? = some (.cells #[.slice none 0 0,.slice none 0 0,.slice none 0 0] 133 (0,0)) → GA ≠ GB → GA ≠ R → GB ≠ R → Q .normal (fr12 (.slice av n cap) v1 v2 (.pointer (some ⟨R,0,none⟩)) v4 v5 v6 (.slice av n cap) (.slice av n cap) (.int .i64 (n : Nat)) (.int .i64 ((n : Nat) + 1)) (.slice (some ⟨GA,0,none⟩) (n + 1) (n + 1)) (.slice av n cap) (.int .i64 (n : Nat)) (.int .i64 ((n : Nat) + 1)) (.slice (some ⟨GB,0,none⟩) (n + 1) (n + 1)) (.agg (ruA (.slice av n cap) (.slice (some ⟨GA,0,none⟩) (n + 1) (n + 1)) (.slice (some ⟨GB,0,none⟩) (n + 1) (n + 1)))) xh xi xj xk xl xm xn xo xp xq xr xt xu xv xw xx xy xz xA xB xC xD xE xF xG xH xI xJ xK xL xM xN xO xP xQ xR xS xT xU xV xW xX xY xZ ya yb yc yd ye yf yg yh yi yj yk yl ym yn yo yp) (w'.setRow R (ruA (.slice av n cap) (.slice (some ⟨GA,0,none⟩) (n + 1) (n + 1)) (.slice (some ⟨GB,0,none⟩) (n + 1) (n + 1)))))) :
  (Code.region id (ops12_1 ps) true).wp Tryz.prog Q (fr12 (.slice av n cap) v1 v2 v3 v4 v5 v6 v7 v8 v9 xa xb xc xd xe xf xg xh xi xj xk xl xm xn xo xp xq xr xt xu xv xw xx xy xz xA xB xC xD xE xF xG xH xI xJ xK xL xM xN xO xP xQ xR xS xT xU xV xW xX xY xZ ya yb yc yd ye yf yg yh yi yj yk yl ym yn yo yp) w := by
 refine wp_region_held (S := AnyW) (by kernel_rfl) ?_
 change wpAnyH _ _ _ _ _ 12 _ _ (World.drew w)
 refine take_r 0 ⟨some 7,.move (.tmp 0),48,ps,#[],none⟩ (.slice av n cap) hQ (fun w _ => by kernel_rfl) hS ?_
 refine take_r 1 ⟨some 8,.move (.tmp 0),48,ps,#[],none⟩ (.slice av n cap) hQ (fun w _ => by kernel_rfl) hS ?_
 refine take_r 2 ⟨some 9,.call ⟨.builtin .len,#[.tmp 8],#[48]⟩,3,ps,#[⟨1,.data⟩],none⟩ (.int .i64 (n : Nat)) hQ (fun w hS => by unfold fr12; go_simp) hS ?_
 refine take_r 3 ⟨some 10,.binOp .add 3 (.tmp 9) (.const (.int .i64 1)) 3,3,ps,#[⟨2,.data⟩],none⟩ (.int .i64 ((n : Nat) + 1)) hQ (fun w hS => by unfold fr12; go_simp; try exact wrap_i (by omega) (by omega)) hS ?_
 refine take_r 5 ⟨some 12,.move (.tmp 0),48,ps,#[],none⟩ (.slice av n cap) hQ (fun w _ => by kernel_rfl) hS ?_
 refine take_k 6 (ops12_1_6 ps) (.int .i64 (n : Nat)) (fr12 (.slice av n cap) v1 v2 v3 v4 v5 v6 (.slice av n cap) (.slice av n cap) (.int .i64 (n : Nat)) (.int .i64 ((n : Nat) + 1)) xb (.slice av n cap) (.int .i64 (n : Nat)) xe xf xg xh xi xj xk xl xm xn xo xp xq xr xt xu xv xw xx xy xz xA xB xC xD xE xF xG xH xI xJ xK xL xM xN xO xP xQ xR xS xT xU xV xW xX xY xZ ya yb yc yd ye yf yg yh yi yj yk yl ym yn yo yp) hQ (fun w hS => by unfold fr12 ops12_1_6; go_simp) hS ?_
 refine take_r 7 ⟨some 14,.binOp .add 3 (.tmp 13) (.const (.int .i64 1)) 3,3,ps,#[⟨6,.data⟩],none⟩ (.int .i64 ((n : Nat) + 1)) hQ (fun w hS => by unfold fr12; go_simp; try exact wrap_i (by omega) (by omega)) hS ?_
 exact me_r1_none Q hQ ps av n cap z _ hz hS hn hn2 hq
end Go.Proofs.YtfiekhephkpdjaaGreatDoor
