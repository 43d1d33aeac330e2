/-
  What is proved here: the region of Masses that lays a mass down.
-/
import Derived.Test.YtaphggjakaghjaaGreatDoorG1
import Derived.Test.YtaphggjakaghjaaGreatDoorG9
namespace Go.Proofs.YtaphggjakaghjaaGreatDoor
open Go.RowKit Go.Shelf
set_option maxRecDepth 100000
set_option maxHeartbeats 2000000
def put6 (cs : Array Value) (o : Nat) (a b c d e f : Value) : Array Value := (((((cs.setIfInBounds o a).setIfInBounds (o + 1) b).setIfInBounds (o + 2) c).setIfInBounds (o + 3) d).setIfInBounds (o + 4) e).setIfInBounds (o + 5) f
theorem set6 {w : World} {R : Nat} {cs : Array Value} (h : w.heap[R]? = some (.cells cs 147 (0,0))) (o : Nat) (a b c d e f : Value) :
  ((((((w.setCell ⟨R,o,none⟩ a).setCell ⟨R,o + 1,none⟩ b).setCell ⟨R,o + 2,none⟩ c).setCell ⟨R,o + 3,none⟩ d).setCell ⟨R,o + 4,none⟩ e).setCell ⟨R,o + 5,none⟩ f).heap[R]? = some (.cells (put6 cs o a b c d e f) 147 (0,0)) ∧
  Turns (fun b => b = R) w ((((((w.setCell ⟨R,o,none⟩ a).setCell ⟨R,o + 1,none⟩ b).setCell ⟨R,o + 2,none⟩ c).setCell ⟨R,o + 3,none⟩ d).setCell ⟨R,o + 4,none⟩ e).setCell ⟨R,o + 5,none⟩ f) := by
 have h1 := heap_setCell_same w R o _ 147 a h
 have h2 := heap_setCell_same _ R (o + 1) _ 147 b h1
 have h3 := heap_setCell_same _ R (o + 2) _ 147 c h2
 have h4 := heap_setCell_same _ R (o + 3) _ 147 d h3
 have h5 := heap_setCell_same _ R (o + 4) _ 147 e h4
 have h6 := heap_setCell_same _ R (o + 5) _ 147 f h5
 refine ⟨h6,?_⟩
 have k : ∀ (W : World) (j : Nat) (v : Value),Turns (fun b => b = R) W (W.setCell ⟨R,j,none⟩ v) := fun W j v => Turns.setCell (X := fun b => b = R) W (p := ⟨R,j,none⟩) rfl v
 exact ((((((k _ _ _).trans (k _ _ _)).trans (k _ _ _)).trans (k _ _ _)).trans (k _ _ _)).trans (k _ _ _))
def ops17_14 (ps : String) : Array Oper := #[⟨some 56,.move (.tmp 8),143,ps,#[],none⟩,⟨some 57,.move (.tmp 10),3,ps,#[],none⟩,⟨some 58,.fieldAddr 181 (.tmp 11) 0,0,ps,#[],none⟩,⟨some 59,.load 3 (.tmp 58),3,ps,#[⟨2,.data⟩],none⟩,⟨some 60,.fieldAddr 181 (.tmp 11) 1,0,ps,#[],none⟩,⟨some 61,.load 3 (.tmp 60),3,ps,#[⟨4,.data⟩],none⟩,⟨some 62,.fieldAddr 181 (.tmp 11) 2,0,ps,#[],none⟩,⟨some 63,.load 3 (.tmp 62),3,ps,#[⟨6,.data⟩],none⟩,⟨some 64,.fieldAddr 214 (.tmp 12) 2,0,ps,#[],none⟩,⟨some 65,.fieldAddr 128 (.tmp 64) 0,0,ps,#[⟨8,.data⟩],none⟩,⟨some 66,.load 3 (.tmp 65),3,ps,#[⟨9,.data⟩],none⟩,⟨some 67,.load 214 (.tmp 12),214,ps,#[],none⟩,⟨some 68,.move (.tmp 13),9,ps,#[],none⟩,⟨some 69,.call ⟨.value (.func 135),#[.tmp 67,.tmp 68],#[214,9]⟩,3,ps,#[⟨11,.data⟩,⟨12,.data⟩],none⟩,⟨some 70,.load 214 (.tmp 9),214,ps,#[],none⟩,⟨some 71,.load 214 (.tmp 12),214,ps,#[],none⟩,⟨some 72,.call ⟨.value (.func 136),#[.tmp 70,.tmp 71],#[214,214]⟩,3,ps,#[⟨14,.data⟩,⟨15,.data⟩,⟨13,.chain⟩],none⟩,⟨some 73,.build 147 #[(0,.tmp 59),(1,.tmp 61),(2,.tmp 63),(3,.tmp 66),(4,.tmp 69),(5,.tmp 72)],147,ps,#[⟨3,.data⟩,⟨5,.data⟩,⟨7,.data⟩,⟨10,.data⟩,⟨13,.data⟩,⟨16,.data⟩],none⟩,⟨some 74,.indexAddr 143 (.tmp 56) (.tmp 57),0,ps,#[⟨0,.data⟩,⟨1,.data⟩,⟨0,.phase⟩,⟨1,.phase⟩,⟨2,.phase⟩,⟨3,.phase⟩,⟨4,.phase⟩,⟨5,.phase⟩,⟨6,.phase⟩,⟨7,.phase⟩,⟨8,.phase⟩,⟨9,.phase⟩,⟨10,.phase⟩,⟨11,.phase⟩,⟨12,.phase⟩,⟨13,.phase⟩,⟨14,.phase⟩,⟨15,.phase⟩,⟨16,.phase⟩,⟨17,.phase⟩],none⟩,⟨none,.store 147 (.tmp 74) (.tmp 73),0,ps,#[⟨18,.data⟩,⟨17,.data⟩,⟨16,.chain⟩,⟨0,.phase⟩,⟨1,.phase⟩,⟨2,.phase⟩,⟨3,.phase⟩,⟨4,.phase⟩,⟨5,.phase⟩,⟨6,.phase⟩,⟨7,.phase⟩,⟨8,.phase⟩,⟨9,.phase⟩,⟨10,.phase⟩,⟨11,.phase⟩,⟨12,.phase⟩,⟨13,.phase⟩,⟨14,.phase⟩,⟨15,.phase⟩,⟨16,.phase⟩,⟨17,.phase⟩],none⟩]

theorem mass_r14 (Q : Exit → Act → World → Prop) (hQ : ∀ c x (n : Nat) v w,Q (.panic c) (x.put (some n) v) w → Q (.panic c) x w) (id : Nat) (ps : String) {v0 v1 v2 v3 v4 v5 v6 v7 xa xb xc xd xe xf xg xh xi xj xk xl xm xn xo xp xq xr xt xu xv xw xx xy xz xA xB xC xD xE xF xG xH xI xJ xK xL xM xN xO xP xQ xR xS xT xU xV xW xX xY xZ ya yb yc yd ye yf yg yh yi yj yk yl ym : Value}
  (T A C Nn n k : Nat) (x y kd : Int) (f gg : Fc) (mk : ByteArray) (cs : Array Value) (hf : Fok f) (hmk : mk.size ≤ 4096) (hkn : (k : Int) < n) (hcs : cs.size = n * 6) (hCT : C ≠ T) (hNT : Nn ≠ T) (hAT : A ≠ T) (w0 : World) (hC : CB w0 C x y kd) (hF : FB w0 Nn f) (hG : FB w0 A gg) (hT : w0.heap[T]? = some (.cells cs 147 (0,0)))
  (hq : ∀ w',w'.heap[T]? = some (.cells (put6 cs (k * 6) (.int .i64 x) (.int .i64 y) (.int .i64 kd) (.int .i64 f.s) (.int .i64 (wdI f mk)) (.int .i64 (meetI gg f))) 147 (0,0)) → Turns (fun b => b = T) w0 w' → Q .normal (fr17 v0 v1 v2 v3 v4 v5 v6 v7 (.slice (some ⟨T,0,none⟩) n n) (.pointer (some ⟨A,0,none⟩)) (.int .i64 (k : Nat)) (.pointer (some ⟨C,0,none⟩)) (.pointer (some ⟨Nn,0,none⟩)) (.string mk) xa xb xc xd xe xf xg xh xi xj xk xl xm xn xo xp xq xr xt xu xv xw xx xy xz xA xB xC xD xE xF xG xH xI xJ xK xL xM xN xO xP xQ (.slice (some ⟨T,0,none⟩) n n) (.int .i64 (k : Nat)) (.pointer (some ⟨C,0,none⟩)) (.int .i64 x) (.pointer (some ⟨C,1,none⟩)) (.int .i64 y) (.pointer (some ⟨C,2,none⟩)) (.int .i64 kd) (.pointer (some ⟨Nn,2,none⟩)) (.pointer (some ⟨Nn,2,none⟩)) (.int .i64 f.s) (.agg (fcC f)) (.string mk) (.int .i64 (wdI f mk)) (.agg (fcC gg)) (.agg (fcC f)) (.int .i64 (meetI gg f)) (.agg #[.int .i64 x,.int .i64 y,.int .i64 kd,.int .i64 f.s,.int .i64 (wdI f mk),.int .i64 (meetI gg f)]) (.pointer (some ⟨T,k * 6,none⟩)) yk yl ym) w') :
  (Code.region id (ops17_14 ps) true).wp Tryz.prog Q (fr17 v0 v1 v2 v3 v4 v5 v6 v7 (.slice (some ⟨T,0,none⟩) n n) (.pointer (some ⟨A,0,none⟩)) (.int .i64 (k : Nat)) (.pointer (some ⟨C,0,none⟩)) (.pointer (some ⟨Nn,0,none⟩)) (.string mk) xa xb xc xd xe xf xg xh xi xj xk xl xm xn xo xp xq xr xt xu xv xw xx xy xz xA xB xC xD xE xF xG xH xI xJ xK xL xM xN xO xP xQ xR xS xT xU xV xW xX xY xZ ya yb yc yd ye yf yg yh yi yj yk yl ym) w0 := by
 refine wp_region_held (S := fun w => CB w C x y kd ∧ FB w Nn f ∧ FB w A gg) (by kernel_rfl) ?_
 change wpAnyH _ _ _ _ _ 20 _ _ (World.drew w0)
 have C0 : CB w0.drew C x y kd ∧ FB w0.drew Nn f ∧ FB w0.drew A gg := ⟨hC.below (below_drew w0) hC.lt,hF.below (below_drew w0) hF.lt,hG.below (below_drew w0) hG.lt⟩
 have hTl : T < w0.heap.size := (Array.getElem?_eq_some_iff.1 hT).1
 have hk6 : k * 6 + 5 < cs.size := by omega
 refine pures_h (fuel := 18) (by kernel_rfl) hQ C0 [0,1] (fr17 v0 v1 v2 v3 v4 v5 v6 v7 (.slice (some ⟨T,0,none⟩) n n) (.pointer (some ⟨A,0,none⟩)) (.int .i64 (k : Nat)) (.pointer (some ⟨C,0,none⟩)) (.pointer (some ⟨Nn,0,none⟩)) (.string mk) xa xb xc xd xe xf xg xh xi xj xk xl xm xn xo xp xq xr xt xu xv xw xx xy xz xA xB xC xD xE xF xG xH xI xJ xK xL xM xN xO xP xQ (.slice (some ⟨T,0,none⟩) n n) (.int .i64 (k : Nat)) xT xU xV xW xX xY xZ ya yb yc yd ye yf yg yh yi yj yk yl ym) (by kernel_rfl) (by kernel_rfl) ?_
 refine take_r 2 ⟨some 58,.fieldAddr 181 (.tmp 11) 0,0,ps,#[],none⟩ (.pointer (some ⟨C,0,none⟩)) hQ (fun w hS => by unfold fr17; go_simp) C0 ?_
 refine take_r 3 ⟨some 59,.load 3 (.tmp 58),3,ps,#[⟨2,.data⟩],none⟩ (.int .i64 x) hQ (fun w hS => by have e := hS.1.c0; unfold fr17; go_simp) C0 ?_
 refine take_r 4 ⟨some 60,.fieldAddr 181 (.tmp 11) 1,0,ps,#[],none⟩ (.pointer (some ⟨C,1,none⟩)) hQ (fun w hS => by unfold fr17; go_simp) C0 ?_
 refine take_r 5 ⟨some 61,.load 3 (.tmp 60),3,ps,#[⟨4,.data⟩],none⟩ (.int .i64 y) hQ (fun w hS => by have e := hS.1.c1; unfold fr17; go_simp) C0 ?_
 refine take_r 6 ⟨some 62,.fieldAddr 181 (.tmp 11) 2,0,ps,#[],none⟩ (.pointer (some ⟨C,2,none⟩)) hQ (fun w hS => by unfold fr17; go_simp) C0 ?_
 refine take_k 7 ⟨some 63,.load 3 (.tmp 62),3,ps,#[⟨6,.data⟩],none⟩ (.int .i64 kd) (fr17 v0 v1 v2 v3 v4 v5 v6 v7 (.slice (some ⟨T,0,none⟩) n n) (.pointer (some ⟨A,0,none⟩)) (.int .i64 (k : Nat)) (.pointer (some ⟨C,0,none⟩)) (.pointer (some ⟨Nn,0,none⟩)) (.string mk) xa xb xc xd xe xf xg xh xi xj xk xl xm xn xo xp xq xr xt xu xv xw xx xy xz xA xB xC xD xE xF xG xH xI xJ xK xL xM xN xO xP xQ (.slice (some ⟨T,0,none⟩) n n) (.int .i64 (k : Nat)) (.pointer (some ⟨C,0,none⟩)) (.int .i64 x) (.pointer (some ⟨C,1,none⟩)) (.int .i64 y) (.pointer (some ⟨C,2,none⟩)) (.int .i64 kd) xZ ya yb yc yd ye yf yg yh yi yj yk yl ym) hQ (fun w hS => by have e := hS.1.c2; unfold fr17; go_simp) C0 ?_
 refine take_r 8 ⟨some 64,.fieldAddr 214 (.tmp 12) 2,0,ps,#[],none⟩ (.pointer (some ⟨Nn,2,none⟩)) hQ (fun w hS => by unfold fr17; go_simp) C0 ?_
 refine take_r 9 ⟨some 65,.fieldAddr 128 (.tmp 64) 0,0,ps,#[⟨8,.data⟩],none⟩ (.pointer (some ⟨Nn,2,none⟩)) hQ (fun w hS => by unfold fr17; go_simp) C0 ?_
 refine take_r 10 ⟨some 66,.load 3 (.tmp 65),3,ps,#[⟨9,.data⟩],none⟩ (.int .i64 f.s) hQ (fun w hS => by have e := hS.2.1.c2; unfold fr17; go_simp) C0 ?_
 refine take_r 11 ⟨some 67,.load 214 (.tmp 12),214,ps,#[],none⟩ (.agg (fcC f)) hQ (fun w hS => load_fc (x := (Operand.tmp 12)) hS.2.1 (by kernel_rfl) (by kernel_rfl)) C0 ?_
 refine take_r 12 ⟨some 68,.move (.tmp 13),9,ps,#[],none⟩ (.string mk) hQ (fun w _ => by kernel_rfl) C0 ?_
 refine take_k 14 ⟨some 70,.load 214 (.tmp 9),214,ps,#[],none⟩ (.agg (fcC gg)) (fr17 v0 v1 v2 v3 v4 v5 v6 v7 (.slice (some ⟨T,0,none⟩) n n) (.pointer (some ⟨A,0,none⟩)) (.int .i64 (k : Nat)) (.pointer (some ⟨C,0,none⟩)) (.pointer (some ⟨Nn,0,none⟩)) (.string mk) xa xb xc xd xe xf xg xh xi xj xk xl xm xn xo xp xq xr xt xu xv xw xx xy xz xA xB xC xD xE xF xG xH xI xJ xK xL xM xN xO xP xQ (.slice (some ⟨T,0,none⟩) n n) (.int .i64 (k : Nat)) (.pointer (some ⟨C,0,none⟩)) (.int .i64 x) (.pointer (some ⟨C,1,none⟩)) (.int .i64 y) (.pointer (some ⟨C,2,none⟩)) (.int .i64 kd) (.pointer (some ⟨Nn,2,none⟩)) (.pointer (some ⟨Nn,2,none⟩)) (.int .i64 f.s) (.agg (fcC f)) (.string mk) ye (.agg (fcC gg)) yg yh yi yj yk yl ym) hQ (fun w hS => load_fc (x := (Operand.tmp 9)) hS.2.2 (by kernel_rfl) (by kernel_rfl)) C0 ?_
 refine take_r 15 ⟨some 71,.load 214 (.tmp 12),214,ps,#[],none⟩ (.agg (fcC f)) hQ (fun w hS => load_fc (x := (Operand.tmp 12)) hS.2.1 (by kernel_rfl) (by kernel_rfl)) C0 ?_
 refine want_k 13 ⟨some 69,.call ⟨.value (.func 135),#[.tmp 67,.tmp 68],#[214,9]⟩,3,ps,#[⟨11,.data⟩,⟨12,.data⟩],none⟩ fun K hK => ?_
 unfold fr17
 go_simp
 refine (wide_any f hf mk hmk _).mono ?_
 rintro e w1 ⟨rfl,B1⟩
 have C1 : CB w1 C x y kd ∧ FB w1 Nn f ∧ FB w1 A gg := ⟨C0.1.below B1 C0.1.lt,C0.2.1.below B1 C0.2.1.lt,C0.2.2.below B1 C0.2.2.lt⟩
 refine hK _ _ C1 (cast_h (fr17 v0 v1 v2 v3 v4 v5 v6 v7 (.slice (some ⟨T,0,none⟩) n n) (.pointer (some ⟨A,0,none⟩)) (.int .i64 (k : Nat)) (.pointer (some ⟨C,0,none⟩)) (.pointer (some ⟨Nn,0,none⟩)) (.string mk) xa xb xc xd xe xf xg xh xi xj xk xl xm xn xo xp xq xr xt xu xv xw xx xy xz xA xB xC xD xE xF xG xH xI xJ xK xL xM xN xO xP xQ (.slice (some ⟨T,0,none⟩) n n) (.int .i64 (k : Nat)) (.pointer (some ⟨C,0,none⟩)) (.int .i64 x) (.pointer (some ⟨C,1,none⟩)) (.int .i64 y) (.pointer (some ⟨C,2,none⟩)) (.int .i64 kd) (.pointer (some ⟨Nn,2,none⟩)) (.pointer (some ⟨Nn,2,none⟩)) (.int .i64 f.s) (.agg (fcC f)) (.string mk) (.int .i64 (wdI f mk)) (.agg (fcC gg)) (.agg (fcC f)) yh yi yj yk yl ym) (by kernel_rfl) ?_)
 clear hK K
 refine want_k 16 ⟨some 72,.call ⟨.value (.func 136),#[.tmp 70,.tmp 71],#[214,214]⟩,3,ps,#[⟨14,.data⟩,⟨15,.data⟩,⟨13,.chain⟩],none⟩ fun K hK => ?_
 unfold fr17
 go_simp
 refine (meet_any gg f hf _).mono ?_
 rintro e w2 ⟨rfl,B2⟩
 have C2 : CB w2 C x y kd ∧ FB w2 Nn f ∧ FB w2 A gg := ⟨C1.1.below B2 C1.1.lt,C1.2.1.below B2 C1.2.1.lt,C1.2.2.below B2 C1.2.2.lt⟩
 have D2 : Below w0.heap.size w0 w2 := ((below_drew w0).trans B1).trans (B2.mono (Nat.le_trans (below_drew w0).size B1.size))
 have hT2 : w2.heap[T]? = some (.cells cs 147 (0,0)) := (D2.block T hTl).trans hT
 refine hK _ _ C2 (cast_h (fr17 v0 v1 v2 v3 v4 v5 v6 v7 (.slice (some ⟨T,0,none⟩) n n) (.pointer (some ⟨A,0,none⟩)) (.int .i64 (k : Nat)) (.pointer (some ⟨C,0,none⟩)) (.pointer (some ⟨Nn,0,none⟩)) (.string mk) xa xb xc xd xe xf xg xh xi xj xk xl xm xn xo xp xq xr xt xu xv xw xx xy xz xA xB xC xD xE xF xG xH xI xJ xK xL xM xN xO xP xQ (.slice (some ⟨T,0,none⟩) n n) (.int .i64 (k : Nat)) (.pointer (some ⟨C,0,none⟩)) (.int .i64 x) (.pointer (some ⟨C,1,none⟩)) (.int .i64 y) (.pointer (some ⟨C,2,none⟩)) (.int .i64 kd) (.pointer (some ⟨Nn,2,none⟩)) (.pointer (some ⟨Nn,2,none⟩)) (.int .i64 f.s) (.agg (fcC f)) (.string mk) (.int .i64 (wdI f mk)) (.agg (fcC gg)) (.agg (fcC f)) (.int .i64 (meetI gg f)) yi yj yk yl ym) (by kernel_rfl) ?_)
 clear hK K
 refine take_r 17 ⟨some 73,.build 147 #[(0,.tmp 59),(1,.tmp 61),(2,.tmp 63),(3,.tmp 66),(4,.tmp 69),(5,.tmp 72)],147,ps,#[⟨3,.data⟩,⟨5,.data⟩,⟨7,.data⟩,⟨10,.data⟩,⟨13,.data⟩,⟨16,.data⟩],none⟩ (.agg #[.int .i64 x,.int .i64 y,.int .i64 kd,.int .i64 f.s,.int .i64 (wdI f mk),.int .i64 (meetI gg f)]) hQ (fun w hS => by unfold fr17; go_simp) C2 ?_
 refine take_r 18 ⟨some 74,.indexAddr 143 (.tmp 56) (.tmp 57),0,ps,#[⟨0,.data⟩,⟨1,.data⟩,⟨0,.phase⟩,⟨1,.phase⟩,⟨2,.phase⟩,⟨3,.phase⟩,⟨4,.phase⟩,⟨5,.phase⟩,⟨6,.phase⟩,⟨7,.phase⟩,⟨8,.phase⟩,⟨9,.phase⟩,⟨10,.phase⟩,⟨11,.phase⟩,⟨12,.phase⟩,⟨13,.phase⟩,⟨14,.phase⟩,⟨15,.phase⟩,⟨16,.phase⟩,⟨17,.phase⟩],none⟩ (.pointer (some ⟨T,k * 6,none⟩)) hQ (fun w hS => by have h1 := hkn; unfold fr17; go_simp) C2 ?_
 refine want_k 19 ⟨none,.store 147 (.tmp 74) (.tmp 73),0,ps,#[⟨18,.data⟩,⟨17,.data⟩,⟨16,.chain⟩,⟨0,.phase⟩,⟨1,.phase⟩,⟨2,.phase⟩,⟨3,.phase⟩,⟨4,.phase⟩,⟨5,.phase⟩,⟨6,.phase⟩,⟨7,.phase⟩,⟨8,.phase⟩,⟨9,.phase⟩,⟨10,.phase⟩,⟨11,.phase⟩,⟨12,.phase⟩,⟨13,.phase⟩,⟨14,.phase⟩,⟨15,.phase⟩,⟨16,.phase⟩,⟨17,.phase⟩],none⟩ fun K hK => ?_
 have t0 : w2.cell? ⟨T,k * 6,none⟩ = some cs[k * 6] := by rw [Lib.cell_of_heap hT2]; simp
 have t1 : w2.cell? ⟨T,k * 6 + 1,none⟩ = some cs[k * 6 + 1] := by rw [Lib.cell_of_heap hT2]; simp
 have t2 : w2.cell? ⟨T,k * 6 + 2,none⟩ = some cs[k * 6 + 2] := by rw [Lib.cell_of_heap hT2]; simp
 have t3 : w2.cell? ⟨T,k * 6 + 3,none⟩ = some cs[k * 6 + 3] := by rw [Lib.cell_of_heap hT2]; simp
 have t4 : w2.cell? ⟨T,k * 6 + 4,none⟩ = some cs[k * 6 + 4] := by rw [Lib.cell_of_heap hT2]; simp
 have t5 : w2.cell? ⟨T,k * 6 + 5,none⟩ = some cs[k * 6 + 5] := by rw [Lib.cell_of_heap hT2]; simp
 have g0 : w2.frozen? ⟨T,k * 6,none⟩ = false := Lib.frozen_of_heap hT2 _
 have g1 : w2.frozen? ⟨T,k * 6 + 1,none⟩ = false := Lib.frozen_of_heap hT2 _
 have g2 : w2.frozen? ⟨T,k * 6 + 2,none⟩ = false := Lib.frozen_of_heap hT2 _
 have g3 : w2.frozen? ⟨T,k * 6 + 3,none⟩ = false := Lib.frozen_of_heap hT2 _
 have g4 : w2.frozen? ⟨T,k * 6 + 4,none⟩ = false := Lib.frozen_of_heap hT2 _
 have g5 : w2.frozen? ⟨T,k * 6 + 5,none⟩ = false := Lib.frozen_of_heap hT2 _
 obtain ⟨G9,T9⟩ := set6 hT2 (k * 6) (.int .i64 x) (.int .i64 y) (.int .i64 kd) (.int .i64 f.s) (.int .i64 (wdI f mk)) (.int .i64 (meetI gg f))
 have C9 : CB _ C x y kd ∧ FB _ Nn f ∧ FB _ A gg := ⟨C2.1.turns T9 hCT,C2.2.1.turns T9 hNT,C2.2.2.turns T9 hAT⟩
 generalize cs[k * 6] = z0 at t0
 generalize cs[k * 6 + 1] = z1 at t1
 generalize cs[k * 6 + 2] = z2 at t2
 generalize cs[k * 6 + 3] = z3 at t3
 generalize cs[k * 6 + 4] = z4 at t4
 generalize cs[k * 6 + 5] = z5 at t5
 unfold fr17
 go_simp
 refine hK _ _ C9 (cast_h (fr17 v0 v1 v2 v3 v4 v5 v6 v7 (.slice (some ⟨T,0,none⟩) n n) (.pointer (some ⟨A,0,none⟩)) (.int .i64 (k : Nat)) (.pointer (some ⟨C,0,none⟩)) (.pointer (some ⟨Nn,0,none⟩)) (.string mk) xa xb xc xd xe xf xg xh xi xj xk xl xm xn xo xp xq xr xt xu xv xw xx xy xz xA xB xC xD xE xF xG xH xI xJ xK xL xM xN xO xP xQ (.slice (some ⟨T,0,none⟩) n n) (.int .i64 (k : Nat)) (.pointer (some ⟨C,0,none⟩)) (.int .i64 x) (.pointer (some ⟨C,1,none⟩)) (.int .i64 y) (.pointer (some ⟨C,2,none⟩)) (.int .i64 kd) (.pointer (some ⟨Nn,2,none⟩)) (.pointer (some ⟨Nn,2,none⟩)) (.int .i64 f.s) (.agg (fcC f)) (.string mk) (.int .i64 (wdI f mk)) (.agg (fcC gg)) (.agg (fcC f)) (.int .i64 (meetI gg f)) (.agg #[.int .i64 x,.int .i64 y,.int .i64 kd,.int .i64 f.s,.int .i64 (wdI f mk),.int .i64 (meetI gg f)]) (.pointer (some ⟨T,k * 6,none⟩)) yk yl ym) (by kernel_rfl) ?_)
 clear hK K
 exact wpAnyH_done (by kernel_rfl) (hq _ G9 (((Turns.of_below D2).mono (fun _ h => h.elim)).trans T9)) _
end Go.Proofs.YtaphggjakaghjaaGreatDoor
