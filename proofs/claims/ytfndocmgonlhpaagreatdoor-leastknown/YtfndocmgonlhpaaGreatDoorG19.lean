/-
  What is proved here: which of two ways is better.
  What is proved here: the masses of a paragraph (no program is named): what they are, how many marks are used.
-/
import Derived.Test.YtfndocmgonlhpaaGreatDoorG1
import Derived.Test.YtfndocmgonlhpaaGreatDoorG18
import Derived.Test.YtfndocmgonlhpaaGreatDoorG5
namespace Go.Proofs.YtfndocmgonlhpaaGreatDoor
open Go.RowKit Go.Shelf
set_option maxRecDepth 100000
set_option maxHeartbeats 1000000

theorem isNaN_any (x : Int) (w : World) : Calls Tryz.prog 99 #[.int .i64 x] w fun e w' => e = .returned (.bool false) ∧ w' = w := by
 go_enter Tryz.func99,Tryz.ntmps99
 go_wp2_with fail
 go_ret
 exact ⟨by simp,rfl⟩
def cpI (x y : Int) : Int := if x < y then -1 else if y < x then 1 else 0
theorem cpCompare_any (x y : Int) (w : World) : Calls Tryz.prog 68 #[.int .i64 x,.int .i64 y] w fun e w' => e = .returned (.int .i64 (cpI x y)) ∧ w' = w := by
 have hx := isNaN_any x w
 have hy := isNaN_any y w
 unfold cpI
 by_cases h1 : x < y
 ·rw [if_pos h1]
  go_enter Tryz.func68,Tryz.ntmps68
  go_wp2_with (go_at_call 99; first | (with_reducible refine hx.mono ?_; rintro e w' ⟨rfl,rfl⟩) | (with_reducible refine hy.mono ?_; rintro e w' ⟨rfl,rfl⟩))
  go_ret
  exact ⟨rfl,rfl⟩
 ·rw [if_neg h1]
  by_cases h2 : y < x
  ·rw [if_pos h2]
   go_enter Tryz.func68,Tryz.ntmps68
   go_wp2_with (go_at_call 99; first | (with_reducible refine hx.mono ?_; rintro e w' ⟨rfl,rfl⟩) | (with_reducible refine hy.mono ?_; rintro e w' ⟨rfl,rfl⟩))
   go_ret
   exact ⟨rfl,rfl⟩
  ·rw [if_neg h2]
   go_enter Tryz.func68,Tryz.ntmps68
   go_wp2_with (go_at_call 99; first | (with_reducible refine hx.mono ?_; rintro e w' ⟨rfl,rfl⟩) | (with_reducible refine hy.mono ?_; rintro e w' ⟨rfl,rfl⟩))
   go_ret
   exact ⟨rfl,rfl⟩
def orL : List Int → Int
 | [] => 0
 | x :: r => if x = 0 then orL r else x
theorem orL_go {d : List Int} {k : Nat} (hk : k < d.length) : orL (d.drop k) = if d[k] = 0 then orL (d.drop (k + 1)) else d[k] := by
 rw [List.drop_eq_getElem_cons hk]
 rfl
theorem or_any (v : Value) (d : List Int) (hd : d.length ≤ 9223372036854775807) (w : World) (hV : IntsAt w v d) : Calls Tryz.prog 67 #[v] w fun e w' => e = .returned (.int .i64 (orL d)) ∧ w' = w := by
 obtain ⟨a,c,rfl,-⟩ := hV.ex
 have hat : Hid (∀ i (hi : i < d.length),∃ b o,a = some ⟨b,o,none⟩ ∧ w.cell? ⟨b,o + i,none⟩ = some (.int .i64 d[i])) := fun i hi => by
  obtain ⟨b,o,e,_,h⟩ := ints_at hV hi
  exact ⟨b,o,e,h w (Below.refl _ _)⟩
 have hgo : Hid (∀ k (hk : k < d.length),orL (d.drop k) = if d[k] = 0 then orL (d.drop (k + 1)) else d[k]) := fun k hk => orL_go hk
 have hR : Hid (orL (d.drop 0) = orL d) := by show _ = _; rw [List.drop_zero]
 clear hV
 generalize orL d = R at *
 go_enter Tryz.func67,Tryz.ntmps67
 go_wp2_with fail
 go_loopw [8] (fun i wr => ∃ k : Nat,k ≤ d.length ∧ i = .int .i64 k ∧ wr = w ∧ Hid (orL (d.drop k) = R)) (fun i _ => d.length - (intOf i).toNat)
 case atStart => exact ⟨0,by omega,rfl,rfl,hR⟩
 case round =>
  obtain ⟨k,hk,rfl,rfl,hr⟩ := hrel
  by_cases hlt : k < d.length
  ·obtain ⟨b,o,rfl,c0⟩ := hat.out k hlt
   have hlt' : (k : Int) < d.length := by omega
   have hg := hgo.out k hlt
   rw [hr.out] at hg
   by_cases h0 : d[k] = 0
   ·rw [if_pos h0] at hg
    have hg2 : Hid (orL (d.drop (k + 1)) = R) := hg.symm
    have e0 : (d[k] != 0) = false := by rw [h0]; rfl
    clear hat hgo hg hr hR h0
    generalize d[k] = x at *
    go_wp2_with fail
    go_roundw
    case rel => exact ⟨k + 1,by omega,by simp,by first | rfl | trivial,hg2⟩
    case measure => simp [intOf]; omega
   ·rw [if_neg h0] at hg
    have e0 : (d[k] != 0) = true := by simpa using h0
    have hg2 : Hid (R = d[k]) := hg
    clear hat hgo hg hr hR h0
    generalize d[k] = x at *
    go_wp2_with fail
    go_ret
    exact ⟨by rw [hg2.out]; rfl,rfl⟩
  ·have hge : ¬ (k : Int) < d.length := by omega
   have h0 : Hid (R = 0) := by
    have := hr.out
    rw [List.drop_of_length_le (by omega)] at this
    exact this.symm
   clear hat hgo hr hR
   go_wp2_with fail
   go_ret
   exact ⟨by rw [h0.out]; rfl,rfl⟩
structure Wy where
 d : Int
 n : Nat
 f : Nat
def wyL (x : Wy) : List Value := [.int .i64 x.d,.int .i64 x.n,.int .i64 x.f]
theorem wyL_len (x : Wy) : (wyL x).length = 3 := rfl
theorem wyL_one (x : Wy) : ∀ u ∈ wyL x,u.oneCell' = true := by
 intro u hu; simp [wyL] at hu; rcases hu with rfl | rfl | rfl <;> rfl
def wy0 : Wy := ⟨0,0,0⟩
theorem info58 (p : Wy) : (Tryz.prog.info? 58).map (·.size) = some (wyL p).toArray.size := by show _ = some 3; kernel_rfl
theorem info58l (p : Wy) : (Tryz.prog.info? 58).map (·.size) = some (wyL p).length := by show _ = some 3; kernel_rfl
theorem wyL_all (p : Wy) : (wyL p).toArray.all (·.oneCell') = true := all_oneCell_toArray (wyL_one p)
def cmpW (x y : Wy) : Int := orL [cpI x.d y.d,cpI x.n y.n,cpI x.f y.f]
structure WyX (Bx By : Nat) (x y : Wy) (W : World) : Prop where
 x : W.heap[Bx]? = some (.cells (wyL x).toArray 58 (0,0))
 y : W.heap[By]? = some (.cells (wyL y).toArray 58 (0,0))
section
variable {Bx By : Nat} {x y : Wy} {W W' : World}
theorem WyX.below (h : WyX Bx By x y W) (hb : Below W.heap.size W W') : WyX Bx By x y W' := ⟨(hb.block _ (Array.getElem?_eq_some_iff.1 h.x).1).trans h.x,(hb.block _ (Array.getElem?_eq_some_iff.1 h.y).1).trans h.y⟩
theorem WyX.x0 (h : WyX Bx By x y W) : W.cell? ⟨Bx,0,none⟩ = some (.int .i64 x.d) := by rw [Lib.cell_of_heap h.x]; rfl
theorem WyX.x1 (h : WyX Bx By x y W) : W.cell? ⟨Bx,1,none⟩ = some (.int .i64 x.n) := by rw [Lib.cell_of_heap h.x]; rfl
theorem WyX.x2 (h : WyX Bx By x y W) : W.cell? ⟨Bx,2,none⟩ = some (.int .i64 x.f) := by rw [Lib.cell_of_heap h.x]; rfl
theorem WyX.y0 (h : WyX Bx By x y W) : W.cell? ⟨By,0,none⟩ = some (.int .i64 y.d) := by rw [Lib.cell_of_heap h.y]; rfl
theorem WyX.y1 (h : WyX Bx By x y W) : W.cell? ⟨By,1,none⟩ = some (.int .i64 y.n) := by rw [Lib.cell_of_heap h.y]; rfl
theorem WyX.y2 (h : WyX Bx By x y W) : W.cell? ⟨By,2,none⟩ = some (.int .i64 y.f) := by rw [Lib.cell_of_heap h.y]; rfl
end
def fr36 (v0 v1 v2 v3 v4 v5 v6 v7 v8 v9 xa xb xc xd xe xf xg xh xi xj xk xl : Value) : Act := { tmps := #[v0,v1,v2,v3,v4,v5,v6,v7,v8,v9,xa,xb,xc,xd,xe,xf,xg,xh,xi,xj,xk,xl],defers := [] }
def ops36_1_0 (ps : String) : Oper := ⟨some 5,.fieldAddr 58 (.tmp 2) 0,0,ps,#[],none⟩
def ops36_1_1 (ps : String) : Oper := ⟨some 6,.load 3 (.tmp 5),3,ps,#[⟨0,.data⟩],none⟩
def ops36_1_2 (ps : String) : Oper := ⟨some 7,.fieldAddr 58 (.tmp 3) 0,0,ps,#[],none⟩
def ops36_1_3 (ps : String) : Oper := ⟨some 8,.load 3 (.tmp 7),3,ps,#[⟨2,.data⟩],none⟩
def ops36_1_4 (ps : String) : Oper := ⟨some 9,.call ⟨.value (.func 68),#[.tmp 6,.tmp 8],#[3,3]⟩,3,ps,#[⟨1,.data⟩,⟨3,.data⟩],none⟩
def ops36_1_5 (ps : String) : Oper := ⟨some 10,.fieldAddr 58 (.tmp 2) 1,0,ps,#[],none⟩
def ops36_1_6 (ps : String) : Oper := ⟨some 11,.load 3 (.tmp 10),3,ps,#[⟨5,.data⟩],none⟩
def ops36_1_7 (ps : String) : Oper := ⟨some 12,.fieldAddr 58 (.tmp 3) 1,0,ps,#[],none⟩
def ops36_1_8 (ps : String) : Oper := ⟨some 13,.load 3 (.tmp 12),3,ps,#[⟨7,.data⟩],none⟩
def ops36_1_9 (ps : String) : Oper := ⟨some 14,.call ⟨.value (.func 68),#[.tmp 11,.tmp 13],#[3,3]⟩,3,ps,#[⟨6,.data⟩,⟨8,.data⟩,⟨4,.chain⟩],none⟩
def ops36_1_10 (ps : String) : Oper := ⟨some 15,.fieldAddr 58 (.tmp 2) 2,0,ps,#[],none⟩
def ops36_1_11 (ps : String) : Oper := ⟨some 16,.load 3 (.tmp 15),3,ps,#[⟨10,.data⟩],none⟩
def ops36_1_12 (ps : String) : Oper := ⟨some 17,.fieldAddr 58 (.tmp 3) 2,0,ps,#[],none⟩
def ops36_1_13 (ps : String) : Oper := ⟨some 18,.load 3 (.tmp 17),3,ps,#[⟨12,.data⟩],none⟩
def ops36_1_14 (ps : String) : Oper := ⟨some 19,.call ⟨.value (.func 68),#[.tmp 16,.tmp 18],#[3,3]⟩,3,ps,#[⟨11,.data⟩,⟨13,.data⟩,⟨9,.chain⟩],none⟩
def ops36_1_15 (ps : String) : Oper := ⟨some 20,.buildSlice 41 3 #[(0,.tmp 9),(1,.tmp 14),(2,.tmp 19)],41,ps,#[⟨4,.data⟩,⟨9,.data⟩,⟨14,.data⟩],none⟩
def ops36_1_16 (ps : String) : Oper := ⟨some 21,.call ⟨.value (.func 67),#[.tmp 20],#[41]⟩,3,ps,#[⟨15,.data⟩,⟨14,.chain⟩],none⟩
def ops36_1_17 (ps : String) : Oper := ⟨some 4,.assign (.tmp 21),3,ps,#[⟨16,.data⟩,⟨16,.chain⟩,⟨0,.phase⟩,⟨1,.phase⟩,⟨2,.phase⟩,⟨3,.phase⟩,⟨4,.phase⟩,⟨5,.phase⟩,⟨6,.phase⟩,⟨7,.phase⟩,⟨8,.phase⟩,⟨9,.phase⟩,⟨10,.phase⟩,⟨11,.phase⟩,⟨12,.phase⟩,⟨13,.phase⟩,⟨14,.phase⟩,⟨15,.phase⟩,⟨16,.phase⟩],none⟩
def ops36_1 (ps : String) : Array Oper := #[ops36_1_0 ps,ops36_1_1 ps,ops36_1_2 ps,ops36_1_3 ps,ops36_1_4 ps,ops36_1_5 ps,ops36_1_6 ps,ops36_1_7 ps,ops36_1_8 ps,ops36_1_9 ps,ops36_1_10 ps,ops36_1_11 ps,ops36_1_12 ps,ops36_1_13 ps,ops36_1_14 ps,ops36_1_15 ps,ops36_1_16 ps,ops36_1_17 ps]

theorem cm_r1 (Q : Exit → Act → World → Prop) (hQ : ∀ c x (n : Nat) v w,Q (.panic c) (x.put (some n) v) w → Q (.panic c) x w) (id : Nat) (ps : String) {v0 v1 v4 v5 v6 v7 v8 v9 xa xb xc xd xe xf xg xh xi xj xk xl : Value} (Bx By : Nat) (x y : Wy) (w : World) (hS : WyX Bx By x y (World.drew w))
    
  (hq : ∀ w',Below w.heap.size w w' → Q .normal (fr36 v0 v1 (.pointer (some ⟨Bx,0,none⟩)) (.pointer (some ⟨By,0,none⟩)) (.int .i64 (cmpW x y)) (.pointer (some ⟨Bx,0,none⟩)) (.int .i64 x.d) (.pointer (some ⟨By,0,none⟩)) (.int .i64 y.d) (.int .i64 (cpI x.d y.d)) (.pointer (some ⟨Bx,1,none⟩)) (.int .i64 (x.n : Nat)) (.pointer (some ⟨By,1,none⟩)) (.int .i64 (y.n : Nat)) (.int .i64 (cpI x.n y.n)) (.pointer (some ⟨Bx,2,none⟩)) (.int .i64 (x.f : Nat)) (.pointer (some ⟨By,2,none⟩)) (.int .i64 (y.f : Nat)) (.int .i64 (cpI x.f y.f)) (.slice (some ⟨w.heap.size,0,none⟩) 3 3) (.int .i64 (cmpW x y))) w') :
  (Code.region id (ops36_1 ps) true).wp Tryz.prog Q (fr36 v0 v1 (.pointer (some ⟨Bx,0,none⟩)) (.pointer (some ⟨By,0,none⟩)) v4 v5 v6 v7 v8 v9 xa xb xc xd xe xf xg xh xi xj xk xl) w := by
 refine wp_region_held (S := WyX Bx By x y) (by kernel_rfl) ?_
 change wpAnyH _ _ _ _ _ 18 _ _ (World.drew w)
 refine take_r 0 ⟨some 5,.fieldAddr 58 (.tmp 2) 0,0,ps,#[],none⟩ (.pointer (some ⟨Bx,0,none⟩)) hQ (fun w hS => by unfold fr36; go_simp) hS ?_
 refine take_k 1 (ops36_1_1 ps) (.int .i64 x.d) (fr36 v0 v1 (.pointer (some ⟨Bx,0,none⟩)) (.pointer (some ⟨By,0,none⟩)) v4 (.pointer (some ⟨Bx,0,none⟩)) (.int .i64 x.d) v7 v8 v9 xa xb xc xd xe xf xg xh xi xj xk xl) hQ (fun w hS => by have e := hS.x0; unfold fr36 ops36_1_1; go_simp) hS ?_
 refine take_r 2 ⟨some 7,.fieldAddr 58 (.tmp 3) 0,0,ps,#[],none⟩ (.pointer (some ⟨By,0,none⟩)) hQ (fun w hS => by unfold fr36; go_simp) hS ?_
 refine take_k 3 (ops36_1_3 ps) (.int .i64 y.d) (fr36 v0 v1 (.pointer (some ⟨Bx,0,none⟩)) (.pointer (some ⟨By,0,none⟩)) v4 (.pointer (some ⟨Bx,0,none⟩)) (.int .i64 x.d) (.pointer (some ⟨By,0,none⟩)) (.int .i64 y.d) v9 xa xb xc xd xe xf xg xh xi xj xk xl) hQ (fun w hS => by have e := hS.y0; unfold fr36 ops36_1_3; go_simp) hS ?_
 refine take_r 5 ⟨some 10,.fieldAddr 58 (.tmp 2) 1,0,ps,#[],none⟩ (.pointer (some ⟨Bx,1,none⟩)) hQ (fun w hS => by unfold fr36; go_simp) hS ?_
 refine take_k 6 (ops36_1_6 ps) (.int .i64 (x.n : Nat)) (fr36 v0 v1 (.pointer (some ⟨Bx,0,none⟩)) (.pointer (some ⟨By,0,none⟩)) v4 (.pointer (some ⟨Bx,0,none⟩)) (.int .i64 x.d) (.pointer (some ⟨By,0,none⟩)) (.int .i64 y.d) v9 (.pointer (some ⟨Bx,1,none⟩)) (.int .i64 (x.n : Nat)) xc xd xe xf xg xh xi xj xk xl) hQ (fun w hS => by have e := hS.x1; unfold fr36 ops36_1_6; go_simp) hS ?_
 refine take_r 7 ⟨some 12,.fieldAddr 58 (.tmp 3) 1,0,ps,#[],none⟩ (.pointer (some ⟨By,1,none⟩)) hQ (fun w hS => by unfold fr36; go_simp) hS ?_
 refine take_k 8 (ops36_1_8 ps) (.int .i64 (y.n : Nat)) (fr36 v0 v1 (.pointer (some ⟨Bx,0,none⟩)) (.pointer (some ⟨By,0,none⟩)) v4 (.pointer (some ⟨Bx,0,none⟩)) (.int .i64 x.d) (.pointer (some ⟨By,0,none⟩)) (.int .i64 y.d) v9 (.pointer (some ⟨Bx,1,none⟩)) (.int .i64 (x.n : Nat)) (.pointer (some ⟨By,1,none⟩)) (.int .i64 (y.n : Nat)) xe xf xg xh xi xj xk xl) hQ (fun w hS => by have e := hS.y1; unfold fr36 ops36_1_8; go_simp) hS ?_
 refine take_r 10 ⟨some 15,.fieldAddr 58 (.tmp 2) 2,0,ps,#[],none⟩ (.pointer (some ⟨Bx,2,none⟩)) hQ (fun w hS => by unfold fr36; go_simp) hS ?_
 refine take_k 11 (ops36_1_11 ps) (.int .i64 (x.f : Nat)) (fr36 v0 v1 (.pointer (some ⟨Bx,0,none⟩)) (.pointer (some ⟨By,0,none⟩)) v4 (.pointer (some ⟨Bx,0,none⟩)) (.int .i64 x.d) (.pointer (some ⟨By,0,none⟩)) (.int .i64 y.d) v9 (.pointer (some ⟨Bx,1,none⟩)) (.int .i64 (x.n : Nat)) (.pointer (some ⟨By,1,none⟩)) (.int .i64 (y.n : Nat)) xe (.pointer (some ⟨Bx,2,none⟩)) (.int .i64 (x.f : Nat)) xh xi xj xk xl) hQ (fun w hS => by have e := hS.x2; unfold fr36 ops36_1_11; go_simp) hS ?_
 refine take_r 12 ⟨some 17,.fieldAddr 58 (.tmp 3) 2,0,ps,#[],none⟩ (.pointer (some ⟨By,2,none⟩)) hQ (fun w hS => by unfold fr36; go_simp) hS ?_
 refine take_k 13 (ops36_1_13 ps) (.int .i64 (y.f : Nat)) (fr36 v0 v1 (.pointer (some ⟨Bx,0,none⟩)) (.pointer (some ⟨By,0,none⟩)) v4 (.pointer (some ⟨Bx,0,none⟩)) (.int .i64 x.d) (.pointer (some ⟨By,0,none⟩)) (.int .i64 y.d) v9 (.pointer (some ⟨Bx,1,none⟩)) (.int .i64 (x.n : Nat)) (.pointer (some ⟨By,1,none⟩)) (.int .i64 (y.n : Nat)) xe (.pointer (some ⟨Bx,2,none⟩)) (.int .i64 (x.f : Nat)) (.pointer (some ⟨By,2,none⟩)) (.int .i64 (y.f : Nat)) xj xk xl) hQ (fun w hS => by have e := hS.y2; unfold fr36 ops36_1_13; go_simp) hS ?_
 refine want_k 4 (ops36_1_4 ps) fun K hK => ?_
 unfold fr36 ops36_1_4
 go_simp
 refine (cpCompare_any _ _ _).mono ?_
 rintro e w4 ⟨rfl,rfl⟩
 refine hK _ _ hS (cast_h (fr36 v0 v1 (.pointer (some ⟨Bx,0,none⟩)) (.pointer (some ⟨By,0,none⟩)) v4 (.pointer (some ⟨Bx,0,none⟩)) (.int .i64 x.d) (.pointer (some ⟨By,0,none⟩)) (.int .i64 y.d) (.int .i64 (cpI x.d y.d)) (.pointer (some ⟨Bx,1,none⟩)) (.int .i64 (x.n : Nat)) (.pointer (some ⟨By,1,none⟩)) (.int .i64 (y.n : Nat)) xe (.pointer (some ⟨Bx,2,none⟩)) (.int .i64 (x.f : Nat)) (.pointer (some ⟨By,2,none⟩)) (.int .i64 (y.f : Nat)) xj xk xl) (by kernel_rfl) ?_)
 clear hK K
 refine want_k 9 (ops36_1_9 ps) fun K hK => ?_
 unfold fr36 ops36_1_9
 go_simp
 refine (cpCompare_any _ _ _).mono ?_
 rintro e w9 ⟨rfl,rfl⟩
 refine hK _ _ hS (cast_h (fr36 v0 v1 (.pointer (some ⟨Bx,0,none⟩)) (.pointer (some ⟨By,0,none⟩)) v4 (.pointer (some ⟨Bx,0,none⟩)) (.int .i64 x.d) (.pointer (some ⟨By,0,none⟩)) (.int .i64 y.d) (.int .i64 (cpI x.d y.d)) (.pointer (some ⟨Bx,1,none⟩)) (.int .i64 (x.n : Nat)) (.pointer (some ⟨By,1,none⟩)) (.int .i64 (y.n : Nat)) (.int .i64 (cpI x.n y.n)) (.pointer (some ⟨Bx,2,none⟩)) (.int .i64 (x.f : Nat)) (.pointer (some ⟨By,2,none⟩)) (.int .i64 (y.f : Nat)) xj xk xl) (by kernel_rfl) ?_)
 clear hK K
 refine want_k 14 (ops36_1_14 ps) fun K hK => ?_
 unfold fr36 ops36_1_14
 go_simp
 refine (cpCompare_any _ _ _).mono ?_
 rintro e w14 ⟨rfl,rfl⟩
 refine hK _ _ hS (cast_h (fr36 v0 v1 (.pointer (some ⟨Bx,0,none⟩)) (.pointer (some ⟨By,0,none⟩)) v4 (.pointer (some ⟨Bx,0,none⟩)) (.int .i64 x.d) (.pointer (some ⟨By,0,none⟩)) (.int .i64 y.d) (.int .i64 (cpI x.d y.d)) (.pointer (some ⟨Bx,1,none⟩)) (.int .i64 (x.n : Nat)) (.pointer (some ⟨By,1,none⟩)) (.int .i64 (y.n : Nat)) (.int .i64 (cpI x.n y.n)) (.pointer (some ⟨Bx,2,none⟩)) (.int .i64 (x.f : Nat)) (.pointer (some ⟨By,2,none⟩)) (.int .i64 (y.f : Nat)) (.int .i64 (cpI x.f y.f)) xk xl) (by kernel_rfl) ?_)
 clear hK K
 refine want_k 15 (ops36_1_15 ps) fun K hK => ?_
 unfold fr36 ops36_1_15
 go_simp
 have hb1 : Below w.heap.size w (World.drew (w.alloc (.cells #[.int .i64 (cpI x.d y.d),.int .i64 (cpI x.n y.n),.int .i64 (cpI x.f y.f)] 3))) := ((Below.refl w.heap.size w).alloc (Nat.le_refl _) _).drew
 have hS1 : WyX Bx By x y (World.drew (w.alloc (.cells #[.int .i64 (cpI x.d y.d),.int .i64 (cpI x.n y.n),.int .i64 (cpI x.f y.f)] 3))) := hS.below ⟨hb1.1,hb1.2,hb1.3,hb1.4,hb1.5⟩
 have hI : IntsAt (World.drew (w.alloc (.cells #[.int .i64 (cpI x.d y.d),.int .i64 (cpI x.n y.n),.int .i64 (cpI x.f y.f)] 3))) (.slice (some ⟨w.heap.size,0,none⟩) 3 3) [cpI x.d y.d,cpI x.n y.n,cpI x.f y.f] := rec_new (f := fun x : Int => [Value.int .i64 x]) (fun _ => rfl) (World.drew w) 3 [cpI x.d y.d,cpI x.n y.n,cpI x.f y.f]
 generalize World.drew (w.alloc (.cells #[.int .i64 (cpI x.d y.d),.int .i64 (cpI x.n y.n),.int .i64 (cpI x.f y.f)] 3)) = wa at *
 refine hK _ _ hS1 (cast_h (fr36 v0 v1 (.pointer (some ⟨Bx,0,none⟩)) (.pointer (some ⟨By,0,none⟩)) v4 (.pointer (some ⟨Bx,0,none⟩)) (.int .i64 x.d) (.pointer (some ⟨By,0,none⟩)) (.int .i64 y.d) (.int .i64 (cpI x.d y.d)) (.pointer (some ⟨Bx,1,none⟩)) (.int .i64 (x.n : Nat)) (.pointer (some ⟨By,1,none⟩)) (.int .i64 (y.n : Nat)) (.int .i64 (cpI x.n y.n)) (.pointer (some ⟨Bx,2,none⟩)) (.int .i64 (x.f : Nat)) (.pointer (some ⟨By,2,none⟩)) (.int .i64 (y.f : Nat)) (.int .i64 (cpI x.f y.f)) (.slice (some ⟨w.heap.size,0,none⟩) 3 3) xl) (by kernel_rfl) ?_)
 clear hK K
 refine want_k 16 (ops36_1_16 ps) fun K hK => ?_
 have hor := or_any _ _ (by show 3 ≤ _; omega) _ hI
 unfold fr36 ops36_1_16
 go_simp
 refine hor.mono ?_
 rintro e wb ⟨rfl,rfl⟩
 refine hK _ _ hS1 (cast_h (fr36 v0 v1 (.pointer (some ⟨Bx,0,none⟩)) (.pointer (some ⟨By,0,none⟩)) v4 (.pointer (some ⟨Bx,0,none⟩)) (.int .i64 x.d) (.pointer (some ⟨By,0,none⟩)) (.int .i64 y.d) (.int .i64 (cpI x.d y.d)) (.pointer (some ⟨Bx,1,none⟩)) (.int .i64 (x.n : Nat)) (.pointer (some ⟨By,1,none⟩)) (.int .i64 (y.n : Nat)) (.int .i64 (cpI x.n y.n)) (.pointer (some ⟨Bx,2,none⟩)) (.int .i64 (x.f : Nat)) (.pointer (some ⟨By,2,none⟩)) (.int .i64 (y.f : Nat)) (.int .i64 (cpI x.f y.f)) (.slice (some ⟨w.heap.size,0,none⟩) 3 3) (.int .i64 (cmpW x y))) (by kernel_rfl) ?_)
 clear hK K
 refine take_r 17 ⟨some 4,.assign (.tmp 21),3,ps,#[⟨16,.data⟩,⟨16,.chain⟩,⟨0,.phase⟩,⟨1,.phase⟩,⟨2,.phase⟩,⟨3,.phase⟩,⟨4,.phase⟩,⟨5,.phase⟩,⟨6,.phase⟩,⟨7,.phase⟩,⟨8,.phase⟩,⟨9,.phase⟩,⟨10,.phase⟩,⟨11,.phase⟩,⟨12,.phase⟩,⟨13,.phase⟩,⟨14,.phase⟩,⟨15,.phase⟩,⟨16,.phase⟩],none⟩ (.int .i64 (cmpW x y)) hQ (fun w _ => by kernel_rfl) hS1 ?_
 exact wpAnyH_done (by kernel_rfl) (hq _ hb1) _

theorem compare_any (x y : Wy) (w : World) : Calls Tryz.prog 36 #[.agg #[.int .i64 x.d,.int .i64 x.n,.int .i64 x.f],.agg #[.int .i64 y.d,.int .i64 y.n,.int .i64 y.f]] w fun e w' => e = .returned (.int .i64 (cmpW x y)) ∧ Below w.heap.size w w' := by
 have hb0 := below2 w (.cells #[.int .i64 x.d,.int .i64 x.n,.int .i64 x.f] 58) (.cells #[.int .i64 y.d,.int .i64 y.n,.int .i64 y.f] 58)
 have hX : Hid (WyX w.heap.size (w.heap.size + 1) x y (World.drew ((w.alloc (.cells #[.int .i64 x.d,.int .i64 x.n,.int .i64 x.f] 58)).alloc (.cells #[.int .i64 y.d,.int .i64 y.n,.int .i64 y.f] 58)))) := ⟨(Below.heap_alloc _ _ _ (by simp)).trans (World.alloc_heap_new w _),alloc2_heap w _ _⟩
 have hb0h : Hid (Below w.heap.size w ((w.alloc (.cells #[.int .i64 x.d,.int .i64 x.n,.int .i64 x.f] 58)).alloc (.cells #[.int .i64 y.d,.int .i64 y.n,.int .i64 y.f] 58))) := hb0
 clear hb0
 go_enter Tryz.func36,Tryz.ntmps36
 go_wp2_with fail
 generalize (w.alloc (.cells #[.int .i64 x.d,.int .i64 x.n,.int .i64 x.f] 58)).alloc (.cells #[.int .i64 y.d,.int .i64 y.n,.int .i64 y.f] 58) = wz at *
 refine cm_r1 _ (fun _ _ _ _ _ h => h) _ _ w.heap.size (w.heap.size + 1) x y wz hX.out ?_
 intro w2 hb2
 have hb2h : Hid (Below w.heap.size w w2) := hb0h.out.trans (hb2.mono hb0h.out.size)
 clear hb2
 unfold fr36
 go_wp2_with fail
 go_ret
 exact ⟨rfl,hb2h.out⟩
end Go.Proofs.YtfndocmgonlhpaaGreatDoor

namespace Go.Proofs.YtfndocmgonlhpaaGreatDoor
open Go.RowKit Go.Shelf

theorem kind7 {x : Int} : kindI x = 7 ↔ x = 2 := by
 unfold kindI
 constructor
 ·intro h
  repeat (split at h <;> try omega)
 ·rintro rfl; decide
theorem acc_ne2 {x : Int} (h : accB x = true) : x ≠ 2 := by
 rintro rfl; revert h; decide
def rI (t : ByteArray) : Nat → Nat
 | 0 => 0
 | i + 1 => rI t i + (if kindI (bt t (st t i)) = 7 then 1 else 0)
theorem refN_succ (t : ByteArray) (k : Nat) : refN t (k + 1) = refN t k + (if bt t k = 2 then 1 else 0) := rfl
theorem refN_end {t : ByteArray} (p : Nat) : refN t (endN t p) = refN t p + (if kindI (bt t p) = 7 then 1 else 0) := by
 have e : (if kindI (bt t p) = 7 then 1 else 0) = (if bt t p = 2 then 1 else 0) := by
  by_cases h : bt t p = 2
  ·rw [if_pos h,if_pos (kind7.2 h)]
  ·rw [if_neg h,if_neg (fun h' => h (kind7.1 h'))]
 rw [e]
 unfold endN
 split
 ·split
  ·rename_i h1
   split
   ·rename_i h2
    rw [refN_succ,refN_succ,refN_succ,if_neg (acc_ne2 h1),if_neg (acc_ne2 h2)]; omega
   ·rw [refN_succ,refN_succ,if_neg (acc_ne2 h1)]; omega
  ·rw [refN_succ]
 ·rw [refN_succ]
theorem rI_ref (t : ByteArray) : ∀ i,i ≤ num t → rI t i = refN t (st t i)
 | 0,_ => rfl
 | i + 1,h => by
  have hl := num_lt (show i < num t by omega)
  rw [st_succ hl,refN_end,← rI_ref t i (by omega)]
  rfl
theorem refN_mono (t : ByteArray) {i j : Nat} (h : i ≤ j) : refN t i ≤ refN t j := by
 induction j with
 | zero => obtain rfl : i = 0 := by omega
           exact Nat.le_refl _
 | succ j ih =>
  by_cases e : i = j + 1
  ·rw [e]; exact Nat.le_refl _
  ·have := ih (by omega)
   rw [refN_succ]; omega
theorem rI_lt {t : ByteArray} {i : Nat} (h : i < num t) (h7 : kindI (bt t (st t i)) = 7) : rI t i < refN t t.size := by
 have h1 := rI_ref t (i + 1) h
 have h2 := refN_mono t (st_le t (i + 1))
 have h3 : rI t (i + 1) = rI t i + 1 := by show rI t i + _ = _; rw [if_pos h7]
 omega

theorem rowC_get (t : ByteArray) : ∀ (n i : Nat),i < n → ∀ j u,(clC t i)[j]? = some u → (rowC t n)[i * 3 + j]? = some u
 | 0,i,h,_,_,_ => by omega
 | n + 1, i, h, j, u, hu => by
  have hj : j < 3 := (List.getElem?_eq_some_iff.1 hu).1
  show (rowC t n ++ clC t n)[i * 3 + j]? = some u
  by_cases hi : i < n
  ·rw [List.getElem?_append_left (by rw [rowC_len]; omega)]
   exact rowC_get t n i hi j u hu
  ·obtain rfl : i = n := by omega
   rw [List.getElem?_append_right (by rw [rowC_len]; omega),rowC_len]
   rw [show i * 3 + j - i * 3 = j by omega]
   exact hu

structure Ms where
 f : Int
 t : Int
 k : Int
 s : Int
 w : Int
 q : Int
def msL (m : Ms) : List Value := [.int .i64 m.f,.int .i64 m.t,.int .i64 m.k,.int .i64 m.s,.int .i64 m.w,.int .i64 m.q]
theorem msL_len (m : Ms) : (msL m).length = 6 := rfl
def fc0 : Fc := ⟨0,0,0,0,0⟩
def fc (a : Pa) (i : Nat) : Fc := ⟨kindI (bt a.t (st a.t i)),bt a.t (st a.t i),szAt a (st a.t i : Nat),(spAt a.sp (st a.t i : Nat)).t,(spAt a.sp (st a.t i : Nat)).k⟩
def pf (a : Pa) : Nat → Fc
 | 0 => fc0
 | i + 1 => fc a i
def mkAt (a : Pa) (i : Nat) : ByteArray := if kindI (bt a.t (st a.t i)) = 7 then a.ms.getD (rI a.t i) ByteArray.empty else ByteArray.empty
def msI (a : Pa) (i : Nat) : Ms := ⟨st a.t i,st a.t (i + 1),(fc a i).kd,(fc a i).s,wdI (fc a i) (mkAt a i),meetI (pf a i) (fc a i)⟩
def mss (a : Pa) : List Ms := (List.range (num a.t)).map (msI a)
theorem mss_len (a : Pa) : (mss a).length = num a.t := by simp [mss]
theorem mss_get (a : Pa) {i : Nat} (h : i < (mss a).length) : (mss a)[i] = msI a i := by simp [mss]

structure GoodP (a : Pa) : Prop where
 wr : wrongI a.t = 0
 fd : fieldB a.t = false
 sp : spB a.sp a.t.size = true
 pr : keepB (prB a.p) = true
 lb : standB a.lb 0 16 = true
 mrk : markB a.t a.ms = true
theorem good_of {a : Pa} (h : chkI a = 0) : GoodP a := by
 rcases chk_cases a with ⟨e1,e2⟩ | ⟨e1,_⟩ | ⟨e1,_⟩ | ⟨e1,e2,e3,e4⟩
 ·rw [e1] at h; exact absurd h e2
 ·rw [e1] at h; cases h
 ·rw [e1] at h; cases h
 ·obtain ⟨f1,f2,f3,f4⟩ := rest_yes a e4
  exact ⟨e2,e3,f1,f2,f3,f4⟩
theorem GoodP.size {a : Pa} (h : GoodP a) : a.t.size ≤ 4096 := ok_size h.wr
theorem GoodP.p0 {a : Pa} (h : GoodP a) : 1 ≤ a.p.p0 ∧ a.p.p0 ≤ 64 := by
 have := List.all_eq_true.1 h.pr (a.p.p0,1,64) (by simp [prB])
 simpa [bdB] using this
theorem GoodP.ms {a : Pa} (h : GoodP a) : a.ms.length = refN a.t a.t.size ∧ ∀ m ∈ a.ms,standB m 1 8 = true := by
 have := h.mrk
 unfold markB at this
 rw [Bool.and_eq_true,decide_eq_true_eq,List.all_eq_true] at this
 exact this
theorem GoodP.span {a : Pa} (h : GoodP a) {k : Nat} (hk : k < a.t.size) : chB (spAt a.sp k) = true := by
 obtain ⟨h1,_,_⟩ := lk_spec h.sp (k := k) (by omega) (by omega)
 unfold spAt
 rw [List.getD_eq_getElem?_getD,List.getElem?_eq_getElem h1]
 exact (spB_all h.sp _ h1).2.1
theorem GoodP.fok {a : Pa} (h : GoodP a) {i : Nat} (hi : i < num a.t) : Fok (fc a i) := by
 have hk := num_lt hi
 have hs := h.span hk
 unfold chB at hs
 rw [decide_eq_true_eq] at hs
 refine ⟨?_,hs.2.1,bt_rng _ _⟩
 show 0 ≤ szAt a _ ∧ szAt a _ ≤ 64
 unfold szAt
 have := h.p0
 split
 ·omega
 ·exact hs.1
theorem stand_size {m : ByteArray} {x y : Int} (h : standB m x y = true) : x ≤ m.size ∧ (m.size : Int) ≤ y := by
 unfold standB at h
 rw [Bool.and_eq_true,decide_eq_true_eq] at h
 exact h.1
theorem GoodP.mark {a : Pa} (h : GoodP a) {i : Nat} (hi : i < num a.t) (h7 : kindI (bt a.t (st a.t i)) = 7) : ∃ hr : rI a.t i < a.ms.length,mkAt a i = a.ms[rI a.t i] ∧ a.ms[rI a.t i].size ≤ 8 := by
 have hr : rI a.t i < a.ms.length := by rw [h.ms.1]; exact rI_lt hi h7
 refine ⟨hr,?_,?_⟩
 ·unfold mkAt
  rw [if_pos h7,List.getD_eq_getElem?_getD,List.getElem?_eq_getElem hr]; rfl
 ·have := stand_size (h.ms.2 _ (List.getElem_mem hr)); omega
theorem mark_no {a : Pa} {i : Nat} (h7 : kindI (bt a.t (st a.t i)) ≠ 7) : mkAt a i = ByteArray.empty := if_neg h7
theorem rI_yes {t : ByteArray} {i : Nat} (h : kindI (bt t (st t i)) = 7) : rI t (i + 1) = rI t i + 1 := by show rI t i + _ = _; rw [if_pos h]
theorem rI_no {t : ByteArray} {i : Nat} (h : kindI (bt t (st t i)) ≠ 7) : rI t (i + 1) = rI t i := by show rI t i + _ = _; rw [if_neg h]; rfl

def Laid (a : Pa) (k : Nat) (cs : Array Value) : Prop := cs.size = num a.t * 6 ∧ ∀ j,j < k → ∀ q u,(msL (msI a j))[q]? = some u → cs[j * 6 + q]? = some u
theorem laid_all {a : Pa} {cs : Array Value} (h : Laid a (num a.t) cs) : cs.toList = (mss a).flatMap msL := by
 apply List.ext_getElem?
 intro j
 by_cases hj : j < num a.t * 6
 ·have hi : j / 6 < num a.t := by omega
  have hi' : j / 6 < (mss a).length := by rw [mss_len]; exact hi
  have hg := fm_get msL_len (mss a) hi' (j % 6) (by omega)
  rw [show j / 6 * 6 + j % 6 = j by omega,mss_get] at hg
  rw [hg]
  have hl : j % 6 < (msL (msI a (j / 6))).length := by rw [msL_len]; omega
  have := h.2 (j / 6) hi (j % 6) _ (List.getElem?_eq_getElem hl)
  rw [show j / 6 * 6 + j % 6 = j by omega] at this
  rw [List.getElem?_eq_getElem hl,← this]
  simp
 ·rw [List.getElem?_eq_none (by simp [h.1]; omega),List.getElem?_eq_none (by rw [fm_len msL_len,mss_len]; omega)]

end Go.Proofs.YtfndocmgonlhpaaGreatDoor
