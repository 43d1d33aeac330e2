/-
  What is proved here: like rows are told to be alike.
  What is proved here: what LentTexts hands back, what KeptTexts answers of what is kept.
  What is proved here: a round of joined: the lines of two parts, one behind the other.
  What is proved here: what joined answers: the lines of both parts.
  What is proved here: what CopyCells answers: the cells once more, their lines in rows of their own.
-/
import Derived.Test.YtaphggjakaghjaaGreatDoorG35
import Derived.Test.YtaphggjakaghjaaGreatDoorG18
import Derived.ProofKit
import Derived.OpenShut
import Derived.ChangeOld
import Derived.Below
import Derived.Deep.Slices
import Derived.SizedLaws
import Derived.Test.YtaphggjakaghjaaGreatDoorG8
import Derived.Test.YtaphggjakaghjaaGreatDoorG1
import Derived.Lib.SlBuf
import Derived.Laws.CopyRow
import Derived.Deep.AppendSrc
namespace Go.Proofs.YtaphggjakaghjaaGreatDoor
open Go.RowKit Go.Shelf
set_option maxRecDepth 100000
set_option maxHeartbeats 4000000

structure RoR (b o : Nat) (x : Int) (s v : Value) (W : World) : Prop where
 lt : b < W.heap.size
 c0 : W.cell? ⟨b,o,none⟩ = some (.int .i64 x)
 c1 : W.cell? ⟨b,o + 1,none⟩ = some s
 c2 : W.cell? ⟨b,o + 2,none⟩ = some v
theorem RoR.below {b o : Nat} {x : Int} {s v : Value} {W W' : World} (h : RoR b o x s v W) (hb : Below W.heap.size W W') : RoR b o x s v W' :=
 ⟨Nat.lt_of_lt_of_le h.lt hb.size,(hb.cell h.lt).trans h.c0,(hb.cell h.lt).trans h.c1,(hb.cell h.lt).trans h.c2⟩
def opSR (ps : String) : Array Oper := #[⟨some 17,.move (.tmp 0),27,ps,#[],none⟩,⟨some 18,.move (.tmp 5),3,ps,#[],none⟩,⟨some 19,.indexAddr 27 (.tmp 17) (.tmp 18),0,ps,#[⟨0,.data⟩,⟨1,.data⟩],none⟩,⟨some 20,.fieldAddr 39 (.tmp 19) 0,0,ps,#[⟨2,.data⟩],none⟩,⟨some 21,.load 3 (.tmp 20),3,ps,#[⟨3,.data⟩],none⟩,⟨some 22,.move (.tmp 1),27,ps,#[],none⟩,⟨some 23,.move (.tmp 5),3,ps,#[],none⟩,⟨some 24,.indexAddr 27 (.tmp 22) (.tmp 23),0,ps,#[⟨5,.data⟩,⟨6,.data⟩],none⟩,⟨some 25,.fieldAddr 39 (.tmp 24) 0,0,ps,#[⟨7,.data⟩],none⟩,⟨some 26,.load 3 (.tmp 25),3,ps,#[⟨8,.data⟩],none⟩,⟨some 27,.binOp .neq 3 (.tmp 21) (.tmp 26) 3,4,ps,#[⟨4,.data⟩,⟨9,.data⟩],none⟩,⟨some 28,.move (.tmp 27),4,ps,#[⟨10,.data⟩],none⟩,⟨some 29,.move (.tmp 0),27,ps,#[⟨11,.guard⟩],some (11,false)⟩,⟨some 30,.move (.tmp 5),3,ps,#[⟨11,.guard⟩],some (11,false)⟩,⟨some 31,.indexAddr 27 (.tmp 29) (.tmp 30),0,ps,#[⟨12,.data⟩,⟨13,.data⟩,⟨11,.guard⟩],some (11,false)⟩,⟨some 32,.fieldAddr 39 (.tmp 31) 1,0,ps,#[⟨14,.data⟩,⟨11,.guard⟩],some (11,false)⟩,⟨some 33,.load 36 (.tmp 32),36,ps,#[⟨15,.data⟩,⟨11,.guard⟩],some (11,false)⟩,⟨some 34,.move (.tmp 1),27,ps,#[⟨11,.guard⟩],some (11,false)⟩,⟨some 35,.move (.tmp 5),3,ps,#[⟨11,.guard⟩],some (11,false)⟩,⟨some 36,.indexAddr 27 (.tmp 34) (.tmp 35),0,ps,#[⟨17,.data⟩,⟨18,.data⟩,⟨11,.guard⟩],some (11,false)⟩,⟨some 37,.fieldAddr 39 (.tmp 36) 1,0,ps,#[⟨19,.data⟩,⟨11,.guard⟩],some (11,false)⟩,⟨some 38,.load 36 (.tmp 37),36,ps,#[⟨20,.data⟩,⟨11,.guard⟩],some (11,false)⟩,⟨some 39,.call ⟨.value (.func 32),#[.tmp 33,.tmp 38],#[36,36]⟩,4,ps,#[⟨16,.data⟩,⟨21,.data⟩,⟨11,.chain⟩,⟨11,.guard⟩],some (11,false)⟩,⟨some 40,.unOp .not 4 (.tmp 39),4,ps,#[⟨22,.data⟩,⟨11,.guard⟩],some (11,false)⟩,⟨some 41,.pick (.tmp 28) (.const (.bool true)) (.tmp 40),4,ps,#[⟨11,.data⟩,⟨23,.data⟩],none⟩,⟨some 42,.move (.tmp 41),4,ps,#[⟨24,.data⟩,⟨22,.chain⟩],none⟩,⟨some 43,.move (.tmp 0),27,ps,#[⟨25,.guard⟩],some (25,false)⟩,⟨some 44,.move (.tmp 5),3,ps,#[⟨25,.guard⟩],some (25,false)⟩,⟨some 45,.indexAddr 27 (.tmp 43) (.tmp 44),0,ps,#[⟨26,.data⟩,⟨27,.data⟩,⟨25,.guard⟩],some (25,false)⟩,⟨some 46,.fieldAddr 39 (.tmp 45) 2,0,ps,#[⟨28,.data⟩,⟨25,.guard⟩],some (25,false)⟩,⟨some 47,.load 37 (.tmp 46),37,ps,#[⟨29,.data⟩,⟨25,.guard⟩],some (25,false)⟩,⟨some 48,.move (.tmp 1),27,ps,#[⟨25,.guard⟩],some (25,false)⟩,⟨some 49,.move (.tmp 5),3,ps,#[⟨25,.guard⟩],some (25,false)⟩,⟨some 50,.indexAddr 27 (.tmp 48) (.tmp 49),0,ps,#[⟨31,.data⟩,⟨32,.data⟩,⟨25,.guard⟩],some (25,false)⟩,⟨some 51,.fieldAddr 39 (.tmp 50) 2,0,ps,#[⟨33,.data⟩,⟨25,.guard⟩],some (25,false)⟩,⟨some 52,.load 37 (.tmp 51),37,ps,#[⟨34,.data⟩,⟨25,.guard⟩],some (25,false)⟩,⟨some 53,.call ⟨.value (.func 23),#[.tmp 47,.tmp 52],#[37,37]⟩,4,ps,#[⟨30,.data⟩,⟨35,.data⟩,⟨25,.chain⟩,⟨25,.guard⟩],some (25,false)⟩,⟨some 54,.unOp .not 4 (.tmp 53),4,ps,#[⟨36,.data⟩,⟨25,.guard⟩],some (25,false)⟩,⟨some 55,.pick (.tmp 42) (.const (.bool true)) (.tmp 54),4,ps,#[⟨25,.data⟩,⟨37,.data⟩],none⟩]

theorem sr_r6 (Q : Exit → Act → World → Prop) (hQ : ∀ c x (n : Nat) v w,Q (.panic c) (x.put (some n) v) w → Q (.panic c) x w) (id : Nat) (ps : String) (ba oa na ca bb ob nb cb k : Nat) (x : Int) (sa sb va vb : Value) (v2 v3 v4 v6 v7 v8 v9 xa xb xc xd xe xf xg xh xi xj xk xl xm xn xo xp xq xr xt xu xv xw xx xy xz xA xB xC xD xE xF xG xH xI xJ xK xL xM xN xO xP xQ xR xS xT xU : Value) (W : World)
  (hka : (k : Int) < (na : Int)) (hkb : (k : Int) < (nb : Int)) (ha : RoR ba (oa + k * 3) x sa va W) (hb : RoR bb (ob + k * 3) x sb vb W)
  (hN : ∀ w0,Below W.heap.size W w0 → Calls Tryz.prog 32 #[sa,sb] w0 fun e w' => e = .returned (.bool true) ∧ Below W.heap.size W w')
  (hM : ∀ w0,Below W.heap.size W w0 → Calls Tryz.prog 23 #[va,vb] w0 fun e w' => e = .returned (.bool true) ∧ Below W.heap.size W w')
  (hK : ∀ W',Below W.heap.size W W' → Q .normal { tmps := #[.slice (some ⟨ba,oa,none⟩) na ca,.slice (some ⟨bb,ob,none⟩) nb cb,v2,v3,v4,.int .i64 (k : Nat),v6,v7,v8,v9,xa,xb,xc,xd,xe,xf,xg,.slice (some ⟨ba,oa,none⟩) na ca,.int .i64 (k : Nat),.pointer (some ⟨ba,oa + k * 3,none⟩),.pointer (some ⟨ba,oa + k * 3,none⟩),.int .i64 x,.slice (some ⟨bb,ob,none⟩) nb cb,.int .i64 (k : Nat),.pointer (some ⟨bb,ob + k * 3,none⟩),.pointer (some ⟨bb,ob + k * 3,none⟩),.int .i64 x,.bool false,.bool false,.slice (some ⟨ba,oa,none⟩) na ca,.int .i64 (k : Nat),.pointer (some ⟨ba,oa + k * 3,none⟩),.pointer (some ⟨ba,oa + k * 3 + 1,none⟩),sa,.slice (some ⟨bb,ob,none⟩) nb cb,.int .i64 (k : Nat),.pointer (some ⟨bb,ob + k * 3,none⟩),.pointer (some ⟨bb,ob + k * 3 + 1,none⟩),sb,.bool true,.bool false,.bool false,.bool false,.slice (some ⟨ba,oa,none⟩) na ca,.int .i64 (k : Nat),.pointer (some ⟨ba,oa + k * 3,none⟩),.pointer (some ⟨ba,oa + k * 3 + 2,none⟩),va,.slice (some ⟨bb,ob,none⟩) nb cb,.int .i64 (k : Nat),.pointer (some ⟨bb,ob + k * 3,none⟩),.pointer (some ⟨bb,ob + k * 3 + 2,none⟩),vb,.bool true,.bool false,.bool false],defers := [] } W') :
  (Code.region id (opSR ps) true).wp Tryz.prog Q { tmps := #[.slice (some ⟨ba,oa,none⟩) na ca,.slice (some ⟨bb,ob,none⟩) nb cb,v2,v3,v4,.int .i64 (k : Nat),v6,v7,v8,v9,xa,xb,xc,xd,xe,xf,xg,xh,xi,xj,xk,xl,xm,xn,xo,xp,xq,xr,xt,xu,xv,xw,xx,xy,xz,xA,xB,xC,xD,xE,xF,xG,xH,xI,xJ,xK,xL,xM,xN,xO,xP,xQ,xR,xS,xT,xU],defers := [] } W := by
 have hS : Below W.heap.size W W.drew := below_drew W
 refine wp_region_held (S := fun w => Below W.heap.size W w) (by kernel_rfl) ?_
 change wpAnyH _ _ _ _ _ 39 _ _ (World.drew W)
 generalize W.drew = V at hS ⊢
 unfold opSR
 refine wpAnyH_take (i := 0) (v := .slice (some ⟨ba,oa,none⟩) na ca) rfl (by kernel_rfl) (by kernel_rfl) (by kernel_rfl) (fun c x w => hQ c x _ _ w) (Or.inl ⟨by rfl,?y0⟩) hS ?_
 case y0 => (intro w' hw'; go_simp)
 go_simp
 refine wpAnyH_take (i := 1) (v := .int .i64 (k : Nat)) rfl (by kernel_rfl) (by kernel_rfl) (by kernel_rfl) (fun c x w => hQ c x _ _ w) (Or.inl ⟨by rfl,?y1⟩) hS ?_
 case y1 => (intro w' hw'; go_simp)
 go_simp
 refine wpAnyH_take (i := 2) (v := .pointer (some ⟨ba,oa + k * 3,none⟩)) rfl (by kernel_rfl) (by kernel_rfl) (by kernel_rfl) (fun c x w => hQ c x _ _ w) (Or.inl ⟨by rfl,?y2⟩) hS ?_
 case y2 => (intro w' hw'; go_simp)
 go_simp
 refine wpAnyH_take (i := 3) (v := .pointer (some ⟨ba,oa + k * 3,none⟩)) rfl (by kernel_rfl) (by kernel_rfl) (by kernel_rfl) (fun c x w => hQ c x _ _ w) (Or.inl ⟨by rfl,?y3⟩) hS ?_
 case y3 => (intro w' hw'; go_simp)
 go_simp
 refine wpAnyH_take (i := 4) (v := .int .i64 x) rfl (by kernel_rfl) (by kernel_rfl) (by kernel_rfl) (fun c x w => hQ c x _ _ w) (Or.inl ⟨by rfl,?y4⟩) hS ?_
 case y4 => (intro w' hw'; have ha' := ha.below hw'; have c0 := ha'.c0; have c1 := ha'.c1; have c2 := ha'.c2; go_simp)
 go_simp
 refine wpAnyH_take (i := 5) (v := .slice (some ⟨bb,ob,none⟩) nb cb) rfl (by kernel_rfl) (by kernel_rfl) (by kernel_rfl) (fun c x w => hQ c x _ _ w) (Or.inl ⟨by rfl,?y5⟩) hS ?_
 case y5 => (intro w' hw'; go_simp)
 go_simp
 refine wpAnyH_take (i := 6) (v := .int .i64 (k : Nat)) rfl (by kernel_rfl) (by kernel_rfl) (by kernel_rfl) (fun c x w => hQ c x _ _ w) (Or.inl ⟨by rfl,?y6⟩) hS ?_
 case y6 => (intro w' hw'; go_simp)
 go_simp
 refine wpAnyH_take (i := 7) (v := .pointer (some ⟨bb,ob + k * 3,none⟩)) rfl (by kernel_rfl) (by kernel_rfl) (by kernel_rfl) (fun c x w => hQ c x _ _ w) (Or.inl ⟨by rfl,?y7⟩) hS ?_
 case y7 => (intro w' hw'; go_simp)
 go_simp
 refine wpAnyH_take (i := 8) (v := .pointer (some ⟨bb,ob + k * 3,none⟩)) rfl (by kernel_rfl) (by kernel_rfl) (by kernel_rfl) (fun c x w => hQ c x _ _ w) (Or.inl ⟨by rfl,?y8⟩) hS ?_
 case y8 => (intro w' hw'; go_simp)
 go_simp
 refine wpAnyH_take (i := 9) (v := .int .i64 x) rfl (by kernel_rfl) (by kernel_rfl) (by kernel_rfl) (fun c x w => hQ c x _ _ w) (Or.inl ⟨by rfl,?y9⟩) hS ?_
 case y9 => (intro w' hw'; have hb' := hb.below hw'; have d0 := hb'.c0; have d1 := hb'.c1; have d2 := hb'.c2; go_simp)
 go_simp
 refine wpAnyH_take (i := 10) (v := .bool false) rfl (by kernel_rfl) (by kernel_rfl) (by kernel_rfl) (fun c x w => hQ c x _ _ w) (Or.inl ⟨by rfl,?y10⟩) hS ?_
 case y10 => (intro w' hw'; go_simp)
 go_simp
 refine wpAnyH_take (i := 11) (v := .bool false) rfl (by kernel_rfl) (by kernel_rfl) (by kernel_rfl) (fun c x w => hQ c x _ _ w) (Or.inl ⟨by rfl,?y11⟩) hS ?_
 case y11 => (intro w' hw'; go_simp)
 go_simp
 refine wpAnyH_take (i := 12) (v := .slice (some ⟨ba,oa,none⟩) na ca) rfl (by kernel_rfl) (by kernel_rfl) (by kernel_rfl) (fun c x w => hQ c x _ _ w) (Or.inl ⟨by rfl,?y12⟩) hS ?_
 case y12 => (intro w' hw'; go_simp)
 go_simp
 refine wpAnyH_take (i := 13) (v := .int .i64 (k : Nat)) rfl (by kernel_rfl) (by kernel_rfl) (by kernel_rfl) (fun c x w => hQ c x _ _ w) (Or.inl ⟨by rfl,?y13⟩) hS ?_
 case y13 => (intro w' hw'; go_simp)
 go_simp
 refine wpAnyH_take (i := 14) (v := .pointer (some ⟨ba,oa + k * 3,none⟩)) rfl (by kernel_rfl) (by kernel_rfl) (by kernel_rfl) (fun c x w => hQ c x _ _ w) (Or.inl ⟨by rfl,?y14⟩) hS ?_
 case y14 => (intro w' hw'; go_simp)
 go_simp
 refine wpAnyH_take (i := 15) (v := .pointer (some ⟨ba,oa + k * 3 + 1,none⟩)) rfl (by kernel_rfl) (by kernel_rfl) (by kernel_rfl) (fun c x w => hQ c x _ _ w) (Or.inl ⟨by rfl,?y15⟩) hS ?_
 case y15 => (intro w' hw'; go_simp)
 go_simp
 refine wpAnyH_take (i := 16) (v := sa) rfl (by kernel_rfl) (by kernel_rfl) (by kernel_rfl) (fun c x w => hQ c x _ _ w) (Or.inl ⟨by rfl,?y16⟩) hS ?_
 case y16 => (intro w' hw'; have ha' := ha.below hw'; have c0 := ha'.c0; have c1 := ha'.c1; have c2 := ha'.c2; go_simp)
 go_simp
 refine wpAnyH_take (i := 17) (v := .slice (some ⟨bb,ob,none⟩) nb cb) rfl (by kernel_rfl) (by kernel_rfl) (by kernel_rfl) (fun c x w => hQ c x _ _ w) (Or.inl ⟨by rfl,?y17⟩) hS ?_
 case y17 => (intro w' hw'; go_simp)
 go_simp
 refine wpAnyH_take (i := 18) (v := .int .i64 (k : Nat)) rfl (by kernel_rfl) (by kernel_rfl) (by kernel_rfl) (fun c x w => hQ c x _ _ w) (Or.inl ⟨by rfl,?y18⟩) hS ?_
 case y18 => (intro w' hw'; go_simp)
 go_simp
 refine wpAnyH_take (i := 19) (v := .pointer (some ⟨bb,ob + k * 3,none⟩)) rfl (by kernel_rfl) (by kernel_rfl) (by kernel_rfl) (fun c x w => hQ c x _ _ w) (Or.inl ⟨by rfl,?y19⟩) hS ?_
 case y19 => (intro w' hw'; go_simp)
 go_simp
 refine wpAnyH_take (i := 20) (v := .pointer (some ⟨bb,ob + k * 3 + 1,none⟩)) rfl (by kernel_rfl) (by kernel_rfl) (by kernel_rfl) (fun c x w => hQ c x _ _ w) (Or.inl ⟨by rfl,?y20⟩) hS ?_
 case y20 => (intro w' hw'; go_simp)
 go_simp
 refine wpAnyH_take (i := 21) (v := sb) rfl (by kernel_rfl) (by kernel_rfl) (by kernel_rfl) (fun c x w => hQ c x _ _ w) (Or.inl ⟨by rfl,?y21⟩) hS ?_
 case y21 => (intro w' hw'; have hb' := hb.below hw'; have d0 := hb'.c0; have d1 := hb'.c1; have d2 := hb'.c2; go_simp)
 go_simp
 refine want_h (i := 22) (by kernel_rfl) rfl (by kernel_rfl) fun K hK' => ?_
 go_simp
 refine (hN _ hS).mono ?_
 rintro e w1 ⟨rfl,hb1⟩
 refine hK' _ _ hb1 ?_
 clear hK' K hS
 go_simp
 refine wpAnyH_take (i := 23) (v := .bool false) rfl (by kernel_rfl) (by kernel_rfl) (by kernel_rfl) (fun c x w => hQ c x _ _ w) (Or.inl ⟨by rfl,?y23⟩) hb1 ?_
 case y23 => (intro w' hw'; go_simp)
 go_simp
 refine wpAnyH_take (i := 24) (v := .bool false) rfl (by kernel_rfl) (by kernel_rfl) (by kernel_rfl) (fun c x w => hQ c x _ _ w) (Or.inl ⟨by rfl,?y24⟩) hb1 ?_
 case y24 => (intro w' hw'; go_simp)
 go_simp
 refine wpAnyH_take (i := 25) (v := .bool false) rfl (by kernel_rfl) (by kernel_rfl) (by kernel_rfl) (fun c x w => hQ c x _ _ w) (Or.inl ⟨by rfl,?y25⟩) hb1 ?_
 case y25 => (intro w' hw'; go_simp)
 go_simp
 refine wpAnyH_take (i := 26) (v := .slice (some ⟨ba,oa,none⟩) na ca) rfl (by kernel_rfl) (by kernel_rfl) (by kernel_rfl) (fun c x w => hQ c x _ _ w) (Or.inl ⟨by rfl,?y26⟩) hb1 ?_
 case y26 => (intro w' hw'; go_simp)
 go_simp
 refine wpAnyH_take (i := 27) (v := .int .i64 (k : Nat)) rfl (by kernel_rfl) (by kernel_rfl) (by kernel_rfl) (fun c x w => hQ c x _ _ w) (Or.inl ⟨by rfl,?y27⟩) hb1 ?_
 case y27 => (intro w' hw'; go_simp)
 go_simp
 refine wpAnyH_take (i := 28) (v := .pointer (some ⟨ba,oa + k * 3,none⟩)) rfl (by kernel_rfl) (by kernel_rfl) (by kernel_rfl) (fun c x w => hQ c x _ _ w) (Or.inl ⟨by rfl,?y28⟩) hb1 ?_
 case y28 => (intro w' hw'; go_simp)
 go_simp
 refine wpAnyH_take (i := 29) (v := .pointer (some ⟨ba,oa + k * 3 + 2,none⟩)) rfl (by kernel_rfl) (by kernel_rfl) (by kernel_rfl) (fun c x w => hQ c x _ _ w) (Or.inl ⟨by rfl,?y29⟩) hb1 ?_
 case y29 => (intro w' hw'; go_simp)
 go_simp
 refine wpAnyH_take (i := 30) (v := va) rfl (by kernel_rfl) (by kernel_rfl) (by kernel_rfl) (fun c x w => hQ c x _ _ w) (Or.inl ⟨by rfl,?y30⟩) hb1 ?_
 case y30 => (intro w' hw'; have ha' := ha.below hw'; have c0 := ha'.c0; have c1 := ha'.c1; have c2 := ha'.c2; go_simp)
 go_simp
 refine wpAnyH_take (i := 31) (v := .slice (some ⟨bb,ob,none⟩) nb cb) rfl (by kernel_rfl) (by kernel_rfl) (by kernel_rfl) (fun c x w => hQ c x _ _ w) (Or.inl ⟨by rfl,?y31⟩) hb1 ?_
 case y31 => (intro w' hw'; go_simp)
 go_simp
 refine wpAnyH_take (i := 32) (v := .int .i64 (k : Nat)) rfl (by kernel_rfl) (by kernel_rfl) (by kernel_rfl) (fun c x w => hQ c x _ _ w) (Or.inl ⟨by rfl,?y32⟩) hb1 ?_
 case y32 => (intro w' hw'; go_simp)
 go_simp
 refine wpAnyH_take (i := 33) (v := .pointer (some ⟨bb,ob + k * 3,none⟩)) rfl (by kernel_rfl) (by kernel_rfl) (by kernel_rfl) (fun c x w => hQ c x _ _ w) (Or.inl ⟨by rfl,?y33⟩) hb1 ?_
 case y33 => (intro w' hw'; go_simp)
 go_simp
 refine wpAnyH_take (i := 34) (v := .pointer (some ⟨bb,ob + k * 3 + 2,none⟩)) rfl (by kernel_rfl) (by kernel_rfl) (by kernel_rfl) (fun c x w => hQ c x _ _ w) (Or.inl ⟨by rfl,?y34⟩) hb1 ?_
 case y34 => (intro w' hw'; go_simp)
 go_simp
 refine wpAnyH_take (i := 35) (v := vb) rfl (by kernel_rfl) (by kernel_rfl) (by kernel_rfl) (fun c x w => hQ c x _ _ w) (Or.inl ⟨by rfl,?y35⟩) hb1 ?_
 case y35 => (intro w' hw'; have hb' := hb.below hw'; have d0 := hb'.c0; have d1 := hb'.c1; have d2 := hb'.c2; go_simp)
 go_simp
 refine want_h (i := 36) (by kernel_rfl) rfl (by kernel_rfl) fun K hK' => ?_
 go_simp
 refine (hM _ hb1).mono ?_
 rintro e w1 ⟨rfl,hb2⟩
 refine hK' _ _ hb2 ?_
 clear hK' K hb1
 go_simp
 refine wpAnyH_take (i := 37) (v := .bool false) rfl (by kernel_rfl) (by kernel_rfl) (by kernel_rfl) (fun c x w => hQ c x _ _ w) (Or.inl ⟨by rfl,?y37⟩) hb2 ?_
 case y37 => (intro w' hw'; go_simp)
 go_simp
 refine wpAnyH_take (i := 38) (v := .bool false) rfl (by kernel_rfl) (by kernel_rfl) (by kernel_rfl) (fun c x w => hQ c x _ _ w) (Or.inl ⟨by rfl,?y38⟩) hb2 ?_
 case y38 => (intro w' hw'; go_simp)
 go_simp
 exact wpAnyH_done (by kernel_rfl) (hK _ hb2) _
theorem sameRows_yes (ba oa ca bb ob cb n : Nat) (w : World) (hl : n ≤ 400)
  (hat : Hid (∀ k,k < n → ∀ W,Below w.heap.size w W → ∃ (x : Int) (sa sb va vb : Value),RoR ba (oa + k * 3) x sa va W ∧ RoR bb (ob + k * 3) x sb vb W ∧ (∀ w0,Below W.heap.size W w0 → Calls Tryz.prog 32 #[sa,sb] w0 fun e w' => e = .returned (.bool true) ∧ Below W.heap.size W w') ∧ (∀ w0,Below W.heap.size W w0 → Calls Tryz.prog 23 #[va,vb] w0 fun e w' => e = .returned (.bool true) ∧ Below W.heap.size W w'))) :
  Calls Tryz.prog 13 #[.slice (some ⟨ba,oa,none⟩) n ca,.slice (some ⟨bb,ob,none⟩) n cb] w fun e w' => e = .returned (.bool true) ∧ Below w.heap.size w w' := by
 go_enter Tryz.func13,Tryz.ntmps13
 go_wp2_with fail
 go_loopw [5] (fun i wr => ∃ k : Nat,k ≤ n ∧ i = .int .i64 (k : Int) ∧ Hid (Below w.heap.size w wr)) (fun i _ => n - (intOf i).toNat)
 case atStart => exact ⟨0,by omega,rfl,Below.refl _ _⟩
 case round =>
  obtain ⟨k,hk,rfl,hb⟩ := hrel
  by_cases hlt : k < n
  ·have hlt' : (k : Int) < (n : Int) := by omega
   obtain ⟨x,sa,sb,va,vb,h1,h2,h3,h4⟩ := hat.out k hlt wr hb.out
   have hbh : Hid (∀ W',Below wr.heap.size wr W' → Below w.heap.size w W') := fun W' h => hb.out.trans (h.mono hb.out.size)
   have hh : Hid (RoR ba (oa + k * 3) x sa va wr ∧ RoR bb (ob + k * 3) x sb vb wr ∧ (∀ w0,Below wr.heap.size wr w0 → Calls Tryz.prog 32 #[sa,sb] w0 fun e w' => e = .returned (.bool true) ∧ Below wr.heap.size wr w') ∧ (∀ w0,Below wr.heap.size wr w0 → Calls Tryz.prog 23 #[va,vb] w0 fun e w' => e = .returned (.bool true) ∧ Below wr.heap.size wr w')) := ⟨h1,h2,h3,h4⟩
   clear h1 h2 h3 h4 hat hb
   go_wp2_with fail
   refine sr_r6 _ ?_ _ _ ba oa n ca bb ob n cb k x sa sb va vb _ _ _ _ _ _ _ _ _ _ _ _ _ _ _ _ _ _ _ _ _ _ _ _ _ _ _ _ _ _ _ _ _ _ _ _ _ _ _ _ _ _ _ _ _ _ _ _ _ _ _ _ _ wr hlt' hlt' hh.out.1 hh.out.2.1 hh.out.2.2.1 hh.out.2.2.2 ?_
   ·exact fun _ _ _ _ _ h => h
   intro w5 hb5
   have hB5 : Hid (Below w.heap.size w w5) := hbh.out w5 hb5
   clear hh hbh hb5
   go_wp2_with fail
   exact ⟨⟨k + 1,by omega,rfl,hB5.out⟩,by simp [intOf]; omega⟩
  ·have hkn : k = n := by omega
   subst hkn
   have hge : ¬ ((k : Nat) : Int) < (k : Int) := by omega
   go_wp2_with fail
   go_ret
   exact ⟨rfl,hb.out⟩
end Go.Proofs.YtaphggjakaghjaaGreatDoor

namespace Go.Proofs.YtaphggjakaghjaaGreatDoor
open Go.RowKit Go.Shelf

theorem fm_one {α : Type} {f : α → List Value} (h1 : ∀ a,∀ u ∈ f a,u.oneCell' = true) (ps : List α) : ∀ u ∈ ps.flatMap f,u.oneCell' = true := by
 intro u hu
 obtain ⟨p,_,hp⟩ := List.mem_flatMap.1 hu
 exact h1 p u hp

theorem rec_srcs {α : Type} {k : Nat} {f : α → List Value} (hf : ∀ a,(f a).length = k) (h1 : ∀ a,∀ u ∈ f a,u.oneCell' = true) (hk : 0 < k) {W : World} {v : Value} {rs : List α} (h : RecAt k f W v rs) : Srcs W k v rs.length (rs.flatMap f) := by
 refine ⟨fm_len hf rs,fm_one h1 rs,?_⟩
 obtain ⟨a,cap,rfl,h2⟩ := h.ex
 rcases h2 with rfl | ⟨b,o,rfl,hlt,hc⟩
 ·cases a with
  | none => exact .inl ⟨rfl,cap,rfl⟩
  | some a => exact .inr ⟨a,cap,rfl,fun j u hu => by simp at hu⟩
 ·refine .inr ⟨_,cap,rfl,fun j u hu => ?_⟩
  have hj : j < rs.length * k := by rw [← fm_len hf]; exact (List.getElem?_eq_some_iff.1 hu).1
  have hi : j / k < rs.length := by rw [Nat.div_lt_iff_lt_mul hk]; omega
  have hm : j % k < k := Nat.mod_lt _ hk
  have hg := fm_get hf rs hi (j % k) hm
  have hjj : j / k * k + j % k = j := by have := Nat.div_add_mod j k; rw [Nat.mul_comm] at this; exact this
  rw [hjj,hu] at hg
  have := hc (j / k) hi (j % k) u hg.symm
  rw [addr_add]
  rw [← this]
  congr 2
  omega
end Go.Proofs.YtaphggjakaghjaaGreatDoor

namespace Go.Proofs.YtaphggjakaghjaaGreatDoor
open Go.RowKit Go.Shelf

theorem run_append_any {P : Program} (w : World) (base : Nat) (t ty e : TypeId) (i : TypeInfo) (z : Value) (size bytes : Nat) (ht : P.underlying t = some (.slice e)) (hi : P.info? e = some i) (hz : i.zero = some z)
  (hsize : i.size = size) (hby : i.bytes = bytes) (hzs : z.cells.size = size) (hsz : 0 < size)
  (v : Value) (n : Nat) (xs : List Value) (hown : w.ownsRow base e size v n xs) (x : Value) (m : Nat) (news : List Value) (hx : Srcs w size x m news)
  (h63 : n + m ≤ maxLen) (hbytes : (n + m) * bytes ≤ 140737488355328) (hbase : base ≤ w.heap.size) :
  ∃ v' w',(Builtin.append_ #[t,t] ty #[v,x]).run P w = .ok v' w' ∧ w'.ownsRow base e size v' (n + m) (xs ++ news) ∧ w.grownBy w' v.ownBlock := by
 obtain ⟨hl,h1,hx⟩ := hx
 rcases hx with ⟨rfl,c,rfl⟩ | ⟨a,c,rfl,hc⟩
 ·have hn : news = [] := List.eq_nil_of_length_eq_zero (by simpa using hl)
  subst hn
  refine ⟨v,w,?_,by simpa using hown,World.grownBy.refl _ _⟩
  rcases hown.2 with ⟨rfl,rfl⟩ | ⟨g,cap,cur,rfl,hbg,hg,hnc,hcm,hcs,htake⟩
  ·simp [Builtin.append_,run_underlying ht,sizeOf,typeInfo,hi,Builtin.lenOf,run_firstCells_none]
  ·have := run_append_room_src (P := P) w t t ty e i ht hi g 0 n cap (.slice none 0 c) 0 [] (Src.ofNil w ht c) (by omega) (by simp) (by simp)
   rw [this]
   simp [World.setCells]
 ·obtain ⟨v',w',r0,r1,r2,_⟩ := run_append_own (P := P) w base t ty e i z size bytes ht hi hz hsize hby hzs hsz v n xs hown a m c news hl hc h1 h63 hbytes hbase
  exact ⟨v',w',r0,r1,r2⟩
theorem below_grown {B base : Nat} {w w1 w2 : World} {e : TypeId} {size n : Nat} {v : Value} {xs : List Value} (h : Below B w w1) (hrow : w1.ownsRow base e size v n xs) (hBw : B ≤ w.heap.size) (hB : B ≤ base) (hg : w1.grownBy w2 v.ownBlock) : Below B w w2 := by
 refine ⟨hg.os.trans h.1,hg.tape.trans h.2,hg.output.trans h.3,Nat.le_trans h.size hg.size,fun k hk => ?_⟩
 exact (hg.block k (by have := h.size; omega) (fun he => by have := (hrow.lt k he.symm).1; omega)).trans (h.block k hk)
theorem ownsRow_lit (w : World) (e : TypeId) (size : Nat) (base : Nat) (hb : base ≤ w.heap.size) : (w.alloc (.cells #[] e)).ownsRow base e size (.slice (some ⟨w.heap.size,0,none⟩) 0 0) 0 [] :=
 ⟨by simp,.inr ⟨w.heap.size,0,#[],rfl,hb,World.alloc_heap_new w _,by omega,by unfold maxLen; omega,by simp,by simp⟩⟩
theorem build0 (W : World) : (Instr.buildSlice 44 0 #[]).run Tryz.prog W = .ok (.slice (some ⟨W.heap.size,0,none⟩) 0 0) (W.alloc (.cells #[] 55)) := by kernel_rfl
end Go.Proofs.YtaphggjakaghjaaGreatDoor

namespace Go.Proofs.YtaphggjakaghjaaGreatDoor
open Go.RowKit Go.Shelf

structure JnIs (a b d : Cel) : Prop where
 x : d.x = a.x
 w : d.w = a.w
 ls : d.ls = a.ls ++ b.ls
structure JI (w : World) (xs ys : List Cel) (k : Nat) (v : Value) (W : World) : Prop where
 low : Below w.heap.size w W
 ex : ∃ d : List Cel,d.length = k ∧ W.ownsRow w.heap.size 46 3 v d.length (d.flatMap ceL) ∧ ∀ i (h : i < d.length),JnIs (xs.getD i ce0) (ys.getD i ce0) d[i] ∧ W.ownsRow w.heap.size 55 7 d[i].v d[i].ls.length (d[i].ls.flatMap lxL) ∧ ∀ g,d[i].v.ownBlock = some g → v.ownBlock ≠ some g
theorem wpList_app_run {ops : Array Oper} {rest : List Oper} {oi : Oper} {a : Act} {w : World} {Q : Exit → Act → World → Prop} (hgd : oi.guard = none) (s x : Operand) (t : TypeId) (hop : oi.op = Op.call { callee := Callee.builtin Builtin.append,args := #[s,x],argTypes := #[t,t] })
  (v u v' : Value) (w' : World) (hs : a.eval s = v) (hx : a.eval x = u) (hrun : (Builtin.append_ #[t,t] oi.type #[v,u]).run Tryz.prog w = .ok v' w') (h : wpList Tryz.prog ops Q rest (a.put oi.dst v') w') : wpList Tryz.prog ops Q (oi :: rest) a w :=
 wpList_plain hgd fun _ hK => by
  unfold Oper.wp
  simp [execOp,hop,resolve,invoke,builtin,hs,hx,hrun,Result.andThen]
  exact hK _ _ h
theorem el46 : ElOk 37 46 3 40 := ElOk.of Tryz.underlying37 (by kernel_rfl)
theorem build46 (x y : Int) (a : Option Addr) (n c : Nat) (W : World) : (Instr.buildSlice 37 1 #[(0,.agg #[.int .i64 x,.int .i64 y,.slice a n c])]).run Tryz.prog W = .ok (.slice (some ⟨W.heap.size,0,none⟩) 1 1) (W.alloc (.cells #[.int .i64 x,.int .i64 y,.slice a n c] 46)) := by
 kernel_rfl
theorem wpList_build46 {ops : Array Oper} {rest : List Oper} {oi : Oper} {a : Act} {w : World} {Q : Exit → Act → World → Prop} (hgd : oi.guard = none) (z : Operand) (ho : oi.op = .buildSlice 37 1 #[(0,z)]) (x y : Int) (p : Option Addr) (n c : Nat) (hy : a.eval z = .agg #[.int .i64 x,.int .i64 y,.slice p n c])
  (h : wpList Tryz.prog ops Q rest (a.put oi.dst (.slice (some ⟨w.heap.size,0,none⟩) 1 1)) (w.alloc (.cells #[.int .i64 x,.int .i64 y,.slice p n c] 46))) : wpList Tryz.prog ops Q (oi :: rest) a w :=
 wpList_plain hgd fun _ hK => by
  have hr := build46 x y p n c w
  unfold Oper.wp execOp
  simp only [ho,List.map_toArray,List.map_cons,List.map_nil,hy,Sem.run_bind,Sem.run_pure,Result.andThen_ok,hr]
  exact hK _ _ h
theorem JI.step {w : World} {xs ys : List Cel} {k : Nat} {v : Value} {W W6 : World} (h : JI w xs ys k v W) (hk : k ≤ 5000) (hb : Below W.heap.size W W6) {x y : Int} {a : Option Addr} {n c : Nat} {ls : List Lx} (hi : JnIs (xs.getD k ce0) (ys.getD k ce0) ⟨x,y,.slice a n c,ls⟩) (hu : W6.ownsRow W.heap.size 55 7 (.slice a n c) ls.length (ls.flatMap lxL)) :
  ∃ (a' : Option Addr) (c' : Nat) (w' : World),(Builtin.append_ #[37,37] 37 #[v,.slice (some ⟨W6.heap.size,0,none⟩) 1 1]).run Tryz.prog (W6.alloc (.cells #[.int .i64 x,.int .i64 y,.slice a n c] 46)) = .ok (.slice a' (k + 1) c') w' ∧ JI w xs ys (k + 1) (.slice a' (k + 1) c') w' := by
 obtain ⟨d,rfl,hr,hc⟩ := h.ex
 obtain ⟨hut,i0,z,hi0,hz0,hz1,hz2,hz3⟩ := el46
 have hr6 := ownsRow_below hr hb
 have hlow := h.low.trans (hb.mono h.low.size)
 have hone : ∀ u ∈ ceL ⟨x,y,.slice a n c,ls⟩,u.oneCell' = true := by
  intro u hu
  simp only [ceL,List.mem_cons,List.not_mem_nil,or_false] at hu
  rcases hu with rfl | rfl | rfl <;> rfl
 obtain ⟨v',w',hrun,r1,r2,r3⟩ := run_append_where (P := Tryz.prog) (W6.alloc (.cells (ceL ⟨x,y,.slice a n c,ls⟩).toArray 46)) w.heap.size 37 37 46 i0 z 3 40 hut hi0 hz0 hz1 hz2 hz3 (by omega) v d.length (d.flatMap ceL) (hr6.alloc _) ⟨W6.heap.size,0,none⟩ 1 1 (ceL ⟨x,y,.slice a n c,ls⟩) rfl (rec_cells ceL_len W6 46 _) hone (by unfold maxLen; omega) (by omega) (by have := hlow.size; simp; omega)
 obtain ⟨a',c',rfl⟩ := owns_slice r1
 have hsa : (W6.alloc (.cells (ceL ⟨x,y,.slice a n c,ls⟩).toArray 46)).heap.size = W6.heap.size + 1 := World.size_alloc _ _
 have hsb := hb.size
 have hT : Turns (fun j => v.ownBlock = some j) W6 w' := by
  have t0 : Turns (fun j => v.ownBlock = some j) W6 (W6.alloc (.cells (ceL ⟨x,y,.slice a n c,ls⟩).toArray 46)) := Turns.alloc _ _ _
  exact t0.trans ⟨r2.os,r2.tape,r2.output,r2.size,fun j hj hX => r2.block j hj (fun e => hX e.symm)⟩
 have hnew : ∀ g,g < W6.heap.size → v.ownBlock ≠ some g → (Value.slice a' (d.length + 1) c').ownBlock ≠ some g := fun g hlt hne e => by
  rcases r3 with h | h
  ·exact hne (h.symm.trans e)
  ·have := h g e; omega
 have hlv : ∀ g,v.ownBlock = some g → w.heap.size ≤ g ∧ g < W.heap.size := fun g e => hr.lt g e
 refine ⟨a',c',w',hrun,hlow.trans (hT.below hlow.size (fun j hj => (hlv j hj).1)),d ++ [⟨x,y,.slice a n c,ls⟩],by simp,?_,fun i hi' => ?_⟩
 ·rw [List.length_append,List.flatMap_append]
  have e1 : [(⟨x,y,.slice a n c,ls⟩ : Cel)].flatMap ceL = ceL ⟨x,y,.slice a n c,ls⟩ := by simp
  rw [e1]
  exact r1
 ·by_cases e : i = d.length
  ·subst e
   have e2 : (d ++ [(⟨x,y,.slice a n c,ls⟩ : Cel)])[d.length]'hi' = ⟨x,y,.slice a n c,ls⟩ := by rw [List.getElem_append_right (Nat.le_refl _)]; simp
   rw [e2]
   have hne : ∀ g,(Value.slice a n c).ownBlock = some g → v.ownBlock ≠ some g := fun g hg e => by
    have := (hu.lt g hg).1
    have := (hlv g e).2
    omega
   exact ⟨hi,ownsRow_base (ownsRow_turns hu hT (fun g hg e => hne g hg e)) h.low.size,fun g hg => hnew g (hu.lt g hg).2 (hne g hg)⟩
  ·have hlt : i < d.length := by rw [List.length_append] at hi'; simp at hi'; omega
   have e2 : (d ++ [(⟨x,y,.slice a n c,ls⟩ : Cel)])[i]'hi' = d[i] := List.getElem_append_left hlt
   rw [e2]
   obtain ⟨q1,q2,q3⟩ := hc i hlt
   have q2' := ownsRow_below q2 hb
   exact ⟨q1,ownsRow_turns q2' hT (fun g hg e => q3 g hg e),fun g hg => hnew g (q2'.lt g hg).2 (q3 g hg)⟩
end Go.Proofs.YtaphggjakaghjaaGreatDoor

namespace Go.Proofs.YtaphggjakaghjaaGreatDoor
open Go.RowKit Go.Shelf
set_option maxRecDepth 100000
set_option maxHeartbeats 4000000

theorem wpList_build0 {ops : Array Oper} {rest : List Oper} {oi : Oper} {a : Act} {w : World} {Q : Exit → Act → World → Prop} (hgd : oi.guard = none) (t e : TypeId) (ho : oi.op = .buildSlice t 0 #[]) (hr : ∀ W : World,(Instr.buildSlice t 0 #[]).run Tryz.prog W = .ok (.slice (some ⟨W.heap.size,0,none⟩) 0 0) (W.alloc (.cells #[] e)))
  (h : wpList Tryz.prog ops Q rest (a.put oi.dst (.slice (some ⟨w.heap.size,0,none⟩) 0 0)) (w.alloc (.cells #[] e))) : wpList Tryz.prog ops Q (oi :: rest) a w :=
 wpList_plain hgd fun _ hK => by
  have hr := hr w
  unfold Oper.wp execOp
  simp only [ho,List.map_toArray,List.map_nil,Sem.run_bind,Sem.run_pure,Result.andThen_ok,hr]
  exact hK _ _ h
theorem cp_run {α : Type} {f : α → List Value} {t e : TypeId} {k bytes : Nat} (hE : ElOk t e k bytes) (hk : 0 < k) (_hby : bytes ≤ 1000) (hf : ∀ a,(f a).length = k) (h1 : ∀ a,∀ u ∈ f a,u.oneCell' = true) {w : World} {v : Value} {l : List α} (h : RecAt k f w v l) (hl : l.length * bytes ≤ 140737488355328) (hl2 : l.length ≤ 9223372036854775807) (W : World) (hb : Below w.heap.size w W) :
  ∃ (a' : Option Addr) (c' : Nat) (W' : World),(Builtin.append_ #[t,t] t #[.slice (some ⟨W.heap.size,0,none⟩) 0 0,v]).run Tryz.prog (W.alloc (.cells #[] e)) = .ok (.slice a' l.length c') W' ∧ W'.ownsRow W.heap.size e k (.slice a' l.length c') l.length (l.flatMap f) ∧ Below W.heap.size W W' := by
 obtain ⟨hut,i,z,hi,hz0,hz1,hz2,hz3⟩ := hE
 have hB1 : Below W.heap.size W (W.alloc (.cells #[] e)) := (Below.refl _ _).alloc (Nat.le_refl _) _
 have hs := rec_srcs hf h1 hk ((h.below hb (Nat.le_refl _)).below hB1 (Nat.le_refl _))
 have hlit := ownsRow_lit W e k W.heap.size (Nat.le_refl _)
 have hbb : (0 + l.length) * bytes ≤ 140737488355328 := by rw [Nat.zero_add]; exact hl
 obtain ⟨v',w',hrun,r1,r2⟩ := run_append_any (P := Tryz.prog) _ W.heap.size t t e i z k bytes hut hi hz0 hz1 hz2 hz3 hk _ 0 [] hlit v l.length (l.flatMap f) hs (by unfold maxLen; omega) hbb hB1.size
 have hB := below_grown hB1 hlit (Nat.le_refl _) (Nat.le_refl _) r2
 obtain ⟨a',c',rfl⟩ := owns_slice r1
 rw [Nat.zero_add,List.nil_append] at r1
 rw [Nat.zero_add] at hrun
 refine ⟨a',c',w',hrun,?_,hB⟩
 first | exact r1 | simpa using r1

def CpEnd (xs : List Cel) (w : World) (e : Ending) (w' : World) : Prop := (∃ (v : Value) (d : List Cel),e = .returned v ∧ d.length = xs.length ∧ w'.ownsRow w.heap.size 46 3 v d.length (d.flatMap ceL) ∧ ∀ i (h : i < d.length),JnIs (xs.getD i ce0) ((([] : List Cel)).getD i ce0) d[i] ∧ w'.ownsRow w.heap.size 55 7 d[i].v d[i].ls.length (d[i].ls.flatMap lxL)) ∧ Below w.heap.size w w'
theorem copyCells_any (v : Value) (xs : List Cel) (w : World) (h4 : xs.length ≤ 400) (hA : RecAt 3 ceL w v xs) (hla : ∀ c ∈ xs,LxsAt w c.v c.ls ∧ c.ls.length ≤ 20000) :
  Calls Tryz.prog 37 #[v] w (CpEnd xs w) := by
 have hat : Hid (∀ k,k < xs.length → ∀ W,Below w.heap.size w W → ∃ (ba oa ca : Nat) (x y : Int) (a1 : Option Addr) (c1 : Nat),v = .slice (some ⟨ba,oa,none⟩) xs.length ca ∧ ba < W.heap.size ∧ W.rangeAt ba (oa + k * 3) [.int .i64 x,.int .i64 y,.slice a1 (xs.getD k ce0).ls.length c1] ∧ LxsAt W (.slice a1 (xs.getD k ce0).ls.length c1) (xs.getD k ce0).ls ∧ (xs.getD k ce0).ls.length ≤ 20000 ∧ x = (xs.getD k ce0).x ∧ y = (xs.getD k ce0).w) := fun k hk W hb => by
  have g1 : xs.getD k ce0 = xs[k] := by rw [List.getD_eq_getElem?_getD,List.getElem?_eq_getElem hk]; rfl
  obtain ⟨p1,cp1,rfl,e1⟩ := hA.ex
  rcases e1 with e1 | ⟨b1,o1,rfl,l1,r1⟩
  ·rw [e1] at hk; simp at hk
  ·have m1 := List.getElem_mem hk
   have q1 := (hla _ m1).1.below hb (Nat.le_refl _)
   obtain ⟨a1,c1,hv1,-⟩ := q1.ex
   refine ⟨b1,o1,cp1,xs[k].x,xs[k].w,a1,c1,rfl,Nat.lt_of_lt_of_le l1 hb.size,?_,?_,?_,by rw [g1],by rw [g1]⟩
   ·rw [g1]
    have e : ceL xs[k] = [.int .i64 xs[k].x,.int .i64 xs[k].w,.slice a1 xs[k].ls.length c1] := by show [_,_,xs[k].v] = _; rw [hv1]
    rw [← e]
    exact fun j t ht => (hb.cell l1).trans (r1 k hk j t ht)
   ·rw [g1,← hv1]; exact q1
   ·rw [g1]; exact (hla _ m1).2
 have hend : Hid (∀ W v',JI w xs [] xs.length v' W → CpEnd xs w (.returned v') W) := fun W v' hI => by
  obtain ⟨d,hd,hr,hc⟩ := hI.ex
  exact ⟨⟨v',d,rfl,hd,hr,fun i hi => ⟨(hc i hi).1,(hc i hi).2.1⟩⟩,hI.low⟩
 obtain ⟨p1,q1,rfl⟩ : ∃ a c,v = .slice a xs.length c := by obtain ⟨a,c,h,_⟩ := hA.ex; exact ⟨a,c,h⟩
 have hI0 : Hid (JI w xs [] 0 (.slice none 0 0) w) := ⟨Below.refl _ _,[],rfl,World.ownsRow_nil _ _ _ _,fun i hi => by simp at hi⟩
 generalize CpEnd xs w = E at *
 clear hA hla
 go_enter Tryz.func37,Tryz.ntmps37
 go_wp2_with fail
 go_loopw [3,4] (fun v3 v4 wr => ∃ (k : Nat) (a : Option Addr) (c : Nat),k ≤ xs.length ∧ v4 = .int .i64 (k : Int) ∧ v3 = .slice a k c ∧ Hid (JI w xs [] k (.slice a k c) wr)) (fun _ v4 _ => xs.length - (intOf v4).toNat)
 case atStart => exact ⟨0,none,0,by omega,rfl,rfl,hI0⟩
 case round =>
  obtain ⟨k,ra,rc,hk,rfl,rfl,hI⟩ := hrel
  clear hI0
  by_cases hlt : k < xs.length
  ·have hlt' : (k : Int) < (xs.length : Int) := by omega
   obtain ⟨ba,oa,ca,x,y,a1,c1,e1,hba,hrg,hl1,hn1,hx,hy⟩ := hat.out k hlt wr hI.out.low
   obtain ⟨rfl,-,rfl⟩ : p1 = some ⟨ba,oa,none⟩ ∧ True ∧ q1 = ca := by simpa using e1
   have hz0 : (wr.alloc (.cells #[.int .i64 0,.int .i64 0,.slice none 0 0] 46)).heap[wr.heap.size]? = some (.cells #[.int .i64 0,.int .i64 0,.slice none 0 0] 46 (0,0)) := World.alloc_heap_new wr _
   have hbx := below_box wr (.cells #[.int .i64 0,.int .i64 0,.slice none 0 0] 46) #[.int .i64 x,.int .i64 y,.slice a1 (xs.getD k ce0).ls.length c1]
   have hz1 := setRow_heap _ _ _ (#[.int .i64 x,.int .i64 y,.slice a1 (xs.getD k ce0).ls.length c1] : Array Value) _ _ hz0
   have hsz : ((wr.alloc (.cells #[.int .i64 0,.int .i64 0,.slice none 0 0] 46)).setRow wr.heap.size #[.int .i64 x,.int .i64 y,.slice a1 (xs.getD k ce0).ls.length c1]).heap.size = wr.heap.size + 1 := by simp
   have hJn : Hid (∀ a n c,JnIs (xs.getD k ce0) ((([] : List Cel)).getD k ce0) ⟨x,y,.slice a n c,(xs.getD k ce0).ls⟩) := fun a n c => ⟨hx,hy,by show _ = _ ++ []; rw [List.append_nil]⟩
   have hk4 : k ≤ 5000 := by omega
   obtain ⟨w5,hw5⟩ : ∃ w5,(wr.alloc (.cells #[.int .i64 0,.int .i64 0,.slice none 0 0] 46)).setRow wr.heap.size #[.int .i64 x,.int .i64 y,.slice a1 (xs.getD k ce0).ls.length c1] = w5 := ⟨_,rfl⟩
   have hz1' : w5.heap[wr.heap.size]? = some (.cells #[.int .i64 x,.int .i64 y,.slice a1 (xs.getD k ce0).ls.length c1] 46 (0,0)) := by rw [← hw5]; exact hz1
   rw [hw5] at hbx hsz
   clear hz1
   obtain ⟨a3,c3,w6,hrun3,hu6,hb6⟩ := cp_run el55 (by decide) (by decide) lxL_len lxL_one hl1 (by omega) (by omega) w5 hbx
   have hb5 : Below wr.heap.size wr w6 := hbx.trans (hb6.mono (by omega))
   have hT7 := Turns.setCell (X := fun j => j = wr.heap.size) w6 (p := ⟨wr.heap.size,2,none⟩) rfl (.slice a3 (xs.getD k ce0).ls.length c3)
   have hBa : Below w5.heap.size w5 (w5.alloc (.cells #[] 55)) := (Below.refl _ _).alloc (Nat.le_refl _) _
   have yA := (hBa.block wr.heap.size (by omega)).trans hz1'
   have kA : (w5.alloc (.cells #[] 55)).cell? ⟨wr.heap.size,2,none⟩ = some (.slice a1 (xs.getD k ce0).ls.length c1) := (Lib.cell_of_heap yA _).trans rfl
   have y6 := (hb6.block wr.heap.size (by omega)).trans hz1'
   have k6 : w6.cell? ⟨wr.heap.size,2,none⟩ = some (.slice a1 (xs.getD k ce0).ls.length c1) := (Lib.cell_of_heap y6 _).trans rfl
   have f6 : w6.frozen? ⟨wr.heap.size,2,none⟩ = false := Lib.frozen_of_heap y6 _
   have y7 := heap_setCell_same w6 wr.heap.size 2 _ 46 (.slice a3 (xs.getD k ce0).ls.length c3) y6
   have hu7 := ownsRow_turns hu6 hT7 (fun g hg e => by have := (hu6.lt g hg).1; omega)
   have hb7 : Below wr.heap.size wr (w6.setCell ⟨wr.heap.size,2,none⟩ (.slice a3 (xs.getD k ce0).ls.length c3)) := hb5.trans (hT7.below hb5.size (fun j hj => by omega))
   obtain ⟨ra',rc',w8,hrun,hI8⟩ := hI.out.step hk4 hb7 (hJn.out a3 _ c3) (ownsRow_base hu7 (by omega))
   have hI8h : Hid (JI w xs [] (k + 1) (.slice ra' (k + 1) rc') w8) := hI8
   have y7' : Hid ((w6.setCell ⟨wr.heap.size,2,none⟩ (.slice a3 (xs.getD k ce0).ls.length c3)).heap[wr.heap.size]? = some (.cells #[.int .i64 x,.int .i64 y,.slice a3 (xs.getD k ce0).ls.length c3] 46 (0,0))) := y7
   replace hrun3 : Hid _ := hrun3
   replace hrun : Hid _ := hrun
   replace hw5 : Hid _ := hw5
   obtain ⟨w7,hw7⟩ : ∃ w7,w6.setCell ⟨wr.heap.size,2,none⟩ (.slice a3 (xs.getD k ce0).ls.length c3) = w7 := ⟨_,rfl⟩
   rw [hw7] at hrun y7'
   have hw7h : Hid (w6.setCell ⟨wr.heap.size,2,none⟩ (.slice a3 (xs.getD k ce0).ls.length c3) = w7) := hw7
   clear hI hI8 hJn hbx hsz hb5 hT7 y6 y7 hu7 hb7 hb6 hu6 hend hat e1 hx hy hl1 hn1 hBa yA hz1' hk4 hw7 hba
   generalize (xs.getD k ce0).ls.length = m at *
   go_wp2_with (first | (refine wpList_load_mid rfl 46 _ rfl ba (oa + k * 3) rfl [.int .i64 x,.int .i64 y,.slice a1 m c1] _ hrg Tryz.underlying46 rfl (info46m _ _ _) ?_) | (refine wpList_store_row rfl 46 _ _ rfl wr.heap.size #[.int .i64 x,.int .i64 y,.slice a1 m c1] rfl rfl 46 _ hz0 (info46 _ _ _) rfl (one46 _ _ _ _ _) ?_; clear hz0 hrg; rw [hw5.out]) | (refine wpList_build0 rfl 44 55 rfl build0 ?_) | (refine wpList_app_run rfl _ _ 44 rfl (.slice (some ⟨w5.heap.size,0,none⟩) 0 0) (.slice a1 m c1) (.slice a3 m c3) w6 rfl rfl hrun3.out ?_; clear kA) | (refine wpList_load_row rfl 46 _ rfl wr.heap.size rfl 46 _ (0,0) _ (by first | exact y7'.out | (rw [hw7h.out]; exact y7'.out)) Tryz.underlying46 rfl (info46 _ _ _) ?_; try rw [hw7h.out]) | (refine wpList_build46 rfl _ rfl x y a3 m c3 rfl ?_) | (refine wpList_app_run rfl _ _ 37 rfl (.slice ra k rc) (.slice (some ⟨w7.heap.size,0,none⟩) 1 1) (.slice ra' (k + 1) rc') w8 rfl rfl hrun.out ?_))
   exact ⟨⟨k + 1,ra',rc',by omega,rfl,rfl,hI8h.out⟩,by simp [intOf]; omega⟩
  ·have hkn : k = xs.length := by omega
   subst hkn
   have hge : ¬ ((xs.length : Nat) : Int) < (xs.length : Int) := by omega
   go_wp2_with fail
   exact hend.out _ _ hI.out
end Go.Proofs.YtaphggjakaghjaaGreatDoor
