/-
  What is proved here: like lines and like cells are told to be alike.
-/
import Derived.Test.YtaphggjakaghjaaGreatDoorG34
namespace Go.Proofs.YtaphggjakaghjaaGreatDoor
open Go.RowKit Go.Shelf
set_option maxRecDepth 100000
set_option maxHeartbeats 4000000

theorem sameLines_yes (v u : Value) (qs : List Lx) (w : World) (hl : qs.length ≤ 9223372036854775807) (hS : LxsAt w v qs) (hR : LxsAt w u qs) :
  Calls Tryz.prog 39 #[v,u] w fun e w' => e = .returned (.bool true) ∧ Below w.heap.size w w' := by
 obtain ⟨a,cap,rfl,h2⟩ := hS.ex
 obtain ⟨a',cap',rfl,h3⟩ := hR.ex
 clear hS hR
 go_enter Tryz.func39,Tryz.ntmps39
 go_wp2_with fail
 go_loopw [5] (fun i wr => ∃ k : Nat,k ≤ qs.length ∧ i = .int .i64 k ∧ Below w.heap.size w wr) (fun i _ => qs.length - (intOf i).toNat)
 case atStart => exact ⟨0,by omega,rfl,Below.refl _ _⟩
 case round =>
  obtain ⟨k,hk,rfl,hb⟩ := hrel
  by_cases hlt : k < qs.length
  ·rcases h2 with h2 | ⟨b,o,rfl,hbl,hc⟩
   ·rw [h2] at hlt; simp at hlt
   ·rcases h3 with h3 | ⟨b',o',rfl,hbl',hc'⟩
    ·rw [h3] at hlt; simp at hlt
    ·have hlt' : (k : Int) < qs.length := by omega
     have c0 : wr.cell? ⟨b,o + k * 7,none⟩ = some (.int .i64 (qs[k]).f) := (hb.cell hbl).trans (hc k hlt 0 _ rfl)
     have c1 : wr.cell? ⟨b,o + k * 7 + 1,none⟩ = some (.int .i64 (qs[k]).t) := (hb.cell hbl).trans (hc k hlt 1 _ rfl)
     have c2 : wr.cell? ⟨b,o + k * 7 + 2,none⟩ = some (.int .i64 (qs[k]).x) := (hb.cell hbl).trans (hc k hlt 2 _ rfl)
     have c3 : wr.cell? ⟨b,o + k * 7 + 3,none⟩ = some (.int .i64 (qs[k]).w) := (hb.cell hbl).trans (hc k hlt 3 _ rfl)
     have c4 : wr.cell? ⟨b,o + k * 7 + 4,none⟩ = some (.int .i64 (qs[k]).nt) := (hb.cell hbl).trans (hc k hlt 4 _ rfl)
     have c5 : wr.cell? ⟨b,o + k * 7 + 5,none⟩ = some (.bool (qs[k]).hy) := (hb.cell hbl).trans (hc k hlt 5 _ rfl)
     have c6 : wr.cell? ⟨b,o + k * 7 + 6,none⟩ = some (.int .i64 (qs[k]).fl) := (hb.cell hbl).trans (hc k hlt 6 _ rfl)
     have d0 : wr.cell? ⟨b',o' + k * 7,none⟩ = some (.int .i64 (qs[k]).f) := (hb.cell hbl').trans (hc' k hlt 0 _ rfl)
     have d1 : wr.cell? ⟨b',o' + k * 7 + 1,none⟩ = some (.int .i64 (qs[k]).t) := (hb.cell hbl').trans (hc' k hlt 1 _ rfl)
     have d2 : wr.cell? ⟨b',o' + k * 7 + 2,none⟩ = some (.int .i64 (qs[k]).x) := (hb.cell hbl').trans (hc' k hlt 2 _ rfl)
     have d3 : wr.cell? ⟨b',o' + k * 7 + 3,none⟩ = some (.int .i64 (qs[k]).w) := (hb.cell hbl').trans (hc' k hlt 3 _ rfl)
     have d4 : wr.cell? ⟨b',o' + k * 7 + 4,none⟩ = some (.int .i64 (qs[k]).nt) := (hb.cell hbl').trans (hc' k hlt 4 _ rfl)
     have d5 : wr.cell? ⟨b',o' + k * 7 + 5,none⟩ = some (.bool (qs[k]).hy) := (hb.cell hbl').trans (hc' k hlt 5 _ rfl)
     have d6 : wr.cell? ⟨b',o' + k * 7 + 6,none⟩ = some (.int .i64 (qs[k]).fl) := (hb.cell hbl').trans (hc' k hlt 6 _ rfl)
     clear hc hc'
     generalize qs[k].f = x0 at *
     generalize qs[k].t = x1 at *
     generalize qs[k].x = x2 at *
     generalize qs[k].w = x3 at *
     generalize qs[k].nt = x4 at *
     generalize qs[k].hy = x5 at *
     generalize qs[k].fl = x6 at *
     go_wp2_with fail
     go_quiet (fail)
     go_wp2_with fail
     go_roundw
     case rel => exact ⟨k + 1,by omega,by simp,below_drewN hb _⟩
     case measure => simp [intOf]; omega
  ·have hge : ¬ (k : Int) < qs.length := by omega
   go_wp2_with fail
   go_ret
   exact ⟨rfl,hb⟩

structure CeR (b o : Nat) (x y : Int) (v : Value) (W : World) : Prop where
 lt : b < W.heap.size
 c0 : W.cell? ⟨b,o,none⟩ = some (.int .i64 x)
 c1 : W.cell? ⟨b,o + 1,none⟩ = some (.int .i64 y)
 c2 : W.cell? ⟨b,o + 2,none⟩ = some v
theorem CeR.below {b o : Nat} {x y : Int} {v : Value} {W W' : World} (h : CeR b o x y v W) (hb : Below W.heap.size W W') : CeR b o x y v W' :=
 ⟨Nat.lt_of_lt_of_le h.lt hb.size,(hb.cell h.lt).trans h.c0,(hb.cell h.lt).trans h.c1,(hb.cell h.lt).trans h.c2⟩
def opS6 (ps : String) : Array Oper := #[⟨some 17,.move (.tmp 0),37,ps,#[],none⟩,⟨some 18,.move (.tmp 5),3,ps,#[],none⟩,⟨some 19,.indexAddr 37 (.tmp 17) (.tmp 18),0,ps,#[⟨0,.data⟩,⟨1,.data⟩],none⟩,⟨some 20,.fieldAddr 46 (.tmp 19) 0,0,ps,#[⟨2,.data⟩],none⟩,⟨some 21,.load 3 (.tmp 20),3,ps,#[⟨3,.data⟩],none⟩,⟨some 22,.move (.tmp 1),37,ps,#[],none⟩,⟨some 23,.move (.tmp 5),3,ps,#[],none⟩,⟨some 24,.indexAddr 37 (.tmp 22) (.tmp 23),0,ps,#[⟨5,.data⟩,⟨6,.data⟩],none⟩,⟨some 25,.fieldAddr 46 (.tmp 24) 0,0,ps,#[⟨7,.data⟩],none⟩,⟨some 26,.load 3 (.tmp 25),3,ps,#[⟨8,.data⟩],none⟩,⟨some 27,.binOp .neq 3 (.tmp 21) (.tmp 26) 3,4,ps,#[⟨4,.data⟩,⟨9,.data⟩],none⟩,⟨some 28,.move (.tmp 27),4,ps,#[⟨10,.data⟩],none⟩,⟨some 29,.move (.tmp 0),37,ps,#[⟨11,.guard⟩],some (11,false)⟩,⟨some 30,.move (.tmp 5),3,ps,#[⟨11,.guard⟩],some (11,false)⟩,⟨some 31,.indexAddr 37 (.tmp 29) (.tmp 30),0,ps,#[⟨12,.data⟩,⟨13,.data⟩,⟨11,.guard⟩],some (11,false)⟩,⟨some 32,.fieldAddr 46 (.tmp 31) 1,0,ps,#[⟨14,.data⟩,⟨11,.guard⟩],some (11,false)⟩,⟨some 33,.load 3 (.tmp 32),3,ps,#[⟨15,.data⟩,⟨11,.guard⟩],some (11,false)⟩,⟨some 34,.move (.tmp 1),37,ps,#[⟨11,.guard⟩],some (11,false)⟩,⟨some 35,.move (.tmp 5),3,ps,#[⟨11,.guard⟩],some (11,false)⟩,⟨some 36,.indexAddr 37 (.tmp 34) (.tmp 35),0,ps,#[⟨17,.data⟩,⟨18,.data⟩,⟨11,.guard⟩],some (11,false)⟩,⟨some 37,.fieldAddr 46 (.tmp 36) 1,0,ps,#[⟨19,.data⟩,⟨11,.guard⟩],some (11,false)⟩,⟨some 38,.load 3 (.tmp 37),3,ps,#[⟨20,.data⟩,⟨11,.guard⟩],some (11,false)⟩,⟨some 39,.binOp .neq 3 (.tmp 33) (.tmp 38) 3,4,ps,#[⟨16,.data⟩,⟨21,.data⟩,⟨11,.guard⟩],some (11,false)⟩,⟨some 40,.pick (.tmp 28) (.const (.bool true)) (.tmp 39),4,ps,#[⟨11,.data⟩,⟨22,.data⟩],none⟩,⟨some 41,.move (.tmp 40),4,ps,#[⟨23,.data⟩,⟨11,.chain⟩],none⟩,⟨some 42,.move (.tmp 0),37,ps,#[⟨24,.guard⟩],some (24,false)⟩,⟨some 43,.move (.tmp 5),3,ps,#[⟨24,.guard⟩],some (24,false)⟩,⟨some 44,.indexAddr 37 (.tmp 42) (.tmp 43),0,ps,#[⟨25,.data⟩,⟨26,.data⟩,⟨24,.guard⟩],some (24,false)⟩,⟨some 45,.fieldAddr 46 (.tmp 44) 2,0,ps,#[⟨27,.data⟩,⟨24,.guard⟩],some (24,false)⟩,⟨some 46,.load 44 (.tmp 45),44,ps,#[⟨28,.data⟩,⟨24,.guard⟩],some (24,false)⟩,⟨some 47,.move (.tmp 1),37,ps,#[⟨24,.guard⟩],some (24,false)⟩,⟨some 48,.move (.tmp 5),3,ps,#[⟨24,.guard⟩],some (24,false)⟩,⟨some 49,.indexAddr 37 (.tmp 47) (.tmp 48),0,ps,#[⟨30,.data⟩,⟨31,.data⟩,⟨24,.guard⟩],some (24,false)⟩,⟨some 50,.fieldAddr 46 (.tmp 49) 2,0,ps,#[⟨32,.data⟩,⟨24,.guard⟩],some (24,false)⟩,⟨some 51,.load 44 (.tmp 50),44,ps,#[⟨33,.data⟩,⟨24,.guard⟩],some (24,false)⟩,⟨some 52,.call ⟨.value (.func 39),#[.tmp 46,.tmp 51],#[44,44]⟩,4,ps,#[⟨29,.data⟩,⟨34,.data⟩,⟨24,.chain⟩,⟨24,.guard⟩],some (24,false)⟩,⟨some 53,.unOp .not 4 (.tmp 52),4,ps,#[⟨35,.data⟩,⟨24,.guard⟩],some (24,false)⟩,⟨some 54,.pick (.tmp 41) (.const (.bool true)) (.tmp 53),4,ps,#[⟨24,.data⟩,⟨36,.data⟩],none⟩]

theorem sc_r6 (Q : Exit → Act → World → Prop) (hQ : ∀ c x (n : Nat) v w,Q (.panic c) (x.put (some n) v) w → Q (.panic c) x w) (id : Nat) (ps : String) (ba oa na ca bb ob nb cb k : Nat) (x y : Int) (va vb : Value) (v2 v3 v4 v6 v7 v8 v9 xa xb xc xd xe xf xg xh xi xj xk xl xm xn xo xp xq xr xt xu xv xw xx xy xz xA xB xC xD xE xF xG xH xI xJ xK xL xM xN xO xP xQ xR xS xT : Value) (W : World)
  (hka : (k : Int) < (na : Int)) (hkb : (k : Int) < (nb : Int)) (ha : CeR ba (oa + k * 3) x y va W) (hb : CeR bb (ob + k * 3) x y vb W)
  (hN : ∀ w0,Below W.heap.size W w0 → Calls Tryz.prog 39 #[va,vb] w0 fun e w' => e = .returned (.bool true) ∧ Below W.heap.size W w')
  (hK : ∀ W',Below W.heap.size W W' → Q .normal { tmps := #[.slice (some ⟨ba,oa,none⟩) na ca,.slice (some ⟨bb,ob,none⟩) nb cb,v2,v3,v4,.int .i64 (k : Nat),v6,v7,v8,v9,xa,xb,xc,xd,xe,xf,xg,.slice (some ⟨ba,oa,none⟩) na ca,.int .i64 (k : Nat),.pointer (some ⟨ba,oa + k * 3,none⟩),.pointer (some ⟨ba,oa + k * 3,none⟩),.int .i64 x,.slice (some ⟨bb,ob,none⟩) nb cb,.int .i64 (k : Nat),.pointer (some ⟨bb,ob + k * 3,none⟩),.pointer (some ⟨bb,ob + k * 3,none⟩),.int .i64 x,.bool false,.bool false,.slice (some ⟨ba,oa,none⟩) na ca,.int .i64 (k : Nat),.pointer (some ⟨ba,oa + k * 3,none⟩),.pointer (some ⟨ba,oa + k * 3 + 1,none⟩),.int .i64 y,.slice (some ⟨bb,ob,none⟩) nb cb,.int .i64 (k : Nat),.pointer (some ⟨bb,ob + k * 3,none⟩),.pointer (some ⟨bb,ob + k * 3 + 1,none⟩),.int .i64 y,.bool false,.bool false,.bool false,.slice (some ⟨ba,oa,none⟩) na ca,.int .i64 (k : Nat),.pointer (some ⟨ba,oa + k * 3,none⟩),.pointer (some ⟨ba,oa + k * 3 + 2,none⟩),va,.slice (some ⟨bb,ob,none⟩) nb cb,.int .i64 (k : Nat),.pointer (some ⟨bb,ob + k * 3,none⟩),.pointer (some ⟨bb,ob + k * 3 + 2,none⟩),vb,.bool true,.bool false,.bool false],defers := [] } W') :
  (Code.region id (opS6 ps) true).wp Tryz.prog Q { tmps := #[.slice (some ⟨ba,oa,none⟩) na ca,.slice (some ⟨bb,ob,none⟩) nb cb,v2,v3,v4,.int .i64 (k : Nat),v6,v7,v8,v9,xa,xb,xc,xd,xe,xf,xg,xh,xi,xj,xk,xl,xm,xn,xo,xp,xq,xr,xt,xu,xv,xw,xx,xy,xz,xA,xB,xC,xD,xE,xF,xG,xH,xI,xJ,xK,xL,xM,xN,xO,xP,xQ,xR,xS,xT],defers := [] } W := by
 have hS : Below W.heap.size W W.drew := below_drew W
 refine wp_region_held (S := fun w => Below W.heap.size W w) (by kernel_rfl) ?_
 change wpAnyH _ _ _ _ _ 38 _ _ (World.drew W)
 generalize W.drew = V at hS ⊢
 unfold opS6
 refine wpAnyH_take (i := 0) (v := .slice (some ⟨ba,oa,none⟩) na ca) rfl (by kernel_rfl) (by kernel_rfl) (by kernel_rfl) (fun c x w => hQ c x _ _ w) (Or.inl ⟨by rfl,?y0⟩) hS ?_
 case y0 => (intro w' hw'; go_simp)
 go_simp
 refine wpAnyH_take (i := 1) (v := .int .i64 (k : Nat)) rfl (by kernel_rfl) (by kernel_rfl) (by kernel_rfl) (fun c x w => hQ c x _ _ w) (Or.inl ⟨by rfl,?y1⟩) hS ?_
 case y1 => (intro w' hw'; go_simp)
 go_simp
 refine wpAnyH_take (i := 2) (v := .pointer (some ⟨ba,oa + k * 3,none⟩)) rfl (by kernel_rfl) (by kernel_rfl) (by kernel_rfl) (fun c x w => hQ c x _ _ w) (Or.inl ⟨by rfl,?y2⟩) hS ?_
 case y2 => (intro w' hw'; go_simp)
 go_simp
 refine wpAnyH_take (i := 3) (v := .pointer (some ⟨ba,oa + k * 3,none⟩)) rfl (by kernel_rfl) (by kernel_rfl) (by kernel_rfl) (fun c x w => hQ c x _ _ w) (Or.inl ⟨by rfl,?y3⟩) hS ?_
 case y3 => (intro w' hw'; go_simp)
 go_simp
 refine wpAnyH_take (i := 4) (v := .int .i64 x) rfl (by kernel_rfl) (by kernel_rfl) (by kernel_rfl) (fun c x w => hQ c x _ _ w) (Or.inl ⟨by rfl,?y4⟩) hS ?_
 case y4 => (intro w' hw'; have ha' := ha.below hw'; have c0 := ha'.c0; have c1 := ha'.c1; have c2 := ha'.c2; go_simp)
 go_simp
 refine wpAnyH_take (i := 5) (v := .slice (some ⟨bb,ob,none⟩) nb cb) rfl (by kernel_rfl) (by kernel_rfl) (by kernel_rfl) (fun c x w => hQ c x _ _ w) (Or.inl ⟨by rfl,?y5⟩) hS ?_
 case y5 => (intro w' hw'; go_simp)
 go_simp
 refine wpAnyH_take (i := 6) (v := .int .i64 (k : Nat)) rfl (by kernel_rfl) (by kernel_rfl) (by kernel_rfl) (fun c x w => hQ c x _ _ w) (Or.inl ⟨by rfl,?y6⟩) hS ?_
 case y6 => (intro w' hw'; go_simp)
 go_simp
 refine wpAnyH_take (i := 7) (v := .pointer (some ⟨bb,ob + k * 3,none⟩)) rfl (by kernel_rfl) (by kernel_rfl) (by kernel_rfl) (fun c x w => hQ c x _ _ w) (Or.inl ⟨by rfl,?y7⟩) hS ?_
 case y7 => (intro w' hw'; go_simp)
 go_simp
 refine wpAnyH_take (i := 8) (v := .pointer (some ⟨bb,ob + k * 3,none⟩)) rfl (by kernel_rfl) (by kernel_rfl) (by kernel_rfl) (fun c x w => hQ c x _ _ w) (Or.inl ⟨by rfl,?y8⟩) hS ?_
 case y8 => (intro w' hw'; go_simp)
 go_simp
 refine wpAnyH_take (i := 9) (v := .int .i64 x) rfl (by kernel_rfl) (by kernel_rfl) (by kernel_rfl) (fun c x w => hQ c x _ _ w) (Or.inl ⟨by rfl,?y9⟩) hS ?_
 case y9 => (intro w' hw'; have hb' := hb.below hw'; have d0 := hb'.c0; have d1 := hb'.c1; have d2 := hb'.c2; go_simp)
 go_simp
 refine wpAnyH_take (i := 10) (v := .bool false) rfl (by kernel_rfl) (by kernel_rfl) (by kernel_rfl) (fun c x w => hQ c x _ _ w) (Or.inl ⟨by rfl,?y10⟩) hS ?_
 case y10 => (intro w' hw'; go_simp)
 go_simp
 refine wpAnyH_take (i := 11) (v := .bool false) rfl (by kernel_rfl) (by kernel_rfl) (by kernel_rfl) (fun c x w => hQ c x _ _ w) (Or.inl ⟨by rfl,?y11⟩) hS ?_
 case y11 => (intro w' hw'; go_simp)
 go_simp
 refine wpAnyH_take (i := 12) (v := .slice (some ⟨ba,oa,none⟩) na ca) rfl (by kernel_rfl) (by kernel_rfl) (by kernel_rfl) (fun c x w => hQ c x _ _ w) (Or.inl ⟨by rfl,?y12⟩) hS ?_
 case y12 => (intro w' hw'; go_simp)
 go_simp
 refine wpAnyH_take (i := 13) (v := .int .i64 (k : Nat)) rfl (by kernel_rfl) (by kernel_rfl) (by kernel_rfl) (fun c x w => hQ c x _ _ w) (Or.inl ⟨by rfl,?y13⟩) hS ?_
 case y13 => (intro w' hw'; go_simp)
 go_simp
 refine wpAnyH_take (i := 14) (v := .pointer (some ⟨ba,oa + k * 3,none⟩)) rfl (by kernel_rfl) (by kernel_rfl) (by kernel_rfl) (fun c x w => hQ c x _ _ w) (Or.inl ⟨by rfl,?y14⟩) hS ?_
 case y14 => (intro w' hw'; go_simp)
 go_simp
 refine wpAnyH_take (i := 15) (v := .pointer (some ⟨ba,oa + k * 3 + 1,none⟩)) rfl (by kernel_rfl) (by kernel_rfl) (by kernel_rfl) (fun c x w => hQ c x _ _ w) (Or.inl ⟨by rfl,?y15⟩) hS ?_
 case y15 => (intro w' hw'; go_simp)
 go_simp
 refine wpAnyH_take (i := 16) (v := .int .i64 y) rfl (by kernel_rfl) (by kernel_rfl) (by kernel_rfl) (fun c x w => hQ c x _ _ w) (Or.inl ⟨by rfl,?y16⟩) hS ?_
 case y16 => (intro w' hw'; have ha' := ha.below hw'; have c0 := ha'.c0; have c1 := ha'.c1; have c2 := ha'.c2; go_simp)
 go_simp
 refine wpAnyH_take (i := 17) (v := .slice (some ⟨bb,ob,none⟩) nb cb) rfl (by kernel_rfl) (by kernel_rfl) (by kernel_rfl) (fun c x w => hQ c x _ _ w) (Or.inl ⟨by rfl,?y17⟩) hS ?_
 case y17 => (intro w' hw'; go_simp)
 go_simp
 refine wpAnyH_take (i := 18) (v := .int .i64 (k : Nat)) rfl (by kernel_rfl) (by kernel_rfl) (by kernel_rfl) (fun c x w => hQ c x _ _ w) (Or.inl ⟨by rfl,?y18⟩) hS ?_
 case y18 => (intro w' hw'; go_simp)
 go_simp
 refine wpAnyH_take (i := 19) (v := .pointer (some ⟨bb,ob + k * 3,none⟩)) rfl (by kernel_rfl) (by kernel_rfl) (by kernel_rfl) (fun c x w => hQ c x _ _ w) (Or.inl ⟨by rfl,?y19⟩) hS ?_
 case y19 => (intro w' hw'; go_simp)
 go_simp
 refine wpAnyH_take (i := 20) (v := .pointer (some ⟨bb,ob + k * 3 + 1,none⟩)) rfl (by kernel_rfl) (by kernel_rfl) (by kernel_rfl) (fun c x w => hQ c x _ _ w) (Or.inl ⟨by rfl,?y20⟩) hS ?_
 case y20 => (intro w' hw'; go_simp)
 go_simp
 refine wpAnyH_take (i := 21) (v := .int .i64 y) rfl (by kernel_rfl) (by kernel_rfl) (by kernel_rfl) (fun c x w => hQ c x _ _ w) (Or.inl ⟨by rfl,?y21⟩) hS ?_
 case y21 => (intro w' hw'; have hb' := hb.below hw'; have d0 := hb'.c0; have d1 := hb'.c1; have d2 := hb'.c2; go_simp)
 go_simp
 refine wpAnyH_take (i := 22) (v := .bool false) rfl (by kernel_rfl) (by kernel_rfl) (by kernel_rfl) (fun c x w => hQ c x _ _ w) (Or.inl ⟨by rfl,?y22⟩) hS ?_
 case y22 => (intro w' hw'; go_simp)
 go_simp
 refine wpAnyH_take (i := 23) (v := .bool false) rfl (by kernel_rfl) (by kernel_rfl) (by kernel_rfl) (fun c x w => hQ c x _ _ w) (Or.inl ⟨by rfl,?y23⟩) hS ?_
 case y23 => (intro w' hw'; go_simp)
 go_simp
 refine wpAnyH_take (i := 24) (v := .bool false) rfl (by kernel_rfl) (by kernel_rfl) (by kernel_rfl) (fun c x w => hQ c x _ _ w) (Or.inl ⟨by rfl,?y24⟩) hS ?_
 case y24 => (intro w' hw'; go_simp)
 go_simp
 refine wpAnyH_take (i := 25) (v := .slice (some ⟨ba,oa,none⟩) na ca) rfl (by kernel_rfl) (by kernel_rfl) (by kernel_rfl) (fun c x w => hQ c x _ _ w) (Or.inl ⟨by rfl,?y25⟩) hS ?_
 case y25 => (intro w' hw'; go_simp)
 go_simp
 refine wpAnyH_take (i := 26) (v := .int .i64 (k : Nat)) rfl (by kernel_rfl) (by kernel_rfl) (by kernel_rfl) (fun c x w => hQ c x _ _ w) (Or.inl ⟨by rfl,?y26⟩) hS ?_
 case y26 => (intro w' hw'; go_simp)
 go_simp
 refine wpAnyH_take (i := 27) (v := .pointer (some ⟨ba,oa + k * 3,none⟩)) rfl (by kernel_rfl) (by kernel_rfl) (by kernel_rfl) (fun c x w => hQ c x _ _ w) (Or.inl ⟨by rfl,?y27⟩) hS ?_
 case y27 => (intro w' hw'; go_simp)
 go_simp
 refine wpAnyH_take (i := 28) (v := .pointer (some ⟨ba,oa + k * 3 + 2,none⟩)) rfl (by kernel_rfl) (by kernel_rfl) (by kernel_rfl) (fun c x w => hQ c x _ _ w) (Or.inl ⟨by rfl,?y28⟩) hS ?_
 case y28 => (intro w' hw'; go_simp)
 go_simp
 refine wpAnyH_take (i := 29) (v := va) rfl (by kernel_rfl) (by kernel_rfl) (by kernel_rfl) (fun c x w => hQ c x _ _ w) (Or.inl ⟨by rfl,?y29⟩) hS ?_
 case y29 => (intro w' hw'; have ha' := ha.below hw'; have c0 := ha'.c0; have c1 := ha'.c1; have c2 := ha'.c2; go_simp)
 go_simp
 refine wpAnyH_take (i := 30) (v := .slice (some ⟨bb,ob,none⟩) nb cb) rfl (by kernel_rfl) (by kernel_rfl) (by kernel_rfl) (fun c x w => hQ c x _ _ w) (Or.inl ⟨by rfl,?y30⟩) hS ?_
 case y30 => (intro w' hw'; go_simp)
 go_simp
 refine wpAnyH_take (i := 31) (v := .int .i64 (k : Nat)) rfl (by kernel_rfl) (by kernel_rfl) (by kernel_rfl) (fun c x w => hQ c x _ _ w) (Or.inl ⟨by rfl,?y31⟩) hS ?_
 case y31 => (intro w' hw'; go_simp)
 go_simp
 refine wpAnyH_take (i := 32) (v := .pointer (some ⟨bb,ob + k * 3,none⟩)) rfl (by kernel_rfl) (by kernel_rfl) (by kernel_rfl) (fun c x w => hQ c x _ _ w) (Or.inl ⟨by rfl,?y32⟩) hS ?_
 case y32 => (intro w' hw'; go_simp)
 go_simp
 refine wpAnyH_take (i := 33) (v := .pointer (some ⟨bb,ob + k * 3 + 2,none⟩)) rfl (by kernel_rfl) (by kernel_rfl) (by kernel_rfl) (fun c x w => hQ c x _ _ w) (Or.inl ⟨by rfl,?y33⟩) hS ?_
 case y33 => (intro w' hw'; go_simp)
 go_simp
 refine wpAnyH_take (i := 34) (v := vb) rfl (by kernel_rfl) (by kernel_rfl) (by kernel_rfl) (fun c x w => hQ c x _ _ w) (Or.inl ⟨by rfl,?y34⟩) hS ?_
 case y34 => (intro w' hw'; have hb' := hb.below hw'; have d0 := hb'.c0; have d1 := hb'.c1; have d2 := hb'.c2; go_simp)
 go_simp
 refine want_h (i := 35) (by kernel_rfl) rfl (by kernel_rfl) fun K hK' => ?_
 go_simp
 refine (hN _ hS).mono ?_
 rintro e w1 ⟨rfl,hb1⟩
 refine hK' _ _ hb1 ?_
 clear hK' K hS
 go_simp
 refine wpAnyH_take (i := 36) (v := .bool false) rfl (by kernel_rfl) (by kernel_rfl) (by kernel_rfl) (fun c x w => hQ c x _ _ w) (Or.inl ⟨by rfl,?y36⟩) hb1 ?_
 case y36 => (intro w' hw'; go_simp)
 go_simp
 refine wpAnyH_take (i := 37) (v := .bool false) rfl (by kernel_rfl) (by kernel_rfl) (by kernel_rfl) (fun c x w => hQ c x _ _ w) (Or.inl ⟨by rfl,?y37⟩) hb1 ?_
 case y37 => (intro w' hw'; go_simp)
 go_simp
 exact wpAnyH_done (by kernel_rfl) (hK _ hb1) _
theorem sameCells_yes (v u : Value) (cs ds : List Cel) (w : World) (hl : cs.length ≤ 400) (hn : ds.length = cs.length) (hS : RecAt 3 ceL w v cs) (hR : RecAt 3 ceL w u ds) (hls : ∀ c ∈ cs,c.ls.length ≤ 16000)
  (hi : ∀ i (h : i < cs.length) (h' : i < ds.length),ds[i].x = cs[i].x ∧ ds[i].w = cs[i].w ∧ ds[i].ls = cs[i].ls) (hc : ∀ c ∈ cs,LxsAt w c.v c.ls) (hd : ∀ c ∈ ds,LxsAt w c.v c.ls) :
  Calls Tryz.prog 23 #[v,u] w fun e w' => e = .returned (.bool true) ∧ Below w.heap.size w w' := by
 have hat : Hid (∀ k,k < cs.length → ∀ W,Below w.heap.size w W → ∃ (ba oa ca bb ob cb : Nat) (x y : Int) (va vb : Value),v = .slice (some ⟨ba,oa,none⟩) cs.length ca ∧ u = .slice (some ⟨bb,ob,none⟩) cs.length cb ∧ CeR ba (oa + k * 3) x y va W ∧ CeR bb (ob + k * 3) x y vb W ∧ (∀ w0,Below W.heap.size W w0 → Calls Tryz.prog 39 #[va,vb] w0 fun e w' => e = .returned (.bool true) ∧ Below W.heap.size W w')) := fun k hk W hb => by
  have hk' : k < ds.length := by omega
  obtain ⟨a1,c1,rfl,e1⟩ := hS.ex
  obtain ⟨a2,c2,rfl,e2⟩ := hR.ex
  rcases e1 with e1 | ⟨b1,o1,rfl,l1,r1⟩
  ·rw [e1] at hk; simp at hk
  ·rcases e2 with e2 | ⟨b2,o2,rfl,l2,r2⟩
   ·rw [e2] at hk'; simp at hk'
   ·obtain ⟨i1,i2,i3⟩ := hi k hk hk'
    have m1 := List.getElem_mem hk
    have m2 := List.getElem_mem hk'
    have q1 : ∀ (j : Nat) t,(ceL cs[k])[j]? = some t → W.cell? ⟨b1,o1 + k * 3 + j,none⟩ = some t := fun j t ht => (hb.cell l1).trans (r1 k hk j t ht)
    have q2 : ∀ (j : Nat) t,(ceL ds[k])[j]? = some t → W.cell? ⟨b2,o2 + k * 3 + j,none⟩ = some t := fun j t ht => (hb.cell l2).trans (r2 k hk' j t ht)
    refine ⟨b1,o1,c1,b2,o2,c2,cs[k].x,cs[k].w,cs[k].v,ds[k].v,rfl,by rw [hn],⟨Nat.lt_of_lt_of_le l1 hb.size,q1 0 _ rfl,q1 1 _ rfl,q1 2 _ rfl⟩,⟨Nat.lt_of_lt_of_le l2 hb.size,by rw [← i1]; exact q2 0 _ rfl,by rw [← i2]; exact q2 1 _ rfl,q2 2 _ rfl⟩,fun w0 h0 => ?_⟩
    have hb0 := hb.trans (h0.mono hb.size)
    have h1 := (hc _ m1).below hb0 (Nat.le_refl _)
    have h2 := (hd _ m2).below hb0 (Nat.le_refl _)
    rw [i3] at h2
    refine (sameLines_yes _ _ cs[k].ls w0 (by have := hls _ m1; omega) h1 h2).mono ?_
    rintro e w' ⟨rfl,h3⟩
    exact ⟨rfl,h0.trans (h3.mono h0.size)⟩
 obtain ⟨a1,c1,rfl⟩ : ∃ a c,v = .slice a cs.length c := by obtain ⟨a,c,h,_⟩ := hS.ex; exact ⟨a,c,h⟩
 obtain ⟨a2,c2,rfl⟩ : ∃ a c,u = .slice a cs.length c := by obtain ⟨a,c,h,_⟩ := hR.ex; exact ⟨a,c,by rw [h,hn]⟩
 clear hS hR hls hi hc hd hn
 go_enter Tryz.func23,Tryz.ntmps23
 go_wp2_with fail
 go_loopw [5] (fun i wr => ∃ k : Nat,k ≤ cs.length ∧ i = .int .i64 (k : Int) ∧ Hid (Below w.heap.size w wr)) (fun i _ => cs.length - (intOf i).toNat)
 case atStart => exact ⟨0,by omega,rfl,Below.refl _ _⟩
 case round =>
  obtain ⟨k,hk,rfl,hb⟩ := hrel
  by_cases hlt : k < cs.length
  ·have hlt' : (k : Int) < (cs.length : Int) := by omega
   obtain ⟨ba,oa,ca,bb,ob,cb,x,y,va,vb,e1,e2,h1,h2,h3⟩ := hat.out k hlt wr hb.out
   obtain ⟨rfl,-,rfl⟩ : a1 = some ⟨ba,oa,none⟩ ∧ True ∧ c1 = ca := by simpa using e1
   obtain ⟨rfl,-,rfl⟩ : a2 = some ⟨bb,ob,none⟩ ∧ True ∧ c2 = cb := by simpa using e2
   have hbh : Hid (∀ W',Below wr.heap.size wr W' → Below w.heap.size w W') := fun W' h => hb.out.trans (h.mono hb.out.size)
   have hh : Hid (CeR ba (oa + k * 3) x y va wr ∧ CeR bb (ob + k * 3) x y vb wr ∧ (∀ w0,Below wr.heap.size wr w0 → Calls Tryz.prog 39 #[va,vb] w0 fun e w' => e = .returned (.bool true) ∧ Below wr.heap.size wr w')) := ⟨h1,h2,h3⟩
   clear e1 e2 h1 h2 h3 hat hb
   go_wp2_with fail
   refine sc_r6 _ ?_ _ _ ba oa cs.length c1 bb ob cs.length c2 k x y va vb _ _ _ _ _ _ _ _ _ _ _ _ _ _ _ _ _ _ _ _ _ _ _ _ _ _ _ _ _ _ _ _ _ _ _ _ _ _ _ _ _ _ _ _ _ _ _ _ _ _ _ _ wr hlt' hlt' hh.out.1 hh.out.2.1 hh.out.2.2 ?_
   ·exact fun _ _ _ _ _ h => h
   intro w5 hb5
   have hB5 : Hid (Below w.heap.size w w5) := hbh.out w5 hb5
   clear hh hbh hb5
   go_wp2_with fail
   exact ⟨⟨k + 1,by omega,rfl,hB5.out⟩,by simp [intOf]; omega⟩
  ·have hkn : k = cs.length := by omega
   subst hkn
   have hge : ¬ ((cs.length : Nat) : Int) < (cs.length : Int) := by omega
   go_wp2_with fail
   go_ret
   exact ⟨rfl,hb.out⟩
end Go.Proofs.YtaphggjakaghjaaGreatDoor
