/-
  What is proved here: the statement of item's closure that closes a run, in whatever order its operations come up.
  What is proved here: the closures that open and close a run; a paragraph's items, mass by mass (no program is named).
-/
import Derived.Test.YtlgcnbomfhmjiaaGreatDoorS25
namespace Go.Proofs.YtlgcnbomfhmjiaaGreatDoor
open Go.RowKit Go.Shelf
set_option maxRecDepth 100000
set_option maxHeartbeats 4000000
attribute [local go_sem] Oper.semAt_some wide_fn wide_depth

def ops70_1 (ps : String) : Array Oper := #[⟨some 6,.load 3 (.tmp 1),3,ps,#[],none⟩,⟨some 7,.move (.tmp 0),3,ps,#[],none⟩,⟨some 8,.binOp .eql 3 (.tmp 6) (.tmp 7) 3,4,ps,#[⟨0,.data⟩,⟨1,.data⟩],none⟩,⟨some 9,.move (.tmp 8),4,ps,#[⟨2,.data⟩],none⟩,⟨some 10,.load 138 (.tmp 2),138,ps,#[⟨3,.guard⟩],some (3,false)⟩,⟨some 11,.fieldAddr 133 (.tmp 3) 1,0,ps,#[⟨3,.guard⟩],some (3,false)⟩,⟨some 12,.load 101 (.tmp 11),101,ps,#[⟨5,.data⟩,⟨3,.guard⟩],some (3,false)⟩,⟨some 13,.load 3 (.tmp 1),3,ps,#[⟨3,.guard⟩],some (3,false)⟩,⟨some 14,.move (.tmp 0),3,ps,#[⟨3,.guard⟩],some (3,false)⟩,⟨some 15,.slice 101 (.tmp 12) (some (.tmp 13)) (some (.tmp 14)) none,101,ps,#[⟨6,.data⟩,⟨7,.data⟩,⟨8,.data⟩,⟨3,.guard⟩],some (3,false)⟩,⟨some 16,.call ⟨.value (.func 132),#[.tmp 15],#[101]⟩,91,ps,#[⟨9,.data⟩,⟨3,.chain⟩,⟨3,.guard⟩],some (3,false)⟩,⟨some 17,.call ⟨.value (.tmp 10),#[.tmp 16],#[91]⟩,4,ps,#[⟨4,.data⟩,⟨10,.data⟩,⟨10,.chain⟩,⟨3,.guard⟩],some (3,false)⟩,⟨some 18,.pick (.tmp 9) (.const (.bool true)) (.tmp 17),4,ps,#[⟨3,.data⟩,⟨11,.data⟩],none⟩,⟨some 5,.assign (.tmp 18),4,ps,#[⟨12,.data⟩,⟨11,.chain⟩,⟨0,.phase⟩,⟨1,.phase⟩,⟨2,.phase⟩,⟨3,.phase⟩,⟨4,.phase⟩,⟨5,.phase⟩,⟨6,.phase⟩,⟨7,.phase⟩,⟨8,.phase⟩,⟨9,.phase⟩,⟨10,.phase⟩,⟨11,.phase⟩,⟨12,.phase⟩],none⟩]

theorem shut_r1 (Q : Exit → Act → World → Prop) (hQ : ∀ c x (n : Nat) v w,Q (.panic c) (x.put (some n) v) w → Q (.panic c) x w) (id : Nat) (ps : String) {v4 v5 v6 v7 v8 v9 v10 v11 v12 v13 v14 v15 v16 v17 v18 : Value} (l F Y Bo g o n cap ff tt : Nat) (X : It) (W : World)
  (hne : ¬ (ff : Int) = (tt : Int)) (cf : W.drew.cell? ⟨F,0,none⟩ = some (.int .i64 (ff : Nat))) (cy : W.drew.cell? ⟨Y,0,none⟩ = some (.func (.yield l) #[] #[])) (hyl : Y < W.drew.heap.size) (cb : W.drew.cell? ⟨Bo,1,none⟩ = some (.slice (some ⟨g,o,none⟩) n cap))
  (hsl : ∀ w : World,(Instr.slice 101 (.slice (some ⟨g,o,none⟩) n cap) (some (.int .i64 (ff : Int))) (some (.int .i64 (tt : Int))) none).run Tryz.prog w = .ok (.slice (some ⟨g,o + ff * 6,none⟩) (tt - ff) (cap - ff)) w)
  (hbox : Calls Tryz.prog 132 #[.slice (some ⟨g,o + ff * 6,none⟩) (tt - ff) (cap - ff)] W.drew fun e w' => e = .returned (.agg (itC X)) ∧ Below W.drew.heap.size W.drew w')
  (R : Ending → World → Prop) (hY : Hid (∀ W1,Below W.drew.heap.size W.drew W1 → YieldAt Fence.wide 0 Tryz.prog l #[.agg (itC X)] W1 R))
  (hR : Hid (∀ e W',R e W' → ∃ c : Bool,e = .returned (.bool c) ∧ Q .normal { tmps := #[.int .i64 (tt : Nat),.pointer (some ⟨F,0,none⟩),.pointer (some ⟨Y,0,none⟩),.pointer (some ⟨Bo,0,none⟩),v4,.bool c,.int .i64 (ff : Nat),.int .i64 (tt : Nat),.bool false,.bool false,.func (.yield l) #[] #[],.pointer (some ⟨Bo,1,none⟩),.slice (some ⟨g,o,none⟩) n cap,.int .i64 (ff : Nat),.int .i64 (tt : Nat),.slice (some ⟨g,o + ff * 6,none⟩) (tt - ff) (cap - ff),.agg (itC X),.bool c,.bool c],defers := [] } W')) :
  (Code.region id (ops70_1 ps) true).wpIn Fence.wide 0 Tryz.prog Q { tmps := #[.int .i64 (tt : Nat),.pointer (some ⟨F,0,none⟩),.pointer (some ⟨Y,0,none⟩),.pointer (some ⟨Bo,0,none⟩),v4,v5,v6,v7,v8,v9,v10,v11,v12,v13,v14,v15,v16,v17,v18],defers := [] } W := by
 refine wpIn_region_any (by kernel_rfl) ?_
 change wpAnyIn _ _ _ _ _ _ 14 _ _ W.drew
 have hne' : ((ff : Int) == (tt : Int)) = false := by simpa using hne
 unfold ops70_1
 refine wpAnyIn_take (i := 1) (v := .int .i64 (tt : Nat)) rfl rfl (by kernel_rfl) (by kernel_rfl) (by kernel_rfl) (fun c x w => hQ c x _ _ w) ⟨Or.inl ⟨by rfl,?y1⟩,fun _ => rfl⟩ ?_
 case y1 => (intro w; go_simp)
 go_simp
 refine wpAnyIn_ready (rs := [0]) (by kernel_rfl) (by simp) ?_
 refine AllReadyIn.cons rfl (fun K hK => ?_) AllReadyIn.nil
 go_simp
 refine hK _ _ ?_
 clear hK K
 go_simp
 refine wpAnyIn_take (i := 2) (v := .bool false) rfl rfl (by kernel_rfl) (by kernel_rfl) (by kernel_rfl) (fun c x w => hQ c x _ _ w) ⟨Or.inl ⟨by rfl,?y2⟩,fun _ => rfl⟩ ?_
 case y2 => (intro w; go_simp; first | done | (simp; omega))
 go_simp
 refine wpAnyIn_take (i := 3) (v := .bool false) rfl rfl (by kernel_rfl) (by kernel_rfl) (by kernel_rfl) (fun c x w => hQ c x _ _ w) ⟨Or.inl ⟨by rfl,?y3⟩,fun _ => rfl⟩ ?_
 case y3 => (intro w; go_simp)
 go_simp
 refine wpAnyIn_take (i := 5) (v := .pointer (some ⟨Bo,1,none⟩)) rfl rfl (by kernel_rfl) (by kernel_rfl) (by kernel_rfl) (fun c x w => hQ c x _ _ w) ⟨Or.inl ⟨by rfl,?y5⟩,fun _ => rfl⟩ ?_
 case y5 => (intro w; go_simp)
 go_simp
 refine wpAnyIn_take (i := 8) (v := .int .i64 (tt : Nat)) rfl rfl (by kernel_rfl) (by kernel_rfl) (by kernel_rfl) (fun c x w => hQ c x _ _ w) ⟨Or.inl ⟨by rfl,?y8⟩,fun _ => rfl⟩ ?_
 case y8 => (intro w; go_simp)
 go_simp
 refine wpAnyIn_ready (rs := [4,6,7]) (by kernel_rfl) (by simp) ?_
 refine AllReadyIn.cons rfl (fun K hK => ?_) (AllReadyIn.cons rfl (fun K hK => ?_) (AllReadyIn.cons rfl (fun K hK => ?_) AllReadyIn.nil))
 ·go_simp
  refine hK _ _ ?_
  clear hK K
  go_simp
  refine wpAnyIn_ready (rs := [6,7]) (by kernel_rfl) (by simp) ?_
  refine AllReadyIn.cons rfl (fun K hK => ?_) (AllReadyIn.cons rfl (fun K hK => ?_) AllReadyIn.nil)
  ·go_simp
   refine hK _ _ ?_
   clear hK K
   go_simp
   refine wpAnyIn_ready (rs := [7]) (by kernel_rfl) (by simp) ?_
   refine AllReadyIn.cons rfl (fun K hK => ?_) AllReadyIn.nil
   go_simp
   refine hK _ _ ?_
   clear hK K
   go_simp
   refine wpAnyIn_take (i := 9) (v := .slice (some ⟨g,o + ff * 6,none⟩) (tt - ff) (cap - ff)) rfl rfl (by kernel_rfl) (by kernel_rfl) (by kernel_rfl) (fun c x w => hQ c x _ _ w) ⟨Or.inl ⟨by rfl,?y9⟩,fun _ => rfl⟩ ?_
   case y9 => (intro w; go_simp; first | done | exact hsl w | simp [hsl w])
   go_simp
   refine wpAnyIn_ready (rs := [10]) (by kernel_rfl) (by simp) ?_
   refine AllReadyIn.cons rfl (fun K hK => ?_) AllReadyIn.nil
   go_simp
   refine (callsIn_wide.2 hbox).mono ?_
   rintro e W1 ⟨rfl,hb1⟩
   have cy1 := (hb1.cell hyl).trans cy
   obtain ⟨fn,tmps,assign,body,hy,hRd⟩ := hY.out W1 hb1
   refine hK _ _ ?_
   clear hK K
   go_simp
   refine wpAnyIn_ready (rs := [11]) (by kernel_rfl) (by simp) ?_
   refine AllReadyIn.cons rfl (fun K hK => ?_) AllReadyIn.nil
   go_simp
   refine hRd.mono ?_
   intro e W2 hR2
   obtain ⟨c,rfl,hq⟩ := hR.out e W2 hR2
   refine hK _ _ ?_
   clear hK K
   go_simp
   refine wpAnyIn_take (i := 12) (v := .bool c) rfl rfl (by kernel_rfl) (by kernel_rfl) (by kernel_rfl) (fun c x w => hQ c x _ _ w) ⟨Or.inl ⟨by rfl,?y12⟩,fun _ => rfl⟩ ?_
   case y12 => (intro w; go_simp)
   go_simp
   refine wpAnyIn_take (i := 13) (v := .bool c) rfl rfl (by kernel_rfl) (by kernel_rfl) (by kernel_rfl) (fun c x w => hQ c x _ _ w) ⟨Or.inl ⟨by rfl,?y13⟩,fun _ => rfl⟩ ?_
   case y13 => (intro w; go_simp)
   go_simp
   exact wpAnyIn_done (by kernel_rfl) hq _
  ·go_simp
   refine hK _ _ ?_
   clear hK K
   go_simp
   refine wpAnyIn_ready (rs := [6]) (by kernel_rfl) (by simp) ?_
   refine AllReadyIn.cons rfl (fun K hK => ?_) AllReadyIn.nil
   go_simp
   refine hK _ _ ?_
   clear hK K
   go_simp
   refine wpAnyIn_take (i := 9) (v := .slice (some ⟨g,o + ff * 6,none⟩) (tt - ff) (cap - ff)) rfl rfl (by kernel_rfl) (by kernel_rfl) (by kernel_rfl) (fun c x w => hQ c x _ _ w) ⟨Or.inl ⟨by rfl,?y9⟩,fun _ => rfl⟩ ?_
   case y9 => (intro w; go_simp; first | done | exact hsl w | simp [hsl w])
   go_simp
   refine wpAnyIn_ready (rs := [10]) (by kernel_rfl) (by simp) ?_
   refine AllReadyIn.cons rfl (fun K hK => ?_) AllReadyIn.nil
   go_simp
   refine (callsIn_wide.2 hbox).mono ?_
   rintro e W1 ⟨rfl,hb1⟩
   have cy1 := (hb1.cell hyl).trans cy
   obtain ⟨fn,tmps,assign,body,hy,hRd⟩ := hY.out W1 hb1
   refine hK _ _ ?_
   clear hK K
   go_simp
   refine wpAnyIn_ready (rs := [11]) (by kernel_rfl) (by simp) ?_
   refine AllReadyIn.cons rfl (fun K hK => ?_) AllReadyIn.nil
   go_simp
   refine hRd.mono ?_
   intro e W2 hR2
   obtain ⟨c,rfl,hq⟩ := hR.out e W2 hR2
   refine hK _ _ ?_
   clear hK K
   go_simp
   refine wpAnyIn_take (i := 12) (v := .bool c) rfl rfl (by kernel_rfl) (by kernel_rfl) (by kernel_rfl) (fun c x w => hQ c x _ _ w) ⟨Or.inl ⟨by rfl,?y12⟩,fun _ => rfl⟩ ?_
   case y12 => (intro w; go_simp)
   go_simp
   refine wpAnyIn_take (i := 13) (v := .bool c) rfl rfl (by kernel_rfl) (by kernel_rfl) (by kernel_rfl) (fun c x w => hQ c x _ _ w) ⟨Or.inl ⟨by rfl,?y13⟩,fun _ => rfl⟩ ?_
   case y13 => (intro w; go_simp)
   go_simp
   exact wpAnyIn_done (by kernel_rfl) hq _
 ·go_simp
  refine hK _ _ ?_
  clear hK K
  go_simp
  refine wpAnyIn_ready (rs := [4,7]) (by kernel_rfl) (by simp) ?_
  refine AllReadyIn.cons rfl (fun K hK => ?_) (AllReadyIn.cons rfl (fun K hK => ?_) AllReadyIn.nil)
  ·go_simp
   refine hK _ _ ?_
   clear hK K
   go_simp
   refine wpAnyIn_ready (rs := [7]) (by kernel_rfl) (by simp) ?_
   refine AllReadyIn.cons rfl (fun K hK => ?_) AllReadyIn.nil
   go_simp
   refine hK _ _ ?_
   clear hK K
   go_simp
   refine wpAnyIn_take (i := 9) (v := .slice (some ⟨g,o + ff * 6,none⟩) (tt - ff) (cap - ff)) rfl rfl (by kernel_rfl) (by kernel_rfl) (by kernel_rfl) (fun c x w => hQ c x _ _ w) ⟨Or.inl ⟨by rfl,?y9⟩,fun _ => rfl⟩ ?_
   case y9 => (intro w; go_simp; first | done | exact hsl w | simp [hsl w])
   go_simp
   refine wpAnyIn_ready (rs := [10]) (by kernel_rfl) (by simp) ?_
   refine AllReadyIn.cons rfl (fun K hK => ?_) AllReadyIn.nil
   go_simp
   refine (callsIn_wide.2 hbox).mono ?_
   rintro e W1 ⟨rfl,hb1⟩
   have cy1 := (hb1.cell hyl).trans cy
   obtain ⟨fn,tmps,assign,body,hy,hRd⟩ := hY.out W1 hb1
   refine hK _ _ ?_
   clear hK K
   go_simp
   refine wpAnyIn_ready (rs := [11]) (by kernel_rfl) (by simp) ?_
   refine AllReadyIn.cons rfl (fun K hK => ?_) AllReadyIn.nil
   go_simp
   refine hRd.mono ?_
   intro e W2 hR2
   obtain ⟨c,rfl,hq⟩ := hR.out e W2 hR2
   refine hK _ _ ?_
   clear hK K
   go_simp
   refine wpAnyIn_take (i := 12) (v := .bool c) rfl rfl (by kernel_rfl) (by kernel_rfl) (by kernel_rfl) (fun c x w => hQ c x _ _ w) ⟨Or.inl ⟨by rfl,?y12⟩,fun _ => rfl⟩ ?_
   case y12 => (intro w; go_simp)
   go_simp
   refine wpAnyIn_take (i := 13) (v := .bool c) rfl rfl (by kernel_rfl) (by kernel_rfl) (by kernel_rfl) (fun c x w => hQ c x _ _ w) ⟨Or.inl ⟨by rfl,?y13⟩,fun _ => rfl⟩ ?_
   case y13 => (intro w; go_simp)
   go_simp
   exact wpAnyIn_done (by kernel_rfl) hq _
  ·go_simp
   refine hK _ _ ?_
   clear hK K
   go_simp
   refine wpAnyIn_take (i := 9) (v := .slice (some ⟨g,o + ff * 6,none⟩) (tt - ff) (cap - ff)) rfl rfl (by kernel_rfl) (by kernel_rfl) (by kernel_rfl) (fun c x w => hQ c x _ _ w) ⟨Or.inl ⟨by rfl,?y9⟩,fun _ => rfl⟩ ?_
   case y9 => (intro w; go_simp; first | done | exact hsl w | simp [hsl w])
   go_simp
   refine wpAnyIn_ready (rs := [4,10]) (by kernel_rfl) (by simp) ?_
   refine AllReadyIn.cons rfl (fun K hK => ?_) (AllReadyIn.cons rfl (fun K hK => ?_) AllReadyIn.nil)
   ·go_simp
    refine hK _ _ ?_
    clear hK K
    go_simp
    refine wpAnyIn_ready (rs := [10]) (by kernel_rfl) (by simp) ?_
    refine AllReadyIn.cons rfl (fun K hK => ?_) AllReadyIn.nil
    go_simp
    refine (callsIn_wide.2 hbox).mono ?_
    rintro e W1 ⟨rfl,hb1⟩
    have cy1 := (hb1.cell hyl).trans cy
    obtain ⟨fn,tmps,assign,body,hy,hRd⟩ := hY.out W1 hb1
    refine hK _ _ ?_
    clear hK K
    go_simp
    refine wpAnyIn_ready (rs := [11]) (by kernel_rfl) (by simp) ?_
    refine AllReadyIn.cons rfl (fun K hK => ?_) AllReadyIn.nil
    go_simp
    refine hRd.mono ?_
    intro e W2 hR2
    obtain ⟨c,rfl,hq⟩ := hR.out e W2 hR2
    refine hK _ _ ?_
    clear hK K
    go_simp
    refine wpAnyIn_take (i := 12) (v := .bool c) rfl rfl (by kernel_rfl) (by kernel_rfl) (by kernel_rfl) (fun c x w => hQ c x _ _ w) ⟨Or.inl ⟨by rfl,?y12⟩,fun _ => rfl⟩ ?_
    case y12 => (intro w; go_simp)
    go_simp
    refine wpAnyIn_take (i := 13) (v := .bool c) rfl rfl (by kernel_rfl) (by kernel_rfl) (by kernel_rfl) (fun c x w => hQ c x _ _ w) ⟨Or.inl ⟨by rfl,?y13⟩,fun _ => rfl⟩ ?_
    case y13 => (intro w; go_simp)
    go_simp
    exact wpAnyIn_done (by kernel_rfl) hq _
   ·go_simp
    refine (callsIn_wide.2 hbox).mono ?_
    rintro e W1 ⟨rfl,hb1⟩
    have cy1 := (hb1.cell hyl).trans cy
    obtain ⟨fn,tmps,assign,body,hy,hRd⟩ := hY.out W1 hb1
    refine hK _ _ ?_
    clear hK K
    go_simp
    refine wpAnyIn_ready (rs := [4]) (by kernel_rfl) (by simp) ?_
    refine AllReadyIn.cons rfl (fun K hK => ?_) AllReadyIn.nil
    go_simp
    refine hK _ _ ?_
    clear hK K
    go_simp
    refine wpAnyIn_ready (rs := [11]) (by kernel_rfl) (by simp) ?_
    refine AllReadyIn.cons rfl (fun K hK => ?_) AllReadyIn.nil
    go_simp
    refine hRd.mono ?_
    intro e W2 hR2
    obtain ⟨c,rfl,hq⟩ := hR.out e W2 hR2
    refine hK _ _ ?_
    clear hK K
    go_simp
    refine wpAnyIn_take (i := 12) (v := .bool c) rfl rfl (by kernel_rfl) (by kernel_rfl) (by kernel_rfl) (fun c x w => hQ c x _ _ w) ⟨Or.inl ⟨by rfl,?y12⟩,fun _ => rfl⟩ ?_
    case y12 => (intro w; go_simp)
    go_simp
    refine wpAnyIn_take (i := 13) (v := .bool c) rfl rfl (by kernel_rfl) (by kernel_rfl) (by kernel_rfl) (fun c x w => hQ c x _ _ w) ⟨Or.inl ⟨by rfl,?y13⟩,fun _ => rfl⟩ ?_
    case y13 => (intro w; go_simp)
    go_simp
    exact wpAnyIn_done (by kernel_rfl) hq _
 ·go_simp
  refine hK _ _ ?_
  clear hK K
  go_simp
  refine wpAnyIn_ready (rs := [4,6]) (by kernel_rfl) (by simp) ?_
  refine AllReadyIn.cons rfl (fun K hK => ?_) (AllReadyIn.cons rfl (fun K hK => ?_) AllReadyIn.nil)
  ·go_simp
   refine hK _ _ ?_
   clear hK K
   go_simp
   refine wpAnyIn_ready (rs := [6]) (by kernel_rfl) (by simp) ?_
   refine AllReadyIn.cons rfl (fun K hK => ?_) AllReadyIn.nil
   go_simp
   refine hK _ _ ?_
   clear hK K
   go_simp
   refine wpAnyIn_take (i := 9) (v := .slice (some ⟨g,o + ff * 6,none⟩) (tt - ff) (cap - ff)) rfl rfl (by kernel_rfl) (by kernel_rfl) (by kernel_rfl) (fun c x w => hQ c x _ _ w) ⟨Or.inl ⟨by rfl,?y9⟩,fun _ => rfl⟩ ?_
   case y9 => (intro w; go_simp; first | done | exact hsl w | simp [hsl w])
   go_simp
   refine wpAnyIn_ready (rs := [10]) (by kernel_rfl) (by simp) ?_
   refine AllReadyIn.cons rfl (fun K hK => ?_) AllReadyIn.nil
   go_simp
   refine (callsIn_wide.2 hbox).mono ?_
   rintro e W1 ⟨rfl,hb1⟩
   have cy1 := (hb1.cell hyl).trans cy
   obtain ⟨fn,tmps,assign,body,hy,hRd⟩ := hY.out W1 hb1
   refine hK _ _ ?_
   clear hK K
   go_simp
   refine wpAnyIn_ready (rs := [11]) (by kernel_rfl) (by simp) ?_
   refine AllReadyIn.cons rfl (fun K hK => ?_) AllReadyIn.nil
   go_simp
   refine hRd.mono ?_
   intro e W2 hR2
   obtain ⟨c,rfl,hq⟩ := hR.out e W2 hR2
   refine hK _ _ ?_
   clear hK K
   go_simp
   refine wpAnyIn_take (i := 12) (v := .bool c) rfl rfl (by kernel_rfl) (by kernel_rfl) (by kernel_rfl) (fun c x w => hQ c x _ _ w) ⟨Or.inl ⟨by rfl,?y12⟩,fun _ => rfl⟩ ?_
   case y12 => (intro w; go_simp)
   go_simp
   refine wpAnyIn_take (i := 13) (v := .bool c) rfl rfl (by kernel_rfl) (by kernel_rfl) (by kernel_rfl) (fun c x w => hQ c x _ _ w) ⟨Or.inl ⟨by rfl,?y13⟩,fun _ => rfl⟩ ?_
   case y13 => (intro w; go_simp)
   go_simp
   exact wpAnyIn_done (by kernel_rfl) hq _
  ·go_simp
   refine hK _ _ ?_
   clear hK K
   go_simp
   refine wpAnyIn_take (i := 9) (v := .slice (some ⟨g,o + ff * 6,none⟩) (tt - ff) (cap - ff)) rfl rfl (by kernel_rfl) (by kernel_rfl) (by kernel_rfl) (fun c x w => hQ c x _ _ w) ⟨Or.inl ⟨by rfl,?y9⟩,fun _ => rfl⟩ ?_
   case y9 => (intro w; go_simp; first | done | exact hsl w | simp [hsl w])
   go_simp
   refine wpAnyIn_ready (rs := [4,10]) (by kernel_rfl) (by simp) ?_
   refine AllReadyIn.cons rfl (fun K hK => ?_) (AllReadyIn.cons rfl (fun K hK => ?_) AllReadyIn.nil)
   ·go_simp
    refine hK _ _ ?_
    clear hK K
    go_simp
    refine wpAnyIn_ready (rs := [10]) (by kernel_rfl) (by simp) ?_
    refine AllReadyIn.cons rfl (fun K hK => ?_) AllReadyIn.nil
    go_simp
    refine (callsIn_wide.2 hbox).mono ?_
    rintro e W1 ⟨rfl,hb1⟩
    have cy1 := (hb1.cell hyl).trans cy
    obtain ⟨fn,tmps,assign,body,hy,hRd⟩ := hY.out W1 hb1
    refine hK _ _ ?_
    clear hK K
    go_simp
    refine wpAnyIn_ready (rs := [11]) (by kernel_rfl) (by simp) ?_
    refine AllReadyIn.cons rfl (fun K hK => ?_) AllReadyIn.nil
    go_simp
    refine hRd.mono ?_
    intro e W2 hR2
    obtain ⟨c,rfl,hq⟩ := hR.out e W2 hR2
    refine hK _ _ ?_
    clear hK K
    go_simp
    refine wpAnyIn_take (i := 12) (v := .bool c) rfl rfl (by kernel_rfl) (by kernel_rfl) (by kernel_rfl) (fun c x w => hQ c x _ _ w) ⟨Or.inl ⟨by rfl,?y12⟩,fun _ => rfl⟩ ?_
    case y12 => (intro w; go_simp)
    go_simp
    refine wpAnyIn_take (i := 13) (v := .bool c) rfl rfl (by kernel_rfl) (by kernel_rfl) (by kernel_rfl) (fun c x w => hQ c x _ _ w) ⟨Or.inl ⟨by rfl,?y13⟩,fun _ => rfl⟩ ?_
    case y13 => (intro w; go_simp)
    go_simp
    exact wpAnyIn_done (by kernel_rfl) hq _
   ·go_simp
    refine (callsIn_wide.2 hbox).mono ?_
    rintro e W1 ⟨rfl,hb1⟩
    have cy1 := (hb1.cell hyl).trans cy
    obtain ⟨fn,tmps,assign,body,hy,hRd⟩ := hY.out W1 hb1
    refine hK _ _ ?_
    clear hK K
    go_simp
    refine wpAnyIn_ready (rs := [4]) (by kernel_rfl) (by simp) ?_
    refine AllReadyIn.cons rfl (fun K hK => ?_) AllReadyIn.nil
    go_simp
    refine hK _ _ ?_
    clear hK K
    go_simp
    refine wpAnyIn_ready (rs := [11]) (by kernel_rfl) (by simp) ?_
    refine AllReadyIn.cons rfl (fun K hK => ?_) AllReadyIn.nil
    go_simp
    refine hRd.mono ?_
    intro e W2 hR2
    obtain ⟨c,rfl,hq⟩ := hR.out e W2 hR2
    refine hK _ _ ?_
    clear hK K
    go_simp
    refine wpAnyIn_take (i := 12) (v := .bool c) rfl rfl (by kernel_rfl) (by kernel_rfl) (by kernel_rfl) (fun c x w => hQ c x _ _ w) ⟨Or.inl ⟨by rfl,?y12⟩,fun _ => rfl⟩ ?_
    case y12 => (intro w; go_simp)
    go_simp
    refine wpAnyIn_take (i := 13) (v := .bool c) rfl rfl (by kernel_rfl) (by kernel_rfl) (by kernel_rfl) (fun c x w => hQ c x _ _ w) ⟨Or.inl ⟨by rfl,?y13⟩,fun _ => rfl⟩ ?_
    case y13 => (intro w; go_simp)
    go_simp
    exact wpAnyIn_done (by kernel_rfl) hq _
end Go.Proofs.YtlgcnbomfhmjiaaGreatDoor

namespace Go.Proofs.YtlgcnbomfhmjiaaGreatDoor
open Go.RowKit Go.Shelf
set_option maxRecDepth 100000
set_option maxHeartbeats 2000000
attribute [local go_sem] Oper.semAt_some wide_fn wide_depth

def runL (l : List Ms) (a b : Nat) : List Ms := (l.drop a).take (b - a)
theorem run_len {l : List Ms} {a b : Nat} (h : b ≤ l.length) : (runL l a b).length = b - a := by unfold runL; rw [List.length_take,List.length_drop]; omega
def frN (t : ByteArray) (l : List Ms) (pd : List Bool) : Nat → Nat
 | 0 => 0
 | k + 1 => if alB (mAt l k) = true then k + 1 else if cuB t l pd k = true then k else frN t l pd k
theorem frN_le (t : ByteArray) (l : List Ms) (pd : List Bool) : ∀ k,frN t l pd k ≤ k
 | 0 => Nat.le_refl _
 | k + 1 => by
  have := frN_le t l pd k
  unfold frN
  split
  ·omega
  ·split <;> omega
def bxL (l : List Ms) (a b : Nat) : List It := if a < b then [boxI (runL l a b)] else []
def smL (t : ByteArray) (l : List Ms) (pd : List Bool) (k : Nat) : List It :=
 if alB (mAt l k) = true then bxL l (frN t l pd k) k ++ [loneI (mAt l k)] else if cuB t l pd k = true then bxL l (frN t l pd k) k ++ [cutI t l pd k] else []
def ouL (t : ByteArray) (l : List Ms) (pd : List Bool) : Nat → List It
 | 0 => []
 | k + 1 => ouL t l pd k ++ smL t l pd k
def itsL (t : ByteArray) (l : List Ms) (pd : List Bool) : List It := ouL t l pd l.length ++ bxL l (frN t l pd l.length) l.length
theorem its_pre (t : ByteArray) (l : List Ms) (pd : List Bool) {k : Nat} (h : k ≤ l.length) : ∃ r,itsL t l pd = ouL t l pd k ++ r := by
 have : ∀ d k,k + d = l.length → ∃ r,itsL t l pd = ouL t l pd k ++ r := by
  intro d
  induction d with
  | zero => rintro k rfl; exact ⟨_,rfl⟩
  | succ d ih =>
   intro k hk
   obtain ⟨r,hr⟩ := ih (k + 1) (by omega)
   exact ⟨smL t l pd k ++ r,by rw [hr]; show ouL t l pd k ++ smL t l pd k ++ r = _; rw [List.append_assoc]⟩
 exact this (l.length - k) k (by omega)
theorem its_step (t : ByteArray) (l : List Ms) (pd : List Bool) {k : Nat} (h : k < l.length) : ∃ r,itsL t l pd = ouL t l pd k ++ (smL t l pd k ++ r) := by
 obtain ⟨r,hr⟩ := its_pre t l pd (k := k + 1) h
 exact ⟨r,by rw [hr]; show ouL t l pd k ++ smL t l pd k ++ r = _; rw [List.append_assoc]⟩
theorem app_at {a b : List It} {j : Nat} (h : j < b.length) : itAt (a ++ b) (a.length + j) = itAt b j ∧ a.length + j < (a ++ b).length := by
 refine ⟨?_,by rw [List.length_append]; omega⟩
 unfold itAt
 rw [List.getD_eq_getElem?_getD,List.getD_eq_getElem?_getD,List.getElem?_append_right (by omega)]
 congr 2
 omega

theorem slice54 {g o n cap f t : Nat} (h1 : f < t) (h2 : t ≤ cap) (W : World) : (Instr.slice 101 (.slice (some ⟨g,o,none⟩) n cap) (some (.int .i64 (f : Int))) (some (.int .i64 (t : Int))) none).run Tryz.prog W = .ok (.slice (some ⟨g,o + f * 6,none⟩) (t - f) (cap - f)) W := by
 obtain ⟨a',h,ha⟩ := slice36 (some ⟨g,o,none⟩) n cap f t W (by omega) h2
 rw [ha g o rfl h1] at h
 exact h
theorem run_rec {W : World} {g o n cap : Nat} {l : List Ms} (h : RecAt 6 msL W (.slice (some ⟨g,o,none⟩) n cap) l) {f t : Nat} (hft : f < t) (ht : t ≤ l.length) : RecAt 6 msL W (.slice (some ⟨g,o + f * 6,none⟩) (t - f) (cap - f)) (runL l f t) := by
 have hle := h.le _ _ _ rfl
 obtain ⟨a0,cap0,h1,h2⟩ := h.ex
 cases h1
 refine ⟨⟨_,cap - f,by rw [run_len ht],?_⟩,fun _ _ _ e => by cases e; omega⟩
 rcases h2 with h2 | ⟨b,o,e,hb,hc⟩
 ·subst h2; simp at ht; omega
 ·cases e
  refine .inr ⟨_,_,rfl,hb,fun i hi j u hu => ?_⟩
  rw [run_len ht] at hi
  have e : (runL l f t)[i]'(by rw [run_len ht]; exact hi) = l[f + i]'(by omega) := by
   unfold runL
   rw [List.getElem_take,List.getElem_drop]
  rw [e] at hu
  have := hc (f + i) (by omega) j u hu
  rw [← this]
  congr 2
  rw [Nat.add_mul]; omega

structure BoX (W : World) (Bo : Nat) (b : Bod) : Prop where
 row : W.heap[Bo]? = some (.cells (bodC b) 133 (0,0))
theorem BoX.c1 {W : World} {Bo : Nat} {b : Bod} (h : BoX W Bo b) : W.cell? ⟨Bo,1,none⟩ = some b.mv := by rw [Lib.cell_of_heap h.row]; rfl

theorem shut_same (F Y Bo k : Nat) (W : World) (hF : W.cell? ⟨F,0,none⟩ = some (.int .i64 (k : Nat))) :
  Calls Tryz.prog 131 #[.int .i64 (k : Nat),.pointer (some ⟨F,0,none⟩),.pointer (some ⟨Y,0,none⟩),.pointer (some ⟨Bo,0,none⟩)] W fun e W' => e = .returned (.bool true) ∧ Below W.heap.size W W' := by
 have hB : Below W.heap.size W W := Below.refl _ _
 go_enter Tryz.func131,Tryz.ntmps131
 go_wp2_with fail
 go_quiet (fail)
 go_wp2_with fail
 go_ret
 exact ⟨rfl,below_drewM hB _⟩

theorem shut_more (l F Y Bo ff tt : Nat) (b : Bod) (W : World) (hft : ff < tt) (ht : tt ≤ b.l.length) (hF : W.cell? ⟨F,0,none⟩ = some (.int .i64 (ff : Nat))) (hYc : W.cell? ⟨Y,0,none⟩ = some (.func (.yield l) #[] #[])) (hyl : Y < W.heap.size) (hB : BoX W Bo b) (hA : BodAt W b)
  (R : Ending → World → Prop) (hY : ∀ W1,Below W.heap.size W W1 → YieldAt Fence.wide 0 Tryz.prog l #[.agg (itC (boxI (runL b.l ff tt)))] W1 R) (hR : ∀ e W',R e W' → ∃ c : Bool,e = .returned (.bool c)) :
  CallsIn Fence.wide 0 Tryz.prog 131 #[.int .i64 (tt : Nat),.pointer (some ⟨F,0,none⟩),.pointer (some ⟨Y,0,none⟩),.pointer (some ⟨Bo,0,none⟩)] W R := by
 obtain ⟨a,cap,hv,h2⟩ := hA.ms.ex
 have hle := hA.ms.le _ _ _ hv
 rcases h2 with h2 | ⟨g,o,rfl,hg,hc⟩
 ·rw [h2] at ht; simp at ht; omega
 have c1 := hB.c1
 have hms := hA.ms
 rw [hv] at c1 hms
 have hrun := run_rec hms hft ht
 have hbx := box_any _ (runL b.l ff tt) (by rw [run_len ht]; omega) (by rw [run_len ht]; have := hA.few; omega) W.drew ⟨hrun.ex,hrun.le⟩
 have hsl := slice54 (g := g) (o := o) (n := b.l.length) hft (show tt ≤ cap by omega)
 have hR' : Hid (∀ e W',R e W' → ∃ c : Bool,e = .returned (.bool c)) := hR
 have hY' : Hid (∀ W1,Below W.drew.heap.size W.drew W1 → YieldAt Fence.wide 0 Tryz.prog l #[.agg (itC (boxI (runL b.l ff tt)))] W1 R) := fun W1 h => hY W1 ⟨h.1,h.2,h.3,h.4,h.5⟩
 have hne : ¬ (ff : Int) = (tt : Int) := by omega
 have hfin : Hid (∀ e W',R e W' → ∃ c : Bool,e = .returned (.bool c) ∧ R (.returned (.bool c)) W') := fun e W' h => by
  obtain ⟨c,rfl⟩ := hR e W' h
  exact ⟨c,rfl,h⟩
 clear hY hR hR' hrun hms hc hA hB
 refine callsIn_of_wp Tryz.func131 rfl trivial ?_ rfl
 simp only [Tryz.ntmps131,List.size_toArray,List.length_cons,List.length_nil,Nat.reduceAdd,Nat.reduceSub,Array.replicate_succ,Array.replicate_zero,List.push_toArray,List.append_toArray,List.nil_append,List.cons_append]
 gi_wp2_with fail
 refine shut_r1 _ (fun _ _ _ _ _ h => h) _ _ l F Y Bo g o b.l.length cap ff tt _ W hne hF hYc hyl c1 hsl hbx R hY' ?_
 intro e W' h
 obtain ⟨c,rfl,h'⟩ := hfin.out e W' h
 refine ⟨c,rfl,?_⟩
 clear hfin hY' hsl hbx h
 gi_wp2_with fail
 exact h'
end Go.Proofs.YtlgcnbomfhmjiaaGreatDoor
