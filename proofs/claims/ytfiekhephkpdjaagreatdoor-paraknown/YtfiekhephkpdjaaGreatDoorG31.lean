/-
  What is proved here: Break of least makes its plan.
-/
import Derived.Test.YtfiekhephkpdjaaGreatDoorG1
import Derived.Test.YtfiekhephkpdjaaGreatDoorG30
namespace Go.Proofs.YtfiekhephkpdjaaGreatDoor
open Go.RowKit Go.Shelf
set_option maxRecDepth 100000
set_option maxHeartbeats 2000000

structure BrS (v : Value) (l : List It) (vs : Value) (ss : List Sl) (X : Nat) (r : Sl) (W : World) : Prop where
 i : ItsAt W v l
 s : SlsAt W vs ss
 c : W.heap[X]? = some (.cells (slL r).toArray 32 (0,0))
theorem BrS.below {v : Value} {l : List It} {vs : Value} {ss : List Sl} {X : Nat} {r : Sl} {W W' : World} (h : BrS v l vs ss X r W) (hb : Below W.heap.size W W') : BrS v l vs ss X r W' := ⟨h.i.below hb (Nat.le_refl _),h.s.below hb (Nat.le_refl _),(hb.block _ (Array.getElem?_eq_some_iff.1 h.c).1).trans h.c⟩
theorem rec_form {α : Type} {k : Nat} {f : α → List Value} {W : World} {v : Value} {rs : List α} (h : RecAt k f W v rs) (hn : 0 < rs.length) : ∃ b o cap,v = .slice (some ⟨b,o,none⟩) rs.length cap ∧ RecAt k f W (.slice (some ⟨b,o,none⟩) rs.length cap) rs := by
 obtain ⟨a,cap,rfl,h2⟩ := h.ex
 rcases h2 with h2 | ⟨b,o,rfl,-⟩
 ·rw [h2] at hn; cases hn
 ·exact ⟨b,o,cap,rfl,h⟩
def fb4 (v0 v1 v2 v3 v4 v5 v6 v7 v8 v9 xa xb xc xd xe xf xg xh xi xj xk xl xm xn xo xp xq xr xt xu xv xw xx xy xz xA xB xC xD xE xF xG xH xI xJ xK xL xM xN xO : Value) : Act := { tmps := #[v0,v1,v2,v3,v4,v5,v6,v7,v8,v9,xa,xb,xc,xd,xe,xf,xg,xh,xi,xj,xk,xl,xm,xn,xo,xp,xq,xr,xt,xu,xv,xw,xx,xy,xz,xA,xB,xC,xD,xE,xF,xG,xH,xI,xJ,xK,xL,xM,xN,xO],defers := [] }
def ob4_6_0 (ps : String) : Oper := ⟨some 31,.move (.tmp 0),48,ps,#[],none⟩
def ob4_6_1 (ps : String) : Oper := ⟨some 32,.call ⟨.value (.func 63),#[.tmp 31],#[48]⟩,133,ps,#[⟨0,.data⟩],none⟩
def ob4_6_2 (ps : String) : Oper := ⟨some 33,.call ⟨.value (.func 64),#[.tmp 32],#[133]⟩,130,ps,#[⟨1,.data⟩,⟨1,.chain⟩],none⟩
def ob4_6_3 (ps : String) : Oper := ⟨some 34,.move (.tmp 1),45,ps,#[],none⟩
def ob4_6_4 (ps : String) : Oper := ⟨some 35,.load 32 (.tmp 5),32,ps,#[],none⟩
def ob4_6_5 (ps : String) : Oper := ⟨some 36,.call ⟨.value (.func 65),#[.tmp 34,.tmp 35],#[45,32]⟩,118,ps,#[⟨3,.data⟩,⟨4,.data⟩,⟨2,.chain⟩],none⟩
def ob4_6_6 (ps : String) : Oper := ⟨some 37,.makeMap 137 none,137,ps,#[],none⟩
def ob4_6_7 (ps : String) : Oper := ⟨some 38,.build 139 #[(0,.tmp 33),(1,.tmp 36),(2,.tmp 37)],139,ps,#[⟨2,.data⟩,⟨5,.data⟩,⟨6,.data⟩],none⟩
def ob4_6_8 (ps : String) : Oper := ⟨some 10,.alloc 139,0,ps,#[],none⟩
def ob4_6_9 (ps : String) : Oper := ⟨none,.store 139 (.tmp 10) (.tmp 38),0,ps,#[⟨8,.data⟩,⟨7,.data⟩,⟨5,.chain⟩,⟨0,.phase⟩,⟨1,.phase⟩,⟨2,.phase⟩,⟨3,.phase⟩,⟨4,.phase⟩,⟨5,.phase⟩,⟨6,.phase⟩,⟨7,.phase⟩,⟨8,.phase⟩],none⟩
def ob4_6 (ps : String) : Array Oper := #[ob4_6_0 ps,ob4_6_1 ps,ob4_6_2 ps,ob4_6_3 ps,ob4_6_4 ps,ob4_6_5 ps,ob4_6_6 ps,ob4_6_7 ps,ob4_6_8 ps,ob4_6_9 ps]

theorem br_r6_1_2_5_6_8_ (Q : Exit → Act → World → Prop) (_hQ : ∀ c x (n : Nat) v w,Q (.panic c) (x.put (some n) v) w → Q (.panic c) x w) (ps : String) {v2 v3 v4 v6 v7 v8 v9 xb xc xd xe xf xg xh xi xj xk xl xm xn xo xp xq xr xt xu xv xE xF xG xH xI xJ xK xL xM xN xO : Value} (v vs : Value) (l : List It) (ss : List Sl) (X : Nat) (r : Sl) (z w : World) (hz : Below z.heap.size z w) (hS : BrS v l vs ss X r w) (_hck : ckL l = 0) (_hcs : ckS ss r = 0) (_hln : 0 < (stopsL l).length ∧ 0 < (wdsL ss r).length) (hSz : BrS v l vs ss X r z) (va vb : Value) (gs os cs : Nat) (gw ow cw : Nat) (mb : Nat) (R : Nat) (f1 : RuAt w v va vb l) (f2 : StsAt w (.slice (some ⟨gs,os,none⟩) (stopsL l).length cs) (stopsL l)) (f5 : IntsAt w (.slice (some ⟨gw,ow,none⟩) (wdsL ss r).length cw) (wdsL ss r)) (f6 : z.heap.size ≤ mb ∧ MapW w mb (fun _ => none) 0) (f8 : z.heap.size ≤ R ∧ w.heap[R]? = some (.cells #[.slice none 0 0,.slice none 0 0,.map none] 139 (0,0))) 
  (hq : Hid (∀ (va vb : Value) (gs os cs : Nat) (gw ow cw : Nat) (mb : Nat) (R : Nat) w',Below z.heap.size z w' → BrS v l vs ss X r w' → RuAt w' v va vb l → StsAt w' (.slice (some ⟨gs,os,none⟩) (stopsL l).length cs) (stopsL l) → IntsAt w' (.slice (some ⟨gw,ow,none⟩) (wdsL ss r).length cw) (wdsL ss r) → z.heap.size ≤ mb ∧ MapW w' mb (fun _ => none) 0 → z.heap.size ≤ R ∧ w'.heap[R]? = some (.cells #[.slice none 0 0,.slice none 0 0,.map none] 139 (0,0)) → Q .normal (fb4 v vs v2 v3 v4 (.pointer (some ⟨X,0,none⟩)) v6 v7 v8 v9 (.pointer (some ⟨R,0,none⟩)) xb xc xd xe xf xg xh xi xj xk xl xm xn xo xp xq xr xt xu xv v (.agg (ruA v va vb)) (.slice (some ⟨gs,os,none⟩) (stopsL l).length cs) vs (.agg (slL r).toArray) (.slice (some ⟨gw,ow,none⟩) (wdsL ss r).length cw) (.map (some mb)) (.agg #[.slice (some ⟨gs,os,none⟩) (stopsL l).length cs,.slice (some ⟨gw,ow,none⟩) (wdsL ss r).length cw,.map (some mb)]) xE xF xG xH xI xJ xK xL xM xN xO) (w'.setRow R #[.slice (some ⟨gs,os,none⟩) (stopsL l).length cs,.slice (some ⟨gw,ow,none⟩) (wdsL ss r).length cw,.map (some mb)]))) :
  wpAnyH Tryz.prog .any (ob4_6 ps) Q (BrS v l vs ss X r) 1 #[true,true,true,true,true,true,true,true,true,false] (fb4 v vs v2 v3 v4 (.pointer (some ⟨X,0,none⟩)) v6 v7 v8 v9 (.pointer (some ⟨R,0,none⟩)) xb xc xd xe xf xg xh xi xj xk xl xm xn xo xp xq xr xt xu xv v (.agg (ruA v va vb)) (.slice (some ⟨gs,os,none⟩) (stopsL l).length cs) vs (.agg (slL r).toArray) (.slice (some ⟨gw,ow,none⟩) (wdsL ss r).length cw) (.map (some mb)) (.agg #[.slice (some ⟨gs,os,none⟩) (stopsL l).length cs,.slice (some ⟨gw,ow,none⟩) (wdsL ss r).length cw,.map (some mb)]) xE xF xG xH xI xJ xK xL xM xN xO) w := by
 refine want_k 9 (ob4_6_9 ps) fun K hK => ?_
 refine wp_store_row 139 _ _ (by unfold ob4_6_9; rfl) R #[.slice (some ⟨gs,os,none⟩) (stopsL l).length cs,.slice (some ⟨gw,ow,none⟩) (wdsL ss r).length cw,.map (some mb)] rfl rfl 139 _ f8.2 (by show _ = some 3; kernel_rfl) rfl (by kernel_rfl) ?_
 have hS1 : BrS v l vs ss X r (w.setRow R #[.slice (some ⟨gs,os,none⟩) (stopsL l).length cs,.slice (some ⟨gw,ow,none⟩) (wdsL ss r).length cw,.map (some mb)]) := hSz.below (hz.trans ((Turns.setRow (X := fun k => k = R) _ rfl _).below hz.size (fun k hk => by have := f8.1; omega)))
 refine hK _ _ hS1 (cast_h (fb4 v vs v2 v3 v4 (.pointer (some ⟨X,0,none⟩)) v6 v7 v8 v9 (.pointer (some ⟨R,0,none⟩)) xb xc xd xe xf xg xh xi xj xk xl xm xn xo xp xq xr xt xu xv v (.agg (ruA v va vb)) (.slice (some ⟨gs,os,none⟩) (stopsL l).length cs) vs (.agg (slL r).toArray) (.slice (some ⟨gw,ow,none⟩) (wdsL ss r).length cw) (.map (some mb)) (.agg #[.slice (some ⟨gs,os,none⟩) (stopsL l).length cs,.slice (some ⟨gw,ow,none⟩) (wdsL ss r).length cw,.map (some mb)]) xE xF xG xH xI xJ xK xL xM xN xO) (by kernel_rfl) ?_)
 clear hK K
 exact wpAnyH_done (by kernel_rfl) (hq.out va vb gs os cs gw ow cw mb R w hz hS f1 f2 f5 f6 f8 ) _

theorem br_r6_1_2_5_6_ (Q : Exit → Act → World → Prop) (hQ : ∀ c x (n : Nat) v w,Q (.panic c) (x.put (some n) v) w → Q (.panic c) x w) (ps : String) {v2 v3 v4 v6 v7 v8 v9 xa xb xc xd xe xf xg xh xi xj xk xl xm xn xo xp xq xr xt xu xv xE xF xG xH xI xJ xK xL xM xN xO : Value} (v vs : Value) (l : List It) (ss : List Sl) (X : Nat) (r : Sl) (z w : World) (hz : Below z.heap.size z w) (hS : BrS v l vs ss X r w) (hck : ckL l = 0) (hcs : ckS ss r = 0) (hln : 0 < (stopsL l).length ∧ 0 < (wdsL ss r).length) (hSz : BrS v l vs ss X r z) (va vb : Value) (gs os cs : Nat) (gw ow cw : Nat) (mb : Nat) (f1 : RuAt w v va vb l) (f2 : StsAt w (.slice (some ⟨gs,os,none⟩) (stopsL l).length cs) (stopsL l)) (f5 : IntsAt w (.slice (some ⟨gw,ow,none⟩) (wdsL ss r).length cw) (wdsL ss r)) (f6 : z.heap.size ≤ mb ∧ MapW w mb (fun _ => none) 0) 
  (hq : Hid (∀ (va vb : Value) (gs os cs : Nat) (gw ow cw : Nat) (mb : Nat) (R : Nat) w',Below z.heap.size z w' → BrS v l vs ss X r w' → RuAt w' v va vb l → StsAt w' (.slice (some ⟨gs,os,none⟩) (stopsL l).length cs) (stopsL l) → IntsAt w' (.slice (some ⟨gw,ow,none⟩) (wdsL ss r).length cw) (wdsL ss r) → z.heap.size ≤ mb ∧ MapW w' mb (fun _ => none) 0 → z.heap.size ≤ R ∧ w'.heap[R]? = some (.cells #[.slice none 0 0,.slice none 0 0,.map none] 139 (0,0)) → Q .normal (fb4 v vs v2 v3 v4 (.pointer (some ⟨X,0,none⟩)) v6 v7 v8 v9 (.pointer (some ⟨R,0,none⟩)) xb xc xd xe xf xg xh xi xj xk xl xm xn xo xp xq xr xt xu xv v (.agg (ruA v va vb)) (.slice (some ⟨gs,os,none⟩) (stopsL l).length cs) vs (.agg (slL r).toArray) (.slice (some ⟨gw,ow,none⟩) (wdsL ss r).length cw) (.map (some mb)) (.agg #[.slice (some ⟨gs,os,none⟩) (stopsL l).length cs,.slice (some ⟨gw,ow,none⟩) (wdsL ss r).length cw,.map (some mb)]) xE xF xG xH xI xJ xK xL xM xN xO) (w'.setRow R #[.slice (some ⟨gs,os,none⟩) (stopsL l).length cs,.slice (some ⟨gw,ow,none⟩) (wdsL ss r).length cw,.map (some mb)]))) :
  wpAnyH Tryz.prog .any (ob4_6 ps) Q (BrS v l vs ss X r) 2 #[true,true,true,true,true,true,true,true,false,false] (fb4 v vs v2 v3 v4 (.pointer (some ⟨X,0,none⟩)) v6 v7 v8 v9 xa xb xc xd xe xf xg xh xi xj xk xl xm xn xo xp xq xr xt xu xv v (.agg (ruA v va vb)) (.slice (some ⟨gs,os,none⟩) (stopsL l).length cs) vs (.agg (slL r).toArray) (.slice (some ⟨gw,ow,none⟩) (wdsL ss r).length cw) (.map (some mb)) (.agg #[.slice (some ⟨gs,os,none⟩) (stopsL l).length cs,.slice (some ⟨gw,ow,none⟩) (wdsL ss r).length cw,.map (some mb)]) xE xF xG xH xI xJ xK xL xM xN xO) w := by
 refine all_h (fuel := 1) [8] (by kernel_rfl) (by simp) ?_
 intro i hi
 simp only [List.mem_cons,List.not_mem_nil,or_false] at hi
 subst hi
 ·refine ⟨ob4_6_8 ps,by kernel_rfl,by kernel_rfl,fun K hK => ?_⟩
  unfold fb4 ob4_6_8
  go_simp
  have hb1 : Below w.heap.size w (w.alloc (.cells #[.slice none 0 0,.slice none 0 0,.map none] 139)) := (Below.refl _ _).alloc (Nat.le_refl _) _
  have fn : (w.alloc (.cells #[.slice none 0 0,.slice none 0 0,.map none] 139)).heap[w.heap.size]? = some (.cells #[.slice none 0 0,.slice none 0 0,.map none] 139 (0,0)) := World.alloc_heap_new w _
  generalize w.alloc (.cells #[.slice none 0 0,.slice none 0 0,.map none] 139) = w1 at *
  obtain ⟨R,hR⟩ : ∃ g,g = w.heap.size := ⟨_,rfl⟩
  rw [← hR] at fn
  replace fn := And.intro (show z.heap.size ≤ R by rw [hR]; exact hz.size) fn
  rw [← hR]
  have hS1 : BrS v l vs ss X r w1 := hS.below hb1
  have g1 : RuAt w1 v va vb l := f1.below hb1 (Nat.le_refl _)
  have g2 : StsAt w1 (.slice (some ⟨gs,os,none⟩) (stopsL l).length cs) (stopsL l) := f2.below hb1 (Nat.le_refl _)
  have g5 : IntsAt w1 (.slice (some ⟨gw,ow,none⟩) (wdsL ss r).length cw) (wdsL ss r) := f5.below hb1 (Nat.le_refl _)
  have g6 : z.heap.size ≤ mb ∧ MapW w1 mb (fun _ => none) 0 := ⟨f6.1,f6.2.below hb1 f6.2.lt⟩
  refine hK _ _ hS1 (cast_h (fb4 v vs v2 v3 v4 (.pointer (some ⟨X,0,none⟩)) v6 v7 v8 v9 (.pointer (some ⟨R,0,none⟩)) xb xc xd xe xf xg xh xi xj xk xl xm xn xo xp xq xr xt xu xv v (.agg (ruA v va vb)) (.slice (some ⟨gs,os,none⟩) (stopsL l).length cs) vs (.agg (slL r).toArray) (.slice (some ⟨gw,ow,none⟩) (wdsL ss r).length cw) (.map (some mb)) (.agg #[.slice (some ⟨gs,os,none⟩) (stopsL l).length cs,.slice (some ⟨gw,ow,none⟩) (wdsL ss r).length cw,.map (some mb)]) xE xF xG xH xI xJ xK xL xM xN xO) (by kernel_rfl) ?_)
  clear hK K
  refine castd_h (d' := #[true,true,true,true,true,true,true,true,true,false]) (by kernel_rfl) ?_
  exact br_r6_1_2_5_6_8_ Q hQ ps v vs l ss X r z w1 (hz.trans (hb1.mono hz.size)) hS1 hck hcs hln hSz va vb gs os cs gw ow cw mb R g1 g2 g5 g6 fn  hq

theorem br_r6_1_2_5_8_ (Q : Exit → Act → World → Prop) (hQ : ∀ c x (n : Nat) v w,Q (.panic c) (x.put (some n) v) w → Q (.panic c) x w) (ps : String) {v2 v3 v4 v6 v7 v8 v9 xb xc xd xe xf xg xh xi xj xk xl xm xn xo xp xq xr xt xu xv xC xD xE xF xG xH xI xJ xK xL xM xN xO : Value} (v vs : Value) (l : List It) (ss : List Sl) (X : Nat) (r : Sl) (z w : World) (hz : Below z.heap.size z w) (hS : BrS v l vs ss X r w) (hck : ckL l = 0) (hcs : ckS ss r = 0) (hln : 0 < (stopsL l).length ∧ 0 < (wdsL ss r).length) (hSz : BrS v l vs ss X r z) (va vb : Value) (gs os cs : Nat) (gw ow cw : Nat) (R : Nat) (f1 : RuAt w v va vb l) (f2 : StsAt w (.slice (some ⟨gs,os,none⟩) (stopsL l).length cs) (stopsL l)) (f5 : IntsAt w (.slice (some ⟨gw,ow,none⟩) (wdsL ss r).length cw) (wdsL ss r)) (f8 : z.heap.size ≤ R ∧ w.heap[R]? = some (.cells #[.slice none 0 0,.slice none 0 0,.map none] 139 (0,0))) 
  (hq : Hid (∀ (va vb : Value) (gs os cs : Nat) (gw ow cw : Nat) (mb : Nat) (R : Nat) w',Below z.heap.size z w' → BrS v l vs ss X r w' → RuAt w' v va vb l → StsAt w' (.slice (some ⟨gs,os,none⟩) (stopsL l).length cs) (stopsL l) → IntsAt w' (.slice (some ⟨gw,ow,none⟩) (wdsL ss r).length cw) (wdsL ss r) → z.heap.size ≤ mb ∧ MapW w' mb (fun _ => none) 0 → z.heap.size ≤ R ∧ w'.heap[R]? = some (.cells #[.slice none 0 0,.slice none 0 0,.map none] 139 (0,0)) → Q .normal (fb4 v vs v2 v3 v4 (.pointer (some ⟨X,0,none⟩)) v6 v7 v8 v9 (.pointer (some ⟨R,0,none⟩)) xb xc xd xe xf xg xh xi xj xk xl xm xn xo xp xq xr xt xu xv v (.agg (ruA v va vb)) (.slice (some ⟨gs,os,none⟩) (stopsL l).length cs) vs (.agg (slL r).toArray) (.slice (some ⟨gw,ow,none⟩) (wdsL ss r).length cw) (.map (some mb)) (.agg #[.slice (some ⟨gs,os,none⟩) (stopsL l).length cs,.slice (some ⟨gw,ow,none⟩) (wdsL ss r).length cw,.map (some mb)]) xE xF xG xH xI xJ xK xL xM xN xO) (w'.setRow R #[.slice (some ⟨gs,os,none⟩) (stopsL l).length cs,.slice (some ⟨gw,ow,none⟩) (wdsL ss r).length cw,.map (some mb)]))) :
  wpAnyH Tryz.prog .any (ob4_6 ps) Q (BrS v l vs ss X r) 3 #[true,true,true,true,true,true,false,false,true,false] (fb4 v vs v2 v3 v4 (.pointer (some ⟨X,0,none⟩)) v6 v7 v8 v9 (.pointer (some ⟨R,0,none⟩)) xb xc xd xe xf xg xh xi xj xk xl xm xn xo xp xq xr xt xu xv v (.agg (ruA v va vb)) (.slice (some ⟨gs,os,none⟩) (stopsL l).length cs) vs (.agg (slL r).toArray) (.slice (some ⟨gw,ow,none⟩) (wdsL ss r).length cw) xC xD xE xF xG xH xI xJ xK xL xM xN xO) w := by
 refine all_h (fuel := 2) [6] (by kernel_rfl) (by simp) ?_
 intro i hi
 simp only [List.mem_cons,List.not_mem_nil,or_false] at hi
 subst hi
 ·refine ⟨ob4_6_6 ps,by kernel_rfl,by kernel_rfl,fun K hK => ?_⟩
  have hmm := @run_makeMap Tryz.prog
  unfold fb4 ob4_6_6
  go_simp
  have hb1 : Below w.heap.size w (w.alloc (.map #[] 0)) := (Below.refl _ _).alloc (Nat.le_refl _) _
  have fn := MapW.made w
  generalize w.alloc (.map #[] 0) = w1 at *
  obtain ⟨mb,hmb⟩ : ∃ g,g = w.heap.size := ⟨_,rfl⟩
  rw [← hmb] at fn
  replace fn := And.intro (show z.heap.size ≤ mb by rw [hmb]; exact hz.size) fn
  rw [← hmb]
  have hS1 : BrS v l vs ss X r w1 := hS.below hb1
  have g1 : RuAt w1 v va vb l := f1.below hb1 (Nat.le_refl _)
  have g2 : StsAt w1 (.slice (some ⟨gs,os,none⟩) (stopsL l).length cs) (stopsL l) := f2.below hb1 (Nat.le_refl _)
  have g5 : IntsAt w1 (.slice (some ⟨gw,ow,none⟩) (wdsL ss r).length cw) (wdsL ss r) := f5.below hb1 (Nat.le_refl _)
  have g8 : z.heap.size ≤ R ∧ w1.heap[R]? = some (.cells #[.slice none 0 0,.slice none 0 0,.map none] 139 (0,0)) := ⟨f8.1,(hb1.block _ (Array.getElem?_eq_some_iff.1 f8.2).1).trans f8.2⟩
  refine hK _ _ hS1 (cast_h (fb4 v vs v2 v3 v4 (.pointer (some ⟨X,0,none⟩)) v6 v7 v8 v9 (.pointer (some ⟨R,0,none⟩)) xb xc xd xe xf xg xh xi xj xk xl xm xn xo xp xq xr xt xu xv v (.agg (ruA v va vb)) (.slice (some ⟨gs,os,none⟩) (stopsL l).length cs) vs (.agg (slL r).toArray) (.slice (some ⟨gw,ow,none⟩) (wdsL ss r).length cw) (.map (some mb)) xD xE xF xG xH xI xJ xK xL xM xN xO) (by kernel_rfl) ?_)
  clear hK K
  refine take_h (i := 7) (oi := ob4_6_7 ps) (fuel := 1) (v := (.agg #[.slice (some ⟨gs,os,none⟩) (stopsL l).length cs,.slice (some ⟨gw,ow,none⟩) (wdsL ss r).length cw,.map (some mb)])) (fb4 v vs v2 v3 v4 (.pointer (some ⟨X,0,none⟩)) v6 v7 v8 v9 (.pointer (some ⟨R,0,none⟩)) xb xc xd xe xf xg xh xi xj xk xl xm xn xo xp xq xr xt xu xv v (.agg (ruA v va vb)) (.slice (some ⟨gs,os,none⟩) (stopsL l).length cs) vs (.agg (slL r).toArray) (.slice (some ⟨gw,ow,none⟩) (wdsL ss r).length cw) (.map (some mb)) (.agg #[.slice (some ⟨gs,os,none⟩) (stopsL l).length cs,.slice (some ⟨gw,ow,none⟩) (wdsL ss r).length cw,.map (some mb)]) xE xF xG xH xI xJ xK xL xM xN xO) (by kernel_rfl) (by kernel_rfl) (by kernel_rfl) (by kernel_rfl) (fun c x w => hQ c x _ _ w) (by kernel_rfl) (fun w hS => by unfold fb4 ob4_6_7; go_simp; try rfl) (by kernel_rfl) hS1 ?_
  refine castd_h (d' := #[true,true,true,true,true,true,true,true,true,false]) (by kernel_rfl) ?_
  exact br_r6_1_2_5_6_8_ Q hQ ps v vs l ss X r z w1 (hz.trans (hb1.mono hz.size)) hS1 hck hcs hln hSz va vb gs os cs gw ow cw mb R g1 g2 g5 fn g8  hq

theorem br_r6_1_2_5_ (Q : Exit → Act → World → Prop) (hQ : ∀ c x (n : Nat) v w,Q (.panic c) (x.put (some n) v) w → Q (.panic c) x w) (ps : String) {v2 v3 v4 v6 v7 v8 v9 xa xb xc xd xe xf xg xh xi xj xk xl xm xn xo xp xq xr xt xu xv xC xD xE xF xG xH xI xJ xK xL xM xN xO : Value} (v vs : Value) (l : List It) (ss : List Sl) (X : Nat) (r : Sl) (z w : World) (hz : Below z.heap.size z w) (hS : BrS v l vs ss X r w) (hck : ckL l = 0) (hcs : ckS ss r = 0) (hln : 0 < (stopsL l).length ∧ 0 < (wdsL ss r).length) (hSz : BrS v l vs ss X r z) (va vb : Value) (gs os cs : Nat) (gw ow cw : Nat) (f1 : RuAt w v va vb l) (f2 : StsAt w (.slice (some ⟨gs,os,none⟩) (stopsL l).length cs) (stopsL l)) (f5 : IntsAt w (.slice (some ⟨gw,ow,none⟩) (wdsL ss r).length cw) (wdsL ss r)) 
  (hq : Hid (∀ (va vb : Value) (gs os cs : Nat) (gw ow cw : Nat) (mb : Nat) (R : Nat) w',Below z.heap.size z w' → BrS v l vs ss X r w' → RuAt w' v va vb l → StsAt w' (.slice (some ⟨gs,os,none⟩) (stopsL l).length cs) (stopsL l) → IntsAt w' (.slice (some ⟨gw,ow,none⟩) (wdsL ss r).length cw) (wdsL ss r) → z.heap.size ≤ mb ∧ MapW w' mb (fun _ => none) 0 → z.heap.size ≤ R ∧ w'.heap[R]? = some (.cells #[.slice none 0 0,.slice none 0 0,.map none] 139 (0,0)) → Q .normal (fb4 v vs v2 v3 v4 (.pointer (some ⟨X,0,none⟩)) v6 v7 v8 v9 (.pointer (some ⟨R,0,none⟩)) xb xc xd xe xf xg xh xi xj xk xl xm xn xo xp xq xr xt xu xv v (.agg (ruA v va vb)) (.slice (some ⟨gs,os,none⟩) (stopsL l).length cs) vs (.agg (slL r).toArray) (.slice (some ⟨gw,ow,none⟩) (wdsL ss r).length cw) (.map (some mb)) (.agg #[.slice (some ⟨gs,os,none⟩) (stopsL l).length cs,.slice (some ⟨gw,ow,none⟩) (wdsL ss r).length cw,.map (some mb)]) xE xF xG xH xI xJ xK xL xM xN xO) (w'.setRow R #[.slice (some ⟨gs,os,none⟩) (stopsL l).length cs,.slice (some ⟨gw,ow,none⟩) (wdsL ss r).length cw,.map (some mb)]))) :
  wpAnyH Tryz.prog .any (ob4_6 ps) Q (BrS v l vs ss X r) 4 #[true,true,true,true,true,true,false,false,false,false] (fb4 v vs v2 v3 v4 (.pointer (some ⟨X,0,none⟩)) v6 v7 v8 v9 xa xb xc xd xe xf xg xh xi xj xk xl xm xn xo xp xq xr xt xu xv v (.agg (ruA v va vb)) (.slice (some ⟨gs,os,none⟩) (stopsL l).length cs) vs (.agg (slL r).toArray) (.slice (some ⟨gw,ow,none⟩) (wdsL ss r).length cw) xC xD xE xF xG xH xI xJ xK xL xM xN xO) w := by
 refine all_h (fuel := 3) [6,8] (by kernel_rfl) (by simp) ?_
 intro i hi
 simp only [List.mem_cons,List.not_mem_nil,or_false] at hi
 rcases hi with rfl | rfl
 ·refine ⟨ob4_6_6 ps,by kernel_rfl,by kernel_rfl,fun K hK => ?_⟩
  have hmm := @run_makeMap Tryz.prog
  unfold fb4 ob4_6_6
  go_simp
  have hb1 : Below w.heap.size w (w.alloc (.map #[] 0)) := (Below.refl _ _).alloc (Nat.le_refl _) _
  have fn := MapW.made w
  generalize w.alloc (.map #[] 0) = w1 at *
  obtain ⟨mb,hmb⟩ : ∃ g,g = w.heap.size := ⟨_,rfl⟩
  rw [← hmb] at fn
  replace fn := And.intro (show z.heap.size ≤ mb by rw [hmb]; exact hz.size) fn
  rw [← hmb]
  have hS1 : BrS v l vs ss X r w1 := hS.below hb1
  have g1 : RuAt w1 v va vb l := f1.below hb1 (Nat.le_refl _)
  have g2 : StsAt w1 (.slice (some ⟨gs,os,none⟩) (stopsL l).length cs) (stopsL l) := f2.below hb1 (Nat.le_refl _)
  have g5 : IntsAt w1 (.slice (some ⟨gw,ow,none⟩) (wdsL ss r).length cw) (wdsL ss r) := f5.below hb1 (Nat.le_refl _)
  refine hK _ _ hS1 (cast_h (fb4 v vs v2 v3 v4 (.pointer (some ⟨X,0,none⟩)) v6 v7 v8 v9 xa xb xc xd xe xf xg xh xi xj xk xl xm xn xo xp xq xr xt xu xv v (.agg (ruA v va vb)) (.slice (some ⟨gs,os,none⟩) (stopsL l).length cs) vs (.agg (slL r).toArray) (.slice (some ⟨gw,ow,none⟩) (wdsL ss r).length cw) (.map (some mb)) xD xE xF xG xH xI xJ xK xL xM xN xO) (by kernel_rfl) ?_)
  clear hK K
  refine take_h (i := 7) (oi := ob4_6_7 ps) (fuel := 2) (v := (.agg #[.slice (some ⟨gs,os,none⟩) (stopsL l).length cs,.slice (some ⟨gw,ow,none⟩) (wdsL ss r).length cw,.map (some mb)])) (fb4 v vs v2 v3 v4 (.pointer (some ⟨X,0,none⟩)) v6 v7 v8 v9 xa xb xc xd xe xf xg xh xi xj xk xl xm xn xo xp xq xr xt xu xv v (.agg (ruA v va vb)) (.slice (some ⟨gs,os,none⟩) (stopsL l).length cs) vs (.agg (slL r).toArray) (.slice (some ⟨gw,ow,none⟩) (wdsL ss r).length cw) (.map (some mb)) (.agg #[.slice (some ⟨gs,os,none⟩) (stopsL l).length cs,.slice (some ⟨gw,ow,none⟩) (wdsL ss r).length cw,.map (some mb)]) xE xF xG xH xI xJ xK xL xM xN xO) (by kernel_rfl) (by kernel_rfl) (by kernel_rfl) (by kernel_rfl) (fun c x w => hQ c x _ _ w) (by kernel_rfl) (fun w hS => by unfold fb4 ob4_6_7; go_simp; try rfl) (by kernel_rfl) hS1 ?_
  refine castd_h (d' := #[true,true,true,true,true,true,true,true,false,false]) (by kernel_rfl) ?_
  exact br_r6_1_2_5_6_ Q hQ ps v vs l ss X r z w1 (hz.trans (hb1.mono hz.size)) hS1 hck hcs hln hSz va vb gs os cs gw ow cw mb g1 g2 g5 fn  hq
 ·refine ⟨ob4_6_8 ps,by kernel_rfl,by kernel_rfl,fun K hK => ?_⟩
  unfold fb4 ob4_6_8
  go_simp
  have hb1 : Below w.heap.size w (w.alloc (.cells #[.slice none 0 0,.slice none 0 0,.map none] 139)) := (Below.refl _ _).alloc (Nat.le_refl _) _
  have fn : (w.alloc (.cells #[.slice none 0 0,.slice none 0 0,.map none] 139)).heap[w.heap.size]? = some (.cells #[.slice none 0 0,.slice none 0 0,.map none] 139 (0,0)) := World.alloc_heap_new w _
  generalize w.alloc (.cells #[.slice none 0 0,.slice none 0 0,.map none] 139) = w1 at *
  obtain ⟨R,hR⟩ : ∃ g,g = w.heap.size := ⟨_,rfl⟩
  rw [← hR] at fn
  replace fn := And.intro (show z.heap.size ≤ R by rw [hR]; exact hz.size) fn
  rw [← hR]
  have hS1 : BrS v l vs ss X r w1 := hS.below hb1
  have g1 : RuAt w1 v va vb l := f1.below hb1 (Nat.le_refl _)
  have g2 : StsAt w1 (.slice (some ⟨gs,os,none⟩) (stopsL l).length cs) (stopsL l) := f2.below hb1 (Nat.le_refl _)
  have g5 : IntsAt w1 (.slice (some ⟨gw,ow,none⟩) (wdsL ss r).length cw) (wdsL ss r) := f5.below hb1 (Nat.le_refl _)
  refine hK _ _ hS1 (cast_h (fb4 v vs v2 v3 v4 (.pointer (some ⟨X,0,none⟩)) v6 v7 v8 v9 (.pointer (some ⟨R,0,none⟩)) xb xc xd xe xf xg xh xi xj xk xl xm xn xo xp xq xr xt xu xv v (.agg (ruA v va vb)) (.slice (some ⟨gs,os,none⟩) (stopsL l).length cs) vs (.agg (slL r).toArray) (.slice (some ⟨gw,ow,none⟩) (wdsL ss r).length cw) xC xD xE xF xG xH xI xJ xK xL xM xN xO) (by kernel_rfl) ?_)
  clear hK K
  refine castd_h (d' := #[true,true,true,true,true,true,false,false,true,false]) (by kernel_rfl) ?_
  exact br_r6_1_2_5_8_ Q hQ ps v vs l ss X r z w1 (hz.trans (hb1.mono hz.size)) hS1 hck hcs hln hSz va vb gs os cs gw ow cw R g1 g2 g5 fn  hq

theorem br_r6_1_2_6_8_ (Q : Exit → Act → World → Prop) (hQ : ∀ c x (n : Nat) v w,Q (.panic c) (x.put (some n) v) w → Q (.panic c) x w) (ps : String) {v2 v3 v4 v6 v7 v8 v9 xb xc xd xe xf xg xh xi xj xk xl xm xn xo xp xq xr xt xu xv xB xD xE xF xG xH xI xJ xK xL xM xN xO : Value} (v vs : Value) (l : List It) (ss : List Sl) (X : Nat) (r : Sl) (z w : World) (hz : Below z.heap.size z w) (hS : BrS v l vs ss X r w) (hck : ckL l = 0) (hcs : ckS ss r = 0) (hln : 0 < (stopsL l).length ∧ 0 < (wdsL ss r).length) (hSz : BrS v l vs ss X r z) (va vb : Value) (gs os cs : Nat) (mb : Nat) (R : Nat) (f1 : RuAt w v va vb l) (f2 : StsAt w (.slice (some ⟨gs,os,none⟩) (stopsL l).length cs) (stopsL l)) (f6 : z.heap.size ≤ mb ∧ MapW w mb (fun _ => none) 0) (f8 : z.heap.size ≤ R ∧ w.heap[R]? = some (.cells #[.slice none 0 0,.slice none 0 0,.map none] 139 (0,0))) 
  (hq : Hid (∀ (va vb : Value) (gs os cs : Nat) (gw ow cw : Nat) (mb : Nat) (R : Nat) w',Below z.heap.size z w' → BrS v l vs ss X r w' → RuAt w' v va vb l → StsAt w' (.slice (some ⟨gs,os,none⟩) (stopsL l).length cs) (stopsL l) → IntsAt w' (.slice (some ⟨gw,ow,none⟩) (wdsL ss r).length cw) (wdsL ss r) → z.heap.size ≤ mb ∧ MapW w' mb (fun _ => none) 0 → z.heap.size ≤ R ∧ w'.heap[R]? = some (.cells #[.slice none 0 0,.slice none 0 0,.map none] 139 (0,0)) → Q .normal (fb4 v vs v2 v3 v4 (.pointer (some ⟨X,0,none⟩)) v6 v7 v8 v9 (.pointer (some ⟨R,0,none⟩)) xb xc xd xe xf xg xh xi xj xk xl xm xn xo xp xq xr xt xu xv v (.agg (ruA v va vb)) (.slice (some ⟨gs,os,none⟩) (stopsL l).length cs) vs (.agg (slL r).toArray) (.slice (some ⟨gw,ow,none⟩) (wdsL ss r).length cw) (.map (some mb)) (.agg #[.slice (some ⟨gs,os,none⟩) (stopsL l).length cs,.slice (some ⟨gw,ow,none⟩) (wdsL ss r).length cw,.map (some mb)]) xE xF xG xH xI xJ xK xL xM xN xO) (w'.setRow R #[.slice (some ⟨gs,os,none⟩) (stopsL l).length cs,.slice (some ⟨gw,ow,none⟩) (wdsL ss r).length cw,.map (some mb)]))) :
  wpAnyH Tryz.prog .any (ob4_6 ps) Q (BrS v l vs ss X r) 3 #[true,true,true,true,true,false,true,false,true,false] (fb4 v vs v2 v3 v4 (.pointer (some ⟨X,0,none⟩)) v6 v7 v8 v9 (.pointer (some ⟨R,0,none⟩)) xb xc xd xe xf xg xh xi xj xk xl xm xn xo xp xq xr xt xu xv v (.agg (ruA v va vb)) (.slice (some ⟨gs,os,none⟩) (stopsL l).length cs) vs (.agg (slL r).toArray) xB (.map (some mb)) xD xE xF xG xH xI xJ xK xL xM xN xO) w := by
 refine all_h (fuel := 2) [5] (by kernel_rfl) (by simp) ?_
 intro i hi
 simp only [List.mem_cons,List.not_mem_nil,or_false] at hi
 subst hi
 ·refine ⟨ob4_6_5 ps,by kernel_rfl,by kernel_rfl,fun K hK => ?_⟩
  unfold fb4 ob4_6_5
  go_simp
  refine (widths_any vs ss r hcs w hS.s).mono ?_
  rintro e w1 ⟨⟨u,rfl,fn0⟩,hb1⟩
  obtain ⟨gw,ow,cw,rfl,fn⟩ := rec_form fn0 hln.2
  have hS1 : BrS v l vs ss X r w1 := hS.below hb1
  have g1 : RuAt w1 v va vb l := f1.below hb1 (Nat.le_refl _)
  have g2 : StsAt w1 (.slice (some ⟨gs,os,none⟩) (stopsL l).length cs) (stopsL l) := f2.below hb1 (Nat.le_refl _)
  have g6 : z.heap.size ≤ mb ∧ MapW w1 mb (fun _ => none) 0 := ⟨f6.1,f6.2.below hb1 f6.2.lt⟩
  have g8 : z.heap.size ≤ R ∧ w1.heap[R]? = some (.cells #[.slice none 0 0,.slice none 0 0,.map none] 139 (0,0)) := ⟨f8.1,(hb1.block _ (Array.getElem?_eq_some_iff.1 f8.2).1).trans f8.2⟩
  refine hK _ _ hS1 (cast_h (fb4 v vs v2 v3 v4 (.pointer (some ⟨X,0,none⟩)) v6 v7 v8 v9 (.pointer (some ⟨R,0,none⟩)) xb xc xd xe xf xg xh xi xj xk xl xm xn xo xp xq xr xt xu xv v (.agg (ruA v va vb)) (.slice (some ⟨gs,os,none⟩) (stopsL l).length cs) vs (.agg (slL r).toArray) (.slice (some ⟨gw,ow,none⟩) (wdsL ss r).length cw) (.map (some mb)) xD xE xF xG xH xI xJ xK xL xM xN xO) (by kernel_rfl) ?_)
  clear hK K
  refine take_h (i := 7) (oi := ob4_6_7 ps) (fuel := 1) (v := (.agg #[.slice (some ⟨gs,os,none⟩) (stopsL l).length cs,.slice (some ⟨gw,ow,none⟩) (wdsL ss r).length cw,.map (some mb)])) (fb4 v vs v2 v3 v4 (.pointer (some ⟨X,0,none⟩)) v6 v7 v8 v9 (.pointer (some ⟨R,0,none⟩)) xb xc xd xe xf xg xh xi xj xk xl xm xn xo xp xq xr xt xu xv v (.agg (ruA v va vb)) (.slice (some ⟨gs,os,none⟩) (stopsL l).length cs) vs (.agg (slL r).toArray) (.slice (some ⟨gw,ow,none⟩) (wdsL ss r).length cw) (.map (some mb)) (.agg #[.slice (some ⟨gs,os,none⟩) (stopsL l).length cs,.slice (some ⟨gw,ow,none⟩) (wdsL ss r).length cw,.map (some mb)]) xE xF xG xH xI xJ xK xL xM xN xO) (by kernel_rfl) (by kernel_rfl) (by kernel_rfl) (by kernel_rfl) (fun c x w => hQ c x _ _ w) (by kernel_rfl) (fun w hS => by unfold fb4 ob4_6_7; go_simp; try rfl) (by kernel_rfl) hS1 ?_
  refine castd_h (d' := #[true,true,true,true,true,true,true,true,true,false]) (by kernel_rfl) ?_
  exact br_r6_1_2_5_6_8_ Q hQ ps v vs l ss X r z w1 (hz.trans (hb1.mono hz.size)) hS1 hck hcs hln hSz va vb gs os cs gw ow cw mb R g1 g2 fn g6 g8  hq

theorem br_r6_1_2_6_ (Q : Exit → Act → World → Prop) (hQ : ∀ c x (n : Nat) v w,Q (.panic c) (x.put (some n) v) w → Q (.panic c) x w) (ps : String) {v2 v3 v4 v6 v7 v8 v9 xa xb xc xd xe xf xg xh xi xj xk xl xm xn xo xp xq xr xt xu xv xB xD xE xF xG xH xI xJ xK xL xM xN xO : Value} (v vs : Value) (l : List It) (ss : List Sl) (X : Nat) (r : Sl) (z w : World) (hz : Below z.heap.size z w) (hS : BrS v l vs ss X r w) (hck : ckL l = 0) (hcs : ckS ss r = 0) (hln : 0 < (stopsL l).length ∧ 0 < (wdsL ss r).length) (hSz : BrS v l vs ss X r z) (va vb : Value) (gs os cs : Nat) (mb : Nat) (f1 : RuAt w v va vb l) (f2 : StsAt w (.slice (some ⟨gs,os,none⟩) (stopsL l).length cs) (stopsL l)) (f6 : z.heap.size ≤ mb ∧ MapW w mb (fun _ => none) 0) 
  (hq : Hid (∀ (va vb : Value) (gs os cs : Nat) (gw ow cw : Nat) (mb : Nat) (R : Nat) w',Below z.heap.size z w' → BrS v l vs ss X r w' → RuAt w' v va vb l → StsAt w' (.slice (some ⟨gs,os,none⟩) (stopsL l).length cs) (stopsL l) → IntsAt w' (.slice (some ⟨gw,ow,none⟩) (wdsL ss r).length cw) (wdsL ss r) → z.heap.size ≤ mb ∧ MapW w' mb (fun _ => none) 0 → z.heap.size ≤ R ∧ w'.heap[R]? = some (.cells #[.slice none 0 0,.slice none 0 0,.map none] 139 (0,0)) → Q .normal (fb4 v vs v2 v3 v4 (.pointer (some ⟨X,0,none⟩)) v6 v7 v8 v9 (.pointer (some ⟨R,0,none⟩)) xb xc xd xe xf xg xh xi xj xk xl xm xn xo xp xq xr xt xu xv v (.agg (ruA v va vb)) (.slice (some ⟨gs,os,none⟩) (stopsL l).length cs) vs (.agg (slL r).toArray) (.slice (some ⟨gw,ow,none⟩) (wdsL ss r).length cw) (.map (some mb)) (.agg #[.slice (some ⟨gs,os,none⟩) (stopsL l).length cs,.slice (some ⟨gw,ow,none⟩) (wdsL ss r).length cw,.map (some mb)]) xE xF xG xH xI xJ xK xL xM xN xO) (w'.setRow R #[.slice (some ⟨gs,os,none⟩) (stopsL l).length cs,.slice (some ⟨gw,ow,none⟩) (wdsL ss r).length cw,.map (some mb)]))) :
  wpAnyH Tryz.prog .any (ob4_6 ps) Q (BrS v l vs ss X r) 4 #[true,true,true,true,true,false,true,false,false,false] (fb4 v vs v2 v3 v4 (.pointer (some ⟨X,0,none⟩)) v6 v7 v8 v9 xa xb xc xd xe xf xg xh xi xj xk xl xm xn xo xp xq xr xt xu xv v (.agg (ruA v va vb)) (.slice (some ⟨gs,os,none⟩) (stopsL l).length cs) vs (.agg (slL r).toArray) xB (.map (some mb)) xD xE xF xG xH xI xJ xK xL xM xN xO) w := by
 refine all_h (fuel := 3) [5,8] (by kernel_rfl) (by simp) ?_
 intro i hi
 simp only [List.mem_cons,List.not_mem_nil,or_false] at hi
 rcases hi with rfl | rfl
 ·refine ⟨ob4_6_5 ps,by kernel_rfl,by kernel_rfl,fun K hK => ?_⟩
  unfold fb4 ob4_6_5
  go_simp
  refine (widths_any vs ss r hcs w hS.s).mono ?_
  rintro e w1 ⟨⟨u,rfl,fn0⟩,hb1⟩
  obtain ⟨gw,ow,cw,rfl,fn⟩ := rec_form fn0 hln.2
  have hS1 : BrS v l vs ss X r w1 := hS.below hb1
  have g1 : RuAt w1 v va vb l := f1.below hb1 (Nat.le_refl _)
  have g2 : StsAt w1 (.slice (some ⟨gs,os,none⟩) (stopsL l).length cs) (stopsL l) := f2.below hb1 (Nat.le_refl _)
  have g6 : z.heap.size ≤ mb ∧ MapW w1 mb (fun _ => none) 0 := ⟨f6.1,f6.2.below hb1 f6.2.lt⟩
  refine hK _ _ hS1 (cast_h (fb4 v vs v2 v3 v4 (.pointer (some ⟨X,0,none⟩)) v6 v7 v8 v9 xa xb xc xd xe xf xg xh xi xj xk xl xm xn xo xp xq xr xt xu xv v (.agg (ruA v va vb)) (.slice (some ⟨gs,os,none⟩) (stopsL l).length cs) vs (.agg (slL r).toArray) (.slice (some ⟨gw,ow,none⟩) (wdsL ss r).length cw) (.map (some mb)) xD xE xF xG xH xI xJ xK xL xM xN xO) (by kernel_rfl) ?_)
  clear hK K
  refine take_h (i := 7) (oi := ob4_6_7 ps) (fuel := 2) (v := (.agg #[.slice (some ⟨gs,os,none⟩) (stopsL l).length cs,.slice (some ⟨gw,ow,none⟩) (wdsL ss r).length cw,.map (some mb)])) (fb4 v vs v2 v3 v4 (.pointer (some ⟨X,0,none⟩)) v6 v7 v8 v9 xa xb xc xd xe xf xg xh xi xj xk xl xm xn xo xp xq xr xt xu xv v (.agg (ruA v va vb)) (.slice (some ⟨gs,os,none⟩) (stopsL l).length cs) vs (.agg (slL r).toArray) (.slice (some ⟨gw,ow,none⟩) (wdsL ss r).length cw) (.map (some mb)) (.agg #[.slice (some ⟨gs,os,none⟩) (stopsL l).length cs,.slice (some ⟨gw,ow,none⟩) (wdsL ss r).length cw,.map (some mb)]) xE xF xG xH xI xJ xK xL xM xN xO) (by kernel_rfl) (by kernel_rfl) (by kernel_rfl) (by kernel_rfl) (fun c x w => hQ c x _ _ w) (by kernel_rfl) (fun w hS => by unfold fb4 ob4_6_7; go_simp; try rfl) (by kernel_rfl) hS1 ?_
  refine castd_h (d' := #[true,true,true,true,true,true,true,true,false,false]) (by kernel_rfl) ?_
  exact br_r6_1_2_5_6_ Q hQ ps v vs l ss X r z w1 (hz.trans (hb1.mono hz.size)) hS1 hck hcs hln hSz va vb gs os cs gw ow cw mb g1 g2 fn g6  hq
 ·refine ⟨ob4_6_8 ps,by kernel_rfl,by kernel_rfl,fun K hK => ?_⟩
  unfold fb4 ob4_6_8
  go_simp
  have hb1 : Below w.heap.size w (w.alloc (.cells #[.slice none 0 0,.slice none 0 0,.map none] 139)) := (Below.refl _ _).alloc (Nat.le_refl _) _
  have fn : (w.alloc (.cells #[.slice none 0 0,.slice none 0 0,.map none] 139)).heap[w.heap.size]? = some (.cells #[.slice none 0 0,.slice none 0 0,.map none] 139 (0,0)) := World.alloc_heap_new w _
  generalize w.alloc (.cells #[.slice none 0 0,.slice none 0 0,.map none] 139) = w1 at *
  obtain ⟨R,hR⟩ : ∃ g,g = w.heap.size := ⟨_,rfl⟩
  rw [← hR] at fn
  replace fn := And.intro (show z.heap.size ≤ R by rw [hR]; exact hz.size) fn
  rw [← hR]
  have hS1 : BrS v l vs ss X r w1 := hS.below hb1
  have g1 : RuAt w1 v va vb l := f1.below hb1 (Nat.le_refl _)
  have g2 : StsAt w1 (.slice (some ⟨gs,os,none⟩) (stopsL l).length cs) (stopsL l) := f2.below hb1 (Nat.le_refl _)
  have g6 : z.heap.size ≤ mb ∧ MapW w1 mb (fun _ => none) 0 := ⟨f6.1,f6.2.below hb1 f6.2.lt⟩
  refine hK _ _ hS1 (cast_h (fb4 v vs v2 v3 v4 (.pointer (some ⟨X,0,none⟩)) v6 v7 v8 v9 (.pointer (some ⟨R,0,none⟩)) xb xc xd xe xf xg xh xi xj xk xl xm xn xo xp xq xr xt xu xv v (.agg (ruA v va vb)) (.slice (some ⟨gs,os,none⟩) (stopsL l).length cs) vs (.agg (slL r).toArray) xB (.map (some mb)) xD xE xF xG xH xI xJ xK xL xM xN xO) (by kernel_rfl) ?_)
  clear hK K
  refine castd_h (d' := #[true,true,true,true,true,false,true,false,true,false]) (by kernel_rfl) ?_
  exact br_r6_1_2_6_8_ Q hQ ps v vs l ss X r z w1 (hz.trans (hb1.mono hz.size)) hS1 hck hcs hln hSz va vb gs os cs mb R g1 g2 g6 fn  hq

theorem br_r6_1_2_8_ (Q : Exit → Act → World → Prop) (hQ : ∀ c x (n : Nat) v w,Q (.panic c) (x.put (some n) v) w → Q (.panic c) x w) (ps : String) {v2 v3 v4 v6 v7 v8 v9 xb xc xd xe xf xg xh xi xj xk xl xm xn xo xp xq xr xt xu xv xB xC xD xE xF xG xH xI xJ xK xL xM xN xO : Value} (v vs : Value) (l : List It) (ss : List Sl) (X : Nat) (r : Sl) (z w : World) (hz : Below z.heap.size z w) (hS : BrS v l vs ss X r w) (hck : ckL l = 0) (hcs : ckS ss r = 0) (hln : 0 < (stopsL l).length ∧ 0 < (wdsL ss r).length) (hSz : BrS v l vs ss X r z) (va vb : Value) (gs os cs : Nat) (R : Nat) (f1 : RuAt w v va vb l) (f2 : StsAt w (.slice (some ⟨gs,os,none⟩) (stopsL l).length cs) (stopsL l)) (f8 : z.heap.size ≤ R ∧ w.heap[R]? = some (.cells #[.slice none 0 0,.slice none 0 0,.map none] 139 (0,0))) 
  (hq : Hid (∀ (va vb : Value) (gs os cs : Nat) (gw ow cw : Nat) (mb : Nat) (R : Nat) w',Below z.heap.size z w' → BrS v l vs ss X r w' → RuAt w' v va vb l → StsAt w' (.slice (some ⟨gs,os,none⟩) (stopsL l).length cs) (stopsL l) → IntsAt w' (.slice (some ⟨gw,ow,none⟩) (wdsL ss r).length cw) (wdsL ss r) → z.heap.size ≤ mb ∧ MapW w' mb (fun _ => none) 0 → z.heap.size ≤ R ∧ w'.heap[R]? = some (.cells #[.slice none 0 0,.slice none 0 0,.map none] 139 (0,0)) → Q .normal (fb4 v vs v2 v3 v4 (.pointer (some ⟨X,0,none⟩)) v6 v7 v8 v9 (.pointer (some ⟨R,0,none⟩)) xb xc xd xe xf xg xh xi xj xk xl xm xn xo xp xq xr xt xu xv v (.agg (ruA v va vb)) (.slice (some ⟨gs,os,none⟩) (stopsL l).length cs) vs (.agg (slL r).toArray) (.slice (some ⟨gw,ow,none⟩) (wdsL ss r).length cw) (.map (some mb)) (.agg #[.slice (some ⟨gs,os,none⟩) (stopsL l).length cs,.slice (some ⟨gw,ow,none⟩) (wdsL ss r).length cw,.map (some mb)]) xE xF xG xH xI xJ xK xL xM xN xO) (w'.setRow R #[.slice (some ⟨gs,os,none⟩) (stopsL l).length cs,.slice (some ⟨gw,ow,none⟩) (wdsL ss r).length cw,.map (some mb)]))) :
  wpAnyH Tryz.prog .any (ob4_6 ps) Q (BrS v l vs ss X r) 4 #[true,true,true,true,true,false,false,false,true,false] (fb4 v vs v2 v3 v4 (.pointer (some ⟨X,0,none⟩)) v6 v7 v8 v9 (.pointer (some ⟨R,0,none⟩)) xb xc xd xe xf xg xh xi xj xk xl xm xn xo xp xq xr xt xu xv v (.agg (ruA v va vb)) (.slice (some ⟨gs,os,none⟩) (stopsL l).length cs) vs (.agg (slL r).toArray) xB xC xD xE xF xG xH xI xJ xK xL xM xN xO) w := by
 refine all_h (fuel := 3) [5,6] (by kernel_rfl) (by simp) ?_
 intro i hi
 simp only [List.mem_cons,List.not_mem_nil,or_false] at hi
 rcases hi with rfl | rfl
 ·refine ⟨ob4_6_5 ps,by kernel_rfl,by kernel_rfl,fun K hK => ?_⟩
  unfold fb4 ob4_6_5
  go_simp
  refine (widths_any vs ss r hcs w hS.s).mono ?_
  rintro e w1 ⟨⟨u,rfl,fn0⟩,hb1⟩
  obtain ⟨gw,ow,cw,rfl,fn⟩ := rec_form fn0 hln.2
  have hS1 : BrS v l vs ss X r w1 := hS.below hb1
  have g1 : RuAt w1 v va vb l := f1.below hb1 (Nat.le_refl _)
  have g2 : StsAt w1 (.slice (some ⟨gs,os,none⟩) (stopsL l).length cs) (stopsL l) := f2.below hb1 (Nat.le_refl _)
  have g8 : z.heap.size ≤ R ∧ w1.heap[R]? = some (.cells #[.slice none 0 0,.slice none 0 0,.map none] 139 (0,0)) := ⟨f8.1,(hb1.block _ (Array.getElem?_eq_some_iff.1 f8.2).1).trans f8.2⟩
  refine hK _ _ hS1 (cast_h (fb4 v vs v2 v3 v4 (.pointer (some ⟨X,0,none⟩)) v6 v7 v8 v9 (.pointer (some ⟨R,0,none⟩)) xb xc xd xe xf xg xh xi xj xk xl xm xn xo xp xq xr xt xu xv v (.agg (ruA v va vb)) (.slice (some ⟨gs,os,none⟩) (stopsL l).length cs) vs (.agg (slL r).toArray) (.slice (some ⟨gw,ow,none⟩) (wdsL ss r).length cw) xC xD xE xF xG xH xI xJ xK xL xM xN xO) (by kernel_rfl) ?_)
  clear hK K
  refine castd_h (d' := #[true,true,true,true,true,true,false,false,true,false]) (by kernel_rfl) ?_
  exact br_r6_1_2_5_8_ Q hQ ps v vs l ss X r z w1 (hz.trans (hb1.mono hz.size)) hS1 hck hcs hln hSz va vb gs os cs gw ow cw R g1 g2 fn g8  hq
 ·refine ⟨ob4_6_6 ps,by kernel_rfl,by kernel_rfl,fun K hK => ?_⟩
  have hmm := @run_makeMap Tryz.prog
  unfold fb4 ob4_6_6
  go_simp
  have hb1 : Below w.heap.size w (w.alloc (.map #[] 0)) := (Below.refl _ _).alloc (Nat.le_refl _) _
  have fn := MapW.made w
  generalize w.alloc (.map #[] 0) = w1 at *
  obtain ⟨mb,hmb⟩ : ∃ g,g = w.heap.size := ⟨_,rfl⟩
  rw [← hmb] at fn
  replace fn := And.intro (show z.heap.size ≤ mb by rw [hmb]; exact hz.size) fn
  rw [← hmb]
  have hS1 : BrS v l vs ss X r w1 := hS.below hb1
  have g1 : RuAt w1 v va vb l := f1.below hb1 (Nat.le_refl _)
  have g2 : StsAt w1 (.slice (some ⟨gs,os,none⟩) (stopsL l).length cs) (stopsL l) := f2.below hb1 (Nat.le_refl _)
  have g8 : z.heap.size ≤ R ∧ w1.heap[R]? = some (.cells #[.slice none 0 0,.slice none 0 0,.map none] 139 (0,0)) := ⟨f8.1,(hb1.block _ (Array.getElem?_eq_some_iff.1 f8.2).1).trans f8.2⟩
  refine hK _ _ hS1 (cast_h (fb4 v vs v2 v3 v4 (.pointer (some ⟨X,0,none⟩)) v6 v7 v8 v9 (.pointer (some ⟨R,0,none⟩)) xb xc xd xe xf xg xh xi xj xk xl xm xn xo xp xq xr xt xu xv v (.agg (ruA v va vb)) (.slice (some ⟨gs,os,none⟩) (stopsL l).length cs) vs (.agg (slL r).toArray) xB (.map (some mb)) xD xE xF xG xH xI xJ xK xL xM xN xO) (by kernel_rfl) ?_)
  clear hK K
  refine castd_h (d' := #[true,true,true,true,true,false,true,false,true,false]) (by kernel_rfl) ?_
  exact br_r6_1_2_6_8_ Q hQ ps v vs l ss X r z w1 (hz.trans (hb1.mono hz.size)) hS1 hck hcs hln hSz va vb gs os cs mb R g1 g2 fn g8  hq

theorem br_r6_1_2_ (Q : Exit → Act → World → Prop) (hQ : ∀ c x (n : Nat) v w,Q (.panic c) (x.put (some n) v) w → Q (.panic c) x w) (ps : String) {v2 v3 v4 v6 v7 v8 v9 xa xb xc xd xe xf xg xh xi xj xk xl xm xn xo xp xq xr xt xu xv xB xC xD xE xF xG xH xI xJ xK xL xM xN xO : Value} (v vs : Value) (l : List It) (ss : List Sl) (X : Nat) (r : Sl) (z w : World) (hz : Below z.heap.size z w) (hS : BrS v l vs ss X r w) (hck : ckL l = 0) (hcs : ckS ss r = 0) (hln : 0 < (stopsL l).length ∧ 0 < (wdsL ss r).length) (hSz : BrS v l vs ss X r z) (va vb : Value) (gs os cs : Nat) (f1 : RuAt w v va vb l) (f2 : StsAt w (.slice (some ⟨gs,os,none⟩) (stopsL l).length cs) (stopsL l)) 
  (hq : Hid (∀ (va vb : Value) (gs os cs : Nat) (gw ow cw : Nat) (mb : Nat) (R : Nat) w',Below z.heap.size z w' → BrS v l vs ss X r w' → RuAt w' v va vb l → StsAt w' (.slice (some ⟨gs,os,none⟩) (stopsL l).length cs) (stopsL l) → IntsAt w' (.slice (some ⟨gw,ow,none⟩) (wdsL ss r).length cw) (wdsL ss r) → z.heap.size ≤ mb ∧ MapW w' mb (fun _ => none) 0 → z.heap.size ≤ R ∧ w'.heap[R]? = some (.cells #[.slice none 0 0,.slice none 0 0,.map none] 139 (0,0)) → Q .normal (fb4 v vs v2 v3 v4 (.pointer (some ⟨X,0,none⟩)) v6 v7 v8 v9 (.pointer (some ⟨R,0,none⟩)) xb xc xd xe xf xg xh xi xj xk xl xm xn xo xp xq xr xt xu xv v (.agg (ruA v va vb)) (.slice (some ⟨gs,os,none⟩) (stopsL l).length cs) vs (.agg (slL r).toArray) (.slice (some ⟨gw,ow,none⟩) (wdsL ss r).length cw) (.map (some mb)) (.agg #[.slice (some ⟨gs,os,none⟩) (stopsL l).length cs,.slice (some ⟨gw,ow,none⟩) (wdsL ss r).length cw,.map (some mb)]) xE xF xG xH xI xJ xK xL xM xN xO) (w'.setRow R #[.slice (some ⟨gs,os,none⟩) (stopsL l).length cs,.slice (some ⟨gw,ow,none⟩) (wdsL ss r).length cw,.map (some mb)]))) :
  wpAnyH Tryz.prog .any (ob4_6 ps) Q (BrS v l vs ss X r) 5 #[true,true,true,true,true,false,false,false,false,false] (fb4 v vs v2 v3 v4 (.pointer (some ⟨X,0,none⟩)) v6 v7 v8 v9 xa xb xc xd xe xf xg xh xi xj xk xl xm xn xo xp xq xr xt xu xv v (.agg (ruA v va vb)) (.slice (some ⟨gs,os,none⟩) (stopsL l).length cs) vs (.agg (slL r).toArray) xB xC xD xE xF xG xH xI xJ xK xL xM xN xO) w := by
 refine all_h (fuel := 4) [5,6,8] (by kernel_rfl) (by simp) ?_
 intro i hi
 simp only [List.mem_cons,List.not_mem_nil,or_false] at hi
 rcases hi with rfl | rfl | rfl
 ·refine ⟨ob4_6_5 ps,by kernel_rfl,by kernel_rfl,fun K hK => ?_⟩
  unfold fb4 ob4_6_5
  go_simp
  refine (widths_any vs ss r hcs w hS.s).mono ?_
  rintro e w1 ⟨⟨u,rfl,fn0⟩,hb1⟩
  obtain ⟨gw,ow,cw,rfl,fn⟩ := rec_form fn0 hln.2
  have hS1 : BrS v l vs ss X r w1 := hS.below hb1
  have g1 : RuAt w1 v va vb l := f1.below hb1 (Nat.le_refl _)
  have g2 : StsAt w1 (.slice (some ⟨gs,os,none⟩) (stopsL l).length cs) (stopsL l) := f2.below hb1 (Nat.le_refl _)
  refine hK _ _ hS1 (cast_h (fb4 v vs v2 v3 v4 (.pointer (some ⟨X,0,none⟩)) v6 v7 v8 v9 xa xb xc xd xe xf xg xh xi xj xk xl xm xn xo xp xq xr xt xu xv v (.agg (ruA v va vb)) (.slice (some ⟨gs,os,none⟩) (stopsL l).length cs) vs (.agg (slL r).toArray) (.slice (some ⟨gw,ow,none⟩) (wdsL ss r).length cw) xC xD xE xF xG xH xI xJ xK xL xM xN xO) (by kernel_rfl) ?_)
  clear hK K
  refine castd_h (d' := #[true,true,true,true,true,true,false,false,false,false]) (by kernel_rfl) ?_
  exact br_r6_1_2_5_ Q hQ ps v vs l ss X r z w1 (hz.trans (hb1.mono hz.size)) hS1 hck hcs hln hSz va vb gs os cs gw ow cw g1 g2 fn  hq
 ·refine ⟨ob4_6_6 ps,by kernel_rfl,by kernel_rfl,fun K hK => ?_⟩
  have hmm := @run_makeMap Tryz.prog
  unfold fb4 ob4_6_6
  go_simp
  have hb1 : Below w.heap.size w (w.alloc (.map #[] 0)) := (Below.refl _ _).alloc (Nat.le_refl _) _
  have fn := MapW.made w
  generalize w.alloc (.map #[] 0) = w1 at *
  obtain ⟨mb,hmb⟩ : ∃ g,g = w.heap.size := ⟨_,rfl⟩
  rw [← hmb] at fn
  replace fn := And.intro (show z.heap.size ≤ mb by rw [hmb]; exact hz.size) fn
  rw [← hmb]
  have hS1 : BrS v l vs ss X r w1 := hS.below hb1
  have g1 : RuAt w1 v va vb l := f1.below hb1 (Nat.le_refl _)
  have g2 : StsAt w1 (.slice (some ⟨gs,os,none⟩) (stopsL l).length cs) (stopsL l) := f2.below hb1 (Nat.le_refl _)
  refine hK _ _ hS1 (cast_h (fb4 v vs v2 v3 v4 (.pointer (some ⟨X,0,none⟩)) v6 v7 v8 v9 xa xb xc xd xe xf xg xh xi xj xk xl xm xn xo xp xq xr xt xu xv v (.agg (ruA v va vb)) (.slice (some ⟨gs,os,none⟩) (stopsL l).length cs) vs (.agg (slL r).toArray) xB (.map (some mb)) xD xE xF xG xH xI xJ xK xL xM xN xO) (by kernel_rfl) ?_)
  clear hK K
  refine castd_h (d' := #[true,true,true,true,true,false,true,false,false,false]) (by kernel_rfl) ?_
  exact br_r6_1_2_6_ Q hQ ps v vs l ss X r z w1 (hz.trans (hb1.mono hz.size)) hS1 hck hcs hln hSz va vb gs os cs mb g1 g2 fn  hq
 ·refine ⟨ob4_6_8 ps,by kernel_rfl,by kernel_rfl,fun K hK => ?_⟩
  unfold fb4 ob4_6_8
  go_simp
  have hb1 : Below w.heap.size w (w.alloc (.cells #[.slice none 0 0,.slice none 0 0,.map none] 139)) := (Below.refl _ _).alloc (Nat.le_refl _) _
  have fn : (w.alloc (.cells #[.slice none 0 0,.slice none 0 0,.map none] 139)).heap[w.heap.size]? = some (.cells #[.slice none 0 0,.slice none 0 0,.map none] 139 (0,0)) := World.alloc_heap_new w _
  generalize w.alloc (.cells #[.slice none 0 0,.slice none 0 0,.map none] 139) = w1 at *
  obtain ⟨R,hR⟩ : ∃ g,g = w.heap.size := ⟨_,rfl⟩
  rw [← hR] at fn
  replace fn := And.intro (show z.heap.size ≤ R by rw [hR]; exact hz.size) fn
  rw [← hR]
  have hS1 : BrS v l vs ss X r w1 := hS.below hb1
  have g1 : RuAt w1 v va vb l := f1.below hb1 (Nat.le_refl _)
  have g2 : StsAt w1 (.slice (some ⟨gs,os,none⟩) (stopsL l).length cs) (stopsL l) := f2.below hb1 (Nat.le_refl _)
  refine hK _ _ hS1 (cast_h (fb4 v vs v2 v3 v4 (.pointer (some ⟨X,0,none⟩)) v6 v7 v8 v9 (.pointer (some ⟨R,0,none⟩)) xb xc xd xe xf xg xh xi xj xk xl xm xn xo xp xq xr xt xu xv v (.agg (ruA v va vb)) (.slice (some ⟨gs,os,none⟩) (stopsL l).length cs) vs (.agg (slL r).toArray) xB xC xD xE xF xG xH xI xJ xK xL xM xN xO) (by kernel_rfl) ?_)
  clear hK K
  refine castd_h (d' := #[true,true,true,true,true,false,false,false,true,false]) (by kernel_rfl) ?_
  exact br_r6_1_2_8_ Q hQ ps v vs l ss X r z w1 (hz.trans (hb1.mono hz.size)) hS1 hck hcs hln hSz va vb gs os cs R g1 g2 fn  hq

theorem br_r6_1_6_8_ (Q : Exit → Act → World → Prop) (hQ : ∀ c x (n : Nat) v w,Q (.panic c) (x.put (some n) v) w → Q (.panic c) x w) (ps : String) {v2 v3 v4 v6 v7 v8 v9 xb xc xd xe xf xg xh xi xj xk xl xm xn xo xp xq xr xt xu xv xy xB xD xE xF xG xH xI xJ xK xL xM xN xO : Value} (v vs : Value) (l : List It) (ss : List Sl) (X : Nat) (r : Sl) (z w : World) (hz : Below z.heap.size z w) (hS : BrS v l vs ss X r w) (hck : ckL l = 0) (hcs : ckS ss r = 0) (hln : 0 < (stopsL l).length ∧ 0 < (wdsL ss r).length) (hSz : BrS v l vs ss X r z) (va vb : Value) (mb : Nat) (R : Nat) (f1 : RuAt w v va vb l) (f6 : z.heap.size ≤ mb ∧ MapW w mb (fun _ => none) 0) (f8 : z.heap.size ≤ R ∧ w.heap[R]? = some (.cells #[.slice none 0 0,.slice none 0 0,.map none] 139 (0,0))) 
  (hq : Hid (∀ (va vb : Value) (gs os cs : Nat) (gw ow cw : Nat) (mb : Nat) (R : Nat) w',Below z.heap.size z w' → BrS v l vs ss X r w' → RuAt w' v va vb l → StsAt w' (.slice (some ⟨gs,os,none⟩) (stopsL l).length cs) (stopsL l) → IntsAt w' (.slice (some ⟨gw,ow,none⟩) (wdsL ss r).length cw) (wdsL ss r) → z.heap.size ≤ mb ∧ MapW w' mb (fun _ => none) 0 → z.heap.size ≤ R ∧ w'.heap[R]? = some (.cells #[.slice none 0 0,.slice none 0 0,.map none] 139 (0,0)) → Q .normal (fb4 v vs v2 v3 v4 (.pointer (some ⟨X,0,none⟩)) v6 v7 v8 v9 (.pointer (some ⟨R,0,none⟩)) xb xc xd xe xf xg xh xi xj xk xl xm xn xo xp xq xr xt xu xv v (.agg (ruA v va vb)) (.slice (some ⟨gs,os,none⟩) (stopsL l).length cs) vs (.agg (slL r).toArray) (.slice (some ⟨gw,ow,none⟩) (wdsL ss r).length cw) (.map (some mb)) (.agg #[.slice (some ⟨gs,os,none⟩) (stopsL l).length cs,.slice (some ⟨gw,ow,none⟩) (wdsL ss r).length cw,.map (some mb)]) xE xF xG xH xI xJ xK xL xM xN xO) (w'.setRow R #[.slice (some ⟨gs,os,none⟩) (stopsL l).length cs,.slice (some ⟨gw,ow,none⟩) (wdsL ss r).length cw,.map (some mb)]))) :
  wpAnyH Tryz.prog .any (ob4_6 ps) Q (BrS v l vs ss X r) 4 #[true,true,false,true,true,false,true,false,true,false] (fb4 v vs v2 v3 v4 (.pointer (some ⟨X,0,none⟩)) v6 v7 v8 v9 (.pointer (some ⟨R,0,none⟩)) xb xc xd xe xf xg xh xi xj xk xl xm xn xo xp xq xr xt xu xv v (.agg (ruA v va vb)) xy vs (.agg (slL r).toArray) xB (.map (some mb)) xD xE xF xG xH xI xJ xK xL xM xN xO) w := by
 refine all_h (fuel := 3) [2] (by kernel_rfl) (by simp) ?_
 intro i hi
 simp only [List.mem_cons,List.not_mem_nil,or_false] at hi
 subst hi
 ·refine ⟨ob4_6_2 ps,by kernel_rfl,by kernel_rfl,fun K hK => ?_⟩
  unfold fb4 ob4_6_2
  go_simp
  refine (stops_any v va vb l hck w f1).mono ?_
  rintro e w1 ⟨⟨u,rfl,fn0⟩,hb1⟩
  obtain ⟨gs,os,cs,rfl,fn⟩ := rec_form fn0 hln.1
  have hS1 : BrS v l vs ss X r w1 := hS.below hb1
  have g1 : RuAt w1 v va vb l := f1.below hb1 (Nat.le_refl _)
  have g6 : z.heap.size ≤ mb ∧ MapW w1 mb (fun _ => none) 0 := ⟨f6.1,f6.2.below hb1 f6.2.lt⟩
  have g8 : z.heap.size ≤ R ∧ w1.heap[R]? = some (.cells #[.slice none 0 0,.slice none 0 0,.map none] 139 (0,0)) := ⟨f8.1,(hb1.block _ (Array.getElem?_eq_some_iff.1 f8.2).1).trans f8.2⟩
  refine hK _ _ hS1 (cast_h (fb4 v vs v2 v3 v4 (.pointer (some ⟨X,0,none⟩)) v6 v7 v8 v9 (.pointer (some ⟨R,0,none⟩)) xb xc xd xe xf xg xh xi xj xk xl xm xn xo xp xq xr xt xu xv v (.agg (ruA v va vb)) (.slice (some ⟨gs,os,none⟩) (stopsL l).length cs) vs (.agg (slL r).toArray) xB (.map (some mb)) xD xE xF xG xH xI xJ xK xL xM xN xO) (by kernel_rfl) ?_)
  clear hK K
  refine castd_h (d' := #[true,true,true,true,true,false,true,false,true,false]) (by kernel_rfl) ?_
  exact br_r6_1_2_6_8_ Q hQ ps v vs l ss X r z w1 (hz.trans (hb1.mono hz.size)) hS1 hck hcs hln hSz va vb gs os cs mb R g1 fn g6 g8  hq

theorem br_r6_1_6_ (Q : Exit → Act → World → Prop) (hQ : ∀ c x (n : Nat) v w,Q (.panic c) (x.put (some n) v) w → Q (.panic c) x w) (ps : String) {v2 v3 v4 v6 v7 v8 v9 xa xb xc xd xe xf xg xh xi xj xk xl xm xn xo xp xq xr xt xu xv xy xB xD xE xF xG xH xI xJ xK xL xM xN xO : Value} (v vs : Value) (l : List It) (ss : List Sl) (X : Nat) (r : Sl) (z w : World) (hz : Below z.heap.size z w) (hS : BrS v l vs ss X r w) (hck : ckL l = 0) (hcs : ckS ss r = 0) (hln : 0 < (stopsL l).length ∧ 0 < (wdsL ss r).length) (hSz : BrS v l vs ss X r z) (va vb : Value) (mb : Nat) (f1 : RuAt w v va vb l) (f6 : z.heap.size ≤ mb ∧ MapW w mb (fun _ => none) 0) 
  (hq : Hid (∀ (va vb : Value) (gs os cs : Nat) (gw ow cw : Nat) (mb : Nat) (R : Nat) w',Below z.heap.size z w' → BrS v l vs ss X r w' → RuAt w' v va vb l → StsAt w' (.slice (some ⟨gs,os,none⟩) (stopsL l).length cs) (stopsL l) → IntsAt w' (.slice (some ⟨gw,ow,none⟩) (wdsL ss r).length cw) (wdsL ss r) → z.heap.size ≤ mb ∧ MapW w' mb (fun _ => none) 0 → z.heap.size ≤ R ∧ w'.heap[R]? = some (.cells #[.slice none 0 0,.slice none 0 0,.map none] 139 (0,0)) → Q .normal (fb4 v vs v2 v3 v4 (.pointer (some ⟨X,0,none⟩)) v6 v7 v8 v9 (.pointer (some ⟨R,0,none⟩)) xb xc xd xe xf xg xh xi xj xk xl xm xn xo xp xq xr xt xu xv v (.agg (ruA v va vb)) (.slice (some ⟨gs,os,none⟩) (stopsL l).length cs) vs (.agg (slL r).toArray) (.slice (some ⟨gw,ow,none⟩) (wdsL ss r).length cw) (.map (some mb)) (.agg #[.slice (some ⟨gs,os,none⟩) (stopsL l).length cs,.slice (some ⟨gw,ow,none⟩) (wdsL ss r).length cw,.map (some mb)]) xE xF xG xH xI xJ xK xL xM xN xO) (w'.setRow R #[.slice (some ⟨gs,os,none⟩) (stopsL l).length cs,.slice (some ⟨gw,ow,none⟩) (wdsL ss r).length cw,.map (some mb)]))) :
  wpAnyH Tryz.prog .any (ob4_6 ps) Q (BrS v l vs ss X r) 5 #[true,true,false,true,true,false,true,false,false,false] (fb4 v vs v2 v3 v4 (.pointer (some ⟨X,0,none⟩)) v6 v7 v8 v9 xa xb xc xd xe xf xg xh xi xj xk xl xm xn xo xp xq xr xt xu xv v (.agg (ruA v va vb)) xy vs (.agg (slL r).toArray) xB (.map (some mb)) xD xE xF xG xH xI xJ xK xL xM xN xO) w := by
 refine all_h (fuel := 4) [2,8] (by kernel_rfl) (by simp) ?_
 intro i hi
 simp only [List.mem_cons,List.not_mem_nil,or_false] at hi
 rcases hi with rfl | rfl
 ·refine ⟨ob4_6_2 ps,by kernel_rfl,by kernel_rfl,fun K hK => ?_⟩
  unfold fb4 ob4_6_2
  go_simp
  refine (stops_any v va vb l hck w f1).mono ?_
  rintro e w1 ⟨⟨u,rfl,fn0⟩,hb1⟩
  obtain ⟨gs,os,cs,rfl,fn⟩ := rec_form fn0 hln.1
  have hS1 : BrS v l vs ss X r w1 := hS.below hb1
  have g1 : RuAt w1 v va vb l := f1.below hb1 (Nat.le_refl _)
  have g6 : z.heap.size ≤ mb ∧ MapW w1 mb (fun _ => none) 0 := ⟨f6.1,f6.2.below hb1 f6.2.lt⟩
  refine hK _ _ hS1 (cast_h (fb4 v vs v2 v3 v4 (.pointer (some ⟨X,0,none⟩)) v6 v7 v8 v9 xa xb xc xd xe xf xg xh xi xj xk xl xm xn xo xp xq xr xt xu xv v (.agg (ruA v va vb)) (.slice (some ⟨gs,os,none⟩) (stopsL l).length cs) vs (.agg (slL r).toArray) xB (.map (some mb)) xD xE xF xG xH xI xJ xK xL xM xN xO) (by kernel_rfl) ?_)
  clear hK K
  refine castd_h (d' := #[true,true,true,true,true,false,true,false,false,false]) (by kernel_rfl) ?_
  exact br_r6_1_2_6_ Q hQ ps v vs l ss X r z w1 (hz.trans (hb1.mono hz.size)) hS1 hck hcs hln hSz va vb gs os cs mb g1 fn g6  hq
 ·refine ⟨ob4_6_8 ps,by kernel_rfl,by kernel_rfl,fun K hK => ?_⟩
  unfold fb4 ob4_6_8
  go_simp
  have hb1 : Below w.heap.size w (w.alloc (.cells #[.slice none 0 0,.slice none 0 0,.map none] 139)) := (Below.refl _ _).alloc (Nat.le_refl _) _
  have fn : (w.alloc (.cells #[.slice none 0 0,.slice none 0 0,.map none] 139)).heap[w.heap.size]? = some (.cells #[.slice none 0 0,.slice none 0 0,.map none] 139 (0,0)) := World.alloc_heap_new w _
  generalize w.alloc (.cells #[.slice none 0 0,.slice none 0 0,.map none] 139) = w1 at *
  obtain ⟨R,hR⟩ : ∃ g,g = w.heap.size := ⟨_,rfl⟩
  rw [← hR] at fn
  replace fn := And.intro (show z.heap.size ≤ R by rw [hR]; exact hz.size) fn
  rw [← hR]
  have hS1 : BrS v l vs ss X r w1 := hS.below hb1
  have g1 : RuAt w1 v va vb l := f1.below hb1 (Nat.le_refl _)
  have g6 : z.heap.size ≤ mb ∧ MapW w1 mb (fun _ => none) 0 := ⟨f6.1,f6.2.below hb1 f6.2.lt⟩
  refine hK _ _ hS1 (cast_h (fb4 v vs v2 v3 v4 (.pointer (some ⟨X,0,none⟩)) v6 v7 v8 v9 (.pointer (some ⟨R,0,none⟩)) xb xc xd xe xf xg xh xi xj xk xl xm xn xo xp xq xr xt xu xv v (.agg (ruA v va vb)) xy vs (.agg (slL r).toArray) xB (.map (some mb)) xD xE xF xG xH xI xJ xK xL xM xN xO) (by kernel_rfl) ?_)
  clear hK K
  refine castd_h (d' := #[true,true,false,true,true,false,true,false,true,false]) (by kernel_rfl) ?_
  exact br_r6_1_6_8_ Q hQ ps v vs l ss X r z w1 (hz.trans (hb1.mono hz.size)) hS1 hck hcs hln hSz va vb mb R g1 g6 fn  hq

theorem br_r6_1_8_ (Q : Exit → Act → World → Prop) (hQ : ∀ c x (n : Nat) v w,Q (.panic c) (x.put (some n) v) w → Q (.panic c) x w) (ps : String) {v2 v3 v4 v6 v7 v8 v9 xb xc xd xe xf xg xh xi xj xk xl xm xn xo xp xq xr xt xu xv xy xB xC xD xE xF xG xH xI xJ xK xL xM xN xO : Value} (v vs : Value) (l : List It) (ss : List Sl) (X : Nat) (r : Sl) (z w : World) (hz : Below z.heap.size z w) (hS : BrS v l vs ss X r w) (hck : ckL l = 0) (hcs : ckS ss r = 0) (hln : 0 < (stopsL l).length ∧ 0 < (wdsL ss r).length) (hSz : BrS v l vs ss X r z) (va vb : Value) (R : Nat) (f1 : RuAt w v va vb l) (f8 : z.heap.size ≤ R ∧ w.heap[R]? = some (.cells #[.slice none 0 0,.slice none 0 0,.map none] 139 (0,0))) 
  (hq : Hid (∀ (va vb : Value) (gs os cs : Nat) (gw ow cw : Nat) (mb : Nat) (R : Nat) w',Below z.heap.size z w' → BrS v l vs ss X r w' → RuAt w' v va vb l → StsAt w' (.slice (some ⟨gs,os,none⟩) (stopsL l).length cs) (stopsL l) → IntsAt w' (.slice (some ⟨gw,ow,none⟩) (wdsL ss r).length cw) (wdsL ss r) → z.heap.size ≤ mb ∧ MapW w' mb (fun _ => none) 0 → z.heap.size ≤ R ∧ w'.heap[R]? = some (.cells #[.slice none 0 0,.slice none 0 0,.map none] 139 (0,0)) → Q .normal (fb4 v vs v2 v3 v4 (.pointer (some ⟨X,0,none⟩)) v6 v7 v8 v9 (.pointer (some ⟨R,0,none⟩)) xb xc xd xe xf xg xh xi xj xk xl xm xn xo xp xq xr xt xu xv v (.agg (ruA v va vb)) (.slice (some ⟨gs,os,none⟩) (stopsL l).length cs) vs (.agg (slL r).toArray) (.slice (some ⟨gw,ow,none⟩) (wdsL ss r).length cw) (.map (some mb)) (.agg #[.slice (some ⟨gs,os,none⟩) (stopsL l).length cs,.slice (some ⟨gw,ow,none⟩) (wdsL ss r).length cw,.map (some mb)]) xE xF xG xH xI xJ xK xL xM xN xO) (w'.setRow R #[.slice (some ⟨gs,os,none⟩) (stopsL l).length cs,.slice (some ⟨gw,ow,none⟩) (wdsL ss r).length cw,.map (some mb)]))) :
  wpAnyH Tryz.prog .any (ob4_6 ps) Q (BrS v l vs ss X r) 5 #[true,true,false,true,true,false,false,false,true,false] (fb4 v vs v2 v3 v4 (.pointer (some ⟨X,0,none⟩)) v6 v7 v8 v9 (.pointer (some ⟨R,0,none⟩)) xb xc xd xe xf xg xh xi xj xk xl xm xn xo xp xq xr xt xu xv v (.agg (ruA v va vb)) xy vs (.agg (slL r).toArray) xB xC xD xE xF xG xH xI xJ xK xL xM xN xO) w := by
 refine all_h (fuel := 4) [2,6] (by kernel_rfl) (by simp) ?_
 intro i hi
 simp only [List.mem_cons,List.not_mem_nil,or_false] at hi
 rcases hi with rfl | rfl
 ·refine ⟨ob4_6_2 ps,by kernel_rfl,by kernel_rfl,fun K hK => ?_⟩
  unfold fb4 ob4_6_2
  go_simp
  refine (stops_any v va vb l hck w f1).mono ?_
  rintro e w1 ⟨⟨u,rfl,fn0⟩,hb1⟩
  obtain ⟨gs,os,cs,rfl,fn⟩ := rec_form fn0 hln.1
  have hS1 : BrS v l vs ss X r w1 := hS.below hb1
  have g1 : RuAt w1 v va vb l := f1.below hb1 (Nat.le_refl _)
  have g8 : z.heap.size ≤ R ∧ w1.heap[R]? = some (.cells #[.slice none 0 0,.slice none 0 0,.map none] 139 (0,0)) := ⟨f8.1,(hb1.block _ (Array.getElem?_eq_some_iff.1 f8.2).1).trans f8.2⟩
  refine hK _ _ hS1 (cast_h (fb4 v vs v2 v3 v4 (.pointer (some ⟨X,0,none⟩)) v6 v7 v8 v9 (.pointer (some ⟨R,0,none⟩)) xb xc xd xe xf xg xh xi xj xk xl xm xn xo xp xq xr xt xu xv v (.agg (ruA v va vb)) (.slice (some ⟨gs,os,none⟩) (stopsL l).length cs) vs (.agg (slL r).toArray) xB xC xD xE xF xG xH xI xJ xK xL xM xN xO) (by kernel_rfl) ?_)
  clear hK K
  refine castd_h (d' := #[true,true,true,true,true,false,false,false,true,false]) (by kernel_rfl) ?_
  exact br_r6_1_2_8_ Q hQ ps v vs l ss X r z w1 (hz.trans (hb1.mono hz.size)) hS1 hck hcs hln hSz va vb gs os cs R g1 fn g8  hq
 ·refine ⟨ob4_6_6 ps,by kernel_rfl,by kernel_rfl,fun K hK => ?_⟩
  have hmm := @run_makeMap Tryz.prog
  unfold fb4 ob4_6_6
  go_simp
  have hb1 : Below w.heap.size w (w.alloc (.map #[] 0)) := (Below.refl _ _).alloc (Nat.le_refl _) _
  have fn := MapW.made w
  generalize w.alloc (.map #[] 0) = w1 at *
  obtain ⟨mb,hmb⟩ : ∃ g,g = w.heap.size := ⟨_,rfl⟩
  rw [← hmb] at fn
  replace fn := And.intro (show z.heap.size ≤ mb by rw [hmb]; exact hz.size) fn
  rw [← hmb]
  have hS1 : BrS v l vs ss X r w1 := hS.below hb1
  have g1 : RuAt w1 v va vb l := f1.below hb1 (Nat.le_refl _)
  have g8 : z.heap.size ≤ R ∧ w1.heap[R]? = some (.cells #[.slice none 0 0,.slice none 0 0,.map none] 139 (0,0)) := ⟨f8.1,(hb1.block _ (Array.getElem?_eq_some_iff.1 f8.2).1).trans f8.2⟩
  refine hK _ _ hS1 (cast_h (fb4 v vs v2 v3 v4 (.pointer (some ⟨X,0,none⟩)) v6 v7 v8 v9 (.pointer (some ⟨R,0,none⟩)) xb xc xd xe xf xg xh xi xj xk xl xm xn xo xp xq xr xt xu xv v (.agg (ruA v va vb)) xy vs (.agg (slL r).toArray) xB (.map (some mb)) xD xE xF xG xH xI xJ xK xL xM xN xO) (by kernel_rfl) ?_)
  clear hK K
  refine castd_h (d' := #[true,true,false,true,true,false,true,false,true,false]) (by kernel_rfl) ?_
  exact br_r6_1_6_8_ Q hQ ps v vs l ss X r z w1 (hz.trans (hb1.mono hz.size)) hS1 hck hcs hln hSz va vb mb R g1 fn g8  hq

theorem br_r6_1_ (Q : Exit → Act → World → Prop) (hQ : ∀ c x (n : Nat) v w,Q (.panic c) (x.put (some n) v) w → Q (.panic c) x w) (ps : String) {v2 v3 v4 v6 v7 v8 v9 xa xb xc xd xe xf xg xh xi xj xk xl xm xn xo xp xq xr xt xu xv xy xB xC xD xE xF xG xH xI xJ xK xL xM xN xO : Value} (v vs : Value) (l : List It) (ss : List Sl) (X : Nat) (r : Sl) (z w : World) (hz : Below z.heap.size z w) (hS : BrS v l vs ss X r w) (hck : ckL l = 0) (hcs : ckS ss r = 0) (hln : 0 < (stopsL l).length ∧ 0 < (wdsL ss r).length) (hSz : BrS v l vs ss X r z) (va vb : Value) (f1 : RuAt w v va vb l) 
  (hq : Hid (∀ (va vb : Value) (gs os cs : Nat) (gw ow cw : Nat) (mb : Nat) (R : Nat) w',Below z.heap.size z w' → BrS v l vs ss X r w' → RuAt w' v va vb l → StsAt w' (.slice (some ⟨gs,os,none⟩) (stopsL l).length cs) (stopsL l) → IntsAt w' (.slice (some ⟨gw,ow,none⟩) (wdsL ss r).length cw) (wdsL ss r) → z.heap.size ≤ mb ∧ MapW w' mb (fun _ => none) 0 → z.heap.size ≤ R ∧ w'.heap[R]? = some (.cells #[.slice none 0 0,.slice none 0 0,.map none] 139 (0,0)) → Q .normal (fb4 v vs v2 v3 v4 (.pointer (some ⟨X,0,none⟩)) v6 v7 v8 v9 (.pointer (some ⟨R,0,none⟩)) xb xc xd xe xf xg xh xi xj xk xl xm xn xo xp xq xr xt xu xv v (.agg (ruA v va vb)) (.slice (some ⟨gs,os,none⟩) (stopsL l).length cs) vs (.agg (slL r).toArray) (.slice (some ⟨gw,ow,none⟩) (wdsL ss r).length cw) (.map (some mb)) (.agg #[.slice (some ⟨gs,os,none⟩) (stopsL l).length cs,.slice (some ⟨gw,ow,none⟩) (wdsL ss r).length cw,.map (some mb)]) xE xF xG xH xI xJ xK xL xM xN xO) (w'.setRow R #[.slice (some ⟨gs,os,none⟩) (stopsL l).length cs,.slice (some ⟨gw,ow,none⟩) (wdsL ss r).length cw,.map (some mb)]))) :
  wpAnyH Tryz.prog .any (ob4_6 ps) Q (BrS v l vs ss X r) 6 #[true,true,false,true,true,false,false,false,false,false] (fb4 v vs v2 v3 v4 (.pointer (some ⟨X,0,none⟩)) v6 v7 v8 v9 xa xb xc xd xe xf xg xh xi xj xk xl xm xn xo xp xq xr xt xu xv v (.agg (ruA v va vb)) xy vs (.agg (slL r).toArray) xB xC xD xE xF xG xH xI xJ xK xL xM xN xO) w := by
 refine all_h (fuel := 5) [2,6,8] (by kernel_rfl) (by simp) ?_
 intro i hi
 simp only [List.mem_cons,List.not_mem_nil,or_false] at hi
 rcases hi with rfl | rfl | rfl
 ·refine ⟨ob4_6_2 ps,by kernel_rfl,by kernel_rfl,fun K hK => ?_⟩
  unfold fb4 ob4_6_2
  go_simp
  refine (stops_any v va vb l hck w f1).mono ?_
  rintro e w1 ⟨⟨u,rfl,fn0⟩,hb1⟩
  obtain ⟨gs,os,cs,rfl,fn⟩ := rec_form fn0 hln.1
  have hS1 : BrS v l vs ss X r w1 := hS.below hb1
  have g1 : RuAt w1 v va vb l := f1.below hb1 (Nat.le_refl _)
  refine hK _ _ hS1 (cast_h (fb4 v vs v2 v3 v4 (.pointer (some ⟨X,0,none⟩)) v6 v7 v8 v9 xa xb xc xd xe xf xg xh xi xj xk xl xm xn xo xp xq xr xt xu xv v (.agg (ruA v va vb)) (.slice (some ⟨gs,os,none⟩) (stopsL l).length cs) vs (.agg (slL r).toArray) xB xC xD xE xF xG xH xI xJ xK xL xM xN xO) (by kernel_rfl) ?_)
  clear hK K
  refine castd_h (d' := #[true,true,true,true,true,false,false,false,false,false]) (by kernel_rfl) ?_
  exact br_r6_1_2_ Q hQ ps v vs l ss X r z w1 (hz.trans (hb1.mono hz.size)) hS1 hck hcs hln hSz va vb gs os cs g1 fn  hq
 ·refine ⟨ob4_6_6 ps,by kernel_rfl,by kernel_rfl,fun K hK => ?_⟩
  have hmm := @run_makeMap Tryz.prog
  unfold fb4 ob4_6_6
  go_simp
  have hb1 : Below w.heap.size w (w.alloc (.map #[] 0)) := (Below.refl _ _).alloc (Nat.le_refl _) _
  have fn := MapW.made w
  generalize w.alloc (.map #[] 0) = w1 at *
  obtain ⟨mb,hmb⟩ : ∃ g,g = w.heap.size := ⟨_,rfl⟩
  rw [← hmb] at fn
  replace fn := And.intro (show z.heap.size ≤ mb by rw [hmb]; exact hz.size) fn
  rw [← hmb]
  have hS1 : BrS v l vs ss X r w1 := hS.below hb1
  have g1 : RuAt w1 v va vb l := f1.below hb1 (Nat.le_refl _)
  refine hK _ _ hS1 (cast_h (fb4 v vs v2 v3 v4 (.pointer (some ⟨X,0,none⟩)) v6 v7 v8 v9 xa xb xc xd xe xf xg xh xi xj xk xl xm xn xo xp xq xr xt xu xv v (.agg (ruA v va vb)) xy vs (.agg (slL r).toArray) xB (.map (some mb)) xD xE xF xG xH xI xJ xK xL xM xN xO) (by kernel_rfl) ?_)
  clear hK K
  refine castd_h (d' := #[true,true,false,true,true,false,true,false,false,false]) (by kernel_rfl) ?_
  exact br_r6_1_6_ Q hQ ps v vs l ss X r z w1 (hz.trans (hb1.mono hz.size)) hS1 hck hcs hln hSz va vb mb g1 fn  hq
 ·refine ⟨ob4_6_8 ps,by kernel_rfl,by kernel_rfl,fun K hK => ?_⟩
  unfold fb4 ob4_6_8
  go_simp
  have hb1 : Below w.heap.size w (w.alloc (.cells #[.slice none 0 0,.slice none 0 0,.map none] 139)) := (Below.refl _ _).alloc (Nat.le_refl _) _
  have fn : (w.alloc (.cells #[.slice none 0 0,.slice none 0 0,.map none] 139)).heap[w.heap.size]? = some (.cells #[.slice none 0 0,.slice none 0 0,.map none] 139 (0,0)) := World.alloc_heap_new w _
  generalize w.alloc (.cells #[.slice none 0 0,.slice none 0 0,.map none] 139) = w1 at *
  obtain ⟨R,hR⟩ : ∃ g,g = w.heap.size := ⟨_,rfl⟩
  rw [← hR] at fn
  replace fn := And.intro (show z.heap.size ≤ R by rw [hR]; exact hz.size) fn
  rw [← hR]
  have hS1 : BrS v l vs ss X r w1 := hS.below hb1
  have g1 : RuAt w1 v va vb l := f1.below hb1 (Nat.le_refl _)
  refine hK _ _ hS1 (cast_h (fb4 v vs v2 v3 v4 (.pointer (some ⟨X,0,none⟩)) v6 v7 v8 v9 (.pointer (some ⟨R,0,none⟩)) xb xc xd xe xf xg xh xi xj xk xl xm xn xo xp xq xr xt xu xv v (.agg (ruA v va vb)) xy vs (.agg (slL r).toArray) xB xC xD xE xF xG xH xI xJ xK xL xM xN xO) (by kernel_rfl) ?_)
  clear hK K
  refine castd_h (d' := #[true,true,false,true,true,false,false,false,true,false]) (by kernel_rfl) ?_
  exact br_r6_1_8_ Q hQ ps v vs l ss X r z w1 (hz.trans (hb1.mono hz.size)) hS1 hck hcs hln hSz va vb R g1 fn  hq

theorem br_r6_6_8_ (Q : Exit → Act → World → Prop) (hQ : ∀ c x (n : Nat) v w,Q (.panic c) (x.put (some n) v) w → Q (.panic c) x w) (ps : String) {v2 v3 v4 v6 v7 v8 v9 xb xc xd xe xf xg xh xi xj xk xl xm xn xo xp xq xr xt xu xv xx xy xB xD xE xF xG xH xI xJ xK xL xM xN xO : Value} (v vs : Value) (l : List It) (ss : List Sl) (X : Nat) (r : Sl) (z w : World) (hz : Below z.heap.size z w) (hS : BrS v l vs ss X r w) (hck : ckL l = 0) (hcs : ckS ss r = 0) (hln : 0 < (stopsL l).length ∧ 0 < (wdsL ss r).length) (hSz : BrS v l vs ss X r z) (mb : Nat) (R : Nat) (f6 : z.heap.size ≤ mb ∧ MapW w mb (fun _ => none) 0) (f8 : z.heap.size ≤ R ∧ w.heap[R]? = some (.cells #[.slice none 0 0,.slice none 0 0,.map none] 139 (0,0))) 
  (hq : Hid (∀ (va vb : Value) (gs os cs : Nat) (gw ow cw : Nat) (mb : Nat) (R : Nat) w',Below z.heap.size z w' → BrS v l vs ss X r w' → RuAt w' v va vb l → StsAt w' (.slice (some ⟨gs,os,none⟩) (stopsL l).length cs) (stopsL l) → IntsAt w' (.slice (some ⟨gw,ow,none⟩) (wdsL ss r).length cw) (wdsL ss r) → z.heap.size ≤ mb ∧ MapW w' mb (fun _ => none) 0 → z.heap.size ≤ R ∧ w'.heap[R]? = some (.cells #[.slice none 0 0,.slice none 0 0,.map none] 139 (0,0)) → Q .normal (fb4 v vs v2 v3 v4 (.pointer (some ⟨X,0,none⟩)) v6 v7 v8 v9 (.pointer (some ⟨R,0,none⟩)) xb xc xd xe xf xg xh xi xj xk xl xm xn xo xp xq xr xt xu xv v (.agg (ruA v va vb)) (.slice (some ⟨gs,os,none⟩) (stopsL l).length cs) vs (.agg (slL r).toArray) (.slice (some ⟨gw,ow,none⟩) (wdsL ss r).length cw) (.map (some mb)) (.agg #[.slice (some ⟨gs,os,none⟩) (stopsL l).length cs,.slice (some ⟨gw,ow,none⟩) (wdsL ss r).length cw,.map (some mb)]) xE xF xG xH xI xJ xK xL xM xN xO) (w'.setRow R #[.slice (some ⟨gs,os,none⟩) (stopsL l).length cs,.slice (some ⟨gw,ow,none⟩) (wdsL ss r).length cw,.map (some mb)]))) :
  wpAnyH Tryz.prog .any (ob4_6 ps) Q (BrS v l vs ss X r) 5 #[true,false,false,true,true,false,true,false,true,false] (fb4 v vs v2 v3 v4 (.pointer (some ⟨X,0,none⟩)) v6 v7 v8 v9 (.pointer (some ⟨R,0,none⟩)) xb xc xd xe xf xg xh xi xj xk xl xm xn xo xp xq xr xt xu xv v xx xy vs (.agg (slL r).toArray) xB (.map (some mb)) xD xE xF xG xH xI xJ xK xL xM xN xO) w := by
 refine all_h (fuel := 4) [1] (by kernel_rfl) (by simp) ?_
 intro i hi
 simp only [List.mem_cons,List.not_mem_nil,or_false] at hi
 subst hi
 ·refine ⟨ob4_6_1 ps,by kernel_rfl,by kernel_rfl,fun K hK => ?_⟩
  unfold fb4 ob4_6_1
  go_simp
  refine (measure_any v l hck w hS.i).mono ?_
  rintro e w1 ⟨va,vb,rfl,q1,q2,hb1⟩
  have fn : RuAt w1 v va vb l := ⟨hS.i.below hb1 (Nat.le_refl _),q1,q2⟩
  have hS1 : BrS v l vs ss X r w1 := hS.below hb1
  have g6 : z.heap.size ≤ mb ∧ MapW w1 mb (fun _ => none) 0 := ⟨f6.1,f6.2.below hb1 f6.2.lt⟩
  have g8 : z.heap.size ≤ R ∧ w1.heap[R]? = some (.cells #[.slice none 0 0,.slice none 0 0,.map none] 139 (0,0)) := ⟨f8.1,(hb1.block _ (Array.getElem?_eq_some_iff.1 f8.2).1).trans f8.2⟩
  refine hK _ _ hS1 (cast_h (fb4 v vs v2 v3 v4 (.pointer (some ⟨X,0,none⟩)) v6 v7 v8 v9 (.pointer (some ⟨R,0,none⟩)) xb xc xd xe xf xg xh xi xj xk xl xm xn xo xp xq xr xt xu xv v (.agg (ruA v va vb)) xy vs (.agg (slL r).toArray) xB (.map (some mb)) xD xE xF xG xH xI xJ xK xL xM xN xO) (by kernel_rfl) ?_)
  clear hK K
  refine castd_h (d' := #[true,true,false,true,true,false,true,false,true,false]) (by kernel_rfl) ?_
  exact br_r6_1_6_8_ Q hQ ps v vs l ss X r z w1 (hz.trans (hb1.mono hz.size)) hS1 hck hcs hln hSz va vb mb R fn g6 g8  hq

theorem br_r6_6_ (Q : Exit → Act → World → Prop) (hQ : ∀ c x (n : Nat) v w,Q (.panic c) (x.put (some n) v) w → Q (.panic c) x w) (ps : String) {v2 v3 v4 v6 v7 v8 v9 xa xb xc xd xe xf xg xh xi xj xk xl xm xn xo xp xq xr xt xu xv xx xy xB xD xE xF xG xH xI xJ xK xL xM xN xO : Value} (v vs : Value) (l : List It) (ss : List Sl) (X : Nat) (r : Sl) (z w : World) (hz : Below z.heap.size z w) (hS : BrS v l vs ss X r w) (hck : ckL l = 0) (hcs : ckS ss r = 0) (hln : 0 < (stopsL l).length ∧ 0 < (wdsL ss r).length) (hSz : BrS v l vs ss X r z) (mb : Nat) (f6 : z.heap.size ≤ mb ∧ MapW w mb (fun _ => none) 0) 
  (hq : Hid (∀ (va vb : Value) (gs os cs : Nat) (gw ow cw : Nat) (mb : Nat) (R : Nat) w',Below z.heap.size z w' → BrS v l vs ss X r w' → RuAt w' v va vb l → StsAt w' (.slice (some ⟨gs,os,none⟩) (stopsL l).length cs) (stopsL l) → IntsAt w' (.slice (some ⟨gw,ow,none⟩) (wdsL ss r).length cw) (wdsL ss r) → z.heap.size ≤ mb ∧ MapW w' mb (fun _ => none) 0 → z.heap.size ≤ R ∧ w'.heap[R]? = some (.cells #[.slice none 0 0,.slice none 0 0,.map none] 139 (0,0)) → Q .normal (fb4 v vs v2 v3 v4 (.pointer (some ⟨X,0,none⟩)) v6 v7 v8 v9 (.pointer (some ⟨R,0,none⟩)) xb xc xd xe xf xg xh xi xj xk xl xm xn xo xp xq xr xt xu xv v (.agg (ruA v va vb)) (.slice (some ⟨gs,os,none⟩) (stopsL l).length cs) vs (.agg (slL r).toArray) (.slice (some ⟨gw,ow,none⟩) (wdsL ss r).length cw) (.map (some mb)) (.agg #[.slice (some ⟨gs,os,none⟩) (stopsL l).length cs,.slice (some ⟨gw,ow,none⟩) (wdsL ss r).length cw,.map (some mb)]) xE xF xG xH xI xJ xK xL xM xN xO) (w'.setRow R #[.slice (some ⟨gs,os,none⟩) (stopsL l).length cs,.slice (some ⟨gw,ow,none⟩) (wdsL ss r).length cw,.map (some mb)]))) :
  wpAnyH Tryz.prog .any (ob4_6 ps) Q (BrS v l vs ss X r) 6 #[true,false,false,true,true,false,true,false,false,false] (fb4 v vs v2 v3 v4 (.pointer (some ⟨X,0,none⟩)) v6 v7 v8 v9 xa xb xc xd xe xf xg xh xi xj xk xl xm xn xo xp xq xr xt xu xv v xx xy vs (.agg (slL r).toArray) xB (.map (some mb)) xD xE xF xG xH xI xJ xK xL xM xN xO) w := by
 refine all_h (fuel := 5) [1,8] (by kernel_rfl) (by simp) ?_
 intro i hi
 simp only [List.mem_cons,List.not_mem_nil,or_false] at hi
 rcases hi with rfl | rfl
 ·refine ⟨ob4_6_1 ps,by kernel_rfl,by kernel_rfl,fun K hK => ?_⟩
  unfold fb4 ob4_6_1
  go_simp
  refine (measure_any v l hck w hS.i).mono ?_
  rintro e w1 ⟨va,vb,rfl,q1,q2,hb1⟩
  have fn : RuAt w1 v va vb l := ⟨hS.i.below hb1 (Nat.le_refl _),q1,q2⟩
  have hS1 : BrS v l vs ss X r w1 := hS.below hb1
  have g6 : z.heap.size ≤ mb ∧ MapW w1 mb (fun _ => none) 0 := ⟨f6.1,f6.2.below hb1 f6.2.lt⟩
  refine hK _ _ hS1 (cast_h (fb4 v vs v2 v3 v4 (.pointer (some ⟨X,0,none⟩)) v6 v7 v8 v9 xa xb xc xd xe xf xg xh xi xj xk xl xm xn xo xp xq xr xt xu xv v (.agg (ruA v va vb)) xy vs (.agg (slL r).toArray) xB (.map (some mb)) xD xE xF xG xH xI xJ xK xL xM xN xO) (by kernel_rfl) ?_)
  clear hK K
  refine castd_h (d' := #[true,true,false,true,true,false,true,false,false,false]) (by kernel_rfl) ?_
  exact br_r6_1_6_ Q hQ ps v vs l ss X r z w1 (hz.trans (hb1.mono hz.size)) hS1 hck hcs hln hSz va vb mb fn g6  hq
 ·refine ⟨ob4_6_8 ps,by kernel_rfl,by kernel_rfl,fun K hK => ?_⟩
  unfold fb4 ob4_6_8
  go_simp
  have hb1 : Below w.heap.size w (w.alloc (.cells #[.slice none 0 0,.slice none 0 0,.map none] 139)) := (Below.refl _ _).alloc (Nat.le_refl _) _
  have fn : (w.alloc (.cells #[.slice none 0 0,.slice none 0 0,.map none] 139)).heap[w.heap.size]? = some (.cells #[.slice none 0 0,.slice none 0 0,.map none] 139 (0,0)) := World.alloc_heap_new w _
  generalize w.alloc (.cells #[.slice none 0 0,.slice none 0 0,.map none] 139) = w1 at *
  obtain ⟨R,hR⟩ : ∃ g,g = w.heap.size := ⟨_,rfl⟩
  rw [← hR] at fn
  replace fn := And.intro (show z.heap.size ≤ R by rw [hR]; exact hz.size) fn
  rw [← hR]
  have hS1 : BrS v l vs ss X r w1 := hS.below hb1
  have g6 : z.heap.size ≤ mb ∧ MapW w1 mb (fun _ => none) 0 := ⟨f6.1,f6.2.below hb1 f6.2.lt⟩
  refine hK _ _ hS1 (cast_h (fb4 v vs v2 v3 v4 (.pointer (some ⟨X,0,none⟩)) v6 v7 v8 v9 (.pointer (some ⟨R,0,none⟩)) xb xc xd xe xf xg xh xi xj xk xl xm xn xo xp xq xr xt xu xv v xx xy vs (.agg (slL r).toArray) xB (.map (some mb)) xD xE xF xG xH xI xJ xK xL xM xN xO) (by kernel_rfl) ?_)
  clear hK K
  refine castd_h (d' := #[true,false,false,true,true,false,true,false,true,false]) (by kernel_rfl) ?_
  exact br_r6_6_8_ Q hQ ps v vs l ss X r z w1 (hz.trans (hb1.mono hz.size)) hS1 hck hcs hln hSz mb R g6 fn  hq

theorem br_r6_8_ (Q : Exit → Act → World → Prop) (hQ : ∀ c x (n : Nat) v w,Q (.panic c) (x.put (some n) v) w → Q (.panic c) x w) (ps : String) {v2 v3 v4 v6 v7 v8 v9 xb xc xd xe xf xg xh xi xj xk xl xm xn xo xp xq xr xt xu xv xx xy xB xC xD xE xF xG xH xI xJ xK xL xM xN xO : Value} (v vs : Value) (l : List It) (ss : List Sl) (X : Nat) (r : Sl) (z w : World) (hz : Below z.heap.size z w) (hS : BrS v l vs ss X r w) (hck : ckL l = 0) (hcs : ckS ss r = 0) (hln : 0 < (stopsL l).length ∧ 0 < (wdsL ss r).length) (hSz : BrS v l vs ss X r z) (R : Nat) (f8 : z.heap.size ≤ R ∧ w.heap[R]? = some (.cells #[.slice none 0 0,.slice none 0 0,.map none] 139 (0,0))) 
  (hq : Hid (∀ (va vb : Value) (gs os cs : Nat) (gw ow cw : Nat) (mb : Nat) (R : Nat) w',Below z.heap.size z w' → BrS v l vs ss X r w' → RuAt w' v va vb l → StsAt w' (.slice (some ⟨gs,os,none⟩) (stopsL l).length cs) (stopsL l) → IntsAt w' (.slice (some ⟨gw,ow,none⟩) (wdsL ss r).length cw) (wdsL ss r) → z.heap.size ≤ mb ∧ MapW w' mb (fun _ => none) 0 → z.heap.size ≤ R ∧ w'.heap[R]? = some (.cells #[.slice none 0 0,.slice none 0 0,.map none] 139 (0,0)) → Q .normal (fb4 v vs v2 v3 v4 (.pointer (some ⟨X,0,none⟩)) v6 v7 v8 v9 (.pointer (some ⟨R,0,none⟩)) xb xc xd xe xf xg xh xi xj xk xl xm xn xo xp xq xr xt xu xv v (.agg (ruA v va vb)) (.slice (some ⟨gs,os,none⟩) (stopsL l).length cs) vs (.agg (slL r).toArray) (.slice (some ⟨gw,ow,none⟩) (wdsL ss r).length cw) (.map (some mb)) (.agg #[.slice (some ⟨gs,os,none⟩) (stopsL l).length cs,.slice (some ⟨gw,ow,none⟩) (wdsL ss r).length cw,.map (some mb)]) xE xF xG xH xI xJ xK xL xM xN xO) (w'.setRow R #[.slice (some ⟨gs,os,none⟩) (stopsL l).length cs,.slice (some ⟨gw,ow,none⟩) (wdsL ss r).length cw,.map (some mb)]))) :
  wpAnyH Tryz.prog .any (ob4_6 ps) Q (BrS v l vs ss X r) 6 #[true,false,false,true,true,false,false,false,true,false] (fb4 v vs v2 v3 v4 (.pointer (some ⟨X,0,none⟩)) v6 v7 v8 v9 (.pointer (some ⟨R,0,none⟩)) xb xc xd xe xf xg xh xi xj xk xl xm xn xo xp xq xr xt xu xv v xx xy vs (.agg (slL r).toArray) xB xC xD xE xF xG xH xI xJ xK xL xM xN xO) w := by
 refine all_h (fuel := 5) [1,6] (by kernel_rfl) (by simp) ?_
 intro i hi
 simp only [List.mem_cons,List.not_mem_nil,or_false] at hi
 rcases hi with rfl | rfl
 ·refine ⟨ob4_6_1 ps,by kernel_rfl,by kernel_rfl,fun K hK => ?_⟩
  unfold fb4 ob4_6_1
  go_simp
  refine (measure_any v l hck w hS.i).mono ?_
  rintro e w1 ⟨va,vb,rfl,q1,q2,hb1⟩
  have fn : RuAt w1 v va vb l := ⟨hS.i.below hb1 (Nat.le_refl _),q1,q2⟩
  have hS1 : BrS v l vs ss X r w1 := hS.below hb1
  have g8 : z.heap.size ≤ R ∧ w1.heap[R]? = some (.cells #[.slice none 0 0,.slice none 0 0,.map none] 139 (0,0)) := ⟨f8.1,(hb1.block _ (Array.getElem?_eq_some_iff.1 f8.2).1).trans f8.2⟩
  refine hK _ _ hS1 (cast_h (fb4 v vs v2 v3 v4 (.pointer (some ⟨X,0,none⟩)) v6 v7 v8 v9 (.pointer (some ⟨R,0,none⟩)) xb xc xd xe xf xg xh xi xj xk xl xm xn xo xp xq xr xt xu xv v (.agg (ruA v va vb)) xy vs (.agg (slL r).toArray) xB xC xD xE xF xG xH xI xJ xK xL xM xN xO) (by kernel_rfl) ?_)
  clear hK K
  refine castd_h (d' := #[true,true,false,true,true,false,false,false,true,false]) (by kernel_rfl) ?_
  exact br_r6_1_8_ Q hQ ps v vs l ss X r z w1 (hz.trans (hb1.mono hz.size)) hS1 hck hcs hln hSz va vb R fn g8  hq
 ·refine ⟨ob4_6_6 ps,by kernel_rfl,by kernel_rfl,fun K hK => ?_⟩
  have hmm := @run_makeMap Tryz.prog
  unfold fb4 ob4_6_6
  go_simp
  have hb1 : Below w.heap.size w (w.alloc (.map #[] 0)) := (Below.refl _ _).alloc (Nat.le_refl _) _
  have fn := MapW.made w
  generalize w.alloc (.map #[] 0) = w1 at *
  obtain ⟨mb,hmb⟩ : ∃ g,g = w.heap.size := ⟨_,rfl⟩
  rw [← hmb] at fn
  replace fn := And.intro (show z.heap.size ≤ mb by rw [hmb]; exact hz.size) fn
  rw [← hmb]
  have hS1 : BrS v l vs ss X r w1 := hS.below hb1
  have g8 : z.heap.size ≤ R ∧ w1.heap[R]? = some (.cells #[.slice none 0 0,.slice none 0 0,.map none] 139 (0,0)) := ⟨f8.1,(hb1.block _ (Array.getElem?_eq_some_iff.1 f8.2).1).trans f8.2⟩
  refine hK _ _ hS1 (cast_h (fb4 v vs v2 v3 v4 (.pointer (some ⟨X,0,none⟩)) v6 v7 v8 v9 (.pointer (some ⟨R,0,none⟩)) xb xc xd xe xf xg xh xi xj xk xl xm xn xo xp xq xr xt xu xv v xx xy vs (.agg (slL r).toArray) xB (.map (some mb)) xD xE xF xG xH xI xJ xK xL xM xN xO) (by kernel_rfl) ?_)
  clear hK K
  refine castd_h (d' := #[true,false,false,true,true,false,true,false,true,false]) (by kernel_rfl) ?_
  exact br_r6_6_8_ Q hQ ps v vs l ss X r z w1 (hz.trans (hb1.mono hz.size)) hS1 hck hcs hln hSz mb R fn g8  hq

theorem br_r6_none (Q : Exit → Act → World → Prop) (hQ : ∀ c x (n : Nat) v w,Q (.panic c) (x.put (some n) v) w → Q (.panic c) x w) (ps : String) {v2 v3 v4 v6 v7 v8 v9 xa xb xc xd xe xf xg xh xi xj xk xl xm xn xo xp xq xr xt xu xv xx xy xB xC xD xE xF xG xH xI xJ xK xL xM xN xO : Value} (v vs : Value) (l : List It) (ss : List Sl) (X : Nat) (r : Sl) (z w : World) (hz : Below z.heap.size z w) (hS : BrS v l vs ss X r w) (hck : ckL l = 0) (hcs : ckS ss r = 0) (hln : 0 < (stopsL l).length ∧ 0 < (wdsL ss r).length) (hSz : BrS v l vs ss X r z)   
  (hq : Hid (∀ (va vb : Value) (gs os cs : Nat) (gw ow cw : Nat) (mb : Nat) (R : Nat) w',Below z.heap.size z w' → BrS v l vs ss X r w' → RuAt w' v va vb l → StsAt w' (.slice (some ⟨gs,os,none⟩) (stopsL l).length cs) (stopsL l) → IntsAt w' (.slice (some ⟨gw,ow,none⟩) (wdsL ss r).length cw) (wdsL ss r) → z.heap.size ≤ mb ∧ MapW w' mb (fun _ => none) 0 → z.heap.size ≤ R ∧ w'.heap[R]? = some (.cells #[.slice none 0 0,.slice none 0 0,.map none] 139 (0,0)) → Q .normal (fb4 v vs v2 v3 v4 (.pointer (some ⟨X,0,none⟩)) v6 v7 v8 v9 (.pointer (some ⟨R,0,none⟩)) xb xc xd xe xf xg xh xi xj xk xl xm xn xo xp xq xr xt xu xv v (.agg (ruA v va vb)) (.slice (some ⟨gs,os,none⟩) (stopsL l).length cs) vs (.agg (slL r).toArray) (.slice (some ⟨gw,ow,none⟩) (wdsL ss r).length cw) (.map (some mb)) (.agg #[.slice (some ⟨gs,os,none⟩) (stopsL l).length cs,.slice (some ⟨gw,ow,none⟩) (wdsL ss r).length cw,.map (some mb)]) xE xF xG xH xI xJ xK xL xM xN xO) (w'.setRow R #[.slice (some ⟨gs,os,none⟩) (stopsL l).length cs,.slice (some ⟨gw,ow,none⟩) (wdsL ss r).length cw,.map (some mb)]))) :
  wpAnyH Tryz.prog .any (ob4_6 ps) Q (BrS v l vs ss X r) 7 #[true,false,false,true,true,false,false,false,false,false] (fb4 v vs v2 v3 v4 (.pointer (some ⟨X,0,none⟩)) v6 v7 v8 v9 xa xb xc xd xe xf xg xh xi xj xk xl xm xn xo xp xq xr xt xu xv v xx xy vs (.agg (slL r).toArray) xB xC xD xE xF xG xH xI xJ xK xL xM xN xO) w := by
 refine all_h (fuel := 6) [1,6,8] (by kernel_rfl) (by simp) ?_
 intro i hi
 simp only [List.mem_cons,List.not_mem_nil,or_false] at hi
 rcases hi with rfl | rfl | rfl
 ·refine ⟨ob4_6_1 ps,by kernel_rfl,by kernel_rfl,fun K hK => ?_⟩
  unfold fb4 ob4_6_1
  go_simp
  refine (measure_any v l hck w hS.i).mono ?_
  rintro e w1 ⟨va,vb,rfl,q1,q2,hb1⟩
  have fn : RuAt w1 v va vb l := ⟨hS.i.below hb1 (Nat.le_refl _),q1,q2⟩
  have hS1 : BrS v l vs ss X r w1 := hS.below hb1
  refine hK _ _ hS1 (cast_h (fb4 v vs v2 v3 v4 (.pointer (some ⟨X,0,none⟩)) v6 v7 v8 v9 xa xb xc xd xe xf xg xh xi xj xk xl xm xn xo xp xq xr xt xu xv v (.agg (ruA v va vb)) xy vs (.agg (slL r).toArray) xB xC xD xE xF xG xH xI xJ xK xL xM xN xO) (by kernel_rfl) ?_)
  clear hK K
  refine castd_h (d' := #[true,true,false,true,true,false,false,false,false,false]) (by kernel_rfl) ?_
  exact br_r6_1_ Q hQ ps v vs l ss X r z w1 (hz.trans (hb1.mono hz.size)) hS1 hck hcs hln hSz va vb fn  hq
 ·refine ⟨ob4_6_6 ps,by kernel_rfl,by kernel_rfl,fun K hK => ?_⟩
  have hmm := @run_makeMap Tryz.prog
  unfold fb4 ob4_6_6
  go_simp
  have hb1 : Below w.heap.size w (w.alloc (.map #[] 0)) := (Below.refl _ _).alloc (Nat.le_refl _) _
  have fn := MapW.made w
  generalize w.alloc (.map #[] 0) = w1 at *
  obtain ⟨mb,hmb⟩ : ∃ g,g = w.heap.size := ⟨_,rfl⟩
  rw [← hmb] at fn
  replace fn := And.intro (show z.heap.size ≤ mb by rw [hmb]; exact hz.size) fn
  rw [← hmb]
  have hS1 : BrS v l vs ss X r w1 := hS.below hb1
  refine hK _ _ hS1 (cast_h (fb4 v vs v2 v3 v4 (.pointer (some ⟨X,0,none⟩)) v6 v7 v8 v9 xa xb xc xd xe xf xg xh xi xj xk xl xm xn xo xp xq xr xt xu xv v xx xy vs (.agg (slL r).toArray) xB (.map (some mb)) xD xE xF xG xH xI xJ xK xL xM xN xO) (by kernel_rfl) ?_)
  clear hK K
  refine castd_h (d' := #[true,false,false,true,true,false,true,false,false,false]) (by kernel_rfl) ?_
  exact br_r6_6_ Q hQ ps v vs l ss X r z w1 (hz.trans (hb1.mono hz.size)) hS1 hck hcs hln hSz mb fn  hq
 ·refine ⟨ob4_6_8 ps,by kernel_rfl,by kernel_rfl,fun K hK => ?_⟩
  unfold fb4 ob4_6_8
  go_simp
  have hb1 : Below w.heap.size w (w.alloc (.cells #[.slice none 0 0,.slice none 0 0,.map none] 139)) := (Below.refl _ _).alloc (Nat.le_refl _) _
  have fn : (w.alloc (.cells #[.slice none 0 0,.slice none 0 0,.map none] 139)).heap[w.heap.size]? = some (.cells #[.slice none 0 0,.slice none 0 0,.map none] 139 (0,0)) := World.alloc_heap_new w _
  generalize w.alloc (.cells #[.slice none 0 0,.slice none 0 0,.map none] 139) = w1 at *
  obtain ⟨R,hR⟩ : ∃ g,g = w.heap.size := ⟨_,rfl⟩
  rw [← hR] at fn
  replace fn := And.intro (show z.heap.size ≤ R by rw [hR]; exact hz.size) fn
  rw [← hR]
  have hS1 : BrS v l vs ss X r w1 := hS.below hb1
  refine hK _ _ hS1 (cast_h (fb4 v vs v2 v3 v4 (.pointer (some ⟨X,0,none⟩)) v6 v7 v8 v9 (.pointer (some ⟨R,0,none⟩)) xb xc xd xe xf xg xh xi xj xk xl xm xn xo xp xq xr xt xu xv v xx xy vs (.agg (slL r).toArray) xB xC xD xE xF xG xH xI xJ xK xL xM xN xO) (by kernel_rfl) ?_)
  clear hK K
  refine castd_h (d' := #[true,false,false,true,true,false,false,false,true,false]) (by kernel_rfl) ?_
  exact br_r6_8_ Q hQ ps v vs l ss X r z w1 (hz.trans (hb1.mono hz.size)) hS1 hck hcs hln hSz R fn  hq

theorem br_r6 (Q : Exit → Act → World → Prop) (hQ : ∀ c x (n : Nat) v w,Q (.panic c) (x.put (some n) v) w → Q (.panic c) x w) (id : Nat) (ps : String) {v2 v3 v4 v6 v7 v8 v9 xa xb xc xd xe xf xg xh xi xj xk xl xm xn xo xp xq xr xt xu xv xw xx xy xz xA xB xC xD xE xF xG xH xI xJ xK xL xM xN xO : Value} (v vs : Value) (l : List It) (ss : List Sl) (X : Nat) (r : Sl) (z w : World) (hz : Below z.heap.size z (World.drew w)) (hS : BrS v l vs ss X r (World.drew w)) (hck : ckL l = 0) (hcs : ckS ss r = 0) (hln : 0 < (stopsL l).length ∧ 0 < (wdsL ss r).length) (hSz : BrS v l vs ss X r z)
  (hq : Hid (∀ (va vb : Value) (gs os cs : Nat) (gw ow cw : Nat) (mb : Nat) (R : Nat) w',Below z.heap.size z w' → BrS v l vs ss X r w' → RuAt w' v va vb l → StsAt w' (.slice (some ⟨gs,os,none⟩) (stopsL l).length cs) (stopsL l) → IntsAt w' (.slice (some ⟨gw,ow,none⟩) (wdsL ss r).length cw) (wdsL ss r) → z.heap.size ≤ mb ∧ MapW w' mb (fun _ => none) 0 → z.heap.size ≤ R ∧ w'.heap[R]? = some (.cells #[.slice none 0 0,.slice none 0 0,.map none] 139 (0,0)) → Q .normal (fb4 v vs v2 v3 v4 (.pointer (some ⟨X,0,none⟩)) v6 v7 v8 v9 (.pointer (some ⟨R,0,none⟩)) xb xc xd xe xf xg xh xi xj xk xl xm xn xo xp xq xr xt xu xv v (.agg (ruA v va vb)) (.slice (some ⟨gs,os,none⟩) (stopsL l).length cs) vs (.agg (slL r).toArray) (.slice (some ⟨gw,ow,none⟩) (wdsL ss r).length cw) (.map (some mb)) (.agg #[.slice (some ⟨gs,os,none⟩) (stopsL l).length cs,.slice (some ⟨gw,ow,none⟩) (wdsL ss r).length cw,.map (some mb)]) xE xF xG xH xI xJ xK xL xM xN xO) (w'.setRow R #[.slice (some ⟨gs,os,none⟩) (stopsL l).length cs,.slice (some ⟨gw,ow,none⟩) (wdsL ss r).length cw,.map (some mb)]))) :
  (Code.region id (ob4_6 ps) true).wp Tryz.prog Q (fb4 v vs v2 v3 v4 (.pointer (some ⟨X,0,none⟩)) v6 v7 v8 v9 xa xb xc xd xe xf xg xh xi xj xk xl xm xn xo xp xq xr xt xu xv xw xx xy xz xA xB xC xD xE xF xG xH xI xJ xK xL xM xN xO) w := by
 refine wp_region_held (S := BrS v l vs ss X r) (by kernel_rfl) ?_
 change wpAnyH _ _ _ _ _ 10 _ _ (World.drew w)
 refine take_h (i := 0) (oi := ob4_6_0 ps) (fuel := 9) (v := v) (fb4 v vs v2 v3 v4 (.pointer (some ⟨X,0,none⟩)) v6 v7 v8 v9 xa xb xc xd xe xf xg xh xi xj xk xl xm xn xo xp xq xr xt xu xv v xx xy xz xA xB xC xD xE xF xG xH xI xJ xK xL xM xN xO) (by kernel_rfl) (by kernel_rfl) (by kernel_rfl) (by kernel_rfl) (fun c x w => hQ c x _ _ w) (by kernel_rfl) (fun w _ => by kernel_rfl) (by kernel_rfl) hS ?_
 refine take_h (i := 3) (oi := ob4_6_3 ps) (fuel := 8) (v := vs) (fb4 v vs v2 v3 v4 (.pointer (some ⟨X,0,none⟩)) v6 v7 v8 v9 xa xb xc xd xe xf xg xh xi xj xk xl xm xn xo xp xq xr xt xu xv v xx xy vs xA xB xC xD xE xF xG xH xI xJ xK xL xM xN xO) (by kernel_rfl) (by kernel_rfl) (by kernel_rfl) (by kernel_rfl) (fun c x w => hQ c x _ _ w) (by kernel_rfl) (fun w _ => by kernel_rfl) (by kernel_rfl) hS ?_
 refine take_h (i := 4) (oi := ob4_6_4 ps) (fuel := 7) (v := (.agg (slL r).toArray)) (fb4 v vs v2 v3 v4 (.pointer (some ⟨X,0,none⟩)) v6 v7 v8 v9 xa xb xc xd xe xf xg xh xi xj xk xl xm xn xo xp xq xr xt xu xv v xx xy vs (.agg (slL r).toArray) xB xC xD xE xF xG xH xI xJ xK xL xM xN xO) (by kernel_rfl) (by kernel_rfl) (by kernel_rfl) (by kernel_rfl) (fun c x w => hQ c x _ _ w) (by kernel_rfl) (fun w hS => exec_load_mid (x := (Operand.tmp 5)) 32 X 0 (slL r) _ (by kernel_rfl) (by kernel_rfl) (range_row hS.c) Tryz.underlying32 rfl (info29l r)) (by kernel_rfl) hS ?_
 refine castd_h (d' := #[true,false,false,true,true,false,false,false,false,false]) (by kernel_rfl) ?_
 exact br_r6_none Q hQ ps v vs l ss X r z _ hz hS hck hcs hln hSz hq
end Go.Proofs.YtfiekhephkpdjaaGreatDoor
