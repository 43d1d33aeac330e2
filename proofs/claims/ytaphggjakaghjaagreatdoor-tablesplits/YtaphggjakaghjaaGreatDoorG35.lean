/-
  What is proved here: a round of Between: what stands of a cell.
  What is proved here: what Between answers of any row.
-/
import Derived.Test.YtaphggjakaghjaaGreatDoorG34
namespace Go.Proofs.YtaphggjakaghjaaGreatDoor
open Go.RowKit Go.Shelf
set_option maxRecDepth 100000
set_option maxHeartbeats 2000000

def opB7 (ps : String) : Array Oper := #[⟨some 36,.move (.tmp 8),37,ps,#[],none⟩,⟨some 37,.move (.tmp 9),3,ps,#[],none⟩,⟨some 38,.fieldAddr 46 (.tmp 10) 0,0,ps,#[],none⟩,⟨some 39,.load 3 (.tmp 38),3,ps,#[⟨2,.data⟩],none⟩,⟨some 40,.fieldAddr 46 (.tmp 10) 1,0,ps,#[],none⟩,⟨some 41,.load 3 (.tmp 40),3,ps,#[⟨4,.data⟩],none⟩,⟨some 42,.fieldAddr 46 (.tmp 10) 2,0,ps,#[],none⟩,⟨some 43,.load 44 (.tmp 42),44,ps,#[⟨6,.data⟩],none⟩,⟨some 44,.move (.tmp 1),3,ps,#[],none⟩,⟨some 45,.move (.tmp 2),3,ps,#[],none⟩,⟨some 46,.call ⟨.value (.func 38),#[.tmp 43,.tmp 44,.tmp 45],#[44,3,3]⟩,44,ps,#[⟨7,.data⟩,⟨8,.data⟩,⟨9,.data⟩],none⟩,⟨some 47,.build 46 #[(0,.tmp 39),(1,.tmp 41),(2,.tmp 46)],46,ps,#[⟨3,.data⟩,⟨5,.data⟩,⟨10,.data⟩],none⟩,⟨some 48,.indexAddr 37 (.tmp 36) (.tmp 37),0,ps,#[⟨0,.data⟩,⟨1,.data⟩,⟨0,.phase⟩,⟨1,.phase⟩,⟨2,.phase⟩,⟨3,.phase⟩,⟨4,.phase⟩,⟨5,.phase⟩,⟨6,.phase⟩,⟨7,.phase⟩,⟨8,.phase⟩,⟨9,.phase⟩,⟨10,.phase⟩,⟨11,.phase⟩],none⟩,⟨none,.store 46 (.tmp 48) (.tmp 47),0,ps,#[⟨12,.data⟩,⟨11,.data⟩,⟨10,.chain⟩,⟨0,.phase⟩,⟨1,.phase⟩,⟨2,.phase⟩,⟨3,.phase⟩,⟨4,.phase⟩,⟨5,.phase⟩,⟨6,.phase⟩,⟨7,.phase⟩,⟨8,.phase⟩,⟨9,.phase⟩,⟨10,.phase⟩,⟨11,.phase⟩],none⟩]

theorem bt_r7 (Q : Exit → Act → World → Prop) (hQ : ∀ c x (n : Nat) v w,Q (.panic c) (x.put (some n) v) w → Q (.panic c) x w) (id : Nat) (ps : String) (g gb k N : Nat) (x y f t : Int) (a : Option Addr) (n c : Nat) (H : Option Addr → Nat → Nat → World → Prop) (v0 v3 v4 v5 v6 v7 xa xb xc xd xe xf xg xh xi xj xk xl xm xn xo xp xq xr xt xu xv xw xx xy xz xA xB xC xD xE xF xG xH xI xJ xK xL xM xN xO : Value) (W : World)
  (hb : W.heap[gb]? = some (.cells #[.int .i64 x,.int .i64 y,.slice a n c] 46 (0,0))) (hne : gb ≠ g) (hk : k < N)
  (hN : Calls Tryz.prog 38 #[.slice a n c,.int .i64 f,.int .i64 t] W.drew fun e w' => ∃ a' n' c',e = .returned (.slice a' n' c') ∧ H a' n' c' w' ∧ Below W.heap.size W.drew w')
  (hth : ∀ a' n' c' w',H a' n' c' w' → Below W.heap.size W.drew w' → w'.there g (k * 3) 3)
  (hK : ∀ a' n' c' w',H a' n' c' w' → Below W.heap.size W.drew w' → Q .normal { tmps := #[v0,.int .i64 f,.int .i64 t,v3,v4,v5,v6,v7,.slice (some ⟨g,0,none⟩) N N,.int .i64 (k : Nat),.pointer (some ⟨gb,0,none⟩),xa,xb,xc,xd,xe,xf,xg,xh,xi,xj,xk,xl,xm,xn,xo,xp,xq,xr,xt,xu,xv,xw,xx,xy,xz,.slice (some ⟨g,0,none⟩) N N,.int .i64 (k : Nat),.pointer (some ⟨gb,0,none⟩),.int .i64 x,.pointer (some ⟨gb,1,none⟩),.int .i64 y,.pointer (some ⟨gb,2,none⟩),.slice a n c,.int .i64 f,.int .i64 t,(.slice a' n' c'),(.agg (ceA x y (.slice a' n' c'))),.pointer (some ⟨g,k * 3,none⟩),xN,xO],defers := [] } (w'.setCells g (k * 3) (ceA x y (.slice a' n' c')).toList)) :
  (Code.region id (opB7 ps) true).wp Tryz.prog Q { tmps := #[v0,.int .i64 f,.int .i64 t,v3,v4,v5,v6,v7,.slice (some ⟨g,0,none⟩) N N,.int .i64 (k : Nat),.pointer (some ⟨gb,0,none⟩),xa,xb,xc,xd,xe,xf,xg,xh,xi,xj,xk,xl,xm,xn,xo,xp,xq,xr,xt,xu,xv,xw,xx,xy,xz,xA,xB,xC,xD,xE,xF,xG,xH,xI,xJ,xK,xL,xM,xN,xO],defers := [] } W := by
 have hS : (fun w : World => w.heap[gb]? = some (.cells #[.int .i64 x,.int .i64 y,.slice a n c] 46 (0,0))) W.drew := hb
 refine wp_region_held (S := fun w => w.heap[gb]? = some (.cells #[.int .i64 x,.int .i64 y,.slice a n c] 46 (0,0))) (by kernel_rfl) ?_
 change wpAnyH _ _ _ _ _ 14 _ _ (World.drew W)
 have hlb : gb < W.drew.heap.size := (Array.getElem?_eq_some_iff.1 hb).1
 have hkN : (k : Int) < (N : Int) := by omega
 rw [show W.heap.size = W.drew.heap.size from rfl] at hN hth hK
 generalize W.drew = V at *
 clear hb
 unfold opB7
 refine wpAnyH_take (i := 0) (v := .slice (some ⟨g,0,none⟩) N N) rfl (by kernel_rfl) (by kernel_rfl) (by kernel_rfl) (fun c x w => hQ c x _ _ w) (Or.inl ⟨by rfl,?y0⟩) hS ?_
 case y0 => (intro w' hw'; go_simp)
 go_simp
 refine wpAnyH_take (i := 1) (v := .int .i64 (k : Nat)) rfl (by kernel_rfl) (by kernel_rfl) (by kernel_rfl) (fun c x w => hQ c x _ _ w) (Or.inl ⟨by rfl,?y1⟩) hS ?_
 case y1 => (intro w' hw'; go_simp)
 go_simp
 refine wpAnyH_take (i := 2) (v := .pointer (some ⟨gb,0,none⟩)) rfl (by kernel_rfl) (by kernel_rfl) (by kernel_rfl) (fun c x w => hQ c x _ _ w) (Or.inl ⟨by rfl,?y2⟩) hS ?_
 case y2 => (intro w' hw'; go_simp)
 go_simp
 refine wpAnyH_take (i := 3) (v := .int .i64 x) rfl (by kernel_rfl) (by kernel_rfl) (by kernel_rfl) (fun c x w => hQ c x _ _ w) (Or.inl ⟨by rfl,?y3⟩) hS ?_
 case y3 => (intro w' hw'; have c0 : w'.cell? ⟨gb,0,none⟩ = some (.int .i64 x) := (Lib.cell_of_heap hw' _).trans rfl; go_simp)
 go_simp
 refine wpAnyH_take (i := 4) (v := .pointer (some ⟨gb,1,none⟩)) rfl (by kernel_rfl) (by kernel_rfl) (by kernel_rfl) (fun c x w => hQ c x _ _ w) (Or.inl ⟨by rfl,?y4⟩) hS ?_
 case y4 => (intro w' hw'; go_simp)
 go_simp
 refine wpAnyH_take (i := 5) (v := .int .i64 y) rfl (by kernel_rfl) (by kernel_rfl) (by kernel_rfl) (fun c x w => hQ c x _ _ w) (Or.inl ⟨by rfl,?y5⟩) hS ?_
 case y5 => (intro w' hw'; have c1 : w'.cell? ⟨gb,1,none⟩ = some (.int .i64 y) := (Lib.cell_of_heap hw' _).trans rfl; go_simp)
 go_simp
 refine wpAnyH_take (i := 6) (v := .pointer (some ⟨gb,2,none⟩)) rfl (by kernel_rfl) (by kernel_rfl) (by kernel_rfl) (fun c x w => hQ c x _ _ w) (Or.inl ⟨by rfl,?y6⟩) hS ?_
 case y6 => (intro w' hw'; go_simp)
 go_simp
 refine wpAnyH_take (i := 7) (v := .slice a n c) rfl (by kernel_rfl) (by kernel_rfl) (by kernel_rfl) (fun c x w => hQ c x _ _ w) (Or.inl ⟨by rfl,?y7⟩) hS ?_
 case y7 => (intro w' hw'; have c2 : w'.cell? ⟨gb,2,none⟩ = some (.slice a n c) := (Lib.cell_of_heap hw' _).trans rfl; go_simp)
 go_simp
 refine wpAnyH_take (i := 8) (v := .int .i64 f) rfl (by kernel_rfl) (by kernel_rfl) (by kernel_rfl) (fun c x w => hQ c x _ _ w) (Or.inl ⟨by rfl,?y8⟩) hS ?_
 case y8 => (intro w' hw'; go_simp)
 go_simp
 refine wpAnyH_take (i := 9) (v := .int .i64 t) rfl (by kernel_rfl) (by kernel_rfl) (by kernel_rfl) (fun c x w => hQ c x _ _ w) (Or.inl ⟨by rfl,?y9⟩) hS ?_
 case y9 => (intro w' hw'; go_simp)
 go_simp
 refine want_h (i := 10) (by kernel_rfl) rfl (by kernel_rfl) fun K hK' => ?_
 go_simp
 refine hN.mono ?_
 rintro e w1 ⟨a',n',c',rfl,hH,hb1⟩
 have hS1 : (fun w : World => w.heap[gb]? = some (.cells #[.int .i64 x,.int .i64 y,.slice a n c] 46 (0,0))) w1 := (hb1.block gb hlb).trans hS
 have ht1 := hth a' n' c' w1 hH hb1
 have hQ1 := hK a' n' c' w1 hH hb1
 refine hK' _ _ hS1 ?_
 clear hK' K hS hb1 hH hK hth hN
 go_simp
 refine wpAnyH_take (i := 11) (v := (.agg (ceA x y (.slice a' n' c')))) rfl (by kernel_rfl) (by kernel_rfl) (by kernel_rfl) (fun c x w => hQ c x _ _ w) (Or.inl ⟨by rfl,?y11⟩) hS1 ?_
 case y11 => (intro w' hw'; go_simp; rfl)
 go_simp
 refine wpAnyH_take (i := 12) (v := .pointer (some ⟨g,k * 3,none⟩)) rfl (by kernel_rfl) (by kernel_rfl) (by kernel_rfl) (fun c x w => hQ c x _ _ w) (Or.inl ⟨by rfl,?y12⟩) hS1 ?_
 case y12 => (intro w' hw'; go_simp)
 go_simp
 refine want_h (i := 13) (by kernel_rfl) rfl (by kernel_rfl) fun K hK' => ?_
 refine wp_store_mid 46 _ _ rfl g (k * 3) (ceA x y (.slice a' n' c')) rfl rfl ht1 (info46a _ _ _) (one46a _ _ _ _ _) ?_
 refine hK' _ _ ?_ (wpAnyH_done (by kernel_rfl) hQ1 _)
 have ht := turns_setCells (X := fun j => j = g) rfl (ceA x y (.slice a' n' c')).toList (k * 3) w1
 exact (ht.block gb (Array.getElem?_eq_some_iff.1 hS1).1 hne).trans hS1
end Go.Proofs.YtaphggjakaghjaaGreatDoor

namespace Go.Proofs.YtaphggjakaghjaaGreatDoor
open Go.RowKit Go.Shelf
set_option maxRecDepth 100000
set_option maxHeartbeats 4000000

theorem below_box (W : World) (o : Obj) (cs : Array Value) : Below W.heap.size W ((W.alloc o).setRow W.heap.size cs) := by
 have h1 := (Below.refl W.heap.size W).alloc (Nat.le_refl _) o
 exact h1.trans ((Turns.setRow (X := fun k => k = W.heap.size) (W.alloc o) rfl cs).below h1.size (fun k hk => by omega))
structure BtIs (f t : Int) (c d : Cel) : Prop where
 x : d.x = c.x
 w : d.w = c.w
 ls : d.ls = wiL c.ls f t
def BtAt (lo : Nat) (W : World) (d : Cel) : Prop := W.ownsRow lo 55 7 d.v d.ls.length (d.ls.flatMap lxL)
structure BtI (lo : Nat) (w : World) (T : Nat) (cs : List Cel) (f t : Int) (k : Nat) (W : World) : Prop where
 low : Below w.heap.size w W
 ex : ∃ d : List Cel,d.length = k ∧ RB 3 ceL W T (d ++ List.replicate (cs.length - d.length) ce0) ∧ ∀ i (h : i < d.length),BtIs f t (cs.getD i ce0) d[i] ∧ BtAt lo W d[i]
theorem BtI.start (w w1 : World) (cs : List Cel) (f t : Int) (h : Below w.heap.size w w1) : BtI (w1.heap.size + 1) w w1.heap.size cs f t 0 (w1.alloc (.cells (noCes cs.length).toArray 46)) :=
 ⟨h.alloc h.size _,[],rfl,made37 w1 cs.length,fun i hi => by simp at hi⟩
theorem BtI.next {lo : Nat} {w : World} {T : Nat} {cs : List Cel} {f t : Int} {k : Nat} {W : World} (h : BtI lo w T cs f t k W) {W2 : World} (hb : Below W.heap.size W W2) : BtI lo w T cs f t k W2 := by
 obtain ⟨d,hd,hr,hc⟩ := h.ex
 exact ⟨h.low.trans (hb.mono h.low.size),d,hd,hr.below hb hr.lt,fun i hi => ⟨(hc i hi).1,ownsRow_below (hc i hi).2 hb⟩⟩
theorem BtI.step {lo : Nat} {w : World} {T : Nat} {cs : List Cel} {f t : Int} {k : Nat} {W : World} (h : BtI lo w T cs f t k W) (hk : k < cs.length) (hT : w.heap.size ≤ T) (hTl : T < lo) :
  W.there T (k * 3) 3 ∧ ∀ c : Cel,BtIs f t (cs.getD k ce0) c → BtAt lo W c → BtI lo w T cs f t (k + 1) (W.setCells T (k * 3) (ceL c)) := by
 obtain ⟨d,rfl,hr,hc⟩ := h.ex
 obtain ⟨hk1,_⟩ := fill_get d ce0 hk
 refine ⟨hr.there ceL_len hk1,fun c hi ha => ?_⟩
 have hs := hr.set ceL_len hk1 c
 have ht := turns_setCells (X := fun j => j = T) rfl (ceL c) (d.length * 3) W
 rw [fill_set d ce0 c hk] at hs
 refine ⟨h.low.trans (ht.below h.low.size (fun j hj => by omega)),d ++ [c],by simp,hs,fun i hi' => ?_⟩
 by_cases e : i = d.length
 ·subst e
  have e2 : (d ++ [c])[d.length]'hi' = c := by rw [List.getElem_append_right (Nat.le_refl _)]; simp
  rw [e2]
  exact ⟨hi,ownsRow_turns ha ht (fun g hg e => by have := (ha.lt g hg).1; omega)⟩
 ·have hlt : i < d.length := by rw [List.length_append] at hi'; simp at hi'; omega
  have e2 : (d ++ [c])[i]'hi' = d[i] := List.getElem_append_left hlt
  rw [e2]
  have h2 := (hc i hlt).2
  exact ⟨(hc i hlt).1,ownsRow_turns h2 ht (fun g hg e => by have := (h2.lt g hg).1; omega)⟩
def BtEnd (cs : List Cel) (f t : Int) (w : World) (e : Ending) (w' : World) : Prop :=
 (∃ g d,w.heap.size ≤ g ∧ e = .returned (.tuple #[.slice (some ⟨g,0,none⟩) cs.length cs.length,.int .i64 0]) ∧ RB 3 ceL w' g d ∧ d.length = cs.length ∧ (∀ i (h : i < d.length),BtIs f t (cs.getD i ce0) d[i] ∧ BtAt (w.heap.size + 1) w' d[i])) ∧ Below w.heap.size w w'
theorem info46m (x w : Int) (v : Value) : (Tryz.prog.info? 46).map (·.size) = some ([Value.int .i64 x,.int .i64 w,v] : List Value).length := by show _ = some 3; kernel_rfl
theorem between_no (h : Int) (sv cv : Value) (f t : Int) (hr : ¬ (0 ≤ f ∧ f ≤ t ∧ t ≤ h)) (w : World) : Calls Tryz.prog 21 #[.agg #[.int .i64 h,sv,cv],.int .i64 f,.int .i64 t] w fun e w' => e = .returned (.tuple #[.slice none 0 0,.int .i64 5]) ∧ Below w.heap.size w w' := by
 have hB := (Below.refl w.heap.size w).alloc (Nat.le_refl _) (.cells #[.int .i64 h,sv,cv] 39)
 have c0 : (w.alloc (.cells #[.int .i64 h,sv,cv] 39)).cell? ⟨w.heap.size,0,none⟩ = some (.int .i64 h) := by rw [Lib.cell_of_heap (World.alloc_heap_new w _)]; rfl
 by_cases h1 : f < 0
 ·go_enter Tryz.func21,Tryz.ntmps21
  go_wp2_with fail
  go_ret2
  exact ⟨rfl,hB⟩
 ·by_cases h2 : t < f
  ·go_enter Tryz.func21,Tryz.ntmps21
   go_wp2_with fail
   go_ret2
   exact ⟨rfl,hB⟩
  ·have h3 : h < t := by omega
   go_enter Tryz.func21,Tryz.ntmps21
   go_wp2_with fail
   go_ret2
   exact ⟨rfl,hB⟩
theorem between_yes (h : Int) (sv cv : Value) (cs : List Cel) (f t : Int) (hr : 0 ≤ f ∧ f ≤ t ∧ t ≤ h) (hn : cs.length ≤ 400) (hls : ∀ c ∈ cs,c.ls.length ≤ 8000) (w : World) (hC : RecAt 3 ceL w cv cs) (hL : ∀ c ∈ cs,LxsAt w c.v c.ls) :
  Calls Tryz.prog 21 #[.agg #[.int .i64 h,sv,cv],.int .i64 f,.int .i64 t] w (BtEnd cs f t w) := by
 obtain ⟨r1,r2,r3⟩ := hr
 have q1 : ¬ f < 0 := by omega
 have q2 : ¬ t < f := by omega
 have q3 : ¬ h < t := by omega
 obtain ⟨a0,c0',rfl,-⟩ := hC.ex
 have hB0 := (Below.refl w.heap.size w).alloc (Nat.le_refl _) (.cells #[.int .i64 h,sv,.slice a0 cs.length c0'] 39)
 have hbx : Hid (∀ W,Below (w.heap.size + 1) (w.alloc (.cells #[.int .i64 h,sv,.slice a0 cs.length c0'] 39)) W → W.heap[w.heap.size]? = some (.cells #[.int .i64 h,sv,.slice a0 cs.length c0'] 39 (0,0))) := fun W hb => (hb.block _ (by omega)).trans (World.alloc_heap_new w _)
 have hs1 : (w.alloc (.cells #[.int .i64 h,sv,.slice a0 cs.length c0'] 39)).heap.size = w.heap.size + 1 := World.size_alloc _ _
 have k0 : (w.alloc (.cells #[.int .i64 h,sv,.slice a0 cs.length c0'] 39)).cell? ⟨w.heap.size,0,none⟩ = some (.int .i64 h) := by rw [Lib.cell_of_heap (World.alloc_heap_new w _)]; rfl
 have k2 : (w.alloc (.cells #[.int .i64 h,sv,.slice a0 cs.length c0'] 39)).cell? ⟨w.heap.size,2,none⟩ = some (.slice a0 cs.length c0') := by rw [Lib.cell_of_heap (World.alloc_heap_new w _)]; rfl
 have hst := BtI.start w (w.alloc (.cells #[.int .i64 h,sv,.slice a0 cs.length c0'] 39)) cs f t hB0
 rw [hs1] at hst
 have hmk := make37 (n := cs.length) (by omega)
 have k3 : ((w.alloc (.cells #[.int .i64 h,sv,.slice a0 cs.length c0'] 39)).alloc (.cells (noCes cs.length).toArray 46)).cell? ⟨w.heap.size,2,none⟩ = some (.slice a0 cs.length c0') := by
  rw [Lib.cell_of_heap ((Below.heap_alloc _ _ _ (by simp)).trans (World.alloc_heap_new w _))]; rfl
 have hCh : Hid (∀ k,k < cs.length → ∀ W,Below w.heap.size w W → ∃ (b o : Nat) (x y : Int) (a : Option Addr) (n c : Nat) (ls : List Lx),a0 = some ⟨b,o,none⟩ ∧ W.rangeAt b (o + k * 3) [.int .i64 x,.int .i64 y,.slice a n c] ∧ LxsAt W (.slice a n c) ls ∧ ls.length ≤ 8000 ∧ (cs.getD k ce0).x = x ∧ (cs.getD k ce0).w = y ∧ (cs.getD k ce0).ls = ls) := fun k hk W hb => by
  obtain ⟨b,o,rfl,_,hrg⟩ := RecAt.range (hC.below hb (Nat.le_refl _)) hk
  have hg : cs.getD k ce0 = cs[k] := by rw [List.getD_eq_getElem?_getD,List.getElem?_eq_getElem hk]; rfl
  have hm := List.getElem_mem hk
  have hl := (hL _ hm).below hb (Nat.le_refl _)
  obtain ⟨a,c,hv,-⟩ := hl.ex
  refine ⟨b,o,cs[k].x,cs[k].w,a,_,c,cs[k].ls,rfl,?_,by rw [← hv]; exact hl,hls _ hm,by rw [hg],by rw [hg],by rw [hg]⟩
  have e : ceL cs[k] = [.int .i64 cs[k].x,.int .i64 cs[k].w,.slice a cs[k].ls.length c] := by show [_,_,cs[k].v] = _; rw [hv]
  rw [e] at hrg
  exact hrg
 have hend : Hid (∀ W,BtI (w.heap.size + 1 + 1) w (w.heap.size + 1) cs f t cs.length W → BtEnd cs f t w (.returned (.tuple #[.slice (some ⟨w.heap.size + 1,0,none⟩) cs.length cs.length,.int .i64 0])) W) := fun W hI => by
  obtain ⟨d,hd,hrb,hc⟩ := hI.ex
  rw [hd,Nat.sub_self,List.replicate_zero,List.append_nil] at hrb
  exact ⟨⟨_,d,by omega,rfl,hrb,hd,fun i hi => ⟨(hc i hi).1,ownsRow_base (hc i hi).2 (by omega)⟩⟩,hI.low⟩
 generalize BtEnd cs f t w = E at *
 clear hC hL hls hB0 hs1 r1 r2 r3
 go_enter Tryz.func21,Tryz.ntmps21
 go_wp2_with fail
 generalize (w.alloc (.cells #[.int .i64 h,sv,.slice a0 cs.length c0'] 39)).alloc (.cells (noCes cs.length).toArray 46) = w2 at *
 have hI0 : Hid (BtI (w.heap.size + 1 + 1) w (w.heap.size + 1) cs f t 0 w2) := hst
 clear hst k0 k2 k3 hmk hbx
 go_loopw [31] (fun v31 wr => ∃ k : Nat,k ≤ cs.length ∧ v31 = .int .i64 (k : Int) ∧ Hid (BtI (w.heap.size + 1 + 1) w (w.heap.size + 1) cs f t k wr)) (fun v31 _ => cs.length - (intOf v31).toNat)
 case atStart => exact ⟨0,by omega,rfl,hI0⟩
 case round =>
  obtain ⟨k,hk,rfl,hI⟩ := hrel
  clear hI0
  by_cases hlt : k < cs.length
  ·have hlt' : (k : Int) < (cs.length : Int) := by omega
   obtain ⟨b,o,x,y,a,n,c,ls,rfl,hrg,hl,h8,e1,e2,e3⟩ := hCh.out k hlt wr hI.out.low
   have hz0 : (wr.alloc (.cells #[.int .i64 0,.int .i64 0,.slice none 0 0] 46)).heap[wr.heap.size]? = some (.cells #[.int .i64 0,.int .i64 0,.slice none 0 0] 46 (0,0)) := World.alloc_heap_new wr _
   have hbb := below_box wr (.cells #[.int .i64 0,.int .i64 0,.slice none 0 0] 46) #[.int .i64 x,.int .i64 y,.slice a n c]
   have hz1 := setRow_heap _ _ _ (#[.int .i64 x,.int .i64 y,.slice a n c] : Array Value) _ _ hz0
   have hT1 : w.heap.size + 1 < wr.heap.size := by
    obtain ⟨d,_,hr,_⟩ := hI.out.ex
    exact hr.lt
   have hW5 : Hid (∀ w5,Below wr.heap.size wr w5 → BtI (w.heap.size + 1 + 1) w (w.heap.size + 1) cs f t k w5 ∧ Calls Tryz.prog 38 #[.slice a n c,.int .i64 f,.int .i64 t] w5 (WiEnd ls f t w5)) := fun w5 h5 => ⟨hI.out.next h5,within_any _ ls f t h8 w5 (hl.below h5 (Nat.le_refl _))⟩
   have hfin : Hid (∀ w6 (a' : Option Addr) (n' c' : Nat),BtI (w.heap.size + 1 + 1) w (w.heap.size + 1) cs f t k w6 → w6.ownsRow (w.heap.size + 1 + 1) 55 7 (.slice a' n' c') (wiL ls f t).length ((wiL ls f t).flatMap lxL) → w6.there (w.heap.size + 1) (k * 3) 3 ∧ BtI (w.heap.size + 1 + 1) w (w.heap.size + 1) cs f t (k + 1) (w6.setCells (w.heap.size + 1) (k * 3) (ceA x y (.slice a' n' c')).toList)) := fun w6 a' n' c' h6 ho => by
    obtain ⟨h1,h2⟩ := h6.step hlt (by omega) (by omega)
    exact ⟨h1,h2 ⟨x,y,.slice a' n' c',wiL ls f t⟩ ⟨e1.symm,e2.symm,by rw [e3]⟩ ho⟩
   clear hI hl hend hCh e1 e2 e3
   go_wp2_with (first | (refine wpList_load_mid rfl 46 _ rfl b (o + k * 3) rfl [.int .i64 x,.int .i64 y,.slice a n c] _ hrg Tryz.underlying46 rfl (info46m _ _ _) ?_) | (refine wpList_store_row rfl 46 _ _ rfl wr.heap.size #[.int .i64 x,.int .i64 y,.slice a n c] rfl rfl 46 _ hz0 (info46 _ _ _) rfl (one46 _ _ _ _ _) ?_; clear hz0 hrg; generalize (wr.alloc (.cells #[.int .i64 0,.int .i64 0,.slice none 0 0] 46)).setRow wr.heap.size #[.int .i64 x,.int .i64 y,.slice a n c] = w5 at *))
   obtain ⟨h51,h52⟩ := hW5.out w5.drew hbb.drew
   have hsz5 : wr.heap.size ≤ w5.heap.size := hbb.size
   refine bt_r7 _ ?_ _ _ (w.heap.size + 1) wr.heap.size k cs.length x y f t a n c (fun a' n' c' w' => w'.ownsRow w5.heap.size 55 7 (.slice a' n' c') (wiL ls f t).length ((wiL ls f t).flatMap lxL)) _ _ _ _ _ _ _ _ _ _ _ _ _ _ _ _ _ _ _ _ _ _ _ _ _ _ _ _ _ _ _ _ _ _ _ _ _ _ _ _ _ _ _ _ _ _ w5 hz1 (by omega) hlt ?_ ?_ ?_
   ·exact fun _ _ _ _ _ h => h
   ·refine h52.mono ?_
    rintro e w6 ⟨⟨u,rfl,hu⟩,hb6⟩
    obtain ⟨ua,uc,rfl⟩ := owns_slice hu
    exact ⟨_,_,_,rfl,hu,hb6⟩
   ·intro a' n' c' w6 ho hb6
    exact (hfin.out w6 a' n' c' (h51.next hb6) (ownsRow_base ho (by omega))).1
   ·intro a' n' c' w6 ho hb6
    have hI7 : Hid (BtI (w.heap.size + 1 + 1) w (w.heap.size + 1) cs f t (k + 1) (w6.setCells (w.heap.size + 1) (k * 3) (ceA x y (.slice a' n' c')).toList)) := (hfin.out w6 a' n' c' (h51.next hb6) (ownsRow_base ho (by omega))).2
    generalize w6.setCells (w.heap.size + 1) (k * 3) (ceA x y (.slice a' n' c')).toList = w7 at *
    clear h51 h52 hfin hW5 ho hb6 hz1 hbb
    go_wp2_with fail
    exact ⟨⟨k + 1,by omega,rfl,hI7.out⟩,by simp [intOf]; omega⟩
  ·have hkn : k = cs.length := by omega
   subst hkn
   have hge : ¬ ((cs.length : Nat) : Int) < (cs.length : Int) := by omega
   go_wp2_with fail
   exact hend.out _ hI.out
end Go.Proofs.YtaphggjakaghjaaGreatDoor
