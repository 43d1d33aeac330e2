/-
  What is proved here: Items, from where it gathers what the iterator hands on.
  What is proved here: Items, from where its body is made.
  What is proved here: what Items of item answers of any paragraph.
-/
import Derived.Test.YtbdpghjegachaaaGreatDoorE21
namespace Go.Proofs.YtbdpghjegachaaaGreatDoor
open Go.RowKit Go.Shelf
set_option maxRecDepth 100000
set_option maxHeartbeats 4000000
attribute [local go_sem] Oper.semAt_some wide_fn wide_depth

def rest9b : Code := (Code.region 9 #[⟨some 7,.alloc 77,0,"item.go:39",#[],none⟩] false).seq (((Code.region 10 #[⟨some 48,.load 171 (.tmp 6),171,"item.go:40",#[],none⟩,⟨some 49,.call ⟨.value (.func 129),#[.tmp 48],#[171]⟩,173,"item.go:40",#[⟨0,.data⟩],none⟩] false).seq (Code.block 0 (Code.rangeFunc (Operand.tmp 49) #[50] (Code.region 11 #[⟨some 8,.alloc 129,0,"item.go:40",#[],none⟩,⟨none,.store 129 (.tmp 8) (.tmp 50),0,"item.go:40",#[⟨0,.data⟩,⟨0,.phase⟩],none⟩] false) (Code.block 1 (Code.region 12 #[⟨some 51,.load 77 (.tmp 7),77,"item.go:41",#[],none⟩,⟨some 52,.load 129 (.tmp 8),129,"item.go:41",#[],none⟩,⟨some 53,.buildSlice 77 1 #[(0,.tmp 52)],77,"item.go:41",#[⟨1,.data⟩],none⟩,⟨some 54,.call ⟨.builtin .append,#[.tmp 51,.tmp 53],#[77,77]⟩,77,"item.go:41",#[⟨0,.data⟩,⟨2,.data⟩],none⟩,⟨none,.store 77 (.tmp 7) (.tmp 54),0,"item.go:41",#[⟨3,.data⟩,⟨3,.chain⟩,⟨0,.phase⟩,⟨1,.phase⟩,⟨2,.phase⟩,⟨3,.phase⟩],none⟩] false))))).seq ((Code.region 13 #[⟨some 55,.load 77 (.tmp 7),77,"item.go:43",#[],none⟩,⟨some 2,.assign (.tmp 55),77,"item.go:43",#[⟨0,.data⟩,⟨0,.phase⟩],none⟩,⟨some 3,.assign (.const (.int .i64 0)),32,"item.go:43",#[⟨1,.chain⟩,⟨0,.phase⟩,⟨1,.phase⟩],none⟩] false).seq Code.ret))
def rest9 : Code := ((Code.region 7 #[⟨some 42,.fieldAddr 27 (.tmp 1) 2,0,"item.go:36",#[],none⟩,⟨some 43,.fieldAddr 24 (.tmp 42) 12,0,"item.go:36",#[⟨0,.data⟩],none⟩,⟨some 44,.load 3 (.tmp 43),3,"item.go:36",#[⟨1,.data⟩],none⟩,⟨some 45,.binOp .eql 3 (.tmp 44) (.const (.int .i64 1)) 3,4,"item.go:36",#[⟨2,.data⟩],none⟩] false).seq (Code.cond (Operand.tmp 45) (Code.region 8 #[⟨some 46,.load 171 (.tmp 6),171,"item.go:37",#[],none⟩,⟨some 47,.call ⟨.value (.func 128),#[.tmp 46],#[171]⟩,0,"item.go:37",#[⟨0,.data⟩],none⟩] false) Code.skip)).seq rest9b

theorem steady_rowF {w₁ : World} {own : Nat → Prop} {B : Nat} (hB : B < w₁.heap.size) (base : Nat) (t : TypeId) (k : Nat → Nat) (xs : Nat → List Value) :
  Steady (fun i X W => Base w₁ own X W ∧ ∃ v,W.heap[B]? = some (.cells #[v] t) ∧ W.ownsRow base 129 8 v (k i) (xs i) ∧ FillI W v ∧ ∀ g,v.ownBlock = some g → ¬ X g) :=
 fun _ X X' W W' hs ht hx => by
  obtain ⟨hb,v,hv,hr,hf,hg⟩ := hs
  refine ⟨hb.step ht hx,v,(hb.keep ht hB).trans hv,ownsRow_turns hr ht hg,hf.turns ht (fun g h => ⟨(hr.lt g h).2,hg g h⟩),fun g h h' => ?_⟩
  have := (hr.lt g h).2
  exact (hx g h').elim (hg g h) (fun h => by omega)
theorem FillI.set {W : World} {v : Value} (h : FillI W v) {B : Nat} (x : Value) (hx : v.ownBlock ≠ some B) : FillI (W.setCell ⟨B,0,none⟩ x) v := fun g n cap cur e hg => by
 rw [Below.heap_setCell _ _ _ g (fun e' => hx (by rw [e,e']; rfl))] at hg
 exact h g n cap cur e hg
theorem rowI_succ (l : List It) {j : Nat} (h : j < l.length) : (l.take (j + 1)).flatMap itL = (l.take j).flatMap itL ++ itL (itAt l j) := by
 rw [List.take_add_one,List.flatMap_append,itAt_is h,List.getElem?_eq_getElem h]
 simp

theorem items_b (R : Ending → World → Prop) (b : Bod) (Bx : Nat) (w W : World) {v0 v1 v2 v3 v4 v5 v7 v8 v9 xa xb xd xe xg xi xj xl xm xn xo xp xq xr xu xv xx xz xA xB xC xD xE xF xG xH xI xJ xK xL xM xN xO xP xQ xR xS xT xU xV xW xX xY xZ ya yb : Value} (hb : Below w.heap.size w W) (hbx : W.heap[Bx]? = some (.cells (bodC b) 171 (0,0))) (hA : BodAt W b)
  (hE : ∀ W' v,W'.ownsRow w.heap.size 129 8 v (itsL b.t b.l b.pd).length ((itsL b.t b.l b.pd).flatMap itL) → FillI W' v → Below w.heap.size w W' → R (.returned (.tuple #[v,.int .i64 0])) W') :
  rest9b.wp Tryz.prog (bodyPostM Fence.wide 0 Tryz.prog Tryz.f99 R) (fr9 v0 v1 v2 v3 v4 v5 (.pointer (some ⟨Bx,0,none⟩)) v7 v8 v9 xa xb xd xe xg xi xj xl xm xn xo xp xq xr xu xv xx xz xA xB xC xD xE xF xG xH xI xJ xK xL xM xN xO xP xQ xR xS xT xU xV xW xX xY xZ ya yb) W := by
 unfold rest9b fr9
 have hbx2 : Hid ((W.alloc (.cells #[.slice none 0 0] 77)).heap[Bx]? = some (.cells (bodC b) 171 (0,0))) := (Below.heap_alloc _ _ _ (Array.getElem?_eq_some_iff.1 hbx).1).trans hbx
 have hit : Hid (Calls Tryz.prog 129 #[.agg (bodC b)] (W.alloc (.cells #[.slice none 0 0] 77)) fun e W' => e = .returned (.func (.func 148) #[] #[.pointer (some ⟨W.heap.size + 1,0,none⟩)]) ∧ W' = (W.alloc (.cells #[.slice none 0 0] 77)).alloc (.cells (bodC b) 171)) := by
  have := items_any b (W.alloc (.cells #[.slice none 0 0] 77))
  rw [World.size_alloc] at this
  exact this
 have hEh : Hid (∀ W' v,W'.ownsRow w.heap.size 129 8 v (itsL b.t b.l b.pd).length ((itsL b.t b.l b.pd).flatMap itL) → FillI W' v → Below w.heap.size w W' → R (.returned (.tuple #[v,.int .i64 0])) W') := hE
 obtain ⟨w1,hw1⟩ : ∃ w1,(W.alloc (.cells #[.slice none 0 0] 77)).alloc (.cells (bodC b) 171) = w1 := ⟨_,rfl⟩
 have hs1 : w1.heap.size = W.heap.size + 2 := by rw [← hw1]; simp
 have hT1 : Turns Noth W w1 := by rw [← hw1]; exact (Turns.alloc _ _ _).trans (Turns.alloc _ _ _)
 have hB1 : w1.heap[W.heap.size]? = some (.cells #[.slice none 0 0] 77) := by rw [← hw1]; exact (Below.heap_alloc _ _ _ (by simp)).trans (World.alloc_heap_new W _)
 have hBo : BoX w1 (W.heap.size + 1) b := ⟨by rw [← hw1]; have := World.alloc_heap_new (W.alloc (.cells #[.slice none 0 0] 77)) (.cells (bodC b) 171); rwa [World.size_alloc] at this⟩
 have hWb : Below W.heap.size W w1 := by rw [← hw1]; exact two_below W _ _
 have hA1 : BodAt w1 b := hA.below hWb (Nat.le_refl _)
 have hrd : Hid (∀ W',Turns (fun k => k = W.heap.size) w1 W' → RdI (W.heap.size + 1) b W') := fun W' ht => by
  have hlt : ∀ {v : Value} {α : Type} {k : Nat} {f : α → List Value} {rs : List α},RecAt k f W v rs → RecAt k f w1 v rs → RecAt k f W' v rs := fun {v α k f rs} h0 h1 => by
   have hle := h1.le
   obtain ⟨aa,cc,rfl,h2⟩ := h0.ex
   refine ⟨⟨aa,cc,rfl,?_⟩,hle⟩
   rcases h2 with h2 | ⟨b',o',rfl,hb',hc⟩
   ·exact .inl h2
   ·refine .inr ⟨b',o',rfl,?_,fun i hi j u hu => ?_⟩
    ·have := hWb.size; have := ht.size; omega
    ·rw [World.cell?_of_block (ht.block b' (by have := hWb.size; omega) (by omega)),hWb.cell hb']
     exact hc i hi j u hu
  exact ⟨⟨(ht.block _ (Array.getElem?_eq_some_iff.1 hBo.row).1 (by omega)).trans hBo.row⟩,⟨hlt hA.ms hA1.ms,hlt hA.pv hA1.pv,hA.len,hA.few,hA.fit⟩⟩
 have hfew := its_few b.t b.l b.pd
 have hl4 := hA.few
 obtain ⟨i0,hi,hz0,hz1,hz2⟩ := info_parts info51z
 have hw1' : Hid ((W.alloc (.cells #[.slice none 0 0] 77)).alloc (.cells (bodC b) 171) = w1) := hw1
 clear hw1 hBo hA1 hA hE hbx
 go_wp2_with (first | (refine wpList_load_row rfl 171 _ rfl Bx rfl 171 _ (0,0) _ hbx2.out Tryz.underlying171 rfl (by show _ = some 3; kernel_rfl) ?_) | (go_at_call 129; refine hit.out.mono ?_; rintro e w' ⟨rfl,hww⟩; rw [hw1'.out] at hww; subst w'))
 refine (wpIn_wide (n := 0)).1 ?_
 refine wp_range (gf := 148) (lb := #[.pointer (some ⟨W.heap.size + 1,0,none⟩)]) rfl (enters_of Tryz.func148 (by kernel_rfl) rfl) (items1_gives (W.heap.size + 1) b) (fun _ => rfl)
  (fun j X W' => Base w1 (fun k => k = W.heap.size) X W' ∧ ∃ v,W'.heap[W.heap.size]? = some (.cells #[v] 77) ∧ W'.ownsRow w1.heap.size 129 8 v j (((itsL b.t b.l b.pd).take j).flatMap itL) ∧ FillI W' v ∧ ∀ g,v.ownBlock = some g → ¬ X g)
  (fun _ _ _ _ => False)
  (fun a' j X W' => (Base w1 (fun k => k = W.heap.size) X W' ∧ ∃ v,W'.heap[W.heap.size]? = some (.cells #[v] 77) ∧ W'.ownsRow w1.heap.size 129 8 v j (((itsL b.t b.l b.pd).take j).flatMap itL) ∧ FillI W' v ∧ ∀ g,v.ownBlock = some g → ¬ X g) ∧
   ∃ B,¬ X B ∧ W'.heap[B]? = some (.cells (itC (itAt (itsL b.t b.l b.pd) j)) 129) ∧
   a' = { tmps := #[v0,v1,v2,v3,v4,v5,.pointer (some ⟨Bx,0,none⟩),.pointer (some ⟨W.heap.size,0,none⟩),.pointer (some ⟨B,0,none⟩),v9,xa,xb,xd,xe,xg,xi,xj,xl,xm,xn,xo,xp,xq,xr,xu,xv,xx,xz,xA,xB,xC,xD,xE,xF,xG,xH,xI,xJ,xK,xL,xM,xN,xO,xP,xQ,xR,xS,xT,.agg (bodC b),.func (.func 148) #[] #[.pointer (some ⟨W.heap.size + 1,0,none⟩)],.agg (itC (itAt (itsL b.t b.l b.pd) j)),xX,xY,xZ,ya,yb],defers := [] })
  (steady_rowF (by omega) _ _ _ _) (fun _ => steady_never) (fun a' => (steady_rowF (by omega) _ _ _ _).and (steady_round a' _ _)) ?hR ⟨Base.start _ _,_,hB1,World.ownsRow_nil _ _ _ _,FillI.nil _,fun g hg => by cases hg⟩ ?assign ?body ?done ?stop
 case hR =>
  rintro i X W' ⟨hb',_⟩
  exact hrd.out W' hb'.turns
 case assign =>
  rintro l j X W' K hj ⟨hb',v,hv,hr,hf,hg⟩ hK
  unfold encI
  have hsz := hb'.turns.size
  have hnx : Hid ((Base w1 (fun k => k = W.heap.size) X (W'.alloc (.cells (itC (itAt (itsL b.t b.l b.pd) j)) 129)) ∧ ∃ v,(W'.alloc (.cells (itC (itAt (itsL b.t b.l b.pd) j)) 129)).heap[W.heap.size]? = some (.cells #[v] 77) ∧ (W'.alloc (.cells (itC (itAt (itsL b.t b.l b.pd) j)) 129)).ownsRow w1.heap.size 129 8 v j (((itsL b.t b.l b.pd).take j).flatMap itL) ∧ FillI (W'.alloc (.cells (itC (itAt (itsL b.t b.l b.pd) j)) 129)) v ∧ ∀ g,v.ownBlock = some g → ¬ X g) ∧ ¬ X W'.heap.size ∧ (W'.alloc (.cells (itC (itAt (itsL b.t b.l b.pd) j)) 129)).heap[W'.heap.size]? = some (.cells (itC (itAt (itsL b.t b.l b.pd) j)) 129)) :=
   ⟨⟨hb'.alloc _,v,(Below.heap_alloc _ _ _ (by omega)).trans hv,hr.alloc _,hf.turns (Turns.alloc Noth _ _) (fun g h => ⟨(hr.lt g h).2,fun h => h⟩),hg⟩,hb'.fresh,World.alloc_heap_new _ _⟩
  have hK' : Hid (∀ a',a' = ({ tmps := #[v0,v1,v2,v3,v4,v5,.pointer (some ⟨Bx,0,none⟩),.pointer (some ⟨W.heap.size,0,none⟩),.pointer (some ⟨W'.heap.size,0,none⟩),v9,xa,xb,xd,xe,xg,xi,xj,xl,xm,xn,xo,xp,xq,xr,xu,xv,xx,xz,xA,xB,xC,xD,xE,xF,xG,xH,xI,xJ,xK,xL,xM,xN,xO,xP,xQ,xR,xS,xT,.agg (bodC b),.func (.func 148) #[] #[.pointer (some ⟨W.heap.size + 1,0,none⟩)],.agg (itC (itAt (itsL b.t b.l b.pd) j)),xX,xY,xZ,ya,yb],defers := [] } : Act) → K a' (W'.alloc (.cells (itC (itAt (itsL b.t b.l b.pd) j)) 129))) := fun a' e => hK _ _ (Keeps.alloc _ _ _) ⟨hnx.out.1,W'.heap.size,hnx.out.2.1,hnx.out.2.2,e⟩
  clear hnx hK hf hr hv hrd
  generalize itAt (itsL b.t b.l b.pd) j = x at *
  obtain ⟨xk,xf,xt,xw,xs,xh,xc,xy⟩ := x
  unfold itC at hK' ⊢
  gi_wp2
  exact hK'.out _ rfl
 case body =>
  rintro l j X a' W' hj ⟨⟨hb',v,hv,hrow,hfl,hg⟩,B,hB,hr,rfl⟩
  have hc0 : W'.cell? ⟨W.heap.size,0,none⟩ = some v := by rw [Lib.cell_of_heap hv]; rfl
  have hbs := hb'.turns.size
  have hjn : j < (itsL b.t b.l b.pd).length := hj
  have hsucc := rowI_succ (itsL b.t b.l b.pd) hjn
  have hkds : KdL (((itsL b.t b.l b.pd).take j).flatMap itL) := kd_its _
  have hkx := kd_item (itAt (itsL b.t b.l b.pd) j)
  have hxl : ((((itsL b.t b.l b.pd).take j).flatMap itL)).length = j * 8 := by rw [fm_len itL_len,List.length_take]; congr 1; omega
  have hstep : Hid (∀ v' w2,w2.ownsRow w1.heap.size 129 8 v' (j + 1) (((itsL b.t b.l b.pd).take j).flatMap itL ++ itL (itAt (itsL b.t b.l b.pd) j)) → (W'.alloc (.cells (itC (itAt (itsL b.t b.l b.pd) j)) 129)).grownBy w2 v.ownBlock → (v'.ownBlock = v.ownBlock ∨ ∀ g,v'.ownBlock = some g → (W'.alloc (.cells (itC (itAt (itsL b.t b.l b.pd) j)) 129)).heap.size ≤ g) → FillI w2 v' → (∃ g' cap',v' = .slice g' (j + 1) cap') ∧ w2.cell? ⟨W.heap.size,0,none⟩ = some v ∧ w2.frozen? ⟨W.heap.size,0,none⟩ = false ∧ leftBy (fun j X W' => Base w1 (fun k => k = W.heap.size) X W' ∧ ∃ v,W'.heap[W.heap.size]? = some (.cells #[v] 77) ∧ W'.ownsRow w1.heap.size 129 8 v j (((itsL b.t b.l b.pd).take j).flatMap itL) ∧ FillI W' v ∧ ∀ g,v.ownBlock = some g → ¬ X g) (fun _ _ _ _ => False) j X W' .normal { tmps := #[],defers := [] } (w2.setCell ⟨W.heap.size,0,none⟩ v')) := fun v' w2 hown' hgrow hwh hfl' => by
   obtain ⟨hv1,q1,q2,q3,q4,q5⟩ := append_step hb' (by omega) hv (by decide) hrow hg hown' hgrow hwh
   obtain ⟨g',cap',hv'⟩ := Hy.row_val hown'
   refine ⟨⟨g',cap',hv'⟩,hv1.cell,hv1.frozen,q1,q2,_,q3,by rw [hsucc]; exact q4,hfl'.set _ ?_,q5⟩
   exact (hv1.not_row (by decide) hown').symm
  have hrowa : Hid ((W'.alloc (.cells (itC (itAt (itsL b.t b.l b.pd) j)) 129)).ownsRow w1.heap.size 129 8 v j (((itsL b.t b.l b.pd).take j).flatMap itL)) := hrow.alloc _
  have hfla : Hid (FillI (W'.alloc (.cells (itC (itAt (itsL b.t b.l b.pd) j)) 129)) v) := hfl.turns (Turns.alloc Noth _ _) (fun g h => ⟨(hrow.lt g h).2,fun h => h⟩)
  have hnew : Hid (∀ q u,(itL (itAt (itsL b.t b.l b.pd) j))[q]? = some u → (W'.alloc (.cells (itC (itAt (itsL b.t b.l b.pd) j)) 129)).cell? ((⟨W'.heap.size,0,none⟩ : Addr).add q) = some u) := cells_new W' (itL (itAt (itsL b.t b.l b.pd) j)) 129
  have hj8 : j + 1 ≤ 8193 := by omega
  obtain ⟨rowj,hrowj⟩ : ∃ r,((itsL b.t b.l b.pd).take j).flatMap itL = r := ⟨_,rfl⟩
  rw [hrowj] at hkds hrowa
  have hstep2 := hstep
  clear hrow hfl hv hsucc hxl hrd hg hb'
  have hr0 : W'.heap[B]? = some (.cells (itC (itAt (itsL b.t b.l b.pd) j)) 129) := hr
  generalize itAt (itsL b.t b.l b.pd) j = x at *
  obtain ⟨xk,xf,xt,xw,xs,xh,xc,xy⟩ := x
  have r0 : W'.cell? ⟨B,0,none⟩ = some (.int .i64 xk) := by rw [Lib.cell_of_heap hr]; rfl
  have r1 : W'.cell? ⟨B,1,none⟩ = some (.int .i64 xf) := by rw [Lib.cell_of_heap hr]; rfl
  have r2 : W'.cell? ⟨B,2,none⟩ = some (.int .i64 xt) := by rw [Lib.cell_of_heap hr]; rfl
  have r3 : W'.cell? ⟨B,3,none⟩ = some (.int .i64 xw) := by rw [Lib.cell_of_heap hr]; rfl
  have r4 : W'.cell? ⟨B,4,none⟩ = some (.int .i64 xs) := by rw [Lib.cell_of_heap hr]; rfl
  have r5 : W'.cell? ⟨B,5,none⟩ = some (.int .i64 xh) := by rw [Lib.cell_of_heap hr]; rfl
  have r6 : W'.cell? ⟨B,6,none⟩ = some (.int .i64 xc) := by rw [Lib.cell_of_heap hr]; rfl
  have r7 : W'.cell? ⟨B,7,none⟩ = some (.bool xy) := by rw [Lib.cell_of_heap hr]; rfl
  clear hr0 hr
  unfold itC at *
  clear hs1
  gi_wp2_with (gi_at_builtin; refine wpListIn_append_kinds _ rfl _ _ 77 rfl w1.heap.size i0 Tryz.underlying77 hi hz0 hz1 hz2 v j rowj rfl hrowa.out hkds hfla.out ⟨W'.heap.size,0,none⟩ 1 _ rfl rfl hnew.out (itL_one _) hkx (by unfold maxLen; omega) (by omega) (by simp; omega) ?_; intro v' w2 hown' hgrow hwh hfl'; obtain ⟨⟨g',cap',rfl⟩,hc1,hf1,hlb⟩ := hstep2.out v' w2 (by rw [hrowj]; exact hown') hgrow hwh hfl')
  exact hlb
 case done =>
  rintro D W' hD ⟨hb',v,hv,hrow,hfl,hg⟩ hK
  have hc0 : W'.cell? ⟨W.heap.size,0,none⟩ = some v := by rw [Lib.cell_of_heap hv]; rfl
  rw [List.take_of_length_le (Nat.le_refl _)] at hrow
  have hfin : Hid (∀ o,R (.returned (.tuple #[v,.int .i64 0])) (W'.putObj D o)) := fun o => by
   have ht := Turns.putObj (X := fun k => k = D) W' rfl o
   refine hEh.out _ v (ownsRow_turns (ownsRow_base hrow (by have := hb.size; omega)) ht hg) (hfl.turns ht (fun g h => ⟨(hrow.lt g h).2,hg g h⟩)) ?_
   exact hb.trans ((below_end hT1 hb' (fun k h => by omega) o).mono hb.size)
  have hsz := hb'.turns.size
  clear hrow hfl hrd hEh
  go_wp2_with fail
  refine ⟨by simp,.inl ⟨_,_,rfl,run_takeDeferred hK,?_⟩⟩
  refine ⟨_,results_tmp2 rfl _ _ _,?_⟩
  exact hfin.out _
 case stop =>
  rintro D c i W' _ _ h _
  exact h.elim
end Go.Proofs.YtbdpghjegachaaaGreatDoor

namespace Go.Proofs.YtbdpghjegachaaaGreatDoor
open Go.RowKit Go.Shelf
set_option maxRecDepth 100000
set_option maxHeartbeats 4000000

def ItemsEnd (a : Pa) (w : World) (e : Ending) (w' : World) : Prop :=
 (∃ v,e = .returned (.tuple #[v,.int .i64 (chkI a)]) ∧ ((chkI a ≠ 0 ∧ v = .slice none 0 0) ∨ (chkI a = 0 ∧ w'.ownsRow w.heap.size 129 8 v (itemsOf a).length ((itemsOf a).flatMap itL) ∧ FillI w' v))) ∧ Below w.heap.size w w'

theorem items_a (R : Ending → World → Prop) (a : Pa) (B0 Bx Pb cm : Nat) (am : Option Addr) (w W : World) {v0 v2 v3 v4 v5 v7 v8 v9 xa xb xc xd xe xf xg xh xi xj xk xl xm xn xo xp xq xr xt xu xv xw xx xy xz xA xB xC xD xE xF xG xH xI xJ xK xL xM xN xO xP xQ xR xS xT xU : Value} (hb : Below w.heap.size w W) (hP : PB W B0 a)
  (hbx : W.heap[Bx]? = some (.cells #[.string a.t,.slice am (bodyL a).length cm,.slice (some ⟨Pb,0,none⟩) (bodyL a).length (bodyL a).length] 171 (0,0))) (hbl : Hy.Blk W Pb (bcells (List.replicate (bodyL a).length false)) 4)
  (hms : RecAt 6 msL W (.slice am (bodyL a).length cm) (bodyL a)) (hne : ∀ g o,am = some ⟨g,o,none⟩ → g ≠ Pb) (hPb : w.heap.size ≤ Pb) (hPx : Pb ≠ Bx) (htb : Hy.Tab W) (hG : GoodP a)
  (hE : ∀ W' v,W'.ownsRow w.heap.size 129 8 v (itemsOf a).length ((itemsOf a).flatMap itL) → FillI W' v → Below w.heap.size w W' → R (.returned (.tuple #[v,.int .i64 0])) W') :
  rest9.wp Tryz.prog (bodyPostM Fence.wide 0 Tryz.prog Tryz.f99 R) (fr9 v0 (.pointer (some ⟨B0,0,none⟩)) v2 v3 v4 v5 (.pointer (some ⟨Bx,0,none⟩)) v7 v8 v9 xa xb xc xd xe xf xg xh xi xj xk xl xm xn xo xp xq xr xt xu xv xw xx xy xz xA xB xC xD xE xF xG xH xI xJ xK xL xM xN xO xP xQ xR xS xT xU) W := by
 have c14 : W.cell? ⟨B0,14,none⟩ = some (.int .i64 a.p.p12) := hP.cell rfl
 have hA0 : BodAt W ⟨a.t,.slice am (bodyL a).length cm,.slice (some ⟨Pb,0,none⟩) (bodyL a).length (bodyL a).length,bodyL a,List.replicate (bodyL a).length false⟩ :=
  ⟨hms,bools_of hbl (by simp) (Nat.le_refl _),by simp,bodyL_few hG,bodyL_fit hG⟩
 have hpd : Hid (pdOf a = if a.p.p12 = 1 then partL a.t (bodyL a) (List.replicate (bodyL a).length false) else List.replicate (bodyL a).length false) := rfl
 have hio : Hid (itemsOf a = itsL a.t (bodyL a) (pdOf a)) := rfl
 unfold rest9 fr9
 by_cases h1 : a.p.p12 = 1
 ·have hpt := part_any ⟨a.t,.slice am (bodyL a).length cm,.slice (some ⟨Pb,0,none⟩) (bodyL a).length (bodyL a).length,bodyL a,List.replicate (bodyL a).length false⟩ Pb W hA0 htb hbl rfl (fun g o n c e => by cases e; exact hne g o rfl)
  have hpt' : Hid (Calls Tryz.prog 128 #[.agg #[.string a.t,.slice am (bodyL a).length cm,.slice (some ⟨Pb,0,none⟩) (bodyL a).length (bodyL a).length]] W fun e w' => (∃ v,e = .returned v) ∧ Turns (fun k => k = Pb) W w' ∧ Hy.Blk w' Pb (bcells (pdOf a)) 4) := by
   have e : pdOf a = partL a.t (bodyL a) (List.replicate (bodyL a).length false) := by rw [hpd.out,if_pos h1]
   rw [e]; exact hpt
  have hnx : Hid (∀ w4,Turns (fun k => k = Pb) W w4 → Hy.Blk w4 Pb (bcells (pdOf a)) 4 → ∀ (v0 v1 v2 v3 v4 v5 v7 v8 v9 xa xb xc xd xe xf xg xh xi xj xk xl xm xn xo xp xq xr xt xu xv xw xx xy xz xA xB xC xD xE xF xG xH xI xJ xK xL xM xN xO xP xQ xR xS xT xU : Value),rest9b.wp Tryz.prog (bodyPostM Fence.wide 0 Tryz.prog Tryz.f99 R) (fr9 v0 v1 v2 v3 v4 v5 (.pointer (some ⟨Bx,0,none⟩)) v7 v8 v9 xa xb xc xd xe xf xg xh xi xj xk xl xm xn xo xp xq xr xt xu xv xw xx xy xz xA xB xC xD xE xF xG xH xI xJ xK xL xM xN xO xP xQ xR xS xT xU) w4) := fun w4 ht hbl4 v0 v1 v2 v3 v4 v5 v7 v8 v9 xa xb xc xd xe xf xg xh xi xj xk xl xm xn xo xp xq xr xt xu xv xw xx xy xz xA xB xC xD xE xF xG xH xI xJ xK xL xM xN xO xP xQ xR xS xT xU => by
   refine items_b R ⟨a.t,.slice am (bodyL a).length cm,.slice (some ⟨Pb,0,none⟩) (bodyL a).length (bodyL a).length,bodyL a,pdOf a⟩ Bx w w4 (hb.trans (ht.below hb.size (fun k hk => by omega))) ((ht.block _ (Array.getElem?_eq_some_iff.1 hbx).1 (fun h => hPx h.symm)).trans hbx) ⟨rec_turns hms ht (fun g o n c e => by cases e; exact hne g o rfl),bools_of hbl4 (pdOf_len a).symm (Nat.le_refl _),pdOf_len a,bodyL_few hG,bodyL_fit hG⟩ (fun W' v h1 h2 h3 => hE W' v ?_ h2 h3)
   rw [hio.out]; exact h1
  clear hpt hA0 hE hms hbl
  have hbxH : Hid (W.heap[Bx]? = some (.cells #[.string a.t,.slice am (bodyL a).length cm,.slice (some ⟨Pb,0,none⟩) (bodyL a).length (bodyL a).length] 171 (0,0))) := hbx
  clear hbx
  go_wp2_with (first | (refine wpList_load_row rfl 171 _ rfl Bx rfl 171 _ (0,0) _ hbxH.out Tryz.underlying171 rfl (by show _ = some 3; kernel_rfl) ?_) | (go_at_call 128; refine hpt'.out.mono ?_; rintro e w4 ⟨⟨v,rfl⟩,ht4,hb4⟩))
  exact hnx.out _ ht4 hb4 _ _ _ _ _ _ _ _ _ _ _ _ _ _ _ _ _ _ _ _ _ _ _ _ _ _ _ _ _ _ _ _ _ _ _ _ _ _ _ _ _ _ _ _ _ _ _ _ _ _ _ _ _ _ _
 ·have e : pdOf a = List.replicate (bodyL a).length false := by rw [hpd.out,if_neg h1]
  have q1 : (a.p.p12 == 1) = false := by simpa using h1
  have hnx : Hid (∀ (v0 v1 v2 v3 v4 v5 v7 v8 v9 xa xb xc xd xe xf xg xh xi xj xk xl xm xn xo xp xq xr xt xu xv xw xx xy xz xA xB xC xD xE xF xG xH xI xJ xK xL xM xN xO xP xQ xR xS xT xU : Value),rest9b.wp Tryz.prog (bodyPostM Fence.wide 0 Tryz.prog Tryz.f99 R) (fr9 v0 v1 v2 v3 v4 v5 (.pointer (some ⟨Bx,0,none⟩)) v7 v8 v9 xa xb xc xd xe xf xg xh xi xj xk xl xm xn xo xp xq xr xt xu xv xw xx xy xz xA xB xC xD xE xF xG xH xI xJ xK xL xM xN xO xP xQ xR xS xT xU) W) := fun v0 v1 v2 v3 v4 v5 v7 v8 v9 xa xb xc xd xe xf xg xh xi xj xk xl xm xn xo xp xq xr xt xu xv xw xx xy xz xA xB xC xD xE xF xG xH xI xJ xK xL xM xN xO xP xQ xR xS xT xU => by
   refine items_b R ⟨a.t,.slice am (bodyL a).length cm,.slice (some ⟨Pb,0,none⟩) (bodyL a).length (bodyL a).length,bodyL a,List.replicate (bodyL a).length false⟩ Bx w W hb hbx hA0 (fun W' v h1 h2 h3 => hE W' v ?_ h2 h3)
   rw [hio.out,e]; exact h1
  clear hA0 hE hms hbl hbx e
  go_wp2_with fail
  exact hnx.out _ _ _ _ _ _ _ _ _ _ _ _ _ _ _ _ _ _ _ _ _ _ _ _ _ _ _ _ _ _ _ _ _ _ _ _ _ _ _ _ _ _ _ _ _ _ _ _ _ _ _ _ _ _ _

theorem items_tail (R : Ending → World → Prop) (K : Act → World → Prop) (hK : ∀ a_1 w_1,rest9.wp Tryz.prog (bodyPostM Fence.wide 0 Tryz.prog Tryz.f99 R) a_1 w_1 → K a_1 w_1) (id : Nat) (ps : String) {v0 v2 v3 v5 v6 v7 v8 v9 xa xb xc xd xe xf xg xh xi xj xk xl xm xn xo xp xq xr xt xu xv xw xx xy xz xA xB xC xD xE xF xG xH xI xJ xK xL xM xN xO xP xQ xR xS xT xU : Value} (a : Pa) (B0 cm n : Nat) (am : Option Addr) (w W : World) (hn : n = (bodyL a).length) (hb : Below w.heap.size w W) (hP : PB W B0 a) (_hB0 : w.heap.size ≤ B0)
  (hms : RecAt 6 msL W (.slice am n cm) (bodyL a)) (hlt : ∀ g o,am = some ⟨g,o,none⟩ → g < W.heap.size) (htb : Hy.Tab W) (hG : GoodP a)
  (hE : ∀ W' v,W'.ownsRow w.heap.size 129 8 v (itemsOf a).length ((itemsOf a).flatMap itL) → FillI W' v → Below w.heap.size w W' → R (.returned (.tuple #[v,.int .i64 0])) W') :
  (Code.region id (ops9_6 ps) true).wp Tryz.prog (Exit.then K (bodyPostM Fence.wide 0 Tryz.prog Tryz.f99 R)) (fr9 v0 (.pointer (some ⟨B0,0,none⟩)) v2 v3 (.slice am n cm) v5 v6 v7 v8 v9 xa xb xc xd xe xf xg xh xi xj xk xl xm xn xo xp xq xr xt xu xv xw xx xy xz xA xB xC xD xE xF xG xH xI xJ xK xL xM xN xO xP xQ xR xS xT xU) W := by
 subst hn
 refine Code.wp_mono (Q := fun e x W => e = .normal ∧ K x W) (fun e x W h => by obtain ⟨rfl,h⟩ := h; exact h) ?_
 refine it_r6 _ (fun _ _ _ _ _ h => by cases h.1) id ps B0 (bodyL a).length cm am a.t W ⟨hP.lt,hP.c0⟩ (bodyL_few hG) ?_
 intro Pb Bx w' hb' h1 h2 h3 hbl hbx
 refine ⟨rfl,hK _ _ ?_⟩
 have hsz := hb.size
 exact items_a R a B0 Bx Pb cm am w w' (hb.trans (hb'.mono hb.size)) (hP.below hb' hP.lt) hbx hbl (hms.below hb' (Nat.le_refl _)) (fun g o e => by have := hlt g o e; omega) (by omega) h3 (htb.below hb') hG hE
end Go.Proofs.YtbdpghjegachaaaGreatDoor

namespace Go.Proofs.YtbdpghjegachaaaGreatDoor
open Go.RowKit Go.Shelf
set_option maxRecDepth 100000
set_option maxHeartbeats 8000000

theorem items_no (a : Pa) (w : World) (hA : PaAt w a) (h : chkI a ≠ 0) : Calls Tryz.prog 99 #[paV a] w (ItemsEnd a w) := by
 have hB := (Below.refl w.heap.size w).alloc (Nat.le_refl _) (Obj.cells (paC a) 27)
 have hP := PB.new w a
 have hs := masses_any a _ (hA.below hB (Nat.le_refl _))
 have hE : Hid (∀ W,Below w.heap.size w W → ItemsEnd a w (.returned (.tuple #[.slice none 0 0,.int .i64 (chkI a)])) W) := fun W hW => ⟨⟨_,rfl,.inl ⟨h,rfl⟩⟩,hW⟩
 unfold MassEnd at hs
 unfold paV at hs ⊢
 have h' : (chkI a == 0) = false := by simpa using h
 have hs' : Hid (Calls Tryz.prog 20 #[.agg (paC a)] (w.alloc (.cells (paC a) 27)) fun e w' => (∃ v,e = .returned (.tuple #[v,.int .i64 (chkI a)]) ∧ v = .slice none 0 0) ∧ Below w.heap.size w w') := by
  refine hs.mono ?_
  rintro e w' ⟨⟨v,rfl,hv⟩,hb⟩
  refine ⟨⟨v,rfl,?_⟩,hB.trans (hb.mono hB.size)⟩
  rcases hv with ⟨_,h1⟩ | ⟨h1,_⟩
  ·exact h1
  ·exact absurd h1 h
 clear hs h
 generalize chkI a = n at *
 generalize hw1 : w.alloc (.cells (paC a) 27) = w1 at *
 go_enter Tryz.func99,Tryz.ntmps99
 go_wp2_with (first | (refine wpList_load_row rfl 27 _ rfl w.heap.size rfl 27 _ (0,0) _ hP.row Tryz.underlying27 rfl (info34 a) ?_) | (go_at_call 20; refine hs'.out.mono ?_; rintro e w' ⟨⟨v,rfl,rfl⟩,hb2⟩))
 go_ret2
 exact hE.out _ hb2

theorem rec_some {α : Type} {k : Nat} {f : α → List Value} {W : World} {a : Option Addr} {n c : Nat} {l : List α} (h : RecAt k f W (.slice a n c) l) (hl : 0 < l.length) : ∃ g o,a = some ⟨g,o,none⟩ ∧ g < W.heap.size ∧ ∀ i (hi : i < l.length) (j : Nat) u,(f l[i])[j]? = some u → W.cell? ⟨g,o + i * k + j,none⟩ = some u := by
 obtain ⟨a0,cap0,h1,h2⟩ := h.ex
 cases h1
 rcases h2 with h2 | ⟨b,o,e,hb,hc⟩
 ·rw [h2] at hl; cases hl
 ·exact ⟨b,o,e,hb,hc⟩
theorem drop_both {W : World} {g o n cap : Nat} {l : List Ms} (h : RecAt 6 msL W (.slice (some ⟨g,o,none⟩) n cap) l) (hl : 0 < l.length) : ∃ a',(∀ W : World,(Instr.slice 48 (.slice (some ⟨g,o,none⟩) n cap) (some (.int .i64 1)) none none).run Tryz.prog W = .ok (.slice a' (n - 1) (cap - 1)) W) ∧ RecAt 6 msL W (.slice a' (n - 1) (cap - 1)) (l.drop 1) ∧ ∃ o',a' = some ⟨g,o',none⟩ := by
 have hle := h.le _ _ _ rfl
 have hn : n = l.length := by
  obtain ⟨a0,c0,e,_⟩ := h.ex
  cases e; rfl
 obtain ⟨a',h1,h2,h3⟩ := drop_rec (g := g) (o := o) (show 0 < n by omega) hle
 exact ⟨a',h1,drop_at h h2,h3⟩
theorem rowlt {w : World} {base : Nat} {t : TypeId} {sz : Nat} {a : Option Addr} {n c : Nat} {xs : List Value} (h : w.ownsRow base t sz (.slice a n c) n xs) {g o : Nat} (e : a = some ⟨g,o,none⟩) : g < w.heap.size := by
 subst e
 have hl := h.lt
 rcases h.2 with ⟨h1,_⟩ | ⟨g',cap,cur,h1,_⟩
 ·cases h1
 ·cases h1; exact (hl g rfl).2
theorem items_A (a : Pa) (w : World) (hA : PaAt w a) (htb : Hy.Tab w) (h : chkI a = 0) (h14 : ¬ 2 ≤ a.p.p14) : Calls Tryz.prog 99 #[paV a] w (ItemsEnd a w) := by
 have hB := (Below.refl w.heap.size w).alloc (Nat.le_refl _) (Obj.cells (paC a) 27)
 have hP := PB.new w a
 have hG := good_of h
 have hbl : Hid (bodyL a = mss a) := if_neg (fun h => h14 h.1)
 have q1 : decide (2 ≤ a.p.p14) = false := decide_eq_false h14
 have hs := masses_any a _ (hA.below hB (Nat.le_refl _))
 have hE : Hid (∀ W v,W.ownsRow w.heap.size 129 8 v (itemsOf a).length ((itemsOf a).flatMap itL) → FillI W v → Below w.heap.size w W → ItemsEnd a w (.returned (.tuple #[v,.int .i64 0])) W) := fun W v hv hf hW => ⟨⟨_,by rw [h],.inr ⟨h,hv,hf⟩⟩,hW⟩
 unfold MassEnd at hs
 unfold paV at hs ⊢
 rw [h] at hs
 have hs' : Hid (Calls Tryz.prog 20 #[.agg (paC a)] (w.alloc (.cells (paC a) 27)) fun e w' => ∃ v,e = .returned (.tuple #[v,.int .i64 0]) ∧ w'.ownsRow (w.alloc (.cells (paC a) 27)).heap.size 53 6 v (num a.t) ((mss a).flatMap msL) ∧ Below (w.alloc (.cells (paC a) 27)).heap.size (w.alloc (.cells (paC a) 27)) w') := by
  refine hs.mono ?_
  rintro e w' ⟨⟨v,rfl,hv⟩,hb⟩
  refine ⟨v,rfl,?_,hb⟩
  rcases hv with ⟨h1,_⟩ | ⟨_,h1⟩
  ·exact absurd rfl h1
  ·exact h1
 clear hs h
 have hsz1 : Hid ((w.alloc (.cells (paC a) 27)).heap.size = w.heap.size + 1) := World.size_alloc _ _
 generalize hw1 : w.alloc (.cells (paC a) 27) = w1 at *
 refine (callsIn_wide (n := 0)).1 ?_
 refine callsIn_of_wp_marks Tryz.func99 rfl trivial ?_ rfl
 simp only [Tryz.ntmps99,List.size_toArray,List.length_cons,List.length_nil,Nat.reduceAdd,Nat.reduceSub,Array.replicate_succ,Array.replicate_zero,List.push_toArray,List.append_toArray,List.nil_append,List.cons_append]
 refine wpIn_wide.2 ?_
 go_wp2_with (first | (refine wpList_load_row rfl 27 _ rfl w.heap.size rfl 27 _ (0,0) _ hP.row Tryz.underlying27 rfl (info34 a) ?_) | (go_at_call 20; refine hs'.out.mono ?_; rintro e w2 ⟨v,rfl,hown,hb2⟩; obtain ⟨av,cv,rfl⟩ := Hy.row_val hown; have hP2 := hP.below hb2 hP.lt; have c16 : w2.cell? ⟨w.heap.size,16,none⟩ = some (.int .i64 a.p.p14) := hP2.cell rfl; have hB2 : Below w.heap.size w w2 := hB.trans (hb2.mono hB.size); have hrec := rec_of_row msL_len (mss_len a).symm hown; have hown0 := hown))
 rename_i K hK
 refine items_tail (ItemsEnd a w) K hK 6 "item.go:35" a w.heap.size _ _ _ w w2 (by rw [hbl.out,mss_len]) hB2 hP2 (Nat.le_refl _) (by rw [hbl.out]; exact hrec) (fun g0 o0 e => rowlt hown0 e) (htb.below hB2) hG hE.out
theorem items_B (a : Pa) (w : World) (hA : PaAt w a) (htb : Hy.Tab w) (h : chkI a = 0) (h14 : 2 ≤ a.p.p14) (hn0 : num a.t = 0) : Calls Tryz.prog 99 #[paV a] w (ItemsEnd a w) := by
 have hB := (Below.refl w.heap.size w).alloc (Nat.le_refl _) (Obj.cells (paC a) 27)
 have hP := PB.new w a
 have hG := good_of h
 have hbl : Hid (bodyL a = mss a) := if_neg (fun h => by have := h.2.1; rw [mss_len] at this; omega)
 have q1 : decide (2 ≤ a.p.p14) = true := decide_eq_true h14
 have q2 : decide (0 < num a.t) = false := decide_eq_false (by omega)
 clear hn0
 have hs := masses_any a _ (hA.below hB (Nat.le_refl _))
 have hE : Hid (∀ W v,W.ownsRow w.heap.size 129 8 v (itemsOf a).length ((itemsOf a).flatMap itL) → FillI W v → Below w.heap.size w W → ItemsEnd a w (.returned (.tuple #[v,.int .i64 0])) W) := fun W v hv hf hW => ⟨⟨_,by rw [h],.inr ⟨h,hv,hf⟩⟩,hW⟩
 unfold MassEnd at hs
 unfold paV at hs ⊢
 rw [h] at hs
 have hs' : Hid (Calls Tryz.prog 20 #[.agg (paC a)] (w.alloc (.cells (paC a) 27)) fun e w' => ∃ v,e = .returned (.tuple #[v,.int .i64 0]) ∧ w'.ownsRow (w.alloc (.cells (paC a) 27)).heap.size 53 6 v (num a.t) ((mss a).flatMap msL) ∧ Below (w.alloc (.cells (paC a) 27)).heap.size (w.alloc (.cells (paC a) 27)) w') := by
  refine hs.mono ?_
  rintro e w' ⟨⟨v,rfl,hv⟩,hb⟩
  refine ⟨v,rfl,?_,hb⟩
  rcases hv with ⟨h1,_⟩ | ⟨_,h1⟩
  ·exact absurd rfl h1
  ·exact h1
 clear hs h
 have hsz1 : Hid ((w.alloc (.cells (paC a) 27)).heap.size = w.heap.size + 1) := World.size_alloc _ _
 generalize hw1 : w.alloc (.cells (paC a) 27) = w1 at *
 refine (callsIn_wide (n := 0)).1 ?_
 refine callsIn_of_wp_marks Tryz.func99 rfl trivial ?_ rfl
 simp only [Tryz.ntmps99,List.size_toArray,List.length_cons,List.length_nil,Nat.reduceAdd,Nat.reduceSub,Array.replicate_succ,Array.replicate_zero,List.push_toArray,List.append_toArray,List.nil_append,List.cons_append]
 refine wpIn_wide.2 ?_
 go_wp2_with (first | (refine wpList_load_row rfl 27 _ rfl w.heap.size rfl 27 _ (0,0) _ hP.row Tryz.underlying27 rfl (info34 a) ?_) | (go_at_call 20; refine hs'.out.mono ?_; rintro e w2 ⟨v,rfl,hown,hb2⟩; obtain ⟨av,cv,rfl⟩ := Hy.row_val hown; have hP2 := hP.below hb2 hP.lt; have c16 : w2.cell? ⟨w.heap.size,16,none⟩ = some (.int .i64 a.p.p14) := hP2.cell rfl; have hB2 : Below w.heap.size w w2 := hB.trans (hb2.mono hB.size); have hrec := rec_of_row msL_len (mss_len a).symm hown; have hown0 := hown))
 rename_i K hK
 refine items_tail (ItemsEnd a w) K hK 6 "item.go:35" a w.heap.size _ _ _ w w2 (by rw [hbl.out,mss_len]) hB2 hP2 (Nat.le_refl _) (by rw [hbl.out]; exact hrec) (fun g0 o0 e => rowlt hown0 e) (htb.below hB2) hG hE.out
theorem items_C (a : Pa) (w : World) (hA : PaAt w a) (htb : Hy.Tab w) (h : chkI a = 0) (h14 : 2 ≤ a.p.p14) (hn0 : 0 < num a.t) (hk : (mAt (mss a) 0).k ≠ 1) : Calls Tryz.prog 99 #[paV a] w (ItemsEnd a w) := by
 have hB := (Below.refl w.heap.size w).alloc (Nat.le_refl _) (Obj.cells (paC a) 27)
 have hP := PB.new w a
 have hG := good_of h
 have hbl : Hid (bodyL a = mss a) := if_neg (fun h => hk h.2.2)
 have q1 : decide (2 ≤ a.p.p14) = true := decide_eq_true h14
 have q2 : decide (0 < num a.t) = true := decide_eq_true hn0
 have q3 : ((mAt (mss a) 0).k == 1) = false := by simpa using hk
 have hs := masses_any a _ (hA.below hB (Nat.le_refl _))
 have hE : Hid (∀ W v,W.ownsRow w.heap.size 129 8 v (itemsOf a).length ((itemsOf a).flatMap itL) → FillI W v → Below w.heap.size w W → ItemsEnd a w (.returned (.tuple #[v,.int .i64 0])) W) := fun W v hv hf hW => ⟨⟨_,by rw [h],.inr ⟨h,hv,hf⟩⟩,hW⟩
 unfold MassEnd at hs
 unfold paV at hs ⊢
 rw [h] at hs
 have hs' : Hid (Calls Tryz.prog 20 #[.agg (paC a)] (w.alloc (.cells (paC a) 27)) fun e w' => ∃ v,e = .returned (.tuple #[v,.int .i64 0]) ∧ w'.ownsRow (w.alloc (.cells (paC a) 27)).heap.size 53 6 v (num a.t) ((mss a).flatMap msL) ∧ Below (w.alloc (.cells (paC a) 27)).heap.size (w.alloc (.cells (paC a) 27)) w') := by
  refine hs.mono ?_
  rintro e w' ⟨⟨v,rfl,hv⟩,hb⟩
  refine ⟨v,rfl,?_,hb⟩
  rcases hv with ⟨h1,_⟩ | ⟨_,h1⟩
  ·exact absurd rfl h1
  ·exact h1
 clear hs h
 have hsz1 : Hid ((w.alloc (.cells (paC a) 27)).heap.size = w.heap.size + 1) := World.size_alloc _ _
 generalize hw1 : w.alloc (.cells (paC a) 27) = w1 at *
 refine (callsIn_wide (n := 0)).1 ?_
 refine callsIn_of_wp_marks Tryz.func99 rfl trivial ?_ rfl
 simp only [Tryz.ntmps99,List.size_toArray,List.length_cons,List.length_nil,Nat.reduceAdd,Nat.reduceSub,Array.replicate_succ,Array.replicate_zero,List.push_toArray,List.append_toArray,List.nil_append,List.cons_append]
 refine wpIn_wide.2 ?_
 go_wp2_with (first | (refine wpList_load_row rfl 27 _ rfl w.heap.size rfl 27 _ (0,0) _ hP.row Tryz.underlying27 rfl (info34 a) ?_) | (go_at_call 20; refine hs'.out.mono ?_; rintro e w2 ⟨v,rfl,hown,hb2⟩; obtain ⟨av,cv,rfl⟩ := Hy.row_val hown; have hP2 := hP.below hb2 hP.lt; have c16 : w2.cell? ⟨w.heap.size,16,none⟩ = some (.int .i64 a.p.p14) := hP2.cell rfl; have hB2 : Below w.heap.size w w2 := hB.trans (hb2.mono hB.size); have hrec := rec_of_row msL_len (mss_len a).symm hown; have hown0 := hown; obtain ⟨g,o,rfl,hlt,hc⟩ := rec_some hrec (by rw [mss_len]; exact hn0); have hcap := hrec.le _ _ _ rfl; have hc2 : w2.cell? ⟨g,o + 2,none⟩ = some (.int .i64 (mAt (mss a) 0).k) := (by have := hc 0 (by rw [mss_len]; exact hn0) 2 _ rfl; rw [Nat.zero_mul,Nat.add_zero] at this; rw [this,mAt_is (by rw [mss_len]; exact hn0)])))
 rename_i K hK
 refine items_tail (ItemsEnd a w) K hK 6 "item.go:35" a w.heap.size _ _ _ w w2 (by rw [hbl.out,mss_len]) hB2 hP2 (Nat.le_refl _) (by rw [hbl.out]; exact hrec) (fun g0 o0 e => rowlt hown0 e) (htb.below hB2) hG hE.out
theorem items_D (a : Pa) (w : World) (hA : PaAt w a) (htb : Hy.Tab w) (h : chkI a = 0) (h14 : 2 ≤ a.p.p14) (hn0 : 0 < num a.t) (hk : (mAt (mss a) 0).k = 1) : Calls Tryz.prog 99 #[paV a] w (ItemsEnd a w) := by
 have hB := (Below.refl w.heap.size w).alloc (Nat.le_refl _) (Obj.cells (paC a) 27)
 have hP := PB.new w a
 have hG := good_of h
 have hbl : Hid (bodyL a = (mss a).drop 1) := if_pos ⟨h14,by rw [mss_len]; exact hn0,hk⟩
 have q1 : decide (2 ≤ a.p.p14) = true := decide_eq_true h14
 have q2 : decide (0 < num a.t) = true := decide_eq_true hn0
 have q3 : ((mAt (mss a) 0).k == 1) = true := by rw [hk]; rfl
 have hlen : Hid (0 < (mss a).length) := by show _ < _; rw [mss_len]; exact hn0
 have hs := masses_any a _ (hA.below hB (Nat.le_refl _))
 have hE : Hid (∀ W v,W.ownsRow w.heap.size 129 8 v (itemsOf a).length ((itemsOf a).flatMap itL) → FillI W v → Below w.heap.size w W → ItemsEnd a w (.returned (.tuple #[v,.int .i64 0])) W) := fun W v hv hf hW => ⟨⟨_,by rw [h],.inr ⟨h,hv,hf⟩⟩,hW⟩
 unfold MassEnd at hs
 unfold paV at hs ⊢
 rw [h] at hs
 have hs' : Hid (Calls Tryz.prog 20 #[.agg (paC a)] (w.alloc (.cells (paC a) 27)) fun e w' => ∃ v,e = .returned (.tuple #[v,.int .i64 0]) ∧ w'.ownsRow (w.alloc (.cells (paC a) 27)).heap.size 53 6 v (num a.t) ((mss a).flatMap msL) ∧ Below (w.alloc (.cells (paC a) 27)).heap.size (w.alloc (.cells (paC a) 27)) w') := by
  refine hs.mono ?_
  rintro e w' ⟨⟨v,rfl,hv⟩,hb⟩
  refine ⟨v,rfl,?_,hb⟩
  rcases hv with ⟨h1,_⟩ | ⟨_,h1⟩
  ·exact absurd rfl h1
  ·exact h1
 clear hs h
 have hsz1 : Hid ((w.alloc (.cells (paC a) 27)).heap.size = w.heap.size + 1) := World.size_alloc _ _
 generalize hw1 : w.alloc (.cells (paC a) 27) = w1 at *
 refine (callsIn_wide (n := 0)).1 ?_
 refine callsIn_of_wp_marks Tryz.func99 rfl trivial ?_ rfl
 simp only [Tryz.ntmps99,List.size_toArray,List.length_cons,List.length_nil,Nat.reduceAdd,Nat.reduceSub,Array.replicate_succ,Array.replicate_zero,List.push_toArray,List.append_toArray,List.nil_append,List.cons_append]
 refine wpIn_wide.2 ?_
 go_wp2_with (first | (refine wpList_load_row rfl 27 _ rfl w.heap.size rfl 27 _ (0,0) _ hP.row Tryz.underlying27 rfl (info34 a) ?_) | (go_at_call 20; refine hs'.out.mono ?_; rintro e w2 ⟨v,rfl,hown,hb2⟩; obtain ⟨av,cv,rfl⟩ := Hy.row_val hown; have hP2 := hP.below hb2 hP.lt; have c16 : w2.cell? ⟨w.heap.size,16,none⟩ = some (.int .i64 a.p.p14) := hP2.cell rfl; have hB2 : Below w.heap.size w w2 := hB.trans (hb2.mono hB.size); have hrec := rec_of_row msL_len (mss_len a).symm hown; have hown0 := hown; obtain ⟨g,o,rfl,hlt,hc⟩ := rec_some hrec (by rw [mss_len]; exact hn0); have hcap := hrec.le _ _ _ rfl; have hc2 : w2.cell? ⟨g,o + 2,none⟩ = some (.int .i64 (mAt (mss a) 0).k) := (by have := hc 0 (by rw [mss_len]; exact hn0) 2 _ rfl; rw [Nat.zero_mul,Nat.add_zero] at this; rw [this,mAt_is (by rw [mss_len]; exact hn0)]); obtain ⟨a',hsl,hdr,hag⟩ := drop_both hrec hlen.out))
 rename_i K hK
 refine items_tail (ItemsEnd a w) K hK 6 "item.go:35" a w.heap.size _ _ _ w w2 (by rw [hbl.out,List.length_drop,mss_len]) hB2 hP2 (Nat.le_refl _) (by rw [hbl.out]; exact hdr) (fun g0 o0 e => by rw [e] at hag; obtain ⟨o',h⟩ := hag; cases h; exact hlt) (htb.below hB2) hG hE.out

theorem items_all (a : Pa) (w : World) (hA : PaAt w a) (htb : Hy.Tab w) : Calls Tryz.prog 99 #[paV a] w (ItemsEnd a w) := by
 by_cases h : chkI a = 0
 ·by_cases h14 : 2 ≤ a.p.p14
  ·by_cases hn : num a.t = 0
   ·exact items_B a w hA htb h h14 hn
   ·by_cases hk : (mAt (mss a) 0).k = 1
    ·exact items_D a w hA htb h h14 (by omega) hk
    ·exact items_C a w hA htb h h14 (by omega) hk
  ·exact items_A a w hA htb h h14
 ·exact items_no a w hA h
end Go.Proofs.YtbdpghjegachaaaGreatDoor
