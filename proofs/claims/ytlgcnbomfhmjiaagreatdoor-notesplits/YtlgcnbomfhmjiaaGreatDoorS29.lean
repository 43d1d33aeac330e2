/-
  What is proved here: Items, from where it gathers what the iterator hands on.
  What is proved here: Items, from where its body is made.
  What is proved here: what Items of item answers of any paragraph.
  What is proved here: what SameLines and lines of the law answer.
  What is proved here: tables, the paragraphs of their cells, how wide words and columns are (no program is named).
  What is proved here: a cell's items may be broken, its lines are its text (no program is named).
-/
import Derived.Test.YtlgcnbomfhmjiaaGreatDoorS28
import Derived.Test.YtlgcnbomfhmjiaaGreatDoorS23
import Derived.Test.YtlgcnbomfhmjiaaGreatDoorS11
import Derived.Test.YtlgcnbomfhmjiaaGreatDoorS19
import Derived.Test.YtlgcnbomfhmjiaaGreatDoorS5
import Derived.Test.YtlgcnbomfhmjiaaGreatDoorS1
import Derived.Test.YtlgcnbomfhmjiaaGreatDoorS9
namespace Go.Proofs.YtlgcnbomfhmjiaaGreatDoor
open Go.RowKit Go.Shelf
set_option maxRecDepth 100000
set_option maxHeartbeats 4000000
attribute [local go_sem] Oper.semAt_some wide_fn wide_depth

def rest9b : Code := (Code.region 9 #[⟨some 7,.alloc 68,0,"item.go:39",#[],none⟩] false).seq (((Code.region 10 #[⟨some 48,.load 133 (.tmp 6),133,"item.go:40",#[],none⟩,⟨some 49,.call ⟨.value (.func 85),#[.tmp 48],#[133]⟩,135,"item.go:40",#[⟨0,.data⟩],none⟩] false).seq (Code.block 0 (Code.rangeFunc (Operand.tmp 49) #[50] (Code.region 11 #[⟨some 8,.alloc 91,0,"item.go:40",#[],none⟩,⟨none,.store 91 (.tmp 8) (.tmp 50),0,"item.go:40",#[⟨0,.data⟩,⟨0,.phase⟩],none⟩] false) (Code.block 1 (Code.region 12 #[⟨some 51,.load 68 (.tmp 7),68,"item.go:41",#[],none⟩,⟨some 52,.load 91 (.tmp 8),91,"item.go:41",#[],none⟩,⟨some 53,.buildSlice 68 1 #[(0,.tmp 52)],68,"item.go:41",#[⟨1,.data⟩],none⟩,⟨some 54,.call ⟨.builtin .append,#[.tmp 51,.tmp 53],#[68,68]⟩,68,"item.go:41",#[⟨0,.data⟩,⟨2,.data⟩],none⟩,⟨none,.store 68 (.tmp 7) (.tmp 54),0,"item.go:41",#[⟨3,.data⟩,⟨3,.chain⟩,⟨0,.phase⟩,⟨1,.phase⟩,⟨2,.phase⟩,⟨3,.phase⟩],none⟩] false))))).seq ((Code.region 13 #[⟨some 55,.load 68 (.tmp 7),68,"item.go:43",#[],none⟩,⟨some 2,.assign (.tmp 55),68,"item.go:43",#[⟨0,.data⟩,⟨0,.phase⟩],none⟩,⟨some 3,.assign (.const (.int .i64 0)),24,"item.go:43",#[⟨1,.chain⟩,⟨0,.phase⟩,⟨1,.phase⟩],none⟩] false).seq Code.ret))
def rest9 : Code := ((Code.region 7 #[⟨some 42,.fieldAddr 36 (.tmp 1) 2,0,"item.go:36",#[],none⟩,⟨some 43,.fieldAddr 33 (.tmp 42) 12,0,"item.go:36",#[⟨0,.data⟩],none⟩,⟨some 44,.load 3 (.tmp 43),3,"item.go:36",#[⟨1,.data⟩],none⟩,⟨some 45,.binOp .eql 3 (.tmp 44) (.const (.int .i64 1)) 3,4,"item.go:36",#[⟨2,.data⟩],none⟩] false).seq (Code.cond (Operand.tmp 45) (Code.region 8 #[⟨some 46,.load 133 (.tmp 6),133,"item.go:37",#[],none⟩,⟨some 47,.call ⟨.value (.func 84),#[.tmp 46],#[133]⟩,0,"item.go:37",#[⟨0,.data⟩],none⟩] false) Code.skip)).seq rest9b

theorem steady_rowF {w₁ : World} {own : Nat → Prop} {B : Nat} (hB : B < w₁.heap.size) (base : Nat) (t : TypeId) (k : Nat → Nat) (xs : Nat → List Value) :
  Steady (fun i X W => Base w₁ own X W ∧ ∃ v,W.heap[B]? = some (.cells #[v] t) ∧ W.ownsRow base 91 8 v (k i) (xs i) ∧ FillI W v ∧ ∀ g,v.ownBlock = some g → ¬ X g) :=
 fun _ X X' W W' hs ht hx => by
  obtain ⟨hb,v,hv,hr,hf,hg⟩ := hs
  refine ⟨hb.step ht hx,v,(hb.keep ht hB).trans hv,ownsRow_turns hr ht hg,hf.turns ht (fun g h => ⟨(hr.lt g h).2,hg g h⟩),fun g h h' => ?_⟩
  have := (hr.lt g h).2
  exact (hx g h').elim (hg g h) (fun h => by omega)
theorem FillI.set {W : World} {v : Value} (h : FillI W v) {B : Nat} (x : Value) (hx : v.ownBlock ≠ some B) : FillI (W.setCell ⟨B,0,none⟩ x) v := fun g n cap cur e hg => by
 rw [Below.heap_setCell _ _ _ g (fun e' => hx (by rw [e,e']; rfl))] at hg
 exact h g n cap cur e hg
theorem rowI_succ (l : List It) {j : Nat} (h : j < l.length) : (l.take (j + 1)).flatMap itL = (l.take j).flatMap itL ++ itL (itAt l j) := by
 rw [List.take_add_one,List.flatMap_append,itAt_is h,List.getElem?_eq_getElem h]
 simp

theorem items_b (R : Ending → World → Prop) (b : Bod) (Bx : Nat) (w W : World) {v0 v1 v2 v3 v4 v5 v7 v8 v9 xa xb xd xe xg xi xj xl xm xn xo xp xq xr xu xv xx xz xA xB xC xD xE xF xG xH xI xJ xK xL xM xN xO xP xQ xR xS xT xU xV xW xX xY xZ ya yb : Value} (hb : Below w.heap.size w W) (hbx : W.heap[Bx]? = some (.cells (bodC b) 133 (0,0))) (hA : BodAt W b)
  (hE : ∀ W' v,W'.ownsRow w.heap.size 91 8 v (itsL b.t b.l b.pd).length ((itsL b.t b.l b.pd).flatMap itL) → FillI W' v → Below w.heap.size w W' → R (.returned (.tuple #[v,.int .i64 0])) W') :
  rest9b.wp Tryz.prog (bodyPostM Fence.wide 0 Tryz.prog Tryz.f53 R) (fr9 v0 v1 v2 v3 v4 v5 (.pointer (some ⟨Bx,0,none⟩)) v7 v8 v9 xa xb xd xe xg xi xj xl xm xn xo xp xq xr xu xv xx xz xA xB xC xD xE xF xG xH xI xJ xK xL xM xN xO xP xQ xR xS xT xU xV xW xX xY xZ ya yb) W := by
 unfold rest9b fr9
 have hbx2 : Hid ((W.alloc (.cells #[.slice none 0 0] 68)).heap[Bx]? = some (.cells (bodC b) 133 (0,0))) := (Below.heap_alloc _ _ _ (Array.getElem?_eq_some_iff.1 hbx).1).trans hbx
 have hit : Hid (Calls Tryz.prog 85 #[.agg (bodC b)] (W.alloc (.cells #[.slice none 0 0] 68)) fun e W' => e = .returned (.func (.func 129) #[] #[.pointer (some ⟨W.heap.size + 1,0,none⟩)]) ∧ W' = (W.alloc (.cells #[.slice none 0 0] 68)).alloc (.cells (bodC b) 133)) := by
  have := items_any b (W.alloc (.cells #[.slice none 0 0] 68))
  rw [World.size_alloc] at this
  exact this
 have hEh : Hid (∀ W' v,W'.ownsRow w.heap.size 91 8 v (itsL b.t b.l b.pd).length ((itsL b.t b.l b.pd).flatMap itL) → FillI W' v → Below w.heap.size w W' → R (.returned (.tuple #[v,.int .i64 0])) W') := hE
 obtain ⟨w1,hw1⟩ : ∃ w1,(W.alloc (.cells #[.slice none 0 0] 68)).alloc (.cells (bodC b) 133) = w1 := ⟨_,rfl⟩
 have hs1 : w1.heap.size = W.heap.size + 2 := by rw [← hw1]; simp
 have hT1 : Turns Noth W w1 := by rw [← hw1]; exact (Turns.alloc _ _ _).trans (Turns.alloc _ _ _)
 have hB1 : w1.heap[W.heap.size]? = some (.cells #[.slice none 0 0] 68) := by rw [← hw1]; exact (Below.heap_alloc _ _ _ (by simp)).trans (World.alloc_heap_new W _)
 have hBo : BoX w1 (W.heap.size + 1) b := ⟨by rw [← hw1]; have := World.alloc_heap_new (W.alloc (.cells #[.slice none 0 0] 68)) (.cells (bodC b) 133); rwa [World.size_alloc] at this⟩
 have hWb : Below W.heap.size W w1 := by rw [← hw1]; exact two_below W _ _
 have hA1 : BodAt w1 b := hA.below hWb (Nat.le_refl _)
 have hrd : Hid (∀ W',Turns (fun k => k = W.heap.size) w1 W' → RdI (W.heap.size + 1) b W') := fun W' ht => by
  have hlt : ∀ {v : Value} {α : Type} {k : Nat} {f : α → List Value} {rs : List α},RecAt k f W v rs → RecAt k f w1 v rs → RecAt k f W' v rs := fun {v α k f rs} h0 h1 => by
   have hle := h1.le
   obtain ⟨aa,cc,rfl,h2⟩ := h0.ex
   refine ⟨⟨aa,cc,rfl,?_⟩,hle⟩
   rcases h2 with h2 | ⟨b',o',rfl,hb',hc⟩
   ·exact .inl h2
   ·refine .inr ⟨b',o',rfl,?_,fun i hi j u hu => ?_⟩
    ·have := hWb.size; have := ht.size; omega
    ·rw [World.cell?_of_block (ht.block b' (by have := hWb.size; omega) (by omega)),hWb.cell hb']
     exact hc i hi j u hu
  exact ⟨⟨(ht.block _ (Array.getElem?_eq_some_iff.1 hBo.row).1 (by omega)).trans hBo.row⟩,⟨hlt hA.ms hA1.ms,hlt hA.pv hA1.pv,hA.len,hA.few,hA.fit⟩⟩
 have hfew := its_few b.t b.l b.pd
 have hl4 := hA.few
 obtain ⟨i0,hi,hz0,hz1,hz2⟩ := info_parts info51z
 have hw1' : Hid ((W.alloc (.cells #[.slice none 0 0] 68)).alloc (.cells (bodC b) 133) = w1) := hw1
 clear hw1 hBo hA1 hA hE hbx
 go_wp2_with (first | (refine wpList_load_row rfl 133 _ rfl Bx rfl 133 _ (0,0) _ hbx2.out Tryz.underlying133 rfl (by show _ = some 3; kernel_rfl) ?_) | (go_at_call 85; refine hit.out.mono ?_; rintro e w' ⟨rfl,hww⟩; rw [hw1'.out] at hww; subst w'))
 refine (wpIn_wide (n := 0)).1 ?_
 refine wp_range (gf := 129) (lb := #[.pointer (some ⟨W.heap.size + 1,0,none⟩)]) rfl (enters_of Tryz.func129 (by kernel_rfl) rfl) (items1_gives (W.heap.size + 1) b) (fun _ => rfl)
  (fun j X W' => Base w1 (fun k => k = W.heap.size) X W' ∧ ∃ v,W'.heap[W.heap.size]? = some (.cells #[v] 68) ∧ W'.ownsRow w1.heap.size 91 8 v j (((itsL b.t b.l b.pd).take j).flatMap itL) ∧ FillI W' v ∧ ∀ g,v.ownBlock = some g → ¬ X g)
  (fun _ _ _ _ => False)
  (fun a' j X W' => (Base w1 (fun k => k = W.heap.size) X W' ∧ ∃ v,W'.heap[W.heap.size]? = some (.cells #[v] 68) ∧ W'.ownsRow w1.heap.size 91 8 v j (((itsL b.t b.l b.pd).take j).flatMap itL) ∧ FillI W' v ∧ ∀ g,v.ownBlock = some g → ¬ X g) ∧
   ∃ B,¬ X B ∧ W'.heap[B]? = some (.cells (itC (itAt (itsL b.t b.l b.pd) j)) 91) ∧
   a' = { tmps := #[v0,v1,v2,v3,v4,v5,.pointer (some ⟨Bx,0,none⟩),.pointer (some ⟨W.heap.size,0,none⟩),.pointer (some ⟨B,0,none⟩),v9,xa,xb,xd,xe,xg,xi,xj,xl,xm,xn,xo,xp,xq,xr,xu,xv,xx,xz,xA,xB,xC,xD,xE,xF,xG,xH,xI,xJ,xK,xL,xM,xN,xO,xP,xQ,xR,xS,xT,.agg (bodC b),.func (.func 129) #[] #[.pointer (some ⟨W.heap.size + 1,0,none⟩)],.agg (itC (itAt (itsL b.t b.l b.pd) j)),xX,xY,xZ,ya,yb],defers := [] })
  (steady_rowF (by omega) _ _ _ _) (fun _ => steady_never) (fun a' => (steady_rowF (by omega) _ _ _ _).and (steady_round a' _ _)) ?hR ⟨Base.start _ _,_,hB1,World.ownsRow_nil _ _ _ _,FillI.nil _,fun g hg => by cases hg⟩ ?assign ?body ?done ?stop
 case hR =>
  rintro i X W' ⟨hb',_⟩
  exact hrd.out W' hb'.turns
 case assign =>
  rintro l j X W' K hj ⟨hb',v,hv,hr,hf,hg⟩ hK
  unfold encI
  have hsz := hb'.turns.size
  have hnx : Hid ((Base w1 (fun k => k = W.heap.size) X (W'.alloc (.cells (itC (itAt (itsL b.t b.l b.pd) j)) 91)) ∧ ∃ v,(W'.alloc (.cells (itC (itAt (itsL b.t b.l b.pd) j)) 91)).heap[W.heap.size]? = some (.cells #[v] 68) ∧ (W'.alloc (.cells (itC (itAt (itsL b.t b.l b.pd) j)) 91)).ownsRow w1.heap.size 91 8 v j (((itsL b.t b.l b.pd).take j).flatMap itL) ∧ FillI (W'.alloc (.cells (itC (itAt (itsL b.t b.l b.pd) j)) 91)) v ∧ ∀ g,v.ownBlock = some g → ¬ X g) ∧ ¬ X W'.heap.size ∧ (W'.alloc (.cells (itC (itAt (itsL b.t b.l b.pd) j)) 91)).heap[W'.heap.size]? = some (.cells (itC (itAt (itsL b.t b.l b.pd) j)) 91)) :=
   ⟨⟨hb'.alloc _,v,(Below.heap_alloc _ _ _ (by omega)).trans hv,hr.alloc _,hf.turns (Turns.alloc Noth _ _) (fun g h => ⟨(hr.lt g h).2,fun h => h⟩),hg⟩,hb'.fresh,World.alloc_heap_new _ _⟩
  have hK' : Hid (∀ a',a' = ({ tmps := #[v0,v1,v2,v3,v4,v5,.pointer (some ⟨Bx,0,none⟩),.pointer (some ⟨W.heap.size,0,none⟩),.pointer (some ⟨W'.heap.size,0,none⟩),v9,xa,xb,xd,xe,xg,xi,xj,xl,xm,xn,xo,xp,xq,xr,xu,xv,xx,xz,xA,xB,xC,xD,xE,xF,xG,xH,xI,xJ,xK,xL,xM,xN,xO,xP,xQ,xR,xS,xT,.agg (bodC b),.func (.func 129) #[] #[.pointer (some ⟨W.heap.size + 1,0,none⟩)],.agg (itC (itAt (itsL b.t b.l b.pd) j)),xX,xY,xZ,ya,yb],defers := [] } : Act) → K a' (W'.alloc (.cells (itC (itAt (itsL b.t b.l b.pd) j)) 91))) := fun a' e => hK _ _ (Keeps.alloc _ _ _) ⟨hnx.out.1,W'.heap.size,hnx.out.2.1,hnx.out.2.2,e⟩
  clear hnx hK hf hr hv hrd
  generalize itAt (itsL b.t b.l b.pd) j = x at *
  obtain ⟨xk,xf,xt,xw,xs,xh,xc,xy⟩ := x
  unfold itC at hK' ⊢
  gi_wp2
  exact hK'.out _ rfl
 case body =>
  rintro l j X a' W' hj ⟨⟨hb',v,hv,hrow,hfl,hg⟩,B,hB,hr,rfl⟩
  have hc0 : W'.cell? ⟨W.heap.size,0,none⟩ = some v := by rw [Lib.cell_of_heap hv]; rfl
  have hbs := hb'.turns.size
  have hjn : j < (itsL b.t b.l b.pd).length := hj
  have hsucc := rowI_succ (itsL b.t b.l b.pd) hjn
  have hkds : KdL (((itsL b.t b.l b.pd).take j).flatMap itL) := kd_its _
  have hkx := kd_item (itAt (itsL b.t b.l b.pd) j)
  have hxl : ((((itsL b.t b.l b.pd).take j).flatMap itL)).length = j * 8 := by rw [fm_len itL_len,List.length_take]; congr 1; omega
  have hstep : Hid (∀ v' w2,w2.ownsRow w1.heap.size 91 8 v' (j + 1) (((itsL b.t b.l b.pd).take j).flatMap itL ++ itL (itAt (itsL b.t b.l b.pd) j)) → (W'.alloc (.cells (itC (itAt (itsL b.t b.l b.pd) j)) 91)).grownBy w2 v.ownBlock → (v'.ownBlock = v.ownBlock ∨ ∀ g,v'.ownBlock = some g → (W'.alloc (.cells (itC (itAt (itsL b.t b.l b.pd) j)) 91)).heap.size ≤ g) → FillI w2 v' → (∃ g' cap',v' = .slice g' (j + 1) cap') ∧ w2.cell? ⟨W.heap.size,0,none⟩ = some v ∧ w2.frozen? ⟨W.heap.size,0,none⟩ = false ∧ leftBy (fun j X W' => Base w1 (fun k => k = W.heap.size) X W' ∧ ∃ v,W'.heap[W.heap.size]? = some (.cells #[v] 68) ∧ W'.ownsRow w1.heap.size 91 8 v j (((itsL b.t b.l b.pd).take j).flatMap itL) ∧ FillI W' v ∧ ∀ g,v.ownBlock = some g → ¬ X g) (fun _ _ _ _ => False) j X W' .normal { tmps := #[],defers := [] } (w2.setCell ⟨W.heap.size,0,none⟩ v')) := fun v' w2 hown' hgrow hwh hfl' => by
   obtain ⟨hv1,q1,q2,q3,q4,q5⟩ := append_step hb' (by omega) hv (by decide) hrow hg hown' hgrow hwh
   obtain ⟨g',cap',hv'⟩ := Hy.row_val hown'
   refine ⟨⟨g',cap',hv'⟩,hv1.cell,hv1.frozen,q1,q2,_,q3,by rw [hsucc]; exact q4,hfl'.set _ ?_,q5⟩
   exact (hv1.not_row (by decide) hown').symm
  have hrowa : Hid ((W'.alloc (.cells (itC (itAt (itsL b.t b.l b.pd) j)) 91)).ownsRow w1.heap.size 91 8 v j (((itsL b.t b.l b.pd).take j).flatMap itL)) := hrow.alloc _
  have hfla : Hid (FillI (W'.alloc (.cells (itC (itAt (itsL b.t b.l b.pd) j)) 91)) v) := hfl.turns (Turns.alloc Noth _ _) (fun g h => ⟨(hrow.lt g h).2,fun h => h⟩)
  have hnew : Hid (∀ q u,(itL (itAt (itsL b.t b.l b.pd) j))[q]? = some u → (W'.alloc (.cells (itC (itAt (itsL b.t b.l b.pd) j)) 91)).cell? ((⟨W'.heap.size,0,none⟩ : Addr).add q) = some u) := cells_new W' (itL (itAt (itsL b.t b.l b.pd) j)) 91
  have hj8 : j + 1 ≤ 8193 := by omega
  obtain ⟨rowj,hrowj⟩ : ∃ r,((itsL b.t b.l b.pd).take j).flatMap itL = r := ⟨_,rfl⟩
  rw [hrowj] at hkds hrowa
  have hstep2 := hstep
  clear hrow hfl hv hsucc hxl hrd hg hb'
  have hr0 : W'.heap[B]? = some (.cells (itC (itAt (itsL b.t b.l b.pd) j)) 91) := hr
  generalize itAt (itsL b.t b.l b.pd) j = x at *
  obtain ⟨xk,xf,xt,xw,xs,xh,xc,xy⟩ := x
  have r0 : W'.cell? ⟨B,0,none⟩ = some (.int .i64 xk) := by rw [Lib.cell_of_heap hr]; rfl
  have r1 : W'.cell? ⟨B,1,none⟩ = some (.int .i64 xf) := by rw [Lib.cell_of_heap hr]; rfl
  have r2 : W'.cell? ⟨B,2,none⟩ = some (.int .i64 xt) := by rw [Lib.cell_of_heap hr]; rfl
  have r3 : W'.cell? ⟨B,3,none⟩ = some (.int .i64 xw) := by rw [Lib.cell_of_heap hr]; rfl
  have r4 : W'.cell? ⟨B,4,none⟩ = some (.int .i64 xs) := by rw [Lib.cell_of_heap hr]; rfl
  have r5 : W'.cell? ⟨B,5,none⟩ = some (.int .i64 xh) := by rw [Lib.cell_of_heap hr]; rfl
  have r6 : W'.cell? ⟨B,6,none⟩ = some (.int .i64 xc) := by rw [Lib.cell_of_heap hr]; rfl
  have r7 : W'.cell? ⟨B,7,none⟩ = some (.bool xy) := by rw [Lib.cell_of_heap hr]; rfl
  clear hr0 hr
  unfold itC at *
  clear hs1
  gi_wp2_with (gi_at_builtin; refine wpListIn_append_kinds _ rfl _ _ 68 rfl w1.heap.size i0 Tryz.underlying68 hi hz0 hz1 hz2 v j rowj rfl hrowa.out hkds hfla.out ⟨W'.heap.size,0,none⟩ 1 _ rfl rfl hnew.out (itL_one _) hkx (by unfold maxLen; omega) (by omega) (by simp; omega) ?_; intro v' w2 hown' hgrow hwh hfl'; obtain ⟨⟨g',cap',rfl⟩,hc1,hf1,hlb⟩ := hstep2.out v' w2 (by rw [hrowj]; exact hown') hgrow hwh hfl')
  exact hlb
 case done =>
  rintro D W' hD ⟨hb',v,hv,hrow,hfl,hg⟩ hK
  have hc0 : W'.cell? ⟨W.heap.size,0,none⟩ = some v := by rw [Lib.cell_of_heap hv]; rfl
  rw [List.take_of_length_le (Nat.le_refl _)] at hrow
  have hfin : Hid (∀ o,R (.returned (.tuple #[v,.int .i64 0])) (W'.putObj D o)) := fun o => by
   have ht := Turns.putObj (X := fun k => k = D) W' rfl o
   refine hEh.out _ v (ownsRow_turns (ownsRow_base hrow (by have := hb.size; omega)) ht hg) (hfl.turns ht (fun g h => ⟨(hrow.lt g h).2,hg g h⟩)) ?_
   exact hb.trans ((below_end hT1 hb' (fun k h => by omega) o).mono hb.size)
  have hsz := hb'.turns.size
  clear hrow hfl hrd hEh
  go_wp2_with fail
  refine ⟨by simp,.inl ⟨_,_,rfl,run_takeDeferred hK,?_⟩⟩
  refine ⟨_,results_tmp2 rfl _ _ _,?_⟩
  exact hfin.out _
 case stop =>
  rintro D c i W' _ _ h _
  exact h.elim
end Go.Proofs.YtlgcnbomfhmjiaaGreatDoor

namespace Go.Proofs.YtlgcnbomfhmjiaaGreatDoor
open Go.RowKit Go.Shelf
set_option maxRecDepth 100000
set_option maxHeartbeats 4000000

def ItemsEnd (a : Pa) (w : World) (e : Ending) (w' : World) : Prop :=
 (∃ v,e = .returned (.tuple #[v,.int .i64 (chkI a)]) ∧ ((chkI a ≠ 0 ∧ v = .slice none 0 0) ∨ (chkI a = 0 ∧ w'.ownsRow w.heap.size 91 8 v (itemsOf a).length ((itemsOf a).flatMap itL) ∧ FillI w' v))) ∧ Below w.heap.size w w'

theorem items_a (R : Ending → World → Prop) (a : Pa) (B0 Bx Pb cm : Nat) (am : Option Addr) (w W : World) {v0 v2 v3 v4 v5 v7 v8 v9 xa xb xc xd xe xf xg xh xi xj xk xl xm xn xo xp xq xr xt xu xv xw xx xy xz xA xB xC xD xE xF xG xH xI xJ xK xL xM xN xO xP xQ xR xS xT xU : Value} (hb : Below w.heap.size w W) (hP : PB W B0 a)
  (hbx : W.heap[Bx]? = some (.cells #[.string a.t,.slice am (bodyL a).length cm,.slice (some ⟨Pb,0,none⟩) (bodyL a).length (bodyL a).length] 133 (0,0))) (hbl : Hy.Blk W Pb (bcells (List.replicate (bodyL a).length false)) 4)
  (hms : RecAt 6 msL W (.slice am (bodyL a).length cm) (bodyL a)) (_hne : ∀ g o,am = some ⟨g,o,none⟩ → g ≠ Pb) (_hPb : w.heap.size ≤ Pb) (_hPx : Pb ≠ Bx) (h12 : a.p.p12 ≠ 1) (hG : GoodP a)
  (hE : ∀ W' v,W'.ownsRow w.heap.size 91 8 v (itemsOf a).length ((itemsOf a).flatMap itL) → FillI W' v → Below w.heap.size w W' → R (.returned (.tuple #[v,.int .i64 0])) W') :
  rest9.wp Tryz.prog (bodyPostM Fence.wide 0 Tryz.prog Tryz.f53 R) (fr9 v0 (.pointer (some ⟨B0,0,none⟩)) v2 v3 v4 v5 (.pointer (some ⟨Bx,0,none⟩)) v7 v8 v9 xa xb xc xd xe xf xg xh xi xj xk xl xm xn xo xp xq xr xt xu xv xw xx xy xz xA xB xC xD xE xF xG xH xI xJ xK xL xM xN xO xP xQ xR xS xT xU) W := by
 have c14 : W.cell? ⟨B0,14,none⟩ = some (.int .i64 a.p.p12) := hP.cell rfl
 have hA0 : BodAt W ⟨a.t,.slice am (bodyL a).length cm,.slice (some ⟨Pb,0,none⟩) (bodyL a).length (bodyL a).length,bodyL a,List.replicate (bodyL a).length false⟩ :=
  ⟨hms,bools_of hbl (by simp) (Nat.le_refl _),by simp,bodyL_few hG,bodyL_fit hG⟩
 have hio : Hid (itemsOf a = itsL a.t (bodyL a) (pdOf a)) := rfl
 unfold rest9 fr9
 have e : pdOf a = List.replicate (bodyL a).length false := rfl
 have q1 : (a.p.p12 == 1) = false := by simpa using h12
 have hnx : Hid (∀ (v0 v1 v2 v3 v4 v5 v7 v8 v9 xa xb xc xd xe xf xg xh xi xj xk xl xm xn xo xp xq xr xt xu xv xw xx xy xz xA xB xC xD xE xF xG xH xI xJ xK xL xM xN xO xP xQ xR xS xT xU : Value),rest9b.wp Tryz.prog (bodyPostM Fence.wide 0 Tryz.prog Tryz.f53 R) (fr9 v0 v1 v2 v3 v4 v5 (.pointer (some ⟨Bx,0,none⟩)) v7 v8 v9 xa xb xc xd xe xf xg xh xi xj xk xl xm xn xo xp xq xr xt xu xv xw xx xy xz xA xB xC xD xE xF xG xH xI xJ xK xL xM xN xO xP xQ xR xS xT xU) W) := fun v0 v1 v2 v3 v4 v5 v7 v8 v9 xa xb xc xd xe xf xg xh xi xj xk xl xm xn xo xp xq xr xt xu xv xw xx xy xz xA xB xC xD xE xF xG xH xI xJ xK xL xM xN xO xP xQ xR xS xT xU => by
  refine items_b R ⟨a.t,.slice am (bodyL a).length cm,.slice (some ⟨Pb,0,none⟩) (bodyL a).length (bodyL a).length,bodyL a,List.replicate (bodyL a).length false⟩ Bx w W hb hbx hA0 (fun W' v h1 h2 h3 => hE W' v ?_ h2 h3)
  rw [hio.out,e]; exact h1
 clear hA0 hE hms hbl hbx e
 go_wp2_with fail
 exact hnx.out _ _ _ _ _ _ _ _ _ _ _ _ _ _ _ _ _ _ _ _ _ _ _ _ _ _ _ _ _ _ _ _ _ _ _ _ _ _ _ _ _ _ _ _ _ _ _ _ _ _ _ _ _ _ _

theorem items_tail (R : Ending → World → Prop) (K : Act → World → Prop) (hK : ∀ a_1 w_1,rest9.wp Tryz.prog (bodyPostM Fence.wide 0 Tryz.prog Tryz.f53 R) a_1 w_1 → K a_1 w_1) (id : Nat) (ps : String) {v0 v2 v3 v5 v6 v7 v8 v9 xa xb xc xd xe xf xg xh xi xj xk xl xm xn xo xp xq xr xt xu xv xw xx xy xz xA xB xC xD xE xF xG xH xI xJ xK xL xM xN xO xP xQ xR xS xT xU : Value} (a : Pa) (B0 cm n : Nat) (am : Option Addr) (w W : World) (hn : n = (bodyL a).length) (hb : Below w.heap.size w W) (hP : PB W B0 a) (_hB0 : w.heap.size ≤ B0)
  (hms : RecAt 6 msL W (.slice am n cm) (bodyL a)) (hlt : ∀ g o,am = some ⟨g,o,none⟩ → g < W.heap.size) (h12 : a.p.p12 ≠ 1) (hG : GoodP a)
  (hE : ∀ W' v,W'.ownsRow w.heap.size 91 8 v (itemsOf a).length ((itemsOf a).flatMap itL) → FillI W' v → Below w.heap.size w W' → R (.returned (.tuple #[v,.int .i64 0])) W') :
  (Code.region id (ops9_6 ps) true).wp Tryz.prog (Exit.then K (bodyPostM Fence.wide 0 Tryz.prog Tryz.f53 R)) (fr9 v0 (.pointer (some ⟨B0,0,none⟩)) v2 v3 (.slice am n cm) v5 v6 v7 v8 v9 xa xb xc xd xe xf xg xh xi xj xk xl xm xn xo xp xq xr xt xu xv xw xx xy xz xA xB xC xD xE xF xG xH xI xJ xK xL xM xN xO xP xQ xR xS xT xU) W := by
 subst hn
 refine Code.wp_mono (Q := fun e x W => e = .normal ∧ K x W) (fun e x W h => by obtain ⟨rfl,h⟩ := h; exact h) ?_
 refine it_r6 _ (fun _ _ _ _ _ h => by cases h.1) id ps B0 (bodyL a).length cm am a.t W ⟨hP.lt,hP.c0⟩ (bodyL_few hG) ?_
 intro Pb Bx w' hb' h1 h2 h3 hbl hbx
 refine ⟨rfl,hK _ _ ?_⟩
 have hsz := hb.size
 exact items_a R a B0 Bx Pb cm am w w' (hb.trans (hb'.mono hb.size)) (hP.below hb' hP.lt) hbx hbl (hms.below hb' (Nat.le_refl _)) (fun g o e => by have := hlt g o e; omega) (by omega) h3 h12 hG hE
end Go.Proofs.YtlgcnbomfhmjiaaGreatDoor

namespace Go.Proofs.YtlgcnbomfhmjiaaGreatDoor
open Go.RowKit Go.Shelf
set_option maxRecDepth 100000
set_option maxHeartbeats 8000000

theorem items_no (a : Pa) (w : World) (hA : PaAt w a) (h : chkI a ≠ 0) : Calls Tryz.prog 53 #[paV a] w (ItemsEnd a w) := by
 have hB := (Below.refl w.heap.size w).alloc (Nat.le_refl _) (Obj.cells (paC a) 36)
 have hP := PB.new w a
 have hs := masses_any a _ (hA.below hB (Nat.le_refl _))
 have hE : Hid (∀ W,Below w.heap.size w W → ItemsEnd a w (.returned (.tuple #[.slice none 0 0,.int .i64 (chkI a)])) W) := fun W hW => ⟨⟨_,rfl,.inl ⟨h,rfl⟩⟩,hW⟩
 unfold MassEnd at hs
 unfold paV at hs ⊢
 have h' : (chkI a == 0) = false := by simpa using h
 have hs' : Hid (Calls Tryz.prog 83 #[.agg (paC a)] (w.alloc (.cells (paC a) 36)) fun e w' => (∃ v,e = .returned (.tuple #[v,.int .i64 (chkI a)]) ∧ v = .slice none 0 0) ∧ Below w.heap.size w w') := by
  refine hs.mono ?_
  rintro e w' ⟨⟨v,rfl,hv⟩,hb⟩
  refine ⟨⟨v,rfl,?_⟩,hB.trans (hb.mono hB.size)⟩
  rcases hv with ⟨_,h1⟩ | ⟨h1,_⟩
  ·exact h1
  ·exact absurd h1 h
 clear hs h
 generalize chkI a = n at *
 generalize hw1 : w.alloc (.cells (paC a) 36) = w1 at *
 go_enter Tryz.func53,Tryz.ntmps53
 go_wp2_with (first | (refine wpList_load_row rfl 36 _ rfl w.heap.size rfl 36 _ (0,0) _ hP.row Tryz.underlying36 rfl (info34 a) ?_) | (go_at_call 83; refine hs'.out.mono ?_; rintro e w' ⟨⟨v,rfl,rfl⟩,hb2⟩))
 go_ret2
 exact hE.out _ hb2

theorem rowlt {w : World} {base : Nat} {t : TypeId} {sz : Nat} {a : Option Addr} {n c : Nat} {xs : List Value} (h : w.ownsRow base t sz (.slice a n c) n xs) {g o : Nat} (e : a = some ⟨g,o,none⟩) : g < w.heap.size := by
 subst e
 have hl := h.lt
 rcases h.2 with ⟨h1,_⟩ | ⟨g',cap,cur,h1,_⟩
 ·cases h1
 ·cases h1; exact (hl g rfl).2
theorem items_A (a : Pa) (w : World) (hA : PaAt w a) (h12 : a.p.p12 ≠ 1) (h : chkI a = 0) (h14 : ¬ 2 ≤ a.p.p14) : Calls Tryz.prog 53 #[paV a] w (ItemsEnd a w) := by
 have hB := (Below.refl w.heap.size w).alloc (Nat.le_refl _) (Obj.cells (paC a) 36)
 have hP := PB.new w a
 have hG := good_of h
 have hbl : Hid (bodyL a = mss a) := if_neg (fun h => h14 h.1)
 have q1 : decide (2 ≤ a.p.p14) = false := decide_eq_false h14
 have hs := masses_any a _ (hA.below hB (Nat.le_refl _))
 have hE : Hid (∀ W v,W.ownsRow w.heap.size 91 8 v (itemsOf a).length ((itemsOf a).flatMap itL) → FillI W v → Below w.heap.size w W → ItemsEnd a w (.returned (.tuple #[v,.int .i64 0])) W) := fun W v hv hf hW => ⟨⟨_,by rw [h],.inr ⟨h,hv,hf⟩⟩,hW⟩
 unfold MassEnd at hs
 unfold paV at hs ⊢
 rw [h] at hs
 have hs' : Hid (Calls Tryz.prog 83 #[.agg (paC a)] (w.alloc (.cells (paC a) 36)) fun e w' => ∃ v,e = .returned (.tuple #[v,.int .i64 0]) ∧ w'.ownsRow (w.alloc (.cells (paC a) 36)).heap.size 107 6 v (num a.t) ((mss a).flatMap msL) ∧ Below (w.alloc (.cells (paC a) 36)).heap.size (w.alloc (.cells (paC a) 36)) w') := by
  refine hs.mono ?_
  rintro e w' ⟨⟨v,rfl,hv⟩,hb⟩
  refine ⟨v,rfl,?_,hb⟩
  rcases hv with ⟨h1,_⟩ | ⟨_,h1⟩
  ·exact absurd rfl h1
  ·exact h1
 clear hs h
 have hsz1 : Hid ((w.alloc (.cells (paC a) 36)).heap.size = w.heap.size + 1) := World.size_alloc _ _
 generalize hw1 : w.alloc (.cells (paC a) 36) = w1 at *
 refine (callsIn_wide (n := 0)).1 ?_
 refine callsIn_of_wp_marks Tryz.func53 rfl trivial ?_ rfl
 simp only [Tryz.ntmps53,List.size_toArray,List.length_cons,List.length_nil,Nat.reduceAdd,Nat.reduceSub,Array.replicate_succ,Array.replicate_zero,List.push_toArray,List.append_toArray,List.nil_append,List.cons_append]
 refine wpIn_wide.2 ?_
 go_wp2_with (first | (refine wpList_load_row rfl 36 _ rfl w.heap.size rfl 36 _ (0,0) _ hP.row Tryz.underlying36 rfl (info34 a) ?_) | (go_at_call 83; refine hs'.out.mono ?_; rintro e w2 ⟨v,rfl,hown,hb2⟩; obtain ⟨av,cv,rfl⟩ := Hy.row_val hown; have hP2 := hP.below hb2 hP.lt; have c16 : w2.cell? ⟨w.heap.size,16,none⟩ = some (.int .i64 a.p.p14) := hP2.cell rfl; have hB2 : Below w.heap.size w w2 := hB.trans (hb2.mono hB.size); have hrec := rec_of_row msL_len (mss_len a).symm hown; have hown0 := hown))
 rename_i K hK
 refine items_tail (ItemsEnd a w) K hK 6 "item.go:35" a w.heap.size _ _ _ w w2 (by rw [hbl.out,mss_len]) hB2 hP2 (Nat.le_refl _) (by rw [hbl.out]; exact hrec) (fun g0 o0 e => rowlt hown0 e) h12 hG hE.out
theorem items_all (a : Pa) (w : World) (hA : PaAt w a) (h12 : a.p.p12 ≠ 1) (h14 : ¬ 2 ≤ a.p.p14) : Calls Tryz.prog 53 #[paV a] w (ItemsEnd a w) := by
 by_cases h : chkI a = 0
 ·exact items_A a w hA h12 h h14
 ·exact items_no a w hA h
end Go.Proofs.YtlgcnbomfhmjiaaGreatDoor

namespace Go.Proofs.YtlgcnbomfhmjiaaGreatDoor
open Go.RowKit Go.Shelf

def pcsB (pl : List Pc) (n : Nat) : Bool := pl.all (fun p => decide (p.a ≤ p.b ∧ p.b ≤ n)) && pl.tail.all (fun p => decide (p.a < n))
theorem pcs_of {pl : List Pc} {n : Nat} (h : pcsB pl n = true) : ∀ k (h : k < pl.length),pl[k].a ≤ pl[k].b ∧ pl[k].b ≤ n ∧ (0 < k → pl[k].a < n) := fun k hk => by
 unfold pcsB at h
 rw [Bool.and_eq_true,List.all_eq_true,List.all_eq_true] at h
 have h1 := of_decide_eq_true (h.1 _ (List.getElem_mem hk))
 refine ⟨h1.1,h1.2,fun h0 => ?_⟩
 have e : pl[k] = pl.tail[k - 1]'(by rw [List.length_tail]; omega) := by
  rw [List.getElem_tail]
  congr 1
  omega
 rw [e]
 exact of_decide_eq_true (h.2 _ (List.getElem_mem _))
structure Exm (a : Pa) (r : Sl) (L : List It) (pl : List Pc) (lo : Bool) (wl : List Lx) : Prop where
 e : paE a [] r = 0
 h12 : a.p.p12 ≠ 1
 h14 : ¬ 2 ≤ a.p.p14
 it : itemsOf a = L
 wd : L.all (fun x => decide (x.w ≤ 524288)) = true
 ck : ckL L = 0
 ps : lsL L (inSs a [] r) (inR a [] r) = pl
 few : pl.length ≤ 9000
 pc : pcsB pl L.length = true
 ln : glL (lyY a L (inSs a [] r) (inR a [] r) pl lo) pl.length = wl
theorem items_26 {L : List It} {a : Pa} {W : World} (h1 : PaAt W a) (h2 : chkI a = 0) (h3 : a.p.p12 ≠ 1) (h4 : ¬ 2 ≤ a.p.p14) (h5 : itemsOf a = L) : Calls Tryz.prog 53 #[.agg (paC a)] W fun e w' => (∃ v,e = .returned (.tuple #[v,.int .i64 0]) ∧ ItsAt w' v L) ∧ Below W.heap.size W w' := by
 refine (items_all a W h1 h3 h4).mono ?_
 rintro e w' ⟨⟨v,rfl,hv⟩,hb⟩
 rw [h2] at hv ⊢
 rcases hv with ⟨k1,_⟩ | ⟨_,k1,_⟩
 ·exact absurd rfl k1
 ·rw [h5] at k1
  exact ⟨⟨v,rfl,rec_of_row itL_len rfl k1⟩,hb⟩
theorem lay_exm {a : Pa} {r : Sl} {L : List It} {pl : List Pc} {lo : Bool} {wl : List Lx} (h : Exm a r L pl lo wl) (w : World) (hA : PaAt w a) (fn : Nat) (hfn : chN a L = fn) (h67 : fn = 55 ∨ fn = 56) (hc : ∀ w v u,ItsAt w v L → SlsAt w u (inSs a [] r) → Calls Tryz.prog fn #[v,u,.agg (slL (inR a [] r)).toArray] w (BkEnd pl lo w)) :
  Calls Tryz.prog 25 #[.agg (paC a),.slice none 0 0,.agg #[.int .i64 r.x,.int .i64 r.w]] w fun e w' => (∃ g,w.heap.size ≤ g ∧ e = .returned (.tuple #[.slice (some ⟨g,0,none⟩) pl.length pl.length,.int .i64 0]) ∧ LxsAt w' (.slice (some ⟨g,0,none⟩) pl.length pl.length) wl) ∧ Below w.heap.size w w' := by
 have hk := (paE_ok h.e).1
 refine (lay_ok a (.slice none 0 0) [] r L pl lo fn w hA (RecAt.nil _ _) h.e (ck_len h.ck) (fun x hx => of_decide_eq_true (List.all_eq_true.1 h.wd x hx)) h.ck (fun W hW => items_26 hW hk h.h12 h.h14 h.it) h.few (pcs_of h.pc) hfn h67 hc).mono ?_
 rintro e w' ⟨⟨g,hg,rfl,hu⟩,hb⟩
 rw [h.ln] at hu
 exact ⟨⟨g,hg,rfl,hu⟩,hb⟩
theorem lay_fit {a : Pa} {r : Sl} {L : List It} {pl : List Pc} {wl : List Lx} (h : Exm a r L pl false wl) (h13 : a.p.p13 ≠ 1) (w : World) (hA : PaAt w a) :
  Calls Tryz.prog 25 #[.agg (paC a),.slice none 0 0,.agg #[.int .i64 r.x,.int .i64 r.w]] w fun e w' => (∃ g,w.heap.size ≤ g ∧ e = .returned (.tuple #[.slice (some ⟨g,0,none⟩) pl.length pl.length,.int .i64 0]) ∧ LxsAt w' (.slice (some ⟨g,0,none⟩) pl.length pl.length) wl) ∧ Below w.heap.size w w' :=
 lay_exm h w hA 56 (if_neg fun h' => h13 h'.1) (.inr rfl) fun w v u h1 h2 => by
  have := fits67 v u L _ _ h.ck (in_ck h.e) w h1 h2
  rwa [h.ps] at this
end Go.Proofs.YtlgcnbomfhmjiaaGreatDoor

namespace Go.Proofs.YtlgcnbomfhmjiaaGreatDoor
open Go.RowKit Go.Shelf

theorem kind_vis {x : Int} (h : 32 ≤ x ∧ x ≤ 126) : kindI x = 1 ∨ kindI x = 2 ∨ kindI x = 3 := by
 unfold kindI
 repeat (split <;> try omega)
theorem cell_ref {t : ByteArray} (h : ∀ k,k < t.size → 32 ≤ bt t k ∧ bt t k ≤ 126) : ∀ k,k ≤ t.size → refN t k = 0
 | 0,_ => rfl
 | k + 1,hk => by
  rw [refN_succ,cell_ref h k (by omega),if_neg (by have := (h k (by omega)).1; omega)]
end Go.Proofs.YtlgcnbomfhmjiaaGreatDoor

namespace Go.Proofs.YtlgcnbomfhmjiaaGreatDoor
open Go.RowKit Go.Shelf

structure Thin (t : ByteArray) (l : List Ms) : Prop where
 few : l.length ≤ 4096
 w : ∀ k (h : k < l.length),0 ≤ l[k].w ∧ l[k].w ≤ 64
 q : ∀ k (h : k < l.length),l[k].q = 0
 kd : ∀ k (h : k < l.length),l[k].k ∈ [1,2,3]
 f0 : ∀ k (h : k < l.length),0 ≤ l[k].f ∧ l[k].f ≤ l[k].t
 up : ∀ i k (_ : i ≤ k) (h : k < l.length),l[i].f ≤ l[k].t
theorem run64 {l : List Ms} (hw : ∀ k (h : k < l.length),0 ≤ l[k].w ∧ l[k].w ≤ 64) (hq : ∀ k (h : k < l.length),l[k].q = 0) : ∀ n,n ≤ l.length → 0 ≤ runN l 0 n ∧ runN l 0 n ≤ 64 * (n : Int)
 | 0,_ => by simp [runN]
 | n + 1,hn => by
  have ih := run64 hw hq n (by omega)
  have hk : n < l.length := by omega
  have e : runN l 0 (n + 1) = runN l 0 n + (l.getD (0 + n) ms0).w + (if 0 < n then (l.getD (0 + n) ms0).q else 0) := rfl
  rw [Nat.zero_add,getD_is hk] at e
  have h1 := hw n hk
  have h2 := hq n hk
  rw [e,h2]
  split <;> omega
theorem nat64 {l : List Ms} (hw : ∀ k (h : k < l.length),0 ≤ l[k].w ∧ l[k].w ≤ 64) (hq : ∀ k (h : k < l.length),l[k].q = 0) (hn : l.length ≤ 4096) : 0 ≤ natV l 0 l.length ∧ natV l 0 l.length ≤ 262144 := by
 unfold natV
 split
 ·have := run64 hw hq l.length (Nat.le_refl _)
  have e : runN l (0 : Int).toNat ((l.length : Int).toNat - (0 : Int).toNat) = runN l 0 l.length := by simp
  rw [e]; omega
 ·omega
theorem box_ok {t : ByteArray} {l : List Ms} (h : Thin t l) {a b : Nat} (hb : b ≤ l.length) : ∀ x ∈ bxL l a b,okP x := fun x hx => by
 unfold bxL at hx
 split at hx
 ·rename_i hab
  rw [List.mem_singleton] at hx
  subst hx
  have hl := run_len (l := l) (a := a) hb
  have hg : ∀ k (hk : k < (runL l a b).length),(runL l a b)[k] = l[a + k]'(by omega) := fun k hk => by
   have hk' : k < ((l.drop a).take (b - a)).length := hk
   have e : ((l.drop a).take (b - a))[k]'hk' = l[a + k]'(by omega) := by rw [List.getElem_take,List.getElem_drop]
   exact e
  have hw := nat64 (l := runL l a b) (fun k hk => by rw [hg]; exact h.w _ _) (fun k hk => by rw [hg]; exact h.q _ _) (by have := h.few; omega)
  have e0 : ((runL l a b).getD 0 ms0) = l[a]'(by omega) := by rw [getD_is (by omega),hg]; rfl
  have e1 : ((runL l a b).getD ((runL l a b).length - 1) ms0) = l[b - 1]'(by omega) := by
   rw [getD_is (by omega),hg]
   congr 1
   omega
  have hu := h.up a (b - 1) (by omega) (by omega)
  have hf := h.f0 a (by omega)
  unfold okP boxI
  rw [e0,e1]
  refine ⟨?_,hf.1,hu,?_,?_,?_,?_,.inl ?_,.inr ⟨rfl,rfl⟩,.inr ⟨rfl,rfl⟩⟩ <;> dsimp only <;> omega
 ·cases hx
theorem sm_ok {t : ByteArray} {l : List Ms} {pd : List Bool} (h : Thin t l) (hpd : ∀ i,pdAt pd i = false) {k : Nat} (hk : k < l.length) : ∀ x ∈ smL t l pd k,okP x := fun x hx => by
 have hm : mAt l k = l[k] := mAt_is hk
 have hw := h.w k hk
 have hf := h.f0 k hk
 have hkd := h.kd k hk
 have hfr := frN_le t l pd k
 unfold smL at hx
 rw [hm] at hx
 split at hx
 ·rename_i hal
  rw [List.mem_append] at hx
  rcases hx with hx | hx
  ·exact box_ok h (by omega) x hx
  ·rw [List.mem_singleton] at hx
   subst hx
   have h3 : l[k].k = 3 := by
    unfold alB at hal
    rw [decide_eq_true_eq] at hal
    simp only [List.mem_cons,List.not_mem_nil,or_false] at hkd
    omega
   unfold loneI
   rw [if_pos h3]
   unfold okP
   refine ⟨?_,hf.1,hf.2,?_,?_,?_,?_,.inl ?_,.inl rfl,.inr ⟨rfl,rfl⟩⟩ <;> dsimp only <;> omega
 ·split at hx
  ·rename_i hcu
   rw [List.mem_append] at hx
   rcases hx with hx | hx
   ·exact box_ok h (by omega) x hx
   ·rw [List.mem_singleton] at hx
    subst hx
    unfold cuB at hcu
    rw [hpd,Bool.false_or] at hcu
    unfold cutI
    rw [hpd,if_neg (by simp),if_pos hcu,hm]
    refine ⟨?_,hf.1,Int.le_refl _,?_,?_,?_,?_,.inl ?_,.inr ⟨rfl,rfl⟩,.inl rfl⟩ <;> dsimp only <;> omega
  ·cases hx
theorem ou_ok {t : ByteArray} {l : List Ms} {pd : List Bool} (h : Thin t l) (hpd : ∀ i,pdAt pd i = false) : ∀ k,k ≤ l.length → ∀ x ∈ ouL t l pd k,okP x
 | 0,_,x,hx => by cases hx
 | k + 1,hk,x,hx => by
  have hx' : x ∈ ouL t l pd k ++ smL t l pd k := hx
  rw [List.mem_append] at hx'
  rcases hx' with hx | hx
  ·exact ou_ok h hpd k (by omega) x hx
  ·exact sm_ok h hpd (by omega) x hx
theorem pd_none (n i : Nat) : pdAt (List.replicate n false) i = false := by
 unfold pdAt
 rw [List.getD_eq_getElem?_getD,List.getElem?_replicate]
 split <;> rfl
structure PlOk (n a : Nat) (pl : List Pc) : Prop where
 pos : 0 < pl.length
 few : pl.length ≤ n - a + 1
 all : ∀ p ∈ pl,p.a ≤ p.b ∧ p.b ≤ n
 tl : ∀ p ∈ pl.tail,p.a < n
theorem lsA_ok {L : List It} {ss : List Sl} {r : Sl} : ∀ d a n,a ≤ L.length → L.length - a ≤ d → PlOk L.length a (lsA L ss r a n) := by
 intro d
 induction d with
 | zero =>
  intro a n ha hd
  obtain rfl : a = L.length := by omega
  have hp : lnP L L.length (slN ss r n) = pc0 L.length := lnP_end _ _
  have hb := bg_le (l := L) (i := L.length) (Nat.le_refl _)
  rw [lsA_end (by rw [hp]; show ¬ bgN L L.length < L.length; omega),hp]
  exact ⟨by simp,by simp,fun p hp => by rw [List.mem_singleton] at hp; subst hp; exact ⟨Nat.le_refl _,Nat.le_refl _⟩,fun p hp => by cases hp⟩
 | succ d ih =>
  intro a n ha hd
  have hl := lnP_le (l := L) (s := slN ss r n) ha
  have hla := lnP_a L a (slN ss r n)
  by_cases hb : bgN L (lnP L a (slN ss r n)).b < L.length
  ·have hgo := lsA_go (ss := ss) (r := r) (n := n) ha hb
   have hbg := bg_le (l := L) (i := (lnP L a (slN ss r n)).b) hl.2
   have hlt : a < L.length := by omega
   have hst := lnP_b (l := L) (s := slN ss r n) hlt
   have hi := ih (bgN L (lnP L a (slN ss r n)).b) (n + 1) (by omega) (by omega)
   rw [hgo]
   refine ⟨by simp,?_,fun p hp => ?_,fun p hp => ?_⟩
   ·rw [List.length_cons]
    have := hi.few
    omega
   ·rw [List.mem_cons] at hp
    rcases hp with rfl | hp
    ·exact ⟨by omega,hl.2⟩
    ·exact hi.all p hp
   ·have hp' : p ∈ lsA L ss r (bgN L (lnP L a (slN ss r n)).b) (n + 1) := hp
    cases he : lsA L ss r (bgN L (lnP L a (slN ss r n)).b) (n + 1) with
    | nil => rw [he] at hp'; cases hp'
    | cons q qs =>
     rw [he] at hp'
     rw [List.mem_cons] at hp'
     rcases hp' with rfl | hp'
     ·by_cases h2 : bgN L (lnP L (bgN L (lnP L a (slN ss r n)).b) (slN ss r (n + 1))).b < L.length
      ·rw [lsA_go (by omega) h2] at he
       have : p = lnP L (bgN L (lnP L a (slN ss r n)).b) (slN ss r (n + 1)) := (List.cons.inj he).1.symm
       rw [this,lnP_a]; exact hb
      ·rw [lsA_end h2] at he
       have : p = lnP L (bgN L (lnP L a (slN ss r n)).b) (slN ss r (n + 1)) := (List.cons.inj he).1.symm
       rw [this,lnP_a]; exact hb
     ·exact hi.tl p (by rw [he]; exact hp')
  ·rw [lsA_end hb]
   exact ⟨by simp,by simp,fun p hp => by rw [List.mem_singleton] at hp; subst hp; exact ⟨by omega,hl.2⟩,fun p hp => by cases hp⟩
theorem lsL_ok (L : List It) (ss : List Sl) (r : Sl) : PlOk L.length 0 (lsL L ss r) := by
 have h : sk L 0 ≤ L.length := (sk_le (l := L) _ _ (Nat.zero_le _)).2
 have := lsA_ok (L := L) (ss := ss) (r := r) (L.length - sk L 0) (sk L 0) 0 h (Nat.le_refl _)
 exact ⟨this.pos,by have := this.few; show (lsA L ss r (sk L 0) 0).length ≤ _; omega,this.all,this.tl⟩
theorem PlOk.pcs {n : Nat} {pl : List Pc} (h : PlOk n 0 pl) : pcsB pl n = true := by
 unfold pcsB
 rw [Bool.and_eq_true,List.all_eq_true,List.all_eq_true]
 exact ⟨fun p hp => decide_eq_true (h.all p hp),fun p hp => decide_eq_true (h.tl p hp)⟩

theorem tk_none {m d n : Int} {s : Sl} (h : okS s = true) : tkI ⟨0,0,0,0,0,d,m⟩ n s 5 = s := by
 obtain ⟨⟨h1,h2⟩,h3,h4⟩ := okS_rng h
 have hL : ∀ k n,tkL 0 k n s = s := fun k n => by
  unfold tkL
  split
  ·rfl
  ·have e1 : min (s.x + 0) 4095 = s.x := by omega
   have e2 : max (s.w - 0) 0 = s.w := by omega
   rw [e1,e2]
 have hR : tkR 0 s = s := by
  unfold tkR
  have e2 : max (s.w - 0) 0 = s.w := by omega
  rw [e2]
 show tkF _ n 4 (tkF _ n 3 (tkF _ n 2 (tkF _ n 1 (tkF _ n 0 s)))) = s
 show tkR 0 (tkL 0 d n (tkL 0 1 n (tkL 0 1 n (tkL 0 m n s)))) = s
 rw [hL,hL,hL,hL,hR]
end Go.Proofs.YtlgcnbomfhmjiaaGreatDoor
