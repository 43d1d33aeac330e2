/-
  What is proved here: how wide a drop capital is, and its glyph.
  What is proved here: the drawn region of glyphs.
-/
import Derived.Test.YtbdpghjegachaaaGreatDoorE24
import Derived.Test.YtbdpghjegachaaaGreatDoorE2
import Derived.Test.YtbdpghjegachaaaGreatDoorE22
import Derived.Test.YtbdpghjegachaaaGreatDoorE1
namespace Go.Proofs.YtbdpghjegachaaaGreatDoor
open Go.RowKit Go.Shelf
set_option maxRecDepth 100000
set_option maxHeartbeats 2000000

structure Gl where
 f : Int
 t : Int
 x : Int
 w : Int
def glL (g : Gl) : List Value := [.int .i64 g.f,.int .i64 g.t,.int .i64 g.x,.int .i64 g.w]
theorem glL_len (g : Gl) : (glL g).length = 4 := rfl
theorem glL_one (g : Gl) : ∀ u ∈ glL g,u.oneCell' = true := by intro u hu; simp [glL] at hu; rcases hu with rfl | rfl | rfl | rfl <;> rfl
def cwI (p : Pa) : Int := wVal (p.t.extract 0 1) (if p.p.p0 * p.p.p14 ≤ 64 then p.p.p0 * p.p.p14 else 64)
theorem wVal_rng (t : ByteArray) (s : Int) (h : t.size ≤ 1) : 0 ≤ wVal t s ∧ wVal t s ≤ 64 := by
 rcases wErr_cases t s with ⟨_,e,_⟩ | ⟨_,e,_⟩ | ⟨_,e,h1,h2,h3⟩
 ·rw [e]; omega
 ·rw [e]; omega
 ·rw [e]
  have := tw_rng t (s := s) (by omega) h2 t.size
  unfold widthI
  omega
theorem cwI_rng (p : Pa) : 0 ≤ cwI p ∧ cwI p ≤ 64 := wVal_rng _ _ (by rw [ByteArray.size_extract]; omega)
theorem capitalWidth_any (p : Pa) (h1 : 1 ≤ p.t.size) (h0 : 1 ≤ p.p.p0 ∧ p.p.p0 ≤ 64) (h14 : 0 ≤ p.p.p14 ∧ p.p.p14 ≤ 4) (w : World) : Calls Tryz.prog 41 #[paV p] w fun e w' => e = .returned (.int .i64 (cwI p)) ∧ Below w.heap.size w w' := by
 have hB := (Below.refl w.heap.size w).alloc (Nat.le_refl _) (Obj.cells (paC p) 27)
 have hP := PB.new w p
 have c0 := hP.c0
 have c2 := hP.c2
 have c16 : (w.alloc (.cells (paC p) 27)).cell? ⟨w.heap.size,16,none⟩ = some (.int .i64 p.p.p14) := hP.cell (k := 16) rfl
 have hm0 : 0 ≤ p.p.p0 * p.p.p14 := Int.mul_nonneg (by omega) h14.1
 have hm1 : p.p.p0 * p.p.p14 ≤ 256 := by
  have a1 : p.p.p0 * p.p.p14 ≤ 64 * p.p.p14 := Int.mul_le_mul_of_nonneg_right h0.2 h14.1
  omega
 have hw := fun s W => Width_any (p.t.extract 0 1) s W
 have h1' : (1 : Int) ≤ p.t.size := by omega
 clear hP
 unfold paV cwI
 generalize hw1 : w.alloc (.cells (paC p) 27) = w1 at *
 generalize hmm : p.p.p0 * p.p.p14 = m at *
 by_cases hle : m ≤ 64
 ·rw [if_pos hle]
  go_enter Tryz.func41,Tryz.ntmps41
  go_wp2_with fail
  go_quiet (first | (go_at_call 59; refine Calls.quiet_of_same (hw _ _)))
  go_wp2_with fail
  go_ret
  first | exact ⟨rfl,below_drewN hB _⟩ | exact ⟨by rw [Int.min_eq_left hle]; rfl,below_drewN hB _⟩
 ·rw [if_neg hle]
  have hle2 : 64 ≤ m := by omega
  go_enter Tryz.func41,Tryz.ntmps41
  go_wp2_with fail
  go_quiet (first | (go_at_call 59; refine Calls.quiet_of_same (hw _ _)))
  go_wp2_with fail
  go_ret
  first | exact ⟨rfl,below_drewN hB _⟩ | exact ⟨by rw [Int.min_eq_right hle2]; rfl,below_drewN hB _⟩
def cpG (p : Pa) (m : Ms) (x : Int) : Gl := ⟨m.f,m.t,x - cwI p - 4,cwI p⟩
theorem capital_any (p : Pa) (h1 : 1 ≤ p.t.size) (h0 : 1 ≤ p.p.p0 ∧ p.p.p0 ≤ 64) (h14 : 0 ≤ p.p.p14 ∧ p.p.p14 ≤ 4) (m : Ms) (x : Int) (hx : 0 ≤ x ∧ x ≤ 4095) (w : World) :
  Calls Tryz.prog 25 #[paV p,.agg #[.int .i64 m.f,.int .i64 m.t,.int .i64 m.k,.int .i64 m.s,.int .i64 m.w,.int .i64 m.q],.int .i64 x] w fun e w' => e = .returned (.agg #[.int .i64 (cpG p m x).f,.int .i64 (cpG p m x).t,.int .i64 (cpG p m x).x,.int .i64 (cpG p m x).w]) ∧ Below w.heap.size w w' := by
 obtain ⟨x0,x1,x2,x3,x4,x5⟩ := m
 have hcw := fun W => capitalWidth_any p h1 h0 h14 W
 have hr := cwI_rng p
 obtain ⟨r0,r1⟩ := hr
 obtain ⟨y0,y1⟩ := hx
 have hf : Hid (∀ W,Below (((w.alloc (.cells (paC p) 27)).alloc (.cells #[.int .i64 x0,.int .i64 x1,.int .i64 x2,.int .i64 x3,.int .i64 x4,.int .i64 x5] 53)).alloc (.cells #[.int .i64 0,.int .i64 0,.int .i64 0,.int .i64 0] 41)).heap.size (((w.alloc (.cells (paC p) 27)).alloc (.cells #[.int .i64 x0,.int .i64 x1,.int .i64 x2,.int .i64 x3,.int .i64 x4,.int .i64 x5] 53)).alloc (.cells #[.int .i64 0,.int .i64 0,.int .i64 0,.int .i64 0] 41)) W → PB W w.heap.size p ∧ W.cell? ⟨w.heap.size + 1,0,none⟩ = some (.int .i64 x0) ∧ W.cell? ⟨w.heap.size + 1,1,none⟩ = some (.int .i64 x1) ∧ W.heap[w.heap.size + 2]? = some (.cells #[.int .i64 0,.int .i64 0,.int .i64 0,.int .i64 0] 41 (0,0)) ∧ Below w.heap.size w W) := fun W hb => by
  have s1 : (w.alloc (.cells (paC p) 27)).heap.size = w.heap.size + 1 := World.size_alloc _ _
  have hB1 := (Below.refl w.heap.size w).alloc (Nat.le_refl _) (Obj.cells (paC p) 27)
  have hB2 := hB1.alloc hB1.size (.cells #[.int .i64 x0,.int .i64 x1,.int .i64 x2,.int .i64 x3,.int .i64 x4,.int .i64 x5] 53)
  have hB3 := hB2.alloc hB2.size (.cells #[.int .i64 0,.int .i64 0,.int .i64 0,.int .i64 0] 41)
  have hm : (((w.alloc (.cells (paC p) 27)).alloc (.cells #[.int .i64 x0,.int .i64 x1,.int .i64 x2,.int .i64 x3,.int .i64 x4,.int .i64 x5] 53))).heap[w.heap.size + 1]? = some (.cells #[.int .i64 x0,.int .i64 x1,.int .i64 x2,.int .i64 x3,.int .i64 x4,.int .i64 x5] 53) := by rw [← s1]; exact World.alloc_heap_new _ _
  have s2 : (((w.alloc (.cells (paC p) 27)).alloc (.cells #[.int .i64 x0,.int .i64 x1,.int .i64 x2,.int .i64 x3,.int .i64 x4,.int .i64 x5] 53))).heap.size = w.heap.size + 2 := by rw [World.size_alloc,s1]
  have hm3 : (((w.alloc (.cells (paC p) 27)).alloc (.cells #[.int .i64 x0,.int .i64 x1,.int .i64 x2,.int .i64 x3,.int .i64 x4,.int .i64 x5] 53)).alloc (.cells #[.int .i64 0,.int .i64 0,.int .i64 0,.int .i64 0] 41)).heap[w.heap.size + 1]? = some (.cells #[.int .i64 x0,.int .i64 x1,.int .i64 x2,.int .i64 x3,.int .i64 x4,.int .i64 x5] 53) := (Below.heap_alloc _ _ _ (by omega)).trans hm
  have hz3 : (((w.alloc (.cells (paC p) 27)).alloc (.cells #[.int .i64 x0,.int .i64 x1,.int .i64 x2,.int .i64 x3,.int .i64 x4,.int .i64 x5] 53)).alloc (.cells #[.int .i64 0,.int .i64 0,.int .i64 0,.int .i64 0] 41)).heap[w.heap.size + 2]? = some (.cells #[.int .i64 0,.int .i64 0,.int .i64 0,.int .i64 0] 41) := by rw [← s2]; exact World.alloc_heap_new _ _
  have hp3 : (((w.alloc (.cells (paC p) 27)).alloc (.cells #[.int .i64 x0,.int .i64 x1,.int .i64 x2,.int .i64 x3,.int .i64 x4,.int .i64 x5] 53)).alloc (.cells #[.int .i64 0,.int .i64 0,.int .i64 0,.int .i64 0] 41)).heap[w.heap.size]? = some (.cells (paC p) 27) := (Below.heap_alloc _ _ _ (by omega)).trans ((Below.heap_alloc _ _ _ (by omega)).trans (World.alloc_heap_new w _))
  have s3 : (((w.alloc (.cells (paC p) 27)).alloc (.cells #[.int .i64 x0,.int .i64 x1,.int .i64 x2,.int .i64 x3,.int .i64 x4,.int .i64 x5] 53)).alloc (.cells #[.int .i64 0,.int .i64 0,.int .i64 0,.int .i64 0] 41)).heap.size = w.heap.size + 3 := by rw [World.size_alloc,s2]
  have hm4 := (hb.block (w.heap.size + 1) (by omega)).trans hm3
  exact ⟨⟨(hb.block _ (by omega)).trans hp3⟩,by rw [Lib.cell_of_heap hm4]; rfl,by rw [Lib.cell_of_heap hm4]; rfl,(hb.block _ (by omega)).trans hz3,hB3.trans (hb.mono hB3.size)⟩
 obtain ⟨hP,_,_,_,_⟩ := hf.out _ (Below.refl _ _)
 show Calls Tryz.prog 25 _ w fun e w' => e = .returned (.agg #[.int .i64 x0,.int .i64 x1,.int .i64 (x - cwI p - 4),.int .i64 (cwI p)]) ∧ _
 unfold paV at *
 generalize cwI p = cw at *
 go_enter Tryz.func25,Tryz.ntmps25
 go_wp2_with (first | (refine wpList_load_row rfl 27 _ rfl w.heap.size rfl 27 _ (0,0) _ hP.row Tryz.underlying27 rfl (info34 p) ?_))
 refine (hcw _).mono ?_
 rintro e w4 ⟨rfl,hb4⟩
 obtain ⟨_,m0,m1,hz4,hB4⟩ := hf.out _ hb4
 clear hf hcw hP hb4
 go_wp2_with (refine wpList_store_row rfl 41 _ _ rfl (w.heap.size + 2) #[.int .i64 x0,.int .i64 x1,.int .i64 (x - cw - 4),.int .i64 cw] rfl rfl 41 _ hz4 (by kernel_rfl) rfl (by simp [Value.oneCell']) ?_)
 exact bodyPost_ret (results_cell_row rfl _ _ (w.heap.size + 2) 41 _ (0,0) _ rfl (setRow_heap _ _ _ _ 41 _ hz4) Tryz.underlying41 rfl (by show _ = some 4; kernel_rfl)) rfl ⟨rfl,hB4.trans ((Turns.setRow (X := fun k => k = w.heap.size + 2) _ rfl _).below hB4.size (fun k hk => by omega))⟩
end Go.Proofs.YtbdpghjegachaaaGreatDoor

namespace Go.Proofs.YtbdpghjegachaaaGreatDoor
open Go.RowKit Go.Shelf
set_option maxRecDepth 100000
set_option maxHeartbeats 1000000

theorem el31 : ElOk 31 41 4 32 := ElOk.of Tryz.underlying31 (by kernel_rfl)
theorem build31 (x : Gl) (W : World) : (Instr.buildSlice 31 1 #[(0,.agg (glL x).toArray)]).run Tryz.prog W = .ok (.slice (some ⟨W.heap.size,0,none⟩) 1 1) (W.alloc (.cells (glL x).toArray 41)) := by
 obtain ⟨a,b,c,d⟩ := x
 kernel_rfl
theorem wp_build31 {oi : Oper} {a : Act} {w : World} {K : Act → World → Prop} {Q : Exit → Act → World → Prop} (y : Operand) (ho : oi.op = .buildSlice 31 1 #[(0,y)]) (p : Gl) (hy : a.eval y = .agg (glL p).toArray)
  (h : K (a.put oi.dst (.slice (some ⟨w.heap.size,0,none⟩) 1 1)) (w.alloc (.cells (glL p).toArray 41))) : oi.wp Tryz.prog a w K Q := by
 have hr := build31 p w
 unfold Oper.wp execOp
 simp only [ho,List.map_toArray,List.map_cons,List.map_nil,hy,Sem.run_bind,Sem.run_pure,Result.andThen_ok,hr]
 exact h
structure MB5 (b : Nat) (m : Ms) (W : World) : Prop where
 row : W.heap[b]? = some (.cells (msL m).toArray 53 (0,0))
theorem MB5.lt {b : Nat} {m : Ms} {W : World} (h : MB5 b m W) : b < W.heap.size := (Array.getElem?_eq_some_iff.1 h.row).1
theorem MB5.c {b : Nat} {m : Ms} {W : World} (h : MB5 b m W) {j : Nat} {v : Value} (hj : (msL m)[j]? = some v) : W.cell? ⟨b,j,none⟩ = some v := by rw [Lib.cell_of_heap h.row]; simpa using hj
theorem MB5.c0 {b : Nat} {m : Ms} {W : World} (h : MB5 b m W) : W.cell? ⟨b,0,none⟩ = some (.int .i64 m.f) := h.c rfl
theorem MB5.c1 {b : Nat} {m : Ms} {W : World} (h : MB5 b m W) : W.cell? ⟨b,1,none⟩ = some (.int .i64 m.t) := h.c rfl
theorem MB5.c4 {b : Nat} {m : Ms} {W : World} (h : MB5 b m W) : W.cell? ⟨b,4,none⟩ = some (.int .i64 m.w) := h.c rfl
theorem MB5.c5 {b : Nat} {m : Ms} {W : World} (h : MB5 b m W) : W.cell? ⟨b,5,none⟩ = some (.int .i64 m.q) := h.c rfl
theorem MB5.turns {b : Nat} {m : Ms} {W W' : World} {X : Nat → Prop} (h : MB5 b m W) (ht : Turns X W W') (hX : ¬ X b) : MB5 b m W' := ⟨(ht.block b h.lt hX).trans h.row⟩
theorem MB5.alloc {b : Nat} {m : Ms} {W : World} (h : MB5 b m W) (ob : Obj) : MB5 b m (W.alloc ob) := h.turns (Turns.alloc (fun _ => False) W ob) (fun e => e)
def fr32 (v0 v1 v2 v3 v4 v5 v6 v7 v8 v9 xa xb xc xd xe xf xg xh xi xj xk xl xm xn xo xp xq xr xt xu xv xw xx xy xz xA xB xC xD xE xF xG xH : Value) : Act := { tmps := #[v0,v1,v2,v3,v4,v5,v6,v7,v8,v9,xa,xb,xc,xd,xe,xf,xg,xh,xi,xj,xk,xl,xm,xn,xo,xp,xq,xr,xt,xu,xv,xw,xx,xy,xz,xA,xB,xC,xD,xE,xF,xG,xH],defers := [] }
def ops32_5_0 (ps : String) : Oper := ⟨some 23,.move (.tmp 1),31,ps,#[],none⟩
def ops32_5_1 (ps : String) : Oper := ⟨some 24,.fieldAddr 53 (.tmp 8) 0,0,ps,#[],none⟩
def ops32_5_2 (ps : String) : Oper := ⟨some 25,.load 3 (.tmp 24),3,ps,#[⟨1,.data⟩],none⟩
def ops32_5_3 (ps : String) : Oper := ⟨some 26,.fieldAddr 53 (.tmp 8) 1,0,ps,#[],none⟩
def ops32_5_4 (ps : String) : Oper := ⟨some 27,.load 3 (.tmp 26),3,ps,#[⟨3,.data⟩],none⟩
def ops32_5_5 (ps : String) : Oper := ⟨some 28,.move (.tmp 6),108,ps,#[],none⟩
def ops32_5_6 (ps : String) : Oper := ⟨some 29,.fieldAddr 53 (.tmp 8) 5,0,ps,#[],none⟩
def ops32_5_7 (ps : String) : Oper := ⟨some 30,.load 3 (.tmp 29),3,ps,#[⟨6,.data⟩],none⟩
def ops32_5_8 (ps : String) : Oper := ⟨some 31,.fieldAddr 53 (.tmp 8) 4,0,ps,#[],none⟩
def ops32_5_9 (ps : String) : Oper := ⟨some 32,.load 3 (.tmp 31),3,ps,#[⟨8,.data⟩],none⟩
def ops32_5_10 (ps : String) : Oper := ⟨some 33,.call ⟨.value (.tmp 28),#[.tmp 30,.tmp 32],#[3,3]⟩,3,ps,#[⟨5,.data⟩,⟨7,.data⟩,⟨9,.data⟩],none⟩
def ops32_5_11 (ps : String) : Oper := ⟨some 34,.fieldAddr 53 (.tmp 8) 4,0,ps,#[],none⟩
def ops32_5_12 (ps : String) : Oper := ⟨some 35,.load 3 (.tmp 34),3,ps,#[⟨11,.data⟩],none⟩
def ops32_5_13 (ps : String) : Oper := ⟨some 36,.build 41 #[(0,.tmp 25),(1,.tmp 27),(2,.tmp 33),(3,.tmp 35)],41,ps,#[⟨2,.data⟩,⟨4,.data⟩,⟨10,.data⟩,⟨12,.data⟩],none⟩
def ops32_5_14 (ps : String) : Oper := ⟨some 37,.buildSlice 31 1 #[(0,.tmp 36)],31,ps,#[⟨13,.data⟩],none⟩
def ops32_5_15 (ps : String) : Oper := ⟨some 38,.call ⟨.builtin .append,#[.tmp 23,.tmp 37],#[31,31]⟩,31,ps,#[⟨0,.data⟩,⟨14,.data⟩,⟨10,.chain⟩],none⟩
def ops32_5_16 (ps : String) : Oper := ⟨some 1,.assign (.tmp 38),31,ps,#[⟨15,.data⟩,⟨15,.chain⟩,⟨0,.phase⟩,⟨1,.phase⟩,⟨2,.phase⟩,⟨3,.phase⟩,⟨4,.phase⟩,⟨5,.phase⟩,⟨6,.phase⟩,⟨7,.phase⟩,⟨8,.phase⟩,⟨9,.phase⟩,⟨10,.phase⟩,⟨11,.phase⟩,⟨12,.phase⟩,⟨13,.phase⟩,⟨14,.phase⟩,⟨15,.phase⟩],none⟩
def ops32_5 (ps : String) : Array Oper := #[ops32_5_0 ps,ops32_5_1 ps,ops32_5_2 ps,ops32_5_3 ps,ops32_5_4 ps,ops32_5_5 ps,ops32_5_6 ps,ops32_5_7 ps,ops32_5_8 ps,ops32_5_9 ps,ops32_5_10 ps,ops32_5_11 ps,ops32_5_12 ps,ops32_5_13 ps,ops32_5_14 ps,ops32_5_15 ps,ops32_5_16 ps]

theorem gl_r5 (Q : Exit → Act → World → Prop) (hQ : ∀ c x (n : Nat) v w,Q (.panic c) (x.put (some n) v) w → Q (.panic c) x w) (id : Nat) (ps : String) {v0 v2 v3 v4 v5 v7 v9 xa xb xc xd xe xf xg xh xi xj xk xl xm xn xo xp xq xr xt xu xv xw xx xy xz xA xB xC xD xE xF xG xH : Value} (c b : Nat) (m : Ms) (y : Int) (va : Option Addr) (ln vc base : Nat) (L : List Gl) (PP : World → Prop) (w : World) (hS : MB5 b m (World.drew w))
  (hc : Hid (Calls Tryz.prog 103 #[.int .i64 m.q,.int .i64 m.w,.pointer (some ⟨c,0,none⟩)] (World.drew w) fun e w' => e = .returned (.int .i64 (y + m.q)) ∧ PP w' ∧ MB5 b m w'))
  (hrow : Hid (∀ w1,PP w1 → w1.ownsRow base 41 4 (.slice va ln vc) L.length (L.flatMap glL) ∧ base ≤ w1.heap.size ∧ ¬ (Value.slice va ln vc).ownBlock = some b)) (hlen : L.length ≤ 9000)
  (hq : ∀ vv w1 v' w2,PP w1 → w2.ownsRow base 41 4 v' (L ++ [(⟨m.f,m.t,y + m.q,m.w⟩ : Gl)]).length ((L ++ [(⟨m.f,m.t,y + m.q,m.w⟩ : Gl)]).flatMap glL) → Turns (fun g => (Value.slice va ln vc).ownBlock = some g) w1 w2 → (v'.ownBlock = (Value.slice va ln vc).ownBlock ∨ ∀ g,v'.ownBlock = some g → w1.heap.size ≤ g) → Q .normal (fr32 v0 v' v2 v3 v4 v5 (.func (.func 103) #[] #[.pointer (some ⟨c,0,none⟩)]) v7 (.pointer (some ⟨b,0,none⟩)) v9 xa xb xc xd xe xf xg xh xi xj xk xl xm (.slice va ln vc) (.pointer (some ⟨b,0,none⟩)) (.int .i64 m.f) (.pointer (some ⟨b,1,none⟩)) (.int .i64 m.t) (.func (.func 103) #[] #[.pointer (some ⟨c,0,none⟩)]) (.pointer (some ⟨b,5,none⟩)) (.int .i64 m.q) (.pointer (some ⟨b,4,none⟩)) (.int .i64 m.w) (.int .i64 (y + m.q)) (.pointer (some ⟨b,4,none⟩)) (.int .i64 m.w) (.agg (glL (⟨m.f,m.t,y + m.q,m.w⟩ : Gl)).toArray) vv v' xE xF xG xH) w2) :
  (Code.region id (ops32_5 ps) true).wp Tryz.prog Q (fr32 v0 (.slice va ln vc) v2 v3 v4 v5 (.func (.func 103) #[] #[.pointer (some ⟨c,0,none⟩)]) v7 (.pointer (some ⟨b,0,none⟩)) v9 xa xb xc xd xe xf xg xh xi xj xk xl xm xn xo xp xq xr xt xu xv xw xx xy xz xA xB xC xD xE xF xG xH) w := by
 refine wp_region_held (S := MB5 b m) (by kernel_rfl) ?_
 change wpAnyH _ _ _ _ _ 17 _ _ (World.drew w)
 refine take_r 0 ⟨some 23,.move (.tmp 1),31,ps,#[],none⟩ (.slice va ln vc) hQ (fun w _ => by kernel_rfl) hS ?_
 refine take_r 1 ⟨some 24,.fieldAddr 53 (.tmp 8) 0,0,ps,#[],none⟩ (.pointer (some ⟨b,0,none⟩)) hQ (fun w hS => by unfold fr32; go_simp) hS ?_
 refine take_r 2 ⟨some 25,.load 3 (.tmp 24),3,ps,#[⟨1,.data⟩],none⟩ (.int .i64 m.f) hQ (fun w hS => by have e := hS.c0; unfold fr32; go_simp) hS ?_
 refine take_r 3 ⟨some 26,.fieldAddr 53 (.tmp 8) 1,0,ps,#[],none⟩ (.pointer (some ⟨b,1,none⟩)) hQ (fun w hS => by unfold fr32; go_simp) hS ?_
 refine take_r 4 ⟨some 27,.load 3 (.tmp 26),3,ps,#[⟨3,.data⟩],none⟩ (.int .i64 m.t) hQ (fun w hS => by have e := hS.c1; unfold fr32; go_simp) hS ?_
 refine take_k 5 (ops32_5_5 ps) (.func (.func 103) #[] #[.pointer (some ⟨c,0,none⟩)]) (fr32 v0 (.slice va ln vc) v2 v3 v4 v5 (.func (.func 103) #[] #[.pointer (some ⟨c,0,none⟩)]) v7 (.pointer (some ⟨b,0,none⟩)) v9 xa xb xc xd xe xf xg xh xi xj xk xl xm (.slice va ln vc) (.pointer (some ⟨b,0,none⟩)) (.int .i64 m.f) (.pointer (some ⟨b,1,none⟩)) (.int .i64 m.t) (.func (.func 103) #[] #[.pointer (some ⟨c,0,none⟩)]) xu xv xw xx xy xz xA xB xC xD xE xF xG xH) hQ (fun w _ => by kernel_rfl) hS ?_
 refine take_r 6 ⟨some 29,.fieldAddr 53 (.tmp 8) 5,0,ps,#[],none⟩ (.pointer (some ⟨b,5,none⟩)) hQ (fun w hS => by unfold fr32; go_simp) hS ?_
 refine take_r 7 ⟨some 30,.load 3 (.tmp 29),3,ps,#[⟨6,.data⟩],none⟩ (.int .i64 m.q) hQ (fun w hS => by have e := hS.c5; unfold fr32; go_simp) hS ?_
 refine take_r 8 ⟨some 31,.fieldAddr 53 (.tmp 8) 4,0,ps,#[],none⟩ (.pointer (some ⟨b,4,none⟩)) hQ (fun w hS => by unfold fr32; go_simp) hS ?_
 refine take_r 9 ⟨some 32,.load 3 (.tmp 31),3,ps,#[⟨8,.data⟩],none⟩ (.int .i64 m.w) hQ (fun w hS => by have e := hS.c4; unfold fr32; go_simp) hS ?_
 refine take_r 11 ⟨some 34,.fieldAddr 53 (.tmp 8) 4,0,ps,#[],none⟩ (.pointer (some ⟨b,4,none⟩)) hQ (fun w hS => by unfold fr32; go_simp) hS ?_
 refine take_k 12 (ops32_5_12 ps) (.int .i64 m.w) (fr32 v0 (.slice va ln vc) v2 v3 v4 v5 (.func (.func 103) #[] #[.pointer (some ⟨c,0,none⟩)]) v7 (.pointer (some ⟨b,0,none⟩)) v9 xa xb xc xd xe xf xg xh xi xj xk xl xm (.slice va ln vc) (.pointer (some ⟨b,0,none⟩)) (.int .i64 m.f) (.pointer (some ⟨b,1,none⟩)) (.int .i64 m.t) (.func (.func 103) #[] #[.pointer (some ⟨c,0,none⟩)]) (.pointer (some ⟨b,5,none⟩)) (.int .i64 m.q) (.pointer (some ⟨b,4,none⟩)) (.int .i64 m.w) xy (.pointer (some ⟨b,4,none⟩)) (.int .i64 m.w) xB xC xD xE xF xG xH) hQ (fun w hS => by have e := hS.c4; unfold fr32 ops32_5_12; go_simp) hS ?_
 refine want_k 10 (ops32_5_10 ps) fun K hK => ?_
 unfold fr32 ops32_5_10
 go_simp
 refine hc.out.mono ?_
 rintro e w1 ⟨rfl,hP,hS1⟩
 refine hK _ _ hS1 (cast_h (fr32 v0 (.slice va ln vc) v2 v3 v4 v5 (.func (.func 103) #[] #[.pointer (some ⟨c,0,none⟩)]) v7 (.pointer (some ⟨b,0,none⟩)) v9 xa xb xc xd xe xf xg xh xi xj xk xl xm (.slice va ln vc) (.pointer (some ⟨b,0,none⟩)) (.int .i64 m.f) (.pointer (some ⟨b,1,none⟩)) (.int .i64 m.t) (.func (.func 103) #[] #[.pointer (some ⟨c,0,none⟩)]) (.pointer (some ⟨b,5,none⟩)) (.int .i64 m.q) (.pointer (some ⟨b,4,none⟩)) (.int .i64 m.w) (.int .i64 (y + m.q)) (.pointer (some ⟨b,4,none⟩)) (.int .i64 m.w) xB xC xD xE xF xG xH) (by kernel_rfl) ?_)
 clear hK K
 refine take_r 13 ⟨some 36,.build 41 #[(0,.tmp 25),(1,.tmp 27),(2,.tmp 33),(3,.tmp 35)],41,ps,#[⟨2,.data⟩,⟨4,.data⟩,⟨10,.data⟩,⟨12,.data⟩],none⟩ (.agg (glL (⟨m.f,m.t,y + m.q,m.w⟩ : Gl)).toArray) hQ (fun w hS => by unfold fr32; go_simp; try rfl) hS1 ?_
 refine want_k 14 (ops32_5_14 ps) fun K hK => ?_
 refine wp_build31 _ (by unfold ops32_5_14; rfl) (⟨m.f,m.t,y + m.q,m.w⟩ : Gl) (by unfold fr32; rfl) ?_
 have hS2 : MB5 b m (w1.alloc (.cells (glL (⟨m.f,m.t,y + m.q,m.w⟩ : Gl)).toArray 41)) := hS1.alloc _
 refine hK _ _ hS2 (cast_h (fr32 v0 (.slice va ln vc) v2 v3 v4 v5 (.func (.func 103) #[] #[.pointer (some ⟨c,0,none⟩)]) v7 (.pointer (some ⟨b,0,none⟩)) v9 xa xb xc xd xe xf xg xh xi xj xk xl xm (.slice va ln vc) (.pointer (some ⟨b,0,none⟩)) (.int .i64 m.f) (.pointer (some ⟨b,1,none⟩)) (.int .i64 m.t) (.func (.func 103) #[] #[.pointer (some ⟨c,0,none⟩)]) (.pointer (some ⟨b,5,none⟩)) (.int .i64 m.q) (.pointer (some ⟨b,4,none⟩)) (.int .i64 m.w) (.int .i64 (y + m.q)) (.pointer (some ⟨b,4,none⟩)) (.int .i64 m.w) (.agg (glL (⟨m.f,m.t,y + m.q,m.w⟩ : Gl)).toArray) (.slice (some ⟨w1.heap.size,0,none⟩) 1 1) xD xE xF xG xH) (by kernel_rfl) ?_)
 clear hK K
 refine want_k 15 (ops32_5_15 ps) fun K hK => ?_
 obtain ⟨hr1,hr2,hr3⟩ := hrow.out w1 hP
 refine wp_app2 (k := 4) (f := glL) (w0 := w1) (bytes := 32) el31 glL_len glL_one (by omega) (by omega) _ _ (by unfold ops32_5_15; rfl) base (.slice va ln vc) L (⟨m.f,m.t,y + m.q,m.w⟩ : Gl) (by unfold fr32; rfl) hr1 hr2 hlen (by unfold fr32; rfl) rfl ?_
 intro v' w2 hr6 hT6 hw6
 have hS3 : MB5 b m w2 := hS1.turns hT6 hr3
 refine hK _ _ hS3 (cast_h (fr32 v0 (.slice va ln vc) v2 v3 v4 v5 (.func (.func 103) #[] #[.pointer (some ⟨c,0,none⟩)]) v7 (.pointer (some ⟨b,0,none⟩)) v9 xa xb xc xd xe xf xg xh xi xj xk xl xm (.slice va ln vc) (.pointer (some ⟨b,0,none⟩)) (.int .i64 m.f) (.pointer (some ⟨b,1,none⟩)) (.int .i64 m.t) (.func (.func 103) #[] #[.pointer (some ⟨c,0,none⟩)]) (.pointer (some ⟨b,5,none⟩)) (.int .i64 m.q) (.pointer (some ⟨b,4,none⟩)) (.int .i64 m.w) (.int .i64 (y + m.q)) (.pointer (some ⟨b,4,none⟩)) (.int .i64 m.w) (.agg (glL (⟨m.f,m.t,y + m.q,m.w⟩ : Gl)).toArray) (.slice (some ⟨w1.heap.size,0,none⟩) 1 1) v' xE xF xG xH) (by kernel_rfl) ?_)
 clear hK K
 refine take_r 16 ⟨some 1,.assign (.tmp 38),31,ps,#[⟨15,.data⟩,⟨15,.chain⟩,⟨0,.phase⟩,⟨1,.phase⟩,⟨2,.phase⟩,⟨3,.phase⟩,⟨4,.phase⟩,⟨5,.phase⟩,⟨6,.phase⟩,⟨7,.phase⟩,⟨8,.phase⟩,⟨9,.phase⟩,⟨10,.phase⟩,⟨11,.phase⟩,⟨12,.phase⟩,⟨13,.phase⟩,⟨14,.phase⟩,⟨15,.phase⟩],none⟩ (v') hQ (fun w _ => by kernel_rfl) hS3 ?_
 exact wpAnyH_done (by kernel_rfl) (hq _ w1 v' w2 hP hr6 hT6 hw6) _
end Go.Proofs.YtbdpghjegachaaaGreatDoor
