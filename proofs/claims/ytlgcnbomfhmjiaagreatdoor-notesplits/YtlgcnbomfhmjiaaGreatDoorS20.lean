/-
  What is proved here: lines in memory; the region of Lay that tells where a line ends.
-/
import Derived.Test.YtlgcnbomfhmjiaaGreatDoorS14
import Derived.Test.YtlgcnbomfhmjiaaGreatDoorS19
namespace Go.Proofs.YtlgcnbomfhmjiaaGreatDoor
open Go.RowKit Go.Shelf
set_option maxRecDepth 100000
set_option maxHeartbeats 1000000

structure Lx where
 f : Int
 t : Int
 x : Int
 w : Int
 nt : Int
 hy : Bool
 fl : Int
def lxL (y : Lx) : List Value := [.int .i64 y.f,.int .i64 y.t,.int .i64 y.x,.int .i64 y.w,.int .i64 y.nt,.bool y.hy,.int .i64 y.fl]
theorem lxL_len (y : Lx) : (lxL y).length = 7 := rfl
theorem lxL_one (y : Lx) : ∀ u ∈ lxL y,u.oneCell' = true := by
 intro u hu; simp [lxL] at hu; rcases hu with rfl | rfl | rfl | rfl | rfl | rfl | rfl <;> rfl
theorem lxL_all (y : Lx) : (lxL y).toArray.all (·.oneCell') = true := all_oneCell_toArray (lxL_one y)
theorem infoL51 (y : Lx) : (Tryz.prog.info? 47).map (·.size) = some (lxL y).toArray.size := by show _ = some 7; kernel_rfl
def lx0 : Lx := ⟨0,0,0,0,0,false,0⟩
abbrev LxsAt (W : World) (v : Value) (l : List Lx) : Prop := RecAt 7 lxL W v l
def glK {α : Type} (z : α) (f : Nat → α) (N k : Nat) : List α := (List.range N).map fun i => if i < k then f i else z
def glL {α : Type} (f : Nat → α) (N : Nat) : List α := (List.range N).map f
section
variable {α : Type} {z : α} {f : Nat → α} {N k : Nat}
theorem glK_len : (glK z f N k).length = N := by simp [glK]
theorem glL_len : (glL f N).length = N := by simp [glL]
theorem glK_zero : glK z f N 0 = List.replicate N z := by
 apply List.ext_getElem
 ·simp [glK]
 ·intro i h1 h2; simp [glK]
theorem glK_all : glK z f N N = glL f N := by
 apply List.ext_getElem
 ·simp [glK,glL]
 ·intro i h1 h2
  have : i < N := by simpa [glK] using h1
  simp [glK,glL,this]
theorem glK_set (_hk : k < N) : (glK z f N k).set k (f k) = glK z f N (k + 1) := by
 apply List.ext_getElem
 ·simp [glK]
 ·intro i h1 h2
  have hi : i < N := by simpa [glK] using h1
  rw [List.getElem_set]
  simp only [glK,List.getElem_map,List.getElem_range]
  split
  ·rename_i e; subst e; rw [if_pos (by omega)]
  ·split
   ·rw [if_pos (by omega)]
   ·rw [if_neg (by omega)]
end
theorem infoL51z : ∃ i z,Tryz.prog.info? 47 = some i ∧ i.zero = some z ∧ i.size = 7 ∧ i.bytes = 56 ∧ z = .agg (lxL lx0).toArray := by
 have h : (Tryz.prog.info? 47).map (fun i => (i.zero,i.size,i.bytes)) = some (some (.agg (lxL lx0).toArray),7,56) := by kernel_rfl
 cases hi : Tryz.prog.info? 47 with
 | none => rw [hi] at h; cases h
 | some i =>
  rw [hi] at h
  simp only [Option.map_some,Option.some.injEq,Prod.mk.injEq] at h
  obtain ⟨h1,h2,h3⟩ := h
  exact ⟨i,_,rfl,h1,h2,h3,rfl⟩
theorem make34 {n : Nat} (h : n ≤ 9100) (W : World) : (Instr.makeSlice 23 (.int .i64 (n : Int)) (.int .i64 (n : Int))).run Tryz.prog W = .ok (.slice (some ⟨W.heap.size,0,none⟩) n n) (W.alloc (.cells ((List.replicate n lx0).flatMap lxL).toArray 47)) := by
 obtain ⟨i9,z,hi,hz0,hz1,hz2,rfl⟩ := infoL51z
 have := run_makeSlice (P := Tryz.prog) (w := W) 23 47 i9 _ Tryz.underlying23 hi hz0 .i64 .i64 n n (by omega) (by omega) (by rw [hz1]; omega) (by rw [hz2]; omega) (by omega)
 rw [hz1,Int.toNat_natCast] at this
 rw [← made_rec lxL_len (by omega)]
 exact this
theorem made34 (W : World) (n : Nat) : RB 7 lxL (W.alloc (.cells ((List.replicate n lx0).flatMap lxL).toArray 47)) W.heap.size (List.replicate n lx0) :=
 RB.of_row (World.alloc_heap_new W _) fun i hi j v hv => by
  have hj : j < 7 := by have := (List.getElem?_eq_some_iff.1 hv).1; rw [lxL_len] at this; exact this
  have := fm_get lxL_len (List.replicate n lx0) hi j hj
  rw [hv] at this
  simpa using this
theorem low59 (a : Option Addr) (n cap f : Nat) (h1 : f ≤ n) (h2 : n ≤ cap) : ∃ a',(∀ W : World,(Instr.slice 70 (.slice a n cap) (some (.int .i64 (f : Int))) none none).run Tryz.prog W = .ok (.slice a' (n - f) (cap - f)) W) ∧ ∀ b o,a = some ⟨b,o,none⟩ → f < n → a' = some ⟨b,o + f * 5,none⟩ := by
 have he : Tryz.prog.elem 70 = 76 := by kernel_rfl
 have hu : Tryz.prog.underlying 70 = some (.slice (Tryz.prog.elem 70)) := by rw [he]; exact Tryz.underlying70
 have hr := fun W => run_slice_l (P := Tryz.prog) (w := W) 70 a n cap hu .i64 f (by omega) (by omega)
 have hs : ∀ W,(sizeOf (Tryz.prog.elem 70)).run Tryz.prog W = .ok 5 W := fun W => by kernel_rfl
 simp only [hs,Result.andThen,sliced,Int.toNat_natCast] at hr
 refine ⟨_,hr,fun b o e hlt => ?_⟩
 rw [if_neg (by omega),e]
 simp [addr_add]
theorem drop_pcs {W : World} {a : Option Addr} {n cap : Nat} {l : List Pc} (h : PcsAt W (.slice a n cap) l) {f : Nat} (h1 : f ≤ l.length) {a' : Option Addr} (ha : ∀ b o,a = some ⟨b,o,none⟩ → f < l.length → a' = some ⟨b,o + f * 5,none⟩) : PcsAt W (.slice a' (l.length - f) (cap - f)) (l.drop f) := by
 have hle := h.le _ _ _ rfl
 obtain ⟨a0,cap0,e1,e2⟩ := h.ex
 cases e1
 have hl : (l.drop f).length = l.length - f := List.length_drop
 refine ⟨⟨a',cap - f,by rw [hl],?_⟩,fun _ _ _ e => by cases e; omega⟩
 rcases e2 with e2 | ⟨b,o,rfl,hb,hc⟩
 ·left; subst e2; simp
 ·by_cases hft : f < l.length
  ·refine .inr ⟨b,o + f * 5,ha b o rfl hft,hb,fun i hi j u hu => ?_⟩
   rw [hl] at hi
   rw [List.getElem_drop] at hu
   have := hc (f + i) (by omega) j u hu
   rw [show o + f * 5 + i * 5 + j = o + (f + i) * 5 + j by omega]
   exact this
  ·left
   exact List.drop_eq_nil_of_le (by omega)
theorem pcs_range {W : World} {a : Option Addr} {n cap : Nat} {l : List Pc} (h : PcsAt W (.slice a n cap) l) {i : Nat} (hi : i < l.length) : ∃ b o,a = some ⟨b,o,none⟩ ∧ b < W.heap.size ∧ W.rangeAt b (o + i * 5) (pcL l[i]) := by
 obtain ⟨a',cap',h1,h2⟩ := h.ex
 cases h1
 rcases h2 with h2 | ⟨b,o,rfl,hb,hc⟩
 ·subst h2; simp at hi
 ·exact ⟨b,o,rfl,hb,fun j v hv => hc i hi j v hv⟩
structure LrS (X G P Z : Nat) (a : Pa) (L : List It) (pl : List Pc) (p : Pc) (s : Sl) (M : List Lx) (v vp : Value) (W : World) : Prop where
 pb : PB W X a
 hl : ItsAt W v L
 hp : PcsAt W vp pl
 bp : W.heap[P]? = some (.cells (pcL p).toArray 76 (0,0))
 bs : W.heap[Z]? = some (.cells (slL s).toArray 53 (0,0))
 rb : RB 7 lxL W G M
section
variable {X G P Z : Nat} {a : Pa} {L : List It} {pl : List Pc} {p : Pc} {s : Sl} {M : List Lx} {v vp : Value} {W W' : World}
theorem LrS.below (h : LrS X G P Z a L pl p s M v vp W) (hb : Below W.heap.size W W') : LrS X G P Z a L pl p s M v vp W' :=
 ⟨h.pb.below hb h.pb.lt,h.hl.below hb (Nat.le_refl _),h.hp.below hb (Nat.le_refl _),(hb.block _ (Array.getElem?_eq_some_iff.1 h.bp).1).trans h.bp,(hb.block _ (Array.getElem?_eq_some_iff.1 h.bs).1).trans h.bs,h.rb.below hb h.rb.lt⟩
end
theorem load_r70 {a : Act} {w : World} {D : Nat} {p : Pc} {o : Oper} {x : Operand} (h : w.heap[D]? = some (.cells (pcL p).toArray 76 (0,0))) (ho : o.op = .load 76 x) (hx : a.eval x = .pointer (some ⟨D,0,none⟩)) : (execOp a.eval o).run Tryz.prog w = .ok (.value (.agg (pcL p).toArray)) w := by
 have hl := run_loadVar_row (P := Tryz.prog) w D 76 76 (pcL p).toArray (0,0) _ h Tryz.underlying76 rfl (info41 p)
 simp [execOp,ho,hx,Instr.loadAt,Instr.sureAddr,hl]
theorem load_r30 {a : Act} {w : World} {D : Nat} {p : Sl} {o : Oper} {x : Operand} (h : w.heap[D]? = some (.cells (slL p).toArray 53 (0,0))) (ho : o.op = .load 53 x) (hx : a.eval x = .pointer (some ⟨D,0,none⟩)) : (execOp a.eval o).run Tryz.prog w = .ok (.value (.agg (slL p).toArray)) w := by
 have hl := run_loadVar_row (P := Tryz.prog) w D 53 53 (slL p).toArray (0,0) _ h Tryz.underlying53 rfl (info25t p)
 simp [execOp,ho,hx,Instr.loadAt,Instr.sureAddr,hl]
theorem wrap_sp {k : Nat} (h : k ≤ 9000) : IntKind.i64.wrap ((k : Int) + 1) = (k : Int) + 1 := by rw [IntKind.wrap_i64]; omega
def frp11 (v0 v1 v2 v3 v4 v5 v6 v7 v8 v9 xa xb xc xd xe xf xg xh xi xj xk xl xm xn xo xp xq xr xt xu xv xw xx xy xz xA xB xC xD xE xF xG xH xI xJ xK xL xM xN xO xP xQ xR xS xT xU xV xW xX xY xZ ya yb yc yd ye yf yg yh yi yj yk yl ym yn yo yp yq yr yt yu yv yw yx yy yz yA : Value) : Act := { tmps := #[v0,v1,v2,v3,v4,v5,v6,v7,v8,v9,xa,xb,xc,xd,xe,xf,xg,xh,xi,xj,xk,xl,xm,xn,xo,xp,xq,xr,xt,xu,xv,xw,xx,xy,xz,xA,xB,xC,xD,xE,xF,xG,xH,xI,xJ,xK,xL,xM,xN,xO,xP,xQ,xR,xS,xT,xU,xV,xW,xX,xY,xZ,ya,yb,yc,yd,ye,yf,yg,yh,yi,yj,yk,yl,ym,yn,yo,yp,yq,yr,yt,yu,yv,yw,yx,yy,yz,yA],defers := [] }
def opp11_12_0 (ps : String) : Oper := ⟨some 57,.load 36 (.tmp 3),36,ps,#[],none⟩
def opp11_12_1 (ps : String) : Oper := ⟨some 58,.move (.tmp 11),68,ps,#[],none⟩
def opp11_12_2 (ps : String) : Oper := ⟨some 59,.move (.tmp 12),70,ps,#[],none⟩
def opp11_12_3 (ps : String) : Oper := ⟨some 60,.move (.tmp 16),3,ps,#[],none⟩
def opp11_12_4 (ps : String) : Oper := ⟨some 61,.binOp .add 3 (.tmp 60) (.const (.int .i64 1)) 3,3,ps,#[⟨3,.data⟩],none⟩
def opp11_12_5 (ps : String) : Oper := ⟨some 62,.slice 70 (.tmp 59) (some (.tmp 61)) none none,70,ps,#[⟨2,.data⟩,⟨4,.data⟩],none⟩
def opp11_12_6 (ps : String) : Oper := ⟨some 63,.call ⟨.value (.func 38),#[.tmp 57,.tmp 58,.tmp 62],#[36,68,70]⟩,3,ps,#[⟨0,.data⟩,⟨1,.data⟩,⟨5,.data⟩],none⟩
def opp11_12_7 (ps : String) : Oper := ⟨some 19,.assign (.tmp 63),3,ps,#[⟨6,.data⟩,⟨6,.chain⟩,⟨0,.phase⟩,⟨1,.phase⟩,⟨2,.phase⟩,⟨3,.phase⟩,⟨4,.phase⟩,⟨5,.phase⟩,⟨6,.phase⟩],none⟩
def opp11_12 (ps : String) : Array Oper := #[opp11_12_0 ps,opp11_12_1 ps,opp11_12_2 ps,opp11_12_3 ps,opp11_12_4 ps,opp11_12_5 ps,opp11_12_6 ps,opp11_12_7 ps]

theorem ly_r12 (Q : Exit → Act → World → Prop) (hQ : ∀ c x (n : Nat) v w,Q (.panic c) (x.put (some n) v) w → Q (.panic c) x w) (id : Nat) (ps : String) {v0 v1 v2 v4 v5 v6 v7 v8 v9 xa xd xe xf xh xi xj xk xl xm xn xo xp xq xr xt xu xv xw xx xy xz xA xB xC xD xE xF xG xH xI xJ xK xL xM xN xO xP xQ xR xS xT xU xV xW xX xY xZ ya yb yc yd ye yf yg yh yi yj yk yl ym yn yo yp yq yr yt yu yv yw yx yy yz yA : Value} (z : World) (X G P Z k : Nat) (a : Pa) (L : List It) (pl : List Pc) (p : Pc) (s : Sl) (M : List Lx) (a1 a2 a3 : Option Addr) (c1 c2 : Nat) (w : World) (hS : LrS X G P Z a L pl p s M (.slice a1 L.length c1) (.slice a2 pl.length c2) (World.drew w))
  (hz0 : Below z.heap.size z (World.drew w)) (hk : k + 1 ≤ pl.length) (hk8 : k ≤ 9000) (hlt : ∀ p ∈ (pl.drop (k + 1)).head?,p.a < L.length) (hsl : ∀ W : World,(Instr.slice 70 (.slice a2 pl.length c2) (some (.int .i64 ((k : Int) + 1))) none none).run Tryz.prog W = .ok (.slice a3 (pl.length - (k + 1)) (c2 - (k + 1))) W) (h3 : ∀ b o,a2 = some ⟨b,o,none⟩ → k + 1 < pl.length → a3 = some ⟨b,o + (k + 1) * 5,none⟩)
  (hq : ∀ w',Below z.heap.size z w' → (LrS X G P Z a L pl p s M (.slice a1 L.length c1) (.slice a2 pl.length c2)) w' → Q .normal (frp11 v0 v1 v2 (.pointer (some ⟨X,0,none⟩)) v4 v5 v6 v7 v8 v9 xa (.slice a1 L.length c1) (.slice a2 pl.length c2) xd xe xf (.int .i64 (k : Nat)) xh xi (.int .i64 (edI a L (pl.drop (k + 1)))) xk xl xm xn xo xp xq xr xt xu xv xw xx xy xz xA xB xC xD xE xF xG xH xI xJ xK xL xM xN xO xP xQ xR xS xT xU xV (.agg (paC a)) (.slice a1 L.length c1) (.slice a2 pl.length c2) (.int .i64 (k : Nat)) (.int .i64 ((k : Int) + 1)) (.slice a3 (pl.length - (k + 1)) (c2 - (k + 1))) (.int .i64 (edI a L (pl.drop (k + 1)))) yd ye yf yg yh yi yj yk yl ym yn yo yp yq yr yt yu yv yw yx yy yz yA) w') :
  (Code.region id (opp11_12 ps) true).wp Tryz.prog Q (frp11 v0 v1 v2 (.pointer (some ⟨X,0,none⟩)) v4 v5 v6 v7 v8 v9 xa (.slice a1 L.length c1) (.slice a2 pl.length c2) xd xe xf (.int .i64 (k : Nat)) xh xi xj xk xl xm xn xo xp xq xr xt xu xv xw xx xy xz xA xB xC xD xE xF xG xH xI xJ xK xL xM xN xO xP xQ xR xS xT xU xV xW xX xY xZ ya yb yc yd ye yf yg yh yi yj yk yl ym yn yo yp yq yr yt yu yv yw yx yy yz yA) w := by
 refine wp_region_held (S := LrS X G P Z a L pl p s M (.slice a1 L.length c1) (.slice a2 pl.length c2)) (by kernel_rfl) ?_
 change wpAnyH _ _ _ _ _ 8 _ _ (World.drew w)
 refine take_h (i := 0) (oi := opp11_12_0 ps) (fuel := 7) (v := (.agg (paC a))) (frp11 v0 v1 v2 (.pointer (some ⟨X,0,none⟩)) v4 v5 v6 v7 v8 v9 xa (.slice a1 L.length c1) (.slice a2 pl.length c2) xd xe xf (.int .i64 (k : Nat)) xh xi xj xk xl xm xn xo xp xq xr xt xu xv xw xx xy xz xA xB xC xD xE xF xG xH xI xJ xK xL xM xN xO xP xQ xR xS xT xU xV (.agg (paC a)) xX xY xZ ya yb yc yd ye yf yg yh yi yj yk yl ym yn yo yp yq yr yt yu yv yw yx yy yz yA) (by kernel_rfl) (by kernel_rfl) (by kernel_rfl) (by kernel_rfl) (fun c x w => hQ c x _ _ w) (by kernel_rfl) (fun w hS => load_pa hS.pb rfl rfl) (by kernel_rfl) hS ?_
 refine take_h (i := 1) (oi := opp11_12_1 ps) (fuel := 6) (v := (.slice a1 L.length c1)) (frp11 v0 v1 v2 (.pointer (some ⟨X,0,none⟩)) v4 v5 v6 v7 v8 v9 xa (.slice a1 L.length c1) (.slice a2 pl.length c2) xd xe xf (.int .i64 (k : Nat)) xh xi xj xk xl xm xn xo xp xq xr xt xu xv xw xx xy xz xA xB xC xD xE xF xG xH xI xJ xK xL xM xN xO xP xQ xR xS xT xU xV (.agg (paC a)) (.slice a1 L.length c1) xY xZ ya yb yc yd ye yf yg yh yi yj yk yl ym yn yo yp yq yr yt yu yv yw yx yy yz yA) (by kernel_rfl) (by kernel_rfl) (by kernel_rfl) (by kernel_rfl) (fun c x w => hQ c x _ _ w) (by kernel_rfl) (fun w _ => by kernel_rfl) (by kernel_rfl) hS ?_
 refine take_h (i := 2) (oi := opp11_12_2 ps) (fuel := 5) (v := (.slice a2 pl.length c2)) (frp11 v0 v1 v2 (.pointer (some ⟨X,0,none⟩)) v4 v5 v6 v7 v8 v9 xa (.slice a1 L.length c1) (.slice a2 pl.length c2) xd xe xf (.int .i64 (k : Nat)) xh xi xj xk xl xm xn xo xp xq xr xt xu xv xw xx xy xz xA xB xC xD xE xF xG xH xI xJ xK xL xM xN xO xP xQ xR xS xT xU xV (.agg (paC a)) (.slice a1 L.length c1) (.slice a2 pl.length c2) xZ ya yb yc yd ye yf yg yh yi yj yk yl ym yn yo yp yq yr yt yu yv yw yx yy yz yA) (by kernel_rfl) (by kernel_rfl) (by kernel_rfl) (by kernel_rfl) (fun c x w => hQ c x _ _ w) (by kernel_rfl) (fun w _ => by kernel_rfl) (by kernel_rfl) hS ?_
 refine take_h (i := 3) (oi := opp11_12_3 ps) (fuel := 4) (v := (.int .i64 (k : Nat))) (frp11 v0 v1 v2 (.pointer (some ⟨X,0,none⟩)) v4 v5 v6 v7 v8 v9 xa (.slice a1 L.length c1) (.slice a2 pl.length c2) xd xe xf (.int .i64 (k : Nat)) xh xi xj xk xl xm xn xo xp xq xr xt xu xv xw xx xy xz xA xB xC xD xE xF xG xH xI xJ xK xL xM xN xO xP xQ xR xS xT xU xV (.agg (paC a)) (.slice a1 L.length c1) (.slice a2 pl.length c2) (.int .i64 (k : Nat)) ya yb yc yd ye yf yg yh yi yj yk yl ym yn yo yp yq yr yt yu yv yw yx yy yz yA) (by kernel_rfl) (by kernel_rfl) (by kernel_rfl) (by kernel_rfl) (fun c x w => hQ c x _ _ w) (by kernel_rfl) (fun w _ => by kernel_rfl) (by kernel_rfl) hS ?_
 refine take_h (i := 4) (oi := opp11_12_4 ps) (fuel := 3) (v := (.int .i64 ((k : Int) + 1))) (frp11 v0 v1 v2 (.pointer (some ⟨X,0,none⟩)) v4 v5 v6 v7 v8 v9 xa (.slice a1 L.length c1) (.slice a2 pl.length c2) xd xe xf (.int .i64 (k : Nat)) xh xi xj xk xl xm xn xo xp xq xr xt xu xv xw xx xy xz xA xB xC xD xE xF xG xH xI xJ xK xL xM xN xO xP xQ xR xS xT xU xV (.agg (paC a)) (.slice a1 L.length c1) (.slice a2 pl.length c2) (.int .i64 (k : Nat)) (.int .i64 ((k : Int) + 1)) yb yc yd ye yf yg yh yi yj yk yl ym yn yo yp yq yr yt yu yv yw yx yy yz yA) (by kernel_rfl) (by kernel_rfl) (by kernel_rfl) (by kernel_rfl) (fun c x w => hQ c x _ _ w) (by kernel_rfl) (fun w hS => by unfold frp11 opp11_12_4; go_simp; try exact wrap_sp hk8) (by kernel_rfl) hS ?_
 refine take_h (i := 5) (oi := opp11_12_5 ps) (fuel := 2) (v := (.slice a3 (pl.length - (k + 1)) (c2 - (k + 1)))) (frp11 v0 v1 v2 (.pointer (some ⟨X,0,none⟩)) v4 v5 v6 v7 v8 v9 xa (.slice a1 L.length c1) (.slice a2 pl.length c2) xd xe xf (.int .i64 (k : Nat)) xh xi xj xk xl xm xn xo xp xq xr xt xu xv xw xx xy xz xA xB xC xD xE xF xG xH xI xJ xK xL xM xN xO xP xQ xR xS xT xU xV (.agg (paC a)) (.slice a1 L.length c1) (.slice a2 pl.length c2) (.int .i64 (k : Nat)) (.int .i64 ((k : Int) + 1)) (.slice a3 (pl.length - (k + 1)) (c2 - (k + 1))) yc yd ye yf yg yh yi yj yk yl ym yn yo yp yq yr yt yu yv yw yx yy yz yA) (by kernel_rfl) (by kernel_rfl) (by kernel_rfl) (by kernel_rfl) (fun c x w => hQ c x _ _ w) (by kernel_rfl) (fun w hS => by have e := hsl w; unfold frp11 opp11_12_5; go_simp) (by kernel_rfl) hS ?_
 refine want_h (i := 6) (oi := opp11_12_6 ps) (fuel := 1) (by kernel_rfl) (by kernel_rfl) (by kernel_rfl) fun K hK => ?_
 unfold frp11 opp11_12_6
 go_simp
 refine (end33 a (.slice a1 L.length c1) (.slice a3 (pl.length - (k + 1)) (c2 - (k + 1))) L (pl.drop (k + 1)) hlt _ hS.hl (drop_pcs hS.hp hk h3)).mono ?_
 rintro e w1 ⟨rfl,hb1⟩
 have hS1 : LrS X G P Z a L pl p s M (.slice a1 L.length c1) (.slice a2 pl.length c2) w1 := hS.below hb1
 have hz1 := hz0.trans (hb1.mono hz0.size)
 refine hK _ _ hS1 (cast_h (frp11 v0 v1 v2 (.pointer (some ⟨X,0,none⟩)) v4 v5 v6 v7 v8 v9 xa (.slice a1 L.length c1) (.slice a2 pl.length c2) xd xe xf (.int .i64 (k : Nat)) xh xi xj xk xl xm xn xo xp xq xr xt xu xv xw xx xy xz xA xB xC xD xE xF xG xH xI xJ xK xL xM xN xO xP xQ xR xS xT xU xV (.agg (paC a)) (.slice a1 L.length c1) (.slice a2 pl.length c2) (.int .i64 (k : Nat)) (.int .i64 ((k : Int) + 1)) (.slice a3 (pl.length - (k + 1)) (c2 - (k + 1))) (.int .i64 (edI a L (pl.drop (k + 1)))) yd ye yf yg yh yi yj yk yl ym yn yo yp yq yr yt yu yv yw yx yy yz yA) (by kernel_rfl) ?_)
 clear hK K
 refine take_h (i := 7) (oi := opp11_12_7 ps) (fuel := 0) (v := (.int .i64 (edI a L (pl.drop (k + 1))))) (frp11 v0 v1 v2 (.pointer (some ⟨X,0,none⟩)) v4 v5 v6 v7 v8 v9 xa (.slice a1 L.length c1) (.slice a2 pl.length c2) xd xe xf (.int .i64 (k : Nat)) xh xi (.int .i64 (edI a L (pl.drop (k + 1)))) xk xl xm xn xo xp xq xr xt xu xv xw xx xy xz xA xB xC xD xE xF xG xH xI xJ xK xL xM xN xO xP xQ xR xS xT xU xV (.agg (paC a)) (.slice a1 L.length c1) (.slice a2 pl.length c2) (.int .i64 (k : Nat)) (.int .i64 ((k : Int) + 1)) (.slice a3 (pl.length - (k + 1)) (c2 - (k + 1))) (.int .i64 (edI a L (pl.drop (k + 1)))) yd ye yf yg yh yi yj yk yl ym yn yo yp yq yr yt yu yv yw yx yy yz yA) (by kernel_rfl) (by kernel_rfl) (by kernel_rfl) (by kernel_rfl) (fun c x w => hQ c x _ _ w) (by kernel_rfl) (fun w _ => by kernel_rfl) (by kernel_rfl) hS1 ?_
 exact wpAnyH_done (by kernel_rfl) (hq _ hz1 hS1) _
end Go.Proofs.YtlgcnbomfhmjiaaGreatDoor
