/-
  What is proved here: lines in memory; the region of Lay that tells where a line ends.
  What is proved here: the region of Lay that tells of a line.
-/
import Derived.Test.YtfiekhephkpdjaaGreatDoorG1
import Derived.Test.YtfiekhephkpdjaaGreatDoorG21
import Derived.Test.YtfiekhephkpdjaaGreatDoorG32
namespace Go.Proofs.YtfiekhephkpdjaaGreatDoor
open Go.RowKit Go.Shelf
set_option maxRecDepth 100000
set_option maxHeartbeats 1000000

structure Lx where
 f : Int
 t : Int
 x : Int
 w : Int
 nt : Int
 hy : Bool
 fl : Int
def lxL (y : Lx) : List Value := [.int .i64 y.f,.int .i64 y.t,.int .i64 y.x,.int .i64 y.w,.int .i64 y.nt,.bool y.hy,.int .i64 y.fl]
theorem lxL_len (y : Lx) : (lxL y).length = 7 := rfl
theorem lxL_one (y : Lx) : ∀ u ∈ lxL y,u.oneCell' = true := by
 intro u hu; simp [lxL] at hu; rcases hu with rfl | rfl | rfl | rfl | rfl | rfl | rfl <;> rfl
theorem lxL_all (y : Lx) : (lxL y).toArray.all (·.oneCell') = true := all_oneCell_toArray (lxL_one y)
theorem infoL51 (y : Lx) : (Tryz.prog.info? 34).map (·.size) = some (lxL y).toArray.size := by show _ = some 7; kernel_rfl
def lx0 : Lx := ⟨0,0,0,0,0,false,0⟩
abbrev LxsAt (W : World) (v : Value) (l : List Lx) : Prop := RecAt 7 lxL W v l
def glK {α : Type} (z : α) (f : Nat → α) (N k : Nat) : List α := (List.range N).map fun i => if i < k then f i else z
def glL {α : Type} (f : Nat → α) (N : Nat) : List α := (List.range N).map f
section
variable {α : Type} {z : α} {f : Nat → α} {N k : Nat}
theorem glK_len : (glK z f N k).length = N := by simp [glK]
theorem glL_len : (glL f N).length = N := by simp [glL]
theorem glK_zero : glK z f N 0 = List.replicate N z := by
 apply List.ext_getElem
 ·simp [glK]
 ·intro i h1 h2; simp [glK]
theorem glK_all : glK z f N N = glL f N := by
 apply List.ext_getElem
 ·simp [glK,glL]
 ·intro i h1 h2
  have : i < N := by simpa [glK] using h1
  simp [glK,glL,this]
theorem glK_set (_hk : k < N) : (glK z f N k).set k (f k) = glK z f N (k + 1) := by
 apply List.ext_getElem
 ·simp [glK]
 ·intro i h1 h2
  have hi : i < N := by simpa [glK] using h1
  rw [List.getElem_set]
  simp only [glK,List.getElem_map,List.getElem_range]
  split
  ·rename_i e; subst e; rw [if_pos (by omega)]
  ·split
   ·rw [if_pos (by omega)]
   ·rw [if_neg (by omega)]
end
theorem infoL51z : ∃ i z,Tryz.prog.info? 34 = some i ∧ i.zero = some z ∧ i.size = 7 ∧ i.bytes = 56 ∧ z = .agg (lxL lx0).toArray := by
 have h : (Tryz.prog.info? 34).map (fun i => (i.zero,i.size,i.bytes)) = some (some (.agg (lxL lx0).toArray),7,56) := by kernel_rfl
 cases hi : Tryz.prog.info? 34 with
 | none => rw [hi] at h; cases h
 | some i =>
  rw [hi] at h
  simp only [Option.map_some,Option.some.injEq,Prod.mk.injEq] at h
  obtain ⟨h1,h2,h3⟩ := h
  exact ⟨i,_,rfl,h1,h2,h3,rfl⟩
theorem make34 {n : Nat} (h : n ≤ 9100) (W : World) : (Instr.makeSlice 35 (.int .i64 (n : Int)) (.int .i64 (n : Int))).run Tryz.prog W = .ok (.slice (some ⟨W.heap.size,0,none⟩) n n) (W.alloc (.cells ((List.replicate n lx0).flatMap lxL).toArray 34)) := by
 obtain ⟨i9,z,hi,hz0,hz1,hz2,rfl⟩ := infoL51z
 have := run_makeSlice (P := Tryz.prog) (w := W) 35 34 i9 _ Tryz.underlying35 hi hz0 .i64 .i64 n n (by omega) (by omega) (by rw [hz1]; omega) (by rw [hz2]; omega) (by omega)
 rw [hz1,Int.toNat_natCast] at this
 rw [← made_rec lxL_len (by omega)]
 exact this
theorem made34 (W : World) (n : Nat) : RB 7 lxL (W.alloc (.cells ((List.replicate n lx0).flatMap lxL).toArray 34)) W.heap.size (List.replicate n lx0) :=
 RB.of_row (World.alloc_heap_new W _) fun i hi j v hv => by
  have hj : j < 7 := by have := (List.getElem?_eq_some_iff.1 hv).1; rw [lxL_len] at this; exact this
  have := fm_get lxL_len (List.replicate n lx0) hi j hj
  rw [hv] at this
  simpa using this
theorem low59 (a : Option Addr) (n cap f : Nat) (h1 : f ≤ n) (h2 : n ≤ cap) : ∃ a',(∀ W : World,(Instr.slice 50 (.slice a n cap) (some (.int .i64 (f : Int))) none none).run Tryz.prog W = .ok (.slice a' (n - f) (cap - f)) W) ∧ ∀ b o,a = some ⟨b,o,none⟩ → f < n → a' = some ⟨b,o + f * 5,none⟩ := by
 have he : Tryz.prog.elem 50 = 56 := by kernel_rfl
 have hu : Tryz.prog.underlying 50 = some (.slice (Tryz.prog.elem 50)) := by rw [he]; exact Tryz.underlying50
 have hr := fun W => run_slice_l (P := Tryz.prog) (w := W) 50 a n cap hu .i64 f (by omega) (by omega)
 have hs : ∀ W,(sizeOf (Tryz.prog.elem 50)).run Tryz.prog W = .ok 5 W := fun W => by kernel_rfl
 simp only [hs,Result.andThen,sliced,Int.toNat_natCast] at hr
 refine ⟨_,hr,fun b o e hlt => ?_⟩
 rw [if_neg (by omega),e]
 simp [addr_add]
theorem drop_pcs {W : World} {a : Option Addr} {n cap : Nat} {l : List Pc} (h : PcsAt W (.slice a n cap) l) {f : Nat} (h1 : f ≤ l.length) {a' : Option Addr} (ha : ∀ b o,a = some ⟨b,o,none⟩ → f < l.length → a' = some ⟨b,o + f * 5,none⟩) : PcsAt W (.slice a' (l.length - f) (cap - f)) (l.drop f) := by
 have hle := h.le _ _ _ rfl
 obtain ⟨a0,cap0,e1,e2⟩ := h.ex
 cases e1
 have hl : (l.drop f).length = l.length - f := List.length_drop
 refine ⟨⟨a',cap - f,by rw [hl],?_⟩,fun _ _ _ e => by cases e; omega⟩
 rcases e2 with e2 | ⟨b,o,rfl,hb,hc⟩
 ·left; subst e2; simp
 ·by_cases hft : f < l.length
  ·refine .inr ⟨b,o + f * 5,ha b o rfl hft,hb,fun i hi j u hu => ?_⟩
   rw [hl] at hi
   rw [List.getElem_drop] at hu
   have := hc (f + i) (by omega) j u hu
   rw [show o + f * 5 + i * 5 + j = o + (f + i) * 5 + j by omega]
   exact this
  ·left
   exact List.drop_eq_nil_of_le (by omega)
theorem pcs_range {W : World} {a : Option Addr} {n cap : Nat} {l : List Pc} (h : PcsAt W (.slice a n cap) l) {i : Nat} (hi : i < l.length) : ∃ b o,a = some ⟨b,o,none⟩ ∧ b < W.heap.size ∧ W.rangeAt b (o + i * 5) (pcL l[i]) := by
 obtain ⟨a',cap',h1,h2⟩ := h.ex
 cases h1
 rcases h2 with h2 | ⟨b,o,rfl,hb,hc⟩
 ·subst h2; simp at hi
 ·exact ⟨b,o,rfl,hb,fun j v hv => hc i hi j v hv⟩
structure LrS (X G P Z : Nat) (a : Pa) (L : List It) (pl : List Pc) (p : Pc) (s : Sl) (M : List Lx) (v vp : Value) (W : World) : Prop where
 pb : PB W X a
 hl : ItsAt W v L
 hp : PcsAt W vp pl
 bp : W.heap[P]? = some (.cells (pcL p).toArray 56 (0,0))
 bs : W.heap[Z]? = some (.cells (slL s).toArray 32 (0,0))
 rb : RB 7 lxL W G M
section
variable {X G P Z : Nat} {a : Pa} {L : List It} {pl : List Pc} {p : Pc} {s : Sl} {M : List Lx} {v vp : Value} {W W' : World}
theorem LrS.below (h : LrS X G P Z a L pl p s M v vp W) (hb : Below W.heap.size W W') : LrS X G P Z a L pl p s M v vp W' :=
 ⟨h.pb.below hb h.pb.lt,h.hl.below hb (Nat.le_refl _),h.hp.below hb (Nat.le_refl _),(hb.block _ (Array.getElem?_eq_some_iff.1 h.bp).1).trans h.bp,(hb.block _ (Array.getElem?_eq_some_iff.1 h.bs).1).trans h.bs,h.rb.below hb h.rb.lt⟩
end
theorem load_r70 {a : Act} {w : World} {D : Nat} {p : Pc} {o : Oper} {x : Operand} (h : w.heap[D]? = some (.cells (pcL p).toArray 56 (0,0))) (ho : o.op = .load 56 x) (hx : a.eval x = .pointer (some ⟨D,0,none⟩)) : (execOp a.eval o).run Tryz.prog w = .ok (.value (.agg (pcL p).toArray)) w := by
 have hl := run_loadVar_row (P := Tryz.prog) w D 56 56 (pcL p).toArray (0,0) _ h Tryz.underlying56 rfl (info41 p)
 simp [execOp,ho,hx,Instr.loadAt,Instr.sureAddr,hl]
theorem load_r30 {a : Act} {w : World} {D : Nat} {p : Sl} {o : Oper} {x : Operand} (h : w.heap[D]? = some (.cells (slL p).toArray 32 (0,0))) (ho : o.op = .load 32 x) (hx : a.eval x = .pointer (some ⟨D,0,none⟩)) : (execOp a.eval o).run Tryz.prog w = .ok (.value (.agg (slL p).toArray)) w := by
 have hl := run_loadVar_row (P := Tryz.prog) w D 32 32 (slL p).toArray (0,0) _ h Tryz.underlying32 rfl (info25t p)
 simp [execOp,ho,hx,Instr.loadAt,Instr.sureAddr,hl]
theorem wrap_sp {k : Nat} (h : k ≤ 9000) : IntKind.i64.wrap ((k : Int) + 1) = (k : Int) + 1 := by rw [IntKind.wrap_i64]; omega
def frp11 (v0 v1 v2 v3 v4 v5 v6 v7 v8 v9 xa xb xc xd xe xf xg xh xi xj xk xl xm xn xo xp xq xr xt xu xv xw xx xy xz xA xB xC xD xE xF xG xH xI xJ xK xL xM xN xO xP xQ xR xS xT xU xV xW xX xY xZ ya yb yc yd ye yf yg yh yi yj yk yl ym yn yo yp yq yr yt yu yv yw yx yy yz yA : Value) : Act := { tmps := #[v0,v1,v2,v3,v4,v5,v6,v7,v8,v9,xa,xb,xc,xd,xe,xf,xg,xh,xi,xj,xk,xl,xm,xn,xo,xp,xq,xr,xt,xu,xv,xw,xx,xy,xz,xA,xB,xC,xD,xE,xF,xG,xH,xI,xJ,xK,xL,xM,xN,xO,xP,xQ,xR,xS,xT,xU,xV,xW,xX,xY,xZ,ya,yb,yc,yd,ye,yf,yg,yh,yi,yj,yk,yl,ym,yn,yo,yp,yq,yr,yt,yu,yv,yw,yx,yy,yz,yA],defers := [] }
def opp11_12_0 (ps : String) : Oper := ⟨some 57,.load 27 (.tmp 3),27,ps,#[],none⟩
def opp11_12_1 (ps : String) : Oper := ⟨some 58,.move (.tmp 11),48,ps,#[],none⟩
def opp11_12_2 (ps : String) : Oper := ⟨some 59,.move (.tmp 12),50,ps,#[],none⟩
def opp11_12_3 (ps : String) : Oper := ⟨some 60,.move (.tmp 16),3,ps,#[],none⟩
def opp11_12_4 (ps : String) : Oper := ⟨some 61,.binOp .add 3 (.tmp 60) (.const (.int .i64 1)) 3,3,ps,#[⟨3,.data⟩],none⟩
def opp11_12_5 (ps : String) : Oper := ⟨some 62,.slice 50 (.tmp 59) (some (.tmp 61)) none none,50,ps,#[⟨2,.data⟩,⟨4,.data⟩],none⟩
def opp11_12_6 (ps : String) : Oper := ⟨some 63,.call ⟨.value (.func 14),#[.tmp 57,.tmp 58,.tmp 62],#[27,48,50]⟩,3,ps,#[⟨0,.data⟩,⟨1,.data⟩,⟨5,.data⟩],none⟩
def opp11_12_7 (ps : String) : Oper := ⟨some 19,.assign (.tmp 63),3,ps,#[⟨6,.data⟩,⟨6,.chain⟩,⟨0,.phase⟩,⟨1,.phase⟩,⟨2,.phase⟩,⟨3,.phase⟩,⟨4,.phase⟩,⟨5,.phase⟩,⟨6,.phase⟩],none⟩
def opp11_12 (ps : String) : Array Oper := #[opp11_12_0 ps,opp11_12_1 ps,opp11_12_2 ps,opp11_12_3 ps,opp11_12_4 ps,opp11_12_5 ps,opp11_12_6 ps,opp11_12_7 ps]

theorem ly_r12 (Q : Exit → Act → World → Prop) (hQ : ∀ c x (n : Nat) v w,Q (.panic c) (x.put (some n) v) w → Q (.panic c) x w) (id : Nat) (ps : String) {v0 v1 v2 v4 v5 v6 v7 v8 v9 xa xd xe xf xh xi xj xk xl xm xn xo xp xq xr xt xu xv xw xx xy xz xA xB xC xD xE xF xG xH xI xJ xK xL xM xN xO xP xQ xR xS xT xU xV xW xX xY xZ ya yb yc yd ye yf yg yh yi yj yk yl ym yn yo yp yq yr yt yu yv yw yx yy yz yA : Value} (z : World) (X G P Z k : Nat) (a : Pa) (L : List It) (pl : List Pc) (p : Pc) (s : Sl) (M : List Lx) (a1 a2 a3 : Option Addr) (c1 c2 : Nat) (w : World) (hS : LrS X G P Z a L pl p s M (.slice a1 L.length c1) (.slice a2 pl.length c2) (World.drew w))
  (hz0 : Below z.heap.size z (World.drew w)) (hk : k + 1 ≤ pl.length) (hk8 : k ≤ 9000) (hlt : ∀ p ∈ (pl.drop (k + 1)).head?,p.a < L.length) (hsl : ∀ W : World,(Instr.slice 50 (.slice a2 pl.length c2) (some (.int .i64 ((k : Int) + 1))) none none).run Tryz.prog W = .ok (.slice a3 (pl.length - (k + 1)) (c2 - (k + 1))) W) (h3 : ∀ b o,a2 = some ⟨b,o,none⟩ → k + 1 < pl.length → a3 = some ⟨b,o + (k + 1) * 5,none⟩)
  (hq : ∀ w',Below z.heap.size z w' → (LrS X G P Z a L pl p s M (.slice a1 L.length c1) (.slice a2 pl.length c2)) w' → Q .normal (frp11 v0 v1 v2 (.pointer (some ⟨X,0,none⟩)) v4 v5 v6 v7 v8 v9 xa (.slice a1 L.length c1) (.slice a2 pl.length c2) xd xe xf (.int .i64 (k : Nat)) xh xi (.int .i64 (edI a L (pl.drop (k + 1)))) xk xl xm xn xo xp xq xr xt xu xv xw xx xy xz xA xB xC xD xE xF xG xH xI xJ xK xL xM xN xO xP xQ xR xS xT xU xV (.agg (paC a)) (.slice a1 L.length c1) (.slice a2 pl.length c2) (.int .i64 (k : Nat)) (.int .i64 ((k : Int) + 1)) (.slice a3 (pl.length - (k + 1)) (c2 - (k + 1))) (.int .i64 (edI a L (pl.drop (k + 1)))) yd ye yf yg yh yi yj yk yl ym yn yo yp yq yr yt yu yv yw yx yy yz yA) w') :
  (Code.region id (opp11_12 ps) true).wp Tryz.prog Q (frp11 v0 v1 v2 (.pointer (some ⟨X,0,none⟩)) v4 v5 v6 v7 v8 v9 xa (.slice a1 L.length c1) (.slice a2 pl.length c2) xd xe xf (.int .i64 (k : Nat)) xh xi xj xk xl xm xn xo xp xq xr xt xu xv xw xx xy xz xA xB xC xD xE xF xG xH xI xJ xK xL xM xN xO xP xQ xR xS xT xU xV xW xX xY xZ ya yb yc yd ye yf yg yh yi yj yk yl ym yn yo yp yq yr yt yu yv yw yx yy yz yA) w := by
 refine wp_region_held (S := LrS X G P Z a L pl p s M (.slice a1 L.length c1) (.slice a2 pl.length c2)) (by kernel_rfl) ?_
 change wpAnyH _ _ _ _ _ 8 _ _ (World.drew w)
 refine take_r 0 ⟨some 57,.load 27 (.tmp 3),27,ps,#[],none⟩ (.agg (paC a)) hQ (fun w hS => load_pa hS.pb rfl rfl) hS ?_
 refine take_k 1 (opp11_12_1 ps) (.slice a1 L.length c1) (frp11 v0 v1 v2 (.pointer (some ⟨X,0,none⟩)) v4 v5 v6 v7 v8 v9 xa (.slice a1 L.length c1) (.slice a2 pl.length c2) xd xe xf (.int .i64 (k : Nat)) xh xi xj xk xl xm xn xo xp xq xr xt xu xv xw xx xy xz xA xB xC xD xE xF xG xH xI xJ xK xL xM xN xO xP xQ xR xS xT xU xV (.agg (paC a)) (.slice a1 L.length c1) xY xZ ya yb yc yd ye yf yg yh yi yj yk yl ym yn yo yp yq yr yt yu yv yw yx yy yz yA) hQ (fun w _ => by kernel_rfl) hS ?_
 refine take_r 2 ⟨some 59,.move (.tmp 12),50,ps,#[],none⟩ (.slice a2 pl.length c2) hQ (fun w _ => by kernel_rfl) hS ?_
 refine take_k 3 (opp11_12_3 ps) (.int .i64 (k : Nat)) (frp11 v0 v1 v2 (.pointer (some ⟨X,0,none⟩)) v4 v5 v6 v7 v8 v9 xa (.slice a1 L.length c1) (.slice a2 pl.length c2) xd xe xf (.int .i64 (k : Nat)) xh xi xj xk xl xm xn xo xp xq xr xt xu xv xw xx xy xz xA xB xC xD xE xF xG xH xI xJ xK xL xM xN xO xP xQ xR xS xT xU xV (.agg (paC a)) (.slice a1 L.length c1) (.slice a2 pl.length c2) (.int .i64 (k : Nat)) ya yb yc yd ye yf yg yh yi yj yk yl ym yn yo yp yq yr yt yu yv yw yx yy yz yA) hQ (fun w _ => by kernel_rfl) hS ?_
 refine take_r 4 ⟨some 61,.binOp .add 3 (.tmp 60) (.const (.int .i64 1)) 3,3,ps,#[⟨3,.data⟩],none⟩ (.int .i64 ((k : Int) + 1)) hQ (fun w hS => by unfold frp11; go_simp; try exact wrap_sp hk8) hS ?_
 refine take_k 5 (opp11_12_5 ps) (.slice a3 (pl.length - (k + 1)) (c2 - (k + 1))) (frp11 v0 v1 v2 (.pointer (some ⟨X,0,none⟩)) v4 v5 v6 v7 v8 v9 xa (.slice a1 L.length c1) (.slice a2 pl.length c2) xd xe xf (.int .i64 (k : Nat)) xh xi xj xk xl xm xn xo xp xq xr xt xu xv xw xx xy xz xA xB xC xD xE xF xG xH xI xJ xK xL xM xN xO xP xQ xR xS xT xU xV (.agg (paC a)) (.slice a1 L.length c1) (.slice a2 pl.length c2) (.int .i64 (k : Nat)) (.int .i64 ((k : Int) + 1)) (.slice a3 (pl.length - (k + 1)) (c2 - (k + 1))) yc yd ye yf yg yh yi yj yk yl ym yn yo yp yq yr yt yu yv yw yx yy yz yA) hQ (fun w hS => by have e := hsl w; unfold frp11 opp11_12_5; go_simp) hS ?_
 refine want_k 6 (opp11_12_6 ps) fun K hK => ?_
 unfold frp11 opp11_12_6
 go_simp
 refine (end33 a (.slice a1 L.length c1) (.slice a3 (pl.length - (k + 1)) (c2 - (k + 1))) L (pl.drop (k + 1)) hlt _ hS.hl (drop_pcs hS.hp hk h3)).mono ?_
 rintro e w1 ⟨rfl,hb1⟩
 have hS1 : LrS X G P Z a L pl p s M (.slice a1 L.length c1) (.slice a2 pl.length c2) w1 := hS.below hb1
 have hz1 := hz0.trans (hb1.mono hz0.size)
 refine hK _ _ hS1 (cast_h (frp11 v0 v1 v2 (.pointer (some ⟨X,0,none⟩)) v4 v5 v6 v7 v8 v9 xa (.slice a1 L.length c1) (.slice a2 pl.length c2) xd xe xf (.int .i64 (k : Nat)) xh xi xj xk xl xm xn xo xp xq xr xt xu xv xw xx xy xz xA xB xC xD xE xF xG xH xI xJ xK xL xM xN xO xP xQ xR xS xT xU xV (.agg (paC a)) (.slice a1 L.length c1) (.slice a2 pl.length c2) (.int .i64 (k : Nat)) (.int .i64 ((k : Int) + 1)) (.slice a3 (pl.length - (k + 1)) (c2 - (k + 1))) (.int .i64 (edI a L (pl.drop (k + 1)))) yd ye yf yg yh yi yj yk yl ym yn yo yp yq yr yt yu yv yw yx yy yz yA) (by kernel_rfl) ?_)
 clear hK K
 refine take_r 7 ⟨some 19,.assign (.tmp 63),3,ps,#[⟨6,.data⟩,⟨6,.chain⟩,⟨0,.phase⟩,⟨1,.phase⟩,⟨2,.phase⟩,⟨3,.phase⟩,⟨4,.phase⟩,⟨5,.phase⟩,⟨6,.phase⟩],none⟩ (.int .i64 (edI a L (pl.drop (k + 1)))) hQ (fun w _ => by kernel_rfl) hS1 ?_
 exact wpAnyH_done (by kernel_rfl) (hq _ hz1 hS1) _
end Go.Proofs.YtfiekhephkpdjaaGreatDoor

namespace Go.Proofs.YtfiekhephkpdjaaGreatDoor
open Go.RowKit Go.Shelf
set_option maxRecDepth 100000
set_option maxHeartbeats 1000000

def fgI (L : List It) (p : Pc) (s : Sl) (lo : Bool) : Int := (if wdB L p s then 1 else 0) + (if lo then 2 else 0)
structure LsS (w0 : World) (P Z : Nat) (p : Pc) (s : Sl) (W : World) : Prop where
 low : Below w0.heap.size w0 W
 bp : W.heap[P]? = some (.cells (pcL p).toArray 56 (0,0))
 bs : W.heap[Z]? = some (.cells (slL s).toArray 32 (0,0))
section
variable {P Z : Nat} {p : Pc} {s : Sl} {w0 W W' : World}
theorem LsS.below (h : LsS w0 P Z p s W) (hb : Below W.heap.size W W') : LsS w0 P Z p s W' :=
 ⟨h.low.trans (hb.mono h.low.size),(hb.block _ (Array.getElem?_eq_some_iff.1 h.bp).1).trans h.bp,(hb.block _ (Array.getElem?_eq_some_iff.1 h.bs).1).trans h.bs⟩
theorem LsS.turn (h : LsS w0 P Z p s W) (hP : w0.heap.size < P) (hZ : w0.heap.size < Z) (o : Nat) (cs : List Value) : LsS w0 P Z p s (W.setCells w0.heap.size o cs) := by
 have hT := turns_setCells (X := fun j => j = w0.heap.size) rfl cs o W
 exact ⟨h.low.trans (hT.below h.low.size (fun j hj => by omega)),(hT.block _ (Array.getElem?_eq_some_iff.1 h.bp).1 (by omega)).trans h.bp,(hT.block _ (Array.getElem?_eq_some_iff.1 h.bs).1 (by omega)).trans h.bs⟩
theorem LsS.q0 (h : LsS w0 P Z p s W) : W.cell? ⟨Z,0,none⟩ = some (.int .i64 s.x) := (Lib.cell_of_heap h.bs _).trans rfl
theorem LsS.q1 (h : LsS w0 P Z p s W) : W.cell? ⟨Z,1,none⟩ = some (.int .i64 s.w) := (Lib.cell_of_heap h.bs _).trans rfl
theorem LsS.p4 (h : LsS w0 P Z p s W) : W.cell? ⟨P,4,none⟩ = some (.int .i64 p.nt) := (Lib.cell_of_heap h.bp _).trans rfl
theorem LsS.p3 (h : LsS w0 P Z p s W) : W.cell? ⟨P,3,none⟩ = some (.bool p.hy) := (Lib.cell_of_heap h.bp _).trans rfl
end
def opp11_13_0 (ps : String) : Oper := ⟨some 64,.move (.tmp 14),35,ps,#[],none⟩
def opp11_13_1 (ps : String) : Oper := ⟨some 65,.move (.tmp 16),3,ps,#[],none⟩
def opp11_13_2 (ps : String) : Oper := ⟨some 66,.move (.tmp 15),3,ps,#[],none⟩
def opp11_13_3 (ps : String) : Oper := ⟨some 67,.move (.tmp 19),3,ps,#[],none⟩
def opp11_13_4 (ps : String) : Oper := ⟨some 68,.fieldAddr 32 (.tmp 18) 0,0,ps,#[],none⟩
def opp11_13_5 (ps : String) : Oper := ⟨some 69,.load 3 (.tmp 68),3,ps,#[⟨4,.data⟩],none⟩
def opp11_13_6 (ps : String) : Oper := ⟨some 70,.fieldAddr 32 (.tmp 18) 1,0,ps,#[],none⟩
def opp11_13_7 (ps : String) : Oper := ⟨some 71,.load 3 (.tmp 70),3,ps,#[⟨6,.data⟩],none⟩
def opp11_13_8 (ps : String) : Oper := ⟨some 72,.fieldAddr 56 (.tmp 17) 4,0,ps,#[],none⟩
def opp11_13_9 (ps : String) : Oper := ⟨some 73,.load 3 (.tmp 72),3,ps,#[⟨8,.data⟩],none⟩
def opp11_13_10 (ps : String) : Oper := ⟨some 74,.fieldAddr 56 (.tmp 17) 3,0,ps,#[],none⟩
def opp11_13_11 (ps : String) : Oper := ⟨some 75,.load 4 (.tmp 74),4,ps,#[⟨10,.data⟩],none⟩
def opp11_13_12 (ps : String) : Oper := ⟨some 76,.move (.tmp 11),48,ps,#[],none⟩
def opp11_13_13 (ps : String) : Oper := ⟨some 77,.load 56 (.tmp 17),56,ps,#[],none⟩
def opp11_13_14 (ps : String) : Oper := ⟨some 78,.load 32 (.tmp 18),32,ps,#[],none⟩
def opp11_13_15 (ps : String) : Oper := ⟨some 79,.call ⟨.value (.func 16),#[.tmp 76,.tmp 77,.tmp 78],#[48,56,32]⟩,4,ps,#[⟨12,.data⟩,⟨13,.data⟩,⟨14,.data⟩],none⟩
def opp11_13_16 (ps : String) : Oper := ⟨some 80,.move (.tmp 13),4,ps,#[],none⟩
def opp11_13_17 (ps : String) : Oper := ⟨some 81,.call ⟨.value (.func 15),#[.tmp 79,.tmp 80],#[4,4]⟩,3,ps,#[⟨15,.data⟩,⟨16,.data⟩,⟨15,.chain⟩],none⟩
def opp11_13_18 (ps : String) : Oper := ⟨some 82,.build 34 #[(0,.tmp 66),(1,.tmp 67),(2,.tmp 69),(3,.tmp 71),(4,.tmp 73),(5,.tmp 75),(6,.tmp 81)],34,ps,#[⟨2,.data⟩,⟨3,.data⟩,⟨5,.data⟩,⟨7,.data⟩,⟨9,.data⟩,⟨11,.data⟩,⟨17,.data⟩],none⟩
def opp11_13_19 (ps : String) : Oper := ⟨some 83,.indexAddr 35 (.tmp 64) (.tmp 65),0,ps,#[⟨0,.data⟩,⟨1,.data⟩,⟨0,.phase⟩,⟨1,.phase⟩,⟨2,.phase⟩,⟨3,.phase⟩,⟨4,.phase⟩,⟨5,.phase⟩,⟨6,.phase⟩,⟨7,.phase⟩,⟨8,.phase⟩,⟨9,.phase⟩,⟨10,.phase⟩,⟨11,.phase⟩,⟨12,.phase⟩,⟨13,.phase⟩,⟨14,.phase⟩,⟨15,.phase⟩,⟨16,.phase⟩,⟨17,.phase⟩,⟨18,.phase⟩],none⟩
def opp11_13_20 (ps : String) : Oper := ⟨none,.store 34 (.tmp 83) (.tmp 82),0,ps,#[⟨19,.data⟩,⟨18,.data⟩,⟨17,.chain⟩,⟨0,.phase⟩,⟨1,.phase⟩,⟨2,.phase⟩,⟨3,.phase⟩,⟨4,.phase⟩,⟨5,.phase⟩,⟨6,.phase⟩,⟨7,.phase⟩,⟨8,.phase⟩,⟨9,.phase⟩,⟨10,.phase⟩,⟨11,.phase⟩,⟨12,.phase⟩,⟨13,.phase⟩,⟨14,.phase⟩,⟨15,.phase⟩,⟨16,.phase⟩,⟨17,.phase⟩,⟨18,.phase⟩],none⟩
def opp11_13 (ps : String) : Array Oper := #[opp11_13_0 ps,opp11_13_1 ps,opp11_13_2 ps,opp11_13_3 ps,opp11_13_4 ps,opp11_13_5 ps,opp11_13_6 ps,opp11_13_7 ps,opp11_13_8 ps,opp11_13_9 ps,opp11_13_10 ps,opp11_13_11 ps,opp11_13_12 ps,opp11_13_13 ps,opp11_13_14 ps,opp11_13_15 ps,opp11_13_16 ps,opp11_13_17 ps,opp11_13_18 ps,opp11_13_19 ps,opp11_13_20 ps]

theorem ly_r13 (Q : Exit → Act → World → Prop) (hQ : ∀ c x (n : Nat) v w,Q (.panic c) (x.put (some n) v) w → Q (.panic c) x w) (id : Nat) (ps : String) {v0 v1 v2 v3 v4 v5 v6 v7 v8 v9 xa xb xc xd xe xf xg xh xi xj xk xl xm xn xo xp xq xr xt xu xv xw xx xy xz xA xB xC xD xE xF xG xH xI xJ xK xL xM xN xO xP xQ xR xS xT xU xV xW xX xY xZ ya yb yc yd ye yf yg yh yi yj yk yl ym yn yo yp yq yr : Value} (w0 : World) (P Z N k : Nat) (L : List It) (p : Pc) (s : Sl) (lo : Bool) (M : List Lx) (fm to : Int) (a1 : Option Addr) (c1 : Nat) (w : World) (hS : LsS w0 P Z p s (World.drew w))
  (hl0 : ItsAt w0 (.slice a1 L.length c1) L) (hck : ckL L = 0) (hpp : p.a ≤ p.b ∧ p.b ≤ L.length) (hs : okS s = true) (hr0 : RB 7 lxL (World.drew w) w0.heap.size M) (hk : k < M.length) (hlt : (k : Int) < (N : Int)) (_hkN : k < N) (hP : w0.heap.size < P) (hZ : w0.heap.size < Z)
  (hq : ∀ w',LsS w0 P Z p s w' → RB 7 lxL w' w0.heap.size (M.set k ⟨fm,to,s.x,s.w,p.nt,p.hy,fgI L p s lo⟩) → Q .normal (frp11 v0 v1 v2 v3 v4 v5 v6 v7 v8 v9 xa (.slice a1 L.length c1) xb (.bool lo) (.slice (some ⟨w0.heap.size,0,none⟩) N N) (.int .i64 fm) (.int .i64 (k : Nat)) (.pointer (some ⟨P,0,none⟩)) (.pointer (some ⟨Z,0,none⟩)) (.int .i64 to) xc xd xe xf xg xh xi xj xk xl xm xn xo xp xq xr xt xu xv xw xx xy xz xA xB xC xD xE xF xG xH xI xJ xK xL xM xN xO xP xQ xR xS xT xU (.slice (some ⟨w0.heap.size,0,none⟩) N N) (.int .i64 (k : Nat)) (.int .i64 fm) (.int .i64 to) (.pointer (some ⟨Z,0,none⟩)) (.int .i64 s.x) (.pointer (some ⟨Z,1,none⟩)) (.int .i64 s.w) (.pointer (some ⟨P,4,none⟩)) (.int .i64 p.nt) (.pointer (some ⟨P,3,none⟩)) (.bool p.hy) (.slice a1 L.length c1) (.agg (pcL p).toArray) (.agg (slL s).toArray) (.bool (wdB L p s)) (.bool lo) (.int .i64 (fgI L p s lo)) (.agg (lxL ⟨fm,to,s.x,s.w,p.nt,p.hy,fgI L p s lo⟩).toArray) (.pointer (some ⟨w0.heap.size,k * 7,none⟩)) yp yq yr) w') :
  (Code.region id (opp11_13 ps) true).wp Tryz.prog Q (frp11 v0 v1 v2 v3 v4 v5 v6 v7 v8 v9 xa (.slice a1 L.length c1) xb (.bool lo) (.slice (some ⟨w0.heap.size,0,none⟩) N N) (.int .i64 fm) (.int .i64 (k : Nat)) (.pointer (some ⟨P,0,none⟩)) (.pointer (some ⟨Z,0,none⟩)) (.int .i64 to) xc xd xe xf xg xh xi xj xk xl xm xn xo xp xq xr xt xu xv xw xx xy xz xA xB xC xD xE xF xG xH xI xJ xK xL xM xN xO xP xQ xR xS xT xU xV xW xX xY xZ ya yb yc yd ye yf yg yh yi yj yk yl ym yn yo yp yq yr) w := by
 refine wp_region_held (S := LsS w0 P Z p s) (by kernel_rfl) ?_
 change wpAnyH _ _ _ _ _ 21 _ _ (World.drew w)
 refine take_r 0 ⟨some 64,.move (.tmp 14),35,ps,#[],none⟩ (.slice (some ⟨w0.heap.size,0,none⟩) N N) hQ (fun w _ => by kernel_rfl) hS ?_
 refine take_k 1 (opp11_13_1 ps) (.int .i64 (k : Nat)) (frp11 v0 v1 v2 v3 v4 v5 v6 v7 v8 v9 xa (.slice a1 L.length c1) xb (.bool lo) (.slice (some ⟨w0.heap.size,0,none⟩) N N) (.int .i64 fm) (.int .i64 (k : Nat)) (.pointer (some ⟨P,0,none⟩)) (.pointer (some ⟨Z,0,none⟩)) (.int .i64 to) xc xd xe xf xg xh xi xj xk xl xm xn xo xp xq xr xt xu xv xw xx xy xz xA xB xC xD xE xF xG xH xI xJ xK xL xM xN xO xP xQ xR xS xT xU (.slice (some ⟨w0.heap.size,0,none⟩) N N) (.int .i64 (k : Nat)) xX xY xZ ya yb yc yd ye yf yg yh yi yj yk yl ym yn yo yp yq yr) hQ (fun w _ => by kernel_rfl) hS ?_
 refine take_r 2 ⟨some 66,.move (.tmp 15),3,ps,#[],none⟩ (.int .i64 fm) hQ (fun w _ => by kernel_rfl) hS ?_
 refine take_k 3 (opp11_13_3 ps) (.int .i64 to) (frp11 v0 v1 v2 v3 v4 v5 v6 v7 v8 v9 xa (.slice a1 L.length c1) xb (.bool lo) (.slice (some ⟨w0.heap.size,0,none⟩) N N) (.int .i64 fm) (.int .i64 (k : Nat)) (.pointer (some ⟨P,0,none⟩)) (.pointer (some ⟨Z,0,none⟩)) (.int .i64 to) xc xd xe xf xg xh xi xj xk xl xm xn xo xp xq xr xt xu xv xw xx xy xz xA xB xC xD xE xF xG xH xI xJ xK xL xM xN xO xP xQ xR xS xT xU (.slice (some ⟨w0.heap.size,0,none⟩) N N) (.int .i64 (k : Nat)) (.int .i64 fm) (.int .i64 to) xZ ya yb yc yd ye yf yg yh yi yj yk yl ym yn yo yp yq yr) hQ (fun w _ => by kernel_rfl) hS ?_
 refine take_r 4 ⟨some 68,.fieldAddr 32 (.tmp 18) 0,0,ps,#[],none⟩ (.pointer (some ⟨Z,0,none⟩)) hQ (fun w hS => by unfold frp11; go_simp) hS ?_
 refine take_k 5 (opp11_13_5 ps) (.int .i64 s.x) (frp11 v0 v1 v2 v3 v4 v5 v6 v7 v8 v9 xa (.slice a1 L.length c1) xb (.bool lo) (.slice (some ⟨w0.heap.size,0,none⟩) N N) (.int .i64 fm) (.int .i64 (k : Nat)) (.pointer (some ⟨P,0,none⟩)) (.pointer (some ⟨Z,0,none⟩)) (.int .i64 to) xc xd xe xf xg xh xi xj xk xl xm xn xo xp xq xr xt xu xv xw xx xy xz xA xB xC xD xE xF xG xH xI xJ xK xL xM xN xO xP xQ xR xS xT xU (.slice (some ⟨w0.heap.size,0,none⟩) N N) (.int .i64 (k : Nat)) (.int .i64 fm) (.int .i64 to) (.pointer (some ⟨Z,0,none⟩)) (.int .i64 s.x) yb yc yd ye yf yg yh yi yj yk yl ym yn yo yp yq yr) hQ (fun w hS => by have e := hS.q0; unfold frp11 opp11_13_5; go_simp) hS ?_
 refine take_r 6 ⟨some 70,.fieldAddr 32 (.tmp 18) 1,0,ps,#[],none⟩ (.pointer (some ⟨Z,1,none⟩)) hQ (fun w hS => by unfold frp11; go_simp) hS ?_
 refine take_k 7 (opp11_13_7 ps) (.int .i64 s.w) (frp11 v0 v1 v2 v3 v4 v5 v6 v7 v8 v9 xa (.slice a1 L.length c1) xb (.bool lo) (.slice (some ⟨w0.heap.size,0,none⟩) N N) (.int .i64 fm) (.int .i64 (k : Nat)) (.pointer (some ⟨P,0,none⟩)) (.pointer (some ⟨Z,0,none⟩)) (.int .i64 to) xc xd xe xf xg xh xi xj xk xl xm xn xo xp xq xr xt xu xv xw xx xy xz xA xB xC xD xE xF xG xH xI xJ xK xL xM xN xO xP xQ xR xS xT xU (.slice (some ⟨w0.heap.size,0,none⟩) N N) (.int .i64 (k : Nat)) (.int .i64 fm) (.int .i64 to) (.pointer (some ⟨Z,0,none⟩)) (.int .i64 s.x) (.pointer (some ⟨Z,1,none⟩)) (.int .i64 s.w) yd ye yf yg yh yi yj yk yl ym yn yo yp yq yr) hQ (fun w hS => by have e := hS.q1; unfold frp11 opp11_13_7; go_simp) hS ?_
 refine take_r 8 ⟨some 72,.fieldAddr 56 (.tmp 17) 4,0,ps,#[],none⟩ (.pointer (some ⟨P,4,none⟩)) hQ (fun w hS => by unfold frp11; go_simp) hS ?_
 refine take_k 9 (opp11_13_9 ps) (.int .i64 p.nt) (frp11 v0 v1 v2 v3 v4 v5 v6 v7 v8 v9 xa (.slice a1 L.length c1) xb (.bool lo) (.slice (some ⟨w0.heap.size,0,none⟩) N N) (.int .i64 fm) (.int .i64 (k : Nat)) (.pointer (some ⟨P,0,none⟩)) (.pointer (some ⟨Z,0,none⟩)) (.int .i64 to) xc xd xe xf xg xh xi xj xk xl xm xn xo xp xq xr xt xu xv xw xx xy xz xA xB xC xD xE xF xG xH xI xJ xK xL xM xN xO xP xQ xR xS xT xU (.slice (some ⟨w0.heap.size,0,none⟩) N N) (.int .i64 (k : Nat)) (.int .i64 fm) (.int .i64 to) (.pointer (some ⟨Z,0,none⟩)) (.int .i64 s.x) (.pointer (some ⟨Z,1,none⟩)) (.int .i64 s.w) (.pointer (some ⟨P,4,none⟩)) (.int .i64 p.nt) yf yg yh yi yj yk yl ym yn yo yp yq yr) hQ (fun w hS => by have e := hS.p4; unfold frp11 opp11_13_9; go_simp) hS ?_
 refine take_r 10 ⟨some 74,.fieldAddr 56 (.tmp 17) 3,0,ps,#[],none⟩ (.pointer (some ⟨P,3,none⟩)) hQ (fun w hS => by unfold frp11; go_simp) hS ?_
 refine take_k 11 (opp11_13_11 ps) (.bool p.hy) (frp11 v0 v1 v2 v3 v4 v5 v6 v7 v8 v9 xa (.slice a1 L.length c1) xb (.bool lo) (.slice (some ⟨w0.heap.size,0,none⟩) N N) (.int .i64 fm) (.int .i64 (k : Nat)) (.pointer (some ⟨P,0,none⟩)) (.pointer (some ⟨Z,0,none⟩)) (.int .i64 to) xc xd xe xf xg xh xi xj xk xl xm xn xo xp xq xr xt xu xv xw xx xy xz xA xB xC xD xE xF xG xH xI xJ xK xL xM xN xO xP xQ xR xS xT xU (.slice (some ⟨w0.heap.size,0,none⟩) N N) (.int .i64 (k : Nat)) (.int .i64 fm) (.int .i64 to) (.pointer (some ⟨Z,0,none⟩)) (.int .i64 s.x) (.pointer (some ⟨Z,1,none⟩)) (.int .i64 s.w) (.pointer (some ⟨P,4,none⟩)) (.int .i64 p.nt) (.pointer (some ⟨P,3,none⟩)) (.bool p.hy) yh yi yj yk yl ym yn yo yp yq yr) hQ (fun w hS => by have e := hS.p3; unfold frp11 opp11_13_11; go_simp) hS ?_
 refine take_r 12 ⟨some 76,.move (.tmp 11),48,ps,#[],none⟩ (.slice a1 L.length c1) hQ (fun w _ => by kernel_rfl) hS ?_
 refine take_k 13 (opp11_13_13 ps) (.agg (pcL p).toArray) (frp11 v0 v1 v2 v3 v4 v5 v6 v7 v8 v9 xa (.slice a1 L.length c1) xb (.bool lo) (.slice (some ⟨w0.heap.size,0,none⟩) N N) (.int .i64 fm) (.int .i64 (k : Nat)) (.pointer (some ⟨P,0,none⟩)) (.pointer (some ⟨Z,0,none⟩)) (.int .i64 to) xc xd xe xf xg xh xi xj xk xl xm xn xo xp xq xr xt xu xv xw xx xy xz xA xB xC xD xE xF xG xH xI xJ xK xL xM xN xO xP xQ xR xS xT xU (.slice (some ⟨w0.heap.size,0,none⟩) N N) (.int .i64 (k : Nat)) (.int .i64 fm) (.int .i64 to) (.pointer (some ⟨Z,0,none⟩)) (.int .i64 s.x) (.pointer (some ⟨Z,1,none⟩)) (.int .i64 s.w) (.pointer (some ⟨P,4,none⟩)) (.int .i64 p.nt) (.pointer (some ⟨P,3,none⟩)) (.bool p.hy) (.slice a1 L.length c1) (.agg (pcL p).toArray) yj yk yl ym yn yo yp yq yr) hQ (fun w hS => load_r70 hS.bp rfl rfl) hS ?_
 refine take_r 14 ⟨some 78,.load 32 (.tmp 18),32,ps,#[],none⟩ (.agg (slL s).toArray) hQ (fun w hS => load_r30 hS.bs rfl rfl) hS ?_
 refine take_k 16 (opp11_13_16 ps) (.bool lo) (frp11 v0 v1 v2 v3 v4 v5 v6 v7 v8 v9 xa (.slice a1 L.length c1) xb (.bool lo) (.slice (some ⟨w0.heap.size,0,none⟩) N N) (.int .i64 fm) (.int .i64 (k : Nat)) (.pointer (some ⟨P,0,none⟩)) (.pointer (some ⟨Z,0,none⟩)) (.int .i64 to) xc xd xe xf xg xh xi xj xk xl xm xn xo xp xq xr xt xu xv xw xx xy xz xA xB xC xD xE xF xG xH xI xJ xK xL xM xN xO xP xQ xR xS xT xU (.slice (some ⟨w0.heap.size,0,none⟩) N N) (.int .i64 (k : Nat)) (.int .i64 fm) (.int .i64 to) (.pointer (some ⟨Z,0,none⟩)) (.int .i64 s.x) (.pointer (some ⟨Z,1,none⟩)) (.int .i64 s.w) (.pointer (some ⟨P,4,none⟩)) (.int .i64 p.nt) (.pointer (some ⟨P,3,none⟩)) (.bool p.hy) (.slice a1 L.length c1) (.agg (pcL p).toArray) (.agg (slL s).toArray) yk (.bool lo) ym yn yo yp yq yr) hQ (fun w _ => by kernel_rfl) hS ?_
 refine want_k 15 (opp11_13_15 ps) fun K hK => ?_
 unfold frp11 opp11_13_15
 go_simp
 refine (wide35 (.slice a1 L.length c1) L p s hck hpp hs _ (hl0.below hS.low (Nat.le_refl _))).mono ?_
 rintro e w1 ⟨rfl,hb1⟩
 have hS1 : LsS w0 P Z p s w1 := hS.below hb1
 have hr1 := hr0.below hb1 hr0.lt
 refine hK _ _ hS1 (cast_h (frp11 v0 v1 v2 v3 v4 v5 v6 v7 v8 v9 xa (.slice a1 L.length c1) xb (.bool lo) (.slice (some ⟨w0.heap.size,0,none⟩) N N) (.int .i64 fm) (.int .i64 (k : Nat)) (.pointer (some ⟨P,0,none⟩)) (.pointer (some ⟨Z,0,none⟩)) (.int .i64 to) xc xd xe xf xg xh xi xj xk xl xm xn xo xp xq xr xt xu xv xw xx xy xz xA xB xC xD xE xF xG xH xI xJ xK xL xM xN xO xP xQ xR xS xT xU (.slice (some ⟨w0.heap.size,0,none⟩) N N) (.int .i64 (k : Nat)) (.int .i64 fm) (.int .i64 to) (.pointer (some ⟨Z,0,none⟩)) (.int .i64 s.x) (.pointer (some ⟨Z,1,none⟩)) (.int .i64 s.w) (.pointer (some ⟨P,4,none⟩)) (.int .i64 p.nt) (.pointer (some ⟨P,3,none⟩)) (.bool p.hy) (.slice a1 L.length c1) (.agg (pcL p).toArray) (.agg (slL s).toArray) (.bool (wdB L p s)) (.bool lo) ym yn yo yp yq yr) (by kernel_rfl) ?_)
 clear hK K
 refine want_k 17 (opp11_13_17 ps) fun K hK => ?_
 unfold frp11 opp11_13_17
 go_simp
 refine (flag34 (wdB L p s) lo _).mono ?_
 rintro e w2 ⟨rfl,rfl⟩
 have hS2 : LsS w0 P Z p s w2 := hS1
 refine hK _ _ hS2 (cast_h (frp11 v0 v1 v2 v3 v4 v5 v6 v7 v8 v9 xa (.slice a1 L.length c1) xb (.bool lo) (.slice (some ⟨w0.heap.size,0,none⟩) N N) (.int .i64 fm) (.int .i64 (k : Nat)) (.pointer (some ⟨P,0,none⟩)) (.pointer (some ⟨Z,0,none⟩)) (.int .i64 to) xc xd xe xf xg xh xi xj xk xl xm xn xo xp xq xr xt xu xv xw xx xy xz xA xB xC xD xE xF xG xH xI xJ xK xL xM xN xO xP xQ xR xS xT xU (.slice (some ⟨w0.heap.size,0,none⟩) N N) (.int .i64 (k : Nat)) (.int .i64 fm) (.int .i64 to) (.pointer (some ⟨Z,0,none⟩)) (.int .i64 s.x) (.pointer (some ⟨Z,1,none⟩)) (.int .i64 s.w) (.pointer (some ⟨P,4,none⟩)) (.int .i64 p.nt) (.pointer (some ⟨P,3,none⟩)) (.bool p.hy) (.slice a1 L.length c1) (.agg (pcL p).toArray) (.agg (slL s).toArray) (.bool (wdB L p s)) (.bool lo) (.int .i64 (fgI L p s lo)) yn yo yp yq yr) (by kernel_rfl) ?_)
 clear hK K
 refine take_r 18 ⟨some 82,.build 34 #[(0,.tmp 66),(1,.tmp 67),(2,.tmp 69),(3,.tmp 71),(4,.tmp 73),(5,.tmp 75),(6,.tmp 81)],34,ps,#[⟨2,.data⟩,⟨3,.data⟩,⟨5,.data⟩,⟨7,.data⟩,⟨9,.data⟩,⟨11,.data⟩,⟨17,.data⟩],none⟩ (.agg (lxL ⟨fm,to,s.x,s.w,p.nt,p.hy,fgI L p s lo⟩).toArray) hQ (fun w hS => by unfold frp11; go_simp; try rfl) hS2 ?_
 refine take_k 19 (opp11_13_19 ps) (.pointer (some ⟨w0.heap.size,k * 7,none⟩)) (frp11 v0 v1 v2 v3 v4 v5 v6 v7 v8 v9 xa (.slice a1 L.length c1) xb (.bool lo) (.slice (some ⟨w0.heap.size,0,none⟩) N N) (.int .i64 fm) (.int .i64 (k : Nat)) (.pointer (some ⟨P,0,none⟩)) (.pointer (some ⟨Z,0,none⟩)) (.int .i64 to) xc xd xe xf xg xh xi xj xk xl xm xn xo xp xq xr xt xu xv xw xx xy xz xA xB xC xD xE xF xG xH xI xJ xK xL xM xN xO xP xQ xR xS xT xU (.slice (some ⟨w0.heap.size,0,none⟩) N N) (.int .i64 (k : Nat)) (.int .i64 fm) (.int .i64 to) (.pointer (some ⟨Z,0,none⟩)) (.int .i64 s.x) (.pointer (some ⟨Z,1,none⟩)) (.int .i64 s.w) (.pointer (some ⟨P,4,none⟩)) (.int .i64 p.nt) (.pointer (some ⟨P,3,none⟩)) (.bool p.hy) (.slice a1 L.length c1) (.agg (pcL p).toArray) (.agg (slL s).toArray) (.bool (wdB L p s)) (.bool lo) (.int .i64 (fgI L p s lo)) (.agg (lxL ⟨fm,to,s.x,s.w,p.nt,p.hy,fgI L p s lo⟩).toArray) (.pointer (some ⟨w0.heap.size,k * 7,none⟩)) yp yq yr) hQ (fun w hS => by unfold frp11 opp11_13_19; have e := hlt; go_simp) hS2 ?_
 refine want_k 20 (opp11_13_20 ps) fun K hK => ?_
 refine wp_store_mid 34 _ _ (by unfold opp11_13_20; rfl) w0.heap.size (k * 7) (lxL ⟨fm,to,s.x,s.w,p.nt,p.hy,fgI L p s lo⟩).toArray rfl rfl (hr1.there lxL_len hk) (infoL51 _) (lxL_all _) ?_
 have hS3 : LsS w0 P Z p s (w2.setCells w0.heap.size (k * 7) (lxL ⟨fm,to,s.x,s.w,p.nt,p.hy,fgI L p s lo⟩)) := hS2.turn hP hZ _ _
 have hr3 := hr1.set lxL_len hk ⟨fm,to,s.x,s.w,p.nt,p.hy,fgI L p s lo⟩
 refine hK _ _ hS3 (cast_h (frp11 v0 v1 v2 v3 v4 v5 v6 v7 v8 v9 xa (.slice a1 L.length c1) xb (.bool lo) (.slice (some ⟨w0.heap.size,0,none⟩) N N) (.int .i64 fm) (.int .i64 (k : Nat)) (.pointer (some ⟨P,0,none⟩)) (.pointer (some ⟨Z,0,none⟩)) (.int .i64 to) xc xd xe xf xg xh xi xj xk xl xm xn xo xp xq xr xt xu xv xw xx xy xz xA xB xC xD xE xF xG xH xI xJ xK xL xM xN xO xP xQ xR xS xT xU (.slice (some ⟨w0.heap.size,0,none⟩) N N) (.int .i64 (k : Nat)) (.int .i64 fm) (.int .i64 to) (.pointer (some ⟨Z,0,none⟩)) (.int .i64 s.x) (.pointer (some ⟨Z,1,none⟩)) (.int .i64 s.w) (.pointer (some ⟨P,4,none⟩)) (.int .i64 p.nt) (.pointer (some ⟨P,3,none⟩)) (.bool p.hy) (.slice a1 L.length c1) (.agg (pcL p).toArray) (.agg (slL s).toArray) (.bool (wdB L p s)) (.bool lo) (.int .i64 (fgI L p s lo)) (.agg (lxL ⟨fm,to,s.x,s.w,p.nt,p.hy,fgI L p s lo⟩).toArray) (.pointer (some ⟨w0.heap.size,k * 7,none⟩)) yp yq yr) (by kernel_rfl) ?_)
 clear hK K
 exact wpAnyH_done (by kernel_rfl) (hq _ hS3 hr3) _
end Go.Proofs.YtfiekhephkpdjaaGreatDoor
