/-
  What is proved here: the stores of measure of least.
  What is proved here: one record more behind a row of one's own; a field of a record in a block is written.
  What is proved here: what an item is, which may be; what keeps, fits and stop answer.
-/
import Derived.Test.YtfndocmgonlhpaaGreatDoorG1
import Derived.Test.YtfndocmgonlhpaaGreatDoorG7
import Derived.Test.YtfndocmgonlhpaaGreatDoorRows
import Derived.Test.YtfndocmgonlhpaaGreatDoorG2
import Derived.BigQuiet
import Derived.Handy
namespace Go.Proofs.YtfndocmgonlhpaaGreatDoor
open Go.RowKit Go.Shelf
set_option maxRecDepth 100000
set_option maxHeartbeats 1000000

theorem exec_load_mid {P : Program} {a : Act} {w : World} {o : Oper} {x : Operand} (ty : TypeId) (b off : Nat) (cs : List Value) (d : TypeDesc) (ho : o.op = .load ty x) (hx : a.eval x = .pointer (some ⟨b,off,none⟩)) (hc : w.rangeAt b off cs)
  (hu : P.underlying ty = some d) (hd : d.isRow = true) (hi : (P.info? ty).map (·.size) = some cs.length) : (execOp a.eval o).run P w = .ok (.value (.agg cs.toArray)) w := by
 unfold execOp
 simp only [ho,hx,Instr.loadAt,Instr.sureAddr,Sem.run_bind,Sem.run_pure,Result.andThen_ok,run_loadVar_mid w b off ty cs d hc hu hd hi]
theorem RB.range {α : Type} {k : Nat} {f : α → List Value} {W : World} {g : Nat} {L : List α} (h : RB k f W g L) {i : Nat} (hi : i < L.length) : W.rangeAt g (i * k) (f L[i]) := fun j v hv => (h.all i hi j v hv).1
theorem range_row {W : World} {b : Nat} {t : TypeId} {cs : List Value} (h : W.heap[b]? = some (.cells cs.toArray t (0,0))) : W.rangeAt b 0 cs := fun j v hv => by rw [Lib.cell_of_heap h,Nat.zero_add]; simpa using hv
structure MeS (R GA GB T n i : Nat) (v : Value) (x y : Su) (W : World) : Prop where
 r : W.heap[R]? = some (.cells (ruA v (.slice (some ⟨GA,0,none⟩) (n + 1) (n + 1)) (.slice (some ⟨GB,0,none⟩) (n + 1) (n + 1))) 50 (0,0))
 t : W.heap[T]? = some (.cells (suL x).toArray 89 (0,0))
 ga : ∃ A,A.length = n + 1 ∧ RB 3 suL W GA A
 gb : ∃ A,A.length = n + 1 ∧ A[i]? = some y ∧ RB 3 suL W GB A
theorem MeS.c1 {R GA GB T n i : Nat} {v : Value} {x y : Su} {W : World} (h : MeS R GA GB T n i v x y W) : W.cell? ⟨R,1,none⟩ = some (.slice (some ⟨GA,0,none⟩) (n + 1) (n + 1)) := by rw [Lib.cell_of_heap h.r]; rfl
theorem MeS.c2 {R GA GB T n i : Nat} {v : Value} {x y : Su} {W : World} (h : MeS R GA GB T n i v x y W) : W.cell? ⟨R,2,none⟩ = some (.slice (some ⟨GB,0,none⟩) (n + 1) (n + 1)) := by rw [Lib.cell_of_heap h.r]; rfl
theorem MeS.setA {R GA GB T n i : Nat} {v : Value} {x y : Su} {W : World} (h : MeS R GA GB T n i v x y W) {p : Nat} (hp : p < n + 1) (z : Su) (h1 : GA ≠ GB) (h2 : GA ≠ R) (h3 : GA ≠ T) : MeS R GA GB T n i v x y (W.setCells GA (p * 3) (suL z)) := by
 have ht := turns_setCells (X := fun k => k = GA) rfl (suL z) (p * 3) W
 have lt : ∀ {k : Nat} {x : Obj},W.heap[k]? = some x → k < W.heap.size := fun h => (Array.getElem?_eq_some_iff.1 h).1
 obtain ⟨A,hA,hR⟩ := h.ga
 obtain ⟨B,hB,hy,hR'⟩ := h.gb
 exact ⟨(ht.block _ (lt h.r) (fun e => h2 e.symm)).trans h.r,(ht.block _ (lt h.t) (fun e => h3 e.symm)).trans h.t,⟨_,by simpa using hA,hR.set suL_len (by omega) z⟩,⟨B,hB,hy,hR'.turns ht (fun e => h1 e.symm)⟩⟩
theorem MeS.setB {R GA GB T n i : Nat} {v : Value} {x y : Su} {W : World} (h : MeS R GA GB T n i v x y W) {p : Nat} (hp : p < n + 1) (hpi : p ≠ i) (z : Su) (h1 : GA ≠ GB) (h2 : GB ≠ R) (h3 : GB ≠ T) : MeS R GA GB T n i v x y (W.setCells GB (p * 3) (suL z)) := by
 have ht := turns_setCells (X := fun k => k = GB) rfl (suL z) (p * 3) W
 have lt : ∀ {k : Nat} {x : Obj},W.heap[k]? = some x → k < W.heap.size := fun h => (Array.getElem?_eq_some_iff.1 h).1
 obtain ⟨A,hA,hR⟩ := h.ga
 obtain ⟨B,hB,hy,hR'⟩ := h.gb
 exact ⟨(ht.block _ (lt h.r) (fun e => h2 e.symm)).trans h.r,(ht.block _ (lt h.t) (fun e => h3 e.symm)).trans h.t,⟨A,hA,hR.turns ht h1⟩,⟨_,by simpa using hB,by rw [List.getElem?_set_ne hpi]; exact hy,hR'.set suL_len (by omega) z⟩⟩
theorem MeS.thA {R GA GB T n i : Nat} {v : Value} {x y : Su} {W : World} (h : MeS R GA GB T n i v x y W) {p : Nat} (hp : p < n + 1) : W.there GA (p * 3) 3 := by
 obtain ⟨A,hA,hR⟩ := h.ga
 exact hR.there suL_len (by omega)
theorem MeS.thB {R GA GB T n i : Nat} {v : Value} {x y : Su} {W : World} (h : MeS R GA GB T n i v x y W) {p : Nat} (hp : p < n + 1) : W.there GB (p * 3) 3 := by
 obtain ⟨A,hA,_,hR⟩ := h.gb
 exact hR.there suL_len (by omega)
theorem MeS.rgB {R GA GB T n i : Nat} {v : Value} {x y : Su} {W : World} (h : MeS R GA GB T n i v x y W) : W.rangeAt GB (i * 3) (suL y) := by
 obtain ⟨A,hA,hy,hR⟩ := h.gb
 obtain ⟨hi,e⟩ := List.getElem?_eq_some_iff.1 hy
 have := hR.range hi
 rwa [e] at this
theorem info89l (p : Su) : (Tryz.prog.info? 89).map (·.size) = some (suL p).length := by show _ = some 3; kernel_rfl
def ops12_10_0 (ps : String) : Oper := ⟨some 50,.fieldAddr 50 (.tmp 3) 1,0,ps,#[],none⟩
def ops12_10_1 (ps : String) : Oper := ⟨some 51,.load 48 (.tmp 50),48,ps,#[⟨0,.data⟩],none⟩
def ops12_10_2 (ps : String) : Oper := ⟨some 52,.move (.tmp 4),3,ps,#[],none⟩
def ops12_10_3 (ps : String) : Oper := ⟨some 53,.binOp .add 3 (.tmp 52) (.const (.int .i64 1)) 3,3,ps,#[⟨2,.data⟩],none⟩
def ops12_10_4 (ps : String) : Oper := ⟨some 54,.fieldAddr 50 (.tmp 3) 2,0,ps,#[⟨11,.gcOnly .lateStores⟩],none⟩
def ops12_10_5 (ps : String) : Oper := ⟨some 55,.load 48 (.tmp 54),48,ps,#[⟨4,.data⟩,⟨11,.gcOnly .lateStores⟩],none⟩
def ops12_10_6 (ps : String) : Oper := ⟨some 56,.move (.tmp 4),3,ps,#[⟨11,.gcOnly .lateStores⟩],none⟩
def ops12_10_7 (ps : String) : Oper := ⟨some 57,.binOp .add 3 (.tmp 56) (.const (.int .i64 1)) 3,3,ps,#[⟨6,.data⟩,⟨11,.gcOnly .lateStores⟩],none⟩
def ops12_10_8 (ps : String) : Oper := ⟨some 58,.load 89 (.tmp 6),89,ps,#[],none⟩
def ops12_10_9 (ps : String) : Oper := ⟨some 59,.load 89 (.tmp 6),89,ps,#[⟨11,.gcOnly .lateStores⟩],none⟩
def ops12_10_10 (ps : String) : Oper := ⟨some 60,.indexAddr 48 (.tmp 51) (.tmp 53),0,ps,#[⟨1,.data⟩,⟨3,.data⟩,⟨0,.phase⟩,⟨1,.phase⟩,⟨2,.phase⟩,⟨3,.phase⟩,⟨4,.textOnly .lateStores⟩,⟨5,.textOnly .lateStores⟩,⟨6,.textOnly .lateStores⟩,⟨7,.textOnly .lateStores⟩,⟨8,.phase⟩,⟨9,.textOnly .lateStores⟩],none⟩
def ops12_10_11 (ps : String) : Oper := ⟨none,.store 89 (.tmp 60) (.tmp 58),0,ps,#[⟨10,.data⟩,⟨8,.data⟩,⟨0,.phase⟩,⟨1,.phase⟩,⟨2,.phase⟩,⟨3,.phase⟩,⟨4,.textOnly .lateStores⟩,⟨5,.textOnly .lateStores⟩,⟨6,.textOnly .lateStores⟩,⟨7,.textOnly .lateStores⟩,⟨8,.phase⟩,⟨9,.textOnly .lateStores⟩],none⟩
def ops12_10_12 (ps : String) : Oper := ⟨some 61,.indexAddr 48 (.tmp 55) (.tmp 57),0,ps,#[⟨5,.data⟩,⟨7,.data⟩,⟨0,.phase⟩,⟨1,.phase⟩,⟨2,.phase⟩,⟨3,.phase⟩,⟨4,.phase⟩,⟨5,.phase⟩,⟨6,.phase⟩,⟨7,.phase⟩,⟨8,.phase⟩,⟨9,.phase⟩,⟨10,.phase⟩,⟨11,.phase⟩],none⟩
def ops12_10_13 (ps : String) : Oper := ⟨none,.store 89 (.tmp 61) (.tmp 59),0,ps,#[⟨12,.data⟩,⟨9,.data⟩,⟨11,.chain⟩,⟨0,.phase⟩,⟨1,.phase⟩,⟨2,.phase⟩,⟨3,.phase⟩,⟨4,.phase⟩,⟨5,.phase⟩,⟨6,.phase⟩,⟨7,.phase⟩,⟨8,.phase⟩,⟨9,.phase⟩,⟨10,.phase⟩,⟨11,.phase⟩],none⟩
def ops12_10 (ps : String) : Array Oper := #[ops12_10_0 ps,ops12_10_1 ps,ops12_10_2 ps,ops12_10_3 ps,ops12_10_4 ps,ops12_10_5 ps,ops12_10_6 ps,ops12_10_7 ps,ops12_10_8 ps,ops12_10_9 ps,ops12_10_10 ps,ops12_10_11 ps,ops12_10_12 ps,ops12_10_13 ps]

theorem me_r10 (Q : Exit → Act → World → Prop) (hQ : ∀ c x (n : Nat) v w,Q (.panic c) (x.put (some n) v) w → Q (.panic c) x w) (id : Nat) (ps : String) {v0 v1 v2 v5 v7 v8 v9 xa xb xc xd xe xf xg xh xi xj xk xl xm xn xo xp xq xr xt xu xv xw xx xy xz xA xB xC xD xE xF xG xH xI xJ xK xL xM xN xO xP xQ xR xS xT xU xV xW xX xY xZ ya yb yc yd ye yf yg yh yi yj yk yl ym yn yo yp : Value} (R GA GB T n i : Nat) (v : Value) (x y : Su) (w : World) (hS : MeS R GA GB T n i v x y (World.drew w))
  (hi : (i : Int) + 1 < (n : Int) + 1) (_hi2 : (i : Int) < (n : Int) + 1) (hn : (n : Int) ≤ 8192) (e1 : GA ≠ GB) (e2 : GA ≠ R) (e3 : GA ≠ T) (e4 : GB ≠ R) (e5 : GB ≠ T)
  (hq : Q .normal (fr12 v0 v1 v2 (.pointer (some ⟨R,0,none⟩)) (.int .i64 (i : Nat)) v5 (.pointer (some ⟨T,0,none⟩)) v7 v8 v9 xa xb xc xd xe xf xg xh xi xj xk xl xm xn xo xp xq xr xt xu xv xw xx xy xz xA xB xC xD xE xF xG xH xI xJ xK xL xM xN xO (.pointer (some ⟨R,1,none⟩)) (.slice (some ⟨GA,0,none⟩) (n + 1) (n + 1)) (.int .i64 (i : Nat)) (.int .i64 ((i : Nat) + 1)) (.pointer (some ⟨R,2,none⟩)) (.slice (some ⟨GB,0,none⟩) (n + 1) (n + 1)) (.int .i64 (i : Nat)) (.int .i64 ((i : Nat) + 1)) (.agg (suL x).toArray) (.agg (suL x).toArray) (.pointer (some ⟨GA,(i + 1) * 3,none⟩)) (.pointer (some ⟨GB,(i + 1) * 3,none⟩)) yb yc yd ye yf yg yh yi yj yk yl ym yn yo yp) (((World.drew w).setCells GA ((i + 1) * 3) (suL x)).setCells GB ((i + 1) * 3) (suL x))) :
  (Code.region id (ops12_10 ps) true).wp Tryz.prog Q (fr12 v0 v1 v2 (.pointer (some ⟨R,0,none⟩)) (.int .i64 (i : Nat)) v5 (.pointer (some ⟨T,0,none⟩)) v7 v8 v9 xa xb xc xd xe xf xg xh xi xj xk xl xm xn xo xp xq xr xt xu xv xw xx xy xz xA xB xC xD xE xF xG xH xI xJ xK xL xM xN xO xP xQ xR xS xT xU xV xW xX xY xZ ya yb yc yd ye yf yg yh yi yj yk yl ym yn yo yp) w := by
 refine wp_region_held (S := MeS R GA GB T n i v x y) (by kernel_rfl) ?_
 change wpAnyH _ _ _ _ _ 14 _ _ (World.drew w)
 refine take_r 0 ⟨some 50,.fieldAddr 50 (.tmp 3) 1,0,ps,#[],none⟩ (.pointer (some ⟨R,1,none⟩)) hQ (fun w hS => by unfold fr12; go_simp) hS ?_
 refine take_k 1 (ops12_10_1 ps) (.slice (some ⟨GA,0,none⟩) (n + 1) (n + 1)) (fr12 v0 v1 v2 (.pointer (some ⟨R,0,none⟩)) (.int .i64 (i : Nat)) v5 (.pointer (some ⟨T,0,none⟩)) v7 v8 v9 xa xb xc xd xe xf xg xh xi xj xk xl xm xn xo xp xq xr xt xu xv xw xx xy xz xA xB xC xD xE xF xG xH xI xJ xK xL xM xN xO (.pointer (some ⟨R,1,none⟩)) (.slice (some ⟨GA,0,none⟩) (n + 1) (n + 1)) xR xS xT xU xV xW xX xY xZ ya yb yc yd ye yf yg yh yi yj yk yl ym yn yo yp) hQ (fun w hS => by have e := hS.c1; unfold fr12 ops12_10_1; go_simp) hS ?_
 refine take_r 2 ⟨some 52,.move (.tmp 4),3,ps,#[],none⟩ (.int .i64 (i : Nat)) hQ (fun w _ => by kernel_rfl) hS ?_
 refine take_k 3 (ops12_10_3 ps) (.int .i64 ((i : Nat) + 1)) (fr12 v0 v1 v2 (.pointer (some ⟨R,0,none⟩)) (.int .i64 (i : Nat)) v5 (.pointer (some ⟨T,0,none⟩)) v7 v8 v9 xa xb xc xd xe xf xg xh xi xj xk xl xm xn xo xp xq xr xt xu xv xw xx xy xz xA xB xC xD xE xF xG xH xI xJ xK xL xM xN xO (.pointer (some ⟨R,1,none⟩)) (.slice (some ⟨GA,0,none⟩) (n + 1) (n + 1)) (.int .i64 (i : Nat)) (.int .i64 ((i : Nat) + 1)) xT xU xV xW xX xY xZ ya yb yc yd ye yf yg yh yi yj yk yl ym yn yo yp) hQ (fun w hS => by unfold fr12 ops12_10_3; go_simp; try exact wrap_i (by omega) (by omega)) hS ?_
 refine take_r 4 ⟨some 54,.fieldAddr 50 (.tmp 3) 2,0,ps,#[⟨11,.gcOnly .lateStores⟩],none⟩ (.pointer (some ⟨R,2,none⟩)) hQ (fun w hS => by unfold fr12; go_simp) hS ?_
 refine take_k 5 (ops12_10_5 ps) (.slice (some ⟨GB,0,none⟩) (n + 1) (n + 1)) (fr12 v0 v1 v2 (.pointer (some ⟨R,0,none⟩)) (.int .i64 (i : Nat)) v5 (.pointer (some ⟨T,0,none⟩)) v7 v8 v9 xa xb xc xd xe xf xg xh xi xj xk xl xm xn xo xp xq xr xt xu xv xw xx xy xz xA xB xC xD xE xF xG xH xI xJ xK xL xM xN xO (.pointer (some ⟨R,1,none⟩)) (.slice (some ⟨GA,0,none⟩) (n + 1) (n + 1)) (.int .i64 (i : Nat)) (.int .i64 ((i : Nat) + 1)) (.pointer (some ⟨R,2,none⟩)) (.slice (some ⟨GB,0,none⟩) (n + 1) (n + 1)) xV xW xX xY xZ ya yb yc yd ye yf yg yh yi yj yk yl ym yn yo yp) hQ (fun w hS => by have e := hS.c2; unfold fr12 ops12_10_5; go_simp) hS ?_
 refine take_r 6 ⟨some 56,.move (.tmp 4),3,ps,#[⟨11,.gcOnly .lateStores⟩],none⟩ (.int .i64 (i : Nat)) hQ (fun w _ => by kernel_rfl) hS ?_
 refine take_k 7 (ops12_10_7 ps) (.int .i64 ((i : Nat) + 1)) (fr12 v0 v1 v2 (.pointer (some ⟨R,0,none⟩)) (.int .i64 (i : Nat)) v5 (.pointer (some ⟨T,0,none⟩)) v7 v8 v9 xa xb xc xd xe xf xg xh xi xj xk xl xm xn xo xp xq xr xt xu xv xw xx xy xz xA xB xC xD xE xF xG xH xI xJ xK xL xM xN xO (.pointer (some ⟨R,1,none⟩)) (.slice (some ⟨GA,0,none⟩) (n + 1) (n + 1)) (.int .i64 (i : Nat)) (.int .i64 ((i : Nat) + 1)) (.pointer (some ⟨R,2,none⟩)) (.slice (some ⟨GB,0,none⟩) (n + 1) (n + 1)) (.int .i64 (i : Nat)) (.int .i64 ((i : Nat) + 1)) xX xY xZ ya yb yc yd ye yf yg yh yi yj yk yl ym yn yo yp) hQ (fun w hS => by unfold fr12 ops12_10_7; go_simp; try exact wrap_i (by omega) (by omega)) hS ?_
 refine take_r 8 ⟨some 58,.load 89 (.tmp 6),89,ps,#[],none⟩ (.agg (suL x).toArray) hQ (fun w hS => exec_load_mid (x := (Operand.tmp 6)) 89 T 0 (suL x) _ (by kernel_rfl) (by kernel_rfl) (range_row hS.t) Tryz.underlying89 rfl (info89l x)) hS ?_
 refine take_k 9 (ops12_10_9 ps) (.agg (suL x).toArray) (fr12 v0 v1 v2 (.pointer (some ⟨R,0,none⟩)) (.int .i64 (i : Nat)) v5 (.pointer (some ⟨T,0,none⟩)) v7 v8 v9 xa xb xc xd xe xf xg xh xi xj xk xl xm xn xo xp xq xr xt xu xv xw xx xy xz xA xB xC xD xE xF xG xH xI xJ xK xL xM xN xO (.pointer (some ⟨R,1,none⟩)) (.slice (some ⟨GA,0,none⟩) (n + 1) (n + 1)) (.int .i64 (i : Nat)) (.int .i64 ((i : Nat) + 1)) (.pointer (some ⟨R,2,none⟩)) (.slice (some ⟨GB,0,none⟩) (n + 1) (n + 1)) (.int .i64 (i : Nat)) (.int .i64 ((i : Nat) + 1)) (.agg (suL x).toArray) (.agg (suL x).toArray) xZ ya yb yc yd ye yf yg yh yi yj yk yl ym yn yo yp) hQ (fun w hS => exec_load_mid (x := (Operand.tmp 6)) 89 T 0 (suL x) _ (by kernel_rfl) (by kernel_rfl) (range_row hS.t) Tryz.underlying89 rfl (info89l x)) hS ?_
 refine take_r 10 ⟨some 60,.indexAddr 48 (.tmp 51) (.tmp 53),0,ps,#[⟨1,.data⟩,⟨3,.data⟩,⟨0,.phase⟩,⟨1,.phase⟩,⟨2,.phase⟩,⟨3,.phase⟩,⟨4,.textOnly .lateStores⟩,⟨5,.textOnly .lateStores⟩,⟨6,.textOnly .lateStores⟩,⟨7,.textOnly .lateStores⟩,⟨8,.phase⟩,⟨9,.textOnly .lateStores⟩],none⟩ (.pointer (some ⟨GA,(i + 1) * 3,none⟩)) hQ (fun w hS => by unfold fr12; go_simp; try (intro h; exfalso; omega)) hS ?_
 refine want_k 11 (ops12_10_11 ps) fun K hK => ?_
 refine wp_store_mid 89 _ _ (by unfold ops12_10_11; rfl) GA ((i + 1) * 3) (suL x).toArray rfl rfl (hS.thA (by omega)) (info89 x) (suL_all x) ?_
 have hS1 : MeS R GA GB T n i v x y ((World.drew w).setCells GA ((i + 1) * 3) (suL x)) := hS.setA (by omega) x e1 e2 e3
 refine hK _ _ hS1 (cast_h (fr12 v0 v1 v2 (.pointer (some ⟨R,0,none⟩)) (.int .i64 (i : Nat)) v5 (.pointer (some ⟨T,0,none⟩)) v7 v8 v9 xa xb xc xd xe xf xg xh xi xj xk xl xm xn xo xp xq xr xt xu xv xw xx xy xz xA xB xC xD xE xF xG xH xI xJ xK xL xM xN xO (.pointer (some ⟨R,1,none⟩)) (.slice (some ⟨GA,0,none⟩) (n + 1) (n + 1)) (.int .i64 (i : Nat)) (.int .i64 ((i : Nat) + 1)) (.pointer (some ⟨R,2,none⟩)) (.slice (some ⟨GB,0,none⟩) (n + 1) (n + 1)) (.int .i64 (i : Nat)) (.int .i64 ((i : Nat) + 1)) (.agg (suL x).toArray) (.agg (suL x).toArray) (.pointer (some ⟨GA,(i + 1) * 3,none⟩)) ya yb yc yd ye yf yg yh yi yj yk yl ym yn yo yp) (by kernel_rfl) ?_)
 clear hK K
 refine take_r 12 ⟨some 61,.indexAddr 48 (.tmp 55) (.tmp 57),0,ps,#[⟨5,.data⟩,⟨7,.data⟩,⟨0,.phase⟩,⟨1,.phase⟩,⟨2,.phase⟩,⟨3,.phase⟩,⟨4,.phase⟩,⟨5,.phase⟩,⟨6,.phase⟩,⟨7,.phase⟩,⟨8,.phase⟩,⟨9,.phase⟩,⟨10,.phase⟩,⟨11,.phase⟩],none⟩ (.pointer (some ⟨GB,(i + 1) * 3,none⟩)) hQ (fun w hS => by unfold fr12; go_simp; try (intro h; exfalso; omega)) hS1 ?_
 refine want_k 13 (ops12_10_13 ps) fun K hK => ?_
 refine wp_store_mid 89 _ _ (by unfold ops12_10_13; rfl) GB ((i + 1) * 3) (suL x).toArray rfl rfl (hS1.thB (by omega)) (info89 x) (suL_all x) ?_
 have hS2 : MeS R GA GB T n i v x y (((World.drew w).setCells GA ((i + 1) * 3) (suL x)).setCells GB ((i + 1) * 3) (suL x)) := hS1.setB (by omega) (by omega) x e1 e4 e5
 refine hK _ _ hS2 (cast_h (fr12 v0 v1 v2 (.pointer (some ⟨R,0,none⟩)) (.int .i64 (i : Nat)) v5 (.pointer (some ⟨T,0,none⟩)) v7 v8 v9 xa xb xc xd xe xf xg xh xi xj xk xl xm xn xo xp xq xr xt xu xv xw xx xy xz xA xB xC xD xE xF xG xH xI xJ xK xL xM xN xO (.pointer (some ⟨R,1,none⟩)) (.slice (some ⟨GA,0,none⟩) (n + 1) (n + 1)) (.int .i64 (i : Nat)) (.int .i64 ((i : Nat) + 1)) (.pointer (some ⟨R,2,none⟩)) (.slice (some ⟨GB,0,none⟩) (n + 1) (n + 1)) (.int .i64 (i : Nat)) (.int .i64 ((i : Nat) + 1)) (.agg (suL x).toArray) (.agg (suL x).toArray) (.pointer (some ⟨GA,(i + 1) * 3,none⟩)) (.pointer (some ⟨GB,(i + 1) * 3,none⟩)) yb yc yd ye yf yg yh yi yj yk yl ym yn yo yp) (by kernel_rfl) ?_)
 clear hK K
 exact wpAnyH_done (by kernel_rfl) hq _
def ops12_12_0 (ps : String) : Oper := ⟨some 65,.fieldAddr 50 (.tmp 3) 2,0,ps,#[],none⟩
def ops12_12_1 (ps : String) : Oper := ⟨some 66,.load 48 (.tmp 65),48,ps,#[⟨0,.data⟩],none⟩
def ops12_12_2 (ps : String) : Oper := ⟨some 67,.move (.tmp 4),3,ps,#[],none⟩
def ops12_12_3 (ps : String) : Oper := ⟨some 68,.binOp .add 3 (.tmp 67) (.const (.int .i64 1)) 3,3,ps,#[⟨2,.data⟩],none⟩
def ops12_12_4 (ps : String) : Oper := ⟨some 69,.fieldAddr 50 (.tmp 3) 2,0,ps,#[],none⟩
def ops12_12_5 (ps : String) : Oper := ⟨some 70,.load 48 (.tmp 69),48,ps,#[⟨4,.data⟩],none⟩
def ops12_12_6 (ps : String) : Oper := ⟨some 71,.move (.tmp 4),3,ps,#[],none⟩
def ops12_12_7 (ps : String) : Oper := ⟨some 72,.indexAddr 48 (.tmp 70) (.tmp 71),0,ps,#[⟨5,.data⟩,⟨6,.data⟩],none⟩
def ops12_12_8 (ps : String) : Oper := ⟨some 73,.load 89 (.tmp 72),89,ps,#[⟨7,.data⟩],none⟩
def ops12_12_9 (ps : String) : Oper := ⟨some 74,.indexAddr 48 (.tmp 66) (.tmp 68),0,ps,#[⟨1,.data⟩,⟨3,.data⟩,⟨0,.phase⟩,⟨1,.phase⟩,⟨2,.phase⟩,⟨3,.phase⟩,⟨4,.phase⟩,⟨5,.phase⟩,⟨6,.phase⟩,⟨7,.phase⟩,⟨8,.phase⟩],none⟩
def ops12_12_10 (ps : String) : Oper := ⟨none,.store 89 (.tmp 74) (.tmp 73),0,ps,#[⟨9,.data⟩,⟨8,.data⟩,⟨0,.phase⟩,⟨1,.phase⟩,⟨2,.phase⟩,⟨3,.phase⟩,⟨4,.phase⟩,⟨5,.phase⟩,⟨6,.phase⟩,⟨7,.phase⟩,⟨8,.phase⟩],none⟩
def ops12_12 (ps : String) : Array Oper := #[ops12_12_0 ps,ops12_12_1 ps,ops12_12_2 ps,ops12_12_3 ps,ops12_12_4 ps,ops12_12_5 ps,ops12_12_6 ps,ops12_12_7 ps,ops12_12_8 ps,ops12_12_9 ps,ops12_12_10 ps]

theorem me_r12 (Q : Exit → Act → World → Prop) (hQ : ∀ c x (n : Nat) v w,Q (.panic c) (x.put (some n) v) w → Q (.panic c) x w) (id : Nat) (ps : String) {v0 v1 v2 v5 v6 v7 v8 v9 xa xb xc xd xe xf xg xh xi xj xk xl xm xn xo xp xq xr xt xu xv xw xx xy xz xA xB xC xD xE xF xG xH xI xJ xK xL xM xN xO xP xQ xR xS xT xU xV xW xX xY xZ ya yb yc yd ye yf yg yh yi yj yk yl ym yn yo yp : Value} (R GA GB T n i : Nat) (v : Value) (x y : Su) (w : World) (hS : MeS R GA GB T n i v x y (World.drew w))
  (hi : (i : Int) + 1 < (n : Int) + 1) (hi2 : (i : Int) < (n : Int) + 1) (hn : (n : Int) ≤ 8192) (e1 : GA ≠ GB) (_e2 : GA ≠ R) (_e3 : GA ≠ T) (e4 : GB ≠ R) (e5 : GB ≠ T)
  (hq : Q .normal (fr12 v0 v1 v2 (.pointer (some ⟨R,0,none⟩)) (.int .i64 (i : Nat)) v5 v6 v7 v8 v9 xa xb xc xd xe xf xg xh xi xj xk xl xm xn xo xp xq xr xt xu xv xw xx xy xz xA xB xC xD xE xF xG xH xI xJ xK xL xM xN xO xP xQ xR xS xT xU xV xW xX xY xZ ya yb yc yd (.pointer (some ⟨R,2,none⟩)) (.slice (some ⟨GB,0,none⟩) (n + 1) (n + 1)) (.int .i64 (i : Nat)) (.int .i64 ((i : Nat) + 1)) (.pointer (some ⟨R,2,none⟩)) (.slice (some ⟨GB,0,none⟩) (n + 1) (n + 1)) (.int .i64 (i : Nat)) (.pointer (some ⟨GB,i * 3,none⟩)) (.agg (suL y).toArray) (.pointer (some ⟨GB,(i + 1) * 3,none⟩)) yo yp) ((World.drew w).setCells GB ((i + 1) * 3) (suL y))) :
  (Code.region id (ops12_12 ps) true).wp Tryz.prog Q (fr12 v0 v1 v2 (.pointer (some ⟨R,0,none⟩)) (.int .i64 (i : Nat)) v5 v6 v7 v8 v9 xa xb xc xd xe xf xg xh xi xj xk xl xm xn xo xp xq xr xt xu xv xw xx xy xz xA xB xC xD xE xF xG xH xI xJ xK xL xM xN xO xP xQ xR xS xT xU xV xW xX xY xZ ya yb yc yd ye yf yg yh yi yj yk yl ym yn yo yp) w := by
 refine wp_region_held (S := MeS R GA GB T n i v x y) (by kernel_rfl) ?_
 change wpAnyH _ _ _ _ _ 11 _ _ (World.drew w)
 refine take_r 0 ⟨some 65,.fieldAddr 50 (.tmp 3) 2,0,ps,#[],none⟩ (.pointer (some ⟨R,2,none⟩)) hQ (fun w hS => by unfold fr12; go_simp) hS ?_
 refine take_k 1 (ops12_12_1 ps) (.slice (some ⟨GB,0,none⟩) (n + 1) (n + 1)) (fr12 v0 v1 v2 (.pointer (some ⟨R,0,none⟩)) (.int .i64 (i : Nat)) v5 v6 v7 v8 v9 xa xb xc xd xe xf xg xh xi xj xk xl xm xn xo xp xq xr xt xu xv xw xx xy xz xA xB xC xD xE xF xG xH xI xJ xK xL xM xN xO xP xQ xR xS xT xU xV xW xX xY xZ ya yb yc yd (.pointer (some ⟨R,2,none⟩)) (.slice (some ⟨GB,0,none⟩) (n + 1) (n + 1)) yg yh yi yj yk yl ym yn yo yp) hQ (fun w hS => by have e := hS.c2; unfold fr12 ops12_12_1; go_simp) hS ?_
 refine take_r 2 ⟨some 67,.move (.tmp 4),3,ps,#[],none⟩ (.int .i64 (i : Nat)) hQ (fun w _ => by kernel_rfl) hS ?_
 refine take_k 3 (ops12_12_3 ps) (.int .i64 ((i : Nat) + 1)) (fr12 v0 v1 v2 (.pointer (some ⟨R,0,none⟩)) (.int .i64 (i : Nat)) v5 v6 v7 v8 v9 xa xb xc xd xe xf xg xh xi xj xk xl xm xn xo xp xq xr xt xu xv xw xx xy xz xA xB xC xD xE xF xG xH xI xJ xK xL xM xN xO xP xQ xR xS xT xU xV xW xX xY xZ ya yb yc yd (.pointer (some ⟨R,2,none⟩)) (.slice (some ⟨GB,0,none⟩) (n + 1) (n + 1)) (.int .i64 (i : Nat)) (.int .i64 ((i : Nat) + 1)) yi yj yk yl ym yn yo yp) hQ (fun w hS => by unfold fr12 ops12_12_3; go_simp; try exact wrap_i (by omega) (by omega)) hS ?_
 refine take_r 4 ⟨some 69,.fieldAddr 50 (.tmp 3) 2,0,ps,#[],none⟩ (.pointer (some ⟨R,2,none⟩)) hQ (fun w hS => by unfold fr12; go_simp) hS ?_
 refine take_k 5 (ops12_12_5 ps) (.slice (some ⟨GB,0,none⟩) (n + 1) (n + 1)) (fr12 v0 v1 v2 (.pointer (some ⟨R,0,none⟩)) (.int .i64 (i : Nat)) v5 v6 v7 v8 v9 xa xb xc xd xe xf xg xh xi xj xk xl xm xn xo xp xq xr xt xu xv xw xx xy xz xA xB xC xD xE xF xG xH xI xJ xK xL xM xN xO xP xQ xR xS xT xU xV xW xX xY xZ ya yb yc yd (.pointer (some ⟨R,2,none⟩)) (.slice (some ⟨GB,0,none⟩) (n + 1) (n + 1)) (.int .i64 (i : Nat)) (.int .i64 ((i : Nat) + 1)) (.pointer (some ⟨R,2,none⟩)) (.slice (some ⟨GB,0,none⟩) (n + 1) (n + 1)) yk yl ym yn yo yp) hQ (fun w hS => by have e := hS.c2; unfold fr12 ops12_12_5; go_simp) hS ?_
 refine take_r 6 ⟨some 71,.move (.tmp 4),3,ps,#[],none⟩ (.int .i64 (i : Nat)) hQ (fun w _ => by kernel_rfl) hS ?_
 refine take_k 7 (ops12_12_7 ps) (.pointer (some ⟨GB,i * 3,none⟩)) (fr12 v0 v1 v2 (.pointer (some ⟨R,0,none⟩)) (.int .i64 (i : Nat)) v5 v6 v7 v8 v9 xa xb xc xd xe xf xg xh xi xj xk xl xm xn xo xp xq xr xt xu xv xw xx xy xz xA xB xC xD xE xF xG xH xI xJ xK xL xM xN xO xP xQ xR xS xT xU xV xW xX xY xZ ya yb yc yd (.pointer (some ⟨R,2,none⟩)) (.slice (some ⟨GB,0,none⟩) (n + 1) (n + 1)) (.int .i64 (i : Nat)) (.int .i64 ((i : Nat) + 1)) (.pointer (some ⟨R,2,none⟩)) (.slice (some ⟨GB,0,none⟩) (n + 1) (n + 1)) (.int .i64 (i : Nat)) (.pointer (some ⟨GB,i * 3,none⟩)) ym yn yo yp) hQ (fun w hS => by unfold fr12 ops12_12_7; go_simp; try (intro h; exfalso; omega)) hS ?_
 refine take_r 8 ⟨some 73,.load 89 (.tmp 72),89,ps,#[⟨7,.data⟩],none⟩ (.agg (suL y).toArray) hQ (fun w hS => exec_load_mid (x := (Operand.tmp 72)) 89 GB (i * 3) (suL y) _ (by kernel_rfl) (by kernel_rfl) hS.rgB Tryz.underlying89 rfl (info89l y)) hS ?_
 refine take_k 9 (ops12_12_9 ps) (.pointer (some ⟨GB,(i + 1) * 3,none⟩)) (fr12 v0 v1 v2 (.pointer (some ⟨R,0,none⟩)) (.int .i64 (i : Nat)) v5 v6 v7 v8 v9 xa xb xc xd xe xf xg xh xi xj xk xl xm xn xo xp xq xr xt xu xv xw xx xy xz xA xB xC xD xE xF xG xH xI xJ xK xL xM xN xO xP xQ xR xS xT xU xV xW xX xY xZ ya yb yc yd (.pointer (some ⟨R,2,none⟩)) (.slice (some ⟨GB,0,none⟩) (n + 1) (n + 1)) (.int .i64 (i : Nat)) (.int .i64 ((i : Nat) + 1)) (.pointer (some ⟨R,2,none⟩)) (.slice (some ⟨GB,0,none⟩) (n + 1) (n + 1)) (.int .i64 (i : Nat)) (.pointer (some ⟨GB,i * 3,none⟩)) (.agg (suL y).toArray) (.pointer (some ⟨GB,(i + 1) * 3,none⟩)) yo yp) hQ (fun w hS => by unfold fr12 ops12_12_9; go_simp; try (intro h; exfalso; omega)) hS ?_
 refine want_k 10 (ops12_12_10 ps) fun K hK => ?_
 refine wp_store_mid 89 _ _ (by unfold ops12_12_10; rfl) GB ((i + 1) * 3) (suL y).toArray rfl rfl (hS.thB (by omega)) (info89 y) (suL_all y) ?_
 have hS1 : MeS R GA GB T n i v x y ((World.drew w).setCells GB ((i + 1) * 3) (suL y)) := hS.setB (by omega) (by omega) y e1 e4 e5
 refine hK _ _ hS1 (cast_h (fr12 v0 v1 v2 (.pointer (some ⟨R,0,none⟩)) (.int .i64 (i : Nat)) v5 v6 v7 v8 v9 xa xb xc xd xe xf xg xh xi xj xk xl xm xn xo xp xq xr xt xu xv xw xx xy xz xA xB xC xD xE xF xG xH xI xJ xK xL xM xN xO xP xQ xR xS xT xU xV xW xX xY xZ ya yb yc yd (.pointer (some ⟨R,2,none⟩)) (.slice (some ⟨GB,0,none⟩) (n + 1) (n + 1)) (.int .i64 (i : Nat)) (.int .i64 ((i : Nat) + 1)) (.pointer (some ⟨R,2,none⟩)) (.slice (some ⟨GB,0,none⟩) (n + 1) (n + 1)) (.int .i64 (i : Nat)) (.pointer (some ⟨GB,i * 3,none⟩)) (.agg (suL y).toArray) (.pointer (some ⟨GB,(i + 1) * 3,none⟩)) yo yp) (by kernel_rfl) ?_)
 clear hK K
 exact wpAnyH_done (by kernel_rfl) hq _
end Go.Proofs.YtfndocmgonlhpaaGreatDoor

namespace Go.Proofs.YtfndocmgonlhpaaGreatDoor
open Go.RowKit Go.Shelf

def ElOk (t e : TypeId) (k bytes : Nat) : Prop := Tryz.prog.underlying t = some (.slice e) ∧ ∃ i z,Tryz.prog.info? e = some i ∧ i.zero = some z ∧ i.size = k ∧ i.bytes = bytes ∧ z.cells.size = k
theorem ElOk.of {t e : TypeId} {k bytes : Nat} (hu : Tryz.prog.underlying t = some (.slice e)) (h : (Tryz.prog.info? e).map (fun i => (i.zero.map (fun z => z.cells.size),i.size,i.bytes)) = some (some k,k,bytes)) : ElOk t e k bytes := by
 refine ⟨hu,?_⟩
 cases hi : Tryz.prog.info? e with
 | none => rw [hi] at h; cases h
 | some i =>
  rw [hi] at h
  simp only [Option.map_some,Option.some.injEq,Prod.mk.injEq] at h
  obtain ⟨h1,h2,h3⟩ := h
  cases hz : i.zero with
  | none => rw [hz] at h1; cases h1
  | some z => rw [hz] at h1; exact ⟨i,z,rfl,hz,h2,h3,by simpa using h1⟩
section
variable {α : Type} {k : Nat} {f : α → List Value}
theorem row_new (hf : ∀ a,(f a).length = k) (w : World) (base : Nat) (hb : base ≤ w.heap.size) (e : TypeId) (x : α) : (w.alloc (.cells (f x).toArray e)).ownsRow base e k (.slice (some ⟨w.heap.size,0,none⟩) 1 1) [x].length ([x].flatMap f) := by
 refine ⟨by simp [hf],.inr ⟨w.heap.size,1,(f x).toArray,rfl,hb,World.alloc_heap_new w _,Nat.le_refl _,by unfold maxLen; omega,by simp [hf],?_⟩⟩
 simp
 exact List.take_of_length_le (by rw [hf]; exact Nat.le_refl _)
theorem row_below {w w' : World} {base : Nat} {v : Value} (hg : w.grownBy w' v.ownBlock) (hv : ∀ g,v.ownBlock = some g → base ≤ g) (hb : base ≤ w.heap.size) : Below base w w' :=
 ⟨hg.os,hg.tape,hg.output,hg.size,fun j hj => hg.block j (Nat.lt_of_lt_of_le hj hb) (fun e => by have := hv j e.symm; omega)⟩
theorem rec_cells (_hf : ∀ a,(f a).length = k) (W : World) (e : TypeId) (p : α) : ∀ j u,(f p)[j]? = some u → (W.alloc (.cells (f p).toArray e)).cell? ((⟨W.heap.size,0,none⟩ : Addr).add j) = some u := fun j u hu => by
 rw [addr_add0,Lib.cell_of_heap (World.alloc_heap_new W _)]
 simpa using hu
theorem wp_app1 {oi : Oper} {a : Act} {w w0 : World} {K : Act → World → Prop} {Q : Exit → Act → World → Prop} {t e : TypeId} {bytes : Nat} (hE : ElOk t e k bytes) (hf : ∀ a,(f a).length = k) (hone : ∀ p,∀ u ∈ f p,u.oneCell' = true) (hk : 0 < k) (hby : bytes ≤ 1000)
  (x y : Operand) (ho : oi.op = Op.call { callee := Callee.builtin Builtin.append,args := #[x,y],argTypes := #[t,t] }) (base : Nat) (v : Value) (qs : List α) (p : α) (hx : a.eval x = v)
  (hown : w0.ownsRow base e k v qs.length (qs.flatMap f)) (hb : base ≤ w0.heap.size) (hn : qs.length ≤ 9000) (hy : a.eval y = .slice (some ⟨w0.heap.size,0,none⟩) 1 1) (hw : w = w0.alloc (.cells (f p).toArray e))
  (h : ∀ v' w',w'.ownsRow base e k v' (qs ++ [p]).length ((qs ++ [p]).flatMap f) → Below base w0 w' → K (a.put oi.dst v') w') : oi.wp Tryz.prog a w K Q := by
 subst hw
 obtain ⟨hu,i,z,hi,hz0,hz1,hz2,hz3⟩ := hE
 have hbb : (qs.length + 1) * bytes ≤ 140737488355328 := Nat.le_trans (Nat.mul_le_mul (show qs.length + 1 ≤ 9001 by omega) hby) (by decide)
 obtain ⟨v',w',hrun,r1,r2,_⟩ := run_append_where (P := Tryz.prog) (w0.alloc (.cells (f p).toArray e)) base t oi.type e i z k bytes hu hi hz0 hz1 hz2 hz3 hk v qs.length (qs.flatMap f) (hown.alloc _) ⟨w0.heap.size,0,none⟩ 1 1 (f p) (by rw [hf]; omega) (rec_cells hf w0 e p) (hone p) (by unfold maxLen; omega) hbb (by simp; omega)
 have e1 : [p].flatMap f = f p := by simp
 have hB : Below base w0 w' := ((Below.refl base w0).alloc hb _).trans (row_below r2 (fun g hg => (hown.lt g hg).1) (by simp; omega))
 have hK := h v' w' (by rw [List.length_append,List.flatMap_append,e1]; exact r1) hB
 unfold Oper.wp
 simp [execOp,ho,resolve,invoke,builtin,hx,hy,hrun,Result.andThen]
 exact hK
theorem wpList_app1 {ops : Array Oper} {rest : List Oper} {oi : Oper} {a : Act} {w w0 : World} {Q : Exit → Act → World → Prop} {t e : TypeId} {bytes : Nat} (hgd : oi.guard = none) (hE : ElOk t e k bytes) (hf : ∀ a,(f a).length = k) (hone : ∀ p,∀ u ∈ f p,u.oneCell' = true) (hk : 0 < k) (hby : bytes ≤ 1000)
  (x y : Operand) (ho : oi.op = Op.call { callee := Callee.builtin Builtin.append,args := #[x,y],argTypes := #[t,t] }) (base : Nat) (v : Value) (qs : List α) (p : α) (hx : a.eval x = v)
  (hown : w0.ownsRow base e k v qs.length (qs.flatMap f)) (hb : base ≤ w0.heap.size) (hn : qs.length ≤ 9000) (hy : a.eval y = .slice (some ⟨w0.heap.size,0,none⟩) 1 1) (hw : w = w0.alloc (.cells (f p).toArray e))
  (h : ∀ v' w',w'.ownsRow base e k v' (qs ++ [p]).length ((qs ++ [p]).flatMap f) → Below base w0 w' → wpList Tryz.prog ops Q rest (a.put oi.dst v') w') : wpList Tryz.prog ops Q (oi :: rest) a w :=
 wpList_plain hgd fun _ hK => wp_app1 hE hf hone hk hby x y ho base v qs p hx hown hb hn hy hw fun v' w' h1 h2 => hK _ _ (h v' w' h1 h2)
theorem row_rb (hf : ∀ a,(f a).length = k) {W : World} {base : Nat} {e : TypeId} {v : Value} {L : List α} (h : W.ownsRow base e k v L.length (L.flatMap f)) (hL : 0 < L.length) : ∃ g cap,v = .slice (some ⟨g,0,none⟩) L.length cap ∧ base ≤ g ∧ L.length ≤ cap ∧ RB k f W g L := by
 rcases h.2 with ⟨_,hn⟩ | ⟨g,cap,cur,rfl,hb,hg,hnc,_,hcs,htk⟩
 ·omega
 ·refine ⟨g,cap,rfl,hb,hnc,RB.of_row hg fun i hi j u hu => ?_⟩
  have hj : j < k := by have := (List.getElem?_eq_some_iff.1 hu).1; rw [hf] at this; exact this
  have h1 := fm_get hf L hi j hj
  rw [hu,← htk,List.getElem?_take] at h1
  split at h1
  ·simpa using h1
  ·cases h1
theorem RB.cell (hf : ∀ a,(f a).length = k) {W : World} {g : Nat} {L : List α} (h : RB k f W g L) {p : Nat} (hp : p < L.length) (c : Nat) (hc : c < k) (u : Value) (x : α) (hx : f x = (f L[p]).set c u) : RB k f (W.setCell ⟨g,p * k + c,none⟩ u) g (L.set p x) := by
 have ht := Turns.setCell (X := fun _ => True) W (p := ⟨g,p * k + c,none⟩) trivial u
 refine ⟨Nat.lt_of_lt_of_le h.lt ht.size,fun i hi j v hv => ?_⟩
 have hi' : i < L.length := by simpa using hi
 have hj : j < k := by have := (List.getElem?_eq_some_iff.1 hv).1; rw [hf] at this; exact this
 have e0 : W.setCell ⟨g,p * k + c,none⟩ u = W.setCells g (p * k + c) [u] := rfl
 have hth : W.there g (p * k + c) 1 := fun q hq => by
  obtain rfl : q = 0 := by omega
  exact h.there hf hp c hc
 rw [e0,World.frozen?_setCells]
 by_cases e : p = i
 ·subst e
  rw [List.getElem_set_self] at hv
  rw [hx] at hv
  refine ⟨?_,((h.there hf hp) j hj).2⟩
  by_cases ej : c = j
  ·subst ej
   rw [List.getElem?_set_self (by rw [hf]; exact hc)] at hv
   have := (World.rangeAt_setCells_same W g (p * k + c) [u] hth) 0 u rfl
   rw [← Option.some.inj hv]
   exact this
  ·rw [List.getElem?_set_ne ej] at hv
   rw [World.cell?_setCells_out g [u] (p * k + c) W ⟨g,p * k + j,none⟩ (fun _ _ => by show p * k + j < p * k + c ∨ p * k + c + 1 ≤ p * k + j; omega)]
   exact (h.all p hp j v hv).1
 ·rw [List.getElem_set_ne e] at hv
  have := h.all i hi' j v hv
  refine ⟨?_,this.2⟩
  rw [World.cell?_setCells_out g [u] (p * k + c) W ⟨g,i * k + j,none⟩ (fun _ _ => by
   show i * k + j < p * k + c ∨ p * k + c + 1 ≤ i * k + j
   rcases apart_mul hj e with h | h
   ·left; omega
   ·right; omega)]
  exact this.1
end
end Go.Proofs.YtfndocmgonlhpaaGreatDoor

namespace Go.Proofs.YtfndocmgonlhpaaGreatDoor
open Go.RowKit Go.Shelf
set_option maxRecDepth 100000

structure It where
 k : Int
 f : Int
 t : Int
 w : Int
 s : Int
 h : Int
 c : Int
 y : Bool
def itL (x : It) : List Value := [.int .i64 x.k,.int .i64 x.f,.int .i64 x.t,.int .i64 x.w,.int .i64 x.s,.int .i64 x.h,.int .i64 x.c,.bool x.y]
theorem itL_len (x : It) : (itL x).length = 8 := rfl
theorem itL_one (x : It) : ∀ u ∈ itL x,u.oneCell' = true := by
 intro u hu; simp [itL] at hu; rcases hu with rfl | rfl | rfl | rfl | rfl | rfl | rfl | rfl <;> rfl
def okP (x : It) : Prop := (1 ≤ x.k ∧ x.k ≤ 4) ∧ 0 ≤ x.f ∧ x.f ≤ x.t ∧ (0 ≤ x.w ∧ x.w ≤ 524288) ∧ (0 ≤ x.s ∧ x.s ≤ 4095) ∧ (0 ≤ x.h ∧ x.h ≤ 4095) ∧ (0 ≤ x.c ∧ x.c ≤ 4095) ∧ (x.k ≠ 4 ∨ x.w = 0) ∧ (x.k = 2 ∨ (x.s = 0 ∧ x.h = 0)) ∧ (x.k = 3 ∨ (x.c = 0 ∧ x.y = false))
instance (x : It) : Decidable (okP x) := by unfold okP; infer_instance
def okI (x : It) : Bool := decide (okP x)
theorem below_drewM {n : Nat} {w w' : World} (h : Below n w w') (q : Nat) : Below n w (w'.drewN q) := ⟨h.1,h.2,h.3,h.4,h.5⟩

def keB (n m : Int) : Bool := decide (0 ≤ n ∧ n ≤ m)
theorem keeps_any (n m : Int) (w : World) : Calls Tryz.prog 93 #[.int .i64 n,.int .i64 m] w fun e w' => e = .returned (.bool (keB n m)) ∧ w' = w := by
 unfold keB
 by_cases h1 : 0 ≤ n
 ·by_cases h2 : n ≤ m
  ·rw [decide_eq_true ⟨h1,h2⟩]
   go_enter Tryz.func93,Tryz.ntmps93
   go_wp2
   go_ret
   exact ⟨rfl,rfl⟩
  ·rw [decide_eq_false (by omega)]
   go_enter Tryz.func93,Tryz.ntmps93
   go_wp2
   go_ret
   exact ⟨rfl,rfl⟩
 ·rw [decide_eq_false (by omega)]
  go_enter Tryz.func93,Tryz.ntmps93
  go_wp2
  go_ret
  exact ⟨rfl,rfl⟩
end Go.Proofs.YtfndocmgonlhpaaGreatDoor
