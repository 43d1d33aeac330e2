/-
  What is proved here: the stores of measure of least.
  What is proved here: one record more behind a row of one's own; a field of a record in a block is written.
  What is proved here: what begin, upTo, legal, width, next of first answer.
-/
import Derived.Test.YtfiekhephkpdjaaGreatDoorG1
import Derived.Test.YtfiekhephkpdjaaGreatDoorG15
import Derived.Test.YtfiekhephkpdjaaGreatDoorG5
import Derived.Test.YtfiekhephkpdjaaGreatDoorG4
namespace Go.Proofs.YtfiekhephkpdjaaGreatDoor
open Go.RowKit Go.Shelf
set_option maxRecDepth 100000
set_option maxHeartbeats 1000000

theorem exec_load_mid {P : Program} {a : Act} {w : World} {o : Oper} {x : Operand} (ty : TypeId) (b off : Nat) (cs : List Value) (d : TypeDesc) (ho : o.op = .load ty x) (hx : a.eval x = .pointer (some ⟨b,off,none⟩)) (hc : w.rangeAt b off cs)
  (hu : P.underlying ty = some d) (hd : d.isRow = true) (hi : (P.info? ty).map (·.size) = some cs.length) : (execOp a.eval o).run P w = .ok (.value (.agg cs.toArray)) w := by
 unfold execOp
 simp only [ho,hx,Instr.loadAt,Instr.sureAddr,Sem.run_bind,Sem.run_pure,Result.andThen_ok,run_loadVar_mid w b off ty cs d hc hu hd hi]
theorem RB.range {α : Type} {k : Nat} {f : α → List Value} {W : World} {g : Nat} {L : List α} (h : RB k f W g L) {i : Nat} (hi : i < L.length) : W.rangeAt g (i * k) (f L[i]) := fun j v hv => (h.all i hi j v hv).1
theorem range_row {W : World} {b : Nat} {t : TypeId} {cs : List Value} (h : W.heap[b]? = some (.cells cs.toArray t (0,0))) : W.rangeAt b 0 cs := fun j v hv => by rw [Lib.cell_of_heap h,Nat.zero_add]; simpa using hv
structure MeS (R GA GB T n i : Nat) (v : Value) (x y : Su) (W : World) : Prop where
 r : W.heap[R]? = some (.cells (ruA v (.slice (some ⟨GA,0,none⟩) (n + 1) (n + 1)) (.slice (some ⟨GB,0,none⟩) (n + 1) (n + 1))) 133 (0,0))
 t : W.heap[T]? = some (.cells (suL x).toArray 182 (0,0))
 ga : ∃ A,A.length = n + 1 ∧ RB 3 suL W GA A
 gb : ∃ A,A.length = n + 1 ∧ A[i]? = some y ∧ RB 3 suL W GB A
theorem MeS.c1 {R GA GB T n i : Nat} {v : Value} {x y : Su} {W : World} (h : MeS R GA GB T n i v x y W) : W.cell? ⟨R,1,none⟩ = some (.slice (some ⟨GA,0,none⟩) (n + 1) (n + 1)) := by rw [Lib.cell_of_heap h.r]; rfl
theorem MeS.c2 {R GA GB T n i : Nat} {v : Value} {x y : Su} {W : World} (h : MeS R GA GB T n i v x y W) : W.cell? ⟨R,2,none⟩ = some (.slice (some ⟨GB,0,none⟩) (n + 1) (n + 1)) := by rw [Lib.cell_of_heap h.r]; rfl
theorem MeS.setA {R GA GB T n i : Nat} {v : Value} {x y : Su} {W : World} (h : MeS R GA GB T n i v x y W) {p : Nat} (hp : p < n + 1) (z : Su) (h1 : GA ≠ GB) (h2 : GA ≠ R) (h3 : GA ≠ T) : MeS R GA GB T n i v x y (W.setCells GA (p * 3) (suL z)) := by
 have ht := turns_setCells (X := fun k => k = GA) rfl (suL z) (p * 3) W
 have lt : ∀ {k : Nat} {x : Obj},W.heap[k]? = some x → k < W.heap.size := fun h => (Array.getElem?_eq_some_iff.1 h).1
 obtain ⟨A,hA,hR⟩ := h.ga
 obtain ⟨B,hB,hy,hR'⟩ := h.gb
 exact ⟨(ht.block _ (lt h.r) (fun e => h2 e.symm)).trans h.r,(ht.block _ (lt h.t) (fun e => h3 e.symm)).trans h.t,⟨_,by simpa using hA,hR.set suL_len (by omega) z⟩,⟨B,hB,hy,hR'.turns ht (fun e => h1 e.symm)⟩⟩
theorem MeS.setB {R GA GB T n i : Nat} {v : Value} {x y : Su} {W : World} (h : MeS R GA GB T n i v x y W) {p : Nat} (hp : p < n + 1) (hpi : p ≠ i) (z : Su) (h1 : GA ≠ GB) (h2 : GB ≠ R) (h3 : GB ≠ T) : MeS R GA GB T n i v x y (W.setCells GB (p * 3) (suL z)) := by
 have ht := turns_setCells (X := fun k => k = GB) rfl (suL z) (p * 3) W
 have lt : ∀ {k : Nat} {x : Obj},W.heap[k]? = some x → k < W.heap.size := fun h => (Array.getElem?_eq_some_iff.1 h).1
 obtain ⟨A,hA,hR⟩ := h.ga
 obtain ⟨B,hB,hy,hR'⟩ := h.gb
 exact ⟨(ht.block _ (lt h.r) (fun e => h2 e.symm)).trans h.r,(ht.block _ (lt h.t) (fun e => h3 e.symm)).trans h.t,⟨A,hA,hR.turns ht h1⟩,⟨_,by simpa using hB,by rw [List.getElem?_set_ne hpi]; exact hy,hR'.set suL_len (by omega) z⟩⟩
theorem MeS.thA {R GA GB T n i : Nat} {v : Value} {x y : Su} {W : World} (h : MeS R GA GB T n i v x y W) {p : Nat} (hp : p < n + 1) : W.there GA (p * 3) 3 := by
 obtain ⟨A,hA,hR⟩ := h.ga
 exact hR.there suL_len (by omega)
theorem MeS.thB {R GA GB T n i : Nat} {v : Value} {x y : Su} {W : World} (h : MeS R GA GB T n i v x y W) {p : Nat} (hp : p < n + 1) : W.there GB (p * 3) 3 := by
 obtain ⟨A,hA,_,hR⟩ := h.gb
 exact hR.there suL_len (by omega)
theorem MeS.rgB {R GA GB T n i : Nat} {v : Value} {x y : Su} {W : World} (h : MeS R GA GB T n i v x y W) : W.rangeAt GB (i * 3) (suL y) := by
 obtain ⟨A,hA,hy,hR⟩ := h.gb
 obtain ⟨hi,e⟩ := List.getElem?_eq_some_iff.1 hy
 have := hR.range hi
 rwa [e] at this
theorem info89l (p : Su) : (Tryz.prog.info? 182).map (·.size) = some (suL p).length := by show _ = some 3; kernel_rfl
def ops12_10_0 (ps : String) : Oper := ⟨some 50,.fieldAddr 133 (.tmp 3) 1,0,ps,#[],none⟩
def ops12_10_1 (ps : String) : Oper := ⟨some 51,.load 131 (.tmp 50),131,ps,#[⟨0,.data⟩],none⟩
def ops12_10_2 (ps : String) : Oper := ⟨some 52,.move (.tmp 4),3,ps,#[],none⟩
def ops12_10_3 (ps : String) : Oper := ⟨some 53,.binOp .add 3 (.tmp 52) (.const (.int .i64 1)) 3,3,ps,#[⟨2,.data⟩],none⟩
def ops12_10_4 (ps : String) : Oper := ⟨some 54,.fieldAddr 133 (.tmp 3) 2,0,ps,#[⟨11,.gcOnly .lateStores⟩],none⟩
def ops12_10_5 (ps : String) : Oper := ⟨some 55,.load 131 (.tmp 54),131,ps,#[⟨4,.data⟩,⟨11,.gcOnly .lateStores⟩],none⟩
def ops12_10_6 (ps : String) : Oper := ⟨some 56,.move (.tmp 4),3,ps,#[⟨11,.gcOnly .lateStores⟩],none⟩
def ops12_10_7 (ps : String) : Oper := ⟨some 57,.binOp .add 3 (.tmp 56) (.const (.int .i64 1)) 3,3,ps,#[⟨6,.data⟩,⟨11,.gcOnly .lateStores⟩],none⟩
def ops12_10_8 (ps : String) : Oper := ⟨some 58,.load 182 (.tmp 6),182,ps,#[],none⟩
def ops12_10_9 (ps : String) : Oper := ⟨some 59,.load 182 (.tmp 6),182,ps,#[⟨11,.gcOnly .lateStores⟩],none⟩
def ops12_10_10 (ps : String) : Oper := ⟨some 60,.indexAddr 131 (.tmp 51) (.tmp 53),0,ps,#[⟨1,.data⟩,⟨3,.data⟩,⟨0,.phase⟩,⟨1,.phase⟩,⟨2,.phase⟩,⟨3,.phase⟩,⟨4,.textOnly .lateStores⟩,⟨5,.textOnly .lateStores⟩,⟨6,.textOnly .lateStores⟩,⟨7,.textOnly .lateStores⟩,⟨8,.phase⟩,⟨9,.textOnly .lateStores⟩],none⟩
def ops12_10_11 (ps : String) : Oper := ⟨none,.store 182 (.tmp 60) (.tmp 58),0,ps,#[⟨10,.data⟩,⟨8,.data⟩,⟨0,.phase⟩,⟨1,.phase⟩,⟨2,.phase⟩,⟨3,.phase⟩,⟨4,.textOnly .lateStores⟩,⟨5,.textOnly .lateStores⟩,⟨6,.textOnly .lateStores⟩,⟨7,.textOnly .lateStores⟩,⟨8,.phase⟩,⟨9,.textOnly .lateStores⟩],none⟩
def ops12_10_12 (ps : String) : Oper := ⟨some 61,.indexAddr 131 (.tmp 55) (.tmp 57),0,ps,#[⟨5,.data⟩,⟨7,.data⟩,⟨0,.phase⟩,⟨1,.phase⟩,⟨2,.phase⟩,⟨3,.phase⟩,⟨4,.phase⟩,⟨5,.phase⟩,⟨6,.phase⟩,⟨7,.phase⟩,⟨8,.phase⟩,⟨9,.phase⟩,⟨10,.phase⟩,⟨11,.phase⟩],none⟩
def ops12_10_13 (ps : String) : Oper := ⟨none,.store 182 (.tmp 61) (.tmp 59),0,ps,#[⟨12,.data⟩,⟨9,.data⟩,⟨11,.chain⟩,⟨0,.phase⟩,⟨1,.phase⟩,⟨2,.phase⟩,⟨3,.phase⟩,⟨4,.phase⟩,⟨5,.phase⟩,⟨6,.phase⟩,⟨7,.phase⟩,⟨8,.phase⟩,⟨9,.phase⟩,⟨10,.phase⟩,⟨11,.phase⟩],none⟩
def ops12_10 (ps : String) : Array Oper := #[ops12_10_0 ps,ops12_10_1 ps,ops12_10_2 ps,ops12_10_3 ps,ops12_10_4 ps,ops12_10_5 ps,ops12_10_6 ps,ops12_10_7 ps,ops12_10_8 ps,ops12_10_9 ps,ops12_10_10 ps,ops12_10_11 ps,ops12_10_12 ps,ops12_10_13 ps]

theorem me_r10 (Q : Exit → Act → World → Prop) (hQ : ∀ c x (n : Nat) v w,Q (.panic c) (x.put (some n) v) w → Q (.panic c) x w) (id : Nat) (ps : String) {v0 v1 v2 v5 v7 v8 v9 xa xb xc xd xe xf xg xh xi xj xk xl xm xn xo xp xq xr xt xu xv xw xx xy xz xA xB xC xD xE xF xG xH xI xJ xK xL xM xN xO xP xQ xR xS xT xU xV xW xX xY xZ ya yb yc yd ye yf yg yh yi yj yk yl ym yn yo yp : Value} (R GA GB T n i : Nat) (v : Value) (x y : Su) (w : World) (hS : MeS R GA GB T n i v x y (World.drew w))
  (hi : (i : Int) + 1 < (n : Int) + 1) (_hi2 : (i : Int) < (n : Int) + 1) (hn : (n : Int) ≤ 8192) (e1 : GA ≠ GB) (e2 : GA ≠ R) (e3 : GA ≠ T) (e4 : GB ≠ R) (e5 : GB ≠ T)
  (hq : Q .normal (fr12 v0 v1 v2 (.pointer (some ⟨R,0,none⟩)) (.int .i64 (i : Nat)) v5 (.pointer (some ⟨T,0,none⟩)) v7 v8 v9 xa xb xc xd xe xf xg xh xi xj xk xl xm xn xo xp xq xr xt xu xv xw xx xy xz xA xB xC xD xE xF xG xH xI xJ xK xL xM xN xO (.pointer (some ⟨R,1,none⟩)) (.slice (some ⟨GA,0,none⟩) (n + 1) (n + 1)) (.int .i64 (i : Nat)) (.int .i64 ((i : Nat) + 1)) (.pointer (some ⟨R,2,none⟩)) (.slice (some ⟨GB,0,none⟩) (n + 1) (n + 1)) (.int .i64 (i : Nat)) (.int .i64 ((i : Nat) + 1)) (.agg (suL x).toArray) (.agg (suL x).toArray) (.pointer (some ⟨GA,(i + 1) * 3,none⟩)) (.pointer (some ⟨GB,(i + 1) * 3,none⟩)) yb yc yd ye yf yg yh yi yj yk yl ym yn yo yp) (((World.drew w).setCells GA ((i + 1) * 3) (suL x)).setCells GB ((i + 1) * 3) (suL x))) :
  (Code.region id (ops12_10 ps) true).wp Tryz.prog Q (fr12 v0 v1 v2 (.pointer (some ⟨R,0,none⟩)) (.int .i64 (i : Nat)) v5 (.pointer (some ⟨T,0,none⟩)) v7 v8 v9 xa xb xc xd xe xf xg xh xi xj xk xl xm xn xo xp xq xr xt xu xv xw xx xy xz xA xB xC xD xE xF xG xH xI xJ xK xL xM xN xO xP xQ xR xS xT xU xV xW xX xY xZ ya yb yc yd ye yf yg yh yi yj yk yl ym yn yo yp) w := by
 refine wp_region_held (S := MeS R GA GB T n i v x y) (by kernel_rfl) ?_
 change wpAnyH _ _ _ _ _ 14 _ _ (World.drew w)
 refine take_r 0 ⟨some 50,.fieldAddr 133 (.tmp 3) 1,0,ps,#[],none⟩ (.pointer (some ⟨R,1,none⟩)) hQ (fun w hS => by unfold fr12; go_simp) hS ?_
 refine take_k 1 (ops12_10_1 ps) (.slice (some ⟨GA,0,none⟩) (n + 1) (n + 1)) (fr12 v0 v1 v2 (.pointer (some ⟨R,0,none⟩)) (.int .i64 (i : Nat)) v5 (.pointer (some ⟨T,0,none⟩)) v7 v8 v9 xa xb xc xd xe xf xg xh xi xj xk xl xm xn xo xp xq xr xt xu xv xw xx xy xz xA xB xC xD xE xF xG xH xI xJ xK xL xM xN xO (.pointer (some ⟨R,1,none⟩)) (.slice (some ⟨GA,0,none⟩) (n + 1) (n + 1)) xR xS xT xU xV xW xX xY xZ ya yb yc yd ye yf yg yh yi yj yk yl ym yn yo yp) hQ (fun w hS => by have e := hS.c1; unfold fr12 ops12_10_1; go_simp) hS ?_
 refine take_r 2 ⟨some 52,.move (.tmp 4),3,ps,#[],none⟩ (.int .i64 (i : Nat)) hQ (fun w _ => by kernel_rfl) hS ?_
 refine take_k 3 (ops12_10_3 ps) (.int .i64 ((i : Nat) + 1)) (fr12 v0 v1 v2 (.pointer (some ⟨R,0,none⟩)) (.int .i64 (i : Nat)) v5 (.pointer (some ⟨T,0,none⟩)) v7 v8 v9 xa xb xc xd xe xf xg xh xi xj xk xl xm xn xo xp xq xr xt xu xv xw xx xy xz xA xB xC xD xE xF xG xH xI xJ xK xL xM xN xO (.pointer (some ⟨R,1,none⟩)) (.slice (some ⟨GA,0,none⟩) (n + 1) (n + 1)) (.int .i64 (i : Nat)) (.int .i64 ((i : Nat) + 1)) xT xU xV xW xX xY xZ ya yb yc yd ye yf yg yh yi yj yk yl ym yn yo yp) hQ (fun w hS => by unfold fr12 ops12_10_3; go_simp; try exact wrap_i (by omega) (by omega)) hS ?_
 refine take_r 4 ⟨some 54,.fieldAddr 133 (.tmp 3) 2,0,ps,#[⟨11,.gcOnly .lateStores⟩],none⟩ (.pointer (some ⟨R,2,none⟩)) hQ (fun w hS => by unfold fr12; go_simp) hS ?_
 refine take_k 5 (ops12_10_5 ps) (.slice (some ⟨GB,0,none⟩) (n + 1) (n + 1)) (fr12 v0 v1 v2 (.pointer (some ⟨R,0,none⟩)) (.int .i64 (i : Nat)) v5 (.pointer (some ⟨T,0,none⟩)) v7 v8 v9 xa xb xc xd xe xf xg xh xi xj xk xl xm xn xo xp xq xr xt xu xv xw xx xy xz xA xB xC xD xE xF xG xH xI xJ xK xL xM xN xO (.pointer (some ⟨R,1,none⟩)) (.slice (some ⟨GA,0,none⟩) (n + 1) (n + 1)) (.int .i64 (i : Nat)) (.int .i64 ((i : Nat) + 1)) (.pointer (some ⟨R,2,none⟩)) (.slice (some ⟨GB,0,none⟩) (n + 1) (n + 1)) xV xW xX xY xZ ya yb yc yd ye yf yg yh yi yj yk yl ym yn yo yp) hQ (fun w hS => by have e := hS.c2; unfold fr12 ops12_10_5; go_simp) hS ?_
 refine take_r 6 ⟨some 56,.move (.tmp 4),3,ps,#[⟨11,.gcOnly .lateStores⟩],none⟩ (.int .i64 (i : Nat)) hQ (fun w _ => by kernel_rfl) hS ?_
 refine take_k 7 (ops12_10_7 ps) (.int .i64 ((i : Nat) + 1)) (fr12 v0 v1 v2 (.pointer (some ⟨R,0,none⟩)) (.int .i64 (i : Nat)) v5 (.pointer (some ⟨T,0,none⟩)) v7 v8 v9 xa xb xc xd xe xf xg xh xi xj xk xl xm xn xo xp xq xr xt xu xv xw xx xy xz xA xB xC xD xE xF xG xH xI xJ xK xL xM xN xO (.pointer (some ⟨R,1,none⟩)) (.slice (some ⟨GA,0,none⟩) (n + 1) (n + 1)) (.int .i64 (i : Nat)) (.int .i64 ((i : Nat) + 1)) (.pointer (some ⟨R,2,none⟩)) (.slice (some ⟨GB,0,none⟩) (n + 1) (n + 1)) (.int .i64 (i : Nat)) (.int .i64 ((i : Nat) + 1)) xX xY xZ ya yb yc yd ye yf yg yh yi yj yk yl ym yn yo yp) hQ (fun w hS => by unfold fr12 ops12_10_7; go_simp; try exact wrap_i (by omega) (by omega)) hS ?_
 refine take_r 8 ⟨some 58,.load 182 (.tmp 6),182,ps,#[],none⟩ (.agg (suL x).toArray) hQ (fun w hS => exec_load_mid (x := (Operand.tmp 6)) 182 T 0 (suL x) _ (by kernel_rfl) (by kernel_rfl) (range_row hS.t) Tryz.underlying182 rfl (info89l x)) hS ?_
 refine take_k 9 (ops12_10_9 ps) (.agg (suL x).toArray) (fr12 v0 v1 v2 (.pointer (some ⟨R,0,none⟩)) (.int .i64 (i : Nat)) v5 (.pointer (some ⟨T,0,none⟩)) v7 v8 v9 xa xb xc xd xe xf xg xh xi xj xk xl xm xn xo xp xq xr xt xu xv xw xx xy xz xA xB xC xD xE xF xG xH xI xJ xK xL xM xN xO (.pointer (some ⟨R,1,none⟩)) (.slice (some ⟨GA,0,none⟩) (n + 1) (n + 1)) (.int .i64 (i : Nat)) (.int .i64 ((i : Nat) + 1)) (.pointer (some ⟨R,2,none⟩)) (.slice (some ⟨GB,0,none⟩) (n + 1) (n + 1)) (.int .i64 (i : Nat)) (.int .i64 ((i : Nat) + 1)) (.agg (suL x).toArray) (.agg (suL x).toArray) xZ ya yb yc yd ye yf yg yh yi yj yk yl ym yn yo yp) hQ (fun w hS => exec_load_mid (x := (Operand.tmp 6)) 182 T 0 (suL x) _ (by kernel_rfl) (by kernel_rfl) (range_row hS.t) Tryz.underlying182 rfl (info89l x)) hS ?_
 refine take_r 10 ⟨some 60,.indexAddr 131 (.tmp 51) (.tmp 53),0,ps,#[⟨1,.data⟩,⟨3,.data⟩,⟨0,.phase⟩,⟨1,.phase⟩,⟨2,.phase⟩,⟨3,.phase⟩,⟨4,.textOnly .lateStores⟩,⟨5,.textOnly .lateStores⟩,⟨6,.textOnly .lateStores⟩,⟨7,.textOnly .lateStores⟩,⟨8,.phase⟩,⟨9,.textOnly .lateStores⟩],none⟩ (.pointer (some ⟨GA,(i + 1) * 3,none⟩)) hQ (fun w hS => by unfold fr12; go_simp; try (intro h; exfalso; omega)) hS ?_
 refine want_k 11 (ops12_10_11 ps) fun K hK => ?_
 refine wp_store_mid 182 _ _ (by unfold ops12_10_11; rfl) GA ((i + 1) * 3) (suL x).toArray rfl rfl (hS.thA (by omega)) (info89 x) (suL_all x) ?_
 have hS1 : MeS R GA GB T n i v x y ((World.drew w).setCells GA ((i + 1) * 3) (suL x)) := hS.setA (by omega) x e1 e2 e3
 refine hK _ _ hS1 (cast_h (fr12 v0 v1 v2 (.pointer (some ⟨R,0,none⟩)) (.int .i64 (i : Nat)) v5 (.pointer (some ⟨T,0,none⟩)) v7 v8 v9 xa xb xc xd xe xf xg xh xi xj xk xl xm xn xo xp xq xr xt xu xv xw xx xy xz xA xB xC xD xE xF xG xH xI xJ xK xL xM xN xO (.pointer (some ⟨R,1,none⟩)) (.slice (some ⟨GA,0,none⟩) (n + 1) (n + 1)) (.int .i64 (i : Nat)) (.int .i64 ((i : Nat) + 1)) (.pointer (some ⟨R,2,none⟩)) (.slice (some ⟨GB,0,none⟩) (n + 1) (n + 1)) (.int .i64 (i : Nat)) (.int .i64 ((i : Nat) + 1)) (.agg (suL x).toArray) (.agg (suL x).toArray) (.pointer (some ⟨GA,(i + 1) * 3,none⟩)) ya yb yc yd ye yf yg yh yi yj yk yl ym yn yo yp) (by kernel_rfl) ?_)
 clear hK K
 refine take_r 12 ⟨some 61,.indexAddr 131 (.tmp 55) (.tmp 57),0,ps,#[⟨5,.data⟩,⟨7,.data⟩,⟨0,.phase⟩,⟨1,.phase⟩,⟨2,.phase⟩,⟨3,.phase⟩,⟨4,.phase⟩,⟨5,.phase⟩,⟨6,.phase⟩,⟨7,.phase⟩,⟨8,.phase⟩,⟨9,.phase⟩,⟨10,.phase⟩,⟨11,.phase⟩],none⟩ (.pointer (some ⟨GB,(i + 1) * 3,none⟩)) hQ (fun w hS => by unfold fr12; go_simp; try (intro h; exfalso; omega)) hS1 ?_
 refine want_k 13 (ops12_10_13 ps) fun K hK => ?_
 refine wp_store_mid 182 _ _ (by unfold ops12_10_13; rfl) GB ((i + 1) * 3) (suL x).toArray rfl rfl (hS1.thB (by omega)) (info89 x) (suL_all x) ?_
 have hS2 : MeS R GA GB T n i v x y (((World.drew w).setCells GA ((i + 1) * 3) (suL x)).setCells GB ((i + 1) * 3) (suL x)) := hS1.setB (by omega) (by omega) x e1 e4 e5
 refine hK _ _ hS2 (cast_h (fr12 v0 v1 v2 (.pointer (some ⟨R,0,none⟩)) (.int .i64 (i : Nat)) v5 (.pointer (some ⟨T,0,none⟩)) v7 v8 v9 xa xb xc xd xe xf xg xh xi xj xk xl xm xn xo xp xq xr xt xu xv xw xx xy xz xA xB xC xD xE xF xG xH xI xJ xK xL xM xN xO (.pointer (some ⟨R,1,none⟩)) (.slice (some ⟨GA,0,none⟩) (n + 1) (n + 1)) (.int .i64 (i : Nat)) (.int .i64 ((i : Nat) + 1)) (.pointer (some ⟨R,2,none⟩)) (.slice (some ⟨GB,0,none⟩) (n + 1) (n + 1)) (.int .i64 (i : Nat)) (.int .i64 ((i : Nat) + 1)) (.agg (suL x).toArray) (.agg (suL x).toArray) (.pointer (some ⟨GA,(i + 1) * 3,none⟩)) (.pointer (some ⟨GB,(i + 1) * 3,none⟩)) yb yc yd ye yf yg yh yi yj yk yl ym yn yo yp) (by kernel_rfl) ?_)
 clear hK K
 exact wpAnyH_done (by kernel_rfl) hq _
def ops12_12_0 (ps : String) : Oper := ⟨some 65,.fieldAddr 133 (.tmp 3) 2,0,ps,#[],none⟩
def ops12_12_1 (ps : String) : Oper := ⟨some 66,.load 131 (.tmp 65),131,ps,#[⟨0,.data⟩],none⟩
def ops12_12_2 (ps : String) : Oper := ⟨some 67,.move (.tmp 4),3,ps,#[],none⟩
def ops12_12_3 (ps : String) : Oper := ⟨some 68,.binOp .add 3 (.tmp 67) (.const (.int .i64 1)) 3,3,ps,#[⟨2,.data⟩],none⟩
def ops12_12_4 (ps : String) : Oper := ⟨some 69,.fieldAddr 133 (.tmp 3) 2,0,ps,#[],none⟩
def ops12_12_5 (ps : String) : Oper := ⟨some 70,.load 131 (.tmp 69),131,ps,#[⟨4,.data⟩],none⟩
def ops12_12_6 (ps : String) : Oper := ⟨some 71,.move (.tmp 4),3,ps,#[],none⟩
def ops12_12_7 (ps : String) : Oper := ⟨some 72,.indexAddr 131 (.tmp 70) (.tmp 71),0,ps,#[⟨5,.data⟩,⟨6,.data⟩],none⟩
def ops12_12_8 (ps : String) : Oper := ⟨some 73,.load 182 (.tmp 72),182,ps,#[⟨7,.data⟩],none⟩
def ops12_12_9 (ps : String) : Oper := ⟨some 74,.indexAddr 131 (.tmp 66) (.tmp 68),0,ps,#[⟨1,.data⟩,⟨3,.data⟩,⟨0,.phase⟩,⟨1,.phase⟩,⟨2,.phase⟩,⟨3,.phase⟩,⟨4,.phase⟩,⟨5,.phase⟩,⟨6,.phase⟩,⟨7,.phase⟩,⟨8,.phase⟩],none⟩
def ops12_12_10 (ps : String) : Oper := ⟨none,.store 182 (.tmp 74) (.tmp 73),0,ps,#[⟨9,.data⟩,⟨8,.data⟩,⟨0,.phase⟩,⟨1,.phase⟩,⟨2,.phase⟩,⟨3,.phase⟩,⟨4,.phase⟩,⟨5,.phase⟩,⟨6,.phase⟩,⟨7,.phase⟩,⟨8,.phase⟩],none⟩
def ops12_12 (ps : String) : Array Oper := #[ops12_12_0 ps,ops12_12_1 ps,ops12_12_2 ps,ops12_12_3 ps,ops12_12_4 ps,ops12_12_5 ps,ops12_12_6 ps,ops12_12_7 ps,ops12_12_8 ps,ops12_12_9 ps,ops12_12_10 ps]

theorem me_r12 (Q : Exit → Act → World → Prop) (hQ : ∀ c x (n : Nat) v w,Q (.panic c) (x.put (some n) v) w → Q (.panic c) x w) (id : Nat) (ps : String) {v0 v1 v2 v5 v6 v7 v8 v9 xa xb xc xd xe xf xg xh xi xj xk xl xm xn xo xp xq xr xt xu xv xw xx xy xz xA xB xC xD xE xF xG xH xI xJ xK xL xM xN xO xP xQ xR xS xT xU xV xW xX xY xZ ya yb yc yd ye yf yg yh yi yj yk yl ym yn yo yp : Value} (R GA GB T n i : Nat) (v : Value) (x y : Su) (w : World) (hS : MeS R GA GB T n i v x y (World.drew w))
  (hi : (i : Int) + 1 < (n : Int) + 1) (hi2 : (i : Int) < (n : Int) + 1) (hn : (n : Int) ≤ 8192) (e1 : GA ≠ GB) (_e2 : GA ≠ R) (_e3 : GA ≠ T) (e4 : GB ≠ R) (e5 : GB ≠ T)
  (hq : Q .normal (fr12 v0 v1 v2 (.pointer (some ⟨R,0,none⟩)) (.int .i64 (i : Nat)) v5 v6 v7 v8 v9 xa xb xc xd xe xf xg xh xi xj xk xl xm xn xo xp xq xr xt xu xv xw xx xy xz xA xB xC xD xE xF xG xH xI xJ xK xL xM xN xO xP xQ xR xS xT xU xV xW xX xY xZ ya yb yc yd (.pointer (some ⟨R,2,none⟩)) (.slice (some ⟨GB,0,none⟩) (n + 1) (n + 1)) (.int .i64 (i : Nat)) (.int .i64 ((i : Nat) + 1)) (.pointer (some ⟨R,2,none⟩)) (.slice (some ⟨GB,0,none⟩) (n + 1) (n + 1)) (.int .i64 (i : Nat)) (.pointer (some ⟨GB,i * 3,none⟩)) (.agg (suL y).toArray) (.pointer (some ⟨GB,(i + 1) * 3,none⟩)) yo yp) ((World.drew w).setCells GB ((i + 1) * 3) (suL y))) :
  (Code.region id (ops12_12 ps) true).wp Tryz.prog Q (fr12 v0 v1 v2 (.pointer (some ⟨R,0,none⟩)) (.int .i64 (i : Nat)) v5 v6 v7 v8 v9 xa xb xc xd xe xf xg xh xi xj xk xl xm xn xo xp xq xr xt xu xv xw xx xy xz xA xB xC xD xE xF xG xH xI xJ xK xL xM xN xO xP xQ xR xS xT xU xV xW xX xY xZ ya yb yc yd ye yf yg yh yi yj yk yl ym yn yo yp) w := by
 refine wp_region_held (S := MeS R GA GB T n i v x y) (by kernel_rfl) ?_
 change wpAnyH _ _ _ _ _ 11 _ _ (World.drew w)
 refine take_r 0 ⟨some 65,.fieldAddr 133 (.tmp 3) 2,0,ps,#[],none⟩ (.pointer (some ⟨R,2,none⟩)) hQ (fun w hS => by unfold fr12; go_simp) hS ?_
 refine take_k 1 (ops12_12_1 ps) (.slice (some ⟨GB,0,none⟩) (n + 1) (n + 1)) (fr12 v0 v1 v2 (.pointer (some ⟨R,0,none⟩)) (.int .i64 (i : Nat)) v5 v6 v7 v8 v9 xa xb xc xd xe xf xg xh xi xj xk xl xm xn xo xp xq xr xt xu xv xw xx xy xz xA xB xC xD xE xF xG xH xI xJ xK xL xM xN xO xP xQ xR xS xT xU xV xW xX xY xZ ya yb yc yd (.pointer (some ⟨R,2,none⟩)) (.slice (some ⟨GB,0,none⟩) (n + 1) (n + 1)) yg yh yi yj yk yl ym yn yo yp) hQ (fun w hS => by have e := hS.c2; unfold fr12 ops12_12_1; go_simp) hS ?_
 refine take_r 2 ⟨some 67,.move (.tmp 4),3,ps,#[],none⟩ (.int .i64 (i : Nat)) hQ (fun w _ => by kernel_rfl) hS ?_
 refine take_k 3 (ops12_12_3 ps) (.int .i64 ((i : Nat) + 1)) (fr12 v0 v1 v2 (.pointer (some ⟨R,0,none⟩)) (.int .i64 (i : Nat)) v5 v6 v7 v8 v9 xa xb xc xd xe xf xg xh xi xj xk xl xm xn xo xp xq xr xt xu xv xw xx xy xz xA xB xC xD xE xF xG xH xI xJ xK xL xM xN xO xP xQ xR xS xT xU xV xW xX xY xZ ya yb yc yd (.pointer (some ⟨R,2,none⟩)) (.slice (some ⟨GB,0,none⟩) (n + 1) (n + 1)) (.int .i64 (i : Nat)) (.int .i64 ((i : Nat) + 1)) yi yj yk yl ym yn yo yp) hQ (fun w hS => by unfold fr12 ops12_12_3; go_simp; try exact wrap_i (by omega) (by omega)) hS ?_
 refine take_r 4 ⟨some 69,.fieldAddr 133 (.tmp 3) 2,0,ps,#[],none⟩ (.pointer (some ⟨R,2,none⟩)) hQ (fun w hS => by unfold fr12; go_simp) hS ?_
 refine take_k 5 (ops12_12_5 ps) (.slice (some ⟨GB,0,none⟩) (n + 1) (n + 1)) (fr12 v0 v1 v2 (.pointer (some ⟨R,0,none⟩)) (.int .i64 (i : Nat)) v5 v6 v7 v8 v9 xa xb xc xd xe xf xg xh xi xj xk xl xm xn xo xp xq xr xt xu xv xw xx xy xz xA xB xC xD xE xF xG xH xI xJ xK xL xM xN xO xP xQ xR xS xT xU xV xW xX xY xZ ya yb yc yd (.pointer (some ⟨R,2,none⟩)) (.slice (some ⟨GB,0,none⟩) (n + 1) (n + 1)) (.int .i64 (i : Nat)) (.int .i64 ((i : Nat) + 1)) (.pointer (some ⟨R,2,none⟩)) (.slice (some ⟨GB,0,none⟩) (n + 1) (n + 1)) yk yl ym yn yo yp) hQ (fun w hS => by have e := hS.c2; unfold fr12 ops12_12_5; go_simp) hS ?_
 refine take_r 6 ⟨some 71,.move (.tmp 4),3,ps,#[],none⟩ (.int .i64 (i : Nat)) hQ (fun w _ => by kernel_rfl) hS ?_
 refine take_k 7 (ops12_12_7 ps) (.pointer (some ⟨GB,i * 3,none⟩)) (fr12 v0 v1 v2 (.pointer (some ⟨R,0,none⟩)) (.int .i64 (i : Nat)) v5 v6 v7 v8 v9 xa xb xc xd xe xf xg xh xi xj xk xl xm xn xo xp xq xr xt xu xv xw xx xy xz xA xB xC xD xE xF xG xH xI xJ xK xL xM xN xO xP xQ xR xS xT xU xV xW xX xY xZ ya yb yc yd (.pointer (some ⟨R,2,none⟩)) (.slice (some ⟨GB,0,none⟩) (n + 1) (n + 1)) (.int .i64 (i : Nat)) (.int .i64 ((i : Nat) + 1)) (.pointer (some ⟨R,2,none⟩)) (.slice (some ⟨GB,0,none⟩) (n + 1) (n + 1)) (.int .i64 (i : Nat)) (.pointer (some ⟨GB,i * 3,none⟩)) ym yn yo yp) hQ (fun w hS => by unfold fr12 ops12_12_7; go_simp; try (intro h; exfalso; omega)) hS ?_
 refine take_r 8 ⟨some 73,.load 182 (.tmp 72),182,ps,#[⟨7,.data⟩],none⟩ (.agg (suL y).toArray) hQ (fun w hS => exec_load_mid (x := (Operand.tmp 72)) 182 GB (i * 3) (suL y) _ (by kernel_rfl) (by kernel_rfl) hS.rgB Tryz.underlying182 rfl (info89l y)) hS ?_
 refine take_k 9 (ops12_12_9 ps) (.pointer (some ⟨GB,(i + 1) * 3,none⟩)) (fr12 v0 v1 v2 (.pointer (some ⟨R,0,none⟩)) (.int .i64 (i : Nat)) v5 v6 v7 v8 v9 xa xb xc xd xe xf xg xh xi xj xk xl xm xn xo xp xq xr xt xu xv xw xx xy xz xA xB xC xD xE xF xG xH xI xJ xK xL xM xN xO xP xQ xR xS xT xU xV xW xX xY xZ ya yb yc yd (.pointer (some ⟨R,2,none⟩)) (.slice (some ⟨GB,0,none⟩) (n + 1) (n + 1)) (.int .i64 (i : Nat)) (.int .i64 ((i : Nat) + 1)) (.pointer (some ⟨R,2,none⟩)) (.slice (some ⟨GB,0,none⟩) (n + 1) (n + 1)) (.int .i64 (i : Nat)) (.pointer (some ⟨GB,i * 3,none⟩)) (.agg (suL y).toArray) (.pointer (some ⟨GB,(i + 1) * 3,none⟩)) yo yp) hQ (fun w hS => by unfold fr12 ops12_12_9; go_simp; try (intro h; exfalso; omega)) hS ?_
 refine want_k 10 (ops12_12_10 ps) fun K hK => ?_
 refine wp_store_mid 182 _ _ (by unfold ops12_12_10; rfl) GB ((i + 1) * 3) (suL y).toArray rfl rfl (hS.thB (by omega)) (info89 y) (suL_all y) ?_
 have hS1 : MeS R GA GB T n i v x y ((World.drew w).setCells GB ((i + 1) * 3) (suL y)) := hS.setB (by omega) (by omega) y e1 e4 e5
 refine hK _ _ hS1 (cast_h (fr12 v0 v1 v2 (.pointer (some ⟨R,0,none⟩)) (.int .i64 (i : Nat)) v5 v6 v7 v8 v9 xa xb xc xd xe xf xg xh xi xj xk xl xm xn xo xp xq xr xt xu xv xw xx xy xz xA xB xC xD xE xF xG xH xI xJ xK xL xM xN xO xP xQ xR xS xT xU xV xW xX xY xZ ya yb yc yd (.pointer (some ⟨R,2,none⟩)) (.slice (some ⟨GB,0,none⟩) (n + 1) (n + 1)) (.int .i64 (i : Nat)) (.int .i64 ((i : Nat) + 1)) (.pointer (some ⟨R,2,none⟩)) (.slice (some ⟨GB,0,none⟩) (n + 1) (n + 1)) (.int .i64 (i : Nat)) (.pointer (some ⟨GB,i * 3,none⟩)) (.agg (suL y).toArray) (.pointer (some ⟨GB,(i + 1) * 3,none⟩)) yo yp) (by kernel_rfl) ?_)
 clear hK K
 exact wpAnyH_done (by kernel_rfl) hq _
end Go.Proofs.YtfiekhephkpdjaaGreatDoor

namespace Go.Proofs.YtfiekhephkpdjaaGreatDoor
open Go.RowKit Go.Shelf

def ElOk (t e : TypeId) (k bytes : Nat) : Prop := Tryz.prog.underlying t = some (.slice e) ∧ ∃ i z,Tryz.prog.info? e = some i ∧ i.zero = some z ∧ i.size = k ∧ i.bytes = bytes ∧ z.cells.size = k
theorem ElOk.of {t e : TypeId} {k bytes : Nat} (hu : Tryz.prog.underlying t = some (.slice e)) (h : (Tryz.prog.info? e).map (fun i => (i.zero.map (fun z => z.cells.size),i.size,i.bytes)) = some (some k,k,bytes)) : ElOk t e k bytes := by
 refine ⟨hu,?_⟩
 cases hi : Tryz.prog.info? e with
 | none => rw [hi] at h; cases h
 | some i =>
  rw [hi] at h
  simp only [Option.map_some,Option.some.injEq,Prod.mk.injEq] at h
  obtain ⟨h1,h2,h3⟩ := h
  cases hz : i.zero with
  | none => rw [hz] at h1; cases h1
  | some z => rw [hz] at h1; exact ⟨i,z,rfl,hz,h2,h3,by simpa using h1⟩
section
variable {α : Type} {k : Nat} {f : α → List Value}
theorem row_new (hf : ∀ a,(f a).length = k) (w : World) (base : Nat) (hb : base ≤ w.heap.size) (e : TypeId) (x : α) : (w.alloc (.cells (f x).toArray e)).ownsRow base e k (.slice (some ⟨w.heap.size,0,none⟩) 1 1) [x].length ([x].flatMap f) := by
 refine ⟨by simp [hf],.inr ⟨w.heap.size,1,(f x).toArray,rfl,hb,World.alloc_heap_new w _,Nat.le_refl _,by unfold maxLen; omega,by simp [hf],?_⟩⟩
 simp
 exact List.take_of_length_le (by rw [hf]; exact Nat.le_refl _)
theorem row_below {w w' : World} {base : Nat} {v : Value} (hg : w.grownBy w' v.ownBlock) (hv : ∀ g,v.ownBlock = some g → base ≤ g) (hb : base ≤ w.heap.size) : Below base w w' :=
 ⟨hg.os,hg.tape,hg.output,hg.size,fun j hj => hg.block j (Nat.lt_of_lt_of_le hj hb) (fun e => by have := hv j e.symm; omega)⟩
theorem rec_cells (_hf : ∀ a,(f a).length = k) (W : World) (e : TypeId) (p : α) : ∀ j u,(f p)[j]? = some u → (W.alloc (.cells (f p).toArray e)).cell? ((⟨W.heap.size,0,none⟩ : Addr).add j) = some u := fun j u hu => by
 rw [addr_add0,Lib.cell_of_heap (World.alloc_heap_new W _)]
 simpa using hu
theorem wp_app1 {oi : Oper} {a : Act} {w w0 : World} {K : Act → World → Prop} {Q : Exit → Act → World → Prop} {t e : TypeId} {bytes : Nat} (hE : ElOk t e k bytes) (hf : ∀ a,(f a).length = k) (hone : ∀ p,∀ u ∈ f p,u.oneCell' = true) (hk : 0 < k) (hby : bytes ≤ 1000)
  (x y : Operand) (ho : oi.op = Op.call { callee := Callee.builtin Builtin.append,args := #[x,y],argTypes := #[t,t] }) (base : Nat) (v : Value) (qs : List α) (p : α) (hx : a.eval x = v)
  (hown : w0.ownsRow base e k v qs.length (qs.flatMap f)) (hb : base ≤ w0.heap.size) (hn : qs.length ≤ 9000) (hy : a.eval y = .slice (some ⟨w0.heap.size,0,none⟩) 1 1) (hw : w = w0.alloc (.cells (f p).toArray e))
  (h : ∀ v' w',w'.ownsRow base e k v' (qs ++ [p]).length ((qs ++ [p]).flatMap f) → Below base w0 w' → K (a.put oi.dst v') w') : oi.wp Tryz.prog a w K Q := by
 subst hw
 obtain ⟨hu,i,z,hi,hz0,hz1,hz2,hz3⟩ := hE
 have hbb : (qs.length + 1) * bytes ≤ 140737488355328 := Nat.le_trans (Nat.mul_le_mul (show qs.length + 1 ≤ 9001 by omega) hby) (by decide)
 obtain ⟨v',w',hrun,r1,r2,_⟩ := run_append_where (P := Tryz.prog) (w0.alloc (.cells (f p).toArray e)) base t oi.type e i z k bytes hu hi hz0 hz1 hz2 hz3 hk v qs.length (qs.flatMap f) (hown.alloc _) ⟨w0.heap.size,0,none⟩ 1 1 (f p) (by rw [hf]; omega) (rec_cells hf w0 e p) (hone p) (by unfold maxLen; omega) hbb (by simp; omega)
 have e1 : [p].flatMap f = f p := by simp
 have hB : Below base w0 w' := ((Below.refl base w0).alloc hb _).trans (row_below r2 (fun g hg => (hown.lt g hg).1) (by simp; omega))
 have hK := h v' w' (by rw [List.length_append,List.flatMap_append,e1]; exact r1) hB
 unfold Oper.wp
 simp [execOp,ho,resolve,invoke,builtin,hx,hy,hrun,Result.andThen]
 exact hK
theorem wpList_app1 {ops : Array Oper} {rest : List Oper} {oi : Oper} {a : Act} {w w0 : World} {Q : Exit → Act → World → Prop} {t e : TypeId} {bytes : Nat} (hgd : oi.guard = none) (hE : ElOk t e k bytes) (hf : ∀ a,(f a).length = k) (hone : ∀ p,∀ u ∈ f p,u.oneCell' = true) (hk : 0 < k) (hby : bytes ≤ 1000)
  (x y : Operand) (ho : oi.op = Op.call { callee := Callee.builtin Builtin.append,args := #[x,y],argTypes := #[t,t] }) (base : Nat) (v : Value) (qs : List α) (p : α) (hx : a.eval x = v)
  (hown : w0.ownsRow base e k v qs.length (qs.flatMap f)) (hb : base ≤ w0.heap.size) (hn : qs.length ≤ 9000) (hy : a.eval y = .slice (some ⟨w0.heap.size,0,none⟩) 1 1) (hw : w = w0.alloc (.cells (f p).toArray e))
  (h : ∀ v' w',w'.ownsRow base e k v' (qs ++ [p]).length ((qs ++ [p]).flatMap f) → Below base w0 w' → wpList Tryz.prog ops Q rest (a.put oi.dst v') w') : wpList Tryz.prog ops Q (oi :: rest) a w :=
 wpList_plain hgd fun _ hK => wp_app1 hE hf hone hk hby x y ho base v qs p hx hown hb hn hy hw fun v' w' h1 h2 => hK _ _ (h v' w' h1 h2)
theorem row_rb (hf : ∀ a,(f a).length = k) {W : World} {base : Nat} {e : TypeId} {v : Value} {L : List α} (h : W.ownsRow base e k v L.length (L.flatMap f)) (hL : 0 < L.length) : ∃ g cap,v = .slice (some ⟨g,0,none⟩) L.length cap ∧ base ≤ g ∧ L.length ≤ cap ∧ RB k f W g L := by
 rcases h.2 with ⟨_,hn⟩ | ⟨g,cap,cur,rfl,hb,hg,hnc,_,hcs,htk⟩
 ·omega
 ·refine ⟨g,cap,rfl,hb,hnc,RB.of_row hg fun i hi j u hu => ?_⟩
  have hj : j < k := by have := (List.getElem?_eq_some_iff.1 hu).1; rw [hf] at this; exact this
  have h1 := fm_get hf L hi j hj
  rw [hu,← htk,List.getElem?_take] at h1
  split at h1
  ·simpa using h1
  ·cases h1
theorem RB.cell (hf : ∀ a,(f a).length = k) {W : World} {g : Nat} {L : List α} (h : RB k f W g L) {p : Nat} (hp : p < L.length) (c : Nat) (hc : c < k) (u : Value) (x : α) (hx : f x = (f L[p]).set c u) : RB k f (W.setCell ⟨g,p * k + c,none⟩ u) g (L.set p x) := by
 have ht := Turns.setCell (X := fun _ => True) W (p := ⟨g,p * k + c,none⟩) trivial u
 refine ⟨Nat.lt_of_lt_of_le h.lt ht.size,fun i hi j v hv => ?_⟩
 have hi' : i < L.length := by simpa using hi
 have hj : j < k := by have := (List.getElem?_eq_some_iff.1 hv).1; rw [hf] at this; exact this
 have e0 : W.setCell ⟨g,p * k + c,none⟩ u = W.setCells g (p * k + c) [u] := rfl
 have hth : W.there g (p * k + c) 1 := fun q hq => by
  obtain rfl : q = 0 := by omega
  exact h.there hf hp c hc
 rw [e0,World.frozen?_setCells]
 by_cases e : p = i
 ·subst e
  rw [List.getElem_set_self] at hv
  rw [hx] at hv
  refine ⟨?_,((h.there hf hp) j hj).2⟩
  by_cases ej : c = j
  ·subst ej
   rw [List.getElem?_set_self (by rw [hf]; exact hc)] at hv
   have := (World.rangeAt_setCells_same W g (p * k + c) [u] hth) 0 u rfl
   rw [← Option.some.inj hv]
   exact this
  ·rw [List.getElem?_set_ne ej] at hv
   rw [World.cell?_setCells_out g [u] (p * k + c) W ⟨g,p * k + j,none⟩ (fun _ _ => by show p * k + j < p * k + c ∨ p * k + c + 1 ≤ p * k + j; omega)]
   exact (h.all p hp j v hv).1
 ·rw [List.getElem_set_ne e] at hv
  have := h.all i hi' j v hv
  refine ⟨?_,this.2⟩
  rw [World.cell?_setCells_out g [u] (p * k + c) W ⟨g,i * k + j,none⟩ (fun _ _ => by
   show i * k + j < p * k + c ∨ p * k + c + 1 ≤ i * k + j
   rcases apart_mul hj e with h | h
   ·left; omega
   ·right; omega)]
  exact this.1
end
end Go.Proofs.YtfiekhephkpdjaaGreatDoor

namespace Go.Proofs.YtfiekhephkpdjaaGreatDoor
open Go.RowKit Go.Shelf
set_option maxRecDepth 100000
set_option maxHeartbeats 2000000

theorem begin1_any (x : It) (w : World) : Calls Tryz.prog 97 #[.agg (itL x).toArray] w fun e w' => e = .returned (.bool (!(x.k == 2))) ∧ Below w.heap.size w w' := by
 obtain ⟨k0,f0,t0,w0,s0,h0,q0,y0⟩ := x
 have hB := (Below.refl w.heap.size w).alloc (Nat.le_refl _) (.cells #[.int .i64 k0,.int .i64 f0,.int .i64 t0,.int .i64 w0,.int .i64 s0,.int .i64 h0,.int .i64 q0,.bool y0] 68)
 show Calls Tryz.prog 97 #[.agg #[.int .i64 k0,.int .i64 f0,.int .i64 t0,.int .i64 w0,.int .i64 s0,.int .i64 h0,.int .i64 q0,.bool y0]] w _
 go_enter Tryz.func97,Tryz.ntmps97
 go_wp2_with fail
 go_ret
 exact ⟨rfl,hB⟩
theorem sk_at {l : List It} : ∀ n i k,i ≤ k → k < l.length → k < i + n → (∀ j,i ≤ j → j < k → (itAt l j).k = 2) → (itAt l k).k ≠ 2 → skG l n i = k
 | 0,i,k,h1,_,h2,_,_ => by omega
 | n + 1, i, k, h1, hk, h2, h3, h4 => by
  by_cases e : i = k
  ·subst e
   exact skG_no (fun h => h4 h.2)
  ·rw [skG_go ⟨by omega,h3 i (Nat.le_refl _) (by omega)⟩]
   exact sk_at n (i + 1) k (by omega) hk (by omega) (fun j h5 h6 => h3 j (by omega) h6) h4
theorem sk_all {l : List It} : ∀ n i,i ≤ l.length → l.length ≤ i + n → (∀ j,i ≤ j → j < l.length → (itAt l j).k = 2) → skG l n i = l.length
 | 0,i,h1,h2,_ => by show i = _; omega
 | n + 1, i, h1, h2, h3 => by
  by_cases e : i = l.length
  ·rw [skG_no (by omega)]; exact e
  ·rw [skG_go ⟨by omega,h3 i (Nat.le_refl _) (by omega)⟩]
   exact sk_all n (i + 1) (by omega) (by omega) (fun j h5 h6 => h3 j (by omega) h6)

theorem bindex_any (v : Value) (l : List It) (hl : l.length ≤ 9223372036854775807) (w : World) (hS : ItsAt w v l) :
  Calls Tryz.prog 60 #[v,.func (.func 97) #[] #[]] w fun e w' => (∃ n : Int,e = .returned (.int .i64 n) ∧ (if n < 0 then (l.length : Int) else n) = (sk l 0 : Nat)) ∧ Below w.heap.size w w' := by
 obtain ⟨a,cap,rfl,-⟩ := hS.ex
 have hY : Hid (∀ k (hk : k < l.length),(∀ j,j < k → (itAt l j).k = 2) → (l[k].k == 2) = false → (if ((k : Nat) : Int) < 0 then (l.length : Int) else (k : Nat)) = (sk l 0 : Nat)) := fun k hk h1 e => by
  rw [if_neg (by omega)]
  congr 1
  exact (sk_at _ 0 k (by omega) hk (by omega) (fun j _ h => h1 j h) (by rw [itAt_is hk]; simpa using e)).symm
 have hN : Hid ((∀ j,j < l.length → (itAt l j).k = 2) → (if (-1 : Int) < 0 then (l.length : Int) else -1) = (sk l 0 : Nat)) := fun h => by
  rw [if_pos (by decide)]
  congr 1
  exact (sk_all _ 0 (by omega) (by omega) (fun j _ hj => h j hj)).symm
 have hSh : Hid (ItsAt w (.slice a l.length cap) l) := hS
 clear hS
 generalize sk l 0 = r at hY hN ⊢
 go_enter Tryz.func60,Tryz.ntmps60
 go_wp2_with fail
 go_loopw [8] (fun i wr => ∃ (k : Nat),k ≤ l.length ∧ i = .int .i64 k ∧ Below w.heap.size w wr ∧ Hid (∀ j,j < k → (itAt l j).k = 2)) (fun i _ => l.length - (intOf i).toNat)
 case atStart => exact ⟨0,by omega,rfl,Below.refl _ _,fun j hj => by omega⟩
 case round =>
  obtain ⟨k,hk,rfl,hb,hall⟩ := hrel
  by_cases hlt : k < l.length
  ·obtain ⟨b,o,rfl,hbl,hit⟩ := its_at hSh.out hlt
   have hi := hit wr hb
   have c0 := hi.c0
   have c1 := hi.c1
   have c2 := hi.c2
   have c3 := hi.c3
   have c4 := hi.c4
   have c5 := hi.c5
   have c6 := hi.c6
   have c7 := hi.c7
   have hlt' : (k : Int) < l.length := by omega
   have hm := begin1_any l[k] wr
   have hyes : Hid ((l[k].k == 2) = false → (if ((k : Nat) : Int) < 0 then (l.length : Int) else (k : Nat)) = (r : Nat)) := hY.out k hlt hall.out
   have hno : Hid ((l[k].k == 2) = true → ∀ j,j < k + 1 → (itAt l j).k = 2) := fun hv j hjk => by
    by_cases h : j < k
    ·exact hall.out j h
    ·obtain rfl : j = k := by omega
     rw [itAt_is hlt]; simpa using hv
   clear hY hN hall hit hSh hi
   generalize l[k] = it at *
   obtain ⟨k0,f0,t0,w0,s0,h0,q0,y0⟩ := it
   simp only at c0 c1 c2 c3 c4 c5 c6 c7 hm hyes hno
   have hm' : Hid (Calls Tryz.prog 97 #[.agg #[.int .i64 k0,.int .i64 f0,.int .i64 t0,.int .i64 w0,.int .i64 s0,.int .i64 h0,.int .i64 q0,.bool y0]] wr fun e w' => e = .returned (.bool (!(k0 == 2))) ∧ Below wr.heap.size wr w') := hm
   clear hm
   cases hv : (k0 == 2) with
   | false =>
    have hn' : Hid ((if ((k : Nat) : Int) < 0 then (l.length : Int) else (k : Nat)) = (r : Nat)) := hyes.out hv
    rw [hv] at hm'
    clear hyes hno hv
    go_wp2_with (go_at_call 97; refine hm'.out.mono ?_; rintro e w' ⟨rfl,hb2⟩)
    go_ret
    exact ⟨⟨_,rfl,hn'.out⟩,hb.trans (hb2.mono hb.size)⟩
   | true =>
    have hn : Hid (∀ j,j < k + 1 → (itAt l j).k = 2) := hno.out hv
    rw [hv] at hm'
    clear hyes hno hv
    go_wp2_with (go_at_call 97; refine hm'.out.mono ?_; rintro e w' ⟨rfl,hb2⟩)
    go_roundw
    case rel => exact ⟨k + 1,by omega,by simp,hb.trans (hb2.mono hb.size),hn⟩
    case measure => simp [intOf]; omega
  ·have hn' : Hid ((if (-1 : Int) < 0 then (l.length : Int) else -1) = (r : Nat)) := hN.out (fun j hj => hall.out j (by omega))
   have hge : ¬ (k : Int) < l.length := by omega
   clear hY hN hall hSh
   go_wp2_with fail
   go_ret
   exact ⟨⟨_,rfl,hn'.out⟩,hb⟩

theorem begin_any (v : Value) (l : List It) (hl : l.length ≤ 9223372036854775807) (w : World) (hS : ItsAt w v l) :
  Calls Tryz.prog 62 #[v] w fun e w' => e = .returned (.int .i64 (sk l 0 : Nat)) ∧ Below w.heap.size w w' := by
 have hi : Hid (Calls Tryz.prog 60 #[v,.func (.func 97) #[] #[]] w fun e w' => (∃ n : Int,e = .returned (.int .i64 n) ∧ (if n < 0 then (l.length : Int) else n) = (sk l 0 : Nat)) ∧ Below w.heap.size w w') := bindex_any v l hl w hS
 obtain ⟨a,cap,rfl,-⟩ := hS.ex
 clear hS
 generalize sk l 0 = r at *
 go_enter Tryz.func62,Tryz.ntmps62
 go_wp2_with (go_at_call 60; refine hi.out.mono ?_; rintro e w' ⟨⟨n,rfl,hn⟩,hb2⟩)
 all_goals (go_ret; first | (rw [if_pos (by omega)] at hn; exact ⟨by rw [← hn]; rfl,hb2⟩) | (rw [if_neg (by omega)] at hn; exact ⟨by rw [← hn]; rfl,hb2⟩))

end Go.Proofs.YtfiekhephkpdjaaGreatDoor
