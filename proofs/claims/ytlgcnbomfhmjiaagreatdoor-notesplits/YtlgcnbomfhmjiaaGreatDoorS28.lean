/-
  What is proved here: the region of Items that makes what items are made of, in whatever order its operations come up.
  What is proved here: an append of an item to a row of items leaves in the row's block, to the last of its capacity, cells of items alone (numbers, and each eighth a bool).
  What is proved here: a paragraph's masses fit its text; its body (no function of item is named).
-/
import Derived.Test.YtlgcnbomfhmjiaaGreatDoorS27
namespace Go.Proofs.YtlgcnbomfhmjiaaGreatDoor
open Go.RowKit Go.Shelf
set_option maxRecDepth 100000
set_option maxHeartbeats 1000000

theorem info4 : (Tryz.prog.info? 4).map (fun i => (i.zero,i.size,i.bytes)) = some (some (.bool false),1,1) := by kernel_rfl
theorem info63 : (Tryz.prog.info? 133).map (·.size) = some 3 := by kernel_rfl
theorem make61 {n : Nat} (h : n ≤ 4096) (W : World) : (Instr.makeSlice 103 (.int .i64 (n : Int)) (.int .i64 (n : Int))).run Tryz.prog W = .ok (.slice (some ⟨W.heap.size,0,none⟩) n n) (W.alloc (.cells (bcells (List.replicate n false)) 4)) := by
 obtain ⟨i0,hi0,hz0,hz1,hz2⟩ := info_parts info4
 have := run_makeSlice (P := Tryz.prog) (w := W) 103 4 i0 _ Tryz.underlying103 hi0 hz0 .i64 .i64 n n (by omega) (by omega) (by rw [hz1]; omega) (by rw [hz2]; omega) (by omega)
 rw [this]
 have e : madeCells (Value.bool false).cells ((n : Int).toNat * i0.size) = bcells (List.replicate n false) := by
  rw [hz1]; unfold madeCells bcells
  apply Array.ext
  ·simp
  ·intro i h1 h2; simp [Nat.mod_one,Value.cells]
 rw [e]; simp
structure TX (B0 : Nat) (t : ByteArray) (W : World) : Prop where
 lt : B0 < W.heap.size
 c0 : W.cell? ⟨B0,0,none⟩ = some (.string t)
theorem TX.below {B0 : Nat} {t : ByteArray} {W W' : World} (h : TX B0 t W) (hb : Below W.heap.size W W') : TX B0 t W' := ⟨Nat.lt_of_lt_of_le h.lt hb.size,(hb.cell h.lt).trans h.c0⟩
theorem TX.turns {X : Nat → Prop} {B0 : Nat} {t : ByteArray} {W W' : World} (h : TX B0 t W) (ht : Turns X W W') (hn : ¬ X B0) : TX B0 t W' := ⟨Nat.lt_of_lt_of_le h.lt ht.size,by rw [World.cell?_of_block (ht.block B0 h.lt hn)]; exact h.c0⟩
def fr9 (v0 v1 v2 v3 v4 v5 v6 v7 v8 v9 xa xb xc xd xe xf xg xh xi xj xk xl xm xn xo xp xq xr xt xu xv xw xx xy xz xA xB xC xD xE xF xG xH xI xJ xK xL xM xN xO xP xQ xR xS xT xU : Value) : Act := { tmps := #[v0,v1,v2,v3,v4,v5,v6,v7,v8,v9,xa,xb,xc,xd,xe,xf,xg,xh,xi,xj,xk,xl,xm,xn,xo,xp,xq,xr,xt,xu,xv,xw,xx,xy,xz,xA,xB,xC,xD,xE,xF,xG,xH,xI,xJ,xK,xL,xM,xN,xO,xP,xQ,xR,xS,xT,xU],defers := [] }
def ops9_6_0 (ps : String) : Oper := ⟨some 35,.fieldAddr 36 (.tmp 1) 0,0,ps,#[],none⟩
def ops9_6_1 (ps : String) : Oper := ⟨some 36,.load 9 (.tmp 35),9,ps,#[⟨0,.data⟩],none⟩
def ops9_6_2 (ps : String) : Oper := ⟨some 37,.move (.tmp 4),101,ps,#[],none⟩
def ops9_6_3 (ps : String) : Oper := ⟨some 38,.move (.tmp 4),101,ps,#[],none⟩
def ops9_6_4 (ps : String) : Oper := ⟨some 39,.call ⟨.builtin .len,#[.tmp 38],#[101]⟩,3,ps,#[⟨3,.data⟩],none⟩
def ops9_6_5 (ps : String) : Oper := ⟨some 40,.makeSlice 103 (.tmp 39) (.tmp 39),103,ps,#[⟨4,.data⟩,⟨4,.data⟩],none⟩
def ops9_6_6 (ps : String) : Oper := ⟨some 41,.build 133 #[(0,.tmp 36),(1,.tmp 37),(2,.tmp 40)],133,ps,#[⟨1,.data⟩,⟨2,.data⟩,⟨5,.data⟩],none⟩
def ops9_6_7 (ps : String) : Oper := ⟨some 6,.alloc 133,0,ps,#[],none⟩
def ops9_6_8 (ps : String) : Oper := ⟨none,.store 133 (.tmp 6) (.tmp 41),0,ps,#[⟨7,.data⟩,⟨6,.data⟩,⟨0,.phase⟩,⟨1,.phase⟩,⟨2,.phase⟩,⟨3,.phase⟩,⟨4,.phase⟩,⟨5,.phase⟩,⟨6,.phase⟩,⟨7,.phase⟩],none⟩
def ops9_6 (ps : String) : Array Oper := #[ops9_6_0 ps,ops9_6_1 ps,ops9_6_2 ps,ops9_6_3 ps,ops9_6_4 ps,ops9_6_5 ps,ops9_6_6 ps,ops9_6_7 ps,ops9_6_8 ps]

theorem it_r6 (Q : Exit → Act → World → Prop) (hQ : ∀ c x (n : Nat) v w,Q (.panic c) (x.put (some n) v) w → Q (.panic c) x w) (id : Nat) (ps : String) {v0 v2 v3 v5 v6 v7 v8 v9 xa xb xc xd xe xf xg xh xi xj xk xl xm xn xo xp xq xr xt xu xv xw xx xy xz xA xB xC xD xE xF xG xH xI xJ xK xL xM xN xO xP xQ xR xS xT xU : Value} (B0 n cm : Nat) (am : Option Addr) (t : ByteArray) (w : World) (hS : TX B0 t (World.drew w))
  (hn : n ≤ 4096)
  (hq : ∀ Pb Bx w',Below w.heap.size w w' → w.heap.size ≤ Pb → w.heap.size ≤ Bx → Pb ≠ Bx → Hy.Blk w' Pb (bcells (List.replicate n false)) 4 → w'.heap[Bx]? = some (.cells #[.string t,.slice am n cm,.slice (some ⟨Pb,0,none⟩) n n] 133 (0,0)) → Q .normal (fr9 v0 (.pointer (some ⟨B0,0,none⟩)) v2 v3 (.slice am n cm) v5 (.pointer (some ⟨Bx,0,none⟩)) v7 v8 v9 xa xb xc xd xe xf xg xh xi xj xk xl xm xn xo xp xq xr xt xu xv xw xx xy xz (.pointer (some ⟨B0,0,none⟩)) (.string t) (.slice am n cm) (.slice am n cm) (.int .i64 (n : Nat)) (.slice (some ⟨Pb,0,none⟩) n n) (.agg #[.string t,.slice am n cm,.slice (some ⟨Pb,0,none⟩) n n]) xH xI xJ xK xL xM xN xO xP xQ xR xS xT xU) w') :
  (Code.region id (ops9_6 ps) true).wp Tryz.prog Q (fr9 v0 (.pointer (some ⟨B0,0,none⟩)) v2 v3 (.slice am n cm) v5 v6 v7 v8 v9 xa xb xc xd xe xf xg xh xi xj xk xl xm xn xo xp xq xr xt xu xv xw xx xy xz xA xB xC xD xE xF xG xH xI xJ xK xL xM xN xO xP xQ xR xS xT xU) w := by
 refine wp_region_held (S := TX B0 t) (by kernel_rfl) ?_
 change wpAnyH _ _ _ _ _ 9 _ _ (World.drew w)
 have hDB : Below w.heap.size w (World.drew w) := below_drewM (Below.refl _ _) 1
 have hDs : (World.drew w).heap.size = w.heap.size := rfl
 generalize World.drew w = wd at *
 refine take_h (i := 0) (oi := ops9_6_0 ps) (fuel := 8) (v := (.pointer (some ⟨B0,0,none⟩))) (fr9 v0 (.pointer (some ⟨B0,0,none⟩)) v2 v3 (.slice am n cm) v5 v6 v7 v8 v9 xa xb xc xd xe xf xg xh xi xj xk xl xm xn xo xp xq xr xt xu xv xw xx xy xz (.pointer (some ⟨B0,0,none⟩)) xB xC xD xE xF xG xH xI xJ xK xL xM xN xO xP xQ xR xS xT xU) (by kernel_rfl) (by kernel_rfl) (by kernel_rfl) (by kernel_rfl) (fun c x w => hQ c x _ _ w) (by kernel_rfl) (fun w hS => by unfold fr9 ops9_6_0; go_simp) (by kernel_rfl) hS ?_
 refine take_h (i := 1) (oi := ops9_6_1 ps) (fuel := 7) (v := (.string t)) (fr9 v0 (.pointer (some ⟨B0,0,none⟩)) v2 v3 (.slice am n cm) v5 v6 v7 v8 v9 xa xb xc xd xe xf xg xh xi xj xk xl xm xn xo xp xq xr xt xu xv xw xx xy xz (.pointer (some ⟨B0,0,none⟩)) (.string t) xC xD xE xF xG xH xI xJ xK xL xM xN xO xP xQ xR xS xT xU) (by kernel_rfl) (by kernel_rfl) (by kernel_rfl) (by kernel_rfl) (fun c x w => hQ c x _ _ w) (by kernel_rfl) (fun w hS => by have e := hS.c0; unfold fr9 ops9_6_1; go_simp) (by kernel_rfl) hS ?_
 refine take_h (i := 2) (oi := ops9_6_2 ps) (fuel := 6) (v := (.slice am n cm)) (fr9 v0 (.pointer (some ⟨B0,0,none⟩)) v2 v3 (.slice am n cm) v5 v6 v7 v8 v9 xa xb xc xd xe xf xg xh xi xj xk xl xm xn xo xp xq xr xt xu xv xw xx xy xz (.pointer (some ⟨B0,0,none⟩)) (.string t) (.slice am n cm) xD xE xF xG xH xI xJ xK xL xM xN xO xP xQ xR xS xT xU) (by kernel_rfl) (by kernel_rfl) (by kernel_rfl) (by kernel_rfl) (fun c x w => hQ c x _ _ w) (by kernel_rfl) (fun w _ => by kernel_rfl) (by kernel_rfl) hS ?_
 refine take_h (i := 3) (oi := ops9_6_3 ps) (fuel := 5) (v := (.slice am n cm)) (fr9 v0 (.pointer (some ⟨B0,0,none⟩)) v2 v3 (.slice am n cm) v5 v6 v7 v8 v9 xa xb xc xd xe xf xg xh xi xj xk xl xm xn xo xp xq xr xt xu xv xw xx xy xz (.pointer (some ⟨B0,0,none⟩)) (.string t) (.slice am n cm) (.slice am n cm) xE xF xG xH xI xJ xK xL xM xN xO xP xQ xR xS xT xU) (by kernel_rfl) (by kernel_rfl) (by kernel_rfl) (by kernel_rfl) (fun c x w => hQ c x _ _ w) (by kernel_rfl) (fun w _ => by kernel_rfl) (by kernel_rfl) hS ?_
 refine take_h (i := 4) (oi := ops9_6_4 ps) (fuel := 4) (v := (.int .i64 (n : Nat))) (fr9 v0 (.pointer (some ⟨B0,0,none⟩)) v2 v3 (.slice am n cm) v5 v6 v7 v8 v9 xa xb xc xd xe xf xg xh xi xj xk xl xm xn xo xp xq xr xt xu xv xw xx xy xz (.pointer (some ⟨B0,0,none⟩)) (.string t) (.slice am n cm) (.slice am n cm) (.int .i64 (n : Nat)) xF xG xH xI xJ xK xL xM xN xO xP xQ xR xS xT xU) (by kernel_rfl) (by kernel_rfl) (by kernel_rfl) (by kernel_rfl) (fun c x w => hQ c x _ _ w) (by kernel_rfl) (fun w hS => by unfold fr9 ops9_6_4; go_simp) (by kernel_rfl) hS ?_
 refine two_h (i := 5) (j := 7) (oi := ops9_6_5 ps) (oj := ops9_6_7 ps) (fuel := 3) (by kernel_rfl) (by kernel_rfl) (by kernel_rfl) (by kernel_rfl) (by kernel_rfl) (fun K hK => ?_) (fun K hK => ?_)
 ·skip
  have hm := make61 hn (wd)
  unfold fr9 ops9_6_5
  go_simp
  have hM1 : Hy.Blk ((wd).alloc (.cells (bcells (List.replicate n false)) 4)) ((wd).heap.size) (bcells (List.replicate n false)) 4 := by have := heap_new (wd) (.cells (bcells (List.replicate n false)) 4); first | exact this | (rw [World.size_alloc] at this; exact this)
  have BM1 := (Below.refl (wd).heap.size (wd)).alloc (Nat.le_refl _) (Obj.cells (bcells (List.replicate n false)) 4)
  have S1 : TX B0 t ((wd).alloc (.cells (bcells (List.replicate n false)) 4)) := (hS).below BM1
  refine hK _ _ S1 (cast_h (fr9 v0 (.pointer (some ⟨B0,0,none⟩)) v2 v3 (.slice am n cm) v5 v6 v7 v8 v9 xa xb xc xd xe xf xg xh xi xj xk xl xm xn xo xp xq xr xt xu xv xw xx xy xz (.pointer (some ⟨B0,0,none⟩)) (.string t) (.slice am n cm) (.slice am n cm) (.int .i64 (n : Nat)) (.slice (some ⟨wd.heap.size,0,none⟩) n n) xG xH xI xJ xK xL xM xN xO xP xQ xR xS xT xU) (by kernel_rfl) ?_)
  clear hK K
  refine take_h (i := 6) (oi := ops9_6_6 ps) (fuel := 2) (v := (.agg #[.string t,.slice am n cm,.slice (some ⟨wd.heap.size,0,none⟩) n n])) (fr9 v0 (.pointer (some ⟨B0,0,none⟩)) v2 v3 (.slice am n cm) v5 v6 v7 v8 v9 xa xb xc xd xe xf xg xh xi xj xk xl xm xn xo xp xq xr xt xu xv xw xx xy xz (.pointer (some ⟨B0,0,none⟩)) (.string t) (.slice am n cm) (.slice am n cm) (.int .i64 (n : Nat)) (.slice (some ⟨wd.heap.size,0,none⟩) n n) (.agg #[.string t,.slice am n cm,.slice (some ⟨wd.heap.size,0,none⟩) n n]) xH xI xJ xK xL xM xN xO xP xQ xR xS xT xU) (by kernel_rfl) (by kernel_rfl) (by kernel_rfl) (by kernel_rfl) (fun c x w => hQ c x _ _ w) (by kernel_rfl) (fun w hS => by unfold fr9 ops9_6_6; go_simp) (by kernel_rfl) S1 ?_
  refine want_h (i := 7) (oi := ops9_6_7 ps) (fuel := 1) (by kernel_rfl) (by kernel_rfl) (by kernel_rfl) fun K hK => ?_
  unfold fr9 ops9_6_7
  go_simp
  have hA2 : (((wd).alloc (.cells (bcells (List.replicate n false)) 4)).alloc (.cells #[.string ⟨#[]⟩,.slice none 0 0,.slice none 0 0] 133)).heap[wd.heap.size + 1]? = some (.cells #[.string ⟨#[]⟩,.slice none 0 0,.slice none 0 0] 133 (0,0)) := by have := heap_new ((wd).alloc (.cells (bcells (List.replicate n false)) 4)) (.cells #[.string ⟨#[]⟩,.slice none 0 0,.slice none 0 0] 133); first | exact this | (rw [World.size_alloc] at this; exact this)
  have BA2 := (Below.refl ((wd).alloc (.cells (bcells (List.replicate n false)) 4)).heap.size ((wd).alloc (.cells (bcells (List.replicate n false)) 4))).alloc (Nat.le_refl _) (Obj.cells #[.string ⟨#[]⟩,.slice none 0 0,.slice none 0 0] 133)
  have S2 : TX B0 t (((wd).alloc (.cells (bcells (List.replicate n false)) 4)).alloc (.cells #[.string ⟨#[]⟩,.slice none 0 0,.slice none 0 0] 133)) := (S1).below BA2
  refine hK _ _ S2 (cast_h (fr9 v0 (.pointer (some ⟨B0,0,none⟩)) v2 v3 (.slice am n cm) v5 (.pointer (some ⟨wd.heap.size + 1,0,none⟩)) v7 v8 v9 xa xb xc xd xe xf xg xh xi xj xk xl xm xn xo xp xq xr xt xu xv xw xx xy xz (.pointer (some ⟨B0,0,none⟩)) (.string t) (.slice am n cm) (.slice am n cm) (.int .i64 (n : Nat)) (.slice (some ⟨wd.heap.size,0,none⟩) n n) (.agg #[.string t,.slice am n cm,.slice (some ⟨wd.heap.size,0,none⟩) n n]) xH xI xJ xK xL xM xN xO xP xQ xR xS xT xU) (by kernel_rfl) ?_)
  clear hK K
  refine want_h (i := 8) (oi := ops9_6_8 ps) (fuel := 0) (by kernel_rfl) (by kernel_rfl) (by kernel_rfl) fun K hK => ?_
  refine wp_store_row 133 _ _ (by unfold ops9_6_8; rfl) (wd.heap.size + 1) #[.string t,.slice am n cm,.slice (some ⟨wd.heap.size,0,none⟩) n n] rfl rfl 133 _ hA2 info63 rfl (by simp [Value.oneCell']) ?_
  have T9 : Turns (fun b => b = wd.heap.size + 1) (((wd).alloc (.cells (bcells (List.replicate n false)) 4)).alloc (.cells #[.string ⟨#[]⟩,.slice none 0 0,.slice none 0 0] 133)) ((((wd).alloc (.cells (bcells (List.replicate n false)) 4)).alloc (.cells #[.string ⟨#[]⟩,.slice none 0 0,.slice none 0 0] 133)).setRow (wd.heap.size + 1) #[.string t,.slice am n cm,.slice (some ⟨wd.heap.size,0,none⟩) n n]) := Turns.setRow (X := fun b => b = wd.heap.size + 1) _ (r := wd.heap.size + 1) rfl _
  have G9 : ((((wd).alloc (.cells (bcells (List.replicate n false)) 4)).alloc (.cells #[.string ⟨#[]⟩,.slice none 0 0,.slice none 0 0] 133)).setRow (wd.heap.size + 1) #[.string t,.slice am n cm,.slice (some ⟨wd.heap.size,0,none⟩) n n]).heap[wd.heap.size + 1]? = some (.cells #[.string t,.slice am n cm,.slice (some ⟨wd.heap.size,0,none⟩) n n] 133 (0,0)) := setRow_heap _ _ _ _ 133 _ hA2
  have S9 : TX B0 t ((((wd).alloc (.cells (bcells (List.replicate n false)) 4)).alloc (.cells #[.string ⟨#[]⟩,.slice none 0 0,.slice none 0 0] 133)).setRow (wd.heap.size + 1) #[.string t,.slice am n cm,.slice (some ⟨wd.heap.size,0,none⟩) n n]) := S2.turns T9 (by have := hS.lt; simp; omega)
  refine hK _ _ S9 (cast_h (fr9 v0 (.pointer (some ⟨B0,0,none⟩)) v2 v3 (.slice am n cm) v5 (.pointer (some ⟨wd.heap.size + 1,0,none⟩)) v7 v8 v9 xa xb xc xd xe xf xg xh xi xj xk xl xm xn xo xp xq xr xt xu xv xw xx xy xz (.pointer (some ⟨B0,0,none⟩)) (.string t) (.slice am n cm) (.slice am n cm) (.int .i64 (n : Nat)) (.slice (some ⟨wd.heap.size,0,none⟩) n n) (.agg #[.string t,.slice am n cm,.slice (some ⟨wd.heap.size,0,none⟩) n n]) xH xI xJ xK xL xM xN xO xP xQ xR xS xT xU) (by kernel_rfl) ?_)
  clear hK K
  have hsA : ((wd).alloc (.cells (bcells (List.replicate n false)) 4)).heap.size = w.heap.size + 1 := by rw [World.size_alloc,hDs]
  have hM3 : Hy.Blk ((((wd).alloc (.cells (bcells (List.replicate n false)) 4)).alloc (.cells #[.string ⟨#[]⟩,.slice none 0 0,.slice none 0 0] 133)).setRow (wd.heap.size + 1) #[.string t,.slice am n cm,.slice (some ⟨wd.heap.size,0,none⟩) n n]) wd.heap.size (bcells (List.replicate n false)) 4 := (T9.block _ (by simp only [World.size_alloc]; omega) (by omega)).trans ((Below.heap_alloc _ _ _ (by simp only [World.size_alloc]; omega)).trans hM1)
  refine wpAnyH_done (by kernel_rfl) (hq _ _ _ ?_ (by omega) (by omega) (by omega) hM3 G9) _
  exact (hDB.trans ((two_below wd _ _).mono (by omega))).trans (T9.below (by simp only [World.size_alloc]; omega) (fun b hb => by omega))
 ·skip
  unfold fr9 ops9_6_7
  go_simp
  have hA1 : ((wd).alloc (.cells #[.string ⟨#[]⟩,.slice none 0 0,.slice none 0 0] 133)).heap[(wd).heap.size]? = some (.cells #[.string ⟨#[]⟩,.slice none 0 0,.slice none 0 0] 133 (0,0)) := by have := heap_new (wd) (.cells #[.string ⟨#[]⟩,.slice none 0 0,.slice none 0 0] 133); first | exact this | (rw [World.size_alloc] at this; exact this)
  have BA1 := (Below.refl (wd).heap.size (wd)).alloc (Nat.le_refl _) (Obj.cells #[.string ⟨#[]⟩,.slice none 0 0,.slice none 0 0] 133)
  have S1 : TX B0 t ((wd).alloc (.cells #[.string ⟨#[]⟩,.slice none 0 0,.slice none 0 0] 133)) := (hS).below BA1
  refine hK _ _ S1 (cast_h (fr9 v0 (.pointer (some ⟨B0,0,none⟩)) v2 v3 (.slice am n cm) v5 (.pointer (some ⟨wd.heap.size,0,none⟩)) v7 v8 v9 xa xb xc xd xe xf xg xh xi xj xk xl xm xn xo xp xq xr xt xu xv xw xx xy xz (.pointer (some ⟨B0,0,none⟩)) (.string t) (.slice am n cm) (.slice am n cm) (.int .i64 (n : Nat)) xF xG xH xI xJ xK xL xM xN xO xP xQ xR xS xT xU) (by kernel_rfl) ?_)
  clear hK K
  refine want_h (i := 5) (oi := ops9_6_5 ps) (fuel := 2) (by kernel_rfl) (by kernel_rfl) (by kernel_rfl) fun K hK => ?_
  have hm := make61 hn ((wd).alloc (.cells #[.string ⟨#[]⟩,.slice none 0 0,.slice none 0 0] 133))
  unfold fr9 ops9_6_5
  go_simp
  have hM2 : Hy.Blk (((wd).alloc (.cells #[.string ⟨#[]⟩,.slice none 0 0,.slice none 0 0] 133)).alloc (.cells (bcells (List.replicate n false)) 4)) (wd.heap.size + 1) (bcells (List.replicate n false)) 4 := by have := heap_new ((wd).alloc (.cells #[.string ⟨#[]⟩,.slice none 0 0,.slice none 0 0] 133)) (.cells (bcells (List.replicate n false)) 4); first | exact this | (rw [World.size_alloc] at this; exact this)
  have BM2 := (Below.refl ((wd).alloc (.cells #[.string ⟨#[]⟩,.slice none 0 0,.slice none 0 0] 133)).heap.size ((wd).alloc (.cells #[.string ⟨#[]⟩,.slice none 0 0,.slice none 0 0] 133))).alloc (Nat.le_refl _) (Obj.cells (bcells (List.replicate n false)) 4)
  have S2 : TX B0 t (((wd).alloc (.cells #[.string ⟨#[]⟩,.slice none 0 0,.slice none 0 0] 133)).alloc (.cells (bcells (List.replicate n false)) 4)) := (S1).below BM2
  refine hK _ _ S2 (cast_h (fr9 v0 (.pointer (some ⟨B0,0,none⟩)) v2 v3 (.slice am n cm) v5 (.pointer (some ⟨wd.heap.size,0,none⟩)) v7 v8 v9 xa xb xc xd xe xf xg xh xi xj xk xl xm xn xo xp xq xr xt xu xv xw xx xy xz (.pointer (some ⟨B0,0,none⟩)) (.string t) (.slice am n cm) (.slice am n cm) (.int .i64 (n : Nat)) (.slice (some ⟨wd.heap.size + 1,0,none⟩) n n) xG xH xI xJ xK xL xM xN xO xP xQ xR xS xT xU) (by kernel_rfl) ?_)
  clear hK K
  refine take_h (i := 6) (oi := ops9_6_6 ps) (fuel := 1) (v := (.agg #[.string t,.slice am n cm,.slice (some ⟨wd.heap.size + 1,0,none⟩) n n])) (fr9 v0 (.pointer (some ⟨B0,0,none⟩)) v2 v3 (.slice am n cm) v5 (.pointer (some ⟨wd.heap.size,0,none⟩)) v7 v8 v9 xa xb xc xd xe xf xg xh xi xj xk xl xm xn xo xp xq xr xt xu xv xw xx xy xz (.pointer (some ⟨B0,0,none⟩)) (.string t) (.slice am n cm) (.slice am n cm) (.int .i64 (n : Nat)) (.slice (some ⟨wd.heap.size + 1,0,none⟩) n n) (.agg #[.string t,.slice am n cm,.slice (some ⟨wd.heap.size + 1,0,none⟩) n n]) xH xI xJ xK xL xM xN xO xP xQ xR xS xT xU) (by kernel_rfl) (by kernel_rfl) (by kernel_rfl) (by kernel_rfl) (fun c x w => hQ c x _ _ w) (by kernel_rfl) (fun w hS => by unfold fr9 ops9_6_6; go_simp) (by kernel_rfl) S2 ?_
  refine want_h (i := 8) (oi := ops9_6_8 ps) (fuel := 0) (by kernel_rfl) (by kernel_rfl) (by kernel_rfl) fun K hK => ?_
  have hA3 : (((wd).alloc (.cells #[.string ⟨#[]⟩,.slice none 0 0,.slice none 0 0] 133)).alloc (.cells (bcells (List.replicate n false)) 4)).heap[wd.heap.size]? = some (.cells #[.string ⟨#[]⟩,.slice none 0 0,.slice none 0 0] 133 (0,0)) := (Below.heap_alloc _ _ _ (by simp)).trans hA1
  refine wp_store_row 133 _ _ (by unfold ops9_6_8; rfl) (wd.heap.size) #[.string t,.slice am n cm,.slice (some ⟨wd.heap.size + 1,0,none⟩) n n] rfl rfl 133 _ hA3 info63 rfl (by simp [Value.oneCell']) ?_
  have T9 : Turns (fun b => b = wd.heap.size) (((wd).alloc (.cells #[.string ⟨#[]⟩,.slice none 0 0,.slice none 0 0] 133)).alloc (.cells (bcells (List.replicate n false)) 4)) ((((wd).alloc (.cells #[.string ⟨#[]⟩,.slice none 0 0,.slice none 0 0] 133)).alloc (.cells (bcells (List.replicate n false)) 4)).setRow (wd.heap.size) #[.string t,.slice am n cm,.slice (some ⟨wd.heap.size + 1,0,none⟩) n n]) := Turns.setRow (X := fun b => b = wd.heap.size) _ (r := wd.heap.size) rfl _
  have G9 : ((((wd).alloc (.cells #[.string ⟨#[]⟩,.slice none 0 0,.slice none 0 0] 133)).alloc (.cells (bcells (List.replicate n false)) 4)).setRow (wd.heap.size) #[.string t,.slice am n cm,.slice (some ⟨wd.heap.size + 1,0,none⟩) n n]).heap[wd.heap.size]? = some (.cells #[.string t,.slice am n cm,.slice (some ⟨wd.heap.size + 1,0,none⟩) n n] 133 (0,0)) := setRow_heap _ _ _ _ 133 _ hA3
  have S9 : TX B0 t ((((wd).alloc (.cells #[.string ⟨#[]⟩,.slice none 0 0,.slice none 0 0] 133)).alloc (.cells (bcells (List.replicate n false)) 4)).setRow (wd.heap.size) #[.string t,.slice am n cm,.slice (some ⟨wd.heap.size + 1,0,none⟩) n n]) := S2.turns T9 (by have := hS.lt; simp; omega)
  refine hK _ _ S9 (cast_h (fr9 v0 (.pointer (some ⟨B0,0,none⟩)) v2 v3 (.slice am n cm) v5 (.pointer (some ⟨wd.heap.size,0,none⟩)) v7 v8 v9 xa xb xc xd xe xf xg xh xi xj xk xl xm xn xo xp xq xr xt xu xv xw xx xy xz (.pointer (some ⟨B0,0,none⟩)) (.string t) (.slice am n cm) (.slice am n cm) (.int .i64 (n : Nat)) (.slice (some ⟨wd.heap.size + 1,0,none⟩) n n) (.agg #[.string t,.slice am n cm,.slice (some ⟨wd.heap.size + 1,0,none⟩) n n]) xH xI xJ xK xL xM xN xO xP xQ xR xS xT xU) (by kernel_rfl) ?_)
  clear hK K
  have hsA : ((wd).alloc (.cells #[.string ⟨#[]⟩,.slice none 0 0,.slice none 0 0] 133)).heap.size = w.heap.size + 1 := by rw [World.size_alloc,hDs]
  have hM3 : Hy.Blk ((((wd).alloc (.cells #[.string ⟨#[]⟩,.slice none 0 0,.slice none 0 0] 133)).alloc (.cells (bcells (List.replicate n false)) 4)).setRow wd.heap.size #[.string t,.slice am n cm,.slice (some ⟨wd.heap.size + 1,0,none⟩) n n]) (wd.heap.size + 1) (bcells (List.replicate n false)) 4 := (T9.block _ (by simp only [World.size_alloc]; omega) (by omega)).trans hM2
  refine wpAnyH_done (by kernel_rfl) (hq _ _ _ ?_ (by omega) (by omega) (by omega) hM3 G9) _
  exact (hDB.trans ((two_below wd _ _).mono (by omega))).trans (T9.below (by simp only [World.size_alloc]; omega) (fun b hb => by omega))
end Go.Proofs.YtlgcnbomfhmjiaaGreatDoor

namespace Go.Proofs.YtlgcnbomfhmjiaaGreatDoor
open Go.RowKit Go.Shelf

def Kd (j : Nat) (u : Value) : Prop := if j % 8 = 7 then ∃ b,u = .bool b else ∃ i,u = .int .i64 i
theorem Kd.shift {j : Nat} {u : Value} (m : Nat) : Kd (j + m * 8) u ↔ Kd j u := by unfold Kd; rw [Nat.add_mul_mod_self_right]
def KdL (xs : List Value) : Prop := ∀ j u,xs[j]? = some u → Kd j u
theorem kd_item (x : It) : KdL (itL x) := fun j u hu => by
 have hj : j < 8 := (List.getElem?_eq_some_iff.1 hu).1
 have hj' : j = 0 ∨ j = 1 ∨ j = 2 ∨ j = 3 ∨ j = 4 ∨ j = 5 ∨ j = 6 ∨ j = 7 := by omega
 rcases hj' with rfl | rfl | rfl | rfl | rfl | rfl | rfl | rfl <;> (simp [itL] at hu; subst hu)
 all_goals first | exact ⟨_,rfl⟩
theorem kd_app {xs ys : List Value} {n : Nat} (hl : xs.length = n * 8) (h : KdL xs) (h' : KdL ys) : KdL (xs ++ ys) := fun j u hu => by
 by_cases hj : j < xs.length
 ·rw [List.getElem?_append_left hj] at hu; exact h j u hu
 ·rw [List.getElem?_append_right (by omega)] at hu
  have := (Kd.shift n).2 (h' _ _ hu)
  rwa [hl,show j - n * 8 + n * 8 = j by omega] at this
theorem kd_its : ∀ l : List It,KdL (l.flatMap itL)
 | [] => fun j u hu => by simp at hu
 | x :: l => by
  rw [List.flatMap_cons]
  exact kd_app (n := 1) (itL_len x) (kd_item x) (kd_its l)
def z8 : Value := .agg #[.int .i64 0,.int .i64 0,.int .i64 0,.int .i64 0,.int .i64 0,.int .i64 0,.int .i64 0,.bool false]
theorem kd_zero (m : Nat) : KdL (Builtin.zeroCells z8.cells m).toList := fun j u hu => by
 have hz : z8.cells = (itL it0).toArray := rfl
 rw [hz] at hu
 unfold Builtin.zeroCells at hu
 rw [Array.toList_map,List.getElem?_map] at hu
 obtain ⟨k,hk,rfl⟩ := Option.map_eq_some_iff.1 hu
 have hk' : k = j := by
  rw [Array.getElem?_toList] at hk
  have := Array.getElem?_eq_some_iff.1 hk
  obtain ⟨h1,h2⟩ := this
  simpa using h2.symm
 subst hk'
 have e : (itL it0).toArray.size = 8 := rfl
 rw [e]
 have h8 : k % 8 < 8 := Nat.mod_lt _ (by omega)
 have := kd_item it0 (k % 8) ((itL it0).toArray[k % 8]!) (by
  have h' : k % 8 < (itL it0).length := h8
  rw [List.getElem?_eq_getElem h']
  simp [h'])
 have h3 := (Kd.shift (k / 8)).2 this
 rwa [show k % 8 + k / 8 * 8 = k by omega] at h3
def FillI (W : World) (v : Value) : Prop := ∀ g n cap cur,v = .slice (some ⟨g,0,none⟩) n cap → W.heap[g]? = some (.cells cur 91 (0,0)) → KdL cur.toList
theorem FillI.nil (W : World) : FillI W (.slice none 0 0) := fun _ _ _ _ e => by cases e
theorem FillI.turns {X : Nat → Prop} {W W' : World} {v : Value} (h : FillI W v) (ht : Turns X W W') (hx : ∀ g,v.ownBlock = some g → g < W.heap.size ∧ ¬ X g) : FillI W' v := fun g n cap cur e hg => by
 obtain ⟨h1,h2⟩ := hx g (by rw [e]; rfl)
 rw [ht.block g h1 h2] at hg
 exact h g n cap cur e hg

theorem run_append_kinds {P : Program} (w : World) (base : Nat) (t ty : TypeId) (i : TypeInfo) (ht : P.underlying t = some (.slice 91)) (hi : P.info? 91 = some i) (hz : i.zero = some z8) (hsize : i.size = 8) (hby : i.bytes = 64)
  (v : Value) (n : Nat) (xs : List Value) (hown : w.ownsRow base 91 8 v n xs) (hk : KdL xs) (hfill : FillI w v) (a : Addr) (c : Nat) (news : List Value) (hl : news.length = 8) (hnews : ∀ j u,news[j]? = some u → w.cell? (a.add j) = some u) (h1 : ∀ u ∈ news,u.oneCell' = true) (hkn : KdL news)
  (h63 : n + 1 ≤ maxLen) (hbytes : (n + 1) * 64 ≤ 140737488355328) (hbase : base ≤ w.heap.size) :
  ∃ v' w',(Builtin.append_ #[t,t] ty #[v,.slice (some a) 1 c]).run P w = .ok v' w' ∧ w'.ownsRow base 91 8 v' (n + 1) (xs ++ news) ∧ w.grownBy w' v.ownBlock ∧ (v'.ownBlock = v.ownBlock ∨ ∀ g,v'.ownBlock = some g → w.heap.size ≤ g) ∧ FillI w' v' := by
 obtain ⟨v',w',hrun,r1,r2,r3⟩ := run_append_where (P := P) w base t ty 91 i z8 8 64 ht hi hz hsize hby rfl (by decide) v n xs hown a 1 c news (by omega) hnews h1 h63 hbytes hbase
 refine ⟨v',w',hrun,r1,r2,r3,?_⟩
 have hsmall : n + 1 ≤ 9223372036854775807 := by simp only [maxLen] at h63; omega
 have hxl : xs.length = n * 8 := hown.1
 have hfresh : ∀ (cs : Array Value) (m k : Nat),v' = .slice (some ⟨w.heap.size,0,none⟩) m k → w' = w.drew.alloc (.cells cs 91) → KdL cs.toList → FillI w' v' := by
  intro cs m k hv hw hx g n' cap' cur e hg
  rw [hv] at e
  cases e
  rw [hw] at hg
  have := World.alloc_heap_new w.drew (.cells cs 91)
  rw [show w.drew.heap.size = w.heap.size from rfl] at this
  rw [this] at hg
  cases hg
  exact hx
 rcases hown.2 with ⟨rfl,rfl⟩ | ⟨g,cap,cur,rfl,hbg,hg,hnc,hcm,hcs,htake⟩
 ·have hr := run_append_nil (P := P) w t ty 91 i z8 ht hi hz a 1 c news (by rw [hsize]; omega) hnews (by omega) (by omega) (by rw [hby]; omega)
  rw [hrun] at hr
  injection hr with e1 e2
  refine hfresh _ _ _ e1 e2 ?_
  rw [Array.toList_append]
  exact kd_app (n := 1) (by simpa using hl) hkn (kd_zero _)
 ·by_cases hroom : n + 1 ≤ cap
  ·have hfit : n * i.size + news.length ≤ cur.size := by rw [hsize,hcs,hl]; omega
   have hr := run_append_room (P := P) w t ty 91 i ht hi g n cap cur hg a 1 c news (by rw [hsize]; omega) hnews h1 hroom hfit
   rw [hrun] at hr
   injection hr with e1 e2
   intro g' n' cap' cur' e hg'
   rw [e1] at e
   cases e
   rw [e2,setRow_heap w g cur _ 91 _ hg] at hg'
   cases hg'
   have hold := hfill g n cap cur rfl hg
   rw [hsize] at hfit ⊢
   have hcl : cur.toList.length = cap * 8 := by simpa using hcs
   have ht8 : (cur.toList.take (n * 8)).length = n * 8 := by rw [List.length_take]; omega
   refine kd_app (n := n + 1) (by rw [List.length_append,ht8]; omega) (kd_app (n := n) ht8 (fun j u hu => ?_) hkn) (fun j u hu => ?_)
   ·have : cur.toList[j]? = some u := by
     have hj : j < n * 8 := by rw [← ht8]; exact (List.getElem?_eq_some_iff.1 hu).1
     rwa [List.getElem?_take_of_lt hj] at hu
    exact hold j u this
   ·rw [List.getElem?_drop,hl] at hu
    have := hold _ u hu
    rw [show n * 8 + 8 + j = j + (n + 1) * 8 by omega] at this
    exact (Kd.shift (n + 1)).1 this
  ·have holds : ∀ j u,xs[j]? = some u → w.cell? ((⟨g,0,none⟩ : Addr).add j) = some u := hown.cells (g := g) rfl
   have hr := run_append_grow (P := P) w t ty 91 i z8 ht hi hz ⟨g,0,none⟩ n cap xs (by rw [hsize]; exact hown.1) holds a 1 c news (by rw [hsize]; omega) hnews (by omega) (by omega) (by rw [hby]; exact growslice_fits (by omega) hbytes)
   rw [hrun] at hr
   injection hr with e1 e2
   refine hfresh _ _ _ e1 e2 ?_
   rw [Array.toList_append,Array.toList_append]
   exact kd_app (n := n + 1) (by simp; omega) (kd_app (n := n) (by simpa using hxl) hk hkn) (kd_zero _)

theorem wpListIn_append_kinds {F : Fence} {k : Nat} {P : Program} (w : World) {ops : Array Oper} {rest : List Oper} {o : Oper} {a : Act} {Q : Exit → Act → World → Prop}
  (hg : o.guard = none) (s x : Operand) (t : TypeId) (hop : o.op = Op.call { callee := Callee.builtin Builtin.append,args := #[s,x],argTypes := #[t,t] })
  (base : Nat) (i : TypeInfo) (ht : P.underlying t = some (.slice 91)) (hi : P.info? 91 = some i) (hz : i.zero = some z8) (hsize : i.size = 8) (hby : i.bytes = 64)
  (v : Value) (n : Nat) (xs : List Value) (hs : a.eval s = v) (hown : w.ownsRow base 91 8 v n xs) (hk : KdL xs) (hfill : FillI w v) (ad : Addr) (c : Nat) (news : List Value) (hx : a.eval x = .slice (some ad) 1 c) (hl : news.length = 8) (hnews : ∀ j u,news[j]? = some u → w.cell? (ad.add j) = some u) (h1 : ∀ u ∈ news,u.oneCell' = true) (hkn : KdL news)
  (h63 : n + 1 ≤ maxLen) (hbytes : (n + 1) * 64 ≤ 140737488355328) (hbase : base ≤ w.heap.size)
  (hK : ∀ v' w',w'.ownsRow base 91 8 v' (n + 1) (xs ++ news) → w.grownBy w' v.ownBlock → (v'.ownBlock = v.ownBlock ∨ ∀ g,v'.ownBlock = some g → w.heap.size ≤ g) → FillI w' v' → wpListIn F k P ops Q rest (a.put o.dst v') w') :
  wpListIn F k P ops Q (o :: rest) a w := by
 refine wpListIn_plain hg fun K hK' => ?_
 obtain ⟨v',w',hrun,r1,r2,r3,r4⟩ := run_append_kinds (P := P) w base t o.type i ht hi hz hsize hby v n xs hown hk hfill ad c news hl hnews h1 hkn h63 hbytes hbase
 unfold Oper.wpIn
 refine ⟨?_,?_⟩
 ·simp [Oper.about,hop,resolve,Target.leads,Sem.run_pure]
 ·rw [Oper.semAt_plain F _ _ (by rw [hop]; intro c hc'; cases hc')]
  simp [execOp,hop,resolve,invoke,builtin,hs,hx,hrun,Result.andThen]
  exact hK' _ _ (hK v' w' r1 r2 r3 r4)
theorem info51z : (Tryz.prog.info? 91).map (fun i => (i.zero,i.size,i.bytes)) = some (some z8,8,64) := by kernel_rfl
end Go.Proofs.YtlgcnbomfhmjiaaGreatDoor

namespace Go.Proofs.YtlgcnbomfhmjiaaGreatDoor
open Go.RowKit Go.Shelf

theorem GoodP.mass {a : Pa} (h : GoodP a) {i : Nat} (hi : i < num a.t) : (0 ≤ (msI a i).w ∧ (msI a i).w ≤ 4095) ∧ (-64 ≤ (msI a i).q ∧ (msI a i).q ≤ 0) := by
 have hf := h.fok hi
 refine ⟨?_,?_⟩
 ·show 0 ≤ wdI (fc a i) (mkAt a i) ∧ wdI (fc a i) (mkAt a i) ≤ 4095
  unfold wdI
  split
  ·have := bw_rng (fc a i).b hf.s.1 hf.s.2
   have := hf.t
   omega
  ·split
   ·rename_i h7
    obtain ⟨hr,hm1,hm2⟩ := h.mark hi h7
    rw [hm1]
    have := tw_rng a.ms[rI a.t i] hf.s.1 hf.s.2 a.ms[rI a.t i].size
    unfold widthI
    omega
   ·omega
 ·show -64 ≤ meetI (pf a i) (fc a i) ∧ meetI (pf a i) (fc a i) ≤ 0
  unfold meetI
  split
  ·have := kernI_rng (pf a i).b (fc a i).b hf.s.1 hf.s.2
   omega
  ·omega
theorem GoodP.fitI {a : Pa} (h : GoodP a) {i : Nat} (hi : i < num a.t) : MFit a.t (msI a i) := by
 have hk := num_lt hi
 refine ⟨?_,?_,?_,?_,?_,?_⟩
 ·show (0 : Int) ≤ (st a.t i : Nat); omega
 ·show ((st a.t i : Nat) : Int) < (st a.t (i + 1) : Nat); have := st_lt hk; omega
 ·show ((st a.t (i + 1) : Nat) : Int) ≤ a.t.size; have := st_le a.t (i + 1); omega
 ·show kindI (bt a.t (st a.t i)) = kindI (bt a.t ((st a.t i : Nat) : Int).toNat); rw [Int.toNat_natCast]
 ·show kindI (bt a.t (st a.t i)) ≠ 1 → ((st a.t (i + 1) : Nat) : Int) = (st a.t i : Nat) + 1
  intro h1
  rw [st_succ hk]
  unfold endN
  rw [if_neg h1]; omega
 ·exact decide_eq_true (h.mass hi)
theorem GoodP.fits {a : Pa} (h : GoodP a) : ∀ m ∈ mss a,MFit a.t m := fun m hm => by
 obtain ⟨i,hi,rfl⟩ := List.mem_map.1 hm
 exact h.fitI (List.mem_range.1 hi)
def dropB (a : Pa) : Prop := 2 ≤ a.p.p14 ∧ 0 < (mss a).length ∧ (mAt (mss a) 0).k = 1
instance (a : Pa) : Decidable (dropB a) := by unfold dropB; infer_instance
def bodyL (a : Pa) : List Ms := if dropB a then (mss a).drop 1 else mss a
def pdOf (a : Pa) : List Bool := List.replicate (bodyL a).length false
def itemsOf (a : Pa) : List It := itsL a.t (bodyL a) (pdOf a)
theorem bodyL_fit {a : Pa} (h : GoodP a) : ∀ m ∈ bodyL a,MFit a.t m := fun m hm => by
 unfold bodyL at hm
 split at hm
 ·exact h.fits m (List.mem_of_mem_drop hm)
 ·exact h.fits m hm
theorem bodyL_few {a : Pa} (h : GoodP a) : (bodyL a).length ≤ 4096 := by
 have := num_le a.t
 have := h.size
 unfold bodyL
 split
 ·rw [List.length_drop,mss_len]; omega
 ·rw [mss_len]; omega
theorem bxL_len (l : List Ms) (a b : Nat) : (bxL l a b).length ≤ 1 := by unfold bxL; split <;> simp
theorem ouL_len (t : ByteArray) (l : List Ms) (pd : List Bool) : ∀ k,(ouL t l pd k).length ≤ 2 * k
 | 0 => Nat.le_refl _
 | k + 1 => by
  have ih := ouL_len t l pd k
  have hb := bxL_len l (frN t l pd k) k
  show (ouL t l pd k ++ smL t l pd k).length ≤ _
  rw [List.length_append]
  unfold smL
  split
  ·rw [List.length_append]; simp; omega
  ·split
   ·rw [List.length_append]; simp; omega
   ·simp; omega
theorem its_few (t : ByteArray) (l : List Ms) (pd : List Bool) : (itsL t l pd).length ≤ 2 * l.length + 1 := by
 have h1 := ouL_len t l pd l.length
 have h2 := bxL_len l (frN t l pd l.length) l.length
 unfold itsL
 rw [List.length_append]; omega
end Go.Proofs.YtlgcnbomfhmjiaaGreatDoor
