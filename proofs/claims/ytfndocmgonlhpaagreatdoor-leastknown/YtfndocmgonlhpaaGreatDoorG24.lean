/-
  What is proved here: what limit and keep of least do.
-/
import Derived.Test.YtfndocmgonlhpaaGreatDoorG1
import Derived.Test.YtfndocmgonlhpaaGreatDoorG23
namespace Go.Proofs.YtfndocmgonlhpaaGreatDoor
open Go.RowKit Go.Shelf
set_option maxRecDepth 100000
set_option maxHeartbeats 2000000

def MpOk (f : Nat × Nat → Option Wy) : Prop := ∀ c x,f c = some x → (0 ≤ x.d ∧ x.d ≤ 171751025 * x.n) ∧ x.n ≤ c.1 ∧ x.f ≤ c.1 ∧ c.1 ≤ 8192
theorem minG_mem : ∀ (L : List Wy) (m : Wy),minG L m = m ∨ minG L m ∈ L
 | [],m => .inl rfl
 | x :: r, m => by
  unfold minG
  rcases minG_mem r (if cmpW x m < 0 then x else m) with h | h
  ·rw [h]
   split
   ·exact .inr (List.mem_cons_self ..)
   ·exact .inl rfl
  ·exact .inr (List.mem_cons_of_mem _ h)
theorem minW_mem {L : List Wy} (h : 0 < L.length) : minW L ∈ L := by
 unfold minW
 have e : L.getD 0 wy0 = L[0] := by rw [List.getD_eq_getElem?_getD,List.getElem?_eq_getElem h]; rfl
 rcases minG_mem (L.drop 1) (L.getD 0 wy0) with h1 | h1
 ·rw [h1,e]; exact List.getElem_mem _
 ·exact List.mem_of_mem_drop h1
theorem enL_mem {f : Nat × Nat → Option Wy} {m : Nat} : ∀ n x,x ∈ enL f m n → ∃ k,k < n ∧ f (m,k) = some x
 | 0,x,h => by cases h
 | n + 1, x, h => by
  unfold enL at h
  split at h
  ·obtain ⟨k,h1,h2⟩ := enL_mem n x h
   exact ⟨k,by omega,h2⟩
  ·rename_i y hy
   rcases List.mem_append.1 h with h | h
   ·obtain ⟨k,h1,h2⟩ := enL_mem n x h
    exact ⟨k,by omega,h2⟩
   ·rw [List.mem_singleton] at h
    exact ⟨n,by omega,by rw [h]; exact hy⟩
theorem endO_mem {P : Pl} {f : Nat × Nat → Option Wy} {x : Wy} (h : endO P f = some x) : ∃ k,k < P.wds.length ∧ f (P.sts.length - 1,k) = some x := by
 unfold endO at h
 split at h
 ·cases h
 ·cases h
  exact enL_mem _ _ (minW_mem (by omega))
def limI (P : Pl) (f : Nat × Nat → Option Wy) : Int := match endO P f with | none => 9223372036854775807 | some x => x.d - 100
theorem limit_any (P : Pl) (f : Nat × Nat → Option Wy) (M : Nat) (hs : 0 < P.sts.length ∧ P.sts.length ≤ 8193) (hw : 0 < P.wds.length ∧ P.wds.length ≤ 257) (hf : MpOk f) (w : World) (hP : PlM P f M w) : Calls Tryz.prog 61 #[.pointer (some ⟨P.B,0,none⟩)] w fun e w' => e = .returned (.int .i64 (limI P f)) ∧ Below w.heap.size w w' := by
 have hE := pend_any P f M hs hw w hP
 have hEh : Hid (Calls Tryz.prog 16 #[.pointer (some ⟨P.B,0,none⟩)] w fun e w' => e = .returned (.tuple #[.agg (wyL ((endO P f).getD wy0)).toArray,.bool (endO P f).isSome]) ∧ Below w.heap.size w w') := hE
 clear hE hP
 unfold limI
 cases he : endO P f with
 | none =>
  rw [he] at hEh
  have hEh2 : Hid (Calls Tryz.prog 16 #[.pointer (some ⟨P.B,0,none⟩)] w fun e w' => e = .returned (.tuple #[.agg #[.int .i64 0,.int .i64 0,.int .i64 0],.bool false]) ∧ Below w.heap.size w w') := hEh.out
  clear hEh
  go_enter Tryz.func61,Tryz.ntmps61
  go_wp2_with (go_at_call 16; refine hEh2.out.mono ?_; rintro e w2 ⟨rfl,hb2⟩)
  go_ret
  exact ⟨rfl,hb2.alloc hb2.size _⟩
 | some x =>
  obtain ⟨k,-,hk⟩ := endO_mem he
  have hx := hf _ _ hk
  rw [he] at hEh
  have hEh2 : Hid (Calls Tryz.prog 16 #[.pointer (some ⟨P.B,0,none⟩)] w fun e w' => e = .returned (.tuple #[.agg #[.int .i64 x.d,.int .i64 x.n,.int .i64 x.f],.bool true]) ∧ Below w.heap.size w w') := hEh.out
  have hd1 : 0 ≤ x.d := hx.1.1
  have hd2 : x.d ≤ 171751025 * 8192 := by have h1 := hx.1.2; have h2 := hx.2.1; have h3 := hx.2.2.2; omega
  clear hEh hx hk
  go_enter Tryz.func61,Tryz.ntmps61
  go_wp2_with (go_at_call 16; refine hEh2.out.mono ?_; rintro e w2 ⟨rfl,hb2⟩)
  go_ret
  exact ⟨rfl,hb2.alloc hb2.size _⟩
structure KeS (P : Pl) (f : Nat × Nat → Option Wy) (M Bs : Nat) (c : Nat × Nat) (W : World) : Prop where
 p : PlM P f M W
 s : W.heap[Bs]? = some (.cells #[.int .i64 c.1,.int .i64 c.2] 100 (0,0))
theorem KeS.below {P : Pl} {f : Nat × Nat → Option Wy} {M Bs : Nat} {c : Nat × Nat} {W W' : World} (h : KeS P f M Bs c W) (hb : Below W.heap.size W W') : KeS P f M Bs c W' := ⟨h.p.below hb,(hb.block _ (Array.getElem?_eq_some_iff.1 h.s).1).trans h.s⟩
theorem info100l (c : Nat × Nat) : (Tryz.prog.info? 100).map (·.size) = some [Value.int .i64 c.1,Value.int .i64 c.2].length := by show _ = some 2; kernel_rfl
def fr66 (v0 v1 v2 v3 v4 v5 v6 v7 v8 v9 xa xb xc xd xe xf xg xh xi xj xk xl xm xn xo xp xq xr xt xu xv : Value) : Act := { tmps := #[v0,v1,v2,v3,v4,v5,v6,v7,v8,v9,xa,xb,xc,xd,xe,xf,xg,xh,xi,xj,xk,xl,xm,xn,xo,xp,xq,xr,xt,xu,xv],defers := [] }
def ops66_1_0 (ps : String) : Oper := ⟨some 9,.move (.tmp 0),98,ps,#[],none⟩
def ops66_1_1 (ps : String) : Oper := ⟨some 10,.nilCheck (.tmp 9),0,ps,#[⟨0,.data⟩],none⟩
def ops66_1_2 (ps : String) : Oper := ⟨some 11,.fieldAddr 56 (.tmp 10) 2,0,ps,#[⟨1,.data⟩],none⟩
def ops66_1_3 (ps : String) : Oper := ⟨some 12,.load 54 (.tmp 11),54,ps,#[⟨2,.data⟩],none⟩
def ops66_1_4 (ps : String) : Oper := ⟨some 13,.load 100 (.tmp 4),100,ps,#[],none⟩
def ops66_1_5 (ps : String) : Oper := ⟨some 14,.lookup 54 (.tmp 12) (.tmp 13) true,59,ps,#[⟨3,.data⟩,⟨4,.data⟩],none⟩
def ops66_1_6 (ps : String) : Oper := ⟨some 8,.move (.tmp 14),59,ps,#[⟨5,.data⟩],none⟩
def ops66_1_7 (ps : String) : Oper := ⟨some 15,.extract (.tmp 8) 0,58,ps,#[⟨6,.data⟩],none⟩
def ops66_1_8 (ps : String) : Oper := ⟨some 16,.extract (.tmp 8) 1,4,ps,#[⟨6,.data⟩,⟨10,.gcOnly .lateStores⟩],none⟩
def ops66_1_9 (ps : String) : Oper := ⟨some 6,.alloc 58,0,ps,#[],none⟩
def ops66_1_10 (ps : String) : Oper := ⟨none,.store 58 (.tmp 6) (.tmp 15),0,ps,#[⟨9,.data⟩,⟨7,.data⟩,⟨0,.phase⟩,⟨1,.phase⟩,⟨2,.phase⟩,⟨3,.phase⟩,⟨4,.phase⟩,⟨5,.phase⟩,⟨6,.phase⟩,⟨7,.phase⟩,⟨8,.textOnly .lateStores⟩,⟨9,.phase⟩],none⟩
def ops66_1_11 (ps : String) : Oper := ⟨some 7,.assign (.tmp 16),4,ps,#[⟨8,.data⟩,⟨10,.chain⟩,⟨0,.phase⟩,⟨1,.phase⟩,⟨2,.phase⟩,⟨3,.phase⟩,⟨4,.phase⟩,⟨5,.phase⟩,⟨6,.phase⟩,⟨7,.phase⟩,⟨8,.phase⟩,⟨9,.phase⟩,⟨10,.phase⟩],none⟩
def ops66_1 (ps : String) : Array Oper := #[ops66_1_0 ps,ops66_1_1 ps,ops66_1_2 ps,ops66_1_3 ps,ops66_1_4 ps,ops66_1_5 ps,ops66_1_6 ps,ops66_1_7 ps,ops66_1_8 ps,ops66_1_9 ps,ops66_1_10 ps,ops66_1_11 ps]

theorem ke_r1 (Q : Exit → Act → World → Prop) (hQ : ∀ c x (n : Nat) v w,Q (.panic c) (x.put (some n) v) w → Q (.panic c) x w) (id : Nat) (ps : String) {v1 v2 v3 v5 v6 v7 v8 v9 xa xb xc xd xe xf xg xh xi xj xk xl xm xn xo xp xq xr xt xu xv : Value} (P : Pl) (f : Nat × Nat → Option Wy) (M Bs : Nat) (c : Nat × Nat) (w : World) (hS : KeS P f M Bs c (World.drew w))
  (hb : SpB c)
  (hq : ∀ w',Below w.heap.size w w' → w'.heap[w.heap.size]? = some (.cells (wyL ((f c).getD wy0)).toArray 58 (0,0)) → KeS P f M Bs c w' → Q .normal (fr66 (.pointer (some ⟨P.B,0,none⟩)) v1 v2 v3 (.pointer (some ⟨Bs,0,none⟩)) v5 (.pointer (some ⟨w.heap.size,0,none⟩)) (.bool (f c).isSome) (.tuple #[wyV ((f c).getD wy0),.bool (f c).isSome]) (.pointer (some ⟨P.B,0,none⟩)) (.pointer (some ⟨P.B,0,none⟩)) (.pointer (some ⟨P.B,2,none⟩)) (.map (some P.mb)) (spV c) (.tuple #[wyV ((f c).getD wy0),.bool (f c).isSome]) (wyV ((f c).getD wy0)) (.bool (f c).isSome) xh xi xj xk xl xm xn xo xp xq xr xt xu xv) w') :
  (Code.region id (ops66_1 ps) true).wp Tryz.prog Q (fr66 (.pointer (some ⟨P.B,0,none⟩)) v1 v2 v3 (.pointer (some ⟨Bs,0,none⟩)) v5 v6 v7 v8 v9 xa xb xc xd xe xf xg xh xi xj xk xl xm xn xo xp xq xr xt xu xv) w := by
 refine wp_region_held (S := KeS P f M Bs c) (by kernel_rfl) ?_
 change wpAnyH _ _ _ _ _ 12 _ _ (World.drew w)
 refine take_r 0 ⟨some 9,.move (.tmp 0),98,ps,#[],none⟩ (.pointer (some ⟨P.B,0,none⟩)) hQ (fun w _ => by kernel_rfl) hS ?_
 refine take_k 1 (ops66_1_1 ps) (.pointer (some ⟨P.B,0,none⟩)) (fr66 (.pointer (some ⟨P.B,0,none⟩)) v1 v2 v3 (.pointer (some ⟨Bs,0,none⟩)) v5 v6 v7 v8 (.pointer (some ⟨P.B,0,none⟩)) (.pointer (some ⟨P.B,0,none⟩)) xb xc xd xe xf xg xh xi xj xk xl xm xn xo xp xq xr xt xu xv) hQ (fun w hS => by unfold fr66 ops66_1_1; go_simp) hS ?_
 refine take_r 2 ⟨some 11,.fieldAddr 56 (.tmp 10) 2,0,ps,#[⟨1,.data⟩],none⟩ (.pointer (some ⟨P.B,2,none⟩)) hQ (fun w hS => by unfold fr66; go_simp) hS ?_
 refine take_k 3 (ops66_1_3 ps) (.map (some P.mb)) (fr66 (.pointer (some ⟨P.B,0,none⟩)) v1 v2 v3 (.pointer (some ⟨Bs,0,none⟩)) v5 v6 v7 v8 (.pointer (some ⟨P.B,0,none⟩)) (.pointer (some ⟨P.B,0,none⟩)) (.pointer (some ⟨P.B,2,none⟩)) (.map (some P.mb)) xd xe xf xg xh xi xj xk xl xm xn xo xp xq xr xt xu xv) hQ (fun w hS => by have e := hS.p.p.c2; unfold fr66 ops66_1_3; go_simp) hS ?_
 refine take_r 4 ⟨some 13,.load 100 (.tmp 4),100,ps,#[],none⟩ (spV c) hQ (fun w hS => exec_load_mid (x := (Operand.tmp 4)) 100 Bs 0 [.int .i64 c.1,.int .i64 c.2] _ (by kernel_rfl) (by kernel_rfl) (range_row hS.s) Tryz.underlying100 rfl (info100l c)) hS ?_
 refine take_k 5 (ops66_1_5 ps) (.tuple #[wyV ((f c).getD wy0),.bool (f c).isSome]) (fr66 (.pointer (some ⟨P.B,0,none⟩)) v1 v2 v3 (.pointer (some ⟨Bs,0,none⟩)) v5 v6 v7 v8 (.pointer (some ⟨P.B,0,none⟩)) (.pointer (some ⟨P.B,0,none⟩)) (.pointer (some ⟨P.B,2,none⟩)) (.map (some P.mb)) (spV c) (.tuple #[wyV ((f c).getD wy0),.bool (f c).isSome]) xf xg xh xi xj xk xl xm xn xo xp xq xr xt xu xv) hQ (fun w hS => by have hr := hS.p.m.look_ok c hb; unfold fr66 ops66_1_5; go_simp) hS ?_
 refine take_r 6 ⟨some 8,.move (.tmp 14),59,ps,#[⟨5,.data⟩],none⟩ (.tuple #[wyV ((f c).getD wy0),.bool (f c).isSome]) hQ (fun w _ => by kernel_rfl) hS ?_
 refine take_k 7 (ops66_1_7 ps) (wyV ((f c).getD wy0)) (fr66 (.pointer (some ⟨P.B,0,none⟩)) v1 v2 v3 (.pointer (some ⟨Bs,0,none⟩)) v5 v6 v7 (.tuple #[wyV ((f c).getD wy0),.bool (f c).isSome]) (.pointer (some ⟨P.B,0,none⟩)) (.pointer (some ⟨P.B,0,none⟩)) (.pointer (some ⟨P.B,2,none⟩)) (.map (some P.mb)) (spV c) (.tuple #[wyV ((f c).getD wy0),.bool (f c).isSome]) (wyV ((f c).getD wy0)) xg xh xi xj xk xl xm xn xo xp xq xr xt xu xv) hQ (fun w _ => by kernel_rfl) hS ?_
 refine take_r 8 ⟨some 16,.extract (.tmp 8) 1,4,ps,#[⟨6,.data⟩,⟨10,.gcOnly .lateStores⟩],none⟩ (.bool (f c).isSome) hQ (fun w _ => by kernel_rfl) hS ?_
 refine want_k 9 (ops66_1_9 ps) fun K hK => ?_
 unfold fr66 ops66_1_9
 go_simp
 have hb1 : Below w.heap.size w (World.drew (w.alloc (.cells #[.int .i64 0,.int .i64 0,.int .i64 0] 58))) := ((Below.refl w.heap.size w).alloc (Nat.le_refl _) _).drew
 have hT : (World.drew (w.alloc (.cells #[.int .i64 0,.int .i64 0,.int .i64 0] 58))).heap[w.heap.size]? = some (.cells (wyL wy0).toArray 58 (0,0)) := World.alloc_heap_new w _
 have hS1 : KeS P f M Bs c (World.drew (w.alloc (.cells #[.int .i64 0,.int .i64 0,.int .i64 0] 58))) := hS.below ⟨hb1.1,hb1.2,hb1.3,hb1.4,hb1.5⟩
 generalize World.drew (w.alloc (.cells #[.int .i64 0,.int .i64 0,.int .i64 0] 58)) = wa at *
 refine hK _ _ hS1 (cast_h (fr66 (.pointer (some ⟨P.B,0,none⟩)) v1 v2 v3 (.pointer (some ⟨Bs,0,none⟩)) v5 (.pointer (some ⟨w.heap.size,0,none⟩)) v7 (.tuple #[wyV ((f c).getD wy0),.bool (f c).isSome]) (.pointer (some ⟨P.B,0,none⟩)) (.pointer (some ⟨P.B,0,none⟩)) (.pointer (some ⟨P.B,2,none⟩)) (.map (some P.mb)) (spV c) (.tuple #[wyV ((f c).getD wy0),.bool (f c).isSome]) (wyV ((f c).getD wy0)) (.bool (f c).isSome) xh xi xj xk xl xm xn xo xp xq xr xt xu xv) (by kernel_rfl) ?_)
 clear hK K
 refine want_k 10 (ops66_1_10 ps) fun K hK => ?_
 refine wp_store_row 58 _ _ (by unfold ops66_1_10; rfl) w.heap.size (wyL ((f c).getD wy0)).toArray rfl rfl 58 _ hT (info58 _) rfl (wyL_all _) ?_
 have hb2 := set58_below hb1 ((f c).getD wy0)
 have hT2 : (wa.setRow w.heap.size (wyL ((f c).getD wy0)).toArray).heap[w.heap.size]? = some (.cells (wyL ((f c).getD wy0)).toArray 58 (0,0)) := setRow_heap _ _ _ _ _ _ hT
 have hS2 : KeS P f M Bs c (wa.setRow w.heap.size (wyL ((f c).getD wy0)).toArray) := hS.below ⟨hb2.1,hb2.2,hb2.3,hb2.4,hb2.5⟩
 refine hK _ _ hS2 (cast_h (fr66 (.pointer (some ⟨P.B,0,none⟩)) v1 v2 v3 (.pointer (some ⟨Bs,0,none⟩)) v5 (.pointer (some ⟨w.heap.size,0,none⟩)) v7 (.tuple #[wyV ((f c).getD wy0),.bool (f c).isSome]) (.pointer (some ⟨P.B,0,none⟩)) (.pointer (some ⟨P.B,0,none⟩)) (.pointer (some ⟨P.B,2,none⟩)) (.map (some P.mb)) (spV c) (.tuple #[wyV ((f c).getD wy0),.bool (f c).isSome]) (wyV ((f c).getD wy0)) (.bool (f c).isSome) xh xi xj xk xl xm xn xo xp xq xr xt xu xv) (by kernel_rfl) ?_)
 clear hK K
 refine take_r 11 ⟨some 7,.assign (.tmp 16),4,ps,#[⟨8,.data⟩,⟨10,.chain⟩,⟨0,.phase⟩,⟨1,.phase⟩,⟨2,.phase⟩,⟨3,.phase⟩,⟨4,.phase⟩,⟨5,.phase⟩,⟨6,.phase⟩,⟨7,.phase⟩,⟨8,.phase⟩,⟨9,.phase⟩,⟨10,.phase⟩],none⟩ (.bool (f c).isSome) hQ (fun w _ => by kernel_rfl) hS2 ?_
 exact wpAnyH_done (by kernel_rfl) (hq _ hb2 hT2 hS2) _
structure KeT (P : Pl) (Bs Bw : Nat) (c : Nat × Nat) (x : Wy) (W : World) : Prop where
 p : PlS P W
 s : W.heap[Bs]? = some (.cells #[.int .i64 c.1,.int .i64 c.2] 100 (0,0))
 w : W.heap[Bw]? = some (.cells (wyL x).toArray 58 (0,0))
def ops66_3_0 (ps : String) : Oper := ⟨some 25,.move (.tmp 0),98,ps,#[],none⟩
def ops66_3_1 (ps : String) : Oper := ⟨some 26,.nilCheck (.tmp 25),0,ps,#[⟨0,.data⟩],none⟩
def ops66_3_2 (ps : String) : Oper := ⟨some 27,.fieldAddr 56 (.tmp 26) 2,0,ps,#[⟨1,.data⟩],none⟩
def ops66_3_3 (ps : String) : Oper := ⟨some 28,.load 54 (.tmp 27),54,ps,#[⟨2,.data⟩],none⟩
def ops66_3_4 (ps : String) : Oper := ⟨some 29,.load 100 (.tmp 4),100,ps,#[],none⟩
def ops66_3_5 (ps : String) : Oper := ⟨some 30,.load 58 (.tmp 5),58,ps,#[],none⟩
def ops66_3_6 (ps : String) : Oper := ⟨none,.mapUpdate 54 (.tmp 28) (.tmp 29) (.tmp 30),0,ps,#[⟨3,.data⟩,⟨4,.data⟩,⟨5,.data⟩,⟨0,.phase⟩,⟨1,.phase⟩,⟨2,.phase⟩,⟨3,.phase⟩,⟨4,.phase⟩,⟨5,.phase⟩],none⟩
def ops66_3 (ps : String) : Array Oper := #[ops66_3_0 ps,ops66_3_1 ps,ops66_3_2 ps,ops66_3_3 ps,ops66_3_4 ps,ops66_3_5 ps,ops66_3_6 ps]

theorem ke_r3 (Q : Exit → Act → World → Prop) (hQ : ∀ c x (n : Nat) v w,Q (.panic c) (x.put (some n) v) w → Q (.panic c) x w) (id : Nat) (ps : String) {v1 v2 v3 v6 v7 v8 v9 xa xb xc xd xe xf xg xh xi xj xk xl xm xn xo xp xq xr xt xu xv : Value} (P : Pl) (f : Nat × Nat → Option Wy) (M Bs Bw : Nat) (c : Nat × Nat) (x : Wy) (w : World) (hS : KeT P Bs Bw c x (World.drew w))
  (hm : MapW (World.drew w) P.mb f M) (hM : M < maxLen) (hb : SpB c) (h1 : Bs ≠ P.mb) (h2 : Bw ≠ P.mb) (hdr : Turns (fun k => k = P.mb) w (World.drew w))
  (hq : ∀ w',Turns (fun k => k = P.mb) w w' → MapW w' P.mb (updW f c x) (M + 1) → Q .normal (fr66 (.pointer (some ⟨P.B,0,none⟩)) v1 v2 v3 (.pointer (some ⟨Bs,0,none⟩)) (.pointer (some ⟨Bw,0,none⟩)) v6 v7 v8 v9 xa xb xc xd xe xf xg xh xi xj xk xl xm xn xo (.pointer (some ⟨P.B,0,none⟩)) (.pointer (some ⟨P.B,0,none⟩)) (.pointer (some ⟨P.B,2,none⟩)) (.map (some P.mb)) (spV c) (wyV x)) w') :
  (Code.region id (ops66_3 ps) true).wp Tryz.prog Q (fr66 (.pointer (some ⟨P.B,0,none⟩)) v1 v2 v3 (.pointer (some ⟨Bs,0,none⟩)) (.pointer (some ⟨Bw,0,none⟩)) v6 v7 v8 v9 xa xb xc xd xe xf xg xh xi xj xk xl xm xn xo xp xq xr xt xu xv) w := by
 refine wp_region_held (S := KeT P Bs Bw c x) (by kernel_rfl) ?_
 change wpAnyH _ _ _ _ _ 7 _ _ (World.drew w)
 refine take_r 0 ⟨some 25,.move (.tmp 0),98,ps,#[],none⟩ (.pointer (some ⟨P.B,0,none⟩)) hQ (fun w _ => by kernel_rfl) hS ?_
 refine take_k 1 (ops66_3_1 ps) (.pointer (some ⟨P.B,0,none⟩)) (fr66 (.pointer (some ⟨P.B,0,none⟩)) v1 v2 v3 (.pointer (some ⟨Bs,0,none⟩)) (.pointer (some ⟨Bw,0,none⟩)) v6 v7 v8 v9 xa xb xc xd xe xf xg xh xi xj xk xl xm xn xo (.pointer (some ⟨P.B,0,none⟩)) (.pointer (some ⟨P.B,0,none⟩)) xr xt xu xv) hQ (fun w hS => by unfold fr66 ops66_3_1; go_simp) hS ?_
 refine take_r 2 ⟨some 27,.fieldAddr 56 (.tmp 26) 2,0,ps,#[⟨1,.data⟩],none⟩ (.pointer (some ⟨P.B,2,none⟩)) hQ (fun w hS => by unfold fr66; go_simp) hS ?_
 refine take_k 3 (ops66_3_3 ps) (.map (some P.mb)) (fr66 (.pointer (some ⟨P.B,0,none⟩)) v1 v2 v3 (.pointer (some ⟨Bs,0,none⟩)) (.pointer (some ⟨Bw,0,none⟩)) v6 v7 v8 v9 xa xb xc xd xe xf xg xh xi xj xk xl xm xn xo (.pointer (some ⟨P.B,0,none⟩)) (.pointer (some ⟨P.B,0,none⟩)) (.pointer (some ⟨P.B,2,none⟩)) (.map (some P.mb)) xu xv) hQ (fun w hS => by have e := hS.p.c2; unfold fr66 ops66_3_3; go_simp) hS ?_
 refine take_r 4 ⟨some 29,.load 100 (.tmp 4),100,ps,#[],none⟩ (spV c) hQ (fun w hS => exec_load_mid (x := (Operand.tmp 4)) 100 Bs 0 [.int .i64 c.1,.int .i64 c.2] _ (by kernel_rfl) (by kernel_rfl) (range_row hS.s) Tryz.underlying100 rfl (info100l c)) hS ?_
 refine take_k 5 (ops66_3_5 ps) (wyV x) (fr66 (.pointer (some ⟨P.B,0,none⟩)) v1 v2 v3 (.pointer (some ⟨Bs,0,none⟩)) (.pointer (some ⟨Bw,0,none⟩)) v6 v7 v8 v9 xa xb xc xd xe xf xg xh xi xj xk xl xm xn xo (.pointer (some ⟨P.B,0,none⟩)) (.pointer (some ⟨P.B,0,none⟩)) (.pointer (some ⟨P.B,2,none⟩)) (.map (some P.mb)) (spV c) (wyV x)) hQ (fun w hS => exec_load_mid (x := (Operand.tmp 5)) 58 Bw 0 (wyL x) _ (by kernel_rfl) (by kernel_rfl) (range_row hS.w) Tryz.underlying58 rfl (info58l x)) hS ?_
 refine want_k 6 (ops66_3_6 ps) fun K hK => ?_
 obtain ⟨w2,hrun,hm2,ht2⟩ := hm.put hM c hb x
 have hS2 : KeT P Bs Bw c x w2 := ⟨hS.p.map ht2,(ht2.block _ (Array.getElem?_eq_some_iff.1 hS.s).1 h1).trans hS.s,(ht2.block _ (Array.getElem?_eq_some_iff.1 hS.w).1 h2).trans hS.w⟩
 generalize World.drew w = wd at *
 unfold fr66 ops66_3_6
 go_simp
 refine hK _ _ hS2 (cast_h (fr66 (.pointer (some ⟨P.B,0,none⟩)) v1 v2 v3 (.pointer (some ⟨Bs,0,none⟩)) (.pointer (some ⟨Bw,0,none⟩)) v6 v7 v8 v9 xa xb xc xd xe xf xg xh xi xj xk xl xm xn xo (.pointer (some ⟨P.B,0,none⟩)) (.pointer (some ⟨P.B,0,none⟩)) (.pointer (some ⟨P.B,2,none⟩)) (.map (some P.mb)) (spV c) (wyV x)) (by kernel_rfl) ?_)
 clear hK K
 exact wpAnyH_done (by kernel_rfl) (hq _ (hdr.trans ht2) hm2) _
def keF (f : Nat × Nat → Option Wy) (c : Nat × Nat) (x : Wy) : Nat × Nat → Option Wy := match f c with | none => updW f c x | some y => if cmpW x y < 0 then updW f c x else f
theorem MapW.mono {w : World} {mb M M' : Nat} {f : Nat × Nat → Option Wy} (h : MapW w mb f M) (hM : M ≤ M') : MapW w mb f M' := by
 obtain ⟨D,h1,h2⟩ := h; exact ⟨D,h1.mono hM,h2⟩
theorem lkeep_any (P : Pl) (f : Nat × Nat → Option Wy) (M : Nat) (c : Nat × Nat) (x : Wy) (hb : SpB c) (hM : M < maxLen) (w : World) (hP : PlM P f M w) : Calls Tryz.prog 66 #[.pointer (some ⟨P.B,0,none⟩),.agg #[.int .i64 c.1,.int .i64 c.2],.agg #[.int .i64 x.d,.int .i64 x.n,.int .i64 x.f]] w fun e w' => e = .returned (.tuple #[]) ∧ PlM P (keF f c x) (M + 1) w' ∧ Turns (fun k => k = P.mb) w w' := by
 have hb0 := below2 w (.cells #[.int .i64 c.1,.int .i64 c.2] 100) (.cells #[.int .i64 x.d,.int .i64 x.n,.int .i64 x.f] 58)
 have hs0 : ((w.alloc (.cells #[.int .i64 c.1,.int .i64 c.2] 100)).alloc (.cells #[.int .i64 x.d,.int .i64 x.n,.int .i64 x.f] 58)).heap[w.heap.size]? = some (.cells #[.int .i64 c.1,.int .i64 c.2] 100 (0,0)) := (Below.heap_alloc _ _ _ (by simp)).trans (World.alloc_heap_new w _)
 have hw0 := alloc2_heap w (.cells #[.int .i64 c.1,.int .i64 c.2] 100) (.cells #[.int .i64 x.d,.int .i64 x.n,.int .i64 x.f] 58)
 have hK : Hid (∀ W,Below ((w.alloc (.cells #[.int .i64 c.1,.int .i64 c.2] 100)).alloc (.cells #[.int .i64 x.d,.int .i64 x.n,.int .i64 x.f] 58)).heap.size ((w.alloc (.cells #[.int .i64 c.1,.int .i64 c.2] 100)).alloc (.cells #[.int .i64 x.d,.int .i64 x.n,.int .i64 x.f] 58)) W → KeS P f M w.heap.size c W ∧ KeT P w.heap.size (w.heap.size + 1) c x W ∧ Below w.heap.size w W) := fun W hW => by
  have h1 := hb0.trans (hW.mono hb0.size)
  have h2 := hP.below h1
  have h3 := (hW.block _ (by simp; omega)).trans hs0
  exact ⟨⟨h2,h3⟩,⟨h2.p,h3,(hW.block _ (by simp)).trans hw0⟩,h1⟩
 have hmb : P.mb < w.heap.size := hP.m.lt
 have hend : Hid (∀ W g,MapW W P.mb g (M + 1) → Turns (fun k => k = P.mb) w W → g = keF f c x → PlM P (keF f c x) (M + 1) W ∧ Turns (fun k => k = P.mb) w W) := fun W g h1 h2 h3 => ⟨⟨hP.p.map h2,by rw [← h3]; exact h1⟩,h2⟩
 clear hb0 hs0 hw0 hP
 go_enter Tryz.func66,Tryz.ntmps66
 go_wp2_with fail
 generalize (w.alloc (.cells #[.int .i64 c.1,.int .i64 c.2] 100)).alloc (.cells #[.int .i64 x.d,.int .i64 x.n,.int .i64 x.f] 58) = wz at *
 obtain ⟨k1,k2,k3⟩ := hK.out wz (Below.refl _ _)
 refine ke_r1 _ (fun _ _ _ _ _ h => h) _ _ P f M w.heap.size c wz ⟨k1.p.drew,k1.s⟩ hb ?_
 intro w2 hb2 hT2 hS2
 obtain ⟨q1,q2,q3⟩ := hK.out w2 hb2
 have hq1 : Hid (KeS P f M w.heap.size c w2) := q1
 have hq2 : Hid (KeT P w.heap.size (w.heap.size + 1) c x w2) := q2
 have hq3 : Hid (Below w.heap.size w w2) := q3
 have hw2 := q2.w
 clear k1 k2 k3 hb2 hS2 q1 q2 q3 hK
 generalize wz.heap.size = T at *
 have hlast : Hid (∀ W,Below w2.heap.size w2 W → KeT P w.heap.size (w.heap.size + 1) c x (World.drew W) ∧ MapW (World.drew W) P.mb f M ∧ Turns (fun k => k = P.mb) w W) := fun W hW => ⟨⟨(hq1.out.below hW).p.p.drew,(hq1.out.below hW).s,(hW.block _ (Array.getElem?_eq_some_iff.1 hw2).1).trans hw2⟩,(hq1.out.below hW).p.m.same rfl,(Turns.of_below (hq3.out.trans (hW.mono hq3.out.size))).mono (fun _ h => h.elim)⟩
 cases hf : f c with
 | none =>
  have e : keF f c x = updW f c x := by unfold keF; rw [hf]
  rw [hf] at hT2
  clear hf
  unfold fr66
  go_wp2_with fail
  obtain ⟨j1,j2,j3⟩ := hlast.out w2 (Below.refl _ _)
  refine ke_r3 _ (fun _ _ _ _ _ h => h) _ _ P f M w.heap.size (w.heap.size + 1) c x w2 j1 j2 hM hb (by omega) (by omega) (Turns.drew _ w2) ?_
  intro w3 ht3 hm3
  have hfin := hend.out w3 _ hm3 (j3.trans ht3) e.symm
  clear j1 j2 j3 ht3 hm3
  unfold fr66
  go_wp2_with fail
  exact bodyPost_end (v := .tuple #[]) (by kernel_rfl) rfl ⟨rfl,hfin⟩
 | some y =>
  rw [hf] at hT2
  have hT3 : w2.heap[T]? = some (.cells (wyL y).toArray 58 (0,0)) := hT2
  have hcm := compare_any x y w2
  have hcmh : Hid (Calls Tryz.prog 36 #[.agg (wyL x).toArray,.agg (wyL y).toArray] w2 fun e w' => e = .returned (.int .i64 (cmpW x y)) ∧ Below w2.heap.size w2 w') := hcm
  have hke : keF f c x = if cmpW x y < 0 then updW f c x else f := by unfold keF; rw [hf]
  clear hcm hT2 hf
  by_cases hlt : cmpW x y < 0
  ·rw [if_pos hlt] at hke
   have hkeh : Hid (keF f c x = updW f c x) := hke
   clear hke
   unfold fr66
   go_wp2_with (first | (refine wpList_load_want 58 _ rfl rfl (w.heap.size + 1) rfl 58 _ (0,0) _ hw2 Tryz.underlying58 rfl (info58 _) ?_) | (refine wpList_load_want 58 _ rfl rfl T rfl 58 _ (0,0) _ hT3 Tryz.underlying58 rfl (info58 _) ?_) | (go_at_call 36; refine hcmh.out.mono ?_; rintro e w4 ⟨rfl,hb4⟩; have hb4h : Hid (Below w2.heap.size w2 w4) := hb4; clear hb4))
   obtain ⟨j1,j2,j3⟩ := hlast.out w4 hb4h.out
   refine ke_r3 _ (fun _ _ _ _ _ h => h) _ _ P f M w.heap.size (w.heap.size + 1) c x w4 j1 j2 hM hb (by omega) (by omega) (Turns.drew _ w4) ?_
   intro w3 ht3 hm3
   have hfin := hend.out w3 _ hm3 (j3.trans ht3) hkeh.out.symm
   clear j1 j2 j3 ht3 hm3
   unfold fr66
   go_wp2_with fail
   exact bodyPost_end (v := .tuple #[]) (by kernel_rfl) rfl ⟨rfl,hfin⟩
  ·rw [if_neg hlt] at hke
   have hkeh : Hid (keF f c x = f) := hke
   clear hke
   unfold fr66
   go_wp2_with (first | (refine wpList_load_want 58 _ rfl rfl (w.heap.size + 1) rfl 58 _ (0,0) _ hw2 Tryz.underlying58 rfl (info58 _) ?_) | (refine wpList_load_want 58 _ rfl rfl T rfl 58 _ (0,0) _ hT3 Tryz.underlying58 rfl (info58 _) ?_) | (go_at_call 36; refine hcmh.out.mono ?_; rintro e w4 ⟨rfl,hb4⟩; have hb4h : Hid (Below w2.heap.size w2 w4) := hb4; clear hb4))
   obtain ⟨j1,j2,j3⟩ := hlast.out w4 hb4h.out
   have hfin := hend.out w4 f ((j2.same rfl).mono (by omega)) j3 hkeh.out.symm
   clear j1 j2 j3
   exact bodyPost_end (v := .tuple #[]) (by kernel_rfl) rfl ⟨rfl,hfin⟩
end Go.Proofs.YtfndocmgonlhpaaGreatDoor
