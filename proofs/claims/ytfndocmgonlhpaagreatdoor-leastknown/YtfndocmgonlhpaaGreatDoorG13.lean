/-
  What is proved here: what line and demerits of least answer.
  What is proved here: what refuse of least answers; what beginning of a ruler is.
  What is proved here: what beginning of least answers.
-/
import Derived.Test.YtfndocmgonlhpaaGreatDoorG1
import Derived.Test.YtfndocmgonlhpaaGreatDoorG6
import Derived.Test.YtfndocmgonlhpaaGreatDoorG3
import Derived.Test.YtfndocmgonlhpaaGreatDoorG11
import Derived.Test.YtfndocmgonlhpaaGreatDoorG12
namespace Go.Proofs.YtfndocmgonlhpaaGreatDoor
open Go.RowKit Go.Shelf
set_option maxRecDepth 100000
set_option maxHeartbeats 4000000


theorem sline_any (ga oa gb ob : Nat) (p q : St) (hp : SuOk p.b) (hq : SuOk q.e) (w : World) (hA : StAt ga oa p w) (hB : StAt gb ob q w) :
  Calls Tryz.prog 69 #[.pointer (some ⟨ga,oa,none⟩),.pointer (some ⟨gb,ob,none⟩)] w fun e w' => e = .returned (.agg (suL (lnS p q)).toArray) ∧ Below w.heap.size w w' := by
 have hb1 := (Below.refl w.heap.size w).alloc (Nat.le_refl _) (.cells #[.int .i64 0,.int .i64 0,.int .i64 0] 89)
 have hX : Hid (LnX ga oa p gb ob q w.heap.size (World.drew (w.alloc (.cells #[.int .i64 0,.int .i64 0,.int .i64 0] 89)))) := ⟨hA.below (hb1.drew) hA.lt,hB.below (hb1.drew) hB.lt,⟨0,0,0⟩,World.alloc_heap_new w _⟩
 have ha : ga ≠ w.heap.size := Nat.ne_of_lt hA.lt
 have hb : gb ≠ w.heap.size := Nat.ne_of_lt hB.lt
 have hbh : Hid (Below w.heap.size w (w.alloc (.cells #[.int .i64 0,.int .i64 0,.int .i64 0] 89))) := hb1
 clear hA hB hb1
 go_enter Tryz.func69,Tryz.ntmps69
 go_wp2_with fail
 refine line_r1 _ (fun _ _ _ _ _ h => h) _ _ ga oa p gb ob q w.heap.size _ hX.out ha hb hq.w.1 hq.w.2 hp.w.1 hp.w.2 hq.s.1 hq.s.2 hp.s.1 hp.s.2 hq.h.1 hq.h.2 hp.h.1 hp.h.2 ?_
 unfold fr69
 go_wp2_with fail
 have ht := (Turns.setRow (X := fun k => k = w.heap.size) (World.drew (w.alloc (.cells #[.int .i64 0,.int .i64 0,.int .i64 0] 89))) rfl (suL (lnS p q)).toArray).below (n := w.heap.size) (by simp) (fun k hk => by omega)
 obtain ⟨z,hz⟩ := hX.out.t
 exact bodyPost_ret (results_cell_row rfl _ _ w.heap.size 89 _ (0,0) _ rfl (setRow_heap _ _ _ _ _ _ hz) Tryz.underlying89 rfl (info89 _)) rfl ⟨rfl,(hbh.out.drew).trans ht⟩

def dmB (p q : St) (d : Int) : Bool := decide (p.n < q.a) && raB (lnS p q) d q.l
def dmC (r c : Int) : Int := 10 + (r * r).tdiv 1000 + c
def dmV (p q : St) (d : Int) : Int := if dmB p q d = true then dmC (raR (lnS p q) d q.l) q.c * dmC (raR (lnS p q) d q.l) q.c + (if (p.y && q.y) = true then 10000 else 0) else 0
theorem dmC_rng {r c : Int} (hr : 0 ≤ r ∧ r ≤ 3000) (hc : 0 ≤ c ∧ c ≤ 4095) : (0 ≤ r * r ∧ r * r ≤ 9000000) ∧ (10 ≤ dmC r c ∧ dmC r c ≤ 13105) ∧ 100 ≤ dmC r c * dmC r c ∧ dmC r c * dmC r c ≤ 171741025 := by
 have h1 : 0 ≤ r * r := Int.mul_nonneg hr.1 hr.1
 have h2 : r * r ≤ 3000 * 3000 := Int.mul_le_mul hr.2 hr.2 hr.1 (by omega)
 have h3 : (r * r).tdiv 1000 = r * r / 1000 := Int.tdiv_eq_ediv_of_nonneg h1
 have h4 : 10 ≤ dmC r c ∧ dmC r c ≤ 13105 := by unfold dmC; rw [h3]; omega
 have h5 : 10 * 10 ≤ dmC r c * dmC r c := Int.mul_le_mul h4.1 h4.1 (by omega) (by omega)
 have h6 : dmC r c * dmC r c ≤ 13105 * 13105 := Int.mul_le_mul h4.2 h4.2 (by omega) (by omega)
 exact ⟨⟨h1,by omega⟩,h4,by omega,by omega⟩
structure StOk (x : St) : Prop where
 a : x.a ≤ 8192
 n : x.n ≤ 8192
 e : SuOk x.e
 b : SuOk x.b
 c : 0 ≤ x.c ∧ x.c ≤ 4095
 t : -17592186044416 ≤ x.t ∧ x.t ≤ 17592186044416
theorem dmV_rng {p q : St} {d : Int} (hq : StOk q) (hl : p.n < q.a → SuOk (lnS p q)) (h : dmB p q d = true) : 100 ≤ dmV p q d ∧ dmV p q d ≤ 171751025 := by
 unfold dmV
 rw [if_pos h]
 unfold dmB at h
 rw [Bool.and_eq_true] at h
 have h1 := ra_rng (hl (of_decide_eq_true h.1)) h.2
 have h2 := dmC_rng h1 hq.c
 split <;> omega
structure LnY (ga oa : Nat) (p : St) (gb ob : Nat) (q : St) (W : World) : Prop where
 p : StAt ga oa p W
 q : StAt gb ob q W
theorem LnY.below {n ga oa : Nat} {p : St} {gb ob : Nat} {q : St} {W W' : World} (h : LnY ga oa p gb ob q W) (hb : Below n W W') (hn : W.heap.size ≤ n) : LnY ga oa p gb ob q W' := ⟨h.p.below hb (Nat.lt_of_lt_of_le h.p.lt hn),h.q.below hb (Nat.lt_of_lt_of_le h.q.lt hn)⟩
def fr53 (v0 v1 v2 v3 v4 v5 v6 v7 v8 v9 xa xb xc xd xe xf xg xh xi xj xk xl xm xn xo xp xq xr xt xu xv xw xx xy xz xA xB xC xD xE xF xG xH xI xJ xK xL xM xN xO xP xQ xR xS xT xU xV xW xX xY : Value) : Act := { tmps := #[v0,v1,v2,v3,v4,v5,v6,v7,v8,v9,xa,xb,xc,xd,xe,xf,xg,xh,xi,xj,xk,xl,xm,xn,xo,xp,xq,xr,xt,xu,xv,xw,xx,xy,xz,xA,xB,xC,xD,xE,xF,xG,xH,xI,xJ,xK,xL,xM,xN,xO,xP,xQ,xR,xS,xT,xU,xV,xW,xX,xY],defers := [] }
def ops53_3_0 (ps : String) : Oper := ⟨some 21,.move (.tmp 0),96,ps,#[],none⟩
def ops53_3_1 (ps : String) : Oper := ⟨some 22,.move (.tmp 1),96,ps,#[],none⟩
def ops53_3_2 (ps : String) : Oper := ⟨some 23,.call ⟨.value (.func 69),#[.tmp 21,.tmp 22],#[96,96]⟩,89,ps,#[⟨0,.data⟩,⟨1,.data⟩],none⟩
def ops53_3_3 (ps : String) : Oper := ⟨some 24,.move (.tmp 2),3,ps,#[],none⟩
def ops53_3_4 (ps : String) : Oper := ⟨some 25,.move (.tmp 1),96,ps,#[],none⟩
def ops53_3_5 (ps : String) : Oper := ⟨some 26,.nilCheck (.tmp 25),0,ps,#[⟨4,.data⟩],none⟩
def ops53_3_6 (ps : String) : Oper := ⟨some 27,.fieldAddr 91 (.tmp 26) 6,0,ps,#[⟨5,.data⟩],none⟩
def ops53_3_7 (ps : String) : Oper := ⟨some 28,.load 4 (.tmp 27),4,ps,#[⟨6,.data⟩],none⟩
def ops53_3_8 (ps : String) : Oper := ⟨some 29,.call ⟨.value (.func 92),#[.tmp 23,.tmp 24,.tmp 28],#[89,3,4]⟩,131,ps,#[⟨2,.data⟩,⟨3,.data⟩,⟨7,.data⟩,⟨2,.chain⟩],none⟩
def ops53_3_9 (ps : String) : Oper := ⟨some 20,.move (.tmp 29),131,ps,#[⟨8,.data⟩],none⟩
def ops53_3_10 (ps : String) : Oper := ⟨some 30,.extract (.tmp 20) 0,3,ps,#[⟨9,.data⟩],none⟩
def ops53_3_11 (ps : String) : Oper := ⟨some 31,.extract (.tmp 20) 1,4,ps,#[⟨9,.data⟩,⟨12,.gcOnly .lateStores⟩],none⟩
def ops53_3_12 (ps : String) : Oper := ⟨some 8,.assign (.tmp 30),3,ps,#[⟨10,.data⟩,⟨8,.chain⟩,⟨0,.phase⟩,⟨1,.phase⟩,⟨2,.phase⟩,⟨3,.phase⟩,⟨4,.phase⟩,⟨5,.phase⟩,⟨6,.phase⟩,⟨7,.phase⟩,⟨8,.phase⟩,⟨9,.phase⟩,⟨10,.phase⟩,⟨11,.textOnly .lateStores⟩],none⟩
def ops53_3_13 (ps : String) : Oper := ⟨some 9,.assign (.tmp 31),4,ps,#[⟨11,.data⟩,⟨12,.chain⟩,⟨0,.phase⟩,⟨1,.phase⟩,⟨2,.phase⟩,⟨3,.phase⟩,⟨4,.phase⟩,⟨5,.phase⟩,⟨6,.phase⟩,⟨7,.phase⟩,⟨8,.phase⟩,⟨9,.phase⟩,⟨10,.phase⟩,⟨11,.phase⟩,⟨12,.phase⟩],none⟩
def ops53_3 (ps : String) : Array Oper := #[ops53_3_0 ps,ops53_3_1 ps,ops53_3_2 ps,ops53_3_3 ps,ops53_3_4 ps,ops53_3_5 ps,ops53_3_6 ps,ops53_3_7 ps,ops53_3_8 ps,ops53_3_9 ps,ops53_3_10 ps,ops53_3_11 ps,ops53_3_12 ps,ops53_3_13 ps]

theorem dem_r3 (Q : Exit → Act → World → Prop) (hQ : ∀ c x (n : Nat) v w,Q (.panic c) (x.put (some n) v) w → Q (.panic c) x w) (id : Nat) (ps : String) {v3 v4 v5 v6 v7 v8 v9 xa xb xc xd xe xf xg xh xi xj xk xl xm xn xo xp xq xr xt xu xv xw xx xy xz xA xB xC xD xE xF xG xH xI xJ xK xL xM xN xO xP xQ xR xS xT xU xV xW xX xY : Value} (ga oa : Nat) (p : St) (gb ob : Nat) (q : St) (d : Int) (w : World) (hS : LnY ga oa p gb ob q (World.drew w))
  (hc1 : Hid (∀ W,LnY ga oa p gb ob q W → Calls Tryz.prog 69 #[.pointer (some ⟨ga,oa,none⟩),.pointer (some ⟨gb,ob,none⟩)] W fun e w' => e = .returned (.agg (suL (lnS p q)).toArray) ∧ Below W.heap.size W w')) (hc2 : Hid (∀ W,Calls Tryz.prog 92 #[.agg (suL (lnS p q)).toArray,.int .i64 d,.bool q.l] W fun e w' => e = .returned (.tuple #[.int .i64 (raR (lnS p q) d q.l),.bool (raB (lnS p q) d q.l)]) ∧ Below W.heap.size W w'))
  (hq : ∀ w',Below w.heap.size w w' → LnY ga oa p gb ob q w' → Q .normal (fr53 (.pointer (some ⟨ga,oa,none⟩)) (.pointer (some ⟨gb,ob,none⟩)) (.int .i64 d) v3 v4 v5 v6 v7 (.int .i64 (raR (lnS p q) d q.l)) (.bool (raB (lnS p q) d q.l)) xa xb xc xd xe xf xg xh xi xj (.tuple #[.int .i64 (raR (lnS p q) d q.l),.bool (raB (lnS p q) d q.l)]) (.pointer (some ⟨ga,oa,none⟩)) (.pointer (some ⟨gb,ob,none⟩)) (.agg (suL (lnS p q)).toArray) (.int .i64 d) (.pointer (some ⟨gb,ob,none⟩)) (.pointer (some ⟨gb,ob,none⟩)) (.pointer (some ⟨gb,ob + 10,none⟩)) (.bool q.l) (.tuple #[.int .i64 (raR (lnS p q) d q.l),.bool (raB (lnS p q) d q.l)]) (.int .i64 (raR (lnS p q) d q.l)) (.bool (raB (lnS p q) d q.l)) xx xy xz xA xB xC xD xE xF xG xH xI xJ xK xL xM xN xO xP xQ xR xS xT xU xV xW xX xY) w') :
  (Code.region id (ops53_3 ps) true).wp Tryz.prog Q (fr53 (.pointer (some ⟨ga,oa,none⟩)) (.pointer (some ⟨gb,ob,none⟩)) (.int .i64 d) v3 v4 v5 v6 v7 v8 v9 xa xb xc xd xe xf xg xh xi xj xk xl xm xn xo xp xq xr xt xu xv xw xx xy xz xA xB xC xD xE xF xG xH xI xJ xK xL xM xN xO xP xQ xR xS xT xU xV xW xX xY) w := by
 refine wp_region_held (S := LnY ga oa p gb ob q) (by kernel_rfl) ?_
 change wpAnyH _ _ _ _ _ 14 _ _ (World.drew w)
 refine take_r 0 ⟨some 21,.move (.tmp 0),96,ps,#[],none⟩ (.pointer (some ⟨ga,oa,none⟩)) hQ (fun w _ => by kernel_rfl) hS ?_
 refine take_k 1 (ops53_3_1 ps) (.pointer (some ⟨gb,ob,none⟩)) (fr53 (.pointer (some ⟨ga,oa,none⟩)) (.pointer (some ⟨gb,ob,none⟩)) (.int .i64 d) v3 v4 v5 v6 v7 v8 v9 xa xb xc xd xe xf xg xh xi xj xk (.pointer (some ⟨ga,oa,none⟩)) (.pointer (some ⟨gb,ob,none⟩)) xn xo xp xq xr xt xu xv xw xx xy xz xA xB xC xD xE xF xG xH xI xJ xK xL xM xN xO xP xQ xR xS xT xU xV xW xX xY) hQ (fun w _ => by kernel_rfl) hS ?_
 refine take_r 3 ⟨some 24,.move (.tmp 2),3,ps,#[],none⟩ (.int .i64 d) hQ (fun w _ => by kernel_rfl) hS ?_
 refine take_k 4 (ops53_3_4 ps) (.pointer (some ⟨gb,ob,none⟩)) (fr53 (.pointer (some ⟨ga,oa,none⟩)) (.pointer (some ⟨gb,ob,none⟩)) (.int .i64 d) v3 v4 v5 v6 v7 v8 v9 xa xb xc xd xe xf xg xh xi xj xk (.pointer (some ⟨ga,oa,none⟩)) (.pointer (some ⟨gb,ob,none⟩)) xn (.int .i64 d) (.pointer (some ⟨gb,ob,none⟩)) xq xr xt xu xv xw xx xy xz xA xB xC xD xE xF xG xH xI xJ xK xL xM xN xO xP xQ xR xS xT xU xV xW xX xY) hQ (fun w _ => by kernel_rfl) hS ?_
 refine take_r 5 ⟨some 26,.nilCheck (.tmp 25),0,ps,#[⟨4,.data⟩],none⟩ (.pointer (some ⟨gb,ob,none⟩)) hQ (fun w hS => by unfold fr53; go_simp) hS ?_
 refine take_k 6 (ops53_3_6 ps) (.pointer (some ⟨gb,ob + 10,none⟩)) (fr53 (.pointer (some ⟨ga,oa,none⟩)) (.pointer (some ⟨gb,ob,none⟩)) (.int .i64 d) v3 v4 v5 v6 v7 v8 v9 xa xb xc xd xe xf xg xh xi xj xk (.pointer (some ⟨ga,oa,none⟩)) (.pointer (some ⟨gb,ob,none⟩)) xn (.int .i64 d) (.pointer (some ⟨gb,ob,none⟩)) (.pointer (some ⟨gb,ob,none⟩)) (.pointer (some ⟨gb,ob + 10,none⟩)) xt xu xv xw xx xy xz xA xB xC xD xE xF xG xH xI xJ xK xL xM xN xO xP xQ xR xS xT xU xV xW xX xY) hQ (fun w hS => by unfold fr53 ops53_3_6; go_simp) hS ?_
 refine take_r 7 ⟨some 28,.load 4 (.tmp 27),4,ps,#[⟨6,.data⟩],none⟩ (.bool q.l) hQ (fun w hS => by have e := hS.q.c10; unfold fr53; go_simp) hS ?_
 refine want_k 2 (ops53_3_2 ps) fun K hK => ?_
 unfold fr53 ops53_3_2
 go_simp
 refine (hc1.out _ hS).mono ?_
 rintro e w1 ⟨rfl,B1⟩
 have hS1 : LnY ga oa p gb ob q w1 := ⟨hS.p.below B1 hS.p.lt,hS.q.below B1 hS.q.lt⟩
 refine hK _ _ hS1 (cast_h (fr53 (.pointer (some ⟨ga,oa,none⟩)) (.pointer (some ⟨gb,ob,none⟩)) (.int .i64 d) v3 v4 v5 v6 v7 v8 v9 xa xb xc xd xe xf xg xh xi xj xk (.pointer (some ⟨ga,oa,none⟩)) (.pointer (some ⟨gb,ob,none⟩)) (.agg (suL (lnS p q)).toArray) (.int .i64 d) (.pointer (some ⟨gb,ob,none⟩)) (.pointer (some ⟨gb,ob,none⟩)) (.pointer (some ⟨gb,ob + 10,none⟩)) (.bool q.l) xu xv xw xx xy xz xA xB xC xD xE xF xG xH xI xJ xK xL xM xN xO xP xQ xR xS xT xU xV xW xX xY) (by kernel_rfl) ?_)
 clear hK K
 refine want_k 8 (ops53_3_8 ps) fun K hK => ?_
 unfold fr53 ops53_3_8
 go_simp
 refine (hc2.out _).mono ?_
 rintro e w2 ⟨rfl,B2⟩
 have hS2 : LnY ga oa p gb ob q w2 := ⟨hS1.p.below B2 hS1.p.lt,hS1.q.below B2 hS1.q.lt⟩
 refine hK _ _ hS2 (cast_h (fr53 (.pointer (some ⟨ga,oa,none⟩)) (.pointer (some ⟨gb,ob,none⟩)) (.int .i64 d) v3 v4 v5 v6 v7 v8 v9 xa xb xc xd xe xf xg xh xi xj xk (.pointer (some ⟨ga,oa,none⟩)) (.pointer (some ⟨gb,ob,none⟩)) (.agg (suL (lnS p q)).toArray) (.int .i64 d) (.pointer (some ⟨gb,ob,none⟩)) (.pointer (some ⟨gb,ob,none⟩)) (.pointer (some ⟨gb,ob + 10,none⟩)) (.bool q.l) (.tuple #[.int .i64 (raR (lnS p q) d q.l),.bool (raB (lnS p q) d q.l)]) xv xw xx xy xz xA xB xC xD xE xF xG xH xI xJ xK xL xM xN xO xP xQ xR xS xT xU xV xW xX xY) (by kernel_rfl) ?_)
 clear hK K
 refine take_r 9 ⟨some 20,.move (.tmp 29),131,ps,#[⟨8,.data⟩],none⟩ (.tuple #[.int .i64 (raR (lnS p q) d q.l),.bool (raB (lnS p q) d q.l)]) hQ (fun w _ => by kernel_rfl) hS2 ?_
 refine take_k 10 (ops53_3_10 ps) (.int .i64 (raR (lnS p q) d q.l)) (fr53 (.pointer (some ⟨ga,oa,none⟩)) (.pointer (some ⟨gb,ob,none⟩)) (.int .i64 d) v3 v4 v5 v6 v7 v8 v9 xa xb xc xd xe xf xg xh xi xj (.tuple #[.int .i64 (raR (lnS p q) d q.l),.bool (raB (lnS p q) d q.l)]) (.pointer (some ⟨ga,oa,none⟩)) (.pointer (some ⟨gb,ob,none⟩)) (.agg (suL (lnS p q)).toArray) (.int .i64 d) (.pointer (some ⟨gb,ob,none⟩)) (.pointer (some ⟨gb,ob,none⟩)) (.pointer (some ⟨gb,ob + 10,none⟩)) (.bool q.l) (.tuple #[.int .i64 (raR (lnS p q) d q.l),.bool (raB (lnS p q) d q.l)]) (.int .i64 (raR (lnS p q) d q.l)) xw xx xy xz xA xB xC xD xE xF xG xH xI xJ xK xL xM xN xO xP xQ xR xS xT xU xV xW xX xY) hQ (fun w _ => by kernel_rfl) hS2 ?_
 refine take_r 11 ⟨some 31,.extract (.tmp 20) 1,4,ps,#[⟨9,.data⟩,⟨12,.gcOnly .lateStores⟩],none⟩ (.bool (raB (lnS p q) d q.l)) hQ (fun w _ => by kernel_rfl) hS2 ?_
 refine take_k 12 (ops53_3_12 ps) (.int .i64 (raR (lnS p q) d q.l)) (fr53 (.pointer (some ⟨ga,oa,none⟩)) (.pointer (some ⟨gb,ob,none⟩)) (.int .i64 d) v3 v4 v5 v6 v7 (.int .i64 (raR (lnS p q) d q.l)) v9 xa xb xc xd xe xf xg xh xi xj (.tuple #[.int .i64 (raR (lnS p q) d q.l),.bool (raB (lnS p q) d q.l)]) (.pointer (some ⟨ga,oa,none⟩)) (.pointer (some ⟨gb,ob,none⟩)) (.agg (suL (lnS p q)).toArray) (.int .i64 d) (.pointer (some ⟨gb,ob,none⟩)) (.pointer (some ⟨gb,ob,none⟩)) (.pointer (some ⟨gb,ob + 10,none⟩)) (.bool q.l) (.tuple #[.int .i64 (raR (lnS p q) d q.l),.bool (raB (lnS p q) d q.l)]) (.int .i64 (raR (lnS p q) d q.l)) (.bool (raB (lnS p q) d q.l)) xx xy xz xA xB xC xD xE xF xG xH xI xJ xK xL xM xN xO xP xQ xR xS xT xU xV xW xX xY) hQ (fun w _ => by kernel_rfl) hS2 ?_
 refine take_r 13 ⟨some 9,.assign (.tmp 31),4,ps,#[⟨11,.data⟩,⟨12,.chain⟩,⟨0,.phase⟩,⟨1,.phase⟩,⟨2,.phase⟩,⟨3,.phase⟩,⟨4,.phase⟩,⟨5,.phase⟩,⟨6,.phase⟩,⟨7,.phase⟩,⟨8,.phase⟩,⟨9,.phase⟩,⟨10,.phase⟩,⟨11,.phase⟩,⟨12,.phase⟩],none⟩ (.bool (raB (lnS p q) d q.l)) hQ (fun w _ => by kernel_rfl) hS2 ?_
 exact wpAnyH_done (by kernel_rfl) (hq _ (((below_drew w).trans B1).trans (B2.mono B1.size)) hS2) _

theorem demerits_any (ga oa gb ob : Nat) (p q : St) (d : Int) (hp : StOk p) (hq : StOk q) (hl : p.n < q.a → SuOk (lnS p q)) (hd : 0 ≤ d ∧ d ≤ 4095) (w : World) (hA : StAt ga oa p w) (hB : StAt gb ob q w) :
  Calls Tryz.prog 53 #[.pointer (some ⟨ga,oa,none⟩),.pointer (some ⟨gb,ob,none⟩),.int .i64 d] w fun e w' => e = .returned (.tuple #[.int .i64 (dmV p q d),.bool (dmB p q d)]) ∧ Below w.heap.size w w' := by
 have cq0 := hB.c0
 have cp1 := hA.c1
 by_cases hlt : p.n < q.a
 ·have hlt' : ¬ ((q.a : Int) ≤ (p.n : Int)) := by omega
  have hsu := hl hlt
  have hc1 : Hid (∀ W,LnY ga oa p gb ob q W → Calls Tryz.prog 69 #[.pointer (some ⟨ga,oa,none⟩),.pointer (some ⟨gb,ob,none⟩)] W fun e w' => e = .returned (.agg (suL (lnS p q)).toArray) ∧ Below W.heap.size W w') := fun W h => sline_any ga oa gb ob p q hp.b hq.e W h.p h.q
  have hc2 : Hid (∀ W,Calls Tryz.prog 92 #[.agg (suL (lnS p q)).toArray,.int .i64 d,.bool q.l] W fun e w' => e = .returned (.tuple #[.int .i64 (raR (lnS p q) d q.l),.bool (raB (lnS p q) d q.l)]) ∧ Below W.heap.size W w') := fun W => ratio_any _ d q.l hsu hd W
  have hLY : Hid (∀ n W,w.heap.size ≤ n → Below n w W → LnY ga oa p gb ob q W) := fun n W hn h => LnY.below ⟨hA,hB⟩ h hn
  cases hra : raB (lnS p q) d q.l with
  | false =>
   have hdm : dmB p q d = false := by unfold dmB; rw [hra,Bool.and_false]
   have hv : dmV p q d = 0 := by unfold dmV; rw [if_neg (by rw [hdm]; decide)]
   rw [hdm,hv]
   clear hA hB hl hsu hdm hv
   go_enter Tryz.func53,Tryz.ntmps53
   go_wp2_with fail
   go_quiet (fail)
   go_wp2_with fail
   refine dem_r3 _ (fun _ _ _ _ _ h => h) _ _ ga oa p gb ob q d _ (hLY.out _ _ (Nat.le_refl _) ((below_drewN (Below.refl _ _) _).drew)) hc1 hc2 ?_
   intro w2 hb2 hY2
   have hb3 : Hid (Below w.heap.size w w2) := (below_drewN (Below.refl w.heap.size w) _).trans hb2
   rw [hra]
   clear hb2 hY2
   unfold fr53
   go_wp2_with fail
   go_ret2
   exact ⟨rfl,hb3.out⟩
  | true =>
   have hdm : dmB p q d = true := by unfold dmB; rw [hra,decide_eq_true hlt]; rfl
   have hr := ra_rng hsu hra
   obtain ⟨⟨r1,r2⟩,⟨r3,r4⟩,r5,r6⟩ := dmC_rng hr hq.c
   obtain ⟨q1,q2⟩ := hq.c
   have hv : dmV p q d = dmC (raR (lnS p q) d q.l) q.c * dmC (raR (lnS p q) d q.l) q.c + (if (p.y && q.y) = true then 10000 else 0) := by unfold dmV; rw [if_pos hdm]
   have hdd : (raR (lnS p q) d q.l * raR (lnS p q) d q.l).tdiv 1000 = raR (lnS p q) d q.l * raR (lnS p q) d q.l / 1000 := Int.tdiv_eq_ediv_of_nonneg r1
   have hD : Hid (10 + raR (lnS p q) d q.l * raR (lnS p q) d q.l / 1000 + q.c = dmC (raR (lnS p q) d q.l) q.c) := by show _ = _; unfold dmC; rw [hdd]
   rw [hdm,hv]
   clear hA hB hl hsu hdm hv hdd
   generalize dmC (raR (lnS p q) d q.l) q.c = D at *
   cases hpy : p.y with
   | false =>
    rw [Bool.false_and,if_neg (by decide),Int.add_zero]
    go_enter Tryz.func53,Tryz.ntmps53
    go_wp2_with fail
    go_quiet (fail)
    go_wp2_with fail
    refine dem_r3 _ (fun _ _ _ _ _ h => h) _ _ ga oa p gb ob q d _ (hLY.out _ _ (Nat.le_refl _) ((below_drewN (Below.refl _ _) _).drew)) hc1 hc2 ?_
    intro w2 hb2 hY2
    have hb3 : Hid (Below w.heap.size w w2) := (below_drewN (Below.refl w.heap.size w) _).trans hb2
    rw [hra]
    have e8 := hY2.q.c8
    have f9 := hY2.p.c9
    have e9 := hY2.q.c9
    rw [hpy] at f9
    clear e9
    clear hb2 hY2 hc1 hc2 hLY hra
    generalize raR (lnS p q) d q.l = r at *
    generalize q.c = qc at *
    have s1 : 100 ≤ (10 + r * r / 1000 + qc) * (10 + r * r / 1000 + qc) := by rw [hD.out]; exact r5
    have s2 : (10 + r * r / 1000 + qc) * (10 + r * r / 1000 + qc) ≤ 171741025 := by rw [hD.out]; exact r6
    unfold fr53
    go_wp2_with fail
    go_ret2
    exact ⟨by rw [← hD.out]; rfl,hb3.out⟩
   | true =>
    cases hqy : q.y with
    | false =>
     rw [Bool.true_and,if_neg (by decide),Int.add_zero]
     go_enter Tryz.func53,Tryz.ntmps53
     go_wp2_with fail
     go_quiet (fail)
     go_wp2_with fail
     refine dem_r3 _ (fun _ _ _ _ _ h => h) _ _ ga oa p gb ob q d _ (hLY.out _ _ (Nat.le_refl _) ((below_drewN (Below.refl _ _) _).drew)) hc1 hc2 ?_
     intro w2 hb2 hY2
     have hb3 : Hid (Below w.heap.size w w2) := (below_drewN (Below.refl w.heap.size w) _).trans hb2
     rw [hra]
     have e8 := hY2.q.c8
     have f9 := hY2.p.c9
     have e9 := hY2.q.c9
     rw [hpy] at f9
     rw [hqy] at e9
     clear hb2 hY2 hc1 hc2 hLY hra
     generalize raR (lnS p q) d q.l = r at *
     generalize q.c = qc at *
     have s1 : 100 ≤ (10 + r * r / 1000 + qc) * (10 + r * r / 1000 + qc) := by rw [hD.out]; exact r5
     have s2 : (10 + r * r / 1000 + qc) * (10 + r * r / 1000 + qc) ≤ 171741025 := by rw [hD.out]; exact r6
     unfold fr53
     go_wp2_with fail
     go_ret2
     exact ⟨by rw [← hD.out]; rfl,hb3.out⟩
    | true =>
     rw [Bool.true_and,if_pos rfl]
     go_enter Tryz.func53,Tryz.ntmps53
     go_wp2_with fail
     go_quiet (fail)
     go_wp2_with fail
     refine dem_r3 _ (fun _ _ _ _ _ h => h) _ _ ga oa p gb ob q d _ (hLY.out _ _ (Nat.le_refl _) ((below_drewN (Below.refl _ _) _).drew)) hc1 hc2 ?_
     intro w2 hb2 hY2
     have hb3 : Hid (Below w.heap.size w w2) := (below_drewN (Below.refl w.heap.size w) _).trans hb2
     rw [hra]
     have e8 := hY2.q.c8
     have f9 := hY2.p.c9
     have e9 := hY2.q.c9
     rw [hpy] at f9
     rw [hqy] at e9
     clear hb2 hY2 hc1 hc2 hLY hra
     generalize raR (lnS p q) d q.l = r at *
     generalize q.c = qc at *
     have s1 : 100 ≤ (10 + r * r / 1000 + qc) * (10 + r * r / 1000 + qc) := by rw [hD.out]; exact r5
     have s2 : (10 + r * r / 1000 + qc) * (10 + r * r / 1000 + qc) ≤ 171741025 := by rw [hD.out]; exact r6
     unfold fr53
     go_wp2_with fail
     go_ret2
     exact ⟨by rw [← hD.out]; rfl,hb3.out⟩
 ·have hlt' : (q.a : Int) ≤ (p.n : Int) := by omega
  have hdm : dmB p q d = false := by unfold dmB; rw [decide_eq_false hlt]; rfl
  have hv : dmV p q d = 0 := by unfold dmV; rw [if_neg (by rw [hdm]; decide)]
  rw [hdm,hv]
  clear hA hB hl hdm hv
  go_enter Tryz.func53,Tryz.ntmps53
  go_wp2_with fail
  go_quiet (fail)
  go_wp2_with fail
  go_ret2
  exact ⟨rfl,below_drewN (Below.refl _ _) _⟩
end Go.Proofs.YtfndocmgonlhpaaGreatDoor

namespace Go.Proofs.YtfndocmgonlhpaaGreatDoor
open Go.RowKit Go.Shelf
set_option maxRecDepth 100000
set_option maxHeartbeats 2000000

def rfE (l : List It) (ss : List Sl) (r : Sl) : Int := if ckL l ≠ 0 then ckL l else if ckS ss r ≠ 0 then ckS ss r else if lpB l = true then 9 else 0
theorem lrefuse_any (v vs : Value) (l : List It) (ss : List Sl) (r : Sl) (hl : ss.length ≤ 9223372036854775807) (w : World) (hS : ItsAt w v l) (hV : SlsAt w vs ss) :
  Calls Tryz.prog 10 #[v,vs,.agg (slL r).toArray] w fun e w' => e = .returned (.int .i64 (rfE l ss r)) ∧ Below w.heap.size w w' := by
 have hB := (Below.refl w.heap.size w).alloc (Nat.le_refl _) (.cells #[.int .i64 r.x,.int .i64 r.w] 29)
 have hS1 := hS.below hB (Nat.le_refl _)
 have hV1 := hV.below hB (Nat.le_refl _)
 have c0 : (w.alloc (.cells #[.int .i64 r.x,.int .i64 r.w] 29)).cell? ⟨w.heap.size,0,none⟩ = some (.int .i64 r.x) := by rw [Lib.cell_of_heap (World.alloc_heap_new w _)]; rfl
 have c1 : (w.alloc (.cells #[.int .i64 r.x,.int .i64 r.w] 29)).cell? ⟨w.heap.size,1,none⟩ = some (.int .i64 r.w) := by rw [Lib.cell_of_heap (World.alloc_heap_new w _)]; rfl
 have hcl : Hid (∀ W,Below (w.alloc (.cells #[.int .i64 r.x,.int .i64 r.w] 29)).heap.size (w.alloc (.cells #[.int .i64 r.x,.int .i64 r.w] 29)) W → W.cell? ⟨w.heap.size,0,none⟩ = some (.int .i64 r.x) ∧ W.cell? ⟨w.heap.size,1,none⟩ = some (.int .i64 r.w)) := fun W hW => ⟨(hW.cell (by show w.heap.size < _; simp)).trans c0,(hW.cell (by show w.heap.size < _; simp)).trans c1⟩
 have hC : Hid (Calls Tryz.prog 24 #[v] (w.alloc (.cells #[.int .i64 r.x,.int .i64 r.w] 29)) fun e w' => e = .returned (.int .i64 (ckL l)) ∧ Below (w.alloc (.cells #[.int .i64 r.x,.int .i64 r.w] 29)).heap.size (w.alloc (.cells #[.int .i64 r.x,.int .i64 r.w] 29)) w') := icheck_any v l _ hS1
 have hF : Hid (∀ W,Below (w.alloc (.cells #[.int .i64 r.x,.int .i64 r.w] 29)).heap.size (w.alloc (.cells #[.int .i64 r.x,.int .i64 r.w] 29)) W → Calls Tryz.prog 25 #[vs,.agg #[.int .i64 r.x,.int .i64 r.w]] W fun e w' => e = .returned (.int .i64 (ckS ss r)) ∧ Below W.heap.size W w') := fun W hW => fcheck_any vs ss r hl W (hV1.below hW (Nat.le_refl _))
 have hL : Hid (l.length ≤ 8192 → ∀ W,Below (w.alloc (.cells #[.int .i64 r.x,.int .i64 r.w] 29)).heap.size (w.alloc (.cells #[.int .i64 r.x,.int .i64 r.w] 29)) W → Calls Tryz.prog 26 #[v] W fun e w' => e = .returned (.bool (lpB l)) ∧ Below W.heap.size W w') := fun h8 W hW => leaps_any v l (by omega) W (hS1.below hW (Nat.le_refl _))
 have h8 : Hid (ckL l = 0 → l.length ≤ 8192) := ck_len
 obtain ⟨a,cap,rfl,-⟩ := hS.ex
 obtain ⟨a2,cap2,rfl,-⟩ := hV.ex
 have hBh : Hid (Below w.heap.size w (w.alloc (.cells #[.int .i64 r.x,.int .i64 r.w] 29))) := hB
 show Calls Tryz.prog 10 #[.slice a l.length cap,.slice a2 ss.length cap2,.agg #[.int .i64 r.x,.int .i64 r.w]] w _
 unfold rfE
 clear hS hV hS1 hV1 hB c0 c1
 generalize ckS ss r = c2 at *
 by_cases h1 : ckL l = 0
 ·have hL2 : Hid (∀ W,Below (w.alloc (.cells #[.int .i64 r.x,.int .i64 r.w] 29)).heap.size (w.alloc (.cells #[.int .i64 r.x,.int .i64 r.w] 29)) W → Calls Tryz.prog 26 #[.slice a l.length cap] W fun e w' => e = .returned (.bool (lpB l)) ∧ Below W.heap.size W w') := fun W hW => hL.out (h8.out h1) W hW
  rw [if_neg (by simpa using h1)]
  have q1 : (ckL l != 0) = false := by rw [h1]; rfl
  clear hL h8 h1
  generalize ckL l = c1 at *
  by_cases h2 : c2 = 0
  ·rw [if_neg (by simpa using h2)]
   have q2 : (c2 != 0) = false := by rw [h2]; rfl
   clear h2
   cases hlp : lpB l with
   | true =>
    rw [hlp] at hL2
    rw [if_pos rfl]
    clear hlp
    go_enter Tryz.func10,Tryz.ntmps10
    go_wp2_with fail
    generalize w.alloc (.cells #[.int .i64 r.x,.int .i64 r.w] 29) = wz at *
    go_wp2_with (first | (go_at_call 24; refine hC.out.mono ?_; rintro e w1 ⟨rfl,hb1⟩; obtain ⟨x1,x2⟩ := hcl.out w1 hb1) | (go_at_call 25; refine (hF.out w1 hb1).mono ?_; rintro e w2 ⟨rfl,hb2⟩; have hb12 := hb1.trans (hb2.mono hb1.size)) | (go_at_call 26; refine (hL2.out w2 hb12).mono ?_; rintro e w3 ⟨rfl,hb3⟩))
    go_ret
    have hbz := hBh.out.trans (hb12.mono hBh.out.size)
    exact ⟨rfl,hbz.trans (hb3.mono hbz.size)⟩
   | false =>
    rw [hlp] at hL2
    rw [if_neg (by decide)]
    clear hlp
    go_enter Tryz.func10,Tryz.ntmps10
    go_wp2_with fail
    generalize w.alloc (.cells #[.int .i64 r.x,.int .i64 r.w] 29) = wz at *
    go_wp2_with (first | (go_at_call 24; refine hC.out.mono ?_; rintro e w1 ⟨rfl,hb1⟩; obtain ⟨x1,x2⟩ := hcl.out w1 hb1) | (go_at_call 25; refine (hF.out w1 hb1).mono ?_; rintro e w2 ⟨rfl,hb2⟩; have hb12 := hb1.trans (hb2.mono hb1.size)) | (go_at_call 26; refine (hL2.out w2 hb12).mono ?_; rintro e w3 ⟨rfl,hb3⟩))
    go_ret
    have hbz := hBh.out.trans (hb12.mono hBh.out.size)
    exact ⟨rfl,hbz.trans (hb3.mono hbz.size)⟩
  ·rw [if_pos h2]
   have q2 : (c2 != 0) = true := by simpa using h2
   clear h2
   go_enter Tryz.func10,Tryz.ntmps10
   go_wp2_with fail
   generalize w.alloc (.cells #[.int .i64 r.x,.int .i64 r.w] 29) = wz at *
   go_wp2_with (first | (go_at_call 24; refine hC.out.mono ?_; rintro e w1 ⟨rfl,hb1⟩; obtain ⟨x1,x2⟩ := hcl.out w1 hb1) | (go_at_call 25; refine (hF.out w1 hb1).mono ?_; rintro e w2 ⟨rfl,hb2⟩; have hb12 := hb1.trans (hb2.mono hb1.size)))
   go_ret
   exact ⟨rfl,hBh.out.trans (hb12.mono hBh.out.size)⟩
 ·rw [if_pos h1]
  have q1 : (ckL l != 0) = true := by simpa using h1
  clear hL h8 h1 hF
  generalize ckL l = c1 at *
  go_enter Tryz.func10,Tryz.ntmps10
  go_wp2_with fail
  generalize w.alloc (.cells #[.int .i64 r.x,.int .i64 r.w] 29) = wz at *
  go_wp2_with (go_at_call 24; refine hC.out.mono ?_; rintro e w1 ⟨rfl,hb1⟩)
  go_ret
  exact ⟨rfl,hBh.out.trans (hb1.mono hBh.out.size)⟩
structure RuAt (W : World) (v va vb : Value) (l : List It) : Prop where
 i : ItsAt W v l
 a : SusAt W va (alL l)
 b : SusAt W vb (baL l)
theorem RuAt.below {W W' : World} {v va vb : Value} {l : List It} (h : RuAt W v va vb l) {n : Nat} (hb : Below n W W') (hn : W.heap.size ≤ n) : RuAt W' v va vb l := ⟨h.i.below hb hn,h.a.below hb hn,h.b.below hb hn⟩
theorem sus_at {W : World} {v : Value} {f : Nat → Su} {n : Nat} (h : SusAt W v (upK n f n)) : ∃ g o cap,v = .slice (some ⟨g,o,none⟩) (n + 1) cap ∧ g < W.heap.size ∧ n + 1 ≤ cap ∧ ∀ i,i ≤ n → W.rangeAt g (o + i * 3) (suL (f i)) := by
 obtain ⟨a,cap,rfl,h2⟩ := h.ex
 have hle := h.le _ _ _ rfl
 rw [upK_len] at hle
 rcases h2 with h2 | ⟨b,o,rfl,hb,hc⟩
 ·have := upK_len n f n; rw [h2] at this; simp at this
 ·refine ⟨b,o,cap,by rw [upK_len],hb,hle,fun i hi j v hv => ?_⟩
  obtain ⟨h1,e⟩ := List.getElem?_eq_some_iff.1 (upK_at (n := n) (f := f) (k := n) hi hi)
  exact hc i h1 j v (by rw [e]; exact hv)
end Go.Proofs.YtfndocmgonlhpaaGreatDoor

namespace Go.Proofs.YtfndocmgonlhpaaGreatDoor
open Go.RowKit Go.Shelf
set_option maxRecDepth 100000
set_option maxHeartbeats 2000000

def st0 : St := ⟨0,0,su0,su0,0,false,false,0⟩
def bgS (l : List It) : St := ⟨0,sk l 0,su0,alF l (sk l 0),0,false,false,0⟩
theorem info91 (p : St) : (Tryz.prog.info? 91).map (·.size) = some (stL p).toArray.size := by show _ = some 12; kernel_rfl
theorem stL_all (p : St) : (stL p).toArray.all (·.oneCell') = true := all_oneCell_toArray (stL_one p)
theorem sk_len {l : List It} : sk l 0 ≤ l.length := (sk_le (l := l) (l.length + 1) 0 (Nat.zero_le _)).2
theorem beginning_any (v va vb : Value) (l : List It) (h : ckL l = 0) (w : World) (hR : RuAt w v va vb l) :
  Calls Tryz.prog 29 #[.agg (ruA v va vb)] w fun e w' => e = .returned (.agg (stL (bgS l)).toArray) ∧ Below w.heap.size w w' := by
 have h8 := ck_len h
 obtain ⟨a0,c0,rfl,-⟩ := hR.i.ex
 obtain ⟨g,o,cap,rfl,hg,-,hrg⟩ := sus_at hR.a
 obtain ⟨a2,c2,rfl,-⟩ := hR.b.ex
 have hsk := sk_len (l := l)
 have hb0 := below2 w (.cells #[.slice a0 l.length c0,.slice (some ⟨g,o,none⟩) (l.length + 1) cap,.slice a2 (baL l).length c2] 50) (.cells #[.int .i64 0,.int .i64 0,.int .i64 0,.int .i64 0,.int .i64 0,.int .i64 0,.int .i64 0,.int .i64 0,.int .i64 0,.bool false,.bool false,.int .i64 0] 91)
 have hr2 := alloc2_heap w (.cells #[.slice a0 l.length c0,.slice (some ⟨g,o,none⟩) (l.length + 1) cap,.slice a2 (baL l).length c2] 50) (.cells #[.int .i64 0,.int .i64 0,.int .i64 0,.int .i64 0,.int .i64 0,.int .i64 0,.int .i64 0,.int .i64 0,.int .i64 0,.bool false,.bool false,.int .i64 0] 91)
 have hr1 : ((w.alloc (.cells #[.slice a0 l.length c0,.slice (some ⟨g,o,none⟩) (l.length + 1) cap,.slice a2 (baL l).length c2] 50)).alloc (.cells #[.int .i64 0,.int .i64 0,.int .i64 0,.int .i64 0,.int .i64 0,.int .i64 0,.int .i64 0,.int .i64 0,.int .i64 0,.bool false,.bool false,.int .i64 0] 91)).heap[w.heap.size]? = some (.cells #[.slice a0 l.length c0,.slice (some ⟨g,o,none⟩) (l.length + 1) cap,.slice a2 (baL l).length c2] 50 (0,0)) := (Below.heap_alloc _ _ _ (by simp)).trans (World.alloc_heap_new w _)
 have hbg : Hid (Calls Tryz.prog 11 #[.slice a0 l.length c0] ((w.alloc (.cells #[.slice a0 l.length c0,.slice (some ⟨g,o,none⟩) (l.length + 1) cap,.slice a2 (baL l).length c2] 50)).alloc (.cells #[.int .i64 0,.int .i64 0,.int .i64 0,.int .i64 0,.int .i64 0,.int .i64 0,.int .i64 0,.int .i64 0,.int .i64 0,.bool false,.bool false,.int .i64 0] 91)) fun e w' => e = .returned (.int .i64 (sk l 0 : Nat)) ∧ Below ((w.alloc (.cells #[.slice a0 l.length c0,.slice (some ⟨g,o,none⟩) (l.length + 1) cap,.slice a2 (baL l).length c2] 50)).alloc (.cells #[.int .i64 0,.int .i64 0,.int .i64 0,.int .i64 0,.int .i64 0,.int .i64 0,.int .i64 0,.int .i64 0,.int .i64 0,.bool false,.bool false,.int .i64 0] 91)).heap.size ((w.alloc (.cells #[.slice a0 l.length c0,.slice (some ⟨g,o,none⟩) (l.length + 1) cap,.slice a2 (baL l).length c2] 50)).alloc (.cells #[.int .i64 0,.int .i64 0,.int .i64 0,.int .i64 0,.int .i64 0,.int .i64 0,.int .i64 0,.int .i64 0,.int .i64 0,.bool false,.bool false,.int .i64 0] 91)) w') := begin_any _ l (by omega) _ (hR.i.below hb0 (Nat.le_refl _))
 have hres : Hid (∀ W,Below ((w.alloc (.cells #[.slice a0 l.length c0,.slice (some ⟨g,o,none⟩) (l.length + 1) cap,.slice a2 (baL l).length c2] 50)).alloc (.cells #[.int .i64 0,.int .i64 0,.int .i64 0,.int .i64 0,.int .i64 0,.int .i64 0,.int .i64 0,.int .i64 0,.int .i64 0,.bool false,.bool false,.int .i64 0] 91)).heap.size ((w.alloc (.cells #[.slice a0 l.length c0,.slice (some ⟨g,o,none⟩) (l.length + 1) cap,.slice a2 (baL l).length c2] 50)).alloc (.cells #[.int .i64 0,.int .i64 0,.int .i64 0,.int .i64 0,.int .i64 0,.int .i64 0,.int .i64 0,.int .i64 0,.int .i64 0,.bool false,.bool false,.int .i64 0] 91)) W → W.heap[w.heap.size + 1]? = some (.cells (stL st0).toArray 91 (0,0)) ∧ W.cell? ⟨w.heap.size,1,none⟩ = some (.slice (some ⟨g,o,none⟩) (l.length + 1) cap) ∧ Below w.heap.size w W ∧ W.rangeAt g (o + sk l 0 * 3) (suL (alF l (sk l 0)))) := fun W hW => by
  have hb := hb0.trans (hW.mono hb0.size)
  refine ⟨(hW.block _ (by simp)).trans hr2,?_,hb,fun j u hu => (hb.cell hg).trans (hrg _ hsk j u hu)⟩
  rw [Lib.cell_of_heap ((hW.block _ (by simp; omega)).trans hr1)]; rfl
 have e : bgS l = ⟨0,sk l 0,su0,alF l (sk l 0),0,false,false,0⟩ := rfl
 rw [e]
 have hks : ((sk l 0 : Nat) : Int) < (l.length : Int) + 1 := by omega
 clear hR hb0 hr1 hr2 hrg h h8 e
 generalize alF l (sk l 0) = x at *
 generalize sk l 0 = k at *
 show Calls Tryz.prog 29 #[.agg #[.slice a0 l.length c0,.slice (some ⟨g,o,none⟩) (l.length + 1) cap,.slice a2 (baL l).length c2]] w _
 go_enter Tryz.func29,Tryz.ntmps29
 go_wp2_with fail
 generalize (w.alloc (.cells #[.slice a0 l.length c0,.slice (some ⟨g,o,none⟩) (l.length + 1) cap,.slice a2 (baL l).length c2] 50)).alloc (.cells #[.int .i64 0,.int .i64 0,.int .i64 0,.int .i64 0,.int .i64 0,.int .i64 0,.int .i64 0,.int .i64 0,.int .i64 0,.bool false,.bool false,.int .i64 0] 91) = wz at *
 go_wp2_with (first | (go_at_call 11; refine hbg.out.mono ?_; rintro e w2 ⟨rfl,hb2⟩; obtain ⟨q1,q2,q3,q4⟩ := hres.out w2 hb2; have d0 := q4 0 _ rfl; have d1 := q4 1 _ rfl; have d2 := q4 2 _ rfl; simp only [Nat.add_zero] at d0; have q3h : Hid (Below w.heap.size w w2) := q3; clear q3 q4 hb2 hres hbg) | (refine wpList_store_row rfl 91 _ _ rfl (w.heap.size + 1) (stL ⟨0,k,su0,x,0,false,false,0⟩).toArray rfl rfl 91 _ q1 (info91 _) rfl (stL_all _) ?_))
 exact bodyPost_ret (results_cell_row rfl _ _ (w.heap.size + 1) 91 _ (0,0) _ rfl (setRow_heap _ _ _ _ _ _ q1) Tryz.underlying91 rfl (info91 _)) rfl ⟨rfl,q3h.out.trans ((Turns.setRow (X := fun k => k = w.heap.size + 1) _ rfl _).below q3h.out.size (fun k hk => by omega))⟩
end Go.Proofs.YtfndocmgonlhpaaGreatDoor
