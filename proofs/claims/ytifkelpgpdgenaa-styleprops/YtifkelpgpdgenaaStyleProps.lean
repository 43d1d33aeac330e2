/-
  What is proved here: StyleProps answers true at every input, with no condition: the bounds of any property, which properties may be, and how one is read and set, is told as the document says.
-/
import Derived.Test.YtifkelpgpdgenaaPropsWalk
import Derived.ChangeOld
import Derived.Below
import Derived.Deep.Slices
import Derived.ProofKit
import Derived.OpenShut
namespace Go.Proofs.Ytifkelpgpdgenaa.styleProps
open Go.ChangeShapes Go.WideShapes Go.ChangeAt Go.RowKit

theorem own : ownKnob Try.prog.godebug = none := by kernel_rfl
theorem laidOut : laidOutB Try.prog = true := by kernel_rfl

set_option maxRecDepth 1000000 in
set_option maxHeartbeats 4000000 in
theorem pr_at {H : Type} {enc : TypeId × Value → H} {W : World} {spare : Nat → Bool} {held : Bool} {n : Nat} {cs : List Value} {x : DataW H × List MemPlace}
    (hl : cs.length = 17) (ht : DataW.trod enc Try.prog W 0 spare held n 23 cs = some x) : ∃ l : List Int, l.length = 17 ∧ cs = l.map (Value.int .i64) := by
  obtain ⟨xs, m, _, _, _, hxl, hf⟩ := DataW.trod_struct Try.underlying23 ht
  have c3 : Try.prog.cellsOf 3 = 1 := by kernel_rfl
  have f0 : DataW.trod enc Try.prog W 0 spare held m 3 ((cs.drop 0).take (Try.prog.cellsOf 3)) = xs[0]? := hf 0 _ rfl
  have f1 : DataW.trod enc Try.prog W 0 spare held m 3 ((cs.drop 1).take (Try.prog.cellsOf 3)) = xs[1]? := hf 1 _ rfl
  have f2 : DataW.trod enc Try.prog W 0 spare held m 3 ((cs.drop 2).take (Try.prog.cellsOf 3)) = xs[2]? := hf 2 _ rfl
  have f3 : DataW.trod enc Try.prog W 0 spare held m 3 ((cs.drop 3).take (Try.prog.cellsOf 3)) = xs[3]? := hf 3 _ rfl
  have f4 : DataW.trod enc Try.prog W 0 spare held m 3 ((cs.drop 4).take (Try.prog.cellsOf 3)) = xs[4]? := hf 4 _ rfl
  have f5 : DataW.trod enc Try.prog W 0 spare held m 3 ((cs.drop 5).take (Try.prog.cellsOf 3)) = xs[5]? := hf 5 _ rfl
  have f6 : DataW.trod enc Try.prog W 0 spare held m 3 ((cs.drop 6).take (Try.prog.cellsOf 3)) = xs[6]? := hf 6 _ rfl
  have f7 : DataW.trod enc Try.prog W 0 spare held m 3 ((cs.drop 7).take (Try.prog.cellsOf 3)) = xs[7]? := hf 7 _ rfl
  have f8 : DataW.trod enc Try.prog W 0 spare held m 3 ((cs.drop 8).take (Try.prog.cellsOf 3)) = xs[8]? := hf 8 _ rfl
  have f9 : DataW.trod enc Try.prog W 0 spare held m 3 ((cs.drop 9).take (Try.prog.cellsOf 3)) = xs[9]? := hf 9 _ rfl
  have f10 : DataW.trod enc Try.prog W 0 spare held m 3 ((cs.drop 10).take (Try.prog.cellsOf 3)) = xs[10]? := hf 10 _ rfl
  have f11 : DataW.trod enc Try.prog W 0 spare held m 3 ((cs.drop 11).take (Try.prog.cellsOf 3)) = xs[11]? := hf 11 _ rfl
  have f12 : DataW.trod enc Try.prog W 0 spare held m 3 ((cs.drop 12).take (Try.prog.cellsOf 3)) = xs[12]? := hf 12 _ rfl
  have f13 : DataW.trod enc Try.prog W 0 spare held m 3 ((cs.drop 13).take (Try.prog.cellsOf 3)) = xs[13]? := hf 13 _ rfl
  have f14 : DataW.trod enc Try.prog W 0 spare held m 3 ((cs.drop 14).take (Try.prog.cellsOf 3)) = xs[14]? := hf 14 _ rfl
  have f15 : DataW.trod enc Try.prog W 0 spare held m 3 ((cs.drop 15).take (Try.prog.cellsOf 3)) = xs[15]? := hf 15 _ rfl
  have f16 : DataW.trod enc Try.prog W 0 spare held m 3 ((cs.drop 16).take (Try.prog.cellsOf 3)) = xs[16]? := hf 16 _ rfl
  simp only [c3] at f0 f1 f2 f3 f4 f5 f6 f7 f8 f9 f10 f11 f12 f13 f14 f15 f16
  have hsz : xs.length = 17 := hxl
  obtain ⟨y0, y1, y2, y3, y4, y5, y6, y7, y8, y9, y10, y11, y12, y13, y14, y15, y16, rfl⟩ : ∃ y0 y1 y2 y3 y4 y5 y6 y7 y8 y9 y10 y11 y12 y13 y14 y15 y16, xs = [y0, y1, y2, y3, y4, y5, y6, y7, y8, y9, y10, y11, y12, y13, y14, y15, y16] := by
    match xs, hsz with
    | [y0, y1, y2, y3, y4, y5, y6, y7, y8, y9, y10, y11, y12, y13, y14, y15, y16], _ => exact ⟨_, _, _, _, _, _, _, _, _, _, _, _, _, _, _, _, _, rfl⟩
  obtain ⟨z0, z1, z2, z3, z4, z5, z6, z7, z8, z9, z10, z11, z12, z13, z14, z15, z16, rfl⟩ : ∃ z0 z1 z2 z3 z4 z5 z6 z7 z8 z9 z10 z11 z12 z13 z14 z15 z16, cs = [z0, z1, z2, z3, z4, z5, z6, z7, z8, z9, z10, z11, z12, z13, z14, z15, z16] := by
    match cs, hl with
    | [z0, z1, z2, z3, z4, z5, z6, z7, z8, z9, z10, z11, z12, z13, z14, z15, z16], _ => exact ⟨_, _, _, _, _, _, _, _, _, _, _, _, _, _, _, _, _, rfl⟩
  obtain ⟨a0, e0, _, _⟩ := DataW.trod_int Try.underlying3 f0
  obtain ⟨a1, e1, _, _⟩ := DataW.trod_int Try.underlying3 f1
  obtain ⟨a2, e2, _, _⟩ := DataW.trod_int Try.underlying3 f2
  obtain ⟨a3, e3, _, _⟩ := DataW.trod_int Try.underlying3 f3
  obtain ⟨a4, e4, _, _⟩ := DataW.trod_int Try.underlying3 f4
  obtain ⟨a5, e5, _, _⟩ := DataW.trod_int Try.underlying3 f5
  obtain ⟨a6, e6, _, _⟩ := DataW.trod_int Try.underlying3 f6
  obtain ⟨a7, e7, _, _⟩ := DataW.trod_int Try.underlying3 f7
  obtain ⟨a8, e8, _, _⟩ := DataW.trod_int Try.underlying3 f8
  obtain ⟨a9, e9, _, _⟩ := DataW.trod_int Try.underlying3 f9
  obtain ⟨a10, e10, _, _⟩ := DataW.trod_int Try.underlying3 f10
  obtain ⟨a11, e11, _, _⟩ := DataW.trod_int Try.underlying3 f11
  obtain ⟨a12, e12, _, _⟩ := DataW.trod_int Try.underlying3 f12
  obtain ⟨a13, e13, _, _⟩ := DataW.trod_int Try.underlying3 f13
  obtain ⟨a14, e14, _, _⟩ := DataW.trod_int Try.underlying3 f14
  obtain ⟨a15, e15, _, _⟩ := DataW.trod_int Try.underlying3 f15
  obtain ⟨a16, e16, _, _⟩ := DataW.trod_int Try.underlying3 f16
  simp at e0 e1 e2 e3 e4 e5 e6 e7 e8 e9 e10 e11 e12 e13 e14 e15 e16
  subst e0 e1 e2 e3 e4 e5 e6 e7 e8 e9 e10 e11 e12 e13 e14 e15 e16
  exact ⟨[a0, a1, a2, a3, a4, a5, a6, a7, a8, a9, a10, a11, a12, a13, a14, a15, a16], rfl, rfl⟩

set_option maxRecDepth 1000000 in
theorem open_pr {H : Type} {enc : TypeId × Value → H} {W : World} {v : Value} {d : DataW H} {ps : List MemPlace} {base : Nat} (hok : Value.okWide Try.prog W .any base 23 v)
    (h : DataW.Trod enc Try.prog W 0 (fun _ => true) true 23 v d ps) : ∃ l : List Int, l.length = 17 ∧ v = prV l := by
  obtain ⟨cs, rfl, hsz⟩ := okWide_struct Try.underlying23 hok
  obtain ⟨fuel, hf⟩ := h
  have c23 : Try.prog.cellsOf 23 = 17 := by kernel_rfl
  obtain ⟨l, hl, hc⟩ := pr_at (cs := cs.toList) (by rw [c23] at hsz; simpa using hsz) hf
  exact ⟨l, hl, by unfold prV prC; rw [← hc]⟩

theorem walk (l : List Int) (hl : l.length = 17) (n v : Int) (w : World) :
    Calls Try.prog 3 #[prV l, .int .i64 n, .int .i64 v] w fun e w' => e = .returned (.bool true) ∧ Below w.heap.size w w' := by
  cases hp : isP n
  · exact props_no l hl n v hp w
  · have h := (isP_iff n).1 hp
    have hk : n = ((n.toNat - 1 : Nat) : Int) + 1 := by omega
    rw [hk]
    exact props_yes l hl (n.toNat - 1) (by omega) v w

set_option maxRecDepth 1000000 in
theorem lifted (os : Os) (started : os.Started) (H : Type) (enc : TypeId × Value → H) :
    ReturnsInHanded {} Try.checked os 3 .any (Rows.stylePropsSpec.pre6 enc Try.prog Try.f3 Rows.stylePropsRow.domain false) (Rows.stylePropsSpec.post enc Try.prog Try.f3 false true false false) := by
  refine returnsInHanded_of_change (C := Try.checked) own started (by kernel_rfl) Try.func3
    (ChangeSpec.witness6 (enc := enc) (C := Try.checked) false ⟨#[], #[.agg #[.int .i64 0, .int .i64 0, .int .i64 0, .int .i64 0, .int .i64 0, .int .i64 0, .int .i64 0, .int .i64 0, .int .i64 0, .int .i64 0, .int .i64 0, .int .i64 0, .int .i64 0, .int .i64 0, .int .i64 0, .int .i64 0, .int .i64 0], .int .i64 0, .int .i64 0], []⟩ 8 (by kernel_rfl) (by kernel_rfl) (by kernel_rfl) (by kernel_rfl)) ?_
  intro W base args ds gs before hval0 hW hcnd _
  have hval : ∀ (j : Nat) t v, Try.f3.params[j]? = some t → args[j]? = some v → Value.okWide Try.prog W .any base t v := hval0
  have hW' := hW
  obtain ⟨p, q, hA0, hV, rfl, hfz, hnd⟩ := hW
  have hA : DataW.TrodAll enc Try.prog W 0 (fun _ => true) true Try.f3.params.toList args.toList ds p := hA0
  rw [Try.params3] at hA hval
  obtain ⟨v0, vs0, d0, ds0, p0, q0, hargs, rfl, rfl, h0, r0⟩ := trodAll_cons hA
  obtain ⟨v1, vs1, d1, ds1, p1, q1, rfl, rfl, rfl, h1, r1⟩ := trodAll_cons r0
  obtain ⟨v2, vs2, d2, ds2, p2, q2, rfl, rfl, rfl, h2, r2⟩ := trodAll_cons r1
  obtain ⟨rfl, rfl, rfl⟩ := trodAll_nil r2
  obtain rfl : args = #[v0, v1, v2] := by cases args; simp_all
  obtain ⟨rfl, rfl⟩ := trodVars_none hV
  have k0 := h0
  have lt0 : ∀ x ∈ p0, x.block < W.heap.size := by obtain ⟨m, hm⟩ := k0; exact DataW.trod_lt m _ _ _ hm
  obtain ⟨l, hl, rfl⟩ := open_pr (hval 0 23 v0 rfl rfl) h0
  obtain ⟨a1, rfl, rfl, rfl, w1⟩ := open_int Try.underlying24 (hval 1 24 v1 rfl rfl) h1
  obtain ⟨a2, rfl, rfl, rfl, w2⟩ := open_int Try.underlying3 (hval 2 3 v2 rfl rfl) h2
  clear hA0 hval0
  refine (walk l hl a1 a2 W).mono fun e W' ⟨he, bel⟩ => ?_
  subst he
  exact ⟨_, rfl, _, _, _, [], _, [], hW', trodAll_mk1 (shut_bool Try.underlying4 _), (trodAll_cons_mk (Below.trod laidOut (by kernel_rfl) (of_decide_eq_true (by kernel_rfl)) k0 bel lt0) (trodAll_cons_mk (shut_int Try.underlying24 w1) (trodAll_cons_mk (shut_int Try.underlying3 w2) trodAll_mk0))), rfl, bel.frame _, fun h => by cases h⟩

theorem over : Rows.stylePropsRow.holds Try.pinned (OpenSpec.ofChange Rows.stylePropsSpec) :=
  OpenClaim.holds_of_wide 3 Try.f3 rfl rfl rfl rfl rfl rfl rfl ⟨rfl, rfl, rfl, rfl, rfl⟩ rfl rfl rfl rfl rfl (by kernel_rfl) Try.func3 (by kernel_rfl)
    (of_decide_eq_true (by kernel_rfl)) (by unfold Func.isWrapper; first | (rw [if_pos (by decide +kernel)]; kernel_rfl) | (rw [if_neg (by decide +kernel)]; exact ⟨rfl, rfl⟩))
    (fun os started H enc _ => lifted os started H enc)

end Go.Proofs.Ytifkelpgpdgenaa.styleProps
namespace Go.Proofs.Ytifkelpgpdgenaa

theorem styleProps_holds : Rows.StylePropsSaid := styleProps.over

end Go.Proofs.Ytifkelpgpdgenaa
