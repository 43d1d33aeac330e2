/-
  What is proved here: StyleKnown answers true: the chapter's examples are answered as it says.
-/
import Derived.Test.YtifkelpgpdgenabKnownMath
import Derived.ChangeOld
import Derived.Below
import Derived.Deep.Slices
import Derived.ProofKit
import Derived.OpenShut
namespace Go.Proofs.Ytifkelpgpdgenab.styleKnown
open Go.ChangeShapes Go.WideShapes Go.ChangeAt Go.RowKit Go.Shelf

theorem own : ownKnob Try.prog.godebug = none := by kernel_rfl

set_option maxRecDepth 100000 in
set_option maxHeartbeats 4000000 in
theorem walk (w : World) : Calls Try.prog 3 #[] w fun e w' => e = .returned (.bool true) ∧ Below w.heap.size w w' := by
  go_enter Try.func3, Try.ntmps3
  go_wp2_with fail
  refine (two_any w).mono ?_
  rintro e w1 ⟨t, b, rfl, ht, hb, h1, f1, Bw1⟩
  go_wp2_with fail
  refine (define_any t b 2 S2 f1 sa sb (by decide) _ [] w1 h1 (sets_nil w1)).mono ?_
  intro e w2 p2
  obtain ⟨rfl, h2, o2⟩ := p2.err d1 (by decide)
  have Bw2 := Only.below Bw1 hb (Nat.le_refl _) o2
  clear p2 o2 h1
  go_wp2_with fail
  refine (define_any t b 2 S2 f1 sc sx (by decide) _ [] w2 h2 (sets_nil w2)).mono ?_
  intro e w3 p3
  obtain ⟨rfl, h3, o3⟩ := p3.err d2 (by decide)
  have Bw3 := Only.below Bw2 hb (Nat.le_refl _) o3
  clear p3 o3 h2
  go_wp2_with fail
  refine (define_any t b 2 S2 f1 sA e0 (by decide) _ [] w3 h3 (sets_nil w3)).mono ?_
  intro e w4 p4
  obtain ⟨rfl, h4, o4⟩ := p4.err d3 (by decide)
  have Bw4 := Only.below Bw3 hb (Nat.le_refl _) o4
  clear p4 o4 h3
  go_wp2_with fail
  refine (remove_any t b 2 S2 f1 sa (by decide) w4 h4).mono ?_
  intro e w5 p5
  obtain ⟨rfl, h5, o5⟩ := p5.err r1 (by decide)
  have Bw5 := Only.below Bw4 hb (Nat.le_refl _) o5
  clear p5 o5 h4
  go_wp2_with fail
  refine (remove_any t b 2 S2 f1 sb (by decide) w5 h5).mono ?_
  intro e w6 p6
  obtain ⟨rfl, h6, f6, o6⟩ := p6.ok r2
  have Bw6 := Only.below Bw5 hb (Nat.le_refl _) o6
  change SheetAt w6 t b 1 S3 at h6
  change WF S3 at f6
  clear p6 o6 h5 f1
  go_wp2_with fail
  refine (names_any t b 1 S3 w6 h6).mono ?_
  rintro e w7 ⟨v, ns, rfl, hst, hnl, hin, _, b7⟩
  have Bw7 := Bw6.trans (b7.mono Bw6.size)
  have h7 := h6.below b7
  obtain rfl : ns = [sa] := by
    match ns, hnl with
    | [s], _ => rw [S3_only (hin s (by simp))]
  have hA7 := (Below.refl w7.heap.size w7).alloc (Nat.le_refl _) (Obj.cells #[.string sa] 9)
  have hst2 : StrsAt (w7.alloc (.cells #[.string sa] 9)) v [sa] := by
    obtain ⟨a, c, e, h⟩ := hst.ex
    refine ⟨a, c, e, ?_⟩
    rcases h with h | ⟨g, e2, hg, hc⟩
    · exact .inl h
    · exact .inr ⟨g, e2, by simp; omega, fun i hi => (hA7.cell hg).trans (hc i hi)⟩
  have hst3 : StrsAt (w7.alloc (.cells #[.string sa] 9)) (.slice (some ⟨w7.heap.size, 0, none⟩) 1 1) [sa] := by
    refine ⟨_, 1, rfl, .inr ⟨w7.heap.size, rfl, by simp, fun i hi => ?_⟩⟩
    obtain rfl : i = 0 := by simpa using hi
    rw [Lib.cell_of_heap (heap_new w7 _)]; rfl
  obtain ⟨av, cv, rfl, _⟩ := hst.ex
  have hsame : Hid (Calls Try.prog 7 _ _ _) := same_one _ _ sa _ hst2 hst3
  clear hst hst2 hst3 hin hnl h6 b7
  go_wp2_with fail
  refine hsame.out.mono ?_
  rintro e w8 ⟨rfl, b8⟩
  have c8 := hA7.trans (b8.mono hA7.size)
  have h8 := h7.below c8
  have Bw8 := Bw7.trans (c8.mono Bw7.size)
  clear h7 b8 c8 hA7 hsame
  go_wp2_with fail
  refine (resolve_any t b 1 S3 f6 sb (by decide) _ [] w8 h8 (sets_nil w8)).mono ?_
  intro e x9 p9
  have hE9 : resE S3 sb [] = 6 := by unfold resE; rw [if_pos ⟨by decide, S3_b⟩]
  obtain ⟨b9, q9, rfl, hq9, hz9, _⟩ := p9
  obtain rfl := hz9 (by rw [hE9]; decide)
  rw [hE9]
  have B9x := Bw8.trans (b9.mono Bw8.size)
  have h9x := h8.below b9
  obtain ⟨N9, c9⟩ := made23 x9 (l := zeroL) rfl
  have Bw9 := B9x.trans (c9.mono B9x.size)
  have h9 := h9x.below c9
  obtain ⟨w9, hw9⟩ : ∃ y, (x9.alloc (.cells #[Value.int IntKind.i64 0, Value.int IntKind.i64 0, Value.int IntKind.i64 0, Value.int IntKind.i64 0, Value.int IntKind.i64 0, Value.int IntKind.i64 0, Value.int IntKind.i64 0, Value.int IntKind.i64 0, Value.int IntKind.i64 0, Value.int IntKind.i64 0, Value.int IntKind.i64 0, Value.int IntKind.i64 0, Value.int IntKind.i64 0, Value.int IntKind.i64 0, Value.int IntKind.i64 0, Value.int IntKind.i64 0, Value.int IntKind.i64 0] 32)).setRow x9.heap.size (prC zeroL) = y := ⟨_, rfl⟩
  rw [hw9] at N9 c9 Bw9 h9
  clear h9x h8 hz9
  go_wp2_with (refine wpList_store_row rfl 32 _ _ rfl x9.heap.size (prC zeroL) rfl rfl 32 _ (heap_new x9 _) (info23l rfl) rfl (prC_one _) ?_; rw [hw9])
  refine (resolve_any t b 1 S3 f6 e0 (by decide) _ [] w9 h9 (sets_nil w9)).mono ?_
  intro e x10 p10
  obtain ⟨rfl, _, b10⟩ := p10.ok (resE_ok (.inl rfl) (by decide)) Makes.top
  rw [show applyL baseL [] = baseL from rfl]
  have B10x := Bw9.trans (b10.mono Bw9.size)
  have h10x := h9.below b10
  obtain ⟨N10, c10⟩ := made23 x10 (l := baseL) rfl
  have Bw10 := B10x.trans (c10.mono B10x.size)
  have h10 := h10x.below c10
  obtain ⟨w10, hw10⟩ : ∃ y, (x10.alloc (.cells #[Value.int IntKind.i64 0, Value.int IntKind.i64 0, Value.int IntKind.i64 0, Value.int IntKind.i64 0, Value.int IntKind.i64 0, Value.int IntKind.i64 0, Value.int IntKind.i64 0, Value.int IntKind.i64 0, Value.int IntKind.i64 0, Value.int IntKind.i64 0, Value.int IntKind.i64 0, Value.int IntKind.i64 0, Value.int IntKind.i64 0, Value.int IntKind.i64 0, Value.int IntKind.i64 0, Value.int IntKind.i64 0, Value.int IntKind.i64 0] 32)).setRow x10.heap.size (prC baseL) = y := ⟨_, rfl⟩
  rw [hw10] at N10 c10 Bw10 h10
  clear h10x h9 p10 hw9
  have hbd := bounds_any 18
  rw [show loP 18 = 0 from by decide, show hiP 18 = 0 from by decide, show isP 18 = false from by decide] at hbd
  go_wp2_with (first
    | (refine wpList_store_row rfl 32 _ _ rfl x10.heap.size (prC baseL) rfl rfl 32 _ (heap_new x10 _) (info23l rfl) rfl (prC_one _) ?_; rw [hw10])
    | (go_at_call 10; refine (hbd _).mono ?_; rintro e w' ⟨rfl, hww⟩; subst w'))
  clear hw10
  refine (base_any w10).mono ?_
  rintro e w11 ⟨rfl, b11⟩
  have N11 := N10.below b11 N10.lt
  have h11 := h10.below b11
  have Bw11 := Bw10.trans (b11.mono Bw10.size)
  clear N10 h10 b11
  unfold prV
  have hget := get_yes baseL rfl 11 (by decide) w11
  unfold prV at hget
  rw [show baseL.getD ((11 : Int).toNat - 1) 0 = 1 from by decide] at hget
  go_wp2_with fail
  refine hget.mono ?_
  rintro e w12 ⟨rfl, b12⟩
  have N12 := N11.below b12 N11.lt
  have h12 := h11.below b12
  have Bw12 := Bw11.trans (b12.mono Bw11.size)
  clear N11 h11 b12 hget
  go_wp2_with fail
  refine (awake_any w12).mono ?_
  rintro e w13 ⟨rfl, b13⟩
  have N13 := N12.below b13 N12.lt
  have h13 := h12.below b13
  have Bw13 := Bw12.trans (b13.mono Bw12.size)
  have d0 : w13.cell? ⟨x10.heap.size, 0, none⟩ = some (.int .i64 10) := N13.cell (k := 0) (by decide)
  clear N12 h12 b13
  go_wp2_with fail
  refine (set_any 1 65 w13).mono ?_
  rintro e w14 ⟨rfl, r14, b14⟩
  have h14 := h13.below b14
  have Bw14 := Bw13.trans (b14.mono Bw13.size)
  have s14 : SetsAt w14 _ [(1, 65)] := sets_of_row r14 (by decide)
  clear r14 h13 b14
  go_wp2_with fail
  refine (define_any t b 1 S3 f6 sd e0 (by decide) _ [(1, 65)] w14 h14 s14).mono ?_
  intro e w15 p15
  obtain ⟨rfl, h15, o15⟩ := p15.err d4 (by decide)
  have Bw15 := Only.below Bw14 hb (Nat.le_refl _) o15
  clear p15 o15 h14 s14
  go_wp2_with fail
  refine (define_any t b 1 S3 f6 sa sa (by decide) _ [] w15 h15 (sets_nil w15)).mono ?_
  intro e w16 p16
  obtain ⟨rfl, h16, o16⟩ := p16.err d5 (by decide)
  have Bw16 := Only.below Bw15 hb (Nat.le_refl _) o16
  clear p16 o16
  go_wp2_with fail
  go_ret
  exact ⟨rfl, Bw16⟩

set_option maxRecDepth 100000 in
theorem lifted (os : Os) (started : os.Started) (H : Type) (enc : TypeId × Value → H) :
    ReturnsInHanded {} Try.checked os 3 .any (Rows.styleKnownSpec.pre6 enc Try.prog Try.f3 Rows.styleKnownRow.domain false) (Rows.styleKnownSpec.post enc Try.prog Try.f3 false true false false) := by
  refine returnsInHanded_of_change (C := Try.checked) own started (by kernel_rfl) Try.func3
    (ChangeSpec.witness6 (enc := enc) (C := Try.checked) false ⟨#[], #[], []⟩ 8 (by kernel_rfl) (by kernel_rfl) (by kernel_rfl) (by kernel_rfl)) ?_
  intro W base args ds gs before hval0 hW hcnd _
  have hval : ∀ (j : Nat) t v, Try.f3.params[j]? = some t → args[j]? = some v → Value.okWide Try.prog W .any base t v := hval0
  have hW' := hW
  obtain ⟨p, q, hA0, hV, rfl, hfz, hnd⟩ := hW
  have hA : DataW.TrodAll enc Try.prog W 0 (fun _ => true) true Try.f3.params.toList args.toList ds p := hA0
  rw [Try.params3] at hA hval
  obtain ⟨hargs, rfl, rfl⟩ := trodAll_nil hA
  obtain rfl : args = #[] := by cases args; simp_all
  obtain ⟨rfl, rfl⟩ := trodVars_none hV
  clear hA0 hval0
  simp only [List.append_nil] at hW'
  refine (walk W).mono fun e W' ⟨he, hg⟩ => ?_
  subst he
  exact ⟨_, rfl, _, _, _, [], [], [], hW', trodAll_mk1 (shut_bool Try.underlying4 _), trodAll_mk0, rfl, hg.frame _, fun h => by cases h⟩

theorem over : Rows.styleKnownRow.holds Try.pinned (OpenSpec.ofChange Rows.styleKnownSpec) :=
  OpenClaim.holds_of_wide 3 Try.f3 rfl rfl rfl rfl rfl rfl rfl ⟨rfl, rfl, rfl, rfl, rfl⟩ rfl rfl rfl rfl rfl (by kernel_rfl) Try.func3 (by kernel_rfl)
    (of_decide_eq_true (by kernel_rfl)) (by unfold Func.isWrapper; first | (rw [if_pos (by decide +kernel)]; kernel_rfl) | (rw [if_neg (by decide +kernel)]; exact ⟨rfl, rfl⟩))
    (fun os started H enc _ => lifted os started H enc)

end Go.Proofs.Ytifkelpgpdgenab.styleKnown
namespace Go.Proofs.Ytifkelpgpdgenab

theorem styleKnown_holds : Rows.StyleKnownSaid := styleKnown.over

end Go.Proofs.Ytifkelpgpdgenab
