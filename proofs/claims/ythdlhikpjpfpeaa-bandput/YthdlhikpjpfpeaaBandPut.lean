/-
  What is proved here: BandPut answers true at every input, with no condition: where one more object stands is told as the document says, or just its error; what is handed in stays.
-/
import Derived.Test.YthdlhikpjpfpeaaOpen
import Derived.ProofKit
import Derived.OpenShut
namespace Go.Proofs.Ythdlhikpjpfpeaa.bandPut
open Go.ChangeShapes Go.WideShapes Go.ChangeAt Go.RowKit Go.WideMaps Go.WideElems
open Go.ChangeMaps (open_string shut_string)



set_option maxRecDepth 100000 in
set_option maxHeartbeats 4000000 in
theorem walk (v : Value) (l : List Bd) (n s y h d : Int) (hl0 : l.length ≤ 9223372036854775807) (w : World) (hS : RecAt 4 bdL w v l) :
    Calls Try.prog 4 #[v, .int .i64 n, .int .i64 s, .int .i64 y, .int .i64 h, .int .i64 d] w fun e w' => e = .returned (.bool true) ∧ Below w.heap.size w w' := by
  have hlen : l.length ≤ 9223372036854775807 := hl0
  obtain ⟨i0, hi, hz0, hz1, hz2⟩ := info_parts info34i
  by_cases h100 : 100 < l.length
  · obtain ⟨a, cap, rfl, -⟩ := hS.ex
    have h100' : (100 : Int) < l.length := by omega
    clear hS
    go_enter Try.func4, Try.ntmps4
    go_wp2_with fail
    go_ret
    exact ⟨rfl, Below.refl _ _⟩
  have h100' : ¬ (100 : Int) < l.length := by omega
  have hl : l.length ≤ 100 := by omega
  have hb1 := (Below.refl w.heap.size w).alloc (Nat.le_refl _) (.cells #[] 34)
  have hsrc := rec_srcs bdL_len bdL_one (by decide) (hS.below hb1 (Nat.le_refl _))
  obtain ⟨a, cap, hv, _⟩ := hS.ex
  subst hv
  clear h100
  go_enter Try.func4, Try.ntmps4
  go_wp2_with (at_builtin; refine wpList_append_any _ rfl _ _ 22 rfl w.heap.size 34 i0 _ 4 32 Try.underlying22 hi hz0 hz1 hz2 rfl (by decide) _ 0 [] rfl (ownsRow_lit w 34 4 _ (Nat.le_refl _)) l.length (l.flatMap bdL) _ rfl hsrc (by unfold maxLen; omega) (by omega) (by simp) ?_; intro v' w2 hown hgrow; rw [Nat.zero_add, List.nil_append] at hown)
  have B2 : Below w.heap.size w w2 := below_grown hb1 (ownsRow_lit w 34 4 _ (Nat.le_refl _)) (Nat.le_refl _) (Nat.le_refl _) hgrow
  have S2 := hS.below B2 (Nat.le_refl _)
  have I2 : RecAt 4 bdL w2 v' l := rec_of_row bdL_len rfl hown
  clear hb1 hsrc hown hgrow hS
  have hs := put_any v' l n s y h d hlen w2 I2
  have hr := fun W h1 => rput_any (.slice a l.length cap) l n s y h d hlen W h1
  generalize putB n l s y h d = b at *
  generalize putE n l s y h d = E at *
  refine hs.mono ?_
  rintro e w3 ⟨rfl, b3⟩
  obtain ⟨g4, b4⟩ := boxed w3 b
  have b34 := b3.trans (b4.mono b3.size)
  have B4 := B2.trans (b34.mono B2.size)
  have S4 := S2.below b34 (Nat.le_refl _)
  have I4 := I2.below b34 (Nat.le_refl _)
  have N3 := BB.new w3 bd0
  have hl4 := g4.lt
  clear hs b3 b4 b34 B2 S2 I2
  go_wp2_with (refine wpList_store_row rfl 34 _ _ rfl w3.heap.size (bdC b) rfl rfl 34 _ N3.row (info34 _) rfl (bdC_one _) ?_)
  generalize ((w3.alloc (Obj.cells #[.int .i64 0, .int .i64 0, .int .i64 0, .int .i64 0] 34)).setRow w3.heap.size (bdC b)) = w4 at *
  generalize w3.heap.size = G3 at *
  have hr4 := hr w4 S4
  clear hr N3
  refine hr4.mono ?_
  rintro e w5 ⟨rfl, b5⟩
  obtain ⟨g6, b6⟩ := boxed w5 b
  have b56 := b5.trans (b6.mono b5.size)
  have B6 := B4.trans (b56.mono B4.size)
  have S6 := S4.below b56 (Nat.le_refl _)
  have I6 := I4.below b56 (Nat.le_refl _)
  have g4' := g4.below b56 hl4
  have N5 := BB.new w5 bd0
  clear hr4 b5 b6 b56 B4 S4 I4 g4
  obtain ⟨x0, x1, x2, x3⟩ := b
  generalize hw6 : ((w5.alloc (Obj.cells #[.int .i64 0, .int .i64 0, .int .i64 0, .int .i64 0] 34)).setRow w5.heap.size (bdC ⟨x0, x1, x2, x3⟩)) = w6 at *
  generalize hG5 : w5.heap.size = G5 at *
  have r4 : w6.heap[G3]? = some (.cells #[.int .i64 x0, .int .i64 x1, .int .i64 x2, .int .i64 x3] 34 (0, 0)) := g4'.row
  have r6 : w6.heap[G5]? = some (.cells #[.int .i64 x0, .int .i64 x1, .int .i64 x2, .int .i64 x3] 34 (0, 0)) := g6.row
  have he := bands_yes _ _ _ hlen w6 I6 S6
  clear g4' g6 I6 S6
  subst hG5
  go_wp2_with (first | (refine wpList_store_row rfl 34 _ _ rfl w5.heap.size (bdC ⟨x0, x1, x2, x3⟩) rfl rfl 34 _ N5.row (info34 _) rfl (bdC_one _) ?_; (show wpList _ _ _ _ _ ((w5.alloc (Obj.cells #[.int .i64 0, .int .i64 0, .int .i64 0, .int .i64 0] 34)).setRow w5.heap.size (bdC ⟨x0, x1, x2, x3⟩))); rw [hw6]) | (refine wpList_load_row rfl 34 _ rfl G3 rfl 34 _ (0, 0) _ r4 Try.underlying34 rfl (info34 ⟨x0, x1, x2, x3⟩) ?_) | (refine wpList_load_row rfl 34 _ rfl w5.heap.size rfl 34 _ (0, 0) _ r6 Try.underlying34 rfl (info34 ⟨x0, x1, x2, x3⟩) ?_))
  refine he.mono ?_
  rintro e w7 ⟨rfl, b7⟩
  have B7 := B6.trans (b7.mono B6.size)
  go_wp2_with fail
  go_ret
  exact ⟨rfl, B7⟩

set_option maxRecDepth 100000 in
theorem lifted (os : Os) (started : os.Started) (H : Type) (enc : TypeId × Value → H) :
    ReturnsInHanded {} Try.checked os 4 .any (Rows.bandPutSpec.pre6 enc Try.prog Try.f4 Rows.bandPutRow.domain false) (Rows.bandPutSpec.post enc Try.prog Try.f4 false true false false) := by
  refine returnsInHanded_of_change (C := Try.checked) own started (by kernel_rfl) Try.func4
    (ChangeSpec.witness6 (enc := enc) (C := Try.checked) false ⟨#[], #[.slice none 0 0, .int .i64 0, .int .i64 0, .int .i64 0, .int .i64 0, .int .i64 0], []⟩ 8 (by kernel_rfl) (by kernel_rfl) (by kernel_rfl) (by kernel_rfl)) ?_
  intro W base args ds gs before hval0 hW hcnd _
  have hval : ∀ (j : Nat) t v, Try.f4.params[j]? = some t → args[j]? = some v → Value.okWide Try.prog W .any base t v := hval0
  have hW' := hW
  obtain ⟨p, q, hA0, hV, rfl, hfz, hnd⟩ := hW
  have hA : DataW.TrodAll enc Try.prog W 0 (fun _ => true) true Try.f4.params.toList args.toList ds p := hA0
  rw [Try.params4] at hA hval
  obtain ⟨v0, vs0, d0, ds0, p0, q0, hargs, rfl, rfl, h0, r0⟩ := trodAll_cons hA
  obtain ⟨v1, vs1, d1, ds1, p1, q1, rfl, rfl, rfl, h1, r1⟩ := trodAll_cons r0
  obtain ⟨v2, vs2, d2, ds2, p2, q2, rfl, rfl, rfl, h2, r2⟩ := trodAll_cons r1
  obtain ⟨v3, vs3, d3, ds3, p3, q3, rfl, rfl, rfl, h3, r3⟩ := trodAll_cons r2
  obtain ⟨v4, vs4, d4, ds4, p4, q4, rfl, rfl, rfl, h4, r4⟩ := trodAll_cons r3
  obtain ⟨v5, vs5, d5, ds5, p5, q5, rfl, rfl, rfl, h5, r5⟩ := trodAll_cons r4
  obtain ⟨rfl, rfl, rfl⟩ := trodAll_nil r5
  obtain rfl : args = #[v0, v1, v2, v3, v4, v5] := by cases args; simp_all
  obtain ⟨rfl, rfl⟩ := trodVars_none hV
  obtain ⟨a, len, cap, rfl⟩ := okWide_slice Try.underlying22 (hval 0 22 v0 rfl rfl)
  have k0 := h0
  have lt0 : ∀ x ∈ p0, x.block < W.heap.size := by obtain ⟨m, hm⟩ := k0; exact DataW.trod_lt m _ _ _ hm
  obtain ⟨fuel, hf⟩ := h0
  obtain ⟨v, qs, hv, hS, hlq, hx⟩ := recs_in (α := Bd) (k := 4) (f := bdL) Try.underlying22 (by kernel_rfl) (by decide) (fun _ _ _ h1 h2 => bd_at h1 h2) hf
  have hv' : Value.slice a len cap = v := by simpa [Value.cells] using hv
  subst hv'
  obtain ⟨a1, rfl, rfl, rfl, w1⟩ := open_int Try.underlying3 (hval 1 3 v1 rfl rfl) h1
  obtain ⟨a2, rfl, rfl, rfl, w2⟩ := open_int Try.underlying3 (hval 2 3 v2 rfl rfl) h2
  obtain ⟨a3, rfl, rfl, rfl, w3⟩ := open_int Try.underlying3 (hval 3 3 v3 rfl rfl) h3
  obtain ⟨a4, rfl, rfl, rfl, w4⟩ := open_int Try.underlying3 (hval 4 3 v4 rfl rfl) h4
  obtain ⟨a5, rfl, rfl, rfl, w5⟩ := open_int Try.underlying3 (hval 5 3 v5 rfl rfl) h5
  clear hA0 hval0
  simp only [List.append_nil] at hW'
  refine (walk _ qs a1 a2 a3 a4 a5 hlq W hS).mono fun e W' ⟨he, hg⟩ => ?_
  subst he
  exact ⟨_, rfl, _, _, _, [], _, [], hW', trodAll_mk1 (shut_bool Try.underlying4 _), (trodAll_cons_mk (Below.trod laidOut (by kernel_rfl) (of_decide_eq_true (by kernel_rfl)) k0 hg lt0) (trodAll_cons_mk (shut_int Try.underlying3 w1) (trodAll_cons_mk (shut_int Try.underlying3 w2) (trodAll_cons_mk (shut_int Try.underlying3 w3) (trodAll_cons_mk (shut_int Try.underlying3 w4) (trodAll_cons_mk (shut_int Try.underlying3 w5) trodAll_mk0)))))), rfl, hg.frame _, fun h => by cases h⟩

theorem over : Rows.bandPutRow.holds Try.pinned (OpenSpec.ofChange Rows.bandPutSpec) :=
  OpenClaim.holds_of_wide 4 Try.f4 rfl rfl rfl rfl rfl rfl rfl ⟨rfl, rfl, rfl, rfl, rfl⟩ rfl rfl rfl rfl rfl (by kernel_rfl) Try.func4 (by kernel_rfl)
    (of_decide_eq_true (by kernel_rfl)) (by unfold Func.isWrapper; first | (rw [if_pos (by decide +kernel)]; kernel_rfl) | (rw [if_neg (by decide +kernel)]; exact ⟨rfl, rfl⟩))
    (fun os started H enc _ => lifted os started H enc)

end Go.Proofs.Ythdlhikpjpfpeaa.bandPut
namespace Go.Proofs.Ythdlhikpjpfpeaa

theorem bandPut_holds : Rows.BandPutSaid := bandPut.over

end Go.Proofs.Ythdlhikpjpfpeaa
