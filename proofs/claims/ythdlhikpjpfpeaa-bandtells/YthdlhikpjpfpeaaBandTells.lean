/-
  What is proved here: BandTells answers true at every input, with no condition: which bands may be, the slots of any lines beside them, and where no band is any more, is told as the document says, or just its error; what is handed in stays.
-/
import Derived.Test.YthdlhikpjpfpeaaOpen
import Derived.Test.YthdlhikpjpfpeaaRSlots
import Derived.ProofKit
import Derived.OpenShut
namespace Go.Proofs.Ythdlhikpjpfpeaa.bandTells
open Go.ChangeShapes Go.WideShapes Go.ChangeAt Go.RowKit Go.WideMaps Go.WideElems
open Go.ChangeMaps (open_string shut_string)



theorem slsL_few (n : Int) (l : List Bd) (y p m : Int) : (slsL n l y p m).length ≤ 256 := by
  unfold slsL
  split
  · rename_i h
    unfold slsE at h
    split at h
    · split at h
      · rename_i h2
        have := h2.2.2.2
        simp; omega
      · omega
    · omega
  · simp
set_option maxRecDepth 100000 in
set_option maxHeartbeats 4000000 in
theorem walk (v : Value) (l : List Bd) (n y p m : Int) (hl0 : l.length ≤ 9223372036854775807) (w : World) (hS : RecAt 4 bdL w v l) :
    Calls Try.prog 3 #[v, .int .i64 n, .int .i64 y, .int .i64 p, .int .i64 m] w fun e w' => e = .returned (.bool true) ∧ Below w.heap.size w w' := by
  have hlen : l.length ≤ 9223372036854775807 := hl0
  obtain ⟨i0, hi, hz0, hz1, hz2⟩ := info_parts info34i
  by_cases h100 : 100 < l.length
  · obtain ⟨a, cap, rfl, -⟩ := hS.ex
    have h100' : (100 : Int) < l.length := by omega
    clear hS
    go_enter Try.func3, Try.ntmps3
    go_wp2_with fail
    go_ret
    exact ⟨rfl, Below.refl _ _⟩
  have h100' : ¬ (100 : Int) < l.length := by omega
  have hl : l.length ≤ 100 := by omega
  have hb1 := (Below.refl w.heap.size w).alloc (Nat.le_refl _) (.cells #[] 34)
  have hsrc := rec_srcs bdL_len bdL_one (by decide) (hS.below hb1 (Nat.le_refl _))
  obtain ⟨a, cap, hv, _⟩ := hS.ex
  subst hv
  clear h100
  go_enter Try.func3, Try.ntmps3
  go_wp2_with (at_builtin; refine wpList_append_any _ rfl _ _ 22 rfl w.heap.size 34 i0 _ 4 32 Try.underlying22 hi hz0 hz1 hz2 rfl (by decide) _ 0 [] rfl (ownsRow_lit w 34 4 _ (Nat.le_refl _)) l.length (l.flatMap bdL) _ rfl hsrc (by unfold maxLen; omega) (by omega) (by simp) ?_; intro v' w2 hown hgrow; rw [Nat.zero_add, List.nil_append] at hown)
  have B2 : Below w.heap.size w w2 := below_grown hb1 (ownsRow_lit w 34 4 _ (Nat.le_refl _)) (Nat.le_refl _) (Nat.le_refl _) hgrow
  have S2 := hS.below B2 (Nat.le_refl _)
  have I2 : RecAt 4 bdL w2 v' l := rec_of_row bdL_len rfl hown
  clear hb1 hsrc hown hgrow hS
  have hs := slots_any v' l n y p m hlen w2 I2
  have hr := fun W h => rslots_any (.slice a l.length cap) l n y p m hlen W h
  have hc := fun W h => clear_any v' l y hlen W h
  have hq := fun W h => rclear_any (.slice a l.length cap) l y hlen W h
  have hk := fun W h => check_any v' l hlen W h
  have hj := fun W h => rcheck_any (.slice a l.length cap) l hlen W h
  have hsl : (slsL n l y p m).length ≤ 256 := slsL_few n l y p m
  unfold SlEnd at hs hr
  generalize slsL n l y p m = L at *
  generalize slsE n l y p m = E at *
  generalize clrV l y = V at *
  generalize clrE l y = F at *
  generalize ckI l = K at *
  refine hs.mono ?_
  rintro e w3 ⟨b3, x, rfl, hx⟩
  have B3 := B2.trans (b3.mono B2.size)
  have S3 := S2.below b3 (Nat.le_refl _)
  have I3 := I2.below b3 (Nat.le_refl _)
  have hr3 := hr w3 S3
  clear hs hr b3 B2 S2 I2
  go_wp2_with fail
  refine hr3.mono ?_
  rintro e w4 ⟨b4, z, rfl, hz⟩
  have B4 := B3.trans (b4.mono B3.size)
  have S4 := S3.below b4 (Nat.le_refl _)
  have I4 := I3.below b4 (Nat.le_refl _)
  have X4 := hx.below b4 (Nat.le_refl _)
  have hc4 := hc w4 I4
  clear hr3 hc b4 B3 S3 I3 hx
  go_wp2_with fail
  refine hc4.mono ?_
  rintro e w5 ⟨rfl, b5⟩
  have B5 := B4.trans (b5.mono B4.size)
  have S5 := S4.below b5 (Nat.le_refl _)
  have I5 := I4.below b5 (Nat.le_refl _)
  have X5 := X4.below b5 (Nat.le_refl _)
  have Z5 := hz.below b5 (Nat.le_refl _)
  have hq5 := hq w5 S5
  clear hc4 hq b5 B4 S4 I4 X4 hz
  go_wp2_with fail
  refine hq5.mono ?_
  rintro e w6 ⟨rfl, b6⟩
  have B6 := B5.trans (b6.mono B5.size)
  have S6 := S5.below b6 (Nat.le_refl _)
  have I6 := I5.below b6 (Nat.le_refl _)
  have X6 := X5.below b6 (Nat.le_refl _)
  have Z6 := Z5.below b6 (Nat.le_refl _)
  have hk6 := hk w6 I6
  clear hq5 hk b6 B5 S5 I5 X5 Z5
  go_wp2_with fail
  refine hk6.mono ?_
  rintro e w7 ⟨rfl, b7⟩
  have B7 := B6.trans (b7.mono B6.size)
  have S7 := S6.below b7 (Nat.le_refl _)
  have I7 := I6.below b7 (Nat.le_refl _)
  have X7 := X6.below b7 (Nat.le_refl _)
  have Z7 := Z6.below b7 (Nat.le_refl _)
  have hj7 := hj w7 S7
  clear hk6 hj b7 B6 S6 I6 X6 Z6
  go_wp2_with fail
  refine hj7.mono ?_
  rintro e w8 ⟨rfl, b8⟩
  have B8 := B7.trans (b8.mono B7.size)
  have S8 := S7.below b8 (Nat.le_refl _)
  have I8 := I7.below b8 (Nat.le_refl _)
  have X8 := X7.below b8 (Nat.le_refl _)
  have Z8 := Z7.below b8 (Nat.le_refl _)
  have he8 := slots_yes _ _ _ (by omega) w8 X8 Z8
  clear hj7 b8 B7 S7 I7 X7 Z7
  go_wp2_with fail
  refine he8.mono ?_
  rintro e w9 ⟨rfl, b9⟩
  have B9 := B8.trans (b9.mono B8.size)
  have S9 := S8.below b9 (Nat.le_refl _)
  have I9 := I8.below b9 (Nat.le_refl _)
  have he9 := bands_yes _ _ _ hlen w9 I9 S9
  clear he8 b9 B8 S8 I8 X8 Z8
  go_wp2_with fail
  refine he9.mono ?_
  rintro e w10 ⟨rfl, b10⟩
  have B10 := B9.trans (b10.mono B9.size)
  go_wp2_with fail
  go_ret
  exact ⟨rfl, B10⟩

set_option maxRecDepth 100000 in
theorem lifted (os : Os) (started : os.Started) (H : Type) (enc : TypeId × Value → H) :
    ReturnsInHanded {} Try.checked os 3 .any (Rows.bandTellsSpec.pre6 enc Try.prog Try.f3 Rows.bandTellsRow.domain false) (Rows.bandTellsSpec.post enc Try.prog Try.f3 false true false false) := by
  refine returnsInHanded_of_change (C := Try.checked) own started (by kernel_rfl) Try.func3
    (ChangeSpec.witness6 (enc := enc) (C := Try.checked) false ⟨#[], #[.slice none 0 0, .int .i64 0, .int .i64 0, .int .i64 0, .int .i64 0], []⟩ 8 (by kernel_rfl) (by kernel_rfl) (by kernel_rfl) (by kernel_rfl)) ?_
  intro W base args ds gs before hval0 hW hcnd _
  have hval : ∀ (j : Nat) t v, Try.f3.params[j]? = some t → args[j]? = some v → Value.okWide Try.prog W .any base t v := hval0
  have hW' := hW
  obtain ⟨p, q, hA0, hV, rfl, hfz, hnd⟩ := hW
  have hA : DataW.TrodAll enc Try.prog W 0 (fun _ => true) true Try.f3.params.toList args.toList ds p := hA0
  rw [Try.params3] at hA hval
  obtain ⟨v0, vs0, d0, ds0, p0, q0, hargs, rfl, rfl, h0, r0⟩ := trodAll_cons hA
  obtain ⟨v1, vs1, d1, ds1, p1, q1, rfl, rfl, rfl, h1, r1⟩ := trodAll_cons r0
  obtain ⟨v2, vs2, d2, ds2, p2, q2, rfl, rfl, rfl, h2, r2⟩ := trodAll_cons r1
  obtain ⟨v3, vs3, d3, ds3, p3, q3, rfl, rfl, rfl, h3, r3⟩ := trodAll_cons r2
  obtain ⟨v4, vs4, d4, ds4, p4, q4, rfl, rfl, rfl, h4, r4⟩ := trodAll_cons r3
  obtain ⟨rfl, rfl, rfl⟩ := trodAll_nil r4
  obtain rfl : args = #[v0, v1, v2, v3, v4] := by cases args; simp_all
  obtain ⟨rfl, rfl⟩ := trodVars_none hV
  obtain ⟨a, len, cap, rfl⟩ := okWide_slice Try.underlying22 (hval 0 22 v0 rfl rfl)
  have k0 := h0
  have lt0 : ∀ x ∈ p0, x.block < W.heap.size := by obtain ⟨m, hm⟩ := k0; exact DataW.trod_lt m _ _ _ hm
  obtain ⟨fuel, hf⟩ := h0
  obtain ⟨v, qs, hv, hS, hlq, hx⟩ := recs_in (α := Bd) (k := 4) (f := bdL) Try.underlying22 (by kernel_rfl) (by decide) (fun _ _ _ h1 h2 => bd_at h1 h2) hf
  have hv' : Value.slice a len cap = v := by simpa [Value.cells] using hv
  subst hv'
  obtain ⟨a1, rfl, rfl, rfl, w1⟩ := open_int Try.underlying3 (hval 1 3 v1 rfl rfl) h1
  obtain ⟨a2, rfl, rfl, rfl, w2⟩ := open_int Try.underlying3 (hval 2 3 v2 rfl rfl) h2
  obtain ⟨a3, rfl, rfl, rfl, w3⟩ := open_int Try.underlying3 (hval 3 3 v3 rfl rfl) h3
  obtain ⟨a4, rfl, rfl, rfl, w4⟩ := open_int Try.underlying3 (hval 4 3 v4 rfl rfl) h4
  clear hA0 hval0
  simp only [List.append_nil] at hW'
  refine (walk _ qs a1 a2 a3 a4 hlq W hS).mono fun e W' ⟨he, hg⟩ => ?_
  subst he
  exact ⟨_, rfl, _, _, _, [], _, [], hW', trodAll_mk1 (shut_bool Try.underlying4 _), (trodAll_cons_mk (Below.trod laidOut (by kernel_rfl) (of_decide_eq_true (by kernel_rfl)) k0 hg lt0) (trodAll_cons_mk (shut_int Try.underlying3 w1) (trodAll_cons_mk (shut_int Try.underlying3 w2) (trodAll_cons_mk (shut_int Try.underlying3 w3) (trodAll_cons_mk (shut_int Try.underlying3 w4) trodAll_mk0))))), rfl, hg.frame _, fun h => by cases h⟩

theorem over : Rows.bandTellsRow.holds Try.pinned (OpenSpec.ofChange Rows.bandTellsSpec) :=
  OpenClaim.holds_of_wide 3 Try.f3 rfl rfl rfl rfl rfl rfl rfl ⟨rfl, rfl, rfl, rfl, rfl⟩ rfl rfl rfl rfl rfl (by kernel_rfl) Try.func3 (by kernel_rfl)
    (of_decide_eq_true (by kernel_rfl)) (by unfold Func.isWrapper; first | (rw [if_pos (by decide +kernel)]; kernel_rfl) | (rw [if_neg (by decide +kernel)]; exact ⟨rfl, rfl⟩))
    (fun os started H enc _ => lifted os started H enc)

end Go.Proofs.Ythdlhikpjpfpeaa.bandTells
namespace Go.Proofs.Ythdlhikpjpfpeaa

theorem bandTells_holds : Rows.BandTellsSaid := bandTells.over

end Go.Proofs.Ythdlhikpjpfpeaa
