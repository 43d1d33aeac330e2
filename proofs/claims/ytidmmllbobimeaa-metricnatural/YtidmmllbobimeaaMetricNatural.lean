/-
  What is proved here: MetricNatural answers true at every input, with no condition: how wide a run of masses is, is told as the document says; what is handed in stays.
-/
import Derived.Test.YtidmmllbobimeaaNatB
import Derived.Test.YtidmmllbobimeaaOpenM
import Derived.ProofKit
import Derived.OpenShut
import Derived.SizedLaws
namespace Go.Proofs.Ytidmmllbobimeaa.metricNatural
open Go.ChangeShapes Go.WideShapes Go.ChangeAt Go.RowKit Go.WideMaps Go.WideElems
open Go.ChangeMaps (open_string shut_string)



theorem info43' : (Try.prog.info? 43).map (fun i => (i.zero, i.size, i.bytes)) = some (some (.agg #[.int .i64 0, .int .i64 0, .int .i64 0, .int .i64 0, .int .i64 0, .int .i64 0]), 6, 48) := info43
set_option maxRecDepth 100000 in
set_option maxHeartbeats 2000000 in
theorem walk (v : Value) (l : List Ms) (f t : Int) (hl : l.length * 48 ≤ 140737488351232) (w : World) (hS : RecAt 6 msL w v l) :
    Calls Try.prog 5 #[v, .int .i64 f, .int .i64 t] w fun e w' => e = .returned (.bool true) ∧ Below w.heap.size w w' := by
  obtain ⟨i0, hi, hz0, hz1, hz2⟩ := info_parts info43'
  have hlen : l.length ≤ 9223372036854775807 := by omega
  have hb1 := (Below.refl w.heap.size w).alloc (Nat.le_refl _) (.cells #[] 43)
  have hsrc := rec_srcs msL_len msL_one (by decide) (hS.below hb1 (Nat.le_refl _))
  obtain ⟨a, cap, hv, _⟩ := hS.ex
  subst hv
  go_enter Try.func5, Try.ntmps5
  go_wp2_with (at_builtin; refine wpList_append_any _ rfl _ _ 36 rfl w.heap.size 43 i0 _ 6 48 Try.underlying36 hi hz0 hz1 hz2 rfl (by decide) _ 0 [] rfl (ownsRow_lit w 43 6 _ (Nat.le_refl _)) l.length (l.flatMap msL) _ rfl hsrc (by unfold maxLen; omega) (by omega) (by simp) ?_; intro v' w2 hown hgrow; rw [Nat.zero_add, List.nil_append] at hown)
  have hB : Below w.heap.size w w2 := below_grown hb1 (ownsRow_lit w 43 6 _ (Nat.le_refl _)) (Nat.le_refl _) (Nat.le_refl _) hgrow
  have hS2 := hS.below hB (Nat.le_refl _)
  have hI2 : RecAt 6 msL w2 v' l := rec_of_row msL_len rfl hown
  refine (natural_any v' l hlen f t w2 hI2).mono ?_
  rintro e w3 ⟨rfl, b3⟩
  have hS3 := hS2.below b3 (Nat.le_refl _)
  have hI3 := hI2.below b3 (Nat.le_refl _)
  have hB3 := hB.trans (b3.mono hB.size)
  go_wp2_with fail
  refine (rnatural_any _ l hlen f t w3 hS3).mono ?_
  rintro e w4 ⟨rfl, b4⟩
  have hS4 := hS3.below b4 (Nat.le_refl _)
  have hI4 := hI3.below b4 (Nat.le_refl _)
  have hB4 := hB3.trans (b4.mono hB3.size)
  generalize natV l f t = x1
  generalize natE l f t = x2
  have hsame := same_yes v' _ l w4 hlen hI4 hS4
  go_wp2_with fail
  refine hsame.mono ?_
  rintro e w5 ⟨rfl, b5⟩
  have hB5 := hB4.trans (b5.mono hB4.size)
  go_wp2_with fail
  refine (awake_any w5).mono ?_
  rintro e w6 ⟨rfl, b6⟩
  have hB6 := hB5.trans (b6.mono hB5.size)
  go_wp2_with fail
  go_ret
  exact ⟨rfl, hB6⟩

set_option maxRecDepth 100000 in
theorem lifted (os : Os) (started : os.Started) (H : Type) (enc : TypeId × Value → H) :
    ReturnsInHanded {} Try.checked os 5 .any (Rows.metricNaturalSpec.pre6 enc Try.prog Try.f5 Rows.metricNaturalRow.domain false) (Rows.metricNaturalSpec.post enc Try.prog Try.f5 false true false false) := by
  refine returnsInHanded_of_change_sized (C := Try.checked) own started (by kernel_rfl) Try.func5
    (ChangeSpec.witness6 (enc := enc) (C := Try.checked) false ⟨#[], #[.slice none 0 0, .int .i64 0, .int .i64 0], []⟩ 8 (by kernel_rfl) (by kernel_rfl) (by kernel_rfl) (by kernel_rfl)) ?_
  intro W base args ds gs before hval0 hW hcnd hsz0 _
  have hval : ∀ (j : Nat) t v, Try.f5.params[j]? = some t → args[j]? = some v → Value.okWide Try.prog W .any base t v := hval0
  have hW' := hW
  obtain ⟨p, q, hA0, hV, rfl, hfz, hnd⟩ := hW
  have hA : DataW.TrodAll enc Try.prog W 0 (fun _ => true) true Try.f5.params.toList args.toList ds p := hA0
  have hsz : (DataW.weightsEach Try.prog (Try.f5.params.toList ++ Rows.metricNaturalSpec.plain.varTypes Try.prog) (ds ++ gs)).all (· ≤ reachBytes) = true := hsz0
  rw [Try.params5] at hA hval hsz
  obtain ⟨v0, vs0, d0, ds0, p0, q0, hargs, rfl, rfl, h0, r0⟩ := trodAll_cons hA
  obtain ⟨v1, vs1, d1, ds1, p1, q1, rfl, rfl, rfl, h1, r1⟩ := trodAll_cons r0
  obtain ⟨v2, vs2, d2, ds2, p2, q2, rfl, rfl, rfl, h2, r2⟩ := trodAll_cons r1
  obtain ⟨rfl, rfl, rfl⟩ := trodAll_nil r2
  obtain rfl : args = #[v0, v1, v2] := by cases args; simp_all
  obtain ⟨rfl, rfl⟩ := trodVars_none hV
  obtain ⟨a, len, cap, rfl⟩ := okWide_slice Try.underlying36 (hval 0 36 v0 rfl rfl)
  have k0 := h0
  have lt0 : ∀ x ∈ p0, x.block < W.heap.size := by obtain ⟨m, hm⟩ := k0; exact DataW.trod_lt m _ _ _ hm
  obtain ⟨fuel, hf⟩ := h0
  obtain ⟨v, qs, hv, hS, hlq, hx⟩ := recs_in (α := Ms) (k := 6) (f := msL) Try.underlying36 (by kernel_rfl) (by decide) (fun _ _ _ h1 h2 => ms_at h1 h2) hf
  have hv' : Value.slice a len cap = v := by simpa [Value.cells] using hv
  subst hv'
  have hbytes : qs.length * 48 ≤ 140737488351232 := by
    rcases hx with ⟨_, rfl⟩ | ⟨es, sp, hx, hel⟩
    · simp
    · have hx' : d0 = .slice es sp := hx
      subst hx'
      have := sized_slice hsz (j := 0) (t := 36) (e := 43) rfl rfl Try.underlying36
      have b43 : Try.prog.bytesOf 43 = 48 := by kernel_rfl
      rw [b43, hel] at this
      simp only [reachBytes] at this
      omega
  obtain ⟨a1, rfl, rfl, rfl, w1⟩ := open_int Try.underlying3 (hval 1 3 v1 rfl rfl) h1
  obtain ⟨a2, rfl, rfl, rfl, w2⟩ := open_int Try.underlying3 (hval 2 3 v2 rfl rfl) h2
  clear hA0 hval0
  simp only [List.append_nil] at hW'
  refine (walk _ qs a1 a2 hbytes W hS).mono fun e W' ⟨he, hg⟩ => ?_
  subst he
  exact ⟨_, rfl, _, _, _, [], _, [], hW', trodAll_mk1 (shut_bool Try.underlying4 _), (trodAll_cons_mk (Below.trod laidOut (by kernel_rfl) (of_decide_eq_true (by kernel_rfl)) k0 hg lt0) (trodAll_cons_mk (shut_int Try.underlying3 w1) (trodAll_cons_mk (shut_int Try.underlying3 w2) trodAll_mk0))), rfl, hg.frame _, fun h => by cases h⟩

theorem over : Rows.metricNaturalRow.holds Try.pinned (OpenSpec.ofChange Rows.metricNaturalSpec) :=
  OpenClaim.holds_of_wide 5 Try.f5 rfl rfl rfl rfl rfl rfl rfl ⟨rfl, rfl, rfl, rfl, rfl⟩ rfl rfl rfl rfl rfl (by kernel_rfl) Try.func5 (by kernel_rfl)
    (of_decide_eq_true (by kernel_rfl)) (by unfold Func.isWrapper; first | (rw [if_pos (by decide +kernel)]; kernel_rfl) | (rw [if_neg (by decide +kernel)]; exact ⟨rfl, rfl⟩))
    (fun os started H enc _ => lifted os started H enc)

end Go.Proofs.Ytidmmllbobimeaa.metricNatural
namespace Go.Proofs.Ytidmmllbobimeaa

theorem metricNatural_holds : Rows.MetricNaturalSaid := metricNatural.over

end Go.Proofs.Ytidmmllbobimeaa
