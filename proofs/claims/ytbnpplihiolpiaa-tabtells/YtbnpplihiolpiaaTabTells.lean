/-
  What is proved here: TabTells answers true at every input, with no condition: which stops may be, which one is behind a place, and where something lands, is told as the document says; what is handed in stays.
-/
import Derived.Test.YtbnpplihiolpiaaEx
import Derived.Test.YtbnpplihiolpiaaOpen
import Derived.ProofKit
import Derived.OpenShut
import Derived.SizedLaws
namespace Go.Proofs.Ytbnpplihiolpiaa.tabTells
open Go.ChangeShapes Go.WideShapes Go.ChangeAt Go.RowKit Go.WideMaps Go.WideElems
open Go.ChangeMaps (open_string shut_string)



theorem info24' : (Try.prog.info? 24).map (fun i => (i.zero, i.size, i.bytes)) = some (some (.agg #[.int .i64 0, .int .i64 0]), 2, 16) := by kernel_rfl
theorem boxed (W : World) (s : St) : SB ((W.alloc (Obj.cells #[.int .i64 0, .int .i64 0] 24)).setRow W.heap.size (stC s)) W.heap.size s ∧ Below W.heap.size W ((W.alloc (Obj.cells #[.int .i64 0, .int .i64 0] 24)).setRow W.heap.size (stC s)) :=
  ⟨(SB.new W ⟨0, 0⟩).set _, below_row ((Below.refl W.heap.size W).alloc (Nat.le_refl _) (.cells (stC ⟨0, 0⟩) 24)) (by simp) (Nat.le_refl _) _⟩
set_option maxRecDepth 100000 in
set_option maxHeartbeats 4000000 in
theorem walk (v : Value) (l : List St) (x n : Int) (hl : l.length * 16 ≤ 140737488351232) (w : World) (hS : RecAt 2 stL w v l) :
    Calls Try.prog 3 #[v, .int .i64 x, .int .i64 n] w fun e w' => e = .returned (.bool true) ∧ Below w.heap.size w w' := by
  obtain ⟨i0, hi, hz0, hz1, hz2⟩ := info_parts info24'
  have hlen : l.length ≤ 9223372036854775807 := by omega
  have hb1 := (Below.refl w.heap.size w).alloc (Nat.le_refl _) (.cells #[] 24)
  have hsrc := rec_srcs stL_len stL_one (by decide) (hS.below hb1 (Nat.le_refl _))
  obtain ⟨a, cap, hv, _⟩ := hS.ex
  subst hv
  go_enter Try.func3, Try.ntmps3
  go_wp2_with (at_builtin; refine wpList_append_any _ rfl _ _ 22 rfl w.heap.size 24 i0 _ 2 16 Try.underlying22 hi hz0 hz1 hz2 rfl (by decide) _ 0 [] rfl (ownsRow_lit w 24 2 _ (Nat.le_refl _)) l.length (l.flatMap stL) _ rfl hsrc (by unfold maxLen; omega) (by omega) (by simp) ?_; intro v' w2 hown hgrow; rw [Nat.zero_add, List.nil_append] at hown)
  have B2 : Below w.heap.size w w2 := below_grown hb1 (ownsRow_lit w 24 2 _ (Nat.le_refl _)) (Nat.le_refl _) (Nat.le_refl _) hgrow
  have S2 := hS.below B2 (Nat.le_refl _)
  have I2 : RecAt 2 stL w2 v' l := rec_of_row stL_len rfl hown
  clear hb1 hsrc hown hgrow hS
  have hn := next_any v' l x hlen w2 I2
  have hm := fun W h => rnext_any (.slice a l.length cap) l x hlen W h
  have hp := fun W h => land_any v' l x n hlen W h
  have hq := fun W h => rland_any (.slice a l.length cap) l x n hlen W h
  generalize nxS l x = z at *
  generalize nxE l x = y at *
  generalize ldV l x n = z' at *
  generalize ldE l x n = y' at *
  obtain ⟨za, zk⟩ := z
  unfold stV at hn hm
  obtain ⟨a', cap', hv', _⟩ := I2.ex
  subst hv'
  refine hn.mono ?_
  rintro e w3 ⟨rfl, b3⟩
  obtain ⟨sb4, b4⟩ := boxed w3 ⟨za, zk⟩
  have hlt3 := sb4.lt
  clear hn
  go_wp2_with (refine wpList_store_row rfl 24 _ _ rfl w3.heap.size (stC ⟨za, zk⟩) rfl rfl 24 _ (SB.new w3 ⟨0, 0⟩).row (info24 _) rfl (stC_one _) ?_)
  generalize ((w3.alloc (Obj.cells #[.int .i64 0, .int .i64 0] 24)).setRow w3.heap.size (stC ⟨za, zk⟩)) = w4 at *
  have b4' := b3.trans (b4.mono b3.size)
  have B4 := B2.trans (b4'.mono B2.size)
  have S4 := S2.below b4' (Nat.le_refl _)
  have I4 := I2.below b4' (Nat.le_refl _)
  refine (hm w4 S4).mono ?_
  rintro e w5 ⟨rfl, b5⟩
  obtain ⟨sb6', b6⟩ := boxed w5 ⟨za, zk⟩
  have hlt5 := sb6'.lt
  have hz5 := b5.size
  clear hm
  go_wp2_with (refine wpList_store_row rfl 24 _ _ rfl w5.heap.size (stC ⟨za, zk⟩) rfl rfl 24 _ (SB.new w5 ⟨0, 0⟩).row (info24 _) rfl (stC_one _) ?_)
  generalize ((w5.alloc (Obj.cells #[.int .i64 0, .int .i64 0] 24)).setRow w5.heap.size (stC ⟨za, zk⟩)) = w6 at *
  have b6' := b5.trans (b6.mono b5.size)
  have B6 := B4.trans (b6'.mono B4.size)
  have S6 := S4.below b6' (Nat.le_refl _)
  have I6 := I4.below b6' (Nat.le_refl _)
  have sb6 := sb4.below b6' hlt3
  clear b3 b4 b4' b5 b6 b6' S2 I2 S4 I4 B2 B4 sb4
  refine (hp w6 I6).mono ?_
  rintro e w7 ⟨rfl, b7⟩
  have B7 := B6.trans (b7.mono B6.size)
  have S7 := S6.below b7 (Nat.le_refl _)
  have I7 := I6.below b7 (Nat.le_refl _)
  have sb7 := sb6.below b7 sb6.lt
  have sb7' := sb6'.below b7 sb6'.lt
  clear hp b7 B6 S6 I6 sb6 sb6'
  go_wp2_with fail
  refine (hq w7 S7).mono ?_
  rintro e w8 ⟨rfl, b8⟩
  have B8 := B7.trans (b8.mono B7.size)
  have S8 := S7.below b8 (Nat.le_refl _)
  have I8 := I7.below b8 (Nat.le_refl _)
  have sb8 := sb7.below b8 sb7.lt
  have sb8' := sb7'.below b8 sb7'.lt
  clear hq b8 B7 S7 I7 sb7 sb7'
  have hlt8 := sb8.lt
  have hlt8' := sb8'.lt
  have hne : ¬ w3.heap.size = w5.heap.size := by omega
  generalize w3.heap.size = N3 at *
  generalize w5.heap.size = N5 at *
  clear hlt3 hlt5 hz5
  go_wp2_with fail
  go_loopw [16] (fun i wr => ∃ k : Nat, k ≤ l.length ∧ i = .int .i64 k ∧ Below w8.heap.size w8 wr) (fun i _ => l.length - (intOf i).toNat)
  case atStart => exact ⟨0, by omega, rfl, Below.refl _ _⟩
  case round =>
    obtain ⟨k, hk, rfl, hb⟩ := hrel
    by_cases hlt : k < l.length
    · obtain ⟨a0, cap0, e0, h2⟩ := S8.ex
      obtain ⟨a1, cap1, e1, h3⟩ := I8.ex
      cases e0
      cases e1
      rcases h2 with h2 | ⟨b, o, rfl, hbl, hc⟩
      · rw [h2] at hlt; simp at hlt
      rcases h3 with h3 | ⟨b', o', rfl, hbl', hc'⟩
      · rw [h3] at hlt; simp at hlt
      have hlt' : (k : Int) < l.length := by omega
      have c0 : wr.cell? ⟨b, o + k * 2, none⟩ = some (.int .i64 l[k].a) := (hb.cell hbl).trans (hc k hlt 0 _ rfl)
      have c1 : wr.cell? ⟨b, o + k * 2 + 1, none⟩ = some (.int .i64 l[k].k) := (hb.cell hbl).trans (hc k hlt 1 _ rfl)
      have d0 : wr.cell? ⟨b', o' + k * 2, none⟩ = some (.int .i64 l[k].a) := (hb.cell hbl').trans (hc' k hlt 0 _ rfl)
      have d1 : wr.cell? ⟨b', o' + k * 2 + 1, none⟩ = some (.int .i64 l[k].k) := (hb.cell hbl').trans (hc' k hlt 1 _ rfl)
      clear hc hc' S8 I8 sb8 sb8'
      generalize l[k].a = q0 at *
      generalize l[k].k = q1 at *
      go_wp2_with fail
      go_quiet (fail)
      go_wp2_with fail
      go_roundw
      case rel => exact ⟨k + 1, by omega, by simp, below_drewN hb _⟩
      case measure => simp [intOf]; omega
    · have hge : ¬ (k : Int) < l.length := by omega
      have S9 := S8.below hb (Nat.le_refl _)
      have I9 := I8.below hb (Nat.le_refl _)
      have B9 := B8.trans (hb.mono B8.size)
      have sb9 := sb8.below hb hlt8
      have sb9' := sb8'.below hb hlt8'
      have c0 : wr.cell? ⟨N3, 0, none⟩ = some (.int .i64 za) := sb9.c0
      have c1 : wr.cell? ⟨N3, 1, none⟩ = some (.int .i64 zk) := sb9.c1
      have d0 : wr.cell? ⟨N5, 0, none⟩ = some (.int .i64 za) := sb9'.c0
      have d1 : wr.cell? ⟨N5, 1, none⟩ = some (.int .i64 zk) := sb9'.c1
      have hc := check_any _ l hlen wr I9
      have hd := fun W h => rcheck_any (.slice a l.length cap) l hlen W h
      generalize ckI l = cz at *
      clear sb9 sb9' sb8 sb8' S8 I8 B8
      go_wp2_with fail
      refine hc.mono ?_
      rintro e w10 ⟨rfl, b10⟩
      have S10 := S9.below b10 (Nat.le_refl _)
      have B10 := B9.trans (b10.mono B9.size)
      go_wp2_with fail
      refine (hd w10 S10).mono ?_
      rintro e w11 ⟨rfl, b11⟩
      have B11 := B10.trans (b11.mono B10.size)
      go_wp2_with fail
      refine (awake_any w11).mono ?_
      rintro e w12 ⟨rfl, b12⟩
      have B12 := B11.trans (b12.mono B11.size)
      go_wp2_with fail
      go_ret
      exact ⟨rfl, B12⟩

set_option maxRecDepth 100000 in
theorem lifted (os : Os) (started : os.Started) (H : Type) (enc : TypeId × Value → H) :
    ReturnsInHanded {} Try.checked os 3 .any (Rows.tabTellsSpec.pre6 enc Try.prog Try.f3 Rows.tabTellsRow.domain false) (Rows.tabTellsSpec.post enc Try.prog Try.f3 false true false false) := by
  refine returnsInHanded_of_change_sized (C := Try.checked) own started (by kernel_rfl) Try.func3
    (ChangeSpec.witness6 (enc := enc) (C := Try.checked) false ⟨#[], #[.slice none 0 0, .int .i64 0, .int .i64 0], []⟩ 8 (by kernel_rfl) (by kernel_rfl) (by kernel_rfl) (by kernel_rfl)) ?_
  intro W base args ds gs before hval0 hW hcnd hsz0 _
  have hval : ∀ (j : Nat) t v, Try.f3.params[j]? = some t → args[j]? = some v → Value.okWide Try.prog W .any base t v := hval0
  have hW' := hW
  obtain ⟨p, q, hA0, hV, rfl, hfz, hnd⟩ := hW
  have hA : DataW.TrodAll enc Try.prog W 0 (fun _ => true) true Try.f3.params.toList args.toList ds p := hA0
  have hsz : (DataW.weightsEach Try.prog (Try.f3.params.toList ++ Rows.tabTellsSpec.plain.varTypes Try.prog) (ds ++ gs)).all (· ≤ reachBytes) = true := hsz0
  rw [Try.params3] at hA hval hsz
  obtain ⟨v0, vs0, d0, ds0, p0, q0, hargs, rfl, rfl, h0, r0⟩ := trodAll_cons hA
  obtain ⟨v1, vs1, d1, ds1, p1, q1, rfl, rfl, rfl, h1, r1⟩ := trodAll_cons r0
  obtain ⟨v2, vs2, d2, ds2, p2, q2, rfl, rfl, rfl, h2, r2⟩ := trodAll_cons r1
  obtain ⟨rfl, rfl, rfl⟩ := trodAll_nil r2
  obtain rfl : args = #[v0, v1, v2] := by cases args; simp_all
  obtain ⟨rfl, rfl⟩ := trodVars_none hV
  obtain ⟨a, len, cap, rfl⟩ := okWide_slice Try.underlying22 (hval 0 22 v0 rfl rfl)
  have k0 := h0
  have lt0 : ∀ x ∈ p0, x.block < W.heap.size := by obtain ⟨m, hm⟩ := k0; exact DataW.trod_lt m _ _ _ hm
  obtain ⟨fuel, hf⟩ := h0
  obtain ⟨v, qs, hv, hS, hlq, hx⟩ := recs_in (α := St) (k := 2) (f := stL) Try.underlying22 (by kernel_rfl) (by decide) (fun _ _ _ h1 h2 => st_at h1 h2) hf
  have hv' : Value.slice a len cap = v := by simpa [Value.cells] using hv
  subst hv'
  have hbytes : qs.length * 16 ≤ 140737488351232 := by
    rcases hx with ⟨_, rfl⟩ | ⟨es, sp, hx, hel⟩
    · simp
    · have hx' : d0 = .slice es sp := hx
      subst hx'
      have := sized_slice hsz (j := 0) (t := 22) (e := 24) rfl rfl Try.underlying22
      have b24 : Try.prog.bytesOf 24 = 16 := by kernel_rfl
      rw [b24, hel] at this
      simp only [reachBytes] at this
      omega
  obtain ⟨a1, rfl, rfl, rfl, w1⟩ := open_int Try.underlying3 (hval 1 3 v1 rfl rfl) h1
  obtain ⟨a2, rfl, rfl, rfl, w2⟩ := open_int Try.underlying3 (hval 2 3 v2 rfl rfl) h2
  clear hA0 hval0
  simp only [List.append_nil] at hW'
  refine (walk _ qs a1 a2 hbytes W hS).mono fun e W' ⟨he, hg⟩ => ?_
  subst he
  exact ⟨_, rfl, _, _, _, [], _, [], hW', trodAll_mk1 (shut_bool Try.underlying4 _), (trodAll_cons_mk (Below.trod laidOut (by kernel_rfl) (of_decide_eq_true (by kernel_rfl)) k0 hg lt0) (trodAll_cons_mk (shut_int Try.underlying3 w1) (trodAll_cons_mk (shut_int Try.underlying3 w2) trodAll_mk0))), rfl, hg.frame _, fun h => by cases h⟩

theorem over : Rows.tabTellsRow.holds Try.pinned (OpenSpec.ofChange Rows.tabTellsSpec) :=
  OpenClaim.holds_of_wide 3 Try.f3 rfl rfl rfl rfl rfl rfl rfl ⟨rfl, rfl, rfl, rfl, rfl⟩ rfl rfl rfl rfl rfl (by kernel_rfl) Try.func3 (by kernel_rfl)
    (of_decide_eq_true (by kernel_rfl)) (by unfold Func.isWrapper; first | (rw [if_pos (by decide +kernel)]; kernel_rfl) | (rw [if_neg (by decide +kernel)]; exact ⟨rfl, rfl⟩))
    (fun os started H enc _ => lifted os started H enc)

end Go.Proofs.Ytbnpplihiolpiaa.tabTells
namespace Go.Proofs.Ytbnpplihiolpiaa

theorem tabTells_holds : Rows.TabTellsSaid := tabTells.over

end Go.Proofs.Ytbnpplihiolpiaa
