/-
  What is proved here: SpanChecks answers true at every input, with no condition: which lists may be the looks of so many bytes is told as the document says, and what is handed in stays.
-/
import Derived.Test.YtjakmekifpbldaaWalkD
import Derived.Test.YtjakmekifpbldaaRow
import Derived.ProofKit
import Derived.OpenShut
import Derived.ChangeOld
import Derived.Below
import Derived.Deep.Slices
namespace Go.Proofs.Ytjakmekifpbldaa.spanChecks
open Go.ChangeShapes Go.WideShapes Go.ChangeAt Go.RowKit

theorem own : ownKnob Try.prog.godebug = none := by kernel_rfl
theorem laidOut : laidOutB Try.prog = true := by kernel_rfl
theorem info61 : (Try.prog.info? 61).map (fun i => (i.zero, i.size, i.bytes)) = some (some (.agg #[.int .i64 0, .int .i64 0, .int .i64 0, .int .i64 0]), 4, 32) := by kernel_rfl

def ipCells (p : Ip) : List Value := [.int .i64 p.1, .int .i64 p.2.s, .int .i64 p.2.t, .int .i64 p.2.k]
def ipRow (ps : List Ip) : List Value := ps.flatMap ipCells
theorem ipRow_length (ps : List Ip) : (ipRow ps).length = ps.length * 4 := by
  induction ps with
  | nil => rfl
  | cons p r ih => simp [ipRow, List.flatMap_cons, ipCells] at ih ⊢; omega
theorem ipRow_get (ps : List Ip) {i : Nat} (h : i < ps.length) (j : Nat) (hj : j < 4) : (ipRow ps)[i * 4 + j]? = (ipCells ps[i])[j]? := by
  have hs : ps = ps.take i ++ (ps[i] :: ps.drop (i + 1)) := by simp
  conv => lhs; rw [hs]
  have ha : ipRow (ps.take i ++ (ps[i] :: ps.drop (i + 1))) = ipRow (ps.take i) ++ (ipCells ps[i] ++ ipRow (ps.drop (i + 1))) := by unfold ipRow; rw [List.flatMap_append, List.flatMap_cons]
  have hl : (ipRow (ps.take i)).length = i * 4 := by rw [ipRow_length, List.length_take, Nat.min_eq_left (by omega)]
  rw [ha, List.getElem?_append_right (by omega), hl, List.getElem?_append_left (by simp [ipCells]; omega)]
  congr 1; omega
theorem ipRow_one (ps : List Ip) : ∀ u ∈ ipRow ps, u.oneCell' = true := by
  intro u hu
  obtain ⟨p, _, hp⟩ := List.mem_flatMap.1 hu
  simp [ipCells] at hp
  rcases hp with rfl | rfl | rfl | rfl <;> rfl

theorem srcs_of {W : World} {v : Value} {qs : List Ip} (h : SpansAt W v qs) : Srcs W 4 v qs.length (ipRow qs) := by
  refine ⟨ipRow_length qs, ipRow_one qs, ?_⟩
  obtain ⟨a, cap, rfl, h2⟩ := h.ex
  rcases h2 with rfl | ⟨b, o, rfl, hlt, hc⟩
  · cases a with
    | none => exact .inl ⟨rfl, cap, rfl⟩
    | some a => exact .inr ⟨a, cap, rfl, fun j u hu => by simp [ipRow] at hu⟩
  · refine .inr ⟨_, cap, rfl, fun j u hu => ?_⟩
    have hj : j < qs.length * 4 := by rw [← ipRow_length]; exact (List.getElem?_eq_some_iff.1 hu).1
    have hi : j / 4 < qs.length := by omega
    have hg := ipRow_get qs hi (j % 4) (by omega)
    have hjj : j / 4 * 4 + j % 4 = j := by omega
    rw [hjj, hu] at hg
    obtain ⟨c0, c1, c2, c3⟩ := hc (j / 4) hi
    rw [addr_add]
    have h4 : j % 4 = 0 ∨ j % 4 = 1 ∨ j % 4 = 2 ∨ j % 4 = 3 := by omega
    rcases h4 with h4 | h4 | h4 | h4 <;> rw [h4] at hg <;> simp [ipCells] at hg <;> subst hg
    · rw [← c0]; congr 2; omega
    · rw [← c1]; congr 2; omega
    · rw [← c2]; congr 2; omega
    · rw [← c3]; congr 2; omega

theorem spans_of_row {W : World} {base : Nat} {v : Value} {qs : List Ip} (h : W.ownsRow base 61 4 v qs.length (ipRow qs)) (hl : ∀ q ∈ qs, -9223372036854775808 ≤ q.1 ∧ q.1 ≤ 9223372036854775807) (hf : qs.length ≤ 9223372036854775807) : SpansAt W v qs := by
  have hcs := fun g cap (hv : v = .slice (some ⟨g, 0, none⟩) qs.length cap) => (by subst hv; exact h.cells (g := g) rfl : ∀ j u, (ipRow qs)[j]? = some u → W.cell? ((⟨g, 0, none⟩ : Addr).add j) = some u)
  refine ⟨?_, hl, hf⟩
  rcases h.2 with ⟨rfl, hn⟩ | ⟨g, cap, cur, rfl, hb', hg, r⟩
  · have : qs = [] := List.eq_nil_of_length_eq_zero hn
    exact ⟨none, 0, by rw [hn], .inl this⟩
  · refine ⟨_, cap, rfl, .inr ⟨g, 0, rfl, (Array.getElem?_eq_some_iff.1 hg).1, fun i hi => ?_⟩⟩
    have hc : ∀ j u, (ipRow qs)[j]? = some u → W.cell? ⟨g, j, none⟩ = some u := fun j u hu => by have := hcs g cap rfl j u hu; rwa [addr_add0] at this
    simp only [Nat.zero_add]
    exact ⟨hc _ _ (ipRow_get qs hi 0 (by omega)), hc _ _ (ipRow_get qs hi 1 (by omega)), hc _ _ (ipRow_get qs hi 2 (by omega)), hc _ _ (ipRow_get qs hi 3 (by omega))⟩

set_option maxHeartbeats 1000000 in
set_option maxRecDepth 100000 in
theorem walk (v : Value) (qs : List Ip) (n : Int) (hn : -9223372036854775808 ≤ n ∧ n ≤ 9223372036854775807) (w : World) (hS : SpansAt w v qs) :
    Calls Try.prog 4 #[v, .int .i64 n] w fun e w' => e = .returned (.bool true) ∧ Below w.heap.size w w' := by
  obtain ⟨i0, hi, hz0, hz1, hz2⟩ := info_parts info61
  have hsrc := srcs_of hS
  have hlen := hS.few
  obtain ⟨a, cap, hv, _⟩ := hS.ex
  subst hv
  by_cases h200 : 200 < qs.length
  · go_enter Try.func4, Try.ntmps4
    go_wp2_with fail
    go_ret
    exact ⟨rfl, Below.refl _ _⟩
  · have hsrc' : Srcs (w.alloc (.cells #[] 61)) 4 (.slice a qs.length cap) qs.length (ipRow qs) := by
      refine ⟨hsrc.1, hsrc.2.1, ?_⟩
      rcases hsrc.2.2 with h | ⟨x, c, he, hc⟩
      · exact .inl h
      · exact .inr ⟨x, c, he, fun j u hu => by have h0 := hc j u hu; exact (((Below.refl _ w).alloc (Nat.le_refl _) _).cell (World.block_lt_of_cell? _ _ h0)).trans h0⟩
    go_enter Try.func4, Try.ntmps4
    go_wp2_with (at_builtin; refine wpList_append_any _ rfl _ _ 40 rfl w.heap.size 61 i0 _ 4 32 Try.underlying40 hi hz0 hz1 hz2 rfl (by decide) _ 0 [] rfl (ownsRow_lit w 61 4 _ (Nat.le_refl _)) qs.length (ipRow qs) _ rfl hsrc' (by unfold maxLen; omega) (by omega) (by simp) ?_; intro v' w2 hown hgrow; rw [Nat.zero_add, List.nil_append] at hown)
    have hB : Below w.heap.size w w2 := below_grown ((Below.refl _ w).alloc (Nat.le_refl _) _) (ownsRow_lit w 61 4 _ (Nat.le_refl _)) (Nat.le_refl _) (Nat.le_refl _) hgrow
    have hS2 := hS.below hB
    have hI2 : SpansAt w2 v' qs := spans_of_row hown hS.lens hS.few
    refine (check_any v' qs n hn w2 hI2).mono ?_
    rintro e w3 ⟨rfl, B3⟩
    have hS3 := hS2.below B3
    have hI3 := hI2.below B3
    go_wp2_with fail
    refine (refCheck_any _ qs n hn w3 hS3).mono ?_
    rintro e w4 ⟨rfl, B4⟩
    have hS4 := hS3.below B4
    have hI4 := hI3.below B4
    have hsp := spans_any _ _ qs qs w4 hI4 hS4
    rw [decide_eq_true rfl] at hsp
    go_wp2_with fail
    refine hsp.mono ?_
    rintro e w5 ⟨rfl, B5⟩
    go_wp2_with fail
    go_ret
    have C3 := hB.trans (B3.mono hB.size)
    have C4 := C3.trans (B4.mono C3.size)
    exact ⟨rfl, C4.trans (B5.mono C4.size)⟩

theorem ch_at {H : Type} {enc : TypeId × Value → H} {W : World} {spare : Nat → Bool} {held : Bool} {n : Nat} {cs : List Value} {x : DataW H × List MemPlace}
    (hl : cs.length = 3) (ht : DataW.trod enc Try.prog W 0 spare held n 23 cs = some x) : ∃ c : Ch, cs = [.int .i64 c.s, .int .i64 c.t, .int .i64 c.k] := by
  obtain ⟨xs, m, _, _, _, hxl, hf⟩ := DataW.trod_struct Try.underlying23 ht
  have c3 : Try.prog.cellsOf 3 = 1 := by kernel_rfl
  have f0 : DataW.trod enc Try.prog W 0 spare held m 3 ((cs.drop 0).take (Try.prog.cellsOf 3)) = xs[0]? := hf 0 _ rfl
  have f1 : DataW.trod enc Try.prog W 0 spare held m 3 ((cs.drop 1).take (Try.prog.cellsOf 3)) = xs[1]? := hf 1 _ rfl
  have f2 : DataW.trod enc Try.prog W 0 spare held m 3 ((cs.drop 2).take (Try.prog.cellsOf 3)) = xs[2]? := hf 2 _ rfl
  simp only [c3] at f0 f1 f2
  have hsz : xs.length = 3 := hxl
  obtain ⟨y0, y1, y2, rfl⟩ : ∃ y0 y1 y2, xs = [y0, y1, y2] := by
    match xs, hsz with
    | [y0, y1, y2], _ => exact ⟨_, _, _, rfl⟩
  obtain ⟨z0, z1, z2, rfl⟩ : ∃ y0 y1 y2, cs = [y0, y1, y2] := by
    match cs, hl with
    | [y0, y1, y2], _ => exact ⟨_, _, _, rfl⟩
  obtain ⟨a, e0, _, _⟩ := DataW.trod_int Try.underlying3 f0
  obtain ⟨b, e1, _, _⟩ := DataW.trod_int Try.underlying3 f1
  obtain ⟨c, e2, _, _⟩ := DataW.trod_int Try.underlying3 f2
  simp at e0 e1 e2
  subst e0 e1 e2
  exact ⟨⟨a, b, c⟩, rfl⟩

theorem sp_at {H : Type} {enc : TypeId × Value → H} {W : World} {spare : Nat → Bool} {held : Bool} {n : Nat} {b o : Nat} {cs : List Value} {x : DataW H × List MemPlace}
    (hc : W.cells? 0 ⟨b, o, none⟩ 4 = some cs) (ht : DataW.trod enc Try.prog W 0 spare held n 61 cs = some x) :
    ∃ q : Ip, (W.cell? ⟨b, o, none⟩ = some (.int .i64 q.1) ∧ W.cell? ⟨b, o + 1, none⟩ = some (.int .i64 q.2.s) ∧ W.cell? ⟨b, o + 2, none⟩ = some (.int .i64 q.2.t) ∧ W.cell? ⟨b, o + 3, none⟩ = some (.int .i64 q.2.k)) ∧ -9223372036854775808 ≤ q.1 ∧ q.1 ≤ 9223372036854775807 := by
  obtain ⟨_, hl, hce⟩ := World.cells?_some hc
  obtain ⟨xs, m, _, _, _, hxl, hf⟩ := DataW.trod_struct Try.underlying61 ht
  have c3 : Try.prog.cellsOf 3 = 1 := by kernel_rfl
  have c23 : Try.prog.cellsOf 23 = 3 := by kernel_rfl
  have f0 : DataW.trod enc Try.prog W 0 spare held m 3 ((cs.drop 0).take (Try.prog.cellsOf 3)) = xs[0]? := hf 0 _ rfl
  have f1 : DataW.trod enc Try.prog W 0 spare held m 23 ((cs.drop 1).take (Try.prog.cellsOf 23)) = xs[1]? := hf 1 _ rfl
  simp only [c3, c23] at f0 f1
  have hsz : xs.length = 2 := hxl
  obtain ⟨y0, y1, rfl⟩ : ∃ y0 y1, xs = [y0, y1] := by
    match xs, hsz with
    | [y0, y1], _ => exact ⟨_, _, rfl⟩
  obtain ⟨z0, z1, z2, z3, rfl⟩ : ∃ y0 y1 y2 y3, cs = [y0, y1, y2, y3] := by
    match cs, hl with
    | [y0, y1, y2, y3], _ => exact ⟨_, _, _, _, rfl⟩
  obtain ⟨a, e0, _, w0⟩ := DataW.trod_int Try.underlying3 f0
  obtain ⟨c, e1⟩ := ch_at (by simp) (show DataW.trod enc Try.prog W 0 spare held m 23 _ = some y1 from f1)
  simp at e0 e1
  obtain ⟨rfl, rfl, rfl⟩ := e1
  subst e0
  have g0 := hce 0 (by omega)
  have g1 := hce 1 (by omega)
  have g2 := hce 2 (by omega)
  have g3 := hce 3 (by omega)
  simp [Addr.add] at g0 g1 g2 g3
  exact ⟨(a, c), ⟨g0, g1, g2, g3⟩, bounds_i64 w0⟩

theorem spans_in {H : Type} {enc : TypeId × Value → H} {W : World} {a : Option Addr} {len cap : Nat} {d : DataW H} {ps : List MemPlace}
    (h : DataW.Trod enc Try.prog W 0 (fun _ => true) true 40 (.slice a len cap) d ps) : ∃ qs, SpansAt W (.slice a len cap) qs := by
  obtain ⟨fuel, hf⟩ := h
  have c61 : Try.prog.cellsOf 61 = 4 := by kernel_rfl
  rcases Deep.open_slice Try.underlying40 hf with ⟨hcs, _⟩ | ⟨x, l, c, m, n, D, Pl, hcs, _, hl, hm, hmm, _, hx⟩
  · simp [Value.cells] at hcs
    exact ⟨[], ⟨a, cap, by rw [hcs.2.1]; rfl, .inl rfl⟩, by simp, by simp⟩
  · simp [Value.cells] at hcs
    obtain ⟨rfl, rfl, rfl⟩ := hcs
    simp only [if_true] at hmm
    subst hmm
    rw [c61] at hx
    by_cases h0 : len = 0
    · subst h0
      exact ⟨[], ⟨_, _, rfl, .inl rfl⟩, by simp, by simp⟩
    · obtain ⟨b, off, spot⟩ := x
      obtain ⟨cs', hc0, ht0⟩ := hx 0 (by omega)
      have hb := World.cells?_block hc0 (by omega)
      obtain ⟨_, hl0, hce⟩ := World.cells?_some hc0
      have hg := hce 0 (by omega)
      have hspot : spot = none := by
        match cs', hl0 with
        | z :: _, _ => simpa [Addr.add] using World.cell?_spot hg
      subst hspot
      have hq : ∀ i : Fin len, ∃ q : Ip, (W.cell? ⟨b, off + i * 4, none⟩ = some (.int .i64 q.1) ∧ W.cell? ⟨b, off + i * 4 + 1, none⟩ = some (.int .i64 q.2.s) ∧ W.cell? ⟨b, off + i * 4 + 2, none⟩ = some (.int .i64 q.2.t) ∧ W.cell? ⟨b, off + i * 4 + 3, none⟩ = some (.int .i64 q.2.k)) ∧ -9223372036854775808 ≤ q.1 ∧ q.1 ≤ 9223372036854775807 := fun i => by
        obtain ⟨cs', hc1, ht1⟩ := hx i (by omega)
        rw [addr_add] at hc1
        exact sp_at hc1 ht1
      refine ⟨List.ofFn (fun i => Classical.choose (hq i)), ⟨_, _, by simp; exact rfl, .inr ⟨b, off, rfl, hb, fun i hi => ?_⟩⟩, fun q hq' => ?_, by simp; unfold maxLen at hm; omega⟩
      · have hi' : i < len := by simpa using hi
        have := (Classical.choose_spec (hq ⟨i, hi'⟩)).1
        simpa using this
      · obtain ⟨i, rfl⟩ := List.mem_ofFn.1 hq'
        exact (Classical.choose_spec (hq i)).2

set_option maxRecDepth 100000 in
theorem lifted (os : Os) (started : os.Started) (H : Type) (enc : TypeId × Value → H) :
    ReturnsInHanded {} Try.checked os 4 .any (Rows.spanChecksSpec.pre6 enc Try.prog Try.f4 Rows.spanChecksRow.domain false) (Rows.spanChecksSpec.post enc Try.prog Try.f4 false true false false) := by
  refine returnsInHanded_of_change (C := Try.checked) own started (by kernel_rfl) Try.func4
    (ChangeSpec.witness6 (enc := enc) (C := Try.checked) false ⟨#[], #[.slice none 0 0, .int .i64 0], []⟩ 8 (by kernel_rfl) (by kernel_rfl) (by kernel_rfl) (by kernel_rfl)) ?_
  intro W base args ds gs before hval0 hW hcnd _
  have hval : ∀ (j : Nat) t v, Try.f4.params[j]? = some t → args[j]? = some v → Value.okWide Try.prog W .any base t v := hval0
  have hW' := hW
  obtain ⟨p, q, hA0, hV, rfl, hfz, hnd⟩ := hW
  have hA : DataW.TrodAll enc Try.prog W 0 (fun _ => true) true Try.f4.params.toList args.toList ds p := hA0
  rw [Try.params4] at hA hval
  obtain ⟨v1, vs1, d1, ds1, p1, q1, hargs, rfl, rfl, h1, r1⟩ := trodAll_cons hA
  obtain ⟨v2, vs2, d2, ds2, p2, q2, rfl, rfl, rfl, h2, r2⟩ := trodAll_cons r1
  obtain ⟨rfl, rfl, rfl⟩ := trodAll_nil r2
  obtain rfl : args = #[v1, v2] := by cases args; simp_all
  obtain ⟨rfl, rfl⟩ := trodVars_none hV
  obtain ⟨a, len, cap, rfl⟩ := okWide_slice Try.underlying40 (hval 0 40 v1 rfl rfl)
  have k1 := h1
  have lt1 : ∀ x ∈ p1, x.block < W.heap.size := by obtain ⟨m, hm⟩ := k1; exact DataW.trod_lt m _ _ _ hm
  obtain ⟨a2, rfl, rfl, rfl, w2⟩ := open_int Try.underlying3 (hval 1 3 v2 rfl rfl) h2
  obtain ⟨qs, hS⟩ := spans_in h1
  clear hA0 hval0
  refine (walk _ qs a2 (bounds_i64 w2) W hS).mono fun e W' ⟨he, bel⟩ => ?_
  subst he
  exact ⟨_, rfl, _, _, _, [], _, [], hW', trodAll_mk1 (shut_bool Try.underlying4 _), (trodAll_cons_mk (Below.trod laidOut (by kernel_rfl) (of_decide_eq_true (by kernel_rfl)) k1 bel lt1) (trodAll_cons_mk (shut_int Try.underlying3 w2) trodAll_mk0)), rfl, bel.frame _, fun h => by cases h⟩

theorem over : Rows.spanChecksRow.holds Try.pinned (OpenSpec.ofChange Rows.spanChecksSpec) :=
  OpenClaim.holds_of_wide 4 Try.f4 rfl rfl rfl rfl rfl rfl rfl ⟨rfl, rfl, rfl, rfl, rfl⟩ rfl rfl rfl rfl rfl (by kernel_rfl) Try.func4 (by kernel_rfl)
    (of_decide_eq_true (by kernel_rfl)) (by unfold Func.isWrapper; first | (rw [if_pos (by decide +kernel)]; kernel_rfl) | (rw [if_neg (by decide +kernel)]; exact ⟨rfl, rfl⟩))
    (fun os started H enc _ => lifted os started H enc)

end Go.Proofs.Ytjakmekifpbldaa.spanChecks
namespace Go.Proofs.Ytjakmekifpbldaa

theorem spanChecks_holds : Rows.SpanChecksSaid := spanChecks.over

end Go.Proofs.Ytjakmekifpbldaa
