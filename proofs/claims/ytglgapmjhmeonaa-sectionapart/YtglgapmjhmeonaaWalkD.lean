/-
  What is proved here: slices.Concat puts lists of texts together; what the bytes of a text may be.
-/
import Derived.Test.YtglgapmjhmeonaaWalkC
import Derived.Lib.AppendZeros
namespace Go.Proofs.Ytglgapmjhmeonaa
open Go.RowKit Go.Shelf

theorem info9 : (Try.prog.info? 9).map (fun i => (i.zero, i.size, i.bytes)) = some (some (.string ⟨#[]⟩), 1, 16) := by kernel_rfl

set_option maxHeartbeats 1000000 in
/-- slices.Grow of no list. -/
theorem grow_nil (n : Nat) (hn : n ≤ 1000000) (w : World) :
    Calls Try.prog 45 #[.slice none 0 0, .int .i64 n] w fun e w' => ∃ v, e = .returned v ∧ w'.ownsRow w.heap.size 9 1 v 0 [] ∧ Below w.heap.size w w' := by
  obtain ⟨i0, hi, hz0, hz1, hz2⟩ := info_parts info9
  by_cases h0 : n = 0
  · subst h0
    go_enter Try.func45, Try.ntmps45
    go_wp2
    go_ret
    exact ⟨_, rfl, World.ownsRow_nil _ _ _ _, Below.refl _ _⟩
  · have happ := Lib.run_append_nil_zeros (P := Try.prog) w 60 3 60 9 i0 _ .i64 .i64 Try.underlying60 Try.underlying3 hi hz0 n (by omega) (by omega) (by omega) (by rw [hz2]; omega)
    have hge := grownCap_ge w n 0 9
    have hle := grownCap_le_maxLen w n 0 9 (by unfold maxLen; omega)
    generalize hG : grownCap w n 0 9 = G at happ hge hle
    obtain ⟨cs, hcs⟩ : ∃ cs, Builtin.zeroCells (Value.string ⟨#[]⟩).cells n ++ Builtin.zeroCells (Value.string ⟨#[]⟩).cells (G - n) = cs := ⟨_, rfl⟩
    rw [hcs] at happ
    have hsz : cs.size = G * 1 := by
      rw [← hcs, Array.size_append, size_zeroCells, size_zeroCells]
      show n * 1 + (G - n) * 1 = G * 1
      omega
    have hB : Below w.heap.size w (w.drew.alloc (.cells cs 9)) := (show Below w.heap.size w w.drew from ⟨rfl, rfl, rfl, Nat.le_refl _, fun _ _ => rfl⟩).alloc (Nat.le_refl _) _
    clear hcs hG
    go_enter Try.func45, Try.ntmps45
    go_wp2_with (at_builtin; refine Lib.wpList_append_run _ rfl _ _ _ _ rfl _ _ rfl rfl _ _ happ ?_)
    go_ret
    exact ⟨_, rfl, ⟨rfl, .inr ⟨w.heap.size, G, cs, rfl, Nat.le_refl _, heap_new w.drew _, by omega, hle, hsz, by simp⟩⟩, hB⟩

/-- Texts, in a list of the call's own. -/
def txRow (ts : List Str) : List Value := ts.map Value.string
def RowAt (W : World) (base : Nat) (v : Value) (ts : List Str) : Prop := W.ownsRow base 9 1 v ts.length (txRow ts)
theorem RowAt.out {W : World} {base : Nat} {v : Value} {ts : List Str} (h : RowAt W base v ts) : W.ownsRow base 9 1 v ts.length (txRow ts) := h

/-- Texts, in a part of a block. -/
def SrcAt (W : World) (u : Value) (ts : List Str) : Prop := ∃ b o cap, u = .slice (some ⟨b, o, none⟩) ts.length cap ∧ b < W.heap.size ∧ ∀ (j : Nat) (h : j < ts.length), W.cell? ⟨b, o + j, none⟩ = some (.string ts[j])
theorem SrcAt.srcs {W W' : World} {n : Nat} {u : Value} {ts : List Str} (h : SrcAt W u ts) (hb : Below n W W') (hn : W.heap.size ≤ n) : Srcs W' 1 u ts.length (txRow ts) := by
  obtain ⟨b, o, cap, rfl, hlt, hc⟩ := h
  refine ⟨by simp [txRow], fun u hu => ?_, .inr ⟨_, cap, rfl, fun j u hu => ?_⟩⟩
  · obtain ⟨t, _, rfl⟩ := List.mem_map.1 hu; rfl
  · have hj : j < ts.length := by have := (List.getElem?_eq_some_iff.1 hu).1; simpa [txRow] using this
    rw [addr_add, (hb.cell (p := ⟨b, o + j, none⟩) (by show b < n; omega))]
    rw [hc j hj]
    simp [txRow, List.getElem?_eq_getElem hj] at hu
    rw [hu]

/-- Lists of texts, in a list. -/
def ListsAt (W : World) (v : Value) (tss : List (List Str)) : Prop := ∃ b cap, v = .slice (some ⟨b, 0, none⟩) tss.length cap ∧ b < W.heap.size ∧
  ∀ (i : Nat) (h : i < tss.length), ∃ u, W.cell? ⟨b, i, none⟩ = some u ∧ SrcAt W u tss[i]

theorem flat_succ (pss : List (List Str)) {k : Nat} (h : k < pss.length) : (pss.take (k + 1)).flatten = (pss.take k).flatten ++ pss[k] := by
  rw [List.take_succ_eq_append_getElem h, List.flatten_append]; simp
theorem flat_le (pss : List (List Str)) (k : Nat) : (pss.take k).flatten.length ≤ pss.flatten.length := by
  have h : pss.flatten = (pss.take k).flatten ++ (pss.drop k).flatten := by rw [← List.flatten_append, List.take_append_drop]
  rw [h, List.length_append]; omega

set_option maxRecDepth 100000 in
set_option maxHeartbeats 2000000 in
theorem concat_any (v : Value) (pss : List (List Str)) (hfew : pss.flatten.length ≤ 100000) (hm : pss.length ≤ 100) (w : World) (h : ListsAt w v pss) :
    Calls Try.prog 43 #[v] w fun e w' => ∃ u, e = .returned u ∧ RowAt w' w.heap.size u pss.flatten ∧ Below w.heap.size w w' := by
  obtain ⟨i0, hi, hz0, hz1, hz2⟩ := info_parts info9
  obtain ⟨b, cap, rfl, hb, hc⟩ := h
  have hc' : Hid _ := hc
  clear hc
  go_enter Try.func43, Try.ntmps43
  go_wp2_with fail
  go_loopw [3, 11] (fun s i wr => ∃ k : Nat, k ≤ pss.length ∧ i = .int .i64 k ∧ s = .int .i64 (pss.take k).flatten.length ∧ wr = w) (fun _ i _ => pss.length - (intOf i).toNat)
  case atStart => exact ⟨0, by omega, rfl, rfl, rfl⟩
  case round =>
    obtain ⟨k, hk, rfl, rfl, hw⟩ := hrel
    subst wr
    by_cases hlt : k < pss.length
    · obtain ⟨u, hu, hrow⟩ := hc'.out k hlt
      obtain ⟨a, o, cp, rfl, hxx1, hxx2⟩ := hrow
      clear hxx1 hxx2
      have hfl : ((pss.take (k + 1)).flatten.length : Int) = (pss.take k).flatten.length + pss[k].length := by rw [flat_succ pss hlt, List.length_append]; omega
      have hbd := flat_le pss (k + 1)
      generalize hA : (pss.take k).flatten.length = A at *
      generalize hB : (pss.take (k + 1)).flatten.length = B at *
      generalize hC : pss[k].length = C at *
      go_wp2_with fail
      go_roundw
      case rel => exact ⟨k + 1, by omega, by simp, by rw [hB, hfl], by first | rfl | trivial⟩
      case measure => simp [intOf]; omega
    · obtain rfl : k = pss.length := by omega
      rw [List.take_length]
      have hg := grow_nil pss.flatten.length (by omega) w
      generalize hN : pss.flatten.length = N at *
      go_wp2_with fail
      refine hg.mono ?_
      rintro e w1 ⟨v1, rfl, hrow1, B1⟩
      have hrow0 : RowAt w1 w.heap.size v1 [] := hrow1
      clear hrow1
      go_wp2_with fail
      go_loopw [6, 27] (fun v i wq => ∃ k : Nat, k ≤ pss.length ∧ i = .int .i64 k ∧ Below w.heap.size w wq ∧ RowAt wq w.heap.size v (pss.take k).flatten) (fun _ i _ => pss.length - (intOf i).toNat)
      case atStart => exact ⟨0, by omega, rfl, B1, hrow0⟩
      case round =>
        obtain ⟨k, hk, rfl, hbk, hrow⟩ := hrel
        by_cases hlt : k < pss.length
        · obtain ⟨u, hu, hsrc0⟩ := hc'.out k hlt
          have hu' : wr.cell? ⟨b, k, none⟩ = some u := (hbk.cell hb).trans hu
          have hsr : Srcs wr 1 u pss[k].length (txRow pss[k]) := hsrc0.srcs hbk (Nat.le_refl _)
          have hbd := flat_le pss (k + 1)
          have hfl := flat_succ pss hlt
          have hfll : (pss.take (k + 1)).flatten.length = (pss.take k).flatten.length + pss[k].length := by rw [hfl, List.length_append]
          obtain ⟨a, o, cp, rfl, hxx1, hxx2⟩ := hsrc0
          clear hxx1 hxx2
          have hsr' : Hid _ := hsr
          have hfl' : Hid _ := hfl
          clear hsr hfl
          go_wp2_with (at_builtin; refine wpList_append_any _ rfl _ _ 60 rfl w.heap.size 9 i0 _ 1 16 Try.underlying60 hi hz0 hz1 hz2 rfl (by decide) _ _ _ rfl hrow.out pss[k].length (txRow pss[k]) _ rfl hsr'.out (by unfold maxLen; omega) (by omega) hbk.size ?_; intro v' w2 hown hgrow; rw [show txRow (pss.take k).flatten ++ txRow pss[k] = txRow (pss.take (k + 1)).flatten by rw [hfl'.out]; simp [txRow], ← hfll] at hown)
          have hB2 : Below w.heap.size w w2 := below_grown hbk hrow.out (Nat.le_refl _) (Nat.le_refl _) hgrow
          have hown' : RowAt w2 w.heap.size v' (pss.take (k + 1)).flatten := hown
          clear hown
          go_wp2_with fail
          go_roundw
          case rel => exact ⟨k + 1, by omega, by simp, hB2, hown'⟩
          case measure => simp [intOf]; omega
        · obtain rfl : k = pss.length := by omega
          rw [List.take_length] at hrow
          go_wp2_with fail
          go_ret
          exact ⟨_, rfl, hrow, hbk⟩
end Go.Proofs.Ytglgapmjhmeonaa
