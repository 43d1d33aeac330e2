/-
  What is proved here: what match of a node does: the digits of patterns are laid.
-/
import Derived.Test.YtfblhpkndfbhgaaDoorAdd
namespace Go.Proofs.YtfblhpkndfbhgaaDoor
open Go.RowKit Go.Shelf

theorem row_get {w : World} {base : Nat} {e : TypeId} {v : Value} {n : Nat} {xs : List Value} (h : w.ownsRow base e 1 v n xs) {k : Nat} (hk : k < n) : ∃ g cap, v = .slice (some ⟨g, 0, none⟩) n cap ∧ n ≤ cap ∧ ∀ j, w.cell? ⟨g, j, none⟩ = (if j < n then xs[j]? else w.cell? ⟨g, j, none⟩) := by
  rcases h.2 with ⟨rfl, rfl⟩ | ⟨g, cap, cur, rfl, _, hg, hcap, _, _, htk⟩
  · omega
  · refine ⟨g, cap, rfl, hcap, fun j => ?_⟩
    by_cases hj : j < n
    · rw [if_pos hj, Lib.cell_of_heap hg, ← htk, List.getElem?_take_of_lt (by omega), Array.getElem?_toList]
    · rw [if_neg hj]
theorem ints_get (d : List Int) {k : Nat} (h : k < d.length) : (ints d)[k]? = some (.int .i64 (d[k]'h)) := by
  unfold ints
  rw [List.getElem?_map, List.getElem?_eq_getElem h]; rfl
theorem enum_take (i : Nat) (e : List Int) {k : Nat} (h : k < e.length) : enum i (e.take (k + 1)) = enum i (e.take k) ++ [(i + k, e[k]'h)] := by
  rw [List.take_succ_eq_append_getElem h, enum_append]
  simp [enum, List.length_take, Nat.min_eq_left (Nat.le_of_lt h)]
theorem drop_take_succ {t : ByteArray} {i q : Nat} (hi : i ≤ q) (h : q < t.size) : (t.data.toList.drop i).take (q - i + 1) = (t.data.toList.drop i).take (q - i) ++ [t[q]'h] := by
  have hl : q - i < (t.data.toList.drop i).length := by
    rw [List.length_drop, size_ba]; omega
  rw [List.take_succ_eq_append_getElem hl]
  simp only [List.getElem_drop, Nat.add_sub_cancel' hi]
  simp [ByteArray.getElem_eq_getElem_data]
theorem enum_lt {i : Nat} {e : List Int} {x : Nat × Int} (h : x ∈ enum i e) : x.1 < i + e.length := by
  obtain ⟨j, v⟩ := x
  obtain ⟨h1, h2⟩ := (enum_mem i e).1 h
  have := (List.getElem?_eq_some_iff.1 h2).1
  show j < _
  omega

section
variable {w0 w : World} {rb : Nat} {s e : Value} {T : Tr} {N : Ns} {M : Nat}
set_option maxRecDepth 100000 in
set_option maxHeartbeats 2000000 in
theorem match_any (h : TrieAt w0 rb s e T N M) (t : ByteArray) (ht : t.size ≤ 100) (i : Nat) (hi : i ≤ t.size) {v0 : Value} {b o : Nat} {cs : Array Value} {ty : TypeId} (ho : o < cs.size) (hty : ty ≠ 3) (hX : ∀ k, (k = b ∨ v0.ownBlock = some k) → ¬ NOwn N k) {d : List Int} (hD : Dig w0 v0 b o cs ty d w) (hd : d.length ≤ 2000) :
    Calls Tryd.prog 61 #[.pointer (some ⟨rb, 1, none⟩), .string t, .int .i64 i, .func (.func 52) #[.pointer (some ⟨b, o, none⟩)] #[]] w fun r w' => r = .returned (.tuple #[]) ∧ Dig w0 v0 b o cs ty (matA T t.data.toList i d) w' ∧ (matA T t.data.toList i d).length ≤ 2000 := by
  obtain ⟨r, hr0, hr1, hr2, _⟩ := h.root
  have hrat : r.at = .pointer (some ⟨rb, 1, none⟩) := by unfold Nd.at; rw [hr1, hr2]
  rw [← hrat]
  clear hrat hr1 hr2
  have hTr : Hid (∀ d1 w1, Dig w0 v0 b o cs ty d1 w1 → TrieAt w1 rb s e T N M) := fun d1 w1 ⟨_, _, _, h3, _⟩ => h.turns h3 hX
  have hstop : Hid (∀ m d1, i + m ≤ t.size → mat T t.data.toList i d m = (d1, false) → matA T t.data.toList i d = d1) := fun m d1 hm h1 => by
    unfold matA
    rw [mat_stops h1 _ (by rw [size_ba]; omega)]
  have hend : Hid (∀ m d1 b1, i + m = t.size → mat T t.data.toList i d m = (d1, b1) → matA T t.data.toList i d = d1) := fun m d1 b1 hm h1 => by
    unfold matA
    rw [size_ba, show t.size - i = m by omega, h1]
  generalize hA : matA T t.data.toList i d = A at *
  clear hA
  unfold Nd.at
  go_enter Tryd.func61, Tryd.ntmps61
  go_wp2_with fail
  go_loopw [0, 8] (fun a j wr => ∃ (q : Nat) (x : Nd) (d1 : List Int), i ≤ q ∧ q ≤ t.size ∧ j = .int .i64 q ∧ a = x.at ∧ Dig w0 v0 b o cs ty d1 wr ∧ d1.length ≤ 2000 ∧ Hid (N ((t.data.toList.drop i).take (q - i)) = some x) ∧ Hid (mat T t.data.toList i d (q - i) = (d1, true))) (fun _ j _ => t.size - (intOf j).toNat)
  case atStart => exact ⟨i, r, d, by omega, hi, rfl, rfl, hD, hd, by show _ = _; rw [Nat.sub_self]; exact hr0, by show _ = _; rw [Nat.sub_self]; rfl⟩
  case round =>
    obtain ⟨q, x, d1, hiq, hm, rfl, rfl, hD1, hl1, hN, hmat⟩ := hrel
    by_cases hlt : q < t.size
    · have hT := hTr.out d1 wr hD1
      obtain ⟨dx, hdx⟩ := hT.get hN.out
      have hl := hT.loc _ x dx hN.out hdx
      have c0 : wr.cell? ⟨x.b, x.o, none⟩ = some (.map x.m) := by rw [hl.blk.cell]; exact hl.cm
      have htk := drop_take_succ hiq hlt
      have hlook : (Instr.lookup 42 (.map x.m) (.int .u8 (t[q]'hlt).toNat) false).run Tryd.prog wr.drew = .ok (((N ((t.data.toList.drop i).take (q - i + 1))).map Nd.at).getD (.pointer none)) wr.drew := by
        have e1 : (N ((t.data.toList.drop i).take (q - i + 1))).map Nd.at = kids N ((t.data.toList.drop i).take (q - i)) (t[q]'hlt) := by rw [htk]; rfl
        rw [e1]
        cases hm : x.m with
        | some mb => exact ((hl.map mb hm).turns (Turns.drew Noth wr) (fun h => h)).look law5 Tryd.underlying42 (zero79 wr.drew) _ (keyOf5 _)
        | none =>
          rw [hl.nomap hm]
          exact Maps.look_nil false law5 Tryd.underlying42 (zero79 wr.drew) (keyOf5 _)
      cases hy : N ((t.data.toList.drop i).take (q - i + 1)) with
      | none =>
        rw [hy] at hlook
        simp only [Option.map_none, Option.getD_none] at hlook
        have hq := hT.none_iff.1 hy
        have hA := hstop.out (q - i + 1) d1 (by omega) (by rw [mat, hmat.out]; simp only; rw [hq])
        subst hA
        have hD2 : Dig w0 v0 b o cs ty A wr.drew := by
          obtain ⟨v, a1, a2, a3, a4⟩ := hD1
          exact ⟨v, a1, a2, a3.trans (Turns.drew _ _), a4⟩
        clear hend hstop hTr hmat hN hT hl htk hq hy hdx
        unfold Nd.at
        go_wp2_with fail
        go_region
        go_wp2_with fail
        go_returns
        exact ⟨rfl, hD2, hl1⟩
      | some y =>
        rw [hy] at hlook
        simp only [Option.map_some, Option.getD_some] at hlook
        have hD2 : Dig w0 v0 b o cs ty d1 wr.drew := by
          obtain ⟨v, a1, a2, a3, a4⟩ := hD1
          exact ⟨v, a1, a2, a3.trans (Turns.drew _ _), a4⟩
        have hT2 := hTr.out d1 _ hD2
        obtain ⟨dy, hdy⟩ := hT2.get hy
        have hly := hT2.loc _ y dy hy hdy
        have cy : wr.drew.cell? ⟨y.b, y.o + 1, none⟩ = some y.v := by rw [hly.blk.cell]; exact hly.ce
        obtain ⟨ay, capy, hvy⟩ := row_val hly.row
        rw [hvy] at cy
        have hnil := run_eql_ptr_nil' wr.drew ⟨y.b, y.o, none⟩ Tryd.underlying79
        have hnext : Hid (∀ k, k = dy.length → mat T t.data.toList i d (q - i + 1) = (layAll d1 (enum i (dy.take k)), true)) := by
          rintro k rfl
          rw [mat, hmat.out]; simp only; rw [hdy, List.take_length]
        have hrowy : Hid (∀ d2 w2, Dig w0 v0 b o cs ty d2 w2 → w2.ownsRow 0 3 1 (.slice ay dy.length capy) dy.length (ints dy)) := fun d2 w2 h2 => by
          have := ((hTr.out d2 w2 h2).loc _ y dy hy hdy).row
          rw [hvy] at this; exact this
        have hN2 : Hid (N ((t.data.toList.drop i).take (q - i + 1)) = some y) := hy
        have hleny := hly.len
        have het : Hid (∀ (k : Nat) (hk : k < dy.length), enum i (dy.take (k + 1)) = enum i (dy.take k) ++ [(i + k, dy[k]'hk)]) := fun k hk => enum_take i dy hk
        clear hend hstop hTr hmat hN hT hl htk hy hdx hT2 hly hvy hdy
        unfold Nd.at at *
        go_wp2_with fail
        go_region
        go_wp2_with fail
        go_loopw [33] (fun j wr2 => ∃ (k : Nat) (d2 : List Int), k ≤ dy.length ∧ j = .int .i64 k ∧ Dig w0 v0 b o cs ty d2 wr2 ∧ d2.length ≤ 2000 ∧ Hid (d2 = layAll d1 (enum i (dy.take k)))) (fun j _ => dy.length - (intOf j).toNat)
        case atStart => exact ⟨0, d1, by omega, rfl, hD2, hl1, rfl⟩
        case round =>
          obtain ⟨k, d2, hk, rfl, hDk, hlk, hd2⟩ := hrel
          by_cases hkl : k < dy.length
          · have hr := hrowy.out d2 _ hDk
            obtain ⟨g, cap', hga, hcap, hcell⟩ := row_get hr hkl
            cases hga
            have ck := hcell k
            rw [if_pos hkl, ints_get dy hkl] at ck
            have hS := lay_step ho hty hDk (i + k) (dy[k]'hkl) (by omega) (by omega)
            have hl3 : (layL d2 (i + k) (dy[k]'hkl)).length ≤ 2000 := by rw [lay_len]; omega
            have hd3 : Hid (layL d2 (i + k) (dy[k]'hkl) = layAll d1 (enum i (dy.take (k + 1)))) := by
              show _ = _
              rw [het.out k hkl, layAll_append, ← hd2.out]; rfl
            have hSh : Hid (∀ z : Int, z = ((i + k : Nat) : Int) → Calls Tryd.prog 52 #[.pointer (some ⟨b, o, none⟩), .int .i64 z, .int .i64 (dy[k]'hkl)] wr fun e w' => e = .returned (.tuple #[]) ∧ Dig w0 v0 b o cs ty (layL d2 (i + k) (dy[k]'hkl)) w') := by
              rintro z rfl; exact hS
            have hkl' : (k : Int) < dy.length := by omega
            clear hS hcell hr hd2
            generalize layL d2 (i + k) (dy[k]'hkl) = d3 at *
            generalize dy[k]'hkl = u at *
            go_wp2_with (go_at_call 52; refine (hSh.out _ (by omega)).mono ?_; rintro e w' ⟨rfl, hD3⟩)
            go_roundw
            case rel => exact ⟨k + 1, d3, by omega, by simp, hD3, hl3, hd3⟩
            case measure => simp [intOf]; omega
          · have hkk : k = dy.length := by omega
            have hm2 := hnext.out k hkk
            rw [← hd2.out] at hm2
            have hm3 : Hid (mat T t.data.toList i d (q - i + 1) = (d2, true)) := hm2
            have hkl' : ¬ (k : Int) < dy.length := by omega
            clear hnext hm2 hd2 hrowy
            go_wp2_with fail
            go_roundw
            case rel => exact ⟨q + 1, y, d2, by omega, by omega, by simp, rfl, hDk, hlk, by rw [show q + 1 - i = q - i + 1 by omega]; exact hN2, by rw [show q + 1 - i = q - i + 1 by omega]; exact hm3⟩
            case measure => simp [intOf]; omega
    · have hA := hend.out (q - i) d1 true (by omega) hmat.out
      subst hA
      clear hend hstop hTr hmat hN
      unfold Nd.at
      go_wp2_with fail
      go_returns
      exact ⟨rfl, hD1, hl1⟩
end
end Go.Proofs.YtfblhpkndfbhgaaDoor
