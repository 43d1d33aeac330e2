/-
  What is proved here: what the document's Insert answers (for SpanScript).
-/
import Derived.Test.YtjakmekifpbldaaRefB
namespace Go.Proofs.Ytjakmekifpbldaa
open Go.RowKit Go.Shelf

/-- New bytes are stored. -/
theorem RefAt.store {t : Nat} {v u : Value} {L L' : List Ch} {m : Ch} {w w1 : World} (h : RefAt t v L m w) (hb : Below w.heap.size w w1) (hr : CharsAt w1 w.heap.size u L') (hl : L'.length ≤ 4096) :
    RefAt t u L' m (w1.setCell ⟨t, 0, none⟩ u) ∧ Only t w (w1.setCell ⟨t, 0, none⟩ u) := by
  have ho := (h.below hb).obj
  have hs := heap_setCell_same w1 t 0 _ 68 u ho
  have hon : Only t w1 (w1.setCell ⟨t, 0, none⟩ u) := ⟨rfl, rfl, rfl, by simp, fun k _ hne => Below.heap_setCell _ _ _ k (by intro e; exact hne (by rw [e]))⟩
  refine ⟨⟨hs, (hr.base (Nat.zero_le _)).keep hon (fun k hk e => ?_), hl⟩, (only_of_below hb).trans hon⟩
  have := (hr.out.lt k hk).1
  have := h.lt
  omega

set_option maxHeartbeats 1000000 in
theorem rinsert_range (t : Nat) (v : Value) (L : List Ch) (m : Ch) (a n : Int) (hx : n < 0 ∨ a < 0 ∨ (L.length : Int) < a) (w : World) (h : RefAt t v L m w) :
    Calls Try.prog 36 #[.pointer (some ⟨t, 0, none⟩), .int .i64 a, .int .i64 n] w fun e w' => e = .returned (.int .i64 5) ∧ w' = w := by
  obtain ⟨c0, _, _, _⟩ := h.cells
  obtain ⟨a0, cp0, rfl⟩ := h.row.form
  clear h
  generalize L.length = k at *
  by_cases h1 : n < 0
  · clear hx
    go_enter Try.func36, Try.ntmps36
    go_wp2_with fail
    go_ret
    exact ⟨rfl, rfl⟩
  · by_cases h2 : a < 0
    · clear hx
      go_enter Try.func36, Try.ntmps36
      go_wp2_with fail
      go_ret
      exact ⟨rfl, rfl⟩
    · have h3 : (k : Int) < a := by omega
      clear hx
      go_enter Try.func36, Try.ntmps36
      go_wp2_with fail
      go_ret
      exact ⟨rfl, rfl⟩

set_option maxHeartbeats 1000000 in
theorem rinsert_full (t : Nat) (v : Value) (L : List Ch) (m : Ch) (p : Nat) (n : Int) (hp : p ≤ L.length) (hn : 4096 < (L.length : Int) + n) (w : World) (h : RefAt t v L m w) :
    Calls Try.prog 36 #[.pointer (some ⟨t, 0, none⟩), .int .i64 p, .int .i64 n] w fun e w' => e = .returned (.int .i64 8) ∧ w' = w := by
  have hfew := h.few
  obtain ⟨c0, _, _, _⟩ := h.cells
  obtain ⟨a0, cp0, rfl⟩ := h.row.form
  clear h
  generalize L.length = k at *
  have h1 : ¬ n < 0 := by omega
  have h2 : ¬ (p : Int) < 0 := by omega
  have h3 : ¬ (k : Int) < p := by omega
  have h4 : (4096 : Int) - k < n := by omega
  clear hn
  go_enter Try.func36, Try.ntmps36
  go_wp2_with fail
  go_ret
  exact ⟨rfl, rfl⟩

theorem box3 {W W' : World} {x : Nat} {c : Ch} (h : W.heap[x]? = some (.cells #[.int .i64 c.s, .int .i64 c.t, .int .i64 c.k] 23 (0, 0))) (hb : Below W.heap.size W W') :
    W'.heap[x]? = some (.cells #[.int .i64 c.s, .int .i64 c.t, .int .i64 c.k] 23 (0, 0)) ∧ W'.cell? ⟨x, 0, none⟩ = some (.int .i64 c.s) ∧ W'.cell? ⟨x, 1, none⟩ = some (.int .i64 c.t) ∧ W'.cell? ⟨x, 2, none⟩ = some (.int .i64 c.k) := by
  have h' := (hb.block x (Array.getElem?_eq_some_iff.1 h).1).trans h
  refine ⟨h', ?_, ?_, ?_⟩ <;> (rw [Lib.cell_of_heap h']; rfl)

set_option maxRecDepth 100000 in
set_option maxHeartbeats 2000000 in
set_option pp.deepTerms true in
set_option pp.maxSteps 200000 in
set_option pp.deepTerms true in
set_option pp.maxSteps 200000 in
theorem rinsert_ok (t : Nat) (v : Value) (L : List Ch) (m : Ch) (p n : Nat) (hp : p ≤ L.length) (hn : L.length + n ≤ 4096) (w : World) (h : RefAt t v L m w) :
    Calls Try.prog 36 #[.pointer (some ⟨t, 0, none⟩), .int .i64 p, .int .i64 n] w fun e w' => ∃ v', e = .returned (.int .i64 0) ∧ RefAt t v' (insL L m p n) m w' ∧ Only t w w' := by
  have hfew := h.few
  have hlt := h.lt
  obtain ⟨ii, hi0, hi1, hi2, hi3⟩ := info_parts info23
  obtain ⟨c0, c1, c2, c3⟩ := h.cells
  have hil := insL_length L m n hp
  have hrow := h.row
  have h' : Hid (RefAt t v L m w) := h
  have hlA : (sub L 0 p).length = p := by rw [sub_length L hp]; omega
  have hil' : Hid _ := hil
  clear h hil
  obtain ⟨aa, haa⟩ : ∃ aa, aa = aheadC L m p := ⟨_, rfl⟩
  have haa' : Hid _ := haa
  have hX := heap_new w (.cells #[.int .i64 aa.s, .int .i64 aa.t, .int .i64 aa.k] 23)
  have B1 := (Below.refl w.heap.size w).alloc (Nat.le_refl _) (.cells #[.int .i64 aa.s, .int .i64 aa.t, .int .i64 aa.k] 23)
  have hsz := World.size_alloc w (.cells #[.int .i64 aa.s, .int .i64 aa.t, .int .i64 aa.k] 23)
  generalize hW : w.alloc (.cells #[.int .i64 aa.s, .int .i64 aa.t, .int .i64 aa.k] 23) = W at *
  have hW' : Hid _ := hW
  have B2 := (Below.refl W.heap.size W).alloc (Nat.le_refl _) (.cells #[] 23)
  have hR : Hid ((W.alloc (.cells #[] 23)).ownsRow W.heap.size 23 3 (.slice (some ⟨w.heap.size + 1, 0, none⟩) 0 0) 0 []) := by
    have := ownsRow_lit W 23 3 W.heap.size (Nat.le_refl _)
    rw [hsz] at this ⊢
    exact this
  have C2 : Below w.heap.size w (W.alloc (.cells #[] 23)) := B1.trans (B2.mono B1.size)
  have h1 : ¬ (n : Int) < 0 := by omega
  have h2 : ¬ (p : Int) < 0 := by omega
  rcases hrow.out.2 with ⟨rfl, hn0⟩ | ⟨g, cap, cur, rfl, _, hg, hcap, hmax, _⟩
  · have hl0 : L = [] := List.eq_nil_of_length_eq_zero hn0
    subst hl0
    have hp0 : p = 0 := by simpa using hp
    subst hp0
    have hav : aa = m := by rw [haa]; rfl
    subst hav
    have hsA : Hid (Srcs (W.alloc (.cells #[] 23)) 3 (.slice none 0 0) 0 (chRow (sub [] 0 0))) := ⟨rfl, by simp [chRow, sub], .inl ⟨rfl, 0, rfl⟩⟩
    clear haa hW hrow hn0
    have h4 : ¬ (4096 : Int) < n := by simp at hn; omega
    have hn9 : n ≤ 4096 := by simpa using hn
    go_enter Try.func36, Try.ntmps36
    go_wp2_with (at_builtin; refine wpList_append_any _ rfl _ _ 58 rfl W.heap.size 23 ii _ 3 24 Try.underlying58 hi0 hi1 hi2 hi3 rfl (by decide) _ 0 [] rfl (by rw [hW'.out]; exact hR.out) 0 (chRow (sub [] 0 0)) _ rfl (by rw [hW'.out]; exact hsA.out) (by unfold maxLen; omega) (by omega) (by rw [hW'.out]; exact B2.size) ?_; intro v11 w11 hown hgrow; rw [hW'.out] at hgrow; replace hgrow : (W.alloc (.cells #[] 23)).grownBy w11 (Value.ownBlock (.slice (some ⟨w.heap.size + 1, 0, none⟩) 0 0)) := hgrow; replace hown : CharsAt w11 W.heap.size v11 (sub [] 0 0) := charsAt_of hown (by omega) (by simp))
    have B11 : Below W.heap.size W w11 := below_grown B2 hR.out (Nat.le_refl _) (Nat.le_refl _) hgrow
    clear hgrow
    obtain ⟨a11, cp11, hv11⟩ := hown.form
    rw [hlA] at hv11
    subst hv11
    go_wp2_with fail
    go_loopw [8, 9] (fun v i wr => ∃ j : Nat, j ≤ n ∧ i = .int .i64 j ∧ Below W.heap.size W wr ∧ CharsAt wr W.heap.size v (sub [] 0 0 ++ List.replicate j aa)) (fun _ i _ => n - (intOf i).toNat)
    case atStart => exact ⟨0, by omega, rfl, B11, by simpa using hown⟩
    case round =>
      obtain ⟨j, hj, rfl, hbj, hCj⟩ := hrel
      obtain ⟨_, s0, s1, s2⟩ := box3 hX hbj
      have hlj : (sub [] 0 0 ++ List.replicate j aa).length = 0 + j := by rw [List.length_append, hlA, List.length_replicate]
      by_cases hjl : j < n
      · go_wp2_with (at_builtin; refine wpList_append_any _ rfl _ _ 58 rfl W.heap.size 23 ii _ 3 24 Try.underlying58 hi0 hi1 hi2 hi3 rfl (by decide) _ _ _ rfl (hCj.out.alloc _) 1 _ _ rfl (srcs1 wr _ _ _ 23) (by unfold maxLen; omega) (by omega) (by have := hbj.size; simp; omega) ?_; intro v12 w12 hown2 hgrow2)
        have hB12 : Below W.heap.size W w12 := below_grown (hbj.alloc hbj.size _) (hCj.out.alloc _) (Nat.le_refl _) (Nat.le_refl _) hgrow2
        have hown3 : CharsAt w12 W.heap.size v12 (sub [] 0 0 ++ List.replicate (j + 1) aa) := by
          rw [show sub [] 0 0 ++ List.replicate (j + 1) aa = (sub [] 0 0 ++ List.replicate j aa) ++ [aa] by rw [List.replicate_succ', List.append_assoc]]
          exact charsAt_of hown2 (by simp only [List.length_append, List.length_singleton]) (chRow_append (sub [] 0 0 ++ List.replicate j aa) [aa]).symm
        clear hown2
        go_wp2_with fail
        go_roundw
        case rel => exact ⟨j + 1, by omega, by simp, hB12, hown3⟩
        case measure => simp [intOf]; omega
      · obtain rfl : j = n := by omega
        obtain ⟨d0, _, _, _⟩ := (h'.out.below (B1.trans (hbj.mono B1.size))).cells
        have hsB : Hid (Srcs wr 3 (.slice none 0 0) 0 (chRow (sub [] 0 0))) := ⟨rfl, by simp [chRow, sub], .inl ⟨rfl, 0, rfl⟩⟩
        have hkk : Hid (insL [] aa 0 j = sub [] 0 0 ++ List.replicate j aa ++ sub [] 0 0 ∧ (sub [] 0 0 ++ List.replicate j aa ++ sub [] 0 0).length = 0 + j + 0) := ⟨by simp [insL, sub, aheadC], by simp [sub]⟩
        go_wp2_with (at_builtin; refine wpList_append_any _ rfl _ _ 58 rfl W.heap.size 23 ii _ 3 24 Try.underlying58 hi0 hi1 hi2 hi3 rfl (by decide) _ (0 + j) _ rfl (by have := hCj.out; rwa [hlj] at this) 0 (chRow (sub [] 0 0)) _ rfl (by exact hsB.out) (by unfold maxLen; omega) (by omega) hbj.size ?_; intro v13 w13 hown4 hgrow4; have hB13 : Below W.heap.size W w13 := below_grown hbj hCj.out (Nat.le_refl _) (Nat.le_refl _) hgrow4; have C13 : Below w.heap.size w w13 := B1.trans (hB13.mono B1.size); have hfin : CharsAt w13 w.heap.size v13 (insL [] aa 0 j) := (by rw [hkk.out.1]; exact (charsAt_of hown4 hkk.out.2.symm (chRow_append _ _).symm : CharsAt w13 W.heap.size v13 _).base B1.size); have hst : Hid _ := h'.out.store C13 hfin (by rw [hil'.out]; omega); have hf13 := Lib.frozen_of_heap (h'.out.below C13).obj 0; obtain ⟨d0', _, _, _⟩ := (h'.out.below C13).cells; obtain ⟨a13, cp13, hv13⟩ := hfin.form; clear hown4 hgrow4 hfin; subst hv13)
        go_ret
        exact ⟨_, rfl, hst.out.1, hst.out.2⟩
  · have hgl : g < w.heap.size := (Array.getElem?_eq_some_iff.1 hg).1
    have hsA : Hid _ := (hrow.below C2).take (p := p) hp cap
    have hrow' : Hid (CharsAt w 0 (.slice (some ⟨g, 0, none⟩) L.length cap) L) := hrow
    by_cases h0 : L.length = 0
    · have hav : aa = m := by rw [haa]; unfold aheadC; rw [List.getElem?_eq_none (by omega)]; rfl
      subst hav
      clear haa hW hrow
      generalize hk : L.length = k at *
      have hk' : Hid _ := hk
      clear hk
      have h3 : ¬ (k : Int) < p := by omega
      have h4 : ¬ (4096 : Int) - k < n := by omega
      have h5 : ¬ 0 < (k : Int) := by omega
      go_enter Try.func36, Try.ntmps36
      go_wp2_with (at_builtin; refine wpList_append_any _ rfl _ _ 58 rfl W.heap.size 23 ii _ 3 24 Try.underlying58 hi0 hi1 hi2 hi3 rfl (by decide) _ 0 [] rfl (by rw [hW'.out]; exact hR.out) p (chRow (sub L 0 p)) _ rfl (by rw [hW'.out]; exact hsA.out) (by unfold maxLen; omega) (by omega) (by rw [hW'.out]; exact B2.size) ?_; intro v11 w11 hown hgrow; rw [hW'.out] at hgrow; replace hgrow : (W.alloc (.cells #[] 23)).grownBy w11 (Value.ownBlock (.slice (some ⟨w.heap.size + 1, 0, none⟩) 0 0)) := hgrow; replace hown : CharsAt w11 W.heap.size v11 (sub L 0 p) := charsAt_of hown (by omega) (by simp))
      have B11 : Below W.heap.size W w11 := below_grown B2 hR.out (Nat.le_refl _) (Nat.le_refl _) hgrow
      clear hgrow
      obtain ⟨a11, cp11, hv11⟩ := hown.form
      rw [hlA] at hv11
      subst hv11
      go_wp2_with fail
      go_loopw [8, 9] (fun v i wr => ∃ j : Nat, j ≤ n ∧ i = .int .i64 j ∧ Below W.heap.size W wr ∧ CharsAt wr W.heap.size v (sub L 0 p ++ List.replicate j aa)) (fun _ i _ => n - (intOf i).toNat)
      case atStart => exact ⟨0, by omega, rfl, B11, by simpa using hown⟩
      case round =>
        obtain ⟨j, hj, rfl, hbj, hCj⟩ := hrel
        obtain ⟨_, s0, s1, s2⟩ := box3 hX hbj
        have hlj : (sub L 0 p ++ List.replicate j aa).length = p + j := by rw [List.length_append, hlA, List.length_replicate]
        by_cases hjl : j < n
        · go_wp2_with (at_builtin; refine wpList_append_any _ rfl _ _ 58 rfl W.heap.size 23 ii _ 3 24 Try.underlying58 hi0 hi1 hi2 hi3 rfl (by decide) _ _ _ rfl (hCj.out.alloc _) 1 _ _ rfl (srcs1 wr _ _ _ 23) (by unfold maxLen; omega) (by omega) (by have := hbj.size; simp; omega) ?_; intro v12 w12 hown2 hgrow2)
          have hB12 : Below W.heap.size W w12 := below_grown (hbj.alloc hbj.size _) (hCj.out.alloc _) (Nat.le_refl _) (Nat.le_refl _) hgrow2
          have hown3 : CharsAt w12 W.heap.size v12 (sub L 0 p ++ List.replicate (j + 1) aa) := by
            rw [show sub L 0 p ++ List.replicate (j + 1) aa = (sub L 0 p ++ List.replicate j aa) ++ [aa] by rw [List.replicate_succ', List.append_assoc]]
            exact charsAt_of hown2 (by simp only [List.length_append, List.length_singleton]) (chRow_append (sub L 0 p ++ List.replicate j aa) [aa]).symm
          clear hown2
          go_wp2_with fail
          go_roundw
          case rel => exact ⟨j + 1, by omega, by simp, hB12, hown3⟩
          case measure => simp [intOf]; omega
        · obtain rfl : j = n := by omega
          obtain ⟨d0, _, _, _⟩ := (h'.out.below (B1.trans (hbj.mono B1.size))).cells
          have hCw : CharsAt wr 0 _ L := hrow'.out.below (B1.trans (hbj.mono B1.size))
          have hk := hk'.out
          by_cases hc : cap = p
          · subst hc
            have hsB : Hid (Srcs wr 3 (.slice (some ⟨g, 0, none⟩) 0 0) (k - cap) (chRow (sub L cap k))) := by
              have h0 := CharsAt.drop0 (W := wr) (g := g) (L := L) (p := cap) (by omega) 0
              rw [hk, show k - cap = 0 by omega] at h0
              rw [show k - cap = 0 by omega]
              exact h0
            clear hk hCw
            have hkk : Hid (insL L aa cap j = sub L 0 cap ++ List.replicate j aa ++ sub L cap k ∧ (sub L 0 cap ++ List.replicate j aa ++ sub L cap k).length = cap + j + (k - cap)) := by
              have hk := hk'.out
              exact ⟨by unfold insL; rw [← haa'.out, hk], by simp only [List.length_append, List.length_replicate, hlA, ← hk, sub_length L (Nat.le_refl _)]⟩
            go_wp2_with (at_builtin; refine wpList_append_any _ rfl _ _ 58 rfl W.heap.size 23 ii _ 3 24 Try.underlying58 hi0 hi1 hi2 hi3 rfl (by decide) _ (cap + j) _ rfl (by have := hCj.out; rwa [hlj] at this) (k - cap) (chRow (sub L cap k)) _ rfl (by exact hsB.out) (by unfold maxLen; omega) (by omega) hbj.size ?_; intro v13 w13 hown4 hgrow4; have hB13 : Below W.heap.size W w13 := below_grown hbj hCj.out (Nat.le_refl _) (Nat.le_refl _) hgrow4; have C13 : Below w.heap.size w w13 := B1.trans (hB13.mono B1.size); have hfin : CharsAt w13 w.heap.size v13 (insL L aa cap j) := (by rw [hkk.out.1]; exact (charsAt_of hown4 hkk.out.2.symm (chRow_append _ _).symm : CharsAt w13 W.heap.size v13 _).base B1.size); have hst : Hid _ := h'.out.store C13 hfin (by rw [hil'.out]; omega); have hf13 := Lib.frozen_of_heap (h'.out.below C13).obj 0; obtain ⟨d0', _, _, _⟩ := (h'.out.below C13).cells; obtain ⟨a13, cp13, hv13⟩ := hfin.form; clear hown4 hgrow4 hfin; subst hv13)
            go_ret
            exact ⟨_, rfl, hst.out.1, hst.out.2⟩
          · have hsB : Hid (Srcs wr 3 (.slice (some ⟨g, p * 3, none⟩) 0 (cap - p)) (k - p) (chRow (sub L p k))) := by
              have h0 := hCw.drop (p := p) (by omega) (cap - p)
              rw [hk, show k - p = 0 by omega] at h0
              rw [show k - p = 0 by omega]
              exact h0
            clear hk hCw
            have hkk : Hid (insL L aa p j = sub L 0 p ++ List.replicate j aa ++ sub L p k ∧ (sub L 0 p ++ List.replicate j aa ++ sub L p k).length = p + j + (k - p)) := by
              have hk := hk'.out
              exact ⟨by unfold insL; rw [← haa'.out, hk], by simp only [List.length_append, List.length_replicate, hlA, ← hk, sub_length L (Nat.le_refl _)]⟩
            go_wp2_with (at_builtin; refine wpList_append_any _ rfl _ _ 58 rfl W.heap.size 23 ii _ 3 24 Try.underlying58 hi0 hi1 hi2 hi3 rfl (by decide) _ (p + j) _ rfl (by have := hCj.out; rwa [hlj] at this) (k - p) (chRow (sub L p k)) _ rfl (by exact hsB.out) (by unfold maxLen; omega) (by omega) hbj.size ?_; intro v13 w13 hown4 hgrow4; have hB13 : Below W.heap.size W w13 := below_grown hbj hCj.out (Nat.le_refl _) (Nat.le_refl _) hgrow4; have C13 : Below w.heap.size w w13 := B1.trans (hB13.mono B1.size); have hfin : CharsAt w13 w.heap.size v13 (insL L aa p j) := (by rw [hkk.out.1]; exact (charsAt_of hown4 hkk.out.2.symm (chRow_append _ _).symm : CharsAt w13 W.heap.size v13 _).base B1.size); have hst : Hid _ := h'.out.store C13 hfin (by rw [hil'.out]; omega); have hf13 := Lib.frozen_of_heap (h'.out.below C13).obj 0; obtain ⟨d0', _, _, _⟩ := (h'.out.below C13).cells; obtain ⟨a13, cp13, hv13⟩ := hfin.form; clear hown4 hgrow4 hfin; subst hv13)
            go_ret
            exact ⟨_, rfl, hst.out.1, hst.out.2⟩
    · have hlk : p - 1 < L.length := by omega
      have hav : aheadC L m p = L[p - 1]'hlk := by unfold aheadC; rw [List.getElem?_eq_getElem hlk]; rfl
      have hmx : max ((p : Int) - 1) 0 = ((p - 1 : Nat) : Int) := by omega
      obtain ⟨gy, cpy, hey, _, r0, r1, r2⟩ := hrow.cells (i := p - 1) hlk
      cases hey
      rw [← hav, ← haa] at r0 r1 r2
      clear hav haa hW hrow
      generalize hpm : p - 1 = pm at *
      have hpm' : Hid _ := hpm
      clear hpm
      generalize hk : L.length = k at *
      have hk' : Hid _ := hk
      clear hk
      have h3 : ¬ (k : Int) < p := by omega
      have h4 : ¬ (4096 : Int) - k < n := by omega
      have h5 : 0 < (k : Int) := by omega
      go_enter Try.func36, Try.ntmps36
      go_wp2_with (at_builtin; refine wpList_append_any _ rfl _ _ 58 rfl W.heap.size 23 ii _ 3 24 Try.underlying58 hi0 hi1 hi2 hi3 rfl (by decide) _ 0 [] rfl (by rw [hW'.out]; exact hR.out) p (chRow (sub L 0 p)) _ rfl (by rw [hW'.out]; exact hsA.out) (by unfold maxLen; omega) (by omega) (by rw [hW'.out]; exact B2.size) ?_; intro v11 w11 hown hgrow; rw [hW'.out] at hgrow; replace hgrow : (W.alloc (.cells #[] 23)).grownBy w11 (Value.ownBlock (.slice (some ⟨w.heap.size + 1, 0, none⟩) 0 0)) := hgrow; replace hown : CharsAt w11 W.heap.size v11 (sub L 0 p) := charsAt_of hown (by omega) (by simp))
      have B11 : Below W.heap.size W w11 := below_grown B2 hR.out (Nat.le_refl _) (Nat.le_refl _) hgrow
      clear hgrow
      obtain ⟨a11, cp11, hv11⟩ := hown.form
      rw [hlA] at hv11
      subst hv11
      go_wp2_with fail
      go_loopw [8, 9] (fun v i wr => ∃ j : Nat, j ≤ n ∧ i = .int .i64 j ∧ Below W.heap.size W wr ∧ CharsAt wr W.heap.size v (sub L 0 p ++ List.replicate j aa)) (fun _ i _ => n - (intOf i).toNat)
      case atStart => exact ⟨0, by omega, rfl, B11, by simpa using hown⟩
      case round =>
        obtain ⟨j, hj, rfl, hbj, hCj⟩ := hrel
        obtain ⟨_, s0, s1, s2⟩ := box3 hX hbj
        have hlj : (sub L 0 p ++ List.replicate j aa).length = p + j := by rw [List.length_append, hlA, List.length_replicate]
        by_cases hjl : j < n
        · go_wp2_with (at_builtin; refine wpList_append_any _ rfl _ _ 58 rfl W.heap.size 23 ii _ 3 24 Try.underlying58 hi0 hi1 hi2 hi3 rfl (by decide) _ _ _ rfl (hCj.out.alloc _) 1 _ _ rfl (srcs1 wr _ _ _ 23) (by unfold maxLen; omega) (by omega) (by have := hbj.size; simp; omega) ?_; intro v12 w12 hown2 hgrow2)
          have hB12 : Below W.heap.size W w12 := below_grown (hbj.alloc hbj.size _) (hCj.out.alloc _) (Nat.le_refl _) (Nat.le_refl _) hgrow2
          have hown3 : CharsAt w12 W.heap.size v12 (sub L 0 p ++ List.replicate (j + 1) aa) := by
            rw [show sub L 0 p ++ List.replicate (j + 1) aa = (sub L 0 p ++ List.replicate j aa) ++ [aa] by rw [List.replicate_succ', List.append_assoc]]
            exact charsAt_of hown2 (by simp only [List.length_append, List.length_singleton]) (chRow_append (sub L 0 p ++ List.replicate j aa) [aa]).symm
          clear hown2
          go_wp2_with fail
          go_roundw
          case rel => exact ⟨j + 1, by omega, by simp, hB12, hown3⟩
          case measure => simp [intOf]; omega
        · obtain rfl : j = n := by omega
          obtain ⟨d0, _, _, _⟩ := (h'.out.below (B1.trans (hbj.mono B1.size))).cells
          have hCw : CharsAt wr 0 _ L := hrow'.out.below (B1.trans (hbj.mono B1.size))
          have hk := hk'.out
          by_cases hc : cap = p
          · subst hc
            have hsB : Hid (Srcs wr 3 (.slice (some ⟨g, 0, none⟩) 0 0) (k - cap) (chRow (sub L cap k))) := by
              have h0 := CharsAt.drop0 (W := wr) (g := g) (L := L) (p := cap) (by omega) 0
              rw [hk, show k - cap = 0 by omega] at h0
              rw [show k - cap = 0 by omega]
              exact h0
            clear hk hCw
            have hkk : Hid (insL L m cap j = sub L 0 cap ++ List.replicate j aa ++ sub L cap k ∧ (sub L 0 cap ++ List.replicate j aa ++ sub L cap k).length = cap + j + (k - cap)) := by
              have hk := hk'.out
              exact ⟨by unfold insL; rw [← haa'.out, hk], by simp only [List.length_append, List.length_replicate, hlA, ← hk, sub_length L (Nat.le_refl _)]⟩
            go_wp2_with (at_builtin; refine wpList_append_any _ rfl _ _ 58 rfl W.heap.size 23 ii _ 3 24 Try.underlying58 hi0 hi1 hi2 hi3 rfl (by decide) _ (cap + j) _ rfl (by have := hCj.out; rwa [hlj] at this) (k - cap) (chRow (sub L cap k)) _ rfl (by exact hsB.out) (by unfold maxLen; omega) (by omega) hbj.size ?_; intro v13 w13 hown4 hgrow4; have hB13 : Below W.heap.size W w13 := below_grown hbj hCj.out (Nat.le_refl _) (Nat.le_refl _) hgrow4; have C13 : Below w.heap.size w w13 := B1.trans (hB13.mono B1.size); have hfin : CharsAt w13 w.heap.size v13 (insL L m cap j) := (by rw [hkk.out.1]; exact (charsAt_of hown4 hkk.out.2.symm (chRow_append _ _).symm : CharsAt w13 W.heap.size v13 _).base B1.size); have hst : Hid _ := h'.out.store C13 hfin (by rw [hil'.out]; omega); have hf13 := Lib.frozen_of_heap (h'.out.below C13).obj 0; obtain ⟨d0', _, _, _⟩ := (h'.out.below C13).cells; obtain ⟨a13, cp13, hv13⟩ := hfin.form; clear hown4 hgrow4 hfin; subst hv13)
            go_ret
            exact ⟨_, rfl, hst.out.1, hst.out.2⟩
          · have hsB : Hid (Srcs wr 3 (.slice (some ⟨g, p * 3, none⟩) (k - p) (cap - p)) (k - p) (chRow (sub L p k))) := by
              rw [← hk]; exact hCw.drop (by omega) _
            clear hk hCw
            have hkk : Hid (insL L m p j = sub L 0 p ++ List.replicate j aa ++ sub L p k ∧ (sub L 0 p ++ List.replicate j aa ++ sub L p k).length = p + j + (k - p)) := by
              have hk := hk'.out
              exact ⟨by unfold insL; rw [← haa'.out, hk], by simp only [List.length_append, List.length_replicate, hlA, ← hk, sub_length L (Nat.le_refl _)]⟩
            go_wp2_with (at_builtin; refine wpList_append_any _ rfl _ _ 58 rfl W.heap.size 23 ii _ 3 24 Try.underlying58 hi0 hi1 hi2 hi3 rfl (by decide) _ (p + j) _ rfl (by have := hCj.out; rwa [hlj] at this) (k - p) (chRow (sub L p k)) _ rfl (by exact hsB.out) (by unfold maxLen; omega) (by omega) hbj.size ?_; intro v13 w13 hown4 hgrow4; have hB13 : Below W.heap.size W w13 := below_grown hbj hCj.out (Nat.le_refl _) (Nat.le_refl _) hgrow4; have C13 : Below w.heap.size w w13 := B1.trans (hB13.mono B1.size); have hfin : CharsAt w13 w.heap.size v13 (insL L m p j) := (by rw [hkk.out.1]; exact (charsAt_of hown4 hkk.out.2.symm (chRow_append _ _).symm : CharsAt w13 W.heap.size v13 _).base B1.size); have hst : Hid _ := h'.out.store C13 hfin (by rw [hil'.out]; omega); have hf13 := Lib.frozen_of_heap (h'.out.below C13).obj 0; obtain ⟨d0', _, _, _⟩ := (h'.out.below C13).cells; obtain ⟨a13, cp13, hv13⟩ := hfin.form; clear hown4 hgrow4 hfin; subst hv13)
            go_ret
            exact ⟨_, rfl, hst.out.1, hst.out.2⟩
end Go.Proofs.Ytjakmekifpbldaa
