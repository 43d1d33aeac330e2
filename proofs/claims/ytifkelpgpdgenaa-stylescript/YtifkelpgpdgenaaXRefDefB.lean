/-
  What is proved here: what the document's own Define answers of a style with a parent, and of any (for StyleScript).
-/
import Derived.Test.YtifkelpgpdgenaaXRefDef
namespace Go.Proofs.Ytifkelpgpdgenaa
open Go.RowKit Go.Shelf

variable {X : Nat → Prop}

set_option maxRecDepth 100000 in
set_option maxHeartbeats 8000000 in
theorem refDefine_child (g : Nat) (T : Stys) (hsT : SortedT T) (hT : T.length ≤ 64) (hWF : WF (shOf T)) (name parent : Str) (hnl : name.size ≤ maxLen) (hn : nameB name = true) (hpe : parent ≠ e0) (hps : (shOf T parent).isSome = true) (v : Value) (L : List (Int × Int)) (w : World) (h : RefAt X w g T) (hL : SetsAt w v L) (hXL : XL X w) :
    Calls Try.prog 24 #[.pointer (some ⟨g, 0, none⟩), .string name, .string parent, v] w (rdefPost X w g T name parent L) := by
  have hdef : Hid (defE (shOf T) T.length name parent L = if refuseL L ≠ 0 then refuseL L else if ansUp (shOf T) parent name then 10 else if shOf T name = none ∧ 32 ≤ T.length then 8 else 0) := by
    unfold defE
    rw [if_neg (by rw [hn]; decide), if_neg (by rintro ⟨_, h⟩; rw [h] at hps; cases hps)]
    exact rfl
  have hisn := refName_any name hnl w
  rw [hn] at hisn
  have hE := isEmpty_no (size_pos hpe)
  obtain ⟨ip, hip, hp1, hp2, _⟩ := shOf_first hps
  have hat := refAt_there g T parent w h ip hip hp1 hp2
  have hip0 : ¬ (ip : Int) < 0 := by omega
  obtain ⟨a, cap, rfl, _⟩ := hL.ex
  clear hp1 hp2
  go_enter Try.func24, Try.ntmps24
  go_wp2_with (first
    | (go_at_call 43; refine hisn.mono ?_; rintro e w' ⟨rfl, hww⟩; subst w')
    | (go_at_call 44; refine hat.mono ?_; rintro e w' ⟨rfl, hww⟩; subst w'))
  refine (refFitsL_any _ L _ hL).mono ?_
  rintro e w1 ⟨rfl, b1⟩
  have h1 := h.below b1
  have hL1 := hL.below b1
  by_cases hr : refuseL L ≠ 0
  · have hd : defE (shOf T) T.length name parent L = refuseL L := by rw [hdef.out, if_pos hr]
    have hr' : (refuseL L == 0) = false := by simpa using hr
    have hr'' : (refuseL L != 0) = true := by simpa using hr
    have hfin := rdefPost_no hsT b1 h1 hd hr
    generalize refuseL L = rr at *
    go_wp2_with fail
    go_ret
    exact hfin
  have hr0 : refuseL L = 0 := Classical.not_not.1 hr
  rw [hr0]
  rw [if_neg hr] at hdef
  clear hr
  go_wp2_with fail
  have hRw : Hid (RefAt X w g T) := h
  have hR1 : Hid (RefAt X w1 g T) := h1
  have hg1 := h1.lt
  obtain ⟨rk0, hrk⟩ := hWF.rank
  obtain ⟨v1, hv1, hS1⟩ := h1.ex
  obtain ⟨a1, cap1, rfl, h3⟩ := hS1.ex
  have hrk' : Hid _ := hrk
  have hWF' : Hid _ := hWF
  clear hS1 hrk h hL hisn
  go_loopw [10] (fun z wr => ∃ u : Str, z = .string u ∧ Below w1.heap.size w1 wr ∧ Hid ((u = e0 ∨ (shOf T u).isSome = true) ∧ ansUp (shOf T) u name = ansUp (shOf T) parent name)) (fun z _ => rk (shOf T) rk0 (strOf z))
  case atStart => exact ⟨parent, rfl, Below.refl _ _, .inr hps, rfl⟩
  case round =>
    obtain ⟨u, rfl, hbr, hH⟩ := hrel
    obtain ⟨hu0, ha⟩ := hH.out
    clear hH
    by_cases hue : u = e0
    · have hE2 : (ByteArray.toList u).isEmpty = true := by rw [hue, toList_data]; rfl
      have hno : ansUp (shOf T) parent name = false := by rw [← ha, hue, ansUp_empty]
      rw [hno] at hdef
      have hdef2 : Hid (defE (shOf T) T.length name parent L = if shOf T name = none ∧ 32 ≤ T.length then 8 else 0) := hdef.out
      clear ha hue hno hdef hu0
      obtain ⟨wq, rfl⟩ : ∃ wq, wq = wr := ⟨_, rfl⟩
      have hBw : Below w.heap.size w wq := b1.trans (hbr.mono b1.size)
      have hRr := hR1.out.below hbr
      obtain ⟨i0, hi0, hz0, hz1, hz2⟩ := info_parts info37
      have hl64 := refuseL_len hr0
      have hBl := (Below.refl wq.heap.size wq).alloc (Nat.le_refl _) (.cells #[] 37)
      have hsrc : Hid _ := srcs_of ((hL1.below hbr).below hBl)
      clear hL1
      go_wp2_with (at_builtin; refine wpList_append_any _ rfl _ _ 44 rfl wq.heap.size 37 i0 _ 2 16 Try.underlying44 hi0 hz0 hz1 hz2 rfl (by decide) _ 0 [] rfl (ownsRow_lit wq 37 2 _ (Nat.le_refl _)) L.length (seRow L) _ rfl hsrc.out (by unfold maxLen; omega) (by omega) (by simp) ?_; intro v' w2 hown hgrow; rw [Nat.zero_add, List.nil_append] at hown; obtain ⟨a2, cp2, rfl⟩ := slice_form hown)
      have hB2 : Below wq.heap.size wq w2 := below_grown hBl (ownsRow_lit wq 37 2 _ (Nat.le_refl _)) (Nat.le_refl _) (Nat.le_refl _) hgrow
      have hset : SetsX X w2 (.slice a2 L.length cp2) L := ⟨sets_of_row hown (by omega), by
        rcases hown.2 with ⟨_, hn⟩ | ⟨g', cap', cur, hv, hb', hg', r⟩
        · exact .inl (List.eq_nil_of_length_eq_zero hn)
        · exact .inr fun b o l c e hx => by cases hv; cases e; have := hXL _ hx; have := hBw.size; omega⟩
      have hB3 : Below wq.heap.size wq (w2.alloc (.cells #[.string name, .string parent, .slice a2 L.length cp2] 88)) := hB2.alloc (Nat.le_trans (Nat.le_refl _) hB2.size) _
      have hx := heap_new w2 (.cells #[.string name, .string parent, .slice a2 L.length cp2] 88)
      have hset3 : SetsX X (w2.alloc (.cells #[.string name, .string parent, .slice a2 L.length cp2] 88)) (.slice a2 L.length cp2) L := ⟨hset.toSetsAt.below ((Below.refl _ _).alloc (Nat.le_refl _) _), hset.av⟩
      have hs3 : (w2.alloc (.cells #[.string name, .string parent, .slice a2 L.length cp2] 88)).heap.size = w2.heap.size + 1 := by simp
      generalize hW3 : w2.alloc (.cells #[.string name, .string parent, .slice a2 L.length cp2] 88) = W3 at *
      obtain ⟨B, hB⟩ : ∃ B, w2.heap.size = B := ⟨_, rfl⟩
      have hR3 := hRr.below hB3
      have hBW : Below w.heap.size w W3 := hBw.trans (hB3.mono hBw.size)
      clear hgrow hown hset hB2 hsrc hBl hR1
      rw [hB] at hx hs3
      rw [hB]
      clear hW3 hB
      have dv3 := ((hbr.trans (hB3.mono hbr.size)).cell hg1).trans hv1
      cases hxn : shOf T name with
      | none =>
        have hat := refAt_not g T name W3 hR3 hxn
        obtain ⟨ii, hii⟩ : ∃ ii : Int, ii = -1 := ⟨_, rfl⟩
        rw [← hii] at hat
        have hneg : ii < 0 := by omega
        have hidx : Hid (∀ (k : Nat) (hk : k < T.length), ((k : Int) = ii ↔ T[k].1 = name)) := fun k hk => ⟨fun h => by omega, fun h => by
          have := (shOf_iff hsT (s := name) (y := T[k].2)).2 (by rw [← h]; exact List.getElem_mem hk)
          rw [hxn] at this; cases this⟩
        clear hii
        refine hat.mono ?_
        rintro e w' ⟨rfl, hww⟩
        subst w'
        by_cases hfull : 32 ≤ T.length
        · have hd : defE (shOf T) T.length name parent L = 8 := by rw [hdef2.out, if_pos ⟨hxn, hfull⟩]
          have hfin := rdefPost_no hsT hBW hR3 hd (by decide)
          have hfull' : (32 : Int) ≤ (T.length : Int) := by omega
          go_wp2_with fail
          go_ret
          exact hfin
        · have hfull' : ¬ (32 : Int) ≤ (T.length : Int) := by omega
          have hd : Hid (defE (shOf T) T.length name parent L = 0) := by rw [hdef2.out, if_neg (fun h => hfull h.2)]; exact rfl
          obtain ⟨i8, hi8, hy0, hy1, hy2⟩ := info_parts info88
          have hbx : B < W3.heap.size := by omega
          have hBw1 : Below w1.heap.size w1 W3 := hbr.trans (hB3.mono hbr.size)
          replace hx : Hid _ := hx
          replace hset3 : Hid _ := hset3
          replace hR3 : Hid _ := hR3
          replace hXL : Hid _ := hXL
          clear hdef2 hRr
          go_wp2_with fail
          go_loopw [13, 14, 15] (fun z d c wr => ∃ (k : Nat) (R1 : List Ent) (a5 : Option Addr) (n5 c5 : Nat) (bb : Bool), k ≤ T.length ∧ z = .slice a5 n5 c5 ∧ d = .bool bb ∧ c = .int .i64 k ∧ Below W3.heap.size W3 wr ∧ Hid (Walk X W3 wr T (name, parent, L) k (.slice a5 n5 c5) n5 bb R1)) (fun _ _ c _ => T.length - (intOf c).toNat)
          case atStart => exact ⟨0, [], none, 0, 0, false, by omega, rfl, rfl, rfl, Below.refl _ _, World.ownsRow_nil _ _ 88 3, rfl, fun e he => (by cases he), rfl, rfl, by omega, fun _ => by omega⟩
          case round =>
            obtain ⟨k, R1, a5, n5, c5, bb, hk, rfl, rfl, rfl, hb5, hH⟩ := hrel
            have Bk : Below w1.heap.size w1 wr := hBw1.trans (hb5.mono hBw1.size)
            have dv := (Bk.cell hg1).trans hv1
            have z0 : wr.cell? ⟨B, 0, none⟩ = some (.string name) := (hb5.cell hbx).trans (by rw [Lib.cell_of_heap hx.out]; rfl)
            have z1 : wr.cell? ⟨B, 1, none⟩ = some (.string parent) := (hb5.cell hbx).trans (by rw [Lib.cell_of_heap hx.out]; rfl)
            have z2 : wr.cell? ⟨B, 2, none⟩ = some (.slice a2 L.length cp2) := (hb5.cell hbx).trans (by rw [Lib.cell_of_heap hx.out]; rfl)
            have hs5 := hb5.size
            have hA1 := (Below.refl wr.heap.size wr).alloc (Nat.le_refl _) (.cells #[.string name, .string parent, .slice a2 L.length cp2] 88)
            by_cases hlt : k < T.length
            · rcases h3 with h3 | ⟨b, o, rfl, hbl, _, hc⟩
              · rw [h3] at hlt; simp at hlt
              obtain ⟨f0, f1, a6, c6, f2, hsk⟩ := hc k hlt
              have hks := hidx.out k hlt
              obtain ⟨s5, p5, L5, hTk⟩ : ∃ s5 p5 L5, T[k] = (s5, p5, L5) := ⟨_, _, _, rfl⟩
              have hst := walk_step (name, parent, L) hlt
              rw [hTk] at f0 f1 f2 hsk hst hks
              simp only at f0 f1 f2 hsk hks
              have c0 := (Bk.cell hbl).trans f0
              have c1 := (Bk.cell hbl).trans f1
              have c2 := (Bk.cell hbl).trans f2
              replace hst : Hid _ := hst
              replace hsk : Hid _ := hsk
              have hff : Hid _ := And.intro f0 (And.intro f1 f2)
              have hn5 : n5 ≤ 65 := by have := hH.out.few; omega
              clear hc hTk f0 f1 f2
              have hlt' : (k : Int) < T.length := by omega
              have hA2 := (Below.refl wr.heap.size wr).alloc (Nat.le_refl _) (.cells #[.string s5, .string p5, .slice a6 L5.length c6] 88)
              by_cases hkn : s5 = name
              · have hki := hks.2 hkn
                omega
              · have hki : ¬ (k : Int) = ii := fun h => hkn (hks.1 h)
                have hki2 : ¬ ii = (k : Int) := fun h => hki h.symm
                by_cases hin : bb = false ∧ ltS name s5
                · obtain ⟨rfl, hl⟩ := hin
                  have hls := less_yes hl
                  have hrow : Hid _ := ownsRow_below hH.out.row hA1
                  have hsx : Hid _ := srcs_ent wr name parent a2 L.length cp2
                  clear hks
                  go_wp2_with (first
                    | (at_builtin; refine wpList_append_any _ rfl _ _ 48 rfl W3.heap.size 88 i8 _ 3 56 Try.underlying48 hi8 hy0 hy1 hy2 rfl (by decide) (.slice a5 n5 c5) n5 (stRow R1) rfl hrow.out 1 [.string name, .string parent, .slice a2 L.length cp2] _ rfl hsx.out (by unfold maxLen; omega) (by omega) (by simp; omega) ?_; intro v7 w7 hown7 hgrow7; obtain ⟨a7, c7, rfl⟩ := slice_form hown7; have hB7 := below_grown (hb5.trans (hA1.mono hb5.size)) hrow.out (Nat.le_refl _) (Nat.le_refl _) hgrow7; have Bk7 := hBw1.trans (hB7.mono hBw1.size); have dv7 := (Bk7.cell hg1).trans hv1; have g0 := (Bk7.cell hbl).trans hff.out.1; have g1 := (Bk7.cell hbl).trans hff.out.2.1; have g2 := (Bk7.cell hbl).trans hff.out.2.2; have hA7 := (Below.refl w7.heap.size w7).alloc (Nat.le_refl _) (.cells #[.string s5, .string p5, .slice a6 L5.length c6] 88); have hrow7 : Hid _ := ownsRow_below hown7 hA7; have hsx7 : Hid _ := srcs_ent w7 s5 p5 a6 L5.length c6; have hsz7 : W3.heap.size ≤ (w7.alloc (.cells #[.string s5, .string p5, .slice a6 L5.length c6] 88)).heap.size := Nat.le_trans hB7.size hA7.size; clear hown7 hgrow7)
                    | (at_builtin; refine wpList_append_any _ rfl _ _ 48 rfl W3.heap.size 88 i8 _ 3 56 Try.underlying48 hi8 hy0 hy1 hy2 rfl (by decide) (.slice a7 (n5 + 1) c7) (n5 + 1) _ rfl hrow7.out 1 [.string s5, .string p5, .slice a6 L5.length c6] _ rfl hsx7.out (by unfold maxLen; omega) (by omega) hsz7 ?_; intro v8 w8 hown8 hgrow8; obtain ⟨a8, c8, rfl⟩ := slice_form hown8))
                  have hB8 : Below W3.heap.size W3 w8 := below_grown (hB7.trans (hA7.mono hB7.size)) hrow7.out (Nat.le_refl _) (Nat.le_refl _) hgrow8
                  have hnext : Hid (Walk X W3 w8 T (name, parent, L) (k + 1) (.slice a8 (n5 + 1 + 1) c8) (n5 + 1 + 1) true (R1 ++ [((name, parent, L), (a2, cp2))] ++ [((s5, p5, L5), (a6, c6))])) := by
                    obtain ⟨q1, q0, q2, q3, q4, q5, q6⟩ := hH.out
                    have : stepT (name, parent, L) (walkT (name, parent, L) (T.take k)) (s5, p5, L5) = ((walkT (name, parent, L) (T.take k)).1 ++ [(name, parent, L)] ++ [(s5, p5, L5)], true) := by unfold stepT; rw [if_neg hkn, if_pos ⟨q4.symm, hl⟩]
                    rw [stRow_snoc, stRow_snoc] at hown8
                    refine ⟨hown8, by simp [q0], EntsOk.snoc (EntsOk.snoc q2 hset3.out) ⟨hsk.out.toSetsAt.below hBw1, hsk.out.av⟩, ?_, ?_, by have := q6 rfl; omega, fun h => by cases h⟩
                    · rw [hst.out, this, map_snoc, map_snoc, q3]
                    · rw [hst.out, this]
                  clear hown8 hgrow8 hrow7 hsx7 hrow hsx hH hst
                  try go_wp2_with fail
                  go_roundw
                  case rel => exact ⟨k + 1, _, a8, _, c8, true, by omega, rfl, rfl, by simp, hB8, hnext.out⟩
                  case measure => simp [intOf]; omega
                · have hls : bb = true ∨ Op.bytesLess (ByteArray.toList name) (ByteArray.toList s5) = false := by
                    cases bb
                    · exact .inr (less_no fun h => hin ⟨rfl, h⟩)
                    · exact .inl rfl
                  have hrow : Hid _ := ownsRow_below hH.out.row hA2
                  have hsx : Hid _ := srcs_ent wr s5 p5 a6 L5.length c6
                  have hstq : Hid (walkT (name, parent, L) (T.take (k + 1)) = ((walkT (name, parent, L) (T.take k)).1 ++ [(s5, p5, L5)], (walkT (name, parent, L) (T.take k)).2)) := by
                    show _ = _
                    rw [hst.out]
                    unfold stepT
                    rw [if_neg hkn, if_neg (fun h => hin ⟨hH.out.at2.trans h.1, h.2⟩)]
                  have hfin : ∀ w8 a8 c8, w8.ownsRow W3.heap.size 88 3 (.slice a8 (n5 + 1) c8) (n5 + 1) (stRow R1 ++ [.string s5, .string p5, .slice a6 L5.length c6]) → Below W3.heap.size W3 w8 → Hid (Walk X W3 w8 T (name, parent, L) (k + 1) (.slice a8 (n5 + 1) c8) (n5 + 1) bb (R1 ++ [((s5, p5, L5), (a6, c6))])) := fun w8 a8 c8 hown8 hB8 => by
                    obtain ⟨q1, q0, q2, q3, q4, q5, q6⟩ := hH.out
                    rw [stRow_snoc] at hown8
                    refine ⟨hown8, by simp [q0], EntsOk.snoc q2 ⟨hsk.out.toSetsAt.below hBw1, hsk.out.av⟩, ?_, ?_, by omega, fun h => by have := q6 h; omega⟩
                    · rw [hstq.out, map_snoc, q3]
                    · rw [hstq.out]; exact q4
                  have hbase : W3.heap.size ≤ (wr.alloc (.cells #[.string s5, .string p5, .slice a6 L5.length c6] 88)).heap.size := Nat.le_trans hs5 hA2.size
                  replace hfin : Hid _ := hfin
                  clear hks hin hH hst hstq
                  rcases hls with rfl | hls
                  · go_wp2_with (at_builtin; refine wpList_append_any _ rfl _ _ 48 rfl W3.heap.size 88 i8 _ 3 56 Try.underlying48 hi8 hy0 hy1 hy2 rfl (by decide) (.slice a5 n5 c5) n5 _ rfl hrow.out 1 [.string s5, .string p5, .slice a6 L5.length c6] _ rfl hsx.out (by unfold maxLen; omega) (by omega) hbase ?_; intro v8 w8 hown8 hgrow8; obtain ⟨a8, c8, rfl⟩ := slice_form hown8)
                    have hB8 : Below W3.heap.size W3 w8 := below_grown (hb5.trans (hA2.mono hb5.size)) hrow.out (Nat.le_refl _) (Nat.le_refl _) hgrow8
                    have hnext := hfin.out w8 a8 c8 hown8 hB8
                    clear hown8 hgrow8 hrow hsx hfin
                    try go_wp2_with fail
                    go_roundw
                    case rel => exact ⟨k + 1, _, a8, _, c8, true, by omega, rfl, rfl, by simp, hB8, hnext.out⟩
                    case measure => simp [intOf]; omega
                  · cases bb
                    · go_wp2_with (at_builtin; refine wpList_append_any _ rfl _ _ 48 rfl W3.heap.size 88 i8 _ 3 56 Try.underlying48 hi8 hy0 hy1 hy2 rfl (by decide) (.slice a5 n5 c5) n5 _ rfl hrow.out 1 [.string s5, .string p5, .slice a6 L5.length c6] _ rfl hsx.out (by unfold maxLen; omega) (by omega) hbase ?_; intro v8 w8 hown8 hgrow8; obtain ⟨a8, c8, rfl⟩ := slice_form hown8)
                      have hB8 : Below W3.heap.size W3 w8 := below_grown (hb5.trans (hA2.mono hb5.size)) hrow.out (Nat.le_refl _) (Nat.le_refl _) hgrow8
                      have hnext := hfin.out w8 a8 c8 hown8 hB8
                      clear hown8 hgrow8 hrow hsx hfin
                      try go_wp2_with fail
                      go_roundw
                      case rel => exact ⟨k + 1, _, a8, _, c8, false, by omega, rfl, rfl, by simp, hB8, hnext.out⟩
                      case measure => simp [intOf]; omega
                    · go_wp2_with (at_builtin; refine wpList_append_any _ rfl _ _ 48 rfl W3.heap.size 88 i8 _ 3 56 Try.underlying48 hi8 hy0 hy1 hy2 rfl (by decide) (.slice a5 n5 c5) n5 _ rfl hrow.out 1 [.string s5, .string p5, .slice a6 L5.length c6] _ rfl hsx.out (by unfold maxLen; omega) (by omega) hbase ?_; intro v8 w8 hown8 hgrow8; obtain ⟨a8, c8, rfl⟩ := slice_form hown8)
                      have hB8 : Below W3.heap.size W3 w8 := below_grown (hb5.trans (hA2.mono hb5.size)) hrow.out (Nat.le_refl _) (Nat.le_refl _) hgrow8
                      have hnext := hfin.out w8 a8 c8 hown8 hB8
                      clear hown8 hgrow8 hrow hsx hfin
                      try go_wp2_with fail
                      go_roundw
                      case rel => exact ⟨k + 1, _, a8, _, c8, true, by omega, rfl, rfl, by simp, hB8, hnext.out⟩
                      case measure => simp [intOf]; omega
            · obtain rfl : k = T.length := by omega
              have hnl' : ¬ ((T.length : Int) < T.length) := by omega
              have hBwr : Below w.heap.size w wr := hBW.trans (hb5.mono hBW.size)
              have hn5 : n5 ≤ 65 := by have := hH.out.few; omega
              have hfr : ∀ W, Below W3.heap.size W3 W → W.frozen? ⟨g, 0, none⟩ = false := fun W hW => by
                obtain ⟨u9, hu9⟩ := (hR3.out.below hW).obj
                exact Lib.frozen_of_heap hu9 0
              have hdone : ∀ (W' : World) (v' : Value) (R : List Ent), Below W3.heap.size W3 W' → W'.ownsRow W3.heap.size 88 3 v' R.length (stRow R) → R.length ≤ 66 → EntsOk X W3 R → R.map (·.1) = endT (name, parent, L) (walkT (name, parent, L) T) → Hid (rdefPost X w g T name parent L (.returned (.int .i64 0)) (W'.setCell ⟨g, 0, none⟩ v')) := fun W' v' R hW hown hl hok hmap => by
                obtain ⟨r1, r2⟩ := hRw.out.store (hBW.trans (hW.mono hBW.size)) hown hBW.size (by omega) hXL.out (hok.below hW)
                rw [hmap, walk_end _ hsT] at r1
                exact ⟨by rw [hd.out], r2, _, r1, sorted_putT hsT _, fun h0 => absurd hd.out h0, fun _ => rfl⟩
              have hend : Hid ((n5 = R1.length ∧ EntsOk X W3 R1 ∧ wr.ownsRow W3.heap.size 88 3 (.slice a5 n5 c5) n5 (stRow R1)) ∧ R1.map (·.1) = (walkT (name, parent, L) T).1 ∧ bb = (walkT (name, parent, L) T).2) := by
                obtain ⟨q1, q0, q2, q3, q4, q5, q6⟩ := hH.out
                rw [List.take_length] at q3 q4
                exact ⟨⟨q0, q2, q1⟩, q3, q4⟩
              replace hdone : Hid _ := hdone
              clear hH
              cases bb
              · have hrow : Hid _ := ownsRow_below hend.out.1.2.2 hA1
                have hsx : Hid _ := srcs_ent wr name parent a2 L.length cp2
                have hbase : W3.heap.size ≤ (wr.alloc (.cells #[.string name, .string parent, .slice a2 L.length cp2] 88)).heap.size := Nat.le_trans hs5 hA1.size
                go_wp2_with (at_builtin; refine wpList_append_any _ rfl _ _ 48 rfl W3.heap.size 88 i8 _ 3 56 Try.underlying48 hi8 hy0 hy1 hy2 rfl (by decide) (.slice a5 n5 c5) n5 _ rfl hrow.out 1 [.string name, .string parent, .slice a2 L.length cp2] _ rfl hsx.out (by unfold maxLen; omega) (by omega) hbase ?_; intro v8 w8 hown8 hgrow8; obtain ⟨a8, c8, rfl⟩ := slice_form hown8; have hB8 := below_grown (hb5.trans (hA1.mono hb5.size)) hrow.out (Nat.le_refl _) (Nat.le_refl _) hgrow8; have y0 := ((hBw1.trans (hB8.mono hBw1.size)).cell hg1).trans hv1; have y1 := hfr w8 hB8)
                have hfin := hdone.out w8 (.slice a8 (n5 + 1) c8) (R1 ++ [((name, parent, L), (a2, cp2))]) hB8 (by
                  rw [stRow_snoc] at hown8
                  rw [List.length_append, ← hend.out.1.1]; exact hown8) (by rw [List.length_append, ← hend.out.1.1]; simp; omega) (EntsOk.snoc hend.out.1.2.1 hset3.out) (by
                  rw [map_snoc, hend.out.2.1]; unfold endT; rw [← hend.out.2.2]; rfl)
                clear hown8 hgrow8 hrow hsx hdone
                try go_wp2_with fail
                go_ret
                exact hfin.out
              · have y1 := hfr wr hb5
                have hfin := hdone.out wr (.slice a5 n5 c5) R1 hb5 (by have := hend.out.1; rw [← this.1]; exact this.2.2) (by rw [← hend.out.1.1]; omega) hend.out.1.2.1 (by
                  rw [hend.out.2.1]; unfold endT; rw [← hend.out.2.2]; rfl)
                clear hdone
                go_wp2_with fail
                go_ret
                exact hfin.out
      | some y =>
        have hsn : (shOf T name).isSome = true := by rw [hxn]; rfl
        obtain ⟨i, hi, hi1, hi2, _⟩ := shOf_first hsn
        have hat := refAt_there g T name W3 hR3 i hi hi1 hi2
        obtain ⟨ii, hii⟩ : ∃ ii : Int, ii = i := ⟨_, rfl⟩
        rw [← hii] at hat
        have hneg : ¬ ii < 0 := by omega
        have hidx : Hid (∀ (k : Nat) (hk : k < T.length), ((k : Int) = ii ↔ T[k].1 = name)) := fun k hk => hii ▸ idx_iff hsT hi hi1 k hk
        clear hi1 hi2 hii
        refine hat.mono ?_
        rintro e w' ⟨rfl, hww⟩
        subst w'
        have hd : Hid (defE (shOf T) T.length name parent L = 0) := by rw [hdef2.out, if_neg (by rintro ⟨h, _⟩; rw [hxn] at h; cases h)]; exact rfl
        obtain ⟨i8, hi8, hy0, hy1, hy2⟩ := info_parts info88
        have hbx : B < W3.heap.size := by omega
        have hBw1 : Below w1.heap.size w1 W3 := hbr.trans (hB3.mono hbr.size)
        replace hx : Hid _ := hx
        replace hset3 : Hid _ := hset3
        replace hR3 : Hid _ := hR3
        replace hXL : Hid _ := hXL
        clear hdef2 hRr
        go_wp2_with fail
        go_loopw [13, 14, 15] (fun z d c wr => ∃ (k : Nat) (R1 : List Ent) (a5 : Option Addr) (n5 c5 : Nat) (bb : Bool), k ≤ T.length ∧ z = .slice a5 n5 c5 ∧ d = .bool bb ∧ c = .int .i64 k ∧ Below W3.heap.size W3 wr ∧ Hid (Walk X W3 wr T (name, parent, L) k (.slice a5 n5 c5) n5 bb R1)) (fun _ _ c _ => T.length - (intOf c).toNat)
        case atStart => exact ⟨0, [], none, 0, 0, false, by omega, rfl, rfl, rfl, Below.refl _ _, World.ownsRow_nil _ _ 88 3, rfl, fun e he => (by cases he), rfl, rfl, by omega, fun _ => by omega⟩
        case round =>
          obtain ⟨k, R1, a5, n5, c5, bb, hk, rfl, rfl, rfl, hb5, hH⟩ := hrel
          have Bk : Below w1.heap.size w1 wr := hBw1.trans (hb5.mono hBw1.size)
          have dv := (Bk.cell hg1).trans hv1
          have z0 : wr.cell? ⟨B, 0, none⟩ = some (.string name) := (hb5.cell hbx).trans (by rw [Lib.cell_of_heap hx.out]; rfl)
          have z1 : wr.cell? ⟨B, 1, none⟩ = some (.string parent) := (hb5.cell hbx).trans (by rw [Lib.cell_of_heap hx.out]; rfl)
          have z2 : wr.cell? ⟨B, 2, none⟩ = some (.slice a2 L.length cp2) := (hb5.cell hbx).trans (by rw [Lib.cell_of_heap hx.out]; rfl)
          have hs5 := hb5.size
          have hA1 := (Below.refl wr.heap.size wr).alloc (Nat.le_refl _) (.cells #[.string name, .string parent, .slice a2 L.length cp2] 88)
          by_cases hlt : k < T.length
          · rcases h3 with h3 | ⟨b, o, rfl, hbl, _, hc⟩
            · rw [h3] at hlt; simp at hlt
            obtain ⟨f0, f1, a6, c6, f2, hsk⟩ := hc k hlt
            have hks := hidx.out k hlt
            obtain ⟨s5, p5, L5, hTk⟩ : ∃ s5 p5 L5, T[k] = (s5, p5, L5) := ⟨_, _, _, rfl⟩
            have hst := walk_step (name, parent, L) hlt
            rw [hTk] at f0 f1 f2 hsk hst hks
            simp only at f0 f1 f2 hsk hks
            have c0 := (Bk.cell hbl).trans f0
            have c1 := (Bk.cell hbl).trans f1
            have c2 := (Bk.cell hbl).trans f2
            replace hst : Hid _ := hst
            replace hsk : Hid _ := hsk
            have hff : Hid _ := And.intro f0 (And.intro f1 f2)
            have hn5 : n5 ≤ 65 := by have := hH.out.few; omega
            clear hc hTk f0 f1 f2
            have hlt' : (k : Int) < T.length := by omega
            have hA2 := (Below.refl wr.heap.size wr).alloc (Nat.le_refl _) (.cells #[.string s5, .string p5, .slice a6 L5.length c6] 88)
            by_cases hkn : s5 = name
            · have hki := hks.2 hkn
              have hnext : Hid (Walk X W3 wr T (name, parent, L) (k + 1) (.slice a5 n5 c5) n5 bb R1) := by
                obtain ⟨q1, q0, q2, q3, q4, q5, q6⟩ := hH.out
                have : stepT (name, parent, L) (walkT (name, parent, L) (T.take k)) (s5, p5, L5) = walkT (name, parent, L) (T.take k) := by unfold stepT; rw [if_pos hkn]
                exact ⟨q1, q0, q2, by rw [hst.out, this]; exact q3, by rw [hst.out, this]; exact q4, by omega, fun h => by have := q6 h; omega⟩
              subst hki
              clear hH hst hks
              go_wp2_with fail
              go_roundw
              case rel => exact ⟨k + 1, R1, a5, n5, c5, bb, by omega, rfl, rfl, by simp, hb5, hnext⟩
              case measure => simp [intOf]; omega
            · have hki : ¬ (k : Int) = ii := fun h => hkn (hks.1 h)
              have hki2 : ¬ ii = (k : Int) := fun h => hki h.symm
              by_cases hin : bb = false ∧ ltS name s5
              · obtain ⟨rfl, hl⟩ := hin
                have hls := less_yes hl
                have hrow : Hid _ := ownsRow_below hH.out.row hA1
                have hsx : Hid _ := srcs_ent wr name parent a2 L.length cp2
                clear hks
                go_wp2_with (first
                  | (at_builtin; refine wpList_append_any _ rfl _ _ 48 rfl W3.heap.size 88 i8 _ 3 56 Try.underlying48 hi8 hy0 hy1 hy2 rfl (by decide) (.slice a5 n5 c5) n5 (stRow R1) rfl hrow.out 1 [.string name, .string parent, .slice a2 L.length cp2] _ rfl hsx.out (by unfold maxLen; omega) (by omega) (by simp; omega) ?_; intro v7 w7 hown7 hgrow7; obtain ⟨a7, c7, rfl⟩ := slice_form hown7; have hB7 := below_grown (hb5.trans (hA1.mono hb5.size)) hrow.out (Nat.le_refl _) (Nat.le_refl _) hgrow7; have Bk7 := hBw1.trans (hB7.mono hBw1.size); have dv7 := (Bk7.cell hg1).trans hv1; have g0 := (Bk7.cell hbl).trans hff.out.1; have g1 := (Bk7.cell hbl).trans hff.out.2.1; have g2 := (Bk7.cell hbl).trans hff.out.2.2; have hA7 := (Below.refl w7.heap.size w7).alloc (Nat.le_refl _) (.cells #[.string s5, .string p5, .slice a6 L5.length c6] 88); have hrow7 : Hid _ := ownsRow_below hown7 hA7; have hsx7 : Hid _ := srcs_ent w7 s5 p5 a6 L5.length c6; have hsz7 : W3.heap.size ≤ (w7.alloc (.cells #[.string s5, .string p5, .slice a6 L5.length c6] 88)).heap.size := Nat.le_trans hB7.size hA7.size; clear hown7 hgrow7)
                  | (at_builtin; refine wpList_append_any _ rfl _ _ 48 rfl W3.heap.size 88 i8 _ 3 56 Try.underlying48 hi8 hy0 hy1 hy2 rfl (by decide) (.slice a7 (n5 + 1) c7) (n5 + 1) _ rfl hrow7.out 1 [.string s5, .string p5, .slice a6 L5.length c6] _ rfl hsx7.out (by unfold maxLen; omega) (by omega) hsz7 ?_; intro v8 w8 hown8 hgrow8; obtain ⟨a8, c8, rfl⟩ := slice_form hown8))
                have hB8 : Below W3.heap.size W3 w8 := below_grown (hB7.trans (hA7.mono hB7.size)) hrow7.out (Nat.le_refl _) (Nat.le_refl _) hgrow8
                have hnext : Hid (Walk X W3 w8 T (name, parent, L) (k + 1) (.slice a8 (n5 + 1 + 1) c8) (n5 + 1 + 1) true (R1 ++ [((name, parent, L), (a2, cp2))] ++ [((s5, p5, L5), (a6, c6))])) := by
                  obtain ⟨q1, q0, q2, q3, q4, q5, q6⟩ := hH.out
                  have : stepT (name, parent, L) (walkT (name, parent, L) (T.take k)) (s5, p5, L5) = ((walkT (name, parent, L) (T.take k)).1 ++ [(name, parent, L)] ++ [(s5, p5, L5)], true) := by unfold stepT; rw [if_neg hkn, if_pos ⟨q4.symm, hl⟩]
                  rw [stRow_snoc, stRow_snoc] at hown8
                  refine ⟨hown8, by simp [q0], EntsOk.snoc (EntsOk.snoc q2 hset3.out) ⟨hsk.out.toSetsAt.below hBw1, hsk.out.av⟩, ?_, ?_, by have := q6 rfl; omega, fun h => by cases h⟩
                  · rw [hst.out, this, map_snoc, map_snoc, q3]
                  · rw [hst.out, this]
                clear hown8 hgrow8 hrow7 hsx7 hrow hsx hH hst
                try go_wp2_with fail
                go_roundw
                case rel => exact ⟨k + 1, _, a8, _, c8, true, by omega, rfl, rfl, by simp, hB8, hnext.out⟩
                case measure => simp [intOf]; omega
              · have hls : bb = true ∨ Op.bytesLess (ByteArray.toList name) (ByteArray.toList s5) = false := by
                  cases bb
                  · exact .inr (less_no fun h => hin ⟨rfl, h⟩)
                  · exact .inl rfl
                have hrow : Hid _ := ownsRow_below hH.out.row hA2
                have hsx : Hid _ := srcs_ent wr s5 p5 a6 L5.length c6
                have hstq : Hid (walkT (name, parent, L) (T.take (k + 1)) = ((walkT (name, parent, L) (T.take k)).1 ++ [(s5, p5, L5)], (walkT (name, parent, L) (T.take k)).2)) := by
                  show _ = _
                  rw [hst.out]
                  unfold stepT
                  rw [if_neg hkn, if_neg (fun h => hin ⟨hH.out.at2.trans h.1, h.2⟩)]
                have hfin : ∀ w8 a8 c8, w8.ownsRow W3.heap.size 88 3 (.slice a8 (n5 + 1) c8) (n5 + 1) (stRow R1 ++ [.string s5, .string p5, .slice a6 L5.length c6]) → Below W3.heap.size W3 w8 → Hid (Walk X W3 w8 T (name, parent, L) (k + 1) (.slice a8 (n5 + 1) c8) (n5 + 1) bb (R1 ++ [((s5, p5, L5), (a6, c6))])) := fun w8 a8 c8 hown8 hB8 => by
                  obtain ⟨q1, q0, q2, q3, q4, q5, q6⟩ := hH.out
                  rw [stRow_snoc] at hown8
                  refine ⟨hown8, by simp [q0], EntsOk.snoc q2 ⟨hsk.out.toSetsAt.below hBw1, hsk.out.av⟩, ?_, ?_, by omega, fun h => by have := q6 h; omega⟩
                  · rw [hstq.out, map_snoc, q3]
                  · rw [hstq.out]; exact q4
                have hbase : W3.heap.size ≤ (wr.alloc (.cells #[.string s5, .string p5, .slice a6 L5.length c6] 88)).heap.size := Nat.le_trans hs5 hA2.size
                replace hfin : Hid _ := hfin
                clear hks hin hH hst hstq
                rcases hls with rfl | hls
                · go_wp2_with (at_builtin; refine wpList_append_any _ rfl _ _ 48 rfl W3.heap.size 88 i8 _ 3 56 Try.underlying48 hi8 hy0 hy1 hy2 rfl (by decide) (.slice a5 n5 c5) n5 _ rfl hrow.out 1 [.string s5, .string p5, .slice a6 L5.length c6] _ rfl hsx.out (by unfold maxLen; omega) (by omega) hbase ?_; intro v8 w8 hown8 hgrow8; obtain ⟨a8, c8, rfl⟩ := slice_form hown8)
                  have hB8 : Below W3.heap.size W3 w8 := below_grown (hb5.trans (hA2.mono hb5.size)) hrow.out (Nat.le_refl _) (Nat.le_refl _) hgrow8
                  have hnext := hfin.out w8 a8 c8 hown8 hB8
                  clear hown8 hgrow8 hrow hsx hfin
                  try go_wp2_with fail
                  go_roundw
                  case rel => exact ⟨k + 1, _, a8, _, c8, true, by omega, rfl, rfl, by simp, hB8, hnext.out⟩
                  case measure => simp [intOf]; omega
                · cases bb
                  · go_wp2_with (at_builtin; refine wpList_append_any _ rfl _ _ 48 rfl W3.heap.size 88 i8 _ 3 56 Try.underlying48 hi8 hy0 hy1 hy2 rfl (by decide) (.slice a5 n5 c5) n5 _ rfl hrow.out 1 [.string s5, .string p5, .slice a6 L5.length c6] _ rfl hsx.out (by unfold maxLen; omega) (by omega) hbase ?_; intro v8 w8 hown8 hgrow8; obtain ⟨a8, c8, rfl⟩ := slice_form hown8)
                    have hB8 : Below W3.heap.size W3 w8 := below_grown (hb5.trans (hA2.mono hb5.size)) hrow.out (Nat.le_refl _) (Nat.le_refl _) hgrow8
                    have hnext := hfin.out w8 a8 c8 hown8 hB8
                    clear hown8 hgrow8 hrow hsx hfin
                    try go_wp2_with fail
                    go_roundw
                    case rel => exact ⟨k + 1, _, a8, _, c8, false, by omega, rfl, rfl, by simp, hB8, hnext.out⟩
                    case measure => simp [intOf]; omega
                  · go_wp2_with (at_builtin; refine wpList_append_any _ rfl _ _ 48 rfl W3.heap.size 88 i8 _ 3 56 Try.underlying48 hi8 hy0 hy1 hy2 rfl (by decide) (.slice a5 n5 c5) n5 _ rfl hrow.out 1 [.string s5, .string p5, .slice a6 L5.length c6] _ rfl hsx.out (by unfold maxLen; omega) (by omega) hbase ?_; intro v8 w8 hown8 hgrow8; obtain ⟨a8, c8, rfl⟩ := slice_form hown8)
                    have hB8 : Below W3.heap.size W3 w8 := below_grown (hb5.trans (hA2.mono hb5.size)) hrow.out (Nat.le_refl _) (Nat.le_refl _) hgrow8
                    have hnext := hfin.out w8 a8 c8 hown8 hB8
                    clear hown8 hgrow8 hrow hsx hfin
                    try go_wp2_with fail
                    go_roundw
                    case rel => exact ⟨k + 1, _, a8, _, c8, true, by omega, rfl, rfl, by simp, hB8, hnext.out⟩
                    case measure => simp [intOf]; omega
          · obtain rfl : k = T.length := by omega
            have hnl' : ¬ ((T.length : Int) < T.length) := by omega
            have hBwr : Below w.heap.size w wr := hBW.trans (hb5.mono hBW.size)
            have hn5 : n5 ≤ 65 := by have := hH.out.few; omega
            have hfr : ∀ W, Below W3.heap.size W3 W → W.frozen? ⟨g, 0, none⟩ = false := fun W hW => by
              obtain ⟨u9, hu9⟩ := (hR3.out.below hW).obj
              exact Lib.frozen_of_heap hu9 0
            have hdone : ∀ (W' : World) (v' : Value) (R : List Ent), Below W3.heap.size W3 W' → W'.ownsRow W3.heap.size 88 3 v' R.length (stRow R) → R.length ≤ 66 → EntsOk X W3 R → R.map (·.1) = endT (name, parent, L) (walkT (name, parent, L) T) → Hid (rdefPost X w g T name parent L (.returned (.int .i64 0)) (W'.setCell ⟨g, 0, none⟩ v')) := fun W' v' R hW hown hl hok hmap => by
              obtain ⟨r1, r2⟩ := hRw.out.store (hBW.trans (hW.mono hBW.size)) hown hBW.size (by omega) hXL.out (hok.below hW)
              rw [hmap, walk_end _ hsT] at r1
              exact ⟨by rw [hd.out], r2, _, r1, sorted_putT hsT _, fun h0 => absurd hd.out h0, fun _ => rfl⟩
            have hend : Hid ((n5 = R1.length ∧ EntsOk X W3 R1 ∧ wr.ownsRow W3.heap.size 88 3 (.slice a5 n5 c5) n5 (stRow R1)) ∧ R1.map (·.1) = (walkT (name, parent, L) T).1 ∧ bb = (walkT (name, parent, L) T).2) := by
              obtain ⟨q1, q0, q2, q3, q4, q5, q6⟩ := hH.out
              rw [List.take_length] at q3 q4
              exact ⟨⟨q0, q2, q1⟩, q3, q4⟩
            replace hdone : Hid _ := hdone
            clear hH
            cases bb
            · have hrow : Hid _ := ownsRow_below hend.out.1.2.2 hA1
              have hsx : Hid _ := srcs_ent wr name parent a2 L.length cp2
              have hbase : W3.heap.size ≤ (wr.alloc (.cells #[.string name, .string parent, .slice a2 L.length cp2] 88)).heap.size := Nat.le_trans hs5 hA1.size
              go_wp2_with (at_builtin; refine wpList_append_any _ rfl _ _ 48 rfl W3.heap.size 88 i8 _ 3 56 Try.underlying48 hi8 hy0 hy1 hy2 rfl (by decide) (.slice a5 n5 c5) n5 _ rfl hrow.out 1 [.string name, .string parent, .slice a2 L.length cp2] _ rfl hsx.out (by unfold maxLen; omega) (by omega) hbase ?_; intro v8 w8 hown8 hgrow8; obtain ⟨a8, c8, rfl⟩ := slice_form hown8; have hB8 := below_grown (hb5.trans (hA1.mono hb5.size)) hrow.out (Nat.le_refl _) (Nat.le_refl _) hgrow8; have y0 := ((hBw1.trans (hB8.mono hBw1.size)).cell hg1).trans hv1; have y1 := hfr w8 hB8)
              have hfin := hdone.out w8 (.slice a8 (n5 + 1) c8) (R1 ++ [((name, parent, L), (a2, cp2))]) hB8 (by
                rw [stRow_snoc] at hown8
                rw [List.length_append, ← hend.out.1.1]; exact hown8) (by rw [List.length_append, ← hend.out.1.1]; simp; omega) (EntsOk.snoc hend.out.1.2.1 hset3.out) (by
                rw [map_snoc, hend.out.2.1]; unfold endT; rw [← hend.out.2.2]; rfl)
              clear hown8 hgrow8 hrow hsx hdone
              try go_wp2_with fail
              go_ret
              exact hfin.out
            · have y1 := hfr wr hb5
              have hfin := hdone.out wr (.slice a5 n5 c5) R1 hb5 (by have := hend.out.1; rw [← this.1]; exact this.2.2) (by rw [← hend.out.1.1]; omega) hend.out.1.2.1 (by
                rw [hend.out.2.1]; unfold endT; rw [← hend.out.2.2]; rfl)
              clear hdone
              go_wp2_with fail
              go_ret
              exact hfin.out
    · have hE2 := isEmpty_no (size_pos hue)
      have hsome : (shOf T u).isSome = true := by rcases hu0 with h | h; exact absurd h hue; exact h
      by_cases hut : u = name
      · have hyes : ansUp (shOf T) parent name = true := by rw [← ha, hut]; exact ansUp_here _ (hut ▸ hue)
        have hd : defE (shOf T) T.length name parent L = 10 := by have := hdef.out; rwa [hyes, if_pos rfl] at this
        have hfin := rdefPost_no hsT (b1.trans (hbr.mono b1.size)) (hR1.out.below hbr) hd (by decide)
        subst hut
        clear ha hdef
        go_wp2_with fail
        go_ret
        exact hfin
      · have hq := strEq_no hut
        obtain ⟨i, hi, hi1, hi2, hi3⟩ := shOf_first hsome
        have hat : ∀ W, Below wr.heap.size wr W → _ := fun W (hW : Below wr.heap.size wr W) => refAt_there g T u W ((hR1.out.below hbr).below hW) i hi hi1 hi2
        rcases h3 with h3 | ⟨b, o, rfl, hbl, _, hc⟩
        · rw [h3] at hi; simp at hi
        obtain ⟨_, c1, _⟩ := hc i hi
        have d1 := (hbr.cell hbl).trans c1
        have dv := (hbr.cell hg1).trans hv1
        have hstep : Hid ((T[i].2.1 = e0 ∨ (shOf T T[i].2.1).isSome = true) ∧ ansUp (shOf T) T[i].2.1 name = ansUp (shOf T) parent name) := by
          refine ⟨?_, ?_⟩
          · by_cases hp : T[i].2.1 = e0
            · exact .inl hp
            · obtain ⟨y, hy⟩ := hWF'.out.up u T[i].2.1 T[i].2.2 hi3 hp
              exact .inr (by rw [hy]; rfl)
          · rw [← ha, ansUp_step _ hue hut (L := T[i].2.2) hi3]
        have hm : Hid (rk (shOf T) rk0 T[i].2.1 < rk (shOf T) rk0 u) := by
          rw [rk_some _ _ hue hi3]
          by_cases hp : T[i].2.1 = e0
          · rw [hp, rk_e0]; exact Nat.succ_pos _
          · obtain ⟨y, hy⟩ := hWF'.out.up u T[i].2.1 T[i].2.2 hi3 hp
            rw [rk_some _ _ hp hy]
            have := hrk'.out u T[i].2.1 T[i].2.2 hi3 hp
            show _ < _
            omega
        have hxx := hbr.size
        generalize T[i].2.1 = p at *
        clear ha hi1 hi2 hi3 c1 hc
        go_wp2_with fail
        refine up_region _ (fun _ _ _ _ _ h => h) _ _ g b o T.length cap1 i u p hi wr hat ⟨dv, d1⟩ ?_
        unfold fr24
        go_wp2_with fail
        go_roundw
        case rel => exact ⟨p, rfl, below_drew hbr, hstep⟩
        case measure => exact hm.out

theorem refDefine_any (g : Nat) (T : Stys) (hsT : SortedT T) (hT : T.length ≤ 64) (hWF : WF (shOf T)) (name parent : Str) (hnl : name.size ≤ maxLen) (v : Value) (L : List (Int × Int)) (w : World) (h : RefAt X w g T) (hL : SetsAt w v L) (hXL : XL X w) :
    Calls Try.prog 24 #[.pointer (some ⟨g, 0, none⟩), .string name, .string parent, v] w (rdefPost X w g T name parent L) := by
  cases hn : nameB name
  · exact refDefine_bad g T hsT name parent hnl hn v L w h
  · by_cases hpe : parent = e0
    · exact refDefine_top g T hsT hT hWF name parent hnl hn hpe v L w h hL hXL
    · cases hps : shOf T parent with
      | none => exact refDefine_missing g T hsT name parent hnl hn hpe hps v L w h
      | some x => exact refDefine_child g T hsT hT hWF name parent hnl hn hpe (by rw [hps]; rfl) v L w h hL hXL
end Go.Proofs.Ytifkelpgpdgenaa
