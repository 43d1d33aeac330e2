/-
  What is proved here: StyleScript answers true at every input: a sheet, and a clone of it, answer any calls as the document says.
-/
import Derived.Test.YtifkelpgpdgenaaXRnd
namespace Go.Proofs.Ytifkelpgpdgenaa
open Go.RowKit Go.Shelf

theorem shOf_nil : shOf [] = fun _ => none := funext fun _ => shOf_none (by simp)
theorem wf_nil : WF (shOf []) := by
  rw [shOf_nil]
  exact ⟨fun _ _ h => (by cases h), fun _ _ _ h => (by cases h), fun _ _ _ h => (by cases h), fun _ => 0, fun _ _ _ h => (by cases h)⟩
theorem ref_new (X : Nat → Prop) (W : World) (hX : ¬ X W.heap.size) : RefAt X (W.alloc (.cells #[.slice none 0 0] 50)) W.heap.size [] :=
  ⟨⟨_, by rw [Lib.cell_of_heap (heap_new W _)]; rfl, ⟨none, 0, rfl, .inl rfl⟩, by simp, fun a l c e => by cases e; exact Nat.le_refl _⟩, by simp, hX, _, heap_new W _⟩
/-- The first two pairs. -/
theorem start_clone {w W : World} {t b g : Nat} (hb : Below w.heap.size w W) (h : PairAt (fun _ => False) W t b g []) (b0 : w.heap.size ≤ b) (g0 : w.heap.size ≤ g) :
    Calls Try.prog 21 #[.pointer (some ⟨t, 0, none⟩)] W fun e W1 => ∃ o c, e = .returned (.pointer (some ⟨o, 0, none⟩)) ∧
      Hid (Calls Try.prog 22 #[.pointer (some ⟨g, 0, none⟩)] W1 fun e W2 => ∃ v, e = .returned (.pointer (some ⟨v, 0, none⟩)) ∧ Sta (fun _ => False) w t b g o c v W2) := by
  refine (clone_any t b _ _ h.wf W h.sh (fun _ h => h.elim)).mono ?_
  rintro e W1 ⟨o, c, rfl, ho, hc, hs, B1⟩
  refine ⟨o, c, rfl, ?_⟩
  have h1 := h.below B1
  refine (refClone_any g [] h.few W1 h1.rf (fun _ h => h.elim)).mono ?_
  rintro e W2 ⟨v, rfl, hv, hr, B2⟩
  have B12 := B1.trans (B2.mono B1.size)
  have e1 := hb.size
  have e2 := B1.size
  have lt1 := h.sh.lt2
  have lt2 := h.rf.lt
  exact ⟨v, rfl, hb.trans (B12.mono hb.size), ⟨[], h.below B12⟩, ⟨[], hs.below B2, hr, h.so, h.wf⟩, by omega, by omega, b0, g0, by omega, by omega⟩

set_option maxRecDepth 100000 in
set_option maxHeartbeats 8000000 in
theorem script_any (av ov : Value) (As : List ActD) (own : List (Int × Int)) (w : World) (hA : ActsAt w av As) (hO : SetsAt w ov own) :
    Calls Try.prog 4 #[av, ov] w fun e w' => e = .returned (.bool true) ∧ Below w.heap.size w w' := by
  obtain ⟨a, cap, rfl, hact⟩ := hA.ex
  obtain ⟨a', cap', rfl, _⟩ := hO.ex
  have hO' : Hid (SetsAt w (.slice a' own.length cap') own) := hO
  have hf1 := hA.few
  have hf2 := hO.few
  clear hA hO
  by_cases h60 : 60 < As.length
  · have f1 : (60 : Int) < As.length := by omega
    clear hact
    go_enter Try.func4, Try.ntmps4
    go_wp2_with fail
    go_ret
    exact ⟨rfl, Below.refl _ _⟩
  have f60 : ¬ (60 : Int) < As.length := by omega
  by_cases h70 : 70 < own.length
  · have f1 : (70 : Int) < own.length := by omega
    clear hact
    go_enter Try.func4, Try.ntmps4
    go_wp2_with fail
    go_ret
    exact ⟨rfl, Below.refl _ _⟩
  have f70 : ¬ (70 : Int) < own.length := by omega
  have hact' : Hid (As = [] ∨ ∃ b o, a = some ⟨b, o, none⟩ ∧ b < w.heap.size ∧ ∀ (i : Nat) (h : i < As.length), ActIn w b (o + i * 4) As[i]) := hact
  clear hact
  obtain ⟨i0, hi0, hz0, hz1, hz2⟩ := info_parts info37
  go_enter Try.func4, Try.ntmps4
  go_wp2_with fail
  refine (new_any (X := fun _ => False) w).mono ?_
  rintro e w1 ⟨t, b, rfl, ht, hb, hsh, B1⟩
  have B2 := B1.alloc B1.size (.cells #[.slice none 0 0] 50)
  have hz := B1.size
  have hp : Hid (PairAt (fun _ => False) (w1.alloc (.cells #[.slice none 0 0] 50)) t b w1.heap.size []) :=
    ⟨by rw [shOf_nil]; exact hsh.below ((Below.refl _ w1).alloc (Nat.le_refl _) _), ref_new _ _ (fun h => h), List.Pairwise.nil, wf_nil⟩
  clear hsh B1
  go_wp2_with fail
  refine (start_clone B2 hp.out hb hz).mono ?_
  rintro e w2 ⟨o, c, rfl, hcl⟩
  go_wp2_with fail
  refine hcl.out.mono ?_
  rintro e w3 ⟨v, rfl, hst0⟩
  have hst : Hid (Sta (fun _ => False) w t b w1.heap.size o c v w3) := hst0
  clear hcl hp B2 hst0 ht hb hz
  generalize w1.heap.size = g at *
  go_wp2_with fail
  go_loopw [5, 6, 7, 8, 9] (fun s5 s6 s7 s8 s9 wr => ∃ (X : Nat → Prop) (t b g o c v k : Nat), k ≤ As.length ∧ s5 = .pointer (some ⟨t, 0, none⟩) ∧ s6 = .pointer (some ⟨g, 0, none⟩) ∧ s7 = .pointer (some ⟨o, 0, none⟩) ∧ s8 = .pointer (some ⟨v, 0, none⟩) ∧ s9 = .int .i64 k ∧ Hid (Sta X w t b g o c v wr)) (fun _ _ _ _ s9 _ => As.length - (intOf s9).toNat)
  case atStart => exact ⟨_, t, b, g, o, c, v, 0, Nat.zero_le _, rfl, rfl, rfl, rfl, rfl, hst⟩
  case round =>
    clear hst
    obtain ⟨X, t, b, g, o, c, v, k, hk, rfl, rfl, rfl, rfl, rfl, hs⟩ := hrel
    by_cases hlt : k < As.length
    · have flt : (k : Int) < As.length := by omega
      rcases hact'.out with h0 | ⟨ab, ao, rfl, hbl, hcs⟩
      · rw [h0] at hlt; simp at hlt
      obtain ⟨q0, q1, q2, s1, s2, y, c2, q3, hL⟩ := hcs k hlt
      have hbw := hs.out.below
      have y0 := (hbw.cell hbl).trans q0
      have y1 := (hbw.cell hbl).trans q1
      have y2 := (hbw.cell hbl).trans q2
      have y3 := (hbw.cell hbl).trans q3
      clear q0 q1 q2 q3 hcs
      generalize As[k].1 = kd at *
      generalize As[k].2.1 = name at *
      generalize As[k].2.2.1 = parent at *
      generalize As[k].2.2.2 = L at *
      have hL' : Hid (SetsAt w (.slice y L.length c2) L) := hL
      have hlf := hL.few
      clear hL
      have b0 : (wr.alloc (.cells #[.int .i64 kd, .string name, .string parent, .slice y L.length c2] 53)).cell? ⟨wr.heap.size, 0, none⟩ = some (.int .i64 kd) := by rw [Lib.cell_of_heap (heap_new wr _)]; rfl
      have b1 : (wr.alloc (.cells #[.int .i64 kd, .string name, .string parent, .slice y L.length c2] 53)).cell? ⟨wr.heap.size, 1, none⟩ = some (.string name) := by rw [Lib.cell_of_heap (heap_new wr _)]; rfl
      have b2 : (wr.alloc (.cells #[.int .i64 kd, .string name, .string parent, .slice y L.length c2] 53)).cell? ⟨wr.heap.size, 2, none⟩ = some (.string parent) := by rw [Lib.cell_of_heap (heap_new wr _)]; rfl
      have b3 : (wr.alloc (.cells #[.int .i64 kd, .string name, .string parent, .slice y L.length c2] 53)).cell? ⟨wr.heap.size, 3, none⟩ = some (.slice y L.length c2) := by rw [Lib.cell_of_heap (heap_new wr _)]; rfl
      have hEnd : Below w.heap.size w (wr.alloc (.cells #[.int .i64 kd, .string name, .string parent, .slice y L.length c2] 53)) := hbw.alloc hbw.size _
      by_cases l70 : 70 < L.length
      · have l70' : (70 : Int) < L.length := by omega
        go_wp2_with fail
        go_ret
        exact ⟨rfl, hEnd⟩
      have l70' : ¬ (70 : Int) < L.length := by omega
      by_cases n100 : 100 < name.size
      · have n100' : (100 : Int) < name.size := by omega
        go_wp2_with fail
        go_ret
        exact ⟨rfl, hEnd⟩
      have n100' : ¬ (100 : Int) < name.size := by omega
      by_cases p100 : 100 < parent.size
      · have p100' : (100 : Int) < parent.size := by omega
        go_wp2_with fail
        go_ret
        exact ⟨rfl, hEnd⟩
      have p100' : ¬ (100 : Int) < parent.size := by omega
      clear hEnd
      have hBl := (Below.refl wr.heap.size wr).alloc (Nat.le_refl _) (.cells #[.int .i64 kd, .string name, .string parent, .slice y L.length c2] 53)
      have hBl2 := hBl.alloc hBl.size (.cells #[] 37)
      have hsrc : Hid (Srcs ((wr.alloc (.cells #[.int .i64 kd, .string name, .string parent, .slice y L.length c2] 53)).alloc (.cells #[] 37)) 2 (.slice y L.length c2) L.length (seRow L)) := srcs_of ((hL'.out.below hbw).below hBl2)
      have hlit : Hid (((wr.alloc (.cells #[.int .i64 kd, .string name, .string parent, .slice y L.length c2] 53)).alloc (.cells #[] 37)).heap[wr.heap.size + 1]? = some (.cells #[] 37 (0, 0))) := by
        have := heap_new (wr.alloc (.cells #[.int .i64 kd, .string name, .string parent, .slice y L.length c2] 53)) (.cells #[] 37)
        rw [World.size_alloc] at this
        exact this
      clear hBl hBl2
      by_cases k0 : kd = 0
      · subst k0
        go_wp2_with (at_builtin; refine wpList_append_ints _ rfl _ _ 44 rfl (wr.heap.size + 1) (wr.heap.size + 1) i0 Try.underlying44 hi0 hz0 hz1 hz2 rfl hlit.out (Nat.le_refl _) L.length (seRow L) _ rfl hsrc.out (se_ints L) (by unfold maxLen; omega) (by omega) (by simp) ?_; intro iv w2 hown hgrow hint; obtain ⟨ia, icap, rfl⟩ := slice_form hown; have hR0 := Rnd.start hs.out hlf hown hint hgrow; have hR : Hid _ := hR0; obtain ⟨b0, b1, b2, b3⟩ := hR0.cells; clear hR0 hown hgrow hint)
        obtain ⟨T, hT⟩ := hR.out.sta.one
        have hT0 : Hid (PairAt (fun r => (Value.slice ia L.length icap).ownBlock = some r) w2 t b g T) := hT
        have hT1 : Hid (PairAt (fun r => (Value.slice ia L.length icap).ownBlock = some r) w2.drew t b g T) := hT.below (below_drew (Below.refl _ _))
        have hR1 : Hid (Rnd w t b g o c v wr.heap.size (.slice ia L.length icap) 0 name parent y c2 L 0 w2.drew) := hR.out.below (below_drew (Below.refl _ _))
        clear hT
        refine def_region2 _ (fun _ _ _ _ _ h => h) _ _ t g wr.heap.size name parent ia y L.length icap L.length c2 w2
          (fun q w' => defPost (fun r => (Value.slice ia L.length icap).ownBlock = some r) w2.drew t b T.length (shOf T) name parent L (.returned (.int .i64 q)) w')
          (fun w' => Rnd w t b g o c v wr.heap.size (.slice ia L.length icap) 0 name parent y c2 L 0 w') ⟨b1, b2, b3⟩ ?hD ?hE ?hq
        case hD =>
          refine (define_any t b _ _ hT1.out.wf name parent s2 _ L w2.drew hT1.out.sh (hR1.out.sets ⟨_, _, rfl⟩) hR1.out.xl).mono ?_
          intro e w' hp
          have he := hp.1
          subst he
          have hA := hR1.out.act
          have fA := hT1.out.free hA (by decide)
          have hA' : w'.heap[wr.heap.size]? = some (.cells #[.int .i64 0, .string name, .string parent, .slice y L.length c2] 53 (0, 0)) := (hp.2.1.block _ (Array.getElem?_eq_some_iff.1 hA).1 (by simp; exact fA.1)).trans hA
          exact ⟨_, rfl, hp, by rw [Lib.cell_of_heap hA']; rfl, by rw [Lib.cell_of_heap hA']; rfl, by rw [Lib.cell_of_heap hA']; rfl⟩
        case hE =>
          intro q w' hp _
          have hbw' : Below w.heap.size w w' := Only.below hR1.out.sta.below hR1.out.sta.b0 (Nat.le_refl _) hp.2.1
          refine (hT1.out.rdefine hp s1 _ (hL'.out.below hbw') hR1.out.xl).mono ?_
          intro e2 w'' hp2
          obtain ⟨q', h1, h2, h3, h4⟩ := hR1.out.sta.defined hT1.out hp hp2
          cases h1
          have hfin := hR1.out.turn h3 h4
          exact ⟨h2, hfin, hfin.cells.2.1, hfin.cells.2.2.1, hfin.cells.2.2.2⟩
        intro q w3 hQ0
        have hQ : Hid (Rnd w t b g o c v wr.heap.size (.slice ia L.length icap) 0 name parent y c2 L 0 w3) := hQ0
        clear hQ0 hR hR1 hT0 hT1 b0 b1 b2 b3
        unfold fr4
        go_wp2_with fail
        generalize wr.heap.size = A at *
        go_loopw [12] (fun i wq => ∃ j : Nat, j ≤ L.length ∧ i = .int .i64 j ∧ Hid (Rnd w t b g o c v A (.slice ia L.length icap) 0 name parent y c2 L j wq)) (fun i _ => L.length - (intOf i).toNat)
        case atStart => exact ⟨0, Nat.zero_le _, rfl, hQ⟩
        case round =>
          clear hQ
          obtain ⟨j, hj, rfl, hq⟩ := hrel
          by_cases hjl : j < L.length
          · have hjl' : (j : Int) < L.length := by omega
            rcases hq.out.row with h0 | ⟨I, icp, cur, hiv, hI, hcur, _, hcells⟩
            · rw [h0] at hjl; simp at hjl
            cases hiv
            obtain ⟨r0, r1⟩ := hcells j hjl (Nat.le_refl _)
            have hbq := hq.out.sta.below
            rcases (hL'.out.below hbq).ex with ⟨ya, ycap, he, h2⟩
            cases he
            rcases h2 with h0 | ⟨yb, yo, rfl, _, hyc⟩
            · rw [h0] at hjl; simp at hjl
            obtain ⟨m0, m1⟩ := hyc j hjl
            have d0 : wr.cell? ⟨I, j * 2, none⟩ = some (.int .i64 L[j].1) := by rw [Lib.cell_of_heap hcur]; exact r0
            have d1 : wr.cell? ⟨I, j * 2 + 1, none⟩ = some (.int .i64 L[j].2) := by rw [Lib.cell_of_heap hcur]; exact r1
            have e0 : wr.drew.cell? ⟨I, j * 2, none⟩ = some (.int .i64 L[j].1) := d0
            have e1 : wr.drew.cell? ⟨I, j * 2 + 1, none⟩ = some (.int .i64 L[j].2) := d1
            have z0 : wr.drew.frozen? ⟨I, j * 2, none⟩ = false := Lib.frozen_of_heap hcur _
            have z1 : wr.drew.frozen? ⟨I, j * 2 + 1, none⟩ = false := Lib.frozen_of_heap hcur _
            have hst : Hid (Rnd w t b g o c v A (.slice (some ⟨I, 0, none⟩) L.length icap) 0 name parent (some ⟨yb, yo, none⟩) c2 L (j + 1) ((wr.drew.setCell ⟨I, j * 2, none⟩ (.int .i64 1)).setCell ⟨I, j * 2 + 1, none⟩ (.int .i64 1))) := hq.out.step hjl
            have hc4 := hq.out.cells
            clear hcells hcur hyc hbq r0 r1
            go_wp2_with fail
            refine cmp_region _ (fun _ _ _ _ _ h => h) _ _ A I yb yo L.length icap c2 j L[j].1 L[j].2 hjl wr ⟨d0, d1, hc4.2.2.2, m0, m1⟩ ?_
            unfold fr4
            clear d0 d1 m0 m1 hc4 hq
            generalize wr.drew = wd at *
            go_wp2_with fail
            go_roundw
            case rel => exact ⟨j + 1, by omega, by simp, hst⟩
            case measure => simp [intOf]; omega
          · have hjl' : ¬ (j : Int) < L.length := by omega
            obtain ⟨b0, b1, b2, b3⟩ := hq.out.cells
            go_wp2_with fail
            refine (hq.out.sta.told name s1 _ own hO'.out).mono ?_
            rintro e z1 ⟨rfl, Bz⟩
            have hT : Hid (Sta (fun r => (Value.slice ia L.length icap).ownBlock = some r) w t b g o c v z1) := hq.out.sta.next Bz
            clear b0 b1 b2 b3 hq
            go_wp2_with fail
            go_roundw
            case rel => exact ⟨_, t, b, g, o, c, v, k + 1, by omega, rfl, rfl, rfl, rfl, by simp, hT⟩
            case measure => simp [intOf]; omega
      have k0' : (kd == 0) = false := by simpa using k0
      clear k0
      by_cases k1 : kd = 1
      · subst k1
        go_wp2_with (at_builtin; refine wpList_append_ints _ rfl _ _ 44 rfl (wr.heap.size + 1) (wr.heap.size + 1) i0 Try.underlying44 hi0 hz0 hz1 hz2 rfl hlit.out (Nat.le_refl _) L.length (seRow L) _ rfl hsrc.out (se_ints L) (by unfold maxLen; omega) (by omega) (by simp) ?_; intro iv w2 hown hgrow hint; obtain ⟨ia, icap, rfl⟩ := slice_form hown; have hR0 := Rnd.start hs.out hlf hown hint hgrow; have hR : Hid _ := hR0; obtain ⟨b0, b1, b2, b3⟩ := hR0.cells; clear hR0 hown hgrow hint)
        obtain ⟨T, hT⟩ := hR.out.sta.one
        have hT1 : Hid (PairAt (fun r => (Value.slice ia L.length icap).ownBlock = some r) w2.drew t b g T) := hT.below (below_drew (Below.refl _ _))
        have hR1 : Hid (Rnd w t b g o c v wr.heap.size (.slice ia L.length icap) 1 name parent y c2 L 0 w2.drew) := hR.out.below (below_drew (Below.refl _ _))
        clear hT
        refine rem_region2 _ (fun _ _ _ _ _ h => h) _ _ t g wr.heap.size name parent ia y L.length icap L.length c2 w2
          (fun q w' => remPost (fun r => (Value.slice ia L.length icap).ownBlock = some r) w2.drew t b T.length (shOf T) name (.returned (.int .i64 q)) w')
          (fun w' => Rnd w t b g o c v wr.heap.size (.slice ia L.length icap) 1 name parent y c2 L 0 w') ⟨b1, b2, b3⟩ ?hD1 ?hE1 ?hq1
        case hD1 =>
          refine (remove_any t b _ _ hT1.out.wf name s1 w2.drew hT1.out.sh).mono ?_
          intro e w' hp
          have he := hp.1
          subst he
          have hA := hR1.out.act
          have fA := hT1.out.free hA (by decide)
          have hA' : w'.heap[wr.heap.size]? = some (.cells #[.int .i64 1, .string name, .string parent, .slice y L.length c2] 53 (0, 0)) := (hp.2.1.block _ (Array.getElem?_eq_some_iff.1 hA).1 (by simp; exact fA.1)).trans hA
          exact ⟨_, rfl, hp, by rw [Lib.cell_of_heap hA']; rfl, by rw [Lib.cell_of_heap hA']; rfl, by rw [Lib.cell_of_heap hA']; rfl⟩
        case hE1 =>
          intro q w' hp _
          refine (hT1.out.rremove hp hR1.out.xl).mono ?_
          intro e2 w'' hp2
          obtain ⟨q', h1, h2, h3, h4⟩ := hR1.out.sta.removed hT1.out hp hp2
          cases h1
          have hfin := hR1.out.turn h3 h4
          exact ⟨h2, hfin, hfin.cells.2.1, hfin.cells.2.2.1, hfin.cells.2.2.2⟩
        intro q w3 hQ0
        have hQ : Hid (Rnd w t b g o c v wr.heap.size (.slice ia L.length icap) 1 name parent y c2 L 0 w3) := hQ0
        clear hQ0 hR hR1 hT1 b0 b1 b2 b3
        unfold fr4
        go_wp2_with fail
        generalize wr.heap.size = A at *
        go_loopw [12] (fun i wq => ∃ j : Nat, j ≤ L.length ∧ i = .int .i64 j ∧ Hid (Rnd w t b g o c v A (.slice ia L.length icap) 1 name parent y c2 L j wq)) (fun i _ => L.length - (intOf i).toNat)
        case atStart => exact ⟨0, Nat.zero_le _, rfl, hQ⟩
        case round =>
          clear hQ
          obtain ⟨j, hj, rfl, hq⟩ := hrel
          by_cases hjl : j < L.length
          · have hjl' : (j : Int) < L.length := by omega
            rcases hq.out.row with h0 | ⟨I, icp, cur, hiv, hI, hcur, _, hcells⟩
            · rw [h0] at hjl; simp at hjl
            cases hiv
            obtain ⟨r0, r1⟩ := hcells j hjl (Nat.le_refl _)
            have hbq := hq.out.sta.below
            rcases (hL'.out.below hbq).ex with ⟨ya, ycap, he, h2⟩
            cases he
            rcases h2 with h0 | ⟨yb, yo, rfl, _, hyc⟩
            · rw [h0] at hjl; simp at hjl
            obtain ⟨m0, m1⟩ := hyc j hjl
            have d0 : wr.cell? ⟨I, j * 2, none⟩ = some (.int .i64 L[j].1) := by rw [Lib.cell_of_heap hcur]; exact r0
            have d1 : wr.cell? ⟨I, j * 2 + 1, none⟩ = some (.int .i64 L[j].2) := by rw [Lib.cell_of_heap hcur]; exact r1
            have e0 : wr.drew.cell? ⟨I, j * 2, none⟩ = some (.int .i64 L[j].1) := d0
            have e1 : wr.drew.cell? ⟨I, j * 2 + 1, none⟩ = some (.int .i64 L[j].2) := d1
            have z0 : wr.drew.frozen? ⟨I, j * 2, none⟩ = false := Lib.frozen_of_heap hcur _
            have z1 : wr.drew.frozen? ⟨I, j * 2 + 1, none⟩ = false := Lib.frozen_of_heap hcur _
            have hst : Hid (Rnd w t b g o c v A (.slice (some ⟨I, 0, none⟩) L.length icap) 1 name parent (some ⟨yb, yo, none⟩) c2 L (j + 1) ((wr.drew.setCell ⟨I, j * 2, none⟩ (.int .i64 1)).setCell ⟨I, j * 2 + 1, none⟩ (.int .i64 1))) := hq.out.step hjl
            have hc4 := hq.out.cells
            clear hcells hcur hyc hbq r0 r1
            go_wp2_with fail
            refine cmp_region _ (fun _ _ _ _ _ h => h) _ _ A I yb yo L.length icap c2 j L[j].1 L[j].2 hjl wr ⟨d0, d1, hc4.2.2.2, m0, m1⟩ ?_
            unfold fr4
            clear d0 d1 m0 m1 hc4 hq
            generalize wr.drew = wd at *
            go_wp2_with fail
            go_roundw
            case rel => exact ⟨j + 1, by omega, by simp, hst⟩
            case measure => simp [intOf]; omega
          · have hjl' : ¬ (j : Int) < L.length := by omega
            obtain ⟨b0, b1, b2, b3⟩ := hq.out.cells
            go_wp2_with fail
            refine (hq.out.sta.told name s1 _ own hO'.out).mono ?_
            rintro e z1 ⟨rfl, Bz⟩
            have hT : Hid (Sta (fun r => (Value.slice ia L.length icap).ownBlock = some r) w t b g o c v z1) := hq.out.sta.next Bz
            clear b0 b1 b2 b3 hq
            go_wp2_with fail
            go_roundw
            case rel => exact ⟨_, t, b, g, o, c, v, k + 1, by omega, rfl, rfl, rfl, rfl, by simp, hT⟩
            case measure => simp [intOf]; omega
      have k1' : (kd == 1) = false := by simpa using k1
      clear k1
      by_cases k2 : kd = 2
      · subst k2
        go_wp2_with (at_builtin; refine wpList_append_ints _ rfl _ _ 44 rfl (wr.heap.size + 1) (wr.heap.size + 1) i0 Try.underlying44 hi0 hz0 hz1 hz2 rfl hlit.out (Nat.le_refl _) L.length (seRow L) _ rfl hsrc.out (se_ints L) (by unfold maxLen; omega) (by omega) (by simp) ?_; intro iv w2 hown hgrow hint; obtain ⟨ia, icap, rfl⟩ := slice_form hown; have hR0 := Rnd.start hs.out hlf hown hint hgrow; have hR : Hid _ := hR0; obtain ⟨b0, b1, b2, b3⟩ := hR0.cells; clear hR0 hown hgrow hint)
        refine (hR.out.sta.clone hR.out.xl).mono ?_
        rintro e u1 ⟨t2, b2', rfl, B1, hcl⟩
        clear b0 b1 b2 b3
        go_wp2_with fail
        refine hcl.out.mono ?_
        rintro e u2 ⟨g2, rfl, B2, hst2⟩
        have hQ : Hid (Rnd w t2 b2' g2 t b g wr.heap.size (.slice ia L.length icap) 2 name parent y c2 L 0 u2) := (hR.out.below B2).with hst2
        clear hcl B1 B2 hst2 hR
        go_wp2_with fail
        generalize wr.heap.size = A at *
        go_loopw [12] (fun i wq => ∃ j : Nat, j ≤ L.length ∧ i = .int .i64 j ∧ Hid (Rnd w t2 b2' g2 t b g A (.slice ia L.length icap) 2 name parent y c2 L j wq)) (fun i _ => L.length - (intOf i).toNat)
        case atStart => exact ⟨0, Nat.zero_le _, rfl, hQ⟩
        case round =>
          clear hQ
          obtain ⟨j, hj, rfl, hq⟩ := hrel
          by_cases hjl : j < L.length
          · have hjl' : (j : Int) < L.length := by omega
            rcases hq.out.row with h0 | ⟨I, icp, cur, hiv, hI, hcur, _, hcells⟩
            · rw [h0] at hjl; simp at hjl
            cases hiv
            obtain ⟨r0, r1⟩ := hcells j hjl (Nat.le_refl _)
            have hbq := hq.out.sta.below
            rcases (hL'.out.below hbq).ex with ⟨ya, ycap, he, h2⟩
            cases he
            rcases h2 with h0 | ⟨yb, yo, rfl, _, hyc⟩
            · rw [h0] at hjl; simp at hjl
            obtain ⟨m0, m1⟩ := hyc j hjl
            have d0 : wr.cell? ⟨I, j * 2, none⟩ = some (.int .i64 L[j].1) := by rw [Lib.cell_of_heap hcur]; exact r0
            have d1 : wr.cell? ⟨I, j * 2 + 1, none⟩ = some (.int .i64 L[j].2) := by rw [Lib.cell_of_heap hcur]; exact r1
            have e0 : wr.drew.cell? ⟨I, j * 2, none⟩ = some (.int .i64 L[j].1) := d0
            have e1 : wr.drew.cell? ⟨I, j * 2 + 1, none⟩ = some (.int .i64 L[j].2) := d1
            have z0 : wr.drew.frozen? ⟨I, j * 2, none⟩ = false := Lib.frozen_of_heap hcur _
            have z1 : wr.drew.frozen? ⟨I, j * 2 + 1, none⟩ = false := Lib.frozen_of_heap hcur _
            have hst : Hid (Rnd w t2 b2' g2 t b g A (.slice (some ⟨I, 0, none⟩) L.length icap) 2 name parent (some ⟨yb, yo, none⟩) c2 L (j + 1) ((wr.drew.setCell ⟨I, j * 2, none⟩ (.int .i64 1)).setCell ⟨I, j * 2 + 1, none⟩ (.int .i64 1))) := hq.out.step hjl
            have hc4 := hq.out.cells
            clear hcells hcur hyc hbq r0 r1
            go_wp2_with fail
            refine cmp_region _ (fun _ _ _ _ _ h => h) _ _ A I yb yo L.length icap c2 j L[j].1 L[j].2 hjl wr ⟨d0, d1, hc4.2.2.2, m0, m1⟩ ?_
            unfold fr4
            clear d0 d1 m0 m1 hc4 hq
            generalize wr.drew = wd at *
            go_wp2_with fail
            go_roundw
            case rel => exact ⟨j + 1, by omega, by simp, hst⟩
            case measure => simp [intOf]; omega
          · have hjl' : ¬ (j : Int) < L.length := by omega
            obtain ⟨b0, b1, b2, b3⟩ := hq.out.cells
            go_wp2_with fail
            refine (hq.out.sta.told name s1 _ own hO'.out).mono ?_
            rintro e z1 ⟨rfl, Bz⟩
            have hT : Hid (Sta (fun r => (Value.slice ia L.length icap).ownBlock = some r) w t2 b2' g2 t b g z1) := hq.out.sta.next Bz
            clear b0 b1 b2 b3 hq
            go_wp2_with fail
            go_roundw
            case rel => exact ⟨_, t2, b2', g2, t, b, g, k + 1, by omega, rfl, rfl, rfl, rfl, by simp, hT⟩
            case measure => simp [intOf]; omega
      have k2' : (kd == 2) = false := by simpa using k2
      clear k2
      by_cases k3 : kd = 3
      · subst k3
        go_wp2_with (at_builtin; refine wpList_append_ints _ rfl _ _ 44 rfl (wr.heap.size + 1) (wr.heap.size + 1) i0 Try.underlying44 hi0 hz0 hz1 hz2 rfl hlit.out (Nat.le_refl _) L.length (seRow L) _ rfl hsrc.out (se_ints L) (by unfold maxLen; omega) (by omega) (by simp) ?_; intro iv w2 hown hgrow hint; obtain ⟨ia, icap, rfl⟩ := slice_form hown; have hR0 := Rnd.start hs.out hlf hown hint hgrow; have hR : Hid _ := hR0; obtain ⟨b0, b1, b2, b3⟩ := hR0.cells; clear hR0 hown hgrow hint)
        have hQ : Hid (Rnd w o c v t b g wr.heap.size (.slice ia L.length icap) 3 name parent y c2 L 0 w2) := hR.out.with hR.out.sta.swap
        clear hR b0 b1 b2 b3
        generalize wr.heap.size = A at *
        go_loopw [12] (fun i wq => ∃ j : Nat, j ≤ L.length ∧ i = .int .i64 j ∧ Hid (Rnd w o c v t b g A (.slice ia L.length icap) 3 name parent y c2 L j wq)) (fun i _ => L.length - (intOf i).toNat)
        case atStart => exact ⟨0, Nat.zero_le _, rfl, hQ⟩
        case round =>
          clear hQ
          obtain ⟨j, hj, rfl, hq⟩ := hrel
          by_cases hjl : j < L.length
          · have hjl' : (j : Int) < L.length := by omega
            rcases hq.out.row with h0 | ⟨I, icp, cur, hiv, hI, hcur, _, hcells⟩
            · rw [h0] at hjl; simp at hjl
            cases hiv
            obtain ⟨r0, r1⟩ := hcells j hjl (Nat.le_refl _)
            have hbq := hq.out.sta.below
            rcases (hL'.out.below hbq).ex with ⟨ya, ycap, he, h2⟩
            cases he
            rcases h2 with h0 | ⟨yb, yo, rfl, _, hyc⟩
            · rw [h0] at hjl; simp at hjl
            obtain ⟨m0, m1⟩ := hyc j hjl
            have d0 : wr.cell? ⟨I, j * 2, none⟩ = some (.int .i64 L[j].1) := by rw [Lib.cell_of_heap hcur]; exact r0
            have d1 : wr.cell? ⟨I, j * 2 + 1, none⟩ = some (.int .i64 L[j].2) := by rw [Lib.cell_of_heap hcur]; exact r1
            have e0 : wr.drew.cell? ⟨I, j * 2, none⟩ = some (.int .i64 L[j].1) := d0
            have e1 : wr.drew.cell? ⟨I, j * 2 + 1, none⟩ = some (.int .i64 L[j].2) := d1
            have z0 : wr.drew.frozen? ⟨I, j * 2, none⟩ = false := Lib.frozen_of_heap hcur _
            have z1 : wr.drew.frozen? ⟨I, j * 2 + 1, none⟩ = false := Lib.frozen_of_heap hcur _
            have hst : Hid (Rnd w o c v t b g A (.slice (some ⟨I, 0, none⟩) L.length icap) 3 name parent (some ⟨yb, yo, none⟩) c2 L (j + 1) ((wr.drew.setCell ⟨I, j * 2, none⟩ (.int .i64 1)).setCell ⟨I, j * 2 + 1, none⟩ (.int .i64 1))) := hq.out.step hjl
            have hc4 := hq.out.cells
            clear hcells hcur hyc hbq r0 r1
            go_wp2_with fail
            refine cmp_region _ (fun _ _ _ _ _ h => h) _ _ A I yb yo L.length icap c2 j L[j].1 L[j].2 hjl wr ⟨d0, d1, hc4.2.2.2, m0, m1⟩ ?_
            unfold fr4
            clear d0 d1 m0 m1 hc4 hq
            generalize wr.drew = wd at *
            go_wp2_with fail
            go_roundw
            case rel => exact ⟨j + 1, by omega, by simp, hst⟩
            case measure => simp [intOf]; omega
          · have hjl' : ¬ (j : Int) < L.length := by omega
            obtain ⟨b0, b1, b2, b3⟩ := hq.out.cells
            go_wp2_with fail
            refine (hq.out.sta.told name s1 _ own hO'.out).mono ?_
            rintro e z1 ⟨rfl, Bz⟩
            have hT : Hid (Sta (fun r => (Value.slice ia L.length icap).ownBlock = some r) w o c v t b g z1) := hq.out.sta.next Bz
            clear b0 b1 b2 b3 hq
            go_wp2_with fail
            go_roundw
            case rel => exact ⟨_, o, c, v, t, b, g, k + 1, by omega, rfl, rfl, rfl, rfl, by simp, hT⟩
            case measure => simp [intOf]; omega
      have k3' : (kd == 3) = false := by simpa using k3
      clear k3
      go_wp2_with (at_builtin; refine wpList_append_ints _ rfl _ _ 44 rfl (wr.heap.size + 1) (wr.heap.size + 1) i0 Try.underlying44 hi0 hz0 hz1 hz2 rfl hlit.out (Nat.le_refl _) L.length (seRow L) _ rfl hsrc.out (se_ints L) (by unfold maxLen; omega) (by omega) (by simp) ?_; intro iv w2 hown hgrow hint; obtain ⟨ia, icap, rfl⟩ := slice_form hown; have hR0 := Rnd.start hs.out hlf hown hint hgrow; have hR : Hid _ := hR0; obtain ⟨b0, b1, b2, b3⟩ := hR0.cells; clear hR0 hown hgrow hint)
      have hQ : Hid (Rnd w t b g o c v wr.heap.size (.slice ia L.length icap) kd name parent y c2 L 0 w2) := hR.out
      clear hR b0 b1 b2 b3
      generalize wr.heap.size = A at *
      go_loopw [12] (fun i wq => ∃ j : Nat, j ≤ L.length ∧ i = .int .i64 j ∧ Hid (Rnd w t b g o c v A (.slice ia L.length icap) kd name parent y c2 L j wq)) (fun i _ => L.length - (intOf i).toNat)
      case atStart => exact ⟨0, Nat.zero_le _, rfl, hQ⟩
      case round =>
        clear hQ
        obtain ⟨j, hj, rfl, hq⟩ := hrel
        by_cases hjl : j < L.length
        · have hjl' : (j : Int) < L.length := by omega
          rcases hq.out.row with h0 | ⟨I, icp, cur, hiv, hI, hcur, _, hcells⟩
          · rw [h0] at hjl; simp at hjl
          cases hiv
          obtain ⟨r0, r1⟩ := hcells j hjl (Nat.le_refl _)
          have hbq := hq.out.sta.below
          rcases (hL'.out.below hbq).ex with ⟨ya, ycap, he, h2⟩
          cases he
          rcases h2 with h0 | ⟨yb, yo, rfl, _, hyc⟩
          · rw [h0] at hjl; simp at hjl
          obtain ⟨m0, m1⟩ := hyc j hjl
          have d0 : wr.cell? ⟨I, j * 2, none⟩ = some (.int .i64 L[j].1) := by rw [Lib.cell_of_heap hcur]; exact r0
          have d1 : wr.cell? ⟨I, j * 2 + 1, none⟩ = some (.int .i64 L[j].2) := by rw [Lib.cell_of_heap hcur]; exact r1
          have e0 : wr.drew.cell? ⟨I, j * 2, none⟩ = some (.int .i64 L[j].1) := d0
          have e1 : wr.drew.cell? ⟨I, j * 2 + 1, none⟩ = some (.int .i64 L[j].2) := d1
          have z0 : wr.drew.frozen? ⟨I, j * 2, none⟩ = false := Lib.frozen_of_heap hcur _
          have z1 : wr.drew.frozen? ⟨I, j * 2 + 1, none⟩ = false := Lib.frozen_of_heap hcur _
          have hst : Hid (Rnd w t b g o c v A (.slice (some ⟨I, 0, none⟩) L.length icap) kd name parent (some ⟨yb, yo, none⟩) c2 L (j + 1) ((wr.drew.setCell ⟨I, j * 2, none⟩ (.int .i64 1)).setCell ⟨I, j * 2 + 1, none⟩ (.int .i64 1))) := hq.out.step hjl
          have hc4 := hq.out.cells
          clear hcells hcur hyc hbq r0 r1
          go_wp2_with fail
          refine cmp_region _ (fun _ _ _ _ _ h => h) _ _ A I yb yo L.length icap c2 j L[j].1 L[j].2 hjl wr ⟨d0, d1, hc4.2.2.2, m0, m1⟩ ?_
          unfold fr4
          clear d0 d1 m0 m1 hc4 hq
          generalize wr.drew = wd at *
          go_wp2_with fail
          go_roundw
          case rel => exact ⟨j + 1, by omega, by simp, hst⟩
          case measure => simp [intOf]; omega
        · have hjl' : ¬ (j : Int) < L.length := by omega
          obtain ⟨b0, b1, b2, b3⟩ := hq.out.cells
          go_wp2_with fail
          refine (hq.out.sta.told name s1 _ own hO'.out).mono ?_
          rintro e z1 ⟨rfl, Bz⟩
          have hT : Hid (Sta (fun r => (Value.slice ia L.length icap).ownBlock = some r) w t b g o c v z1) := hq.out.sta.next Bz
          clear b0 b1 b2 b3 hq
          go_wp2_with fail
          go_roundw
          case rel => exact ⟨_, t, b, g, o, c, v, k + 1, by omega, rfl, rfl, rfl, rfl, by simp, hT⟩
          case measure => simp [intOf]; omega
    · have flt : ¬ (k : Int) < As.length := by omega
      clear hact'
      go_wp2_with fail
      refine (hs.out.told ⟨#[97]⟩ (by decide) _ own hO'.out).mono ?_
      rintro e z1 ⟨rfl, B1⟩
      have hs1 : Hid (Sta X w t b g o c v z1) := hs.out.next B1
      go_wp2_with fail
      refine (hs1.out.swap.told ⟨#[97]⟩ (by decide) _ own hO'.out).mono ?_
      rintro e z2 ⟨rfl, B2⟩
      have hs2 : Hid (Sta X w t b g o c v z2) := hs1.out.next B2
      go_wp2_with fail
      refine (hs2.out.told ⟨#[]⟩ (by decide) _ own hO'.out).mono ?_
      rintro e z3 ⟨rfl, B3⟩
      have hs3 := (hs2.out.next B3).below
      go_wp2_with fail
      go_ret
      exact ⟨rfl, hs3⟩
end Go.Proofs.Ytifkelpgpdgenaa
