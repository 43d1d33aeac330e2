/-
  What is proved here: the walk through MetricMasses.
-/
import Derived.Test.YtidmmllbobimeaaMassS
namespace Go.Proofs.Ytidmmllbobimeaa
open Go.RowKit Go.Shelf

set_option maxRecDepth 100000 in
set_option maxHeartbeats 8000000 in
theorem masses4_any (a : Pa) (hlb : a.lb.size ≤ 9223372036854775807) (hms : ∀ i (h : i < a.ms.length), (a.ms[i]).size ≤ 9223372036854775807) (w : World) (hA : PaAt w a) :
    Calls Try.prog 4 #[paV a] w fun e w' => e = .returned (.bool true) ∧ Below w.heap.size w w' := by
  have hB := (Below.refl w.heap.size w).alloc (Nat.le_refl _) (Obj.cells (paC a) 34)
  have hP := PB.new w a
  have hA1 := hA.below hB (Nat.le_refl _)
  obtain ⟨ad, c, e1, _⟩ := hA.sp.ex
  obtain ⟨ad2, c2, e2, _⟩ := hA.ms.ex
  have c1 := hP.c1
  have c20 := hP.c20
  rw [e1] at c1
  rw [e2] at c20
  replace hms : Hid _ := hms
  replace hA : Hid _ := hA
  clear e1 e2
  unfold paV
  generalize hw1 : w.alloc (.cells (paC a) 34) = w1 at *
  by_cases h1 : 5000 < a.sp.length
  · have h1' : (5000 : Int) < a.sp.length := by omega
    clear hA1
    go_enter Try.func4, Try.ntmps4
    go_wp2_with fail
    go_ret
    exact ⟨rfl, hB⟩
  · have h1' : ¬ (5000 : Int) < a.sp.length := by omega
    by_cases h2 : 5000 < a.ms.length
    · have h2' : (5000 : Int) < a.ms.length := by omega
      clear hA1
      go_enter Try.func4, Try.ntmps4
      go_wp2_with fail
      go_ret
      exact ⟨rfl, hB⟩
    · have h2' : ¬ (5000 : Int) < a.ms.length := by omega
      have hcp := copy_any a (by omega) (by omega) w1 hA1
      unfold paV at hcp
      go_enter Try.func4, Try.ntmps4
      go_wp2_with (refine wpList_load_row rfl 34 _ rfl w.heap.size rfl 34 _ (0, 0) _ hP.row Try.underlying34 rfl (info34 a) ?_)
      refine hcp.mono ?_
      rintro e w2 ⟨v, u, rfl, hQ2, hb2⟩
      have hB2 := hB.trans (hb2.mono hB.size)
      have hP2 := hP.below hb2 hP.lt
      have hA2 := hA1.below hb2 (Nat.le_refl _)
      have hone : Hid ((paC (paW a v u)).all (·.oneCell') = true) := by
        refine paC_one2 ?_ ?_
        · obtain ⟨ad, c, e, _⟩ := hQ2.sp.ex; show v.oneCell' = true; rw [show v = _ from e]; rfl
        · obtain ⟨ad, c, e, _⟩ := hQ2.ms.ex; show u.oneCell' = true; rw [show u = _ from e]; rfl
      have hr3 : (w2.alloc (.cells #[.string ⟨#[]⟩, .slice none 0 0, .int .i64 0, .int .i64 0, .int .i64 0, .int .i64 0, .int .i64 0, .int .i64 0, .int .i64 0, .int .i64 0, .int .i64 0, .int .i64 0, .int .i64 0, .int .i64 0, .int .i64 0, .int .i64 0, .int .i64 0, .int .i64 0, .int .i64 0, .string ⟨#[]⟩, .slice none 0 0] 34)).heap[w2.heap.size]? = some (.cells #[.string ⟨#[]⟩, .slice none 0 0, .int .i64 0, .int .i64 0, .int .i64 0, .int .i64 0, .int .i64 0, .int .i64 0, .int .i64 0, .int .i64 0, .int .i64 0, .int .i64 0, .int .i64 0, .int .i64 0, .int .i64 0, .int .i64 0, .int .i64 0, .int .i64 0, .int .i64 0, .string ⟨#[]⟩, .slice none 0 0] 34 (0, 0)) := World.alloc_heap_new w2 _
      have hT3 : Turns (fun b => b = w2.heap.size) (w2.alloc (.cells #[.string ⟨#[]⟩, .slice none 0 0, .int .i64 0, .int .i64 0, .int .i64 0, .int .i64 0, .int .i64 0, .int .i64 0, .int .i64 0, .int .i64 0, .int .i64 0, .int .i64 0, .int .i64 0, .int .i64 0, .int .i64 0, .int .i64 0, .int .i64 0, .int .i64 0, .int .i64 0, .string ⟨#[]⟩, .slice none 0 0] 34)) ((w2.alloc (.cells #[.string ⟨#[]⟩, .slice none 0 0, .int .i64 0, .int .i64 0, .int .i64 0, .int .i64 0, .int .i64 0, .int .i64 0, .int .i64 0, .int .i64 0, .int .i64 0, .int .i64 0, .int .i64 0, .int .i64 0, .int .i64 0, .int .i64 0, .int .i64 0, .int .i64 0, .int .i64 0, .string ⟨#[]⟩, .slice none 0 0] 34)).setRow w2.heap.size (paC (paW a v u))) := Turns.setRow (X := fun b => b = w2.heap.size) _ (r := w2.heap.size) rfl _
      have hb3 : Below w2.heap.size w2 ((w2.alloc (.cells #[.string ⟨#[]⟩, .slice none 0 0, .int .i64 0, .int .i64 0, .int .i64 0, .int .i64 0, .int .i64 0, .int .i64 0, .int .i64 0, .int .i64 0, .int .i64 0, .int .i64 0, .int .i64 0, .int .i64 0, .int .i64 0, .int .i64 0, .int .i64 0, .int .i64 0, .int .i64 0, .string ⟨#[]⟩, .slice none 0 0] 34)).setRow w2.heap.size (paC (paW a v u))) := by
        have h := (Below.refl w2.heap.size w2).alloc (Nat.le_refl _) (.cells #[.string ⟨#[]⟩, .slice none 0 0, .int .i64 0, .int .i64 0, .int .i64 0, .int .i64 0, .int .i64 0, .int .i64 0, .int .i64 0, .int .i64 0, .int .i64 0, .int .i64 0, .int .i64 0, .int .i64 0, .int .i64 0, .int .i64 0, .int .i64 0, .int .i64 0, .int .i64 0, .string ⟨#[]⟩, .slice none 0 0] 34)
        exact h.trans (hT3.below h.size (fun b hb => by omega))
      have hD3 : PB ((w2.alloc (.cells #[.string ⟨#[]⟩, .slice none 0 0, .int .i64 0, .int .i64 0, .int .i64 0, .int .i64 0, .int .i64 0, .int .i64 0, .int .i64 0, .int .i64 0, .int .i64 0, .int .i64 0, .int .i64 0, .int .i64 0, .int .i64 0, .int .i64 0, .int .i64 0, .int .i64 0, .int .i64 0, .string ⟨#[]⟩, .slice none 0 0] 34)).setRow w2.heap.size (paC (paW a v u))) w2.heap.size (paW a v u) := ⟨setRow_heap _ _ _ _ 34 _ hr3⟩
      have hP3 := hP2.below hb3 hP2.lt
      have hA3 := hA2.below hb3 (Nat.le_refl _)
      have hQ3 := hQ2.below hb3 (Nat.le_refl _)
      have hB3 := hB2.trans (hb3.mono hB2.size)
      clear hcp hP hA1 hP2 hA2 hQ2 c1 c20 hb3 hT3
      have hls : Hid (w2.heap.size < ((w2.alloc (.cells #[.string ⟨#[]⟩, .slice none 0 0, .int .i64 0, .int .i64 0, .int .i64 0, .int .i64 0, .int .i64 0, .int .i64 0, .int .i64 0, .int .i64 0, .int .i64 0, .int .i64 0, .int .i64 0, .int .i64 0, .int .i64 0, .int .i64 0, .int .i64 0, .int .i64 0, .int .i64 0, .string ⟨#[]⟩, .slice none 0 0] 34)).setRow w2.heap.size (paC (paW a v u))).heap.size) := hD3.lt
      go_wp2_with (first | (refine wpList_store_row rfl 34 _ _ rfl w2.heap.size (paC (paW a v u)) rfl rfl 34 _ hr3 (info34 _) rfl hone.out ?_; generalize (w2.alloc (.cells #[.string ⟨#[]⟩, .slice none 0 0, .int .i64 0, .int .i64 0, .int .i64 0, .int .i64 0, .int .i64 0, .int .i64 0, .int .i64 0, .int .i64 0, .int .i64 0, .int .i64 0, .int .i64 0, .int .i64 0, .int .i64 0, .int .i64 0, .int .i64 0, .int .i64 0, .int .i64 0, .string ⟨#[]⟩, .slice none 0 0] 34)).setRow w2.heap.size (paC (paW a v u)) = w3 at *; generalize w2.heap.size = D at *) | (refine wpList_load_row rfl 34 _ rfl D rfl 34 _ (0, 0) _ hD3.row Try.underlying34 rfl (info34 _) ?_))
      have hm3 := masses_any (paW a v u) w3 hQ3
      unfold paV at hm3
      refine hm3.mono ?_
      intro e w4 hend
      obtain ⟨al, cl, rfl, hL4, hb4, hrow4⟩ := mass_end hend
      clear hend hm3
      have htl : tl (paW a v u) = tl a := rfl
      have hck : chkI (paW a v u) = chkI a := rfl
      rw [htl] at hL4 hrow4
      rw [htl, hck]
      have hP4 := hP3.below hb4 hP3.lt
      have hD4 := hD3.below hb4 hD3.lt
      have hA4 := hA3.below hb4 (Nat.le_refl _)
      have hQ4 := hQ3.below hb4 (Nat.le_refl _)
      have hB4 := hB3.trans (hb4.mono hB3.size)
      replace hrow4 : Hid _ := hrow4
      have hn4 := tl_len a
      go_wp2_with (refine wpList_load_row rfl 34 _ rfl w.heap.size rfl 34 _ (0, 0) _ hP4.row Try.underlying34 rfl (info34 _) ?_)
      have hm4 := rmasses_any a hlb hms.out w4 hA4
      unfold paV at hm4
      refine hm4.mono ?_
      intro e w5 hend
      obtain ⟨am, cm, rfl, hM5, hb5, hrow5⟩ := mass_end hend
      clear hend hm4
      replace hrow5 : Hid _ := hrow5
      have hP5 := hP4.below hb5 hP4.lt
      have hD5 := hD4.below hb5 hD4.lt
      have hA5 := hA4.below hb5 (Nat.le_refl _)
      have hQ5 := hQ4.below hb5 (Nat.le_refl _)
      have hL5 := hL4.below hb5 (Nat.le_refl _)
      have hB5 := hB4.trans (hb5.mono hB4.size)
      obtain ⟨n, hn⟩ : ∃ n, chkI a = n := ⟨_, rfl⟩
      rw [hn]
      replace hn : Hid _ := hn
      go_wp2_with fail
      refine st_r6 _ (fun _ _ _ _ _ h => h) _ _ w.heap.size D a v u _ _ n hn.out hlb hms.out w5 ⟨hP5, hD5, hA5, hQ5, hL5, hM5⟩ ?_
      rintro w6 ⟨hP6, hD6, hA6, hQ6, hL6, hM6⟩ hb6
      unfold fr4
      have hB6 := hB5.trans (hb6.mono hB5.size)
      have hl4 := hb4.size
      have hl5 := hb5.size
      have hl6 := hb6.size
      have hDl := hD3.lt
      have hPl := hP3.lt
      have hr6 : Hid (0 < (tl a).length → ∃ g cs, al = some ⟨g, 0, none⟩ ∧ w6.heap[g]? = some (.cells cs 43 (0, 0)) ∧ (tl a).length * 6 ≤ cs.size ∧ w3.heap.size ≤ g ∧ g < w4.heap.size) := fun h => by
        obtain ⟨g, cs, h1, h2, h3, h4⟩ := hrow4.out h
        have hg := (Array.getElem?_eq_some_iff.1 h2).1
        exact ⟨g, cs, h1, (hb6.block g (by omega)).trans ((hb5.block g hg).trans h2), h3, h4, hg⟩
      have hm6 : Hid (0 < (tl a).length → ∃ g, am = some ⟨g, 0, none⟩ ∧ w4.heap.size ≤ g) := fun h => by
        obtain ⟨g, cs, h1, _, _, h4⟩ := hrow5.out h
        exact ⟨g, h1, h4⟩
      have hB3' : w.heap.size ≤ w3.heap.size := hB3.size
      clear hrow4 hrow5 hL4 hL5 hM5 hP4 hP5 hD4 hD5 hA4 hA5 hQ4 hQ5 hP3 hA3 hA6 hP6 hr3 hone hls hA hD6 hQ6
      obtain ⟨L, hL⟩ : ∃ L, (tl a).length = L := ⟨_, rfl⟩
      have hL' : Hid ((tl a).length = L) := hL
      rw [hL]
      rw [hL] at hn4
      clear hL
      have hb36 : Below w3.heap.size w3 w6 := (hb4.trans (hb5.mono hl4)).trans (hb6.mono (by omega))
      rw [hL'.out] at hr6 hm6 hM6
      replace hD3 : Hid _ := hD3
      replace hQ3 : Hid _ := hQ3
      replace hM6 : Hid _ := hM6
      go_wp2_with fail
      go_loopw [8] (fun i wr => ∃ k : Nat, k ≤ L ∧ i = .int .i64 k ∧ Hid (Turns (fun b => w3.heap.size ≤ b ∧ b < w4.heap.size) w6 wr) ∧ Hid (0 < L → ∃ g cs, al = some ⟨g, 0, none⟩ ∧ wr.heap[g]? = some (.cells cs 43 (0, 0)) ∧ L * 6 ≤ cs.size ∧ w3.heap.size ≤ g ∧ g < w4.heap.size)) (fun i _ => L - (intOf i).toNat)
      case atStart => exact ⟨0, by omega, rfl, Turns.refl _ _, hr6⟩
      case round =>
        obtain ⟨k, hk, rfl, hT, hrw⟩ := hrel
        by_cases hlt : k < L
        · obtain ⟨g, cs, rfl, hg, hcs, hg1, hg2⟩ := hrw.out (by omega)
          have hlt' : (k : Int) < L := by omega
          have q0 : wr.cell? ⟨g, k * 6 + 4, none⟩ = some (cs[k * 6 + 4]'(by omega)) := by rw [Lib.cell_of_heap hg]; simp
          have q1 : wr.frozen? ⟨g, k * 6 + 4, none⟩ = false := Lib.frozen_of_heap hg _
          have hg' := heap_setCell_same wr g (k * 6 + 4) _ 43 (.int .i64 99) hg
          have hT' : Turns (fun b => w3.heap.size ≤ b ∧ b < w4.heap.size) wr (wr.setCell ⟨g, k * 6 + 4, none⟩ (.int .i64 99)) := Turns.setCell (X := fun b => w3.heap.size ≤ b ∧ b < w4.heap.size) _ (p := ⟨g, k * 6 + 4, none⟩) ⟨hg1, hg2⟩ _
          have hcs' : Hid (L * 6 ≤ cs.size) := hcs
          have hT2 : Hid (Turns (fun b => w3.heap.size ≤ b ∧ b < w4.heap.size) w6 (wr.setCell ⟨g, k * 6 + 4, none⟩ (.int .i64 99))) := hT.out.trans hT'
          replace hg' : Hid _ := hg'
          generalize cs[k * 6 + 4] = zz at q0
          clear hg hcs hT' hr6 hm6 hrw
          go_wp2_with fail
          go_roundw
          case rel => exact ⟨k + 1, by omega, by simp, hT2, fun _ => ⟨g, _, rfl, hg'.out, by simpa using hcs'.out, hg1, hg2⟩⟩
          case measure => simp [intOf]; omega
        · have hge : ¬ (k : Int) < L := by omega
          have hb7 : Below w3.heap.size w3 wr := hb36.trans (hT.out.below hb36.size (fun b hb => hb.1))
          have hD7 := hD3.out.below hb7 hD3.out.lt
          have hQ7 := hQ3.out.below hb7 (Nat.le_refl _)
          have hB7 := hB3.trans (hb7.mono hB3')
          have hM7 : RecAt 6 msL wr (.slice am L cm) (tl a) := by
            by_cases h0 : L = 0
            · have e0 : tl a = [] := List.eq_nil_of_length_eq_zero (by rw [hL'.out]; exact h0)
              exact ⟨⟨am, cm, by rw [hL'.out], .inl e0⟩, hM6.out.le⟩
            · obtain ⟨g, hg, hg4⟩ := hm6.out (by omega)
              refine rec_turns hM6.out hT.out (fun b o n c e => ?_)
              cases e
              cases hg
              rintro ⟨_, h⟩
              omega
          have hm7 := masses_any (paW a v u) wr hQ7
          unfold paV at hm7
          clear hr6 hm6 hrw hT hM6 hD3 hQ3 hb36
          go_wp2_with (refine wpList_load_row rfl 34 _ rfl D rfl 34 _ (0, 0) _ hD7.row Try.underlying34 rfl (info34 _) ?_)
          refine hm7.mono ?_
          intro e w8 hend
          obtain ⟨ak, ck, rfl, hK8, hb8, _⟩ := mass_end hend
          clear hend hm7
          have htl2 : tl (paW a v u) = tl a := rfl
          rw [htl2, hL'.out] at hK8
          rw [htl2, hL'.out]
          have hM8 := hM7.below hb8 (Nat.le_refl _)
          have hB8 := hB7.trans (hb8.mono hB7.size)
          have hsm := same_yes _ _ (tl a) w8 (by rw [hL'.out]; omega) hK8 hM8
          go_wp2_with fail
          refine hsm.mono ?_
          rintro e w9 ⟨rfl, b9⟩
          have hB9 := hB8.trans (b9.mono hB8.size)
          go_wp2_with fail
          refine (awake_any w9).mono ?_
          rintro e w10 ⟨rfl, b10⟩
          have hBx := hB9.trans (b10.mono hB9.size)
          go_wp2_with fail
          go_ret
          exact ⟨rfl, hBx⟩
end Go.Proofs.Ytidmmllbobimeaa
