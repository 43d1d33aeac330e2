/-
  What is proved here: the document's Look and Size: the look and the size of a byte.
  What is proved here: the document's Check, for every paragraph.
-/
import Derived.Test.YtkhnfmdhdfpdhaaE20
import Derived.Test.YtkhnfmdhdfpdhaaE5
import Derived.Test.YtkhnfmdhdfpdhaaE4
namespace Go.Proofs.Ytkhnfmdhdfpdhaa
open Go.RowKit Go.Shelf

theorem set3' {w : World} {R : Nat} {y0 y1 y2 : Value} (h : w.heap[R]? = some (.cells #[y0, y1, y2] 67 (0, 0))) (x y z : Int) :
    (((w.setCell ⟨R, 0, none⟩ (.int .i64 x)).setCell ⟨R, 1, none⟩ (.int .i64 y)).setCell ⟨R, 2, none⟩ (.int .i64 z)).heap[R]? = some (.cells #[.int .i64 x, .int .i64 y, .int .i64 z] 67 (0, 0)) := by
  have h1 := heap_setCell_same w R 0 _ 67 (.int .i64 x) h
  have h2 := heap_setCell_same _ R 1 _ 67 (.int .i64 y) h1
  exact heap_setCell_same _ R 2 _ 67 (.int .i64 z) h2
theorem below3' {n R : Nat} {w0 w : World} (hb : Below n w0 w) (hn : n ≤ R) (x y z : Value) :
    Below n w0 (((w.setCell ⟨R, 0, none⟩ x).setCell ⟨R, 1, none⟩ y).setCell ⟨R, 2, none⟩ z) := ((hb.setCell (p := ⟨R, 0, none⟩) hn _).setCell (p := ⟨R, 1, none⟩) hn _).setCell (p := ⟨R, 2, none⟩) hn _

set_option maxRecDepth 100000 in
set_option maxHeartbeats 2000000 in
theorem rlook_any (a : Pa) (hsp : spB a.sp a.t.size = true) (k : Nat) (hk : k < a.t.size) (ht : a.t.size ≤ 4096) (w : World) (hA : PaAt w a) : Calls Try.prog 65 #[paV a, .int .i64 k] w fun e w' => e = .returned (.agg #[.int .i64 (spAt a.sp k).s, .int .i64 (spAt a.sp k).t, .int .i64 (spAt a.sp k).k]) ∧ Below w.heap.size w w' := by
  have hB := (Below.refl w.heap.size w).alloc (Nat.le_refl _) (Obj.cells (paC a) 39)
  have hP := PB.new w a
  have hsz1 : (w.alloc (.cells (paC a) 39)).heap.size = w.heap.size + 1 := World.size_alloc _ _
  have hne : a.sp ≠ [] := by
    intro e
    rw [e] at hsp
    have := of_decide_eq_true hsp
    omega
  obtain ⟨ad, cap, hv, h2⟩ := hA.sp.ex
  have hle := hA.sp.le _ _ _ hv
  have hfew := hA.few.1
  rcases h2 with h2 | ⟨b, o, rfl, hb, hcs⟩
  · exact absurd h2 hne
  have hB2 := hB.alloc hB.size (.cells #[.int .i64 0, .int .i64 0, .int .i64 0] 67)
  have hP2 : PB ((w.alloc (.cells (paC a) 39)).alloc (.cells #[.int .i64 0, .int .i64 0, .int .i64 0] 67)) w.heap.size a := ⟨(Below.heap_alloc _ _ _ (by rw [hsz1]; omega)).trans hP.row⟩
  have hR := World.alloc_heap_new (w.alloc (.cells (paC a) 39)) (.cells #[.int .i64 0, .int .i64 0, .int .i64 0] 67)
  rw [hsz1] at hR
  have hcs2 : Hid (∀ (j : Nat) (h : j < a.sp.length) (i : Nat) (u : Value), (spL a.sp[j])[i]? = some u → ((w.alloc (.cells (paC a) 39)).alloc (.cells #[.int .i64 0, .int .i64 0, .int .i64 0] 67)).cell? ⟨b, o + j * 4 + i, none⟩ = some u) := fun j hj i u hu => (hB2.cell hb).trans (hcs j hj i u hu)
  unfold paV
  obtain ⟨V, hV⟩ : ∃ V, V = Value.agg #[.int .i64 (spAt a.sp k).s, .int .i64 (spAt a.sp k).t, .int .i64 (spAt a.sp k).k] := ⟨_, rfl⟩
  rw [← hV]
  replace hV : Hid _ := hV
  have hv' : Hid (a.sv = .slice (some ⟨b, o, none⟩) a.sp.length cap) := hv
  clear hcs hA hv hP hB hne
  generalize hw1 : w.alloc (.cells (paC a) 39) = w1 at *
  go_enter Try.func65, Try.ntmps65
  go_wp2_with fail
  generalize hw2 : w1.alloc (.cells #[.int .i64 0, .int .i64 0, .int .i64 0] 67) = w2 at *
  have c1 := hP2.c1
  rw [hv'.out] at c1
  obtain ⟨L, hL⟩ : ∃ L, a.sp.length = L := ⟨_, rfl⟩
  rw [hL] at c1 hle hfew
  go_loopw [5, 6] (fun x y wr => ∃ j : Nat, j ≤ L ∧ y = .int .i64 j ∧ x = .int .i64 (offs a.sp j) ∧ Hid (offs a.sp j ≤ k) ∧ wr = w2) (fun _ y _ => L - (intOf y).toNat)
  case atStart => exact ⟨0, by omega, rfl, by rw [offs_zero], by show offs a.sp 0 ≤ _; rw [offs_zero]; omega, rfl⟩
  case round =>
    obtain ⟨j, hj, rfl, rfl, hjk, rfl⟩ := hrel
    have hjl : j < a.sp.length := by
      by_cases h : j < a.sp.length
      · exact h
      · obtain rfl : j = a.sp.length := by omega
        have := hjk.out
        rw [spB_total hsp] at this
        omega
    have hjL : (j : Int) < L := by omega
    have hn := spB_all hsp j hjl
    have hoj := offs_le hsp (Nat.zero_le j) (Nat.le_of_lt hjl)
    rw [offs_zero] at hoj
    have hos := offs_succ hjl
    have hot := offs_le hsp (show j + 1 ≤ a.sp.length by omega) (Nat.le_refl _)
    rw [spB_total hsp] at hot
    have c2 : wr.cell? ⟨b, o + j * 4, none⟩ = some (.int .i64 a.sp[j].n) := hcs2.out j hjl 0 _ rfl
    have c3 : wr.cell? ⟨b, o + j * 4 + 1, none⟩ = some (.int .i64 a.sp[j].s) := hcs2.out j hjl 1 _ rfl
    have c4 : wr.cell? ⟨b, o + j * 4 + 2, none⟩ = some (.int .i64 a.sp[j].t) := hcs2.out j hjl 2 _ rfl
    have c5 : wr.cell? ⟨b, o + j * 4 + 3, none⟩ = some (.int .i64 a.sp[j].k) := hcs2.out j hjl 3 _ rfl
    have hlk : Hid ((k : Int) < offs a.sp (j + 1) → spAt a.sp k = a.sp[j]) := fun h => by
      have hlk : lkI a.sp k = j := lk_uniq hsp hjl hjk.out h
      unfold spAt
      rw [hlk, List.getD_eq_getElem?_getD, List.getElem?_eq_getElem hjl]; rfl
    have ho1 : Hid (offs a.sp (j + 1) = offs a.sp j + a.sp[j].n) := hos
    have hn1 := hn.1
    have hn3 := hn.2.2
    rw [hos] at hot
    clear hos hn hcs2 hsp hv'
    generalize offs a.sp j = e0 at *
    generalize a.sp[j] = r at *
    by_cases hlt : (k : Int) < e0 + r.n
    · have hsa := hlk.out (by rw [ho1.out]; exact hlt)
      have hV2 := hV.out
      rw [hsa] at hV2
      replace hV2 : Hid _ := hV2
      clear hlk ho1 hjk hsa hV
      obtain ⟨n0, s0, t0, k0⟩ := r
      dsimp only at *
      have g0 : wr.frozen? ⟨w.heap.size + 1, 0, none⟩ = false := Lib.frozen_of_heap hR 0
      have g1 : wr.frozen? ⟨w.heap.size + 1, 1, none⟩ = false := Lib.frozen_of_heap hR 1
      have g2 : wr.frozen? ⟨w.heap.size + 1, 2, none⟩ = false := Lib.frozen_of_heap hR 2
      have r0 : wr.cell? ⟨w.heap.size + 1, 0, none⟩ = some (.int .i64 0) := by rw [Lib.cell_of_heap hR]; rfl
      have r1 : wr.cell? ⟨w.heap.size + 1, 1, none⟩ = some (.int .i64 0) := by rw [Lib.cell_of_heap hR]; rfl
      have r2 : wr.cell? ⟨w.heap.size + 1, 2, none⟩ = some (.int .i64 0) := by rw [Lib.cell_of_heap hR]; rfl
      go_wp2_with fail
      have hA := set3' hR s0 t0 k0
      refine bodyPost_ret (results_cell_row rfl _ _ (w.heap.size + 1) 67 _ (0, 0) _ rfl hA Try.underlying67 rfl info49) rfl ⟨by rw [hV2.out], below3' hB2 (by omega) _ _ _⟩
    · have ho1' : Hid (offs a.sp (j + 1) = e0 + r.n) := ho1
      clear hlk ho1 c3 c4 c5 hV
      go_wp2_with fail
      go_roundw
      case rel => exact ⟨j + 1, by omega, by simp, by rw [ho1'.out], by show offs a.sp (j + 1) ≤ _; rw [ho1'.out]; omega, by first | rfl | trivial⟩
      case measure => simp [intOf]; omega

theorem field49_0 (x y z : Int) (w : World) : (Instr.field 67 (.agg #[.int .i64 x, .int .i64 y, .int .i64 z]) 0).run Try.prog w = .ok (.int .i64 x) w := by kernel_rfl
theorem field49_2 (x y z : Int) (w : World) : (Instr.field 67 (.agg #[.int .i64 x, .int .i64 y, .int .i64 z]) 2).run Try.prog w = .ok (.int .i64 z) w := by kernel_rfl
set_option maxRecDepth 100000 in
set_option maxHeartbeats 2000000 in
theorem rsize_any (a : Pa) (hsp : spB a.sp a.t.size = true) (k : Nat) (hk : k < a.t.size) (ht : a.t.size ≤ 4096) (w : World) (hA : PaAt w a) : Calls Try.prog 64 #[paV a, .int .i64 k] w fun e w' => e = .returned (.int .i64 (szAt a k)) ∧ Below w.heap.size w w' := by
  have hB := (Below.refl w.heap.size w).alloc (Nat.le_refl _) (Obj.cells (paC a) 39)
  have hP := PB.new w a
  have hl := rlook_any a hsp k hk ht _ (hA.below hB (Nat.le_refl _))
  have hv : Hid (szAt a k = if (spAt a.sp k).s = 0 then a.p.p0 else (spAt a.sp k).s) := rfl
  generalize szAt a k = z at *
  generalize spAt a.sp k = r at *
  unfold paV at hl ⊢
  generalize hw1 : w.alloc (.cells (paC a) 39) = w1 at *
  clear hA
  go_enter Try.func64, Try.ntmps64
  go_wp2_with (refine wpList_load_row rfl 39 _ rfl w.heap.size rfl 39 _ (0, 0) _ hP.row Try.underlying39 rfl (info34 a) ?_)
  refine hl.mono ?_
  rintro e w2 ⟨rfl, hb2⟩
  have hP2 := hP.below hb2 hP.lt
  have hB2 := hB.trans (hb2.mono hB.size)
  have cP := hP2.c2
  obtain ⟨n0, s0, t0, k0⟩ := r
  dsimp only at *
  have hf := field49_0 s0 t0 k0
  by_cases h0 : s0 = 0
  · subst h0
    have hz : Hid (z = a.p.p0) := hv.out
    clear hv
    go_wp2_with fail
    go_ret
    exact ⟨by rw [hz.out]; rfl, hB2⟩
  · have hz : Hid (z = s0) := by have := hv.out; rw [if_neg h0] at this; exact this
    have h0' : (s0 == 0) = false := by simpa using h0
    clear hv
    go_wp2_with fail
    go_ret
    exact ⟨by rw [hz.out]; rfl, hB2⟩
end Go.Proofs.Ytkhnfmdhdfpdhaa

namespace Go.Proofs.Ytkhnfmdhdfpdhaa
open Go.RowKit Go.Shelf

theorem stand_shown (s : ByteArray) (b : Int) : (decide ((s.size : Int) ≤ b) && visB s) = standB s 0 b := by
  unfold standB
  congr 1
  rw [Bool.eq_iff_iff]
  simp only [decide_eq_true_eq]
  omega
theorem stand_one (s : ByteArray) (b : Int) (h : 1 ≤ s.size) : (decide ((s.size : Int) ≤ b) && visB s) = standB s 1 b := by
  unfold standB
  congr 1
  rw [Bool.eq_iff_iff]
  simp only [decide_eq_true_eq]
  omega
theorem bytes_empty {s : ByteArray} (h : s.size = 0) : s = { data := #[] } := by
  obtain ⟨d⟩ := s
  have h : d.size = 0 := h
  rw [Array.eq_empty_of_size_eq_zero h]
theorem isEmpty_no {s : ByteArray} (h : 0 < s.size) : (ByteArray.toList s).isEmpty = false := by
  rw [ByteArray.toList_eq s]
  cases hl : s.data.toList with
  | nil =>
    have : s.size = 0 := by show s.data.size = 0; rw [← Array.length_toList, hl]; rfl
    omega
  | cons => rfl
theorem stand_empty (b : Int) : standB { data := #[] } 1 b = false := by
  unfold standB
  rw [decide_eq_false (by rintro ⟨h, _⟩; have : (1 : Int) ≤ 0 := h; omega), Bool.false_and]

set_option maxRecDepth 100000 in
set_option maxHeartbeats 8000000 in
theorem rcheck_any (a : Pa) (hlb : a.lb.size ≤ 9223372036854775807) (hms : ∀ i (h : i < a.ms.length), (a.ms[i]).size ≤ 9223372036854775807) (w : World) (hA : PaAt w a) : Calls Try.prog 62 #[paV a] w fun e w' => e = .returned (.int .i64 (chkI a)) ∧ Below w.heap.size w w' := by
  have hB := (Below.refl w.heap.size w).alloc (Nat.le_refl _) (Obj.cells (paC a) 39)
  have hP := PB.new w a
  have c0 := hP.c0
  have hwr := wrong_any a.t
  have h0 : Hid (wrongI a.t ≠ 0 → chkI a = wrongI a.t) := fun h => by unfold chkI; rw [if_neg h]
  have h4 : Hid (wrongI a.t = 0 → fieldB a.t = true → chkI a = 4) := fun h h' => by unfold chkI; rw [if_pos h, if_pos h']
  have h2 : Hid (wrongI a.t = 0 → fieldB a.t = false → restB a = false → chkI a = 2) := fun h h' h'' => by unfold chkI; rw [if_pos h, h', h'']; rfl
  have h3 : Hid (wrongI a.t = 0 → fieldB a.t = false → restB a = true → chkI a = 0) := fun h h' h'' => by unfold chkI; rw [if_pos h, h', h'']; rfl
  have ht0 : Hid (wrongI a.t = 0 → a.t.size ≤ 4096) := fun h => ok_size h
  generalize chkI a = z at *
  unfold paV
  generalize hw1 : w.alloc (.cells (paC a) 39) = w1 at *
  generalize wrongI a.t = n at *
  by_cases hz : n = 0
  · subst hz
    have ht4 := ht0.out rfl
    have hF : Hid (∀ k, k < a.t.size → bt a.t k = 3 → z = 4) := fun k hk e => h4.out rfl (decide_eq_true ⟨k, hk, e⟩)
    have hf0 : Hid ((∀ k, k < a.t.size → bt a.t k ≠ 3) → fieldB a.t = false) := fun h => decide_eq_false (by rintro ⟨k, hk, e⟩; exact h k hk e)
    have hz1 : Hid (fieldB a.t = false → spB a.sp a.t.size = false → z = 2) := fun hf h => h2.out rfl hf (by unfold restB; rw [h]; simp)
    have hz2 : Hid (fieldB a.t = false → keepB (prB a.p) = false → z = 2) := fun hf h => h2.out rfl hf (by unfold restB; rw [h]; simp)
    have hz3 : Hid (fieldB a.t = false → standB a.lb 0 16 = false → z = 2) := fun hf h => h2.out rfl hf (by unfold restB; rw [h]; simp)
    have hz4 : Hid (fieldB a.t = false → markB a.t a.ms = false → z = 2) := fun hf h => h2.out rfl hf (by unfold restB; rw [h]; simp)
    have hz5 : Hid (fieldB a.t = false → spB a.sp a.t.size = true → keepB (prB a.p) = true → standB a.lb 0 16 = true → markB a.t a.ms = true → z = 0) := fun hf e1 e2 e3 e4 => h3.out rfl hf (by unfold restB; rw [e1, e2, e3, e4]; rfl)
    have hrn : Hid (∀ j, refN a.t (j + 1) = refN a.t j + if bt a.t j = 2 then 1 else 0) := fun j => rfl
    have hrl : Hid (∀ j, refN a.t j ≤ j) := refN_le a.t
    clear h0 h4 h2 h3 ht0
    have hA' : Hid (PaAt w a) := hA
    have hlb' : Hid (a.lb.size ≤ 9223372036854775807) := hlb
    have hms' : Hid (∀ i (h : i < a.ms.length), (a.ms[i]).size ≤ 9223372036854775807) := hms
    have hP' : Hid (PB w1 w.heap.size a) := hP
    clear hA hlb hms hP
    go_enter Try.func62, Try.ntmps62
    go_wp2_with fail
    refine (hwr _).mono ?_
    rintro e w' ⟨rfl, hww⟩
    subst w'
    clear hwr
    go_wp2_with fail
    go_loopw [4, 5] (fun q i wr => ∃ k : Nat, k ≤ a.t.size ∧ i = .int .i64 k ∧ q = .int .i64 (refN a.t k : Nat) ∧ wr = w1 ∧ Hid (∀ j, j < k → bt a.t j ≠ 3)) (fun _ i _ => a.t.size - (intOf i).toNat)
    case atStart => exact ⟨0, by omega, rfl, rfl, rfl, fun j hj => by omega⟩
    case round =>
      obtain ⟨k, hk, rfl, rfl, rfl, hall⟩ := hrel
      by_cases hlt : k < a.t.size
      · have hlt' : (k : Int) < a.t.size := by omega
        have hb0 := bt_eq hlt
        have hF' : Hid (bt a.t k = 3 → z = 4) := hF.out k hlt
        have hstep : Hid (bt a.t k ≠ 3 → ∀ j, j < k + 1 → bt a.t j ≠ 3) := fun h j hj => by
          by_cases h' : j < k
          · exact hall.out j h'
          · obtain rfl : j = k := by omega
            exact h
        have hrn' := hrn.out k
        have hrl' := hrl.out k
        rw [hb0] at hrn'
        replace hb0 : Hid _ := hb0
        have hrn2 : Hid (refN a.t (k + 1) = refN a.t k + if ((a.t[k]'hlt).toNat : Int) = 2 then 1 else 0) := hrn'
        clear hrn' hall hF hf0 hz1 hz2 hz3 hz4 hz5 hrn hrl hA' hlb' hms' hP'
        generalize refN a.t k = m at *
        have hm : (m : Int) ≤ 4096 := by omega
        clear hrl'
        by_cases d1 : ((a.t[k]'hlt).toNat : Int) = 3
        · have hz := hF'.out (hb0.out.trans d1)
          subst hz
          have d1' : (((a.t[k]'hlt).toNat : Int) == 3) = true := by simpa using d1
          clear hF' hstep hrn2 hb0
          go_wp2_with fail
          go_ret
          exact ⟨rfl, hB⟩
        · have d1' : (((a.t[k]'hlt).toNat : Int) == 3) = false := by simpa using d1
          have hall2 : Hid (∀ j, j < k + 1 → bt a.t j ≠ 3) := hstep.out (by rw [hb0.out]; exact d1)
          clear hF' hstep hb0
          by_cases d2 : ((a.t[k]'hlt).toNat : Int) = 2
          · have hm2 : Hid (refN a.t (k + 1) = m + 1) := by have := hrn2.out; rw [if_pos d2] at this; exact this
            have d2' : (((a.t[k]'hlt).toNat : Int) == 2) = true := by simpa using d2
            clear hrn2 d1
            go_wp2_with fail
            go_roundw
            case rel => exact ⟨k + 1, by omega, by simp, by rw [hm2.out]; simp, by first | rfl | trivial, hall2⟩
            case measure => simp [intOf]; omega
          · have hm2 : Hid (refN a.t (k + 1) = m) := by have := hrn2.out; rw [if_neg d2] at this; exact this
            have d2' : (((a.t[k]'hlt).toNat : Int) == 2) = false := by simpa using d2
            clear hrn2 d1 d2
            go_wp2_with fail
            go_roundw
            case rel => exact ⟨k + 1, by omega, by simp, by rw [hm2.out], by first | rfl | trivial, hall2⟩
            case measure => simp [intOf]; omega
      · obtain rfl : k = a.t.size := by omega
        have hfb := hf0.out hall.out
        have y1 : Hid (spB a.sp a.t.size = false → z = 2) := hz1.out hfb
        have y2 : Hid (keepB (prB a.p) = false → z = 2) := hz2.out hfb
        have y3 : Hid (standB a.lb 0 16 = false → z = 2) := hz3.out hfb
        have y4 : Hid (markB a.t a.ms = false → z = 2) := hz4.out hfb
        have y5 : Hid (spB a.sp a.t.size = true → keepB (prB a.p) = true → standB a.lb 0 16 = true → markB a.t a.ms = true → z = 0) := hz5.out hfb
        have hrl' := hrl.out a.t.size
        clear hz1 hz2 hz3 hz4 hz5 hfb hall hf0 hF hrn hrl hlt
        have c1 := hP'.out.c1
        obtain ⟨ad, cap, hv, h2⟩ := hA'.out.sp.ex
        have hfew := hA'.out.few.1
        rw [hv] at c1
        have hv' : Hid (a.sv = .slice ad a.sp.length cap) := hv
        have h2' : Hid (a.sp = [] ∨ ∃ b o, ad = some ⟨b, o, none⟩ ∧ b < w.heap.size ∧ ∀ (i : Nat) (h : i < a.sp.length) (j : Nat) (u : Value), (spL a.sp[i])[j]? = some u → w.cell? ⟨b, o + i * 4 + j, none⟩ = some u) := h2
        clear hv h2
        have hm : Hid (markB a.t a.ms = (decide (a.ms.length = refN a.t a.t.size) && a.ms.all (fun m => standB m 1 8))) := rfl
        generalize refN a.t a.t.size = m at *
        have hm4 : (m : Int) ≤ 4096 := by omega
        clear hrl'
        obtain ⟨L, hL⟩ : ∃ L, a.sp.length = L := ⟨_, rfl⟩
        rw [hL] at c1 hfew
        go_wp2_with fail
        have hw0 : Hid (spB a.sp a.t.size = spB (a.sp.drop 0) a.t.size) := rfl
        go_loopw [6, 7] (fun q i wv => ∃ (k : Nat) (x : Int), k ≤ L ∧ i = .int .i64 k ∧ q = .int .i64 x ∧ 0 ≤ x ∧ x ≤ 4096 ∧ Hid (Below w.heap.size w wv ∧ PB wv w.heap.size a) ∧ Hid (spB a.sp a.t.size = spB (a.sp.drop k) x)) (fun _ i _ => L - (intOf i).toNat)
        case atStart => exact ⟨0, a.t.size, by omega, rfl, rfl, by omega, by omega, ⟨hB, hP'.out⟩, hw0⟩
        case round =>
          obtain ⟨k, x, hk, rfl, rfl, hx0, hx1, hbp, hzz⟩ := hrel
          have hb := hbp.out.1
          have hPr := hbp.out.2
          have d1 := hPr.c1
          rw [hv'.out, hL] at d1
          have hww := hb.size
          by_cases hlt : k < L
          · have hlt' : (k : Int) < L := by omega
            have hlta : k < a.sp.length := by omega
            rcases h2'.out with h2 | ⟨b, o, rfl, hbl, hc⟩
            · rw [h2] at hlta; simp at hlta
            · have e0 : wr.cell? ⟨b, o + k * 4, none⟩ = some (.int .i64 (a.sp[k]'hlta).n) := (hb.cell hbl).trans (hc k hlta 0 _ rfl)
              have e1 : wr.cell? ⟨b, o + k * 4 + 1, none⟩ = some (.int .i64 (a.sp[k]'hlta).s) := (hb.cell hbl).trans (hc k hlta 1 _ rfl)
              have e2 : wr.cell? ⟨b, o + k * 4 + 2, none⟩ = some (.int .i64 (a.sp[k]'hlta).t) := (hb.cell hbl).trans (hc k hlta 2 _ rfl)
              have e3 : wr.cell? ⟨b, o + k * 4 + 3, none⟩ = some (.int .i64 (a.sp[k]'hlta).k) := (hb.cell hbl).trans (hc k hlta 3 _ rfl)
              have hst := spB_step hlta (n := x)
              have hno := spB_no hlta (n := x)
              rw [chB_3] at hst hno
              have hst' : Hid (1 ≤ (a.sp[k]'hlta).n ∧ (a.sp[k]'hlta).n ≤ x ∧ chB3 (a.sp[k]'hlta).s (a.sp[k]'hlta).t (a.sp[k]'hlta).k = true → spB a.sp a.t.size = spB (a.sp.drop (k + 1)) (x - (a.sp[k]'hlta).n)) := fun h => hzz.out.trans (hst h)
              have hno' : Hid (¬ (1 ≤ (a.sp[k]'hlta).n ∧ (a.sp[k]'hlta).n ≤ x ∧ chB3 (a.sp[k]'hlta).s (a.sp[k]'hlta).t (a.sp[k]'hlta).k = true) → z = 2) := fun h => y1.out (hzz.out.trans (hno h))
              clear hst hno hzz hc h2' y1 y2 y3 y4 y5 hm hA' hlb' hms' hP' hw0 c0 c1 hB hv'
              generalize (a.sp[k]'hlta).n = x0 at *
              generalize (a.sp[k]'hlta).s = x1 at *
              generalize (a.sp[k]'hlta).t = x2 at *
              generalize (a.sp[k]'hlta).k = x3 at *
              have hch := char_any x1 x2 x3
              have hbx : Hid (∀ W, Below (wr.heap.size + 1) (wr.alloc (.cells #[.int .i64 x0, .int .i64 x1, .int .i64 x2, .int .i64 x3] 69)) W → W.cell? ⟨wr.heap.size, 0, none⟩ = some (.int .i64 x0) ∧ Hid (Below w.heap.size w W ∧ PB W w.heap.size a)) := fun W hB => by
                refine ⟨(hB.cell (by simp)).trans ?_, (hb.alloc hb.size _).trans (hB.mono (by omega)), ?_⟩
                · rw [Lib.cell_of_heap (World.alloc_heap_new wr _)]; rfl
                · exact (hPr.below ((Below.refl wr.heap.size wr).alloc (Nat.le_refl _) _) hPr.lt).below (hB.mono (by omega)) hPr.lt
              have hb2 : Below w.heap.size w (wr.alloc (.cells #[.int .i64 x0, .int .i64 x1, .int .i64 x2, .int .i64 x3] 69)) := hb.alloc hb.size _
              clear hbp hPr hb
              by_cases v1 : x0 < 1
              · have hz := hno'.out (by omega)
                subst hz
                clear hno' hst' hch hbx
                go_wp2_with fail
                go_ret
                exact ⟨rfl, hb2⟩
              · by_cases v2 : x < x0
                · have hz := hno'.out (by omega)
                  subst hz
                  clear hno' hst' hch hbx
                  go_wp2_with fail
                  go_ret
                  exact ⟨rfl, hb2⟩
                · cases hv3 : chB3 x1 x2 x3
                  · have hz := hno'.out (by rw [hv3]; simp)
                    subst hz
                    rw [hv3] at hch
                    clear hno' hst' hv3
                    go_wp2_with fail
                    refine (hch _).mono ?_
                    rintro e w' ⟨rfl, hB4⟩
                    rw [World.size_alloc] at hB4
                    obtain ⟨g0, g1⟩ := hbx.out _ hB4
                    clear hbx hB4 hch
                    go_wp2_with fail
                    go_ret
                    exact ⟨rfl, g1.out.1⟩
                  · have hsp2 : Hid (spB a.sp a.t.size = spB (a.sp.drop (k + 1)) (x - x0)) := hst'.out ⟨by omega, by omega, hv3⟩
                    rw [hv3] at hch
                    clear hno' hst' hv3
                    go_wp2_with fail
                    refine (hch _).mono ?_
                    rintro e w' ⟨rfl, hB4⟩
                    rw [World.size_alloc] at hB4
                    obtain ⟨g0, g1⟩ := hbx.out _ hB4
                    clear hbx hB4 hch
                    go_wp2_with fail
                    go_roundw
                    case rel => exact ⟨k + 1, x - x0, by omega, by simp, by first | rfl | simp, by omega, by omega, g1, hsp2⟩
                    case measure => simp [intOf]; omega
          · have hge : ¬ (k : Int) < L := by omega
            have hka : k = a.sp.length := by omega
            have hse := hzz.out
            rw [hka, spB_end] at hse
            replace hse : Hid _ := hse
            clear hw0 hzz h2' hv' c1 hB hP' c0 hka hbp
            by_cases hx : x = 0
            · have hs1 : Hid (spB a.sp a.t.size = true) := hse.out.trans (decide_eq_true hx)
              subst hx
              clear hse y1
              have hpr := props_any a.p wr
              cases hk2 : keepB (prB a.p)
              · have hz := y2.out hk2
                subst hz
                rw [hk2] at hpr
                clear y2 y3 y4 y5 hm hA' hlb' hms' hk2
                go_wp2_with (refine wpList_load_part 37 _ rfl (by rfl) w.heap.size 2 rfl (prL a.p) _ hPr.pr Try.underlying37 rfl (info31 a.p) ?_)
                refine hpr.mono ?_
                rintro e w4 ⟨rfl, hb4⟩
                clear hpr
                go_wp2_with fail
                go_ret
                exact ⟨rfl, hb.trans (hb4.mono hb.size)⟩
              · rw [hk2] at hpr
                have y3' := y3
                have y5' : Hid (standB a.lb 0 16 = true → markB a.t a.ms = true → z = 0) := y5.out hs1.out hk2
                clear y2 y3 y5 hk2
                have hsh := shown_any a.lb hlb'.out 16
                rw [stand_shown] at hsh
                go_wp2_with (refine wpList_load_part 37 _ rfl (by rfl) w.heap.size 2 rfl (prL a.p) _ hPr.pr Try.underlying37 rfl (info31 a.p) ?_)
                refine hpr.mono ?_
                rintro e w4 ⟨rfl, hb4⟩
                clear hpr
                have hP4 := hPr.below hb4 hPr.lt
                have hB4 := hb.trans (hb4.mono hb.size)
                have k19 := hP4.c19
                have k20 := hP4.c20
                clear hPr hb hb4 d1
                obtain ⟨ad2, cap2, hv2, hc2⟩ := hA'.out.ms.ex
                have hfew2 := hA'.out.few.2
                rw [hv2] at k20
                cases hk3 : standB a.lb 0 16
                · have hz := y3'.out hk3
                  subst hz
                  rw [hk3] at hsh
                  clear y3' y4 y5' hm hA' hlb' hms' hk3 hc2 hv2
                  go_wp2_with fail
                  refine (hsh _).mono ?_
                  rintro e w' ⟨rfl, hww⟩
                  subst w'
                  clear hsh
                  go_wp2_with fail
                  go_ret
                  exact ⟨rfl, hB4⟩
                · rw [hk3] at hsh
                  have y6 : Hid (markB a.t a.ms = true → z = 0) := y5'.out hk3
                  have hN0 : Hid (a.ms.length ≠ m → z = 2) := fun h => y4.out (by rw [hm.out, decide_eq_false h, Bool.false_and])
                  have hN : Hid (∀ k (hk : k < a.ms.length), standB a.ms[k] 1 8 = false → z = 2) := fun k hk e => y4.out (by
                    rw [hm.out, List.all_eq_false.2 ⟨a.ms[k], List.getElem_mem hk, by simp [e]⟩, Bool.and_false])
                  have hY : Hid (a.ms.length = m → (∀ k (hk : k < a.ms.length), standB a.ms[k] 1 8 = true) → z = 0) := fun h0 h => y6.out (by
                    rw [hm.out, decide_eq_true h0, Bool.true_and]
                    exact List.all_eq_true.2 fun b hb => by
                      obtain ⟨k, hk, rfl⟩ := List.getElem_of_mem hb
                      exact h k hk)
                  have h3 : Hid (∀ (i : Nat) (h : i < a.ms.length), ∃ g o, ad2 = some ⟨g, o, none⟩ ∧ w4.cell? ⟨g, o + i, none⟩ = some (.string a.ms[i])) := fun i h => by
                    rcases hc2 with h2 | ⟨g, o, e, hg, hc⟩
                    · rw [h2] at h; simp at h
                    · exact ⟨g, o, e, (hB4.cell hg).trans (hc i h)⟩
                  clear y3' y4 y5' y6 hm hA' hlb' hk3 hc2 hs1
                  have hv2' : Hid (a.mv = .slice ad2 a.ms.length cap2) := hv2
                  clear hv2
                  generalize a.ms = l at *
                  go_wp2_with fail
                  refine (hsh _).mono ?_
                  rintro e w' ⟨rfl, hww⟩
                  subst w'
                  clear hsh
                  by_cases hlm : l.length = m
                  · have q1 : ((l.length : Int) != (m : Int)) = false := by simp [hlm]
                    have hY2 : Hid ((∀ k (hk : k < l.length), standB l[k] 1 8 = true) → z = 0) := hY.out hlm
                    clear hY hN0
                    have hl4 : (l.length : Int) ≤ 4096 := by omega
                    replace hlm : Hid _ := hlm
                    go_wp2_with fail
                    go_loopw [9] (fun i wv => ∃ k : Nat, k ≤ l.length ∧ i = .int .i64 k ∧ wv = w4 ∧ Hid (∀ j (hj : j < l.length), j < k → standB l[j] 1 8 = true)) (fun i _ => l.length - (intOf i).toNat)
                    case atStart => exact ⟨0, by omega, rfl, rfl, fun j _ hj => by omega⟩
                    case round =>
                      obtain ⟨k2, hk2, rfl, rfl, hall⟩ := hrel
                      by_cases hlt : k2 < l.length
                      · obtain ⟨g, o, rfl, hc⟩ := h3.out k2 hlt
                        have hlt' : (k2 : Int) < l.length := by omega
                        have hN' : Hid (standB (l[k2]'hlt) 1 8 = false → z = 2) := hN.out k2 hlt
                        have hyes : Hid (standB (l[k2]'hlt) 1 8 = true → ∀ j (hj : j < l.length), j < k2 + 1 → standB l[j] 1 8 = true) := fun hv j hj hjk => by
                          by_cases h : j < k2
                          · exact hall.out j hj h
                          · obtain rfl : j = k2 := by omega
                            exact hv
                        have hmu := hms'.out k2 hlt
                        clear hN hY2 hall h3 hms'
                        generalize (l[k2]'hlt) = u at *
                        by_cases hu : u.size = 0
                        · have hu2 := bytes_empty hu
                          subst hu2
                          have hz := hN'.out (stand_empty 8)
                          subst hz
                          clear hN' hyes hu hmu
                          go_wp2_with fail
                          go_ret
                          exact ⟨rfl, hB4⟩
                        · have hsh := shown_any u hmu 8
                          rw [stand_one u 8 (by omega)] at hsh
                          have hu1 : (ByteArray.toList u).isEmpty = false := isEmpty_no (by omega)
                          cases hk4 : standB u 1 8
                          · have hz := hN'.out hk4
                            subst hz
                            rw [hk4] at hsh
                            clear hN' hyes hu hmu hk4
                            go_wp2_with fail
                            refine (hsh _).mono ?_
                            rintro e w' ⟨rfl, hww⟩
                            subst w'
                            clear hsh
                            go_wp2_with fail
                            go_ret
                            exact ⟨rfl, hB4⟩
                          · have hy2 : Hid (∀ j (hj : j < l.length), j < k2 + 1 → standB l[j] 1 8 = true) := hyes.out hk4
                            rw [hk4] at hsh
                            clear hN' hyes hu hmu hk4
                            go_wp2_with fail
                            refine (hsh _).mono ?_
                            rintro e w' ⟨rfl, hww⟩
                            subst w'
                            clear hsh
                            go_wp2_with fail
                            go_roundw
                            case rel => exact ⟨k2 + 1, by omega, by simp, by first | rfl | trivial, hy2⟩
                            case measure => simp [intOf]; omega
                      · have hz := hY2.out (fun j hj => hall.out j hj (by omega))
                        have hge2 : ¬ (k2 : Int) < l.length := by omega
                        clear hN hY2 hall h3 hms'
                        subst hz
                        go_wp2_with fail
                        go_ret
                        exact ⟨rfl, hB4⟩
                  · have q1 : ((l.length : Int) != (m : Int)) = true := by
                      have : ¬ (l.length : Int) = m := by omega
                      simp [this]
                    have hz := hN0.out hlm
                    subst hz
                    clear hN0 hN hY hlm h3 hms'
                    go_wp2_with fail
                    go_ret
                    exact ⟨rfl, hB4⟩
            · have hz := y1.out (hse.out.trans (decide_eq_false hx))
              subst hz
              have hxp : 0 < x := by omega
              clear y1 y2 y3 y4 y5 hm hA' hlb' hms' hse hx
              go_wp2_with fail
              go_ret
              exact ⟨rfl, hb⟩
  · have e2 : (n == 0) = false := by simpa using hz
    have hz' := h0.out hz
    subst hz'
    clear h0 h4 h2 h3 ht0 hA hP hms
    go_enter Try.func62, Try.ntmps62
    go_wp2_with fail
    refine (hwr _).mono ?_
    rintro e w' ⟨rfl, hww⟩
    subst w'
    go_wp2_with fail
    go_ret
    exact ⟨rfl, hB⟩
end Go.Proofs.Ytkhnfmdhdfpdhaa
