/-
  What is proved here: SpanScript answers true at every input, with no condition: looks, and a clone of them, answer any calls as the document says; what is handed in stays.
-/
import Derived.Test.YtjakmekifpbldaaRefS
import Derived.Test.YtjakmekifpbldaaSpanNone
import Derived.ProofKit
import Derived.OpenShut
import Derived.ChangeOld
import Derived.Below
import Derived.Deep.Slices
namespace Go.Proofs.Ytjakmekifpbldaa.spanScript
open Go.ChangeShapes Go.WideShapes Go.ChangeAt Go.RowKit Go.Shelf

/-- One call, in memory. -/
def ActAt (w : World) (b o : Nat) : Prop := ∃ (kd p n : Int) (c : Ch), w.cell? ⟨b, o, none⟩ = some (.int .i64 kd) ∧ w.cell? ⟨b, o + 1, none⟩ = some (.int .i64 p) ∧ w.cell? ⟨b, o + 2, none⟩ = some (.int .i64 n) ∧
  w.cell? ⟨b, o + 3, none⟩ = some (.int .i64 c.s) ∧ w.cell? ⟨b, o + 4, none⟩ = some (.int .i64 c.t) ∧ w.cell? ⟨b, o + 5, none⟩ = some (.int .i64 c.k) ∧ (-9223372036854775808 ≤ p ∧ p ≤ 9223372036854775807)
/-- The calls, in memory. -/
def IsActs (w : World) (a : Option Addr) (len : Nat) : Prop := len = 0 ∨ ∃ b off, a = some ⟨b, off, none⟩ ∧ b < w.heap.size ∧ ∀ i, i < len → ActAt w b (off + i * 6)
theorem box6 {w : World} {x : Nat} {kd p n : Int} {c : Ch} (h : w.heap[x]? = some (.cells #[.int .i64 kd, .int .i64 p, .int .i64 n, .int .i64 c.s, .int .i64 c.t, .int .i64 c.k] 36 (0, 0))) : w.cell? ⟨x, 0, none⟩ = some (.int .i64 kd) ∧ w.cell? ⟨x, 1, none⟩ = some (.int .i64 p) ∧ w.cell? ⟨x, 2, none⟩ = some (.int .i64 n) ∧ w.cell? ⟨x, 3, none⟩ = some (.int .i64 c.s) ∧ w.cell? ⟨x, 4, none⟩ = some (.int .i64 c.t) ∧ w.cell? ⟨x, 5, none⟩ = some (.int .i64 c.k) := by
  refine ⟨?_, ?_, ?_, ?_, ?_, ?_⟩ <;> (rw [Lib.cell_of_heap h]; rfl)
theorem box_both {l q x : Nat} {w w' : World} {cs : Array Value} (hp : Pair l q w) (hb : Both l q w w') (hx : w.heap[x]? = some (.cells cs 36 (0, 0))) : w'.heap[x]? = some (.cells cs 36 (0, 0)) := by
  obtain ⟨sv, v, L, m, h1, h2⟩ := hp
  exact both_box hb hx (type_ne hx h1.obj (by decide)) (type_ne hx h2.obj (by decide))

set_option maxRecDepth 100000 in
set_option maxHeartbeats 4000000 in
theorem walk (n : Int) (c : Ch) (a : Option Addr) (len cap : Nat) (w : World) (hlen : len ≤ 9223372036854775807) (hact : IsActs w a len) :
    Calls Try.prog 3 #[.int .i64 n, chV c, .slice a len cap] w fun e w' => e = .returned (.bool true) ∧ Below w.heap.size w w' := by
  have hBx := (Below.refl w.heap.size w).alloc (Nat.le_refl _) (.cells #[.int .i64 c.s, .int .i64 c.t, .int .i64 c.k] 23)
  have hX : Hid _ := heap_new w (.cells #[.int .i64 c.s, .int .i64 c.t, .int .i64 c.k] 23)
  have hm1 : Hid (∀ w, Calls Try.prog 10 #[.agg #[.int .i64 c.s, .int .i64 c.t, .int .i64 c.k]] w fun e w' => e = .returned (.bool (mayC c)) ∧ Below w.heap.size w w') := may_any c
  have hm2 : Hid (∀ w, Calls Try.prog 11 #[.agg #[.int .i64 c.s, .int .i64 c.t, .int .i64 c.k]] w fun e w' => e = .returned (.bool (mayC c)) ∧ Below w.heap.size w w') := refMay_any c
  have hnew := new_both n c
  unfold chV at hnew ⊢
  by_cases h60 : 60 < len
  · clear hnew hact
    have f1 : (60 : Int) < len := by omega
    go_enter Try.func3, Try.ntmps3
    go_wp2_with fail
    go_ret
    exact ⟨rfl, hBx⟩
  have f60 : ¬ (60 : Int) < len := by omega
  have x0 : (w.alloc (.cells #[.int .i64 c.s, .int .i64 c.t, .int .i64 c.k] 23)).cell? ⟨w.heap.size, 0, none⟩ = some (.int .i64 c.s) := by rw [Lib.cell_of_heap hX.out]; rfl
  have x1 : (w.alloc (.cells #[.int .i64 c.s, .int .i64 c.t, .int .i64 c.k] 23)).cell? ⟨w.heap.size, 1, none⟩ = some (.int .i64 c.t) := by rw [Lib.cell_of_heap hX.out]; rfl
  have x2 : (w.alloc (.cells #[.int .i64 c.s, .int .i64 c.t, .int .i64 c.k] 23)).cell? ⟨w.heap.size, 2, none⟩ = some (.int .i64 c.k) := by rw [Lib.cell_of_heap hX.out]; rfl
  rcases hnew with ⟨ec, hn1, hn2⟩ | hn1
  · clear hact
    go_enter Try.func3, Try.ntmps3
    go_wp2_with fail
    refine (hn1 _).mono ?_
    rintro _ w1 ⟨rfl, B1⟩
    have hX1 : Hid (w1.heap[w.heap.size]? = some (.cells #[.int .i64 c.s, .int .i64 c.t, .int .i64 c.k] 23 (0, 0))) := (B1.block _ (by simp)).trans hX.out
    have D1 := hBx.trans (B1.mono hBx.size)
    clear x0 x1 x2
    have x0 : w1.cell? ⟨w.heap.size, 0, none⟩ = some (.int .i64 c.s) := by rw [Lib.cell_of_heap hX1.out]; rfl
    have x1 : w1.cell? ⟨w.heap.size, 1, none⟩ = some (.int .i64 c.t) := by rw [Lib.cell_of_heap hX1.out]; rfl
    have x2 : w1.cell? ⟨w.heap.size, 2, none⟩ = some (.int .i64 c.k) := by rw [Lib.cell_of_heap hX1.out]; rfl
    go_wp2_with fail
    refine (hn2 _).mono ?_
    rintro _ w2 ⟨rfl, B2⟩
    have hX2 := (B2.block _ (Array.getElem?_eq_some_iff.1 hX1.out).1).trans hX1.out
    have D2 := D1.trans (B2.mono D1.size)
    clear x0 x1 x2
    go_wp2_with fail
    refine script_region5n _ (fun _ _ _ _ _ h => h) _ _ w.heap.size ec c (mayC c) w2 hX2 hm1.out hm2.out ?_
    intro w3 B3
    have D3 := D2.trans (B3.mono D2.size)
    unfold fr3
    go_wp2_with fail
    go_ret
    exact ⟨rfl, D3⟩
  go_enter Try.func3, Try.ntmps3
  go_wp2_with fail
  refine (hn1 _).mono ?_
  rintro _ w1 ⟨l, rfl, hl, B1, hn2⟩
  have hX1 : Hid (w1.heap[w.heap.size]? = some (.cells #[.int .i64 c.s, .int .i64 c.t, .int .i64 c.k] 23 (0, 0))) := (B1.block _ (by simp)).trans hX.out
  have D1 := hBx.trans (B1.mono hBx.size)
  clear x0 x1 x2
  have x0 : w1.cell? ⟨w.heap.size, 0, none⟩ = some (.int .i64 c.s) := by rw [Lib.cell_of_heap hX1.out]; rfl
  have x1 : w1.cell? ⟨w.heap.size, 1, none⟩ = some (.int .i64 c.t) := by rw [Lib.cell_of_heap hX1.out]; rfl
  have x2 : w1.cell? ⟨w.heap.size, 2, none⟩ = some (.int .i64 c.k) := by rw [Lib.cell_of_heap hX1.out]; rfl
  go_wp2_with fail
  refine hn2.out.mono ?_
  rintro _ w2 ⟨q, rfl, hq, hp2, B2⟩
  have hX2 := (B2.block _ (Array.getElem?_eq_some_iff.1 hX1.out).1).trans hX1.out
  have D2 := D1.trans (B2.mono D1.size)
  have hl2 : l < w2.heap.size := by obtain ⟨_, _, _, _, k1, _⟩ := hp2; exact k1.lt
  have hq2 : q < w2.heap.size := by obtain ⟨_, _, _, _, _, k2⟩ := hp2; exact k2.lt
  have hlw : w.heap.size ≤ l := by have := hBx.size; omega
  have hqw : w.heap.size ≤ q := by have := D1.size; omega
  have hp2' : Hid (Pair l q w2) := hp2
  clear x0 x1 x2 hn1 hn2 hp2 hl hq
  go_wp2_with fail
  refine script_region5s _ (fun _ _ _ _ _ h => h) _ _ w.heap.size l q 0 c (mayC c) w2 hX2 hm1.out hm2.out ?_
  intro w3 B3
  have D3 := D2.trans (B3.mono D2.size)
  have hp3 : Hid (Pair l q w3) := hp2'.out.below B3
  have hz3 := B3.size
  unfold fr3
  clear hX hX1 hX2 hm1 hm2 B1 B2 D1 D2 B3 hp2'
  go_wp2_with fail
  refine (pair_clone hp3.out).mono ?_
  rintro _ w4 ⟨o, rfl, ho, B4, hcl⟩
  go_wp2_with fail
  refine hcl.out.mono ?_
  rintro _ w5 ⟨v, rfl, hv, hp5, B5⟩
  have hz4 := B4.size
  have hz0 := D3.size
  have B45 := B4.trans (B5.mono B4.size)
  have hst : Hid (Sta w l q o v w5) := ⟨D3.trans (B45.mono D3.size), hp3.out.below B45, hp5, by omega, by omega, hlw, hqw, by omega, by omega⟩
  clear hcl B4 B5 B45 hp5 hp3 D3 ho hv hl2 hq2 hlw hqw hz3 hz4 hz0
  go_wp2_with fail
  go_loopw [7, 9, 11, 12, 13] (fun s7 s9 s11 s12 s13 wr => ∃ (l q o v k : Nat), k ≤ len ∧ s7 = .pointer (some ⟨l, 0, none⟩) ∧ s9 = .pointer (some ⟨q, 0, none⟩) ∧ s11 = .pointer (some ⟨o, 0, none⟩) ∧ s12 = .pointer (some ⟨v, 0, none⟩) ∧ s13 = .int .i64 k ∧ Hid (Sta w l q o v wr)) (fun _ _ _ _ s13 _ => len - (intOf s13).toNat)
  case atStart => exact ⟨l, q, o, v, 0, Nat.zero_le _, rfl, rfl, rfl, rfl, rfl, hst⟩
  case round =>
    clear hst
    obtain ⟨l, q, o, v, k, hk, rfl, rfl, rfl, rfl, rfl, hs⟩ := hrel
    by_cases hlt : k < len
    · have flt : (k : Int) < len := by omega
      rcases hact with h0 | ⟨b, off, rfl, hbl, hcs⟩
      · omega
      · obtain ⟨kd, p, n', c', q0, q1, q2, q3, q4, q5, hpb⟩ := hcs k hlt
        have hp9 := hpb.2
        have hbw := hs.out.below
        have y0 := (hbw.cell hbl).trans q0
        have y1 := (hbw.cell hbl).trans q1
        have y2 := (hbw.cell hbl).trans q2
        have y3 := (hbw.cell hbl).trans q3
        have y4 := (hbw.cell hbl).trans q4
        have y5 := (hbw.cell hbl).trans q5
        clear q0 q1 q2 q3 q4 q5 hbw hpb hcs
        have hbb := (Below.refl wr.heap.size wr).alloc (Nat.le_refl _) (.cells #[.int .i64 kd, .int .i64 p, .int .i64 n', .int .i64 c'.s, .int .i64 c'.t, .int .i64 c'.k] 36)
        have hxx : Hid ((wr.alloc (.cells #[.int .i64 kd, .int .i64 p, .int .i64 n', .int .i64 c'.s, .int .i64 c'.t, .int .i64 c'.k] 36)).heap[wr.heap.size]? = some (.cells #[.int .i64 kd, .int .i64 p, .int .i64 n', .int .i64 c'.s, .int .i64 c'.t, .int .i64 c'.k] 36 (0, 0))) := heap_new wr _
        have hs1 : Hid (Sta w l q o v (wr.alloc (.cells #[.int .i64 kd, .int .i64 p, .int .i64 n', .int .i64 c'.s, .int .i64 c'.t, .int .i64 c'.k] 36))) := hs.out.next hbb
        obtain ⟨b0, b1, b2, b3, b4, b5⟩ := box6 hxx.out
        by_cases h3 : kd = 3
        · subst h3
          go_wp2_with fail
          refine (pair_clone hs1.out.one).mono ?_
          rintro _ u1 ⟨l2, rfl, hl2, B1, hcl⟩
          go_wp2_with fail
          refine hcl.out.mono ?_
          rintro _ u2 ⟨q2, rfl, hq2, hp2, B2⟩
          have B12 := B1.trans (B2.mono B1.size)
          have hx2 : Hid (u2.heap[wr.heap.size]? = some (.cells #[.int .i64 3, .int .i64 p, .int .i64 n', .int .i64 c'.s, .int .i64 c'.t, .int .i64 c'.k] 36 (0, 0))) := (B12.block _ (Array.getElem?_eq_some_iff.1 hxx.out).1).trans hxx.out
          have hlq : l < (wr.alloc (.cells #[.int .i64 3, .int .i64 p, .int .i64 n', .int .i64 c'.s, .int .i64 c'.t, .int .i64 c'.k] 36)).heap.size ∧ q < (wr.alloc (.cells #[.int .i64 3, .int .i64 p, .int .i64 n', .int .i64 c'.s, .int .i64 c'.t, .int .i64 c'.k] 36)).heap.size := by
            obtain ⟨_, _, _, _, k1, k2⟩ := hs1.out.one; exact ⟨k1.lt, k2.lt⟩
          have hs2 : Hid (Sta w l2 q2 l q u2) := by
            have e1 := hs1.out.below.size
            have e2 := B1.size
            have e3 := hs1.out.next B12
            exact ⟨e3.below, hp2, e3.one, by omega, by omega, by omega, by omega, e3.l0, e3.q0⟩
          clear b0 b1 b2 b3 b4 b5 hcl B1 B2 B12 hp2 hl2 hq2 hlq hs hs1 hxx hbb y0 y1 y2 y3 y4 y5
          have hp1 := (hs2).out.one
          obtain ⟨b0, b1, b2, b3, b4, b5⟩ := box6 (hx2).out
          go_wp2_with fail
          refine (pair_act hp1 3 p n' c' hp9 ).mono ?_
          rintro _ z1 ⟨rfl, hbo⟩
          have hT1 : Hid (Sta w l2 q2 l q z1) := (hs2).out.act hbo
          have hX1 : Hid (z1.heap[wr.heap.size]? = some (.cells #[.int .i64 3, .int .i64 p, .int .i64 n', .int .i64 c'.s, .int .i64 c'.t, .int .i64 c'.k] 36 (0, 0))) := box_both hp1 hbo (hx2).out
          clear hbo b0 b1 b2 b3 b4 b5 hp1
          obtain ⟨b0, b1, b2, b3, b4, b5⟩ := box6 hX1.out
          go_wp2_with fail
          refine (pair_told hT1.out.one p n').mono ?_
          rintro _ z2 ⟨rfl, Bz⟩
          have hT2 : Hid (Sta w l2 q2 l q z2) := hT1.out.next Bz
          clear b0 b1 b2 b3 b4 b5
          go_wp2_with fail
          go_roundw
          case rel => exact ⟨l2, q2, l, q, k + 1, by omega, rfl, rfl, rfl, rfl, by simp, hT2⟩
          case measure => simp [intOf]; omega
        · have h3' : (kd == 3) = false := by simpa using h3
          by_cases h4 : kd = 4
          · subst h4
            have hsw : Hid (Sta w o v l q (wr.alloc (.cells #[.int .i64 4, .int .i64 p, .int .i64 n', .int .i64 c'.s, .int .i64 c'.t, .int .i64 c'.k] 36))) := hs1.out.swap
            clear hs hs1
            have hp1 := (hsw).out.one
            skip
            go_wp2_with fail
            refine (pair_act hp1 4 p n' c' hp9 ).mono ?_
            rintro _ z1 ⟨rfl, hbo⟩
            have hT1 : Hid (Sta w o v l q z1) := (hsw).out.act hbo
            have hX1 : Hid (z1.heap[wr.heap.size]? = some (.cells #[.int .i64 4, .int .i64 p, .int .i64 n', .int .i64 c'.s, .int .i64 c'.t, .int .i64 c'.k] 36 (0, 0))) := box_both hp1 hbo (hxx).out
            clear hbo b0 b1 b2 b3 b4 b5 hp1
            obtain ⟨b0, b1, b2, b3, b4, b5⟩ := box6 hX1.out
            go_wp2_with fail
            refine (pair_told hT1.out.one p n').mono ?_
            rintro _ z2 ⟨rfl, Bz⟩
            have hT2 : Hid (Sta w o v l q z2) := hT1.out.next Bz
            clear b0 b1 b2 b3 b4 b5
            go_wp2_with fail
            go_roundw
            case rel => exact ⟨o, v, l, q, k + 1, by omega, rfl, rfl, rfl, rfl, by simp, hT2⟩
            case measure => simp [intOf]; omega
          · have h4' : (kd == 4) = false := by simpa using h4
            clear h3 h4
            have hp1 := (hs1).out.one
            skip
            go_wp2_with fail
            refine (pair_act hp1 kd p n' c' hp9 ).mono ?_
            rintro _ z1 ⟨rfl, hbo⟩
            have hT1 : Hid (Sta w l q o v z1) := (hs1).out.act hbo
            have hX1 : Hid (z1.heap[wr.heap.size]? = some (.cells #[.int .i64 kd, .int .i64 p, .int .i64 n', .int .i64 c'.s, .int .i64 c'.t, .int .i64 c'.k] 36 (0, 0))) := box_both hp1 hbo (hxx).out
            clear hbo b0 b1 b2 b3 b4 b5 hp1
            obtain ⟨b0, b1, b2, b3, b4, b5⟩ := box6 hX1.out
            go_wp2_with fail
            refine (pair_told hT1.out.one p n').mono ?_
            rintro _ z2 ⟨rfl, Bz⟩
            have hT2 : Hid (Sta w l q o v z2) := hT1.out.next Bz
            clear b0 b1 b2 b3 b4 b5
            go_wp2_with fail
            go_roundw
            case rel => exact ⟨l, q, o, v, k + 1, by omega, rfl, rfl, rfl, rfl, by simp, hT2⟩
            case measure => simp [intOf]; omega
    · have flt : ¬ (k : Int) < len := by omega
      clear hact
      go_wp2_with fail
      refine (pair_told hs.out.one 0 1).mono ?_
      rintro _ z1 ⟨rfl, B1⟩
      have hs1 := hs.out.next B1
      have ht := pair_told hs1.two 0 1
      have ht' : Hid (Calls Try.prog 15 _ z1 _) := ht
      have hbl := hs1.below
      clear ht hs1 hs
      go_wp2_with fail
      refine ht'.out.mono ?_
      rintro _ z2 ⟨rfl, B2⟩
      go_wp2_with fail
      go_ret
      exact ⟨rfl, hbl.trans (B2.mono hbl.size)⟩
end Go.Proofs.Ytjakmekifpbldaa.spanScript
