/-
  What is proved here: ClusterParts answers true at every input, with no condition: a text in two parts has the clusters of both, if the second part does not begin with an accent.
-/
import Derived.Test.YtjmcfdmonckhmaaParts
import Derived.ProofKit
import Derived.OpenShut
namespace Go.Proofs.Ytjmcfdmonckhmaa.clusterParts
open Go.ChangeShapes Go.WideShapes Go.ChangeAt Go.RowKit Go.WideMaps Go.WideElems
open Go.ChangeMaps (open_string shut_string)

theorem own : ownKnob Try.prog.godebug = none := by kernel_rfl

theorem wpList_append_want {P : Program} (w : World) {ops : Array Oper} {rest : List Oper} {o : Oper} {a : Act} {Q : Exit → Act → World → Prop} (sl x : Operand) (t : TypeId)
    (ho : o.op = .call { callee := .builtin .append, args := #[sl, x], argTypes := #[t, t] }) (hw : Region.wanted o (yielded ops a.tmps) = true)
    (base : Nat) (e : TypeId) (i : TypeInfo) (z : Value) (size bytes : Nat) (ht : P.underlying t = some (.slice e)) (hi : P.info? e = some i) (hz : i.zero = some z) (hsize : i.size = size) (hby : i.bytes = bytes) (hzs : z.cells.size = size) (hsz : 0 < size)
    (v : Value) (n : Nat) (xs : List Value) (hs : a.eval sl = v) (hown : w.ownsRow base e size v n xs) (m : Nat) (news : List Value) (u : Value) (hxe : a.eval x = u) (hx : Srcs w size u m news)
    (h63 : n + m ≤ maxLen) (hbytes : (n + m) * bytes ≤ 140737488355328) (hbase : base ≤ w.heap.size)
    (h : ∀ v' w', w'.ownsRow base e size v' (n + m) (xs ++ news) → w.grownBy w' v.ownBlock → wpList P ops Q rest (a.put o.dst v') w') : wpList P ops Q (o :: rest) a w := by
  refine BigFrame.wpList_want hw fun K hK => ?_
  obtain ⟨v', w', hr, h2, h3⟩ := run_append_any (P := P) w base t o.type e i z size bytes ht hi hz hsize hby hzs hsz v n xs hown u m news hx h63 hbytes hbase
  unfold Oper.wp execOp
  simp only [ho, resolve, invoke, builtin, Sem.run_bind, Sem.run_pure, Result.andThen_ok, List.map_toArray, List.map_cons, List.map_nil, hs, hxe, hr]
  exact hK _ _ (h v' w' h2 h3)

set_option maxRecDepth 100000 in
set_option maxHeartbeats 2000000 in
theorem walk_long (a b : ByteArray) (ha : a.size ≤ maxLen) (h : 4096 < a.size ∨ 4096 < a.size + b.size) (w : World) : Calls Try.prog 7 #[.string a, .string b] w fun e w' => e = .returned (.bool true) ∧ Below w.heap.size w w' := by
  unfold maxLen at ha
  by_cases h1 : 4096 < a.size
  · go_enter Try.func7, Try.ntmps7
    go_wp2_with fail
    refine (known_any _).mono ?_
    rintro e w1 ⟨rfl, B1⟩
    go_wp2_with fail
    go_ret
    exact ⟨rfl, B1⟩
  · have f1 : ¬ (4096 : Int) < a.size := by omega
    have f2 : (4096 : Int) - a.size < b.size := by omega
    go_enter Try.func7, Try.ntmps7
    go_wp2_with fail
    refine (known_any _).mono ?_
    rintro e w1 ⟨rfl, B1⟩
    go_wp2_with fail
    go_ret
    exact ⟨rfl, B1⟩

set_option maxRecDepth 100000 in
set_option maxHeartbeats 2000000 in
theorem walk_acc (a b : ByteArray) (hs : a.size + b.size ≤ 4096) (h : accB (bt b 0) = true) (w : World) : Calls Try.prog 7 #[.string a, .string b] w fun e w' => e = .returned (.bool true) ∧ Below w.heap.size w w' := by
  have h0 := acc_lt h
  rw [bt_eq h0] at h
  have hc := of_decide_eq_true h
  clear h
  have f1 : ¬ (4096 : Int) < a.size := by omega
  have f2 : ¬ (4096 : Int) - a.size < b.size := by omega
  have f3 : (0 : Int) < b.size := by omega
  by_cases h1 : ((b[0]'h0).toNat : Int) = 94
  · clear hc
    go_enter Try.func7, Try.ntmps7
    go_wp2_with fail
    refine (known_any _).mono ?_
    rintro e w1 ⟨rfl, B1⟩
    go_wp2_with fail
    go_ret
    exact ⟨rfl, B1⟩
  · have q1 : (((b[0]'h0).toNat : Int) == 94) = false := by simpa using h1
    by_cases h2 : ((b[0]'h0).toNat : Int) = 96
    · clear hc
      go_enter Try.func7, Try.ntmps7
      go_wp2_with fail
      refine (known_any _).mono ?_
      rintro e w1 ⟨rfl, B1⟩
      go_wp2_with fail
      go_ret
      exact ⟨rfl, B1⟩
    · have q2 : (((b[0]'h0).toNat : Int) == 96) = false := by simpa using h2
      have h3 : ((b[0]'h0).toNat : Int) = 126 := by omega
      clear hc
      go_enter Try.func7, Try.ntmps7
      go_wp2_with fail
      refine (known_any _).mono ?_
      rintro e w1 ⟨rfl, B1⟩
      go_wp2_with fail
      go_ret
      exact ⟨rfl, B1⟩

set_option maxRecDepth 100000 in
set_option maxHeartbeats 2000000 in
theorem bad_empty (a b : ByteArray) (hs : a.size + b.size ≤ 4096) (h0 : b.size = 0) (na nb : Int) (hn : na ≠ 0 ∨ nb ≠ 0)
    (sA : ∀ w, Calls Try.prog 8 #[.string a] w fun e w' => ∃ v, e = .returned (.tuple #[v, .int .i64 na]) ∧ Below w.heap.size w w') (sB : ∀ w, Calls Try.prog 8 #[.string b] w fun e w' => ∃ v, e = .returned (.tuple #[v, .int .i64 nb]) ∧ Below w.heap.size w w')
    (sC : ∀ w, Calls Try.prog 8 #[.string (a ++ b)] w fun e w' => ∃ v, e = .returned (.tuple #[v, .int .i64 4]) ∧ Below w.heap.size w w') (w : World) : Calls Try.prog 7 #[.string a, .string b] w fun e w' => e = .returned (.bool true) ∧ Below w.heap.size w w' := by
  have f1 : ¬ (4096 : Int) < a.size := by omega
  have f2 : ¬ (4096 : Int) - a.size < b.size := by omega
  have f4 : ¬ 9223372036854775807 < a.size + b.size := by omega
  have f5 : ¬ (9223372036854775807 : Int) < (a.size : Int) + b.size := by omega
  have f3 : ¬ (0 : Int) < b.size := by omega
  by_cases hna : na = 0
  · have hnb : nb ≠ 0 := hn.resolve_left (fun h => h hna)
    have r1 : (na != 0) = false := by simpa using hna
    have r2 : (nb != 0) = true := by simpa using hnb
    clear hn hna hnb
    go_enter Try.func7, Try.ntmps7
    go_wp2_with fail
    refine (known_any _).mono ?_
    rintro e w1 ⟨rfl, B1⟩
    go_wp2_with fail
    refine (sA _).mono ?_
    rintro e w2 ⟨v, rfl, B2⟩
    have C2 := B1.trans (B2.mono B1.size)
    go_wp2_with fail
    refine (sB _).mono ?_
    rintro e w3 ⟨u, rfl, B3⟩
    have C3 := C2.trans (B3.mono C2.size)
    go_wp2_with fail
    refine (sC _).mono ?_
    rintro e w4 ⟨x, rfl, B4⟩
    have C4 := C3.trans (B4.mono C3.size)
    go_wp2_with fail
    go_ret
    exact ⟨rfl, C4⟩
  · have r1 : (na != 0) = true := by simpa using hna
    clear hn hna
    go_enter Try.func7, Try.ntmps7
    go_wp2_with fail
    refine (known_any _).mono ?_
    rintro e w1 ⟨rfl, B1⟩
    go_wp2_with fail
    refine (sA _).mono ?_
    rintro e w2 ⟨v, rfl, B2⟩
    have C2 := B1.trans (B2.mono B1.size)
    go_wp2_with fail
    refine (sB _).mono ?_
    rintro e w3 ⟨u, rfl, B3⟩
    have C3 := C2.trans (B3.mono C2.size)
    go_wp2_with fail
    refine (sC _).mono ?_
    rintro e w4 ⟨x, rfl, B4⟩
    have C4 := C3.trans (B4.mono C3.size)
    go_wp2_with fail
    go_ret
    exact ⟨rfl, C4⟩

set_option maxRecDepth 100000 in
set_option maxHeartbeats 2000000 in
theorem bad_some (a b : ByteArray) (hs : a.size + b.size ≤ 4096) (h0 : 0 < b.size) (g1 : ((b[0]'h0).toNat : Int) ≠ 94) (g2 : ((b[0]'h0).toNat : Int) ≠ 96) (g3 : ((b[0]'h0).toNat : Int) ≠ 126) (na nb : Int) (hn : na ≠ 0 ∨ nb ≠ 0)
    (sA : ∀ w, Calls Try.prog 8 #[.string a] w fun e w' => ∃ v, e = .returned (.tuple #[v, .int .i64 na]) ∧ Below w.heap.size w w') (sB : ∀ w, Calls Try.prog 8 #[.string b] w fun e w' => ∃ v, e = .returned (.tuple #[v, .int .i64 nb]) ∧ Below w.heap.size w w')
    (sC : ∀ w, Calls Try.prog 8 #[.string (a ++ b)] w fun e w' => ∃ v, e = .returned (.tuple #[v, .int .i64 4]) ∧ Below w.heap.size w w') (w : World) : Calls Try.prog 7 #[.string a, .string b] w fun e w' => e = .returned (.bool true) ∧ Below w.heap.size w w' := by
  have f1 : ¬ (4096 : Int) < a.size := by omega
  have f2 : ¬ (4096 : Int) - a.size < b.size := by omega
  have f4 : ¬ 9223372036854775807 < a.size + b.size := by omega
  have f5 : ¬ (9223372036854775807 : Int) < (a.size : Int) + b.size := by omega
  have q1 : (((b[0]'h0).toNat : Int) == 94) = false := by simpa using g1
  have q2 : (((b[0]'h0).toNat : Int) == 96) = false := by simpa using g2
  have q3 : (((b[0]'h0).toNat : Int) == 126) = false := by simpa using g3
  have f3 : (0 : Int) < b.size := by omega
  by_cases hna : na = 0
  · have hnb : nb ≠ 0 := hn.resolve_left (fun h => h hna)
    have r1 : (na != 0) = false := by simpa using hna
    have r2 : (nb != 0) = true := by simpa using hnb
    clear hn hna hnb g1 g2 g3
    go_enter Try.func7, Try.ntmps7
    go_wp2_with fail
    refine (known_any _).mono ?_
    rintro e w1 ⟨rfl, B1⟩
    go_wp2_with fail
    refine (sA _).mono ?_
    rintro e w2 ⟨v, rfl, B2⟩
    have C2 := B1.trans (B2.mono B1.size)
    go_wp2_with fail
    refine (sB _).mono ?_
    rintro e w3 ⟨u, rfl, B3⟩
    have C3 := C2.trans (B3.mono C2.size)
    go_wp2_with fail
    refine (sC _).mono ?_
    rintro e w4 ⟨x, rfl, B4⟩
    have C4 := C3.trans (B4.mono C3.size)
    go_wp2_with fail
    go_ret
    exact ⟨rfl, C4⟩
  · have r1 : (na != 0) = true := by simpa using hna
    clear hn hna g1 g2 g3
    go_enter Try.func7, Try.ntmps7
    go_wp2_with fail
    refine (known_any _).mono ?_
    rintro e w1 ⟨rfl, B1⟩
    go_wp2_with fail
    refine (sA _).mono ?_
    rintro e w2 ⟨v, rfl, B2⟩
    have C2 := B1.trans (B2.mono B1.size)
    go_wp2_with fail
    refine (sB _).mono ?_
    rintro e w3 ⟨u, rfl, B3⟩
    have C3 := C2.trans (B3.mono C2.size)
    go_wp2_with fail
    refine (sC _).mono ?_
    rintro e w4 ⟨x, rfl, B4⟩
    have C4 := C3.trans (B4.mono C3.size)
    go_wp2_with fail
    go_ret
    exact ⟨rfl, C4⟩

set_option maxRecDepth 100000 in
set_option maxHeartbeats 4000000 in
theorem good_empty (a b : ByteArray) (hs : a.size + b.size ≤ 4096) (h0 : b.size = 0) (hac : accB (bt b 0) = false) (hwa : wrongI a = 0) (hwb : wrongI b = 0) (w : World) : Calls Try.prog 7 #[.string a, .string b] w fun e w' => e = .returned (.bool true) ∧ Below w.heap.size w w' := by
  have f1 : ¬ (4096 : Int) < a.size := by omega
  have f2 : ¬ (4096 : Int) - a.size < b.size := by omega
  have f4 : ¬ 9223372036854775807 < a.size + b.size := by omega
  have f5 : ¬ (9223372036854775807 : Int) < (a.size : Int) + b.size := by omega
  have f3 : ¬ (0 : Int) < b.size := by omega
  have sA := split_cls a hwa
  have sB := split_cls b hwb
  have sC := split_cls (a ++ b) (wrong_app_ok hwa hwb hs)
  have hca := cls_app a b hac
  have hnn := num_app a b hac
  have hla := num_le a
  have hlb := num_le b
  have hcl : Hid (∀ k, (h : k < num b) → (cls b)[k]'(by rw [cls_len]; exact h) = clOf b k) := fun k h => cls_get b (by rw [cls_len]; exact h)
  have hstl : Hid (∀ k, st b k ≤ b.size) := st_le b
  obtain ⟨i0, hi, hz0, hz1, hz2⟩ := info_parts info28
  clear hwa hwb hac
  go_enter Try.func7, Try.ntmps7
  go_wp2_with fail
  refine (known_any _).mono ?_
  rintro e w1 ⟨rfl, B1⟩
  go_wp2_with fail
  refine (sA _).mono ?_
  rintro e w2 ⟨v, rfl, ⟨hv, _⟩, B2⟩
  have C2 := B1.trans (B2.mono B1.size)
  go_wp2_with fail
  refine (sB _).mono ?_
  rintro e w3 ⟨u, rfl, ⟨hu, _⟩, B3⟩
  have C3 := C2.trans (B3.mono C2.size)
  go_wp2_with fail
  refine (sC _).mono ?_
  rintro e w4 ⟨x, rfl, ⟨hx, _⟩, B4⟩
  have C4 := C3.trans (B4.mono C3.size)
  have Z1 := B1.size
  have Z2 := B2.size
  have Z3 := B3.size
  have Z4 := B4.size
  have hv4 : Hid (w4.ownsRow w1.heap.size 28 3 v (num a) (flat (cls a))) := ownsRow_below (ownsRow_below hv B3) B4
  have hu4 : Hid (w4.ownsRow w2.heap.size 28 3 u (num b) (flat (partly a.size (cls b) 0))) := by rw [partly_zero]; exact ownsRow_below hu B4
  have hvb : Hid (∀ g, v.ownBlock = some g → w1.heap.size ≤ g ∧ g < w2.heap.size) := fun g hg => hv.lt g hg
  have hub : Hid (∀ g, u.ownBlock = some g → w2.heap.size ≤ g ∧ g < w3.heap.size) := fun g hg => hu.lt g hg
  have hxb : Hid (∀ g, x.ownBlock = some g → w3.heap.size ≤ g) := fun g hg => (hx.lt g hg).1
  obtain ⟨ub, ucap, rfl, hug⟩ : ∃ ub ucap, u = .slice ub (num b) ucap ∧ Hid (num b = 0 ∨ ∃ g, ub = some ⟨g, 0, none⟩) := by
    rcases hu.2 with ⟨rfl, hn⟩ | ⟨g, cap, cur, rfl, _⟩
    · exact ⟨none, 0, by rw [hn], .inl hn⟩
    · exact ⟨_, cap, rfl, .inr ⟨g, rfl⟩⟩
  have hx4 : Hid (w4.ownsRow w3.heap.size 28 3 x (num (a ++ b)) (flat (cls (a ++ b)))) := hx
  have hcll := cls_len b
  have hcla := cls_len a
  clear sA sB sC B1 B2 B3 B4 C2 C3 hv hu hx
  go_wp2_with fail
  go_loopw [12] (fun i wr => ∃ k : Nat, k ≤ num b ∧ i = .int .i64 k ∧ Below w.heap.size w wr ∧ w4.heap.size ≤ wr.heap.size ∧ Hid (wr.ownsRow w1.heap.size 28 3 v (num a) (flat (cls a))) ∧ Hid (wr.ownsRow w2.heap.size 28 3 (.slice ub (num b) ucap) (num b) (flat (partly a.size (cls b) k))) ∧ Hid (wr.ownsRow w3.heap.size 28 3 x (num (a ++ b)) (flat (cls (a ++ b))))) (fun i _ => num b - (intOf i).toNat)
  case atStart => exact ⟨0, Nat.zero_le _, rfl, C4, Nat.le_refl _, hv4, hu4, hx4⟩
  case round =>
    obtain ⟨k, hk, rfl, hb, hsz, hv, hu, hx⟩ := hrel
    clear hv4 hu4 hx4
    by_cases hlt : k < num b
    · exact absurd hlt (by omega)
    · have f6 : ¬ (k : Int) < num b := by omega
      have hu' : wr.ownsRow w2.heap.size 28 3 (.slice ub (num b) ucap) (num b) (flat ((cls b).map (shift a.size))) := by
        have := hu.out
        rwa [show k = (cls b).length by rw [cls_len]; omega, partly_all] at this
      have hsr : Hid (Srcs wr 3 (.slice ub (num b) ucap) (num b) (flat ((cls b).map (shift a.size)))) := ownsRow_srcs hu' (flat_one _)
      clear hu hu' hug hub hcl hstl
      go_wp2_with (refine wpList_append_want _ _ _ 22 rfl (by kernel_rfl) w1.heap.size 28 i0 _ 3 24 Try.underlying22 hi hz0 hz1 hz2 rfl (by decide) v (num a) (flat (cls a)) rfl (by exact hv.out) (num b) (flat ((cls b).map (shift a.size))) _ rfl (by exact hsr.out) (by unfold maxLen; omega) (by omega) (by omega) ?_; intro v' w5 hown hgrow)
      have hxo : w5.ownsRow w3.heap.size 28 3 x (num (a ++ b)) (flat (cls (a ++ b))) := by
        obtain ⟨x1, x2⟩ := hx.out
        refine ⟨x1, ?_⟩
        rcases x2 with x2 | ⟨gx, capx, curx, rfl, y1, y2, y3⟩
        · exact .inl x2
        · exact .inr ⟨gx, capx, curx, rfl, y1, (hgrow.block gx (Array.getElem?_eq_some_iff.1 y2).1 (fun e => by have := (hvb.out gx e.symm).2; omega)).trans y2, y3⟩
      have hcx := own_cls (cls_len (a ++ b)).symm hxo (by rw [cls_len, hnn]; omega)
      have hcv : ClsAt w5 v' (cls (a ++ b)) := by
        rw [hca]
        refine own_cls (n := num a + num b) (by simp [cls_len]) (by rw [flat_append]; exact hown) (by simp [cls_len]; omega)
      have B5 : Below w.heap.size w w5 := below_grown hb hv.out (Nat.le_refl _) (by omega) hgrow
      clear hxo hown hv hx hvb hxb
      refine (same_yes x v' (cls (a ++ b)) w5 hcx hcv).mono ?_
      rintro e w6 ⟨rfl, B6⟩
      go_wp2_with fail
      go_ret
      exact ⟨rfl, B5.trans (B6.mono B5.size)⟩

set_option maxRecDepth 100000 in
set_option maxHeartbeats 4000000 in
theorem good_some (a b : ByteArray) (hs : a.size + b.size ≤ 4096) (h0 : 0 < b.size) (g1 : ((b[0]'h0).toNat : Int) ≠ 94) (g2 : ((b[0]'h0).toNat : Int) ≠ 96) (g3 : ((b[0]'h0).toNat : Int) ≠ 126) (hac : accB (bt b 0) = false) (hwa : wrongI a = 0) (hwb : wrongI b = 0) (w : World) : Calls Try.prog 7 #[.string a, .string b] w fun e w' => e = .returned (.bool true) ∧ Below w.heap.size w w' := by
  have f1 : ¬ (4096 : Int) < a.size := by omega
  have f2 : ¬ (4096 : Int) - a.size < b.size := by omega
  have f4 : ¬ 9223372036854775807 < a.size + b.size := by omega
  have f5 : ¬ (9223372036854775807 : Int) < (a.size : Int) + b.size := by omega
  have q1 : (((b[0]'h0).toNat : Int) == 94) = false := by simpa using g1
  have q2 : (((b[0]'h0).toNat : Int) == 96) = false := by simpa using g2
  have q3 : (((b[0]'h0).toNat : Int) == 126) = false := by simpa using g3
  have f3 : (0 : Int) < b.size := by omega
  have sA := split_cls a hwa
  have sB := split_cls b hwb
  have sC := split_cls (a ++ b) (wrong_app_ok hwa hwb hs)
  have hca := cls_app a b hac
  have hnn := num_app a b hac
  have hla := num_le a
  have hlb := num_le b
  have hcl : Hid (∀ k, (h : k < num b) → (cls b)[k]'(by rw [cls_len]; exact h) = clOf b k) := fun k h => cls_get b (by rw [cls_len]; exact h)
  have hstl : Hid (∀ k, st b k ≤ b.size) := st_le b
  obtain ⟨i0, hi, hz0, hz1, hz2⟩ := info_parts info28
  clear hwa hwb hac g1 g2 g3
  go_enter Try.func7, Try.ntmps7
  go_wp2_with fail
  refine (known_any _).mono ?_
  rintro e w1 ⟨rfl, B1⟩
  go_wp2_with fail
  refine (sA _).mono ?_
  rintro e w2 ⟨v, rfl, ⟨hv, _⟩, B2⟩
  have C2 := B1.trans (B2.mono B1.size)
  go_wp2_with fail
  refine (sB _).mono ?_
  rintro e w3 ⟨u, rfl, ⟨hu, _⟩, B3⟩
  have C3 := C2.trans (B3.mono C2.size)
  go_wp2_with fail
  refine (sC _).mono ?_
  rintro e w4 ⟨x, rfl, ⟨hx, _⟩, B4⟩
  have C4 := C3.trans (B4.mono C3.size)
  have Z1 := B1.size
  have Z2 := B2.size
  have Z3 := B3.size
  have Z4 := B4.size
  have hv4 : Hid (w4.ownsRow w1.heap.size 28 3 v (num a) (flat (cls a))) := ownsRow_below (ownsRow_below hv B3) B4
  have hu4 : Hid (w4.ownsRow w2.heap.size 28 3 u (num b) (flat (partly a.size (cls b) 0))) := by rw [partly_zero]; exact ownsRow_below hu B4
  have hvb : Hid (∀ g, v.ownBlock = some g → w1.heap.size ≤ g ∧ g < w2.heap.size) := fun g hg => hv.lt g hg
  have hub : Hid (∀ g, u.ownBlock = some g → w2.heap.size ≤ g ∧ g < w3.heap.size) := fun g hg => hu.lt g hg
  have hxb : Hid (∀ g, x.ownBlock = some g → w3.heap.size ≤ g) := fun g hg => (hx.lt g hg).1
  obtain ⟨ub, ucap, rfl, hug⟩ : ∃ ub ucap, u = .slice ub (num b) ucap ∧ Hid (num b = 0 ∨ ∃ g, ub = some ⟨g, 0, none⟩) := by
    rcases hu.2 with ⟨rfl, hn⟩ | ⟨g, cap, cur, rfl, _⟩
    · exact ⟨none, 0, by rw [hn], .inl hn⟩
    · exact ⟨_, cap, rfl, .inr ⟨g, rfl⟩⟩
  have hx4 : Hid (w4.ownsRow w3.heap.size 28 3 x (num (a ++ b)) (flat (cls (a ++ b)))) := hx
  have hcll := cls_len b
  have hcla := cls_len a
  clear sA sB sC B1 B2 B3 B4 C2 C3 hv hu hx
  go_wp2_with fail
  go_loopw [12] (fun i wr => ∃ k : Nat, k ≤ num b ∧ i = .int .i64 k ∧ Below w.heap.size w wr ∧ w4.heap.size ≤ wr.heap.size ∧ Hid (wr.ownsRow w1.heap.size 28 3 v (num a) (flat (cls a))) ∧ Hid (wr.ownsRow w2.heap.size 28 3 (.slice ub (num b) ucap) (num b) (flat (partly a.size (cls b) k))) ∧ Hid (wr.ownsRow w3.heap.size 28 3 x (num (a ++ b)) (flat (cls (a ++ b))))) (fun i _ => num b - (intOf i).toNat)
  case atStart => exact ⟨0, Nat.zero_le _, rfl, C4, Nat.le_refl _, hv4, hu4, hx4⟩
  case round =>
    obtain ⟨k, hk, rfl, hb, hsz, hv, hu, hx⟩ := hrel
    clear hv4 hu4 hx4
    by_cases hlt : k < num b
    · rcases hug.out with h0' | ⟨g, rfl⟩
      · omega
      · have hgb := hub.out g rfl
        have hkl : k < (cls b).length := by rw [cls_len]; exact hlt
        have hpl : k < (partly a.size (cls b) k).length := by rw [partly_len _ _ (by omega)]; exact hkl
        have hrow := hu.out
        have hcs : ∀ j y, (flat (partly a.size (cls b) k))[j]? = some y → wr.cell? ⟨g, j, none⟩ = some y := fun j y hy => by
          have := hrow.cells (g := g) rfl j y hy
          rwa [addr_add0] at this
        have c0 : wr.cell? ⟨g, k * 3, none⟩ = some (.int .i64 (st b k : Nat)) := hcs (k * 3 + 0) _ (by rw [flat_get _ hpl 0 (by omega), partly_get _ _ hkl, hcl.out k hlt]; rfl)
        have c1 : wr.cell? ⟨g, k * 3 + 1, none⟩ = some (.int .i64 (st b (k + 1) : Nat)) := hcs (k * 3 + 1) _ (by rw [flat_get _ hpl 1 (by omega), partly_get _ _ hkl, hcl.out k hlt]; rfl)
        obtain ⟨g', cap', cur, e', _, hg, _, _, _, _⟩ := hrow.2.resolve_left (fun h => by cases h.1)
        have eg : g' = g := by cases e'; rfl
        subst eg
        clear e'
        have z0 : wr.frozen? ⟨g', k * 3, none⟩ = false := Lib.frozen_of_heap hg _
        have z1 : wr.frozen? ⟨g', k * 3 + 1, none⟩ = false := Lib.frozen_of_heap hg _
        have l1 := hstl.out k
        have l2 := hstl.out (k + 1)
        have hb2 : Hid (Below w.heap.size w ((wr.setCell ⟨g', k * 3, none⟩ (.int .i64 ((st b k : Int) + a.size))).setCell ⟨g', k * 3 + 1, none⟩ (.int .i64 ((st b (k + 1) : Int) + a.size)))) := (hb.setCell (p := ⟨g', k * 3, none⟩) (by show w.heap.size ≤ g'; omega) _).setCell (p := ⟨g', k * 3 + 1, none⟩) (by show w.heap.size ≤ g'; omega) _
        have hv2 : Hid (((wr.setCell ⟨g', k * 3, none⟩ (.int .i64 ((st b k : Int) + a.size))).setCell ⟨g', k * 3 + 1, none⟩ (.int .i64 ((st b (k + 1) : Int) + a.size))).ownsRow w1.heap.size 28 3 v (num a) (flat (cls a))) :=
          ownsRow_setCell_other (a := ⟨g', k * 3 + 1, none⟩) (ownsRow_setCell_other (a := ⟨g', k * 3, none⟩) hv.out (fun e => by have := (hvb.out g' e).2; omega) _) (fun e => by have := (hvb.out g' e).2; omega) _
        have hx2 : Hid (((wr.setCell ⟨g', k * 3, none⟩ (.int .i64 ((st b k : Int) + a.size))).setCell ⟨g', k * 3 + 1, none⟩ (.int .i64 ((st b (k + 1) : Int) + a.size))).ownsRow w3.heap.size 28 3 x (num (a ++ b)) (flat (cls (a ++ b)))) :=
          ownsRow_setCell_below (a := ⟨g', k * 3 + 1, none⟩) (ownsRow_setCell_below (a := ⟨g', k * 3, none⟩) hx.out hgb.2 _) hgb.2 _
        have hu2 : Hid (((wr.setCell ⟨g', k * 3, none⟩ (.int .i64 ((st b k : Int) + a.size))).setCell ⟨g', k * 3 + 1, none⟩ (.int .i64 ((st b (k + 1) : Int) + a.size))).ownsRow w2.heap.size 28 3 (.slice (some ⟨g', 0, none⟩) (num b) ucap) (num b) (flat (partly a.size (cls b) (k + 1)))) := by
          have := ownsRow_set (ownsRow_set hrow (k * 3) (.int .i64 ((st b k : Int) + a.size))) (k * 3 + 1) (.int .i64 ((st b (k + 1) : Int) + a.size))
          have e3 := flat_set (partly a.size (cls b) k) hpl (shift a.size (cls b)[k]) (by rw [partly_get _ _ hkl]; rfl)
          rw [partly_set _ _ hkl] at e3
          rw [hcl.out k hlt] at e3
          show World.ownsRow _ _ _ _ _ _ _
          rw [← e3]
          exact this
        have f6 : (k : Int) < num b := by omega
        have c1' : (wr.setCell ⟨g', k * 3, none⟩ (.int .i64 ((st b k : Int) + a.size))).cell? ⟨g', k * 3 + 1, none⟩ = some (.int .i64 (st b (k + 1) : Nat)) := by
          rw [Lib.cell_of_heap (heap_setCell_same wr g' (k * 3) cur 28 _ hg), Array.getElem?_setIfInBounds_ne (by omega), ← Lib.cell_of_heap hg]; exact c1
        have z1' : (wr.setCell ⟨g', k * 3, none⟩ (.int .i64 ((st b k : Int) + a.size))).frozen? ⟨g', k * 3 + 1, none⟩ = false := Lib.frozen_of_heap (heap_setCell_same wr g' (k * 3) cur 28 _ hg) _
        have hszn : Hid (w4.heap.size ≤ ((wr.setCell ⟨g', k * 3, none⟩ (.int .i64 ((st b k : Int) + a.size))).setCell ⟨g', k * 3 + 1, none⟩ (.int .i64 ((st b (k + 1) : Int) + a.size))).heap.size) := by show _ ≤ _; simpa using hsz
        clear hcs hrow hg hv hu hx hkl hpl hug hub hvb hcl hstl hca hcll
        generalize st b k = p at *
        generalize st b (k + 1) = q at *
        go_wp2_with fail
        go_roundw
        case rel => exact ⟨k + 1, by omega, by simp, hb2.out, hszn.out, hv2, hu2, hx2⟩
        case measure => simp [intOf]; omega
    · have f6 : ¬ (k : Int) < num b := by omega
      have hu' : wr.ownsRow w2.heap.size 28 3 (.slice ub (num b) ucap) (num b) (flat ((cls b).map (shift a.size))) := by
        have := hu.out
        rwa [show k = (cls b).length by rw [cls_len]; omega, partly_all] at this
      have hsr : Hid (Srcs wr 3 (.slice ub (num b) ucap) (num b) (flat ((cls b).map (shift a.size)))) := ownsRow_srcs hu' (flat_one _)
      clear hu hu' hug hub hcl hstl
      go_wp2_with (refine wpList_append_want _ _ _ 22 rfl (by kernel_rfl) w1.heap.size 28 i0 _ 3 24 Try.underlying22 hi hz0 hz1 hz2 rfl (by decide) v (num a) (flat (cls a)) rfl (by exact hv.out) (num b) (flat ((cls b).map (shift a.size))) _ rfl (by exact hsr.out) (by unfold maxLen; omega) (by omega) (by omega) ?_; intro v' w5 hown hgrow)
      have hxo : w5.ownsRow w3.heap.size 28 3 x (num (a ++ b)) (flat (cls (a ++ b))) := by
        obtain ⟨x1, x2⟩ := hx.out
        refine ⟨x1, ?_⟩
        rcases x2 with x2 | ⟨gx, capx, curx, rfl, y1, y2, y3⟩
        · exact .inl x2
        · exact .inr ⟨gx, capx, curx, rfl, y1, (hgrow.block gx (Array.getElem?_eq_some_iff.1 y2).1 (fun e => by have := (hvb.out gx e.symm).2; omega)).trans y2, y3⟩
      have hcx := own_cls (cls_len (a ++ b)).symm hxo (by rw [cls_len, hnn]; omega)
      have hcv : ClsAt w5 v' (cls (a ++ b)) := by
        rw [hca]
        refine own_cls (n := num a + num b) (by simp [cls_len]) (by rw [flat_append]; exact hown) (by simp [cls_len]; omega)
      have B5 : Below w.heap.size w w5 := below_grown hb hv.out (Nat.le_refl _) (by omega) hgrow
      clear hxo hown hv hx hvb hxb
      refine (same_yes x v' (cls (a ++ b)) w5 hcx hcv).mono ?_
      rintro e w6 ⟨rfl, B6⟩
      go_wp2_with fail
      go_ret
      exact ⟨rfl, B5.trans (B6.mono B5.size)⟩

theorem split_any (t : ByteArray) (w : World) : Calls Try.prog 8 #[.string t] w fun e w' => ∃ v, e = .returned (.tuple #[v, .int .i64 (wrongI t)]) ∧ Below w.heap.size w w' := by
  by_cases h : wrongI t = 0
  · rw [h]
    refine (split_cls t h w).mono ?_
    rintro e w' ⟨v, rfl, _, hb⟩
    exact ⟨v, rfl, hb⟩
  · refine (eq_below (split_no t h w)).mono ?_
    rintro e w' ⟨rfl, hb⟩
    exact ⟨_, rfl, hb⟩

theorem walk (a : ByteArray) (ha : a.size ≤ maxLen) (b : ByteArray) (w : World) : Calls Try.prog 7 #[.string a, .string b] w fun e w' => e = .returned (.bool true) ∧ Below w.heap.size w w' := by
  by_cases h1 : 4096 < a.size ∨ 4096 < a.size + b.size
  · exact walk_long a b ha h1 w
  have hs : a.size + b.size ≤ 4096 := by omega
  cases hac : accB (bt b 0)
  · by_cases hw : wrongI a = 0 ∧ wrongI b = 0
    · by_cases h0 : 0 < b.size
      · have hac2 := hac
        rw [bt_eq h0] at hac2
        have hc := of_decide_eq_false hac2
        exact good_some a b hs h0 (fun h => hc (.inl h)) (fun h => hc (.inr (.inl h))) (fun h => hc (.inr (.inr h))) hac hw.1 hw.2 w
      · exact good_empty a b hs (by omega) hac hw.1 hw.2 w
    · have hn : wrongI a ≠ 0 ∨ wrongI b ≠ 0 := by
        by_cases h : wrongI a = 0
        · exact .inr (fun h' => hw ⟨h, h'⟩)
        · exact .inl h
      have hC := fun w => split_any (a ++ b) w
      rw [wrong_app_no hn hs] at hC
      by_cases h0 : 0 < b.size
      · rw [bt_eq h0] at hac
        have hc := of_decide_eq_false hac
        exact bad_some a b hs h0 (fun h => hc (.inl h)) (fun h => hc (.inr (.inl h))) (fun h => hc (.inr (.inr h))) _ _ hn (split_any a) (split_any b) hC w
      · exact bad_empty a b hs (by omega) _ _ hn (split_any a) (split_any b) hC w
  · exact walk_acc a b hs hac w

set_option maxRecDepth 100000 in
theorem lifted (os : Os) (started : os.Started) (H : Type) (enc : TypeId × Value → H) :
    ReturnsInHanded {} Try.checked os 7 .any (Rows.clusterPartsSpec.pre6 enc Try.prog Try.f7 Rows.clusterPartsRow.domain false) (Rows.clusterPartsSpec.post enc Try.prog Try.f7 false true false false) := by
  refine returnsInHanded_of_change (C := Try.checked) own started (by kernel_rfl) Try.func7
    (ChangeSpec.witness6 (enc := enc) (C := Try.checked) false ⟨#[], #[.string ByteArray.empty, .string ByteArray.empty], []⟩ 8 (by kernel_rfl) (by kernel_rfl) (by kernel_rfl) (by kernel_rfl)) ?_
  intro W base args ds gs before hval0 hW hcnd _
  have hval : ∀ (j : Nat) t v, Try.f7.params[j]? = some t → args[j]? = some v → Value.okWide Try.prog W .any base t v := hval0
  have hW' := hW
  obtain ⟨p, q, hA0, hV, rfl, hfz, hnd⟩ := hW
  have hA : DataW.TrodAll enc Try.prog W 0 (fun _ => true) true Try.f7.params.toList args.toList ds p := hA0
  rw [Try.params7] at hA hval
  obtain ⟨v0, vs0, d0, ds0, p0, q0, hargs, rfl, rfl, h0, r0⟩ := trodAll_cons hA
  obtain ⟨v1, vs1, d1, ds1, p1, q1, rfl, rfl, rfl, h1, r1⟩ := trodAll_cons r0
  obtain ⟨rfl, rfl, rfl⟩ := trodAll_nil r1
  obtain rfl : args = #[v0, v1] := by cases args; simp_all
  obtain ⟨rfl, rfl⟩ := trodVars_none hV
  obtain ⟨a0, rfl, rfl, rfl, w0⟩ := open_string Try.underlying9 (hval 0 9 v0 rfl rfl) h0
  obtain ⟨a1, rfl, rfl, rfl, w1⟩ := open_string Try.underlying9 (hval 1 9 v1 rfl rfl) h1
  clear hA0 hval0
  simp only [List.append_nil] at hW'
  refine (walk a0 w0 a1 W).mono fun e W' ⟨he, hg⟩ => ?_
  subst he
  exact ⟨_, rfl, _, _, _, [], [], [], hW', trodAll_mk1 (shut_bool Try.underlying4 _), (trodAll_cons_mk (shut_string Try.underlying9 w0) (trodAll_cons_mk (shut_string Try.underlying9 w1) trodAll_mk0)), rfl, hg.frame _, fun h => by cases h⟩

theorem over : Rows.clusterPartsRow.holds Try.pinned (OpenSpec.ofChange Rows.clusterPartsSpec) :=
  OpenClaim.holds_of_wide 7 Try.f7 rfl rfl rfl rfl rfl rfl rfl ⟨rfl, rfl, rfl, rfl, rfl⟩ rfl rfl rfl rfl rfl (by kernel_rfl) Try.func7 (by kernel_rfl)
    (of_decide_eq_true (by kernel_rfl)) (by unfold Func.isWrapper; first | (rw [if_pos (by decide +kernel)]; kernel_rfl) | (rw [if_neg (by decide +kernel)]; exact ⟨rfl, rfl⟩))
    (fun os started H enc _ => lifted os started H enc)

end Go.Proofs.Ytjmcfdmonckhmaa.clusterParts
namespace Go.Proofs.Ytjmcfdmonckhmaa

theorem clusterParts_holds : Rows.ClusterPartsSaid := clusterParts.over

end Go.Proofs.Ytjmcfdmonckhmaa
