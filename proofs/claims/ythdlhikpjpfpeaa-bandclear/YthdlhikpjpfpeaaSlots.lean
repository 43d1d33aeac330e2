/-
  What is proved here: which slots lines have.
-/
import Derived.Test.YthdlhikpjpfpeaaSlot
import Derived.Test.YthdlhikpjpfpeaaCheck
namespace Go.Proofs.Ythdlhikpjpfpeaa
open Go.RowKit Go.Shelf

/-- What Slots answers. -/
def SlEnd (n : Int) (l : List Bd) (y p m : Int) (w : World) (e : Ending) (w' : World) : Prop := Below w.heap.size w w' ∧ ∃ v, e = .returned (.tuple #[v, .int .i64 (slsE n l y p m)]) ∧ RecAt 2 slL w' v (slsL n l y p m)
theorem slsE_no {n : Int} {l : List Bd} {y p m : Int} (h : ckI l ≠ 0) : slsE n l y p m = ckI l := if_neg h
theorem slsE_out {n : Int} {l : List Bd} {y p m : Int} (h : ckI l = 0) (h' : ¬ (inB n = true ∧ inB y = true ∧ (1 ≤ p ∧ p ≤ 255) ∧ (0 ≤ m ∧ m ≤ 256))) : slsE n l y p m = 5 := (if_pos h).trans (if_neg h')
theorem slsE_in {n : Int} {l : List Bd} {y p m : Int} (h : ckI l = 0) (h' : inB n = true ∧ inB y = true ∧ (1 ≤ p ∧ p ≤ 255) ∧ (0 ≤ m ∧ m ≤ 256)) : slsE n l y p m = 0 := (if_pos h).trans (if_pos h')
theorem slEnd_err {n : Int} {l : List Bd} {y p m : Int} {w w' : World} (h : slsE n l y p m ≠ 0) (hb : Below w.heap.size w w') {x : Int} (hx : x = slsE n l y p m) : SlEnd n l y p m w (.returned (.tuple #[.slice none 0 0, .int .i64 x])) w' := by
  subst hx
  refine ⟨hb, _, rfl, ?_⟩
  unfold slsL
  rw [if_neg h]
  exact RecAt.nil _ _
def slF (n : Int) (l : List Bd) (y p : Int) (i : Nat) : Sl := sloS n l (y + (i : Nat) * p) p
theorem slsL_ok {n : Int} {l : List Bd} {y p : Int} {m : Nat} (h : slsE n l y p m = 0) : slsL n l y p m = (List.range m).map (slF n l y p) := by
  unfold slsL
  rw [if_pos h, Int.toNat_natCast]; rfl
theorem mul_rng {k p : Int} (hk : 0 ≤ k) (hk' : k < 256) (hp : 1 ≤ p) (hp' : p ≤ 255) : 0 ≤ k * p ∧ k * p ≤ 65025 :=
  ⟨Int.mul_nonneg hk (by omega), by
    have := Int.mul_le_mul (a := k) (b := p) (c := 255) (d := 255) (by omega) hp' (by omega) (by omega)
    omega⟩
/-- N records, the first k of them told. -/
def inK (f : Nat → Sl) (N k : Nat) : List Sl := (List.range N).map fun i => if i < k then f i else sl0
theorem inK_len (f : Nat → Sl) (N k : Nat) : (inK f N k).length = N := by simp [inK]
theorem inK_zero (f : Nat → Sl) (N : Nat) : inK f N 0 = List.replicate N sl0 := by
  apply List.ext_getElem
  · simp [inK]
  · intro i h1 h2; simp [inK]
theorem inK_all (f : Nat → Sl) (N : Nat) : inK f N N = (List.range N).map f := by
  apply List.ext_getElem
  · simp [inK]
  · intro i h1 h2
    have : i < N := by simpa [inK] using h1
    simp [inK, this]
theorem inK_set {f : Nat → Sl} {N k : Nat} : (inK f N k).set k (f k) = inK f N (k + 1) := by
  apply List.ext_getElem
  · simp [inK]
  · intro i h1 h2
    have hi : i < N := by simpa [inK] using h1
    rw [List.getElem_set]
    simp only [inK, List.getElem_map, List.getElem_range]
    split
    · rename_i e; subst e; rw [if_pos (by omega)]
    · split
      · rw [if_pos (by omega)]
      · rw [if_neg (by omega)]
theorem info43z : ∃ i z, Try.prog.info? 43 = some i ∧ i.zero = some z ∧ i.size = 2 ∧ i.bytes = 16 ∧ z = .agg (slL sl0).toArray := by
  have h : (Try.prog.info? 43).map (fun i => (i.zero, i.size, i.bytes)) = some (some (.agg (slL sl0).toArray), 2, 16) := by kernel_rfl
  cases hi : Try.prog.info? 43 with
  | none => rw [hi] at h; cases h
  | some i =>
    rw [hi] at h
    simp only [Option.map_some, Option.some.injEq, Prod.mk.injEq] at h
    obtain ⟨h1, h2, h3⟩ := h
    exact ⟨i, _, rfl, h1, h2, h3, rfl⟩
theorem make23 {n : Nat} (h : n ≤ 256) (W : World) : (Instr.makeSlice 23 (.int .i64 (n : Int)) (.int .i64 (n : Int))).run Try.prog W = .ok (.slice (some ⟨W.heap.size, 0, none⟩) n n) (W.alloc (.cells ((List.replicate n sl0).flatMap slL).toArray 43)) := by
  obtain ⟨i9, z, hi, hz0, hz1, hz2, rfl⟩ := info43z
  have := run_makeSlice (P := Try.prog) (w := W) 23 43 i9 _ Try.underlying23 hi hz0 .i64 .i64 n n (by omega) (by omega) (by rw [hz1]; omega) (by rw [hz2]; omega) (by omega)
  rw [hz1, Int.toNat_natCast] at this
  rw [← made_rec slL_len (by omega)]
  exact this
theorem made23 (W : World) (n : Nat) : RB 2 slL (W.alloc (.cells ((List.replicate n sl0).flatMap slL).toArray 43)) W.heap.size (List.replicate n sl0) :=
  RB.of_row (World.alloc_heap_new W _) fun i hi j v hv => by
    have hj : j < 2 := by have := (List.getElem?_eq_some_iff.1 hv).1; rw [slL_len] at this; exact this
    have := fm_get slL_len (List.replicate n sl0) hi j hj
    rw [hv] at this
    simpa using this
set_option maxRecDepth 100000 in
set_option maxHeartbeats 600000 in
theorem slots7_ok (v : Value) (l : List Bd) (n y p m : Int) (h0 : ckI l = 0) (hin : inB n = true ∧ inB y = true ∧ (1 ≤ p ∧ p ≤ 255) ∧ (0 ≤ m ∧ m ≤ 256)) (w : World) (hS : RecAt 4 bdL w v l) :
    Calls Try.prog 7 #[.int .i64 n, v, .int .i64 y, .int .i64 p, .int .i64 m] w (SlEnd n l y p m w) := by
  obtain ⟨d1, d2, ⟨p1, p2⟩, ⟨m1, m2⟩⟩ := hin
  have he := slsE_in h0 ⟨d1, d2, ⟨p1, p2⟩, ⟨m1, m2⟩⟩
  have hok := ckI_ok h0
  have hn := reaches_any n
  have hy := reaches_any y
  rw [d1] at hn
  rw [d2] at hy
  have hy' := inB_get d2
  have hsl : Hid (∀ (k : Nat) W, k < 256 → Below w.heap.size w W → Calls Try.prog 21 #[.int .i64 n, v, .int .i64 (y + (k : Nat) * p), .int .i64 p] W fun e w' => e = .returned (.agg (slC (slF n l y p k))) ∧ Below W.heap.size W w') := fun k W hk hW => by
    have := mul_rng (k := (k : Nat)) (p := p) (by omega) (by omega) p1 p2
    exact slot_any v l n (y + (k : Nat) * p) p hok d1 (by omega) ⟨p1, p2⟩ W (hS.below hW (Nat.le_refl _))
  have hck : ∀ W, Below w.heap.size w W → Calls Try.prog 11 #[v] W fun e w' => e = .returned (.int .i64 0) ∧ Below W.heap.size W w' := fun W hW => by
    have := check_any v l (by have := hok.1; omega) W (hS.below hW (Nat.le_refl _))
    rwa [h0] at this
  obtain ⟨a, cap, rfl, -⟩ := hS.ex
  obtain ⟨N, rfl⟩ : ∃ N : Nat, m = (N : Nat) := ⟨m.toNat, by omega⟩
  have hN : N ≤ 256 := by omega
  have hend : Hid (∀ W u, Below w.heap.size w W → RecAt 2 slL W u ((List.range N).map (slF n l y p)) → SlEnd n l y p N w (.returned (.tuple #[u, .int .i64 0])) W) := fun W u hW hu => ⟨hW, u, by rw [he], by rw [slsL_ok he]; exact hu⟩
  have hmk : ∀ k : Nat, k < 256 → 0 ≤ (k : Int) * p ∧ (k : Int) * p ≤ 65025 := fun k hk => mul_rng (by omega) (by omega) p1 p2
  obtain ⟨y1, y2⟩ := hy'
  clear hS hok h0 he d1 d2
  generalize SlEnd n l y p N w = E at *
  generalize slF n l y p = F at *
  go_enter Try.func7, Try.ntmps7
  have hmks := fun W => make23 hN W
  go_wp2_with (first | (go_at_call 11; refine (hck _ (Below.refl _ _)).mono ?_; rintro e w1 ⟨rfl, b1⟩; clear hck; have hm1 := hmks w1) | (go_at_call 20; (first | with_reducible refine (hn _).mono ?_ | with_reducible refine (hy _).mono ?_); rintro e w' ⟨rfl, hw⟩; subst w'))
  have hI0 : Hid (Below w1.heap.size w1 (w1.alloc (.cells ((List.replicate N sl0).flatMap slL).toArray 43)) ∧ RB 2 slL (w1.alloc (.cells ((List.replicate N sl0).flatMap slL).toArray 43)) w1.heap.size (inK F N 0)) := ⟨(Below.refl _ _).alloc (Nat.le_refl _) _, by rw [inK_zero]; exact made23 w1 N⟩
  clear hm1 hmks hn hy
  go_loopw [48] (fun i wr => ∃ k : Nat, k ≤ N ∧ i = .int .i64 k ∧ Hid (Below w1.heap.size w1 wr ∧ RB 2 slL wr w1.heap.size (inK F N k))) (fun i _ => N - (intOf i).toNat)
  case atStart => exact ⟨0, by omega, rfl, hI0⟩
  case round =>
    obtain ⟨k, hk, rfl, hI⟩ := hrel
    clear hI0
    by_cases hlt : k < N
    · have hlt' : (k : Int) < (N : Int) := by omega
      obtain ⟨q1, q2⟩ := hmk k (by omega)
      have hs1 : Hid (Calls Try.prog 21 #[.int .i64 n, .slice a l.length cap, .int .i64 (y + (k : Nat) * p), .int .i64 p] wr fun e w' => e = .returned (.agg (slC (F k))) ∧ Below wr.heap.size wr w') := hsl.out k wr (by omega) (b1.trans (hI.out.1.mono b1.size))
      have hst : Hid (∀ W, RB 2 slL W w1.heap.size (inK F N k) → RB 2 slL (W.setCells w1.heap.size (k * 2) (slL (F k))) w1.heap.size (inK F N (k + 1))) := fun W h => by
        have h9 := h.set slL_len (p := k) (by rw [inK_len]; exact hlt) (F k)
        rw [inK_set] at h9
        exact h9
      have hth : Hid (∀ W, RB 2 slL W w1.heap.size (inK F N k) → W.there w1.heap.size (k * 2) 2) := fun W h => h.there slL_len (by rw [inK_len]; exact hlt)
      clear hsl hend hmk
      generalize hFk : F k = x at *
      go_wp2_with (first | (go_at_call 21; refine hs1.out.mono ?_; rintro e w5 ⟨rfl, hb5⟩; have hI5 : Hid (Below w1.heap.size w1 w5 ∧ RB 2 slL w5 w1.heap.size (inK F N k)) := ⟨hI.out.1.trans (hb5.mono hI.out.1.size), hI.out.2.below hb5 hI.out.2.lt⟩; clear hb5 hI hs1) | (refine wpList_store_mid rfl 43 _ _ rfl w1.heap.size (k * 2) (slC x) rfl rfl (hth.out w5 hI5.out.2) (info43 _) (slC_one _) ?_))
      refine ⟨⟨k + 1, by omega, by simp, ?_, hst.out _ hI5.out.2⟩, by simp [intOf]; omega⟩
      exact hI5.out.1.trans ((turns_setCells (X := fun j => j = w1.heap.size) rfl _ _ _).below hI5.out.1.size (fun j hj => by omega))
    · obtain rfl : k = N := by omega
      have hge : ¬ (k : Int) < (k : Int) := by omega
      clear hsl hmk
      go_wp2_with fail
      refine hend.out _ _ (b1.trans (hI.out.1.mono b1.size)) ?_
      have h2 := hI.out.2.recs (n := k) (cap := k) (by rw [inK_len]; exact Nat.le_refl _) (Nat.le_refl _)
      rw [inK_all, List.take_of_length_le (by simp)] at h2
      exact h2
set_option maxRecDepth 100000 in
set_option maxHeartbeats 600000 in
theorem slots_any (v : Value) (l : List Bd) (n y p m : Int) (hl : l.length ≤ 9223372036854775807) (w : World) (hS : RecAt 4 bdL w v l) :
    Calls Try.prog 7 #[.int .i64 n, v, .int .i64 y, .int .i64 p, .int .i64 m] w (SlEnd n l y p m w) := by
  have hck : ∀ W, Below w.heap.size w W → Calls Try.prog 11 #[v] W fun e w' => e = .returned (.int .i64 (ckI l)) ∧ Below W.heap.size W w' := fun W hW => check_any v l hl W (hS.below hW (Nat.le_refl _))
  have hn := reaches_any n
  have hy := reaches_any y
  obtain ⟨a, cap, rfl, -⟩ := hS.ex
  by_cases h0 : ckI l = 0
  · rw [h0] at hck
    by_cases hin : inB n = true ∧ inB y = true ∧ (1 ≤ p ∧ p ≤ 255) ∧ (0 ≤ m ∧ m ≤ 256)
    · exact slots7_ok _ l n y p m h0 hin w hS
    · have he := slsE_out h0 hin
      have hend : Hid (∀ W, Below w.heap.size w W → SlEnd n l y p m w (.returned (.tuple #[.slice none 0 0, .int .i64 5])) W) := fun W hW => slEnd_err (by omega) hW he.symm
      clear hS h0 he
      generalize SlEnd n l y p m w = E at *
      rcases d1 : inB n with _ | _
      · rw [d1] at hn
        clear hin d1
        go_enter Try.func7, Try.ntmps7
        go_wp2_with (first | (go_at_call 11; refine (hck _ (Below.refl _ _)).mono ?_; rintro e w1 ⟨rfl, b1⟩) | (go_at_call 20; (first | with_reducible refine (hn _).mono ?_ | with_reducible refine (hy _).mono ?_); rintro e w' ⟨rfl, hw⟩; subst w'))
        exact hend.out _ b1
      rcases d2 : inB y with _ | _
      · rw [d1] at hn
        rw [d2] at hy
        clear hin d1 d2
        go_enter Try.func7, Try.ntmps7
        go_wp2_with (first | (go_at_call 11; refine (hck _ (Below.refl _ _)).mono ?_; rintro e w1 ⟨rfl, b1⟩) | (go_at_call 20; (first | with_reducible refine (hn _).mono ?_ | with_reducible refine (hy _).mono ?_); rintro e w' ⟨rfl, hw⟩; subst w'))
        exact hend.out _ b1
      rw [d1] at hn
      rw [d2] at hy
      have hq : ¬ ((1 ≤ p ∧ p ≤ 255) ∧ (0 ≤ m ∧ m ≤ 256)) := fun h => hin ⟨d1, d2, h⟩
      clear hin d1 d2
      by_cases q1 : p < 1
      · clear hq
        go_enter Try.func7, Try.ntmps7
        go_wp2_with (first | (go_at_call 11; refine (hck _ (Below.refl _ _)).mono ?_; rintro e w1 ⟨rfl, b1⟩) | (go_at_call 20; (first | with_reducible refine (hn _).mono ?_ | with_reducible refine (hy _).mono ?_); rintro e w' ⟨rfl, hw⟩; subst w'))
        exact hend.out _ b1
      by_cases q2 : 255 < p
      · clear hq
        go_enter Try.func7, Try.ntmps7
        go_wp2_with (first | (go_at_call 11; refine (hck _ (Below.refl _ _)).mono ?_; rintro e w1 ⟨rfl, b1⟩) | (go_at_call 20; (first | with_reducible refine (hn _).mono ?_ | with_reducible refine (hy _).mono ?_); rintro e w' ⟨rfl, hw⟩; subst w'))
        exact hend.out _ b1
      by_cases q3 : m < 0
      · clear hq
        go_enter Try.func7, Try.ntmps7
        go_wp2_with (first | (go_at_call 11; refine (hck _ (Below.refl _ _)).mono ?_; rintro e w1 ⟨rfl, b1⟩) | (go_at_call 20; (first | with_reducible refine (hn _).mono ?_ | with_reducible refine (hy _).mono ?_); rintro e w' ⟨rfl, hw⟩; subst w'))
        exact hend.out _ b1
      have q4 : 256 < m := by omega
      clear hq
      go_enter Try.func7, Try.ntmps7
      go_wp2_with (first | (go_at_call 11; refine (hck _ (Below.refl _ _)).mono ?_; rintro e w1 ⟨rfl, b1⟩) | (go_at_call 20; (first | with_reducible refine (hn _).mono ?_ | with_reducible refine (hy _).mono ?_); rintro e w' ⟨rfl, hw⟩; subst w'))
      exact hend.out _ b1
  · have hend : Hid (∀ W, Below w.heap.size w W → SlEnd n l y p m w (.returned (.tuple #[.slice none 0 0, .int .i64 (ckI l)])) W) := fun W hW => slEnd_err (by rw [slsE_no h0]; exact h0) hW (slsE_no h0).symm
    have h0' : (ckI l == 0) = false := by simpa using h0
    clear hS h0
    generalize SlEnd n l y p m w = E at *
    generalize ckI l = z at *
    go_enter Try.func7, Try.ntmps7
    go_wp2_with (first | (go_at_call 11; refine (hck _ (Below.refl _ _)).mono ?_; rintro e w1 ⟨rfl, b1⟩) | (go_at_call 20; (first | with_reducible refine (hn _).mono ?_ | with_reducible refine (hy _).mono ?_); rintro e w' ⟨rfl, hw⟩; subst w'))
    exact hend.out _ b1

end Go.Proofs.Ythdlhikpjpfpeaa
