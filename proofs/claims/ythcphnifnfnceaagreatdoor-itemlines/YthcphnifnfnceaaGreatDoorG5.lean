/-
  What is proved here: what shown, Give, Width and Leaps of item answer of any list.
  What is proved here: what Width, Give and Leaps of item answer of any list.
  What is proved here: what Leaps of item and the document's Leaps, Begin, Ends, Trim answer of any list.
-/
import Derived.Test.YthcphnifnfnceaaGreatDoorG4
namespace Go.Proofs.YthcphnifnfnceaaGreatDoor
open Go.RowKit Go.Shelf

theorem slice29 (a : Option Addr) (n cap f t : Nat) (W : World) (h1 : f ≤ t) (h2 : t ≤ cap) : ∃ a', (Instr.slice 29 (.slice a n cap) (some (.int .i64 (f : Int))) (some (.int .i64 (t : Int))) none).run Tryz.prog W = .ok (.slice a' (t - f) (cap - f)) W ∧ (∀ b o, a = some ⟨b, o, none⟩ → f < t → a' = some ⟨b, o + f * 8, none⟩) := by
  have he : Tryz.prog.elem 29 = 51 := by kernel_rfl
  have hu : Tryz.prog.underlying 29 = some (.slice (Tryz.prog.elem 29)) := by rw [he]; exact Tryz.underlying29
  have hr := run_slice_lh (P := Tryz.prog) (w := W) 29 a n cap hu .i64 .i64 f t (by omega) (by omega) (by omega)
  have hs : (sizeOf (Tryz.prog.elem 29)).run Tryz.prog W = .ok 8 W := by kernel_rfl
  rw [hs] at hr
  simp only [Result.andThen, sliced, Int.toNat_natCast] at hr
  refine ⟨_, hr, fun b o e hlt => ?_⟩
  rw [if_neg (by omega), e]
  simp [addr_add]
def subL (l : List It) (f t : Nat) : List It := (l.drop f).take (t - f)
theorem sub_len {l : List It} {f t : Nat} (h : t ≤ l.length) : (subL l f t).length = t - f := by unfold subL; rw [List.length_take, List.length_drop]; omega
theorem sub_at {l : List It} {f t i : Nat} (_h : t ≤ l.length) (hi : f + i < t) : itAt (subL l f t) i = itAt l (f + i) := by
  unfold itAt subL
  rw [List.getD_eq_getElem?_getD, List.getD_eq_getElem?_getD, List.getElem?_take_of_lt (by omega), List.getElem?_drop]
theorem sub_its {W : World} {a : Option Addr} {n cap : Nat} {l : List It} (h : ItsAt W (.slice a n cap) l) {f t : Nat} (hft : f ≤ t) (ht : t ≤ l.length) {a' : Option Addr} (ha : ∀ b o, a = some ⟨b, o, none⟩ → f < t → a' = some ⟨b, o + f * 8, none⟩) :
    ItsAt W (.slice a' (t - f) (cap - f)) (subL l f t) := by
  have hle := h.le _ _ _ rfl
  obtain ⟨a0, cap0, h1, h2⟩ := h.ex
  cases h1
  refine ⟨⟨a', cap - f, by rw [sub_len ht], ?_⟩, fun _ _ _ e => by cases e; omega⟩
  rcases h2 with h2 | ⟨b, o, rfl, hb, hc⟩
  · left; subst h2; simp [subL]
  · by_cases hlt : f < t
    · refine .inr ⟨b, o + f * 8, ha b o rfl hlt, hb, fun i hi j u hu => ?_⟩
      rw [sub_len ht] at hi
      have e : (subL l f t)[i]'(by rw [sub_len ht]; exact hi) = l[f + i]'(by omega) := by
        rw [← itAt_is, sub_at ht (by omega), itAt_is]
      rw [e] at hu
      have := hc (f + i) (by omega) j u hu
      rw [← this]
      congr 2
      rw [Nat.add_mul]; omega
    · left
      apply List.eq_nil_of_length_eq_zero
      rw [sub_len ht]; omega
theorem take_its {W : World} {a : Option Addr} {n cap : Nat} {l : List It} (h : ItsAt W (.slice a n cap) l) {m : Nat} (hm : m ≤ l.length) {a' : Option Addr} (ha : 0 < m → a' = a) : ItsAt W (.slice a' m cap) (l.take m) := by
  have hle := h.le _ _ _ rfl
  obtain ⟨a0, cap0, h1, h2⟩ := h.ex
  cases h1
  have hl : (l.take m).length = m := by rw [List.length_take]; omega
  refine ⟨⟨a', cap, by rw [hl], ?_⟩, fun _ _ _ e => by cases e; omega⟩
  rcases h2 with h2 | ⟨b, o, rfl, hb, hc⟩
  · left; subst h2; simp
  · by_cases h0 : 0 < m
    · refine .inr ⟨b, o, ha h0, hb, fun i hi j u hu => ?_⟩
      rw [List.getElem_take] at hu
      exact hc i (by omega) j u hu
    · left
      apply List.eq_nil_of_length_eq_zero
      rw [hl]; omega

set_option maxRecDepth 100000 in
set_option maxHeartbeats 2000000 in
theorem shown_any (v : Value) (l : List It) (h8 : l.length ≤ 8192) (w : World) (hS : ItsAt w v l) :
    Calls Tryz.prog 50 #[v] w fun e w' => (∃ a' cap, e = .returned (.slice a' (shN l 0 l.length) cap) ∧ ItsAt w (.slice a' (shN l 0 l.length) cap) (l.take (shN l 0 l.length))) ∧ w' = w := by
  obtain ⟨a, cap, rfl, h2⟩ := hS.ex
  have hle := hS.le _ _ _ rfl
  have hE : Hid (∀ (m : Nat), shN l 0 l.length = m → m ≤ l.length → (∃ a' cap', Ending.returned (.slice a m cap) = .returned (.slice a' (shN l 0 l.length) cap') ∧ ItsAt w (.slice a' (shN l 0 l.length) cap') (l.take (shN l 0 l.length))) ∧ w = w) := fun m hm hml => by
    subst hm
    exact ⟨⟨a, cap, rfl, take_its hS hml (fun _ => rfl)⟩, rfl⟩
  generalize hs : shN l 0 l.length = R at *
  have hs' : Hid (shN l 0 l.length = R) := hs
  clear hs
  have hk : Hid (∀ i, i < l.length → ∃ b o, a = some ⟨b, o, none⟩ ∧ w.cell? ⟨b, o + i * 8, none⟩ = some (.int .i64 (itAt l i).k)) := fun i hlt => by
      obtain ⟨b, o, e, _, h⟩ := its_kind hS hlt (Below.refl _ _)
      exact ⟨b, o, e, h⟩
  clear hS h2
  go_enter Tryz.func50, Tryz.ntmps50
  go_wp2_with fail
  go_loopw [0] (fun p wr => ∃ k : Nat, k ≤ l.length ∧ p = .slice a k cap ∧ wr = w ∧ Hid (shN l 0 k = R)) (fun p _ => match p with | .slice _ n _ => n | _ => 0)
  case atStart => exact ⟨l.length, by omega, rfl, rfl, hs'⟩
  case round =>
    obtain ⟨k, hk1, rfl, rfl, hr⟩ := hrel
    by_cases h0 : k = 0
    · have e : R = 0 := by rw [← hr.out, h0]; rfl
      subst e
      subst h0
      have hE' := hE.out 0 rfl (by omega)
      clear hr hk hs' hE
      go_wp2_with fail
      go_ret
      exact ⟨hE'.1, rfl⟩
    · have h0' : (0 : Int) < k := by omega
      have h1' : (1 : Int) ≤ k := by omega
      have h8' : (k : Int) ≤ 8192 := by omega
      have hcap' : (k : Int) ≤ cap := by omega
      have hkm : (k : Int) - 1 < k := by omega
      obtain ⟨b, o, rfl, c0⟩ := hk.out (k - 1) (by omega)
      have ek : Hid (shN l 0 k = if (itAt l (k - 1)).k = 2 then shN l 0 (k - 1) else k) := by
        show shN l 0 k = _
        obtain ⟨j, rfl⟩ : ∃ j, k = j + 1 := ⟨k - 1, by omega⟩
        show (if (itAt l (0 + j)).k = 2 then shN l 0 j else j + 1) = _
        rw [Nat.zero_add, show j + 1 - 1 = j by omega]
      by_cases hx : (itAt l (k - 1)).k = 2
      · have hr2 : Hid (shN l 0 (k - 1) = R) := by have := hr.out; rw [ek.out, if_pos hx] at this; exact this
        rw [hx] at c0
        clear hr hx hk hE hs' ek
        go_wp2_with fail
        go_roundw
        case rel => exact ⟨k - 1, by omega, by first | rfl | (congr 1; omega), by first | rfl | trivial, hr2⟩
        case measure => simp; omega
      · have e : k = R := by have := hr.out; rw [ek.out, if_neg hx] at this; exact this
        subst e
        have q : ((itAt l (k - 1)).k == 2) = false := by simpa using hx
        have hE' := hE.out k rfl (by omega)
        generalize (itAt l (k - 1)).k = kx at *
        clear hr hx hk hE hs' ek
        go_wp2_with fail
        go_ret
        exact ⟨hE'.1, rfl⟩
end Go.Proofs.YthcphnifnfnceaaGreatDoor

namespace Go.Proofs.YthcphnifnfnceaaGreatDoor
open Go.RowKit Go.Shelf

theorem shN_sub {l : List It} {f t : Nat} (ht : t ≤ l.length) : ∀ n, f + n ≤ t → shN (subL l f t) 0 n = shN l f n
  | 0, _ => rfl
  | n + 1, h => by
    show (if (itAt (subL l f t) (0 + n)).k = 2 then shN (subL l f t) 0 n else n + 1) = if (itAt l (f + n)).k = 2 then shN l f n else n + 1
    rw [Nat.zero_add, sub_at ht (by omega), shN_sub ht n (by omega)]
/-- What stands in the line from f to t. -/
theorem line_at {l : List It} {f t : Nat} (ht : t ≤ l.length) (hft : f ≤ t) {i : Nat} (hi : i < shN l f (t - f)) : ∃ h : f + i < l.length, ((subL l f t).take (shN l f (t - f)))[i]? = some (l[f + i]'h) := by
  have h1 := shN_le l f (t - f)
  have h2 : f + i < l.length := by omega
  refine ⟨h2, ?_⟩
  rw [List.getElem?_take_of_lt hi]
  unfold subL
  rw [List.getElem?_take_of_lt (by omega), List.getElem?_drop, List.getElem?_eq_getElem h2]

set_option maxRecDepth 100000 in
set_option maxHeartbeats 4000000 in
theorem iwidth_any (v : Value) (l : List It) (x y z : Int) (w : World) (hS : ItsAt w v l) :
    Calls Tryz.prog 18 #[v, .int .i64 x, .int .i64 y, .int .i64 z] w fun e w' => e = .returned (.tuple #[.int .i64 (wiV l x y z), .int .i64 (wiE l x y z)]) ∧ Below w.heap.size w w' := by
  have hc : Hid (Calls Tryz.prog 48 #[v, .int .i64 x, .int .i64 y] w fun e w' => e = .returned (.int .i64 (rfL l x y)) ∧ Below w.heap.size w w') := irefuse_any v l x y w hS
  obtain ⟨a, cap, rfl, -⟩ := hS.ex
  have hle := hS.le _ _ _ rfl
  have hSh : Hid (ItsAt w (.slice a l.length cap) l) := hS
  clear hS
  unfold wiV
  by_cases h0 : rfL l x y = 0
  · have hwe : wiE l x y z = if 0 ≤ z ∧ z ≤ 4095 then 0 else 5 := by unfold wiE; rw [if_neg (by simpa using h0)]
    rw [h0] at hc
    by_cases hz : 0 ≤ z ∧ z ≤ 4095
    · rw [if_pos hz] at hwe
      rw [hwe, if_pos rfl]
      obtain ⟨h1, h2, h3, h4⟩ := rf_ok h0
      obtain ⟨A, rfl⟩ : ∃ i : Nat, x = i := ⟨x.toNat, by omega⟩
      obtain ⟨E, rfl⟩ : ∃ i : Nat, y = i := ⟨y.toNat, by omega⟩
      rw [Int.toNat_natCast, Int.toNat_natCast]
      have h8 : (l.length : Int) ≤ 8192 := by have := ck_len h1; omega
      have hck : Hid (ckL l = 0) := h1
      obtain ⟨hz0, hz1⟩ := hz
      have hAE : A ≤ E := by omega
      have hEl : E ≤ l.length := by omega
      clear hwe h0 h1 h2 h3 h4
      obtain ⟨m, hm⟩ : ∃ m, shN l A (E - A) = m := ⟨_, rfl⟩
      have hmle : m ≤ E - A := by rw [← hm]; exact shN_le _ _ _
      have hsl : Hid (∀ W, Below w.heap.size w W → ∃ a', (Instr.slice 29 (.slice a l.length cap) (some (.int .i64 (A : Int))) (some (.int .i64 (E : Int))) none).run Tryz.prog W = .ok (.slice a' (E - A) (cap - A)) W ∧ Calls Tryz.prog 50 #[.slice a' (E - A) (cap - A)] W fun e w' => (∃ a2 cap2, e = .returned (.slice a2 m cap2) ∧ ItsAt W (.slice a2 m cap2) ((subL l A E).take m)) ∧ w' = W) := fun W hB => by
        obtain ⟨a', hr, ha'⟩ := slice29 a l.length cap A E W hAE (by omega)
        refine ⟨a', hr, ?_⟩
        have hI := sub_its (hSh.out.below hB (Nat.le_refl _)) hAE hEl ha'
        have hc := shown_any _ (subL l A E) (by rw [sub_len hEl]; omega) W hI
        rw [sub_len hEl, shN_sub hEl _ (by omega), hm] at hc
        exact hc
      have hat : Hid (∀ W a2 cap2, ItsAt W (.slice a2 m cap2) ((subL l A E).take m) → ∀ i, i < m → ∃ b o, a2 = some ⟨b, o, none⟩ ∧ ∀ W', Below W.heap.size W W' → ItAt W b (o + i * 8) (itAt l (A + i)) W') := fun W a2 cap2 hI i hi => by
        obtain ⟨hlt, he⟩ := line_at hEl hAE (i := i) (by rw [hm]; exact hi)
        rw [hm] at he
        obtain ⟨hil, he'⟩ := List.getElem?_eq_some_iff.1 he
        obtain ⟨b, o, e, _, h⟩ := its_at hI hil
        rw [he'] at h
        refine ⟨b, o, e, fun W' hW => ?_⟩
        rw [itAt_is hlt]
        exact h W' hW
      have hrg : Hid (∀ k, k ≤ m → z ≤ atN l A z k ∧ atN l A z k ≤ z + 524288 * (k : Int)) := fun k hk => at_rng hck.out hz0 k (by omega)
      have hgo : Hid (∀ k, k < m → okP (itAt l (A + k))) := fun k hk => by
        rw [itAt_is (show A + k < l.length by omega)]
        exact ck_at hck.out (by omega)
      have hend : Hid (ntV l A E z = atN l A z m + pnI l E - z) := by show _ = _; unfold ntV; rw [hm]
      have hpr := pn_rng hck.out E
      have hpn : Hid (∀ W', Below w.heap.size w W' → (pnI l E = 0 ∧ (¬ E < l.length ∨ (E < l.length ∧ ∃ b o kx, a = some ⟨b, o, none⟩ ∧ W'.cell? ⟨b, o + E * 8, none⟩ = some (.int .i64 kx) ∧ (kx == 3) = false))) ∨ (E < l.length ∧ ∃ b o, a = some ⟨b, o, none⟩ ∧ W'.cell? ⟨b, o + E * 8, none⟩ = some (.int .i64 3) ∧ W'.cell? ⟨b, o + E * 8 + 3, none⟩ = some (.int .i64 (pnI l E)))) := fun W' hW => by
        unfold pnI
        by_cases hE : E < l.length
        · obtain ⟨b, o, e, _, h⟩ := its_at hSh.out hE
          rw [itAt_is hE]
          by_cases h3 : l[E].k = 3
          · rw [if_pos ⟨hE, h3⟩]
            refine .inr ⟨hE, b, o, e, ?_, (h W' hW).c3⟩
            have := (h W' hW).c0; rwa [h3] at this
          · rw [if_neg (fun h => h3 h.2)]
            exact .inl ⟨rfl, .inr ⟨hE, b, o, _, e, (h W' hW).c0, by simpa using h3⟩⟩
        · rw [if_neg (fun h => hE h.1)]
          exact .inl ⟨rfl, .inl hE⟩
      rw [hend.out]
      clear hend hm hck hSh
      generalize pnI l E = pw at *
      have hA' : (A : Int) ≤ E := by omega
      have hE' : (E : Int) ≤ cap := by omega
      go_enter Tryz.func18, Tryz.ntmps18
      go_wp2_with (first | (go_at_call 48; refine hc.out.mono ?_; rintro e w1 ⟨rfl, hb1⟩; obtain ⟨a1, hs1, hcs⟩ := hsl.out _ hb1) | (go_at_call 50; refine hcs.mono ?_; rintro e w' ⟨⟨a2, cap2, rfl, hI⟩, hww⟩; subst w'))
      have hat2 := hat.out _ _ _ hI
      have hat3 : Hid (∀ i, i < m → ∃ b o, a2 = some ⟨b, o, none⟩ ∧ ∀ W', Below w1.heap.size w1 W' → ItAt w1 b (o + i * 8) (itAt l (A + i)) W') := hat2
      clear hat hat2 hsl hc hcs hs1 hI
      go_loopw [11, 34] (fun p i wr => ∃ k : Nat, k ≤ m ∧ i = .int .i64 k ∧ p = .int .i64 (atN l A z k) ∧ Below w1.heap.size w1 wr) (fun _ i _ => m - (intOf i).toNat)
      case atStart => exact ⟨0, by omega, rfl, rfl, Below.refl _ _⟩
      case round =>
        obtain ⟨k, hk, rfl, rfl, hb2⟩ := hrel
        by_cases hlt : k < m
        · have hlt' : (k : Int) < m := by omega
          obtain ⟨bb, oo, rfl, hit⟩ := hat3.out k hlt
          have hi := hit wr hb2
          have c0 := hi.c0
          have c1 := hi.c1
          have c2 := hi.c2
          have c3 := hi.c3
          have c4 := hi.c4
          have c5 := hi.c5
          have c6 := hi.c6
          have c7 := hi.c7
          have hok := hgo.out k hlt
          have hr1 := hrg.out k (by omega)
          have he : Hid (atN l A z (k + 1) = goI (atN l A z k) (itAt l (A + k))) := rfl
          clear hit hi
          generalize itAt l (A + k) = it at *
          obtain ⟨k0, f0, t0, w0, s0, h0, q0, y0⟩ := it
          unfold okP at hok
          unfold goI at he
          simp only at c0 c1 c2 c3 c4 c5 c6 c7 hok he
          have hk4 : Hid (k0 = 1 ∨ k0 = 2 ∨ k0 = 3 ∨ k0 = 4) := by show _ ∨ _; omega
          have hw0 : 0 ≤ w0 ∧ w0 ≤ 524288 := hok.2.2.2.1
          obtain ⟨p, hp⟩ : ∃ p, atN l A z k = p := ⟨_, rfl⟩
          have hp0 : 0 ≤ p := by omega
          have hp1 : p ≤ 5000000000 := by omega
          rw [hp] at he ⊢
          have hkk : Hid (k ≤ m) := hk
          clear hok hr1 hp hk
          have hB2 := hb2.alloc hb2.size (.cells #[.int .i64 k0, .int .i64 f0, .int .i64 t0, .int .i64 w0, .int .i64 s0, .int .i64 h0, .int .i64 q0, .bool y0] 51)
          rcases hk4.out with rfl | rfl | rfl | rfl
          · go_wp2_with fail
            go_roundw
            case rel => exact ⟨k + 1, by omega, by simp, by rw [he.out]; simp, hB2⟩
            case measure => simp [intOf]; omega
          · go_wp2_with fail
            go_roundw
            case rel => exact ⟨k + 1, by omega, by simp, by rw [he.out]; simp, hB2⟩
            case measure => simp [intOf]; omega
          · go_wp2_with fail
            go_roundw
            case rel => exact ⟨k + 1, by omega, by simp, by rw [he.out]; simp, hB2⟩
            case measure => simp [intOf]; omega
          · have hst := stop_any p hp0 (by omega)
            go_wp2_with (go_at_call 51; refine (hst _).mono ?_; rintro e w' ⟨rfl, hww⟩; subst w')
            go_roundw
            case rel => exact ⟨k + 1, by omega, by simp, by rw [he.out]; simp, hB2⟩
            case measure => simp [intOf]; omega
        · obtain rfl : k = m := by omega
          have hb3 : Below w.heap.size w wr := hb1.trans (hb2.mono hb1.size)
          have hr1 := hrg.out k (by omega)
          obtain ⟨p, hp⟩ : ∃ p, atN l A z k = p := ⟨_, rfl⟩
          have hp0 : z ≤ p := by omega
          have hp1 : p ≤ 5000000000 := by omega
          rw [hp]
          have hpH : Hid (atN l A z k = p) := hp
          have hge : ¬ (k : Int) < k := by omega
          clear hr1 hp hat3 hgo hrg
          rcases hpn.out _ hb3 with ⟨rfl, hn | ⟨hE, bb, oo, kx, rfl, c0, q3⟩⟩ | ⟨hE, bb, oo, rfl, c0, c3⟩
          · have hn' : ¬ (E : Int) < l.length := by omega
            clear hpn
            go_wp2_with fail
            go_ret2
            exact ⟨by rw [hpH.out]; simp, hb3⟩
          · have hn' : (E : Int) < l.length := by omega
            clear hpn
            go_wp2_with fail
            go_ret2
            exact ⟨by rw [hpH.out]; simp, hb3⟩
          · have hn' : (E : Int) < l.length := by omega
            clear hpn
            go_wp2_with fail
            go_ret2
            exact ⟨by rw [hpH.out]; rfl, hb3⟩
    · rw [if_neg hz] at hwe
      rw [hwe]
      clear hwe h0 hSh
      by_cases hz0 : 0 ≤ z
      · have hz1 : ¬ z ≤ 4095 := fun h => hz ⟨hz0, h⟩
        clear hz
        go_enter Tryz.func18, Tryz.ntmps18
        go_wp2_with (go_at_call 48; refine hc.out.mono ?_; rintro e w' ⟨rfl, hb2⟩)
        go_ret2
        exact ⟨rfl, hb2⟩
      · clear hz
        go_enter Tryz.func18, Tryz.ntmps18
        go_wp2_with (go_at_call 48; refine hc.out.mono ?_; rintro e w' ⟨rfl, hb2⟩)
        go_ret2
        exact ⟨rfl, hb2⟩
  · have hwe : wiE l x y z = rfL l x y := by unfold wiE; rw [if_pos h0]
    rw [hwe, if_neg h0]
    have h0' : (rfL l x y == 0) = false := by simpa using h0
    clear h0 hSh hwe
    generalize rfL l x y = n at *
    go_enter Tryz.func18, Tryz.ntmps18
    go_wp2_with (go_at_call 48; refine hc.out.mono ?_; rintro e w' ⟨rfl, hb2⟩)
    go_ret2
    exact ⟨rfl, hb2⟩

set_option maxRecDepth 100000 in
set_option maxHeartbeats 4000000 in
theorem give_any (v : Value) (l : List It) (x y : Int) (w : World) (hS : ItsAt w v l) :
    Calls Tryz.prog 20 #[v, .int .i64 x, .int .i64 y] w fun e w' => e = .returned (.tuple #[.int .i64 (giS l x y), .int .i64 (giH l x y), .int .i64 (rfL l x y)]) ∧ Below w.heap.size w w' := by
  have hc : Hid (Calls Tryz.prog 48 #[v, .int .i64 x, .int .i64 y] w fun e w' => e = .returned (.int .i64 (rfL l x y)) ∧ Below w.heap.size w w') := irefuse_any v l x y w hS
  obtain ⟨a, cap, rfl, -⟩ := hS.ex
  have hle := hS.le _ _ _ rfl
  have hSh : Hid (ItsAt w (.slice a l.length cap) l) := hS
  clear hS
  unfold giS giH
  by_cases h0 : rfL l x y = 0
  · rw [h0] at hc
    rw [if_pos h0, if_pos h0, h0]
    obtain ⟨h1, h2, h3, h4⟩ := rf_ok h0
    obtain ⟨A, rfl⟩ : ∃ i : Nat, x = i := ⟨x.toNat, by omega⟩
    obtain ⟨E, rfl⟩ : ∃ i : Nat, y = i := ⟨y.toNat, by omega⟩
    rw [Int.toNat_natCast, Int.toNat_natCast]
    have h8 : (l.length : Int) ≤ 8192 := by have := ck_len h1; omega
    have hck : Hid (ckL l = 0) := h1
    have hAE : A ≤ E := by omega
    have hEl : E ≤ l.length := by omega
    clear h0 h1 h2 h3 h4
    obtain ⟨m, hm⟩ : ∃ m, shN l A (E - A) = m := ⟨_, rfl⟩
    have hmle : m ≤ E - A := by rw [← hm]; exact shN_le _ _ _
    have hsl : Hid (∀ W, Below w.heap.size w W → ∃ a', (Instr.slice 29 (.slice a l.length cap) (some (.int .i64 (A : Int))) (some (.int .i64 (E : Int))) none).run Tryz.prog W = .ok (.slice a' (E - A) (cap - A)) W ∧ Calls Tryz.prog 50 #[.slice a' (E - A) (cap - A)] W fun e w' => (∃ a2 cap2, e = .returned (.slice a2 m cap2) ∧ ItsAt W (.slice a2 m cap2) ((subL l A E).take m)) ∧ w' = W) := fun W hB => by
      obtain ⟨a', hr, ha'⟩ := slice29 a l.length cap A E W hAE (by omega)
      refine ⟨a', hr, ?_⟩
      have hI := sub_its (hSh.out.below hB (Nat.le_refl _)) hAE hEl ha'
      have hc := shown_any _ (subL l A E) (by rw [sub_len hEl]; omega) W hI
      rw [sub_len hEl, shN_sub hEl _ (by omega), hm] at hc
      exact hc
    have hat : Hid (∀ W a2 cap2, ItsAt W (.slice a2 m cap2) ((subL l A E).take m) → ∀ i, i < m → ∃ b o, a2 = some ⟨b, o, none⟩ ∧ ∀ W', Below W.heap.size W W' → ItAt W b (o + i * 8) (itAt l (A + i)) W') := fun W a2 cap2 hI i hi => by
      obtain ⟨hlt, he⟩ := line_at hEl hAE (i := i) (by rw [hm]; exact hi)
      rw [hm] at he
      obtain ⟨hil, he'⟩ := List.getElem?_eq_some_iff.1 he
      obtain ⟨b, o, e, _, h⟩ := its_at hI hil
      rw [he'] at h
      refine ⟨b, o, e, fun W' hW => ?_⟩
      rw [itAt_is hlt]
      exact h W' hW
    have hrg : Hid (∀ k, k ≤ m → (0 ≤ suS l A k ∧ suS l A k ≤ 4095 * (k : Int)) ∧ 0 ≤ suH l A k ∧ suH l A k ≤ 4095 * (k : Int)) := fun k hk => su_rng hck.out k (by omega)
    have hgo : Hid (∀ k, k < m → okP (itAt l (A + k))) := fun k hk => by
      rw [itAt_is (show A + k < l.length by omega)]
      exact ck_at hck.out (by omega)
    rw [hm]
    clear hm hck hSh
    have hA' : (A : Int) ≤ E := by omega
    have hE' : (E : Int) ≤ cap := by omega
    go_enter Tryz.func20, Tryz.ntmps20
    go_wp2_with (first | (go_at_call 48; refine hc.out.mono ?_; rintro e w1 ⟨rfl, hb1⟩; obtain ⟨a1, hs1, hcs⟩ := hsl.out _ hb1) | (go_at_call 50; refine hcs.mono ?_; rintro e w' ⟨⟨a2, cap2, rfl, hI⟩, hww⟩; subst w'))
    have hat2 := hat.out _ _ _ hI
    have hat3 : Hid (∀ i, i < m → ∃ b o, a2 = some ⟨b, o, none⟩ ∧ ∀ W', Below w1.heap.size w1 W' → ItAt w1 b (o + i * 8) (itAt l (A + i)) W') := hat2
    clear hat hat2 hsl hc hcs hs1 hI
    go_loopw [10, 11, 27] (fun p q i wr => ∃ k : Nat, k ≤ m ∧ i = .int .i64 k ∧ p = .int .i64 (suS l A k) ∧ q = .int .i64 (suH l A k) ∧ Below w1.heap.size w1 wr) (fun _ _ i _ => m - (intOf i).toNat)
    case atStart => exact ⟨0, by omega, rfl, rfl, rfl, Below.refl _ _⟩
    case round =>
      obtain ⟨k, hk, rfl, rfl, rfl, hb2⟩ := hrel
      by_cases hlt : k < m
      · have hlt' : (k : Int) < m := by omega
        obtain ⟨bb, oo, rfl, hit⟩ := hat3.out k hlt
        have hi := hit wr hb2
        have c0 := hi.c0
        have c1 := hi.c1
        have c2 := hi.c2
        have c3 := hi.c3
        have c4 := hi.c4
        have c5 := hi.c5
        have c6 := hi.c6
        have c7 := hi.c7
        have hok := hgo.out k hlt
        have hr1 := hrg.out k (by omega)
        have he : Hid (suS l A (k + 1) = suS l A k + (itAt l (A + k)).s ∧ suH l A (k + 1) = suH l A k + (itAt l (A + k)).h) := ⟨rfl, rfl⟩
        clear hit hi
        generalize itAt l (A + k) = it at *
        obtain ⟨k0, f0, t0, w0, s0, h0, q0, y0⟩ := it
        unfold okP at hok
        simp only at c0 c1 c2 c3 c4 c5 c6 c7 hok he
        have hs0 : 0 ≤ s0 ∧ s0 ≤ 4095 := hok.2.2.2.2.1
        have hh0 : 0 ≤ h0 ∧ h0 ≤ 4095 := hok.2.2.2.2.2.1
        obtain ⟨p, hp⟩ : ∃ p, suS l A k = p := ⟨_, rfl⟩
        obtain ⟨q, hq⟩ : ∃ p, suH l A k = p := ⟨_, rfl⟩
        have hp0 : 0 ≤ p := by omega
        have hp1 : p ≤ 50000000 := by omega
        have hq0 : 0 ≤ q := by omega
        have hq1 : q ≤ 50000000 := by omega
        rw [hp, hq] at he ⊢
        have hkk : Hid (k ≤ m) := hk
        clear hok hr1 hp hk hq
        have hB2 := hb2.alloc hb2.size (.cells #[.int .i64 k0, .int .i64 f0, .int .i64 t0, .int .i64 w0, .int .i64 s0, .int .i64 h0, .int .i64 q0, .bool y0] 51)
        go_wp2_with fail
        go_roundw
        case rel => exact ⟨k + 1, by omega, by simp, by rw [he.out.1], by rw [he.out.2], hB2⟩
        case measure => simp [intOf]; omega
      · obtain rfl : k = m := by omega
        have hb3 : Below w.heap.size w wr := hb1.trans (hb2.mono hb1.size)
        have hge : ¬ (k : Int) < k := by omega
        clear hat3 hgo hrg
        go_wp2_with fail
        go_ret3
        exact ⟨rfl, hb3⟩
  · rw [if_neg h0, if_neg h0]
    have h0' : (rfL l x y == 0) = false := by simpa using h0
    clear h0 hSh
    generalize rfL l x y = n at *
    go_enter Tryz.func20, Tryz.ntmps20
    go_wp2_with (go_at_call 48; refine hc.out.mono ?_; rintro e w' ⟨rfl, hb2⟩)
    go_ret3
    exact ⟨rfl, hb2⟩
end Go.Proofs.YthcphnifnfnceaaGreatDoor

namespace Go.Proofs.YthcphnifnfnceaaGreatDoor
open Go.RowKit Go.Shelf

set_option maxRecDepth 100000 in
set_option maxHeartbeats 2000000 in
theorem leaps1_any (x : It) (w : World) : Calls Tryz.prog 58 #[.agg (itL x).toArray] w fun e w' => e = .returned (.bool (x.k == 4)) ∧ Below w.heap.size w w' := by
  obtain ⟨k0, f0, t0, w0, s0, h0, q0, y0⟩ := x
  have hB := (Below.refl w.heap.size w).alloc (Nat.le_refl _) (.cells #[.int .i64 k0, .int .i64 f0, .int .i64 t0, .int .i64 w0, .int .i64 s0, .int .i64 h0, .int .i64 q0, .bool y0] 51)
  show Calls Tryz.prog 58 #[.agg #[.int .i64 k0, .int .i64 f0, .int .i64 t0, .int .i64 w0, .int .i64 s0, .int .i64 h0, .int .i64 q0, .bool y0]] w _
  go_enter Tryz.func58, Tryz.ntmps58
  go_wp2_with fail
  go_ret
  exact ⟨rfl, hB⟩
/-- The first Leap, or how many there are. -/
theorem any_no {l : List It} (h : ∀ i (hi : i < l.length), (l[i].k == 4) = false) : lpB l = false := by
  unfold lpB
  rw [List.any_eq_false]
  intro x hx
  obtain ⟨i, hi, rfl⟩ := List.getElem_of_mem hx
  rw [h i hi]; decide
theorem any_yes {l : List It} {i : Nat} (hi : i < l.length) (h : (l[i].k == 4) = true) : lpB l = true := List.any_eq_true.2 ⟨l[i], List.getElem_mem hi, h⟩

set_option maxRecDepth 100000 in
set_option maxHeartbeats 2000000 in
theorem index_any (v : Value) (l : List It) (hl : l.length ≤ 9223372036854775807) (w : World) (hS : ItsAt w v l) :
    Calls Tryz.prog 88 #[v, .func (.func 58) #[] #[]] w fun e w' => (∃ n : Int, e = .returned (.int .i64 n) ∧ decide (0 ≤ n) = lpB l) ∧ Below w.heap.size w w' := by
  obtain ⟨a, cap, rfl, -⟩ := hS.ex
  have hY : Hid (∀ k (hk : k < l.length), (l[k].k == 4) = true → decide ((0 : Int) ≤ (k : Nat)) = lpB l) := fun k hk e => by rw [any_yes hk e]; simp
  have hN : Hid ((∀ k (hk : k < l.length), (l[k].k == 4) = false) → decide ((0 : Int) ≤ -1) = lpB l) := fun h => by rw [any_no h]; simp
  have hSh : Hid (ItsAt w (.slice a l.length cap) l) := hS
  clear hS
  generalize lpB l = r at hY hN ⊢
  go_enter Tryz.func88, Tryz.ntmps88
  go_wp2_with fail
  go_loopw [8] (fun i wr => ∃ (k : Nat), k ≤ l.length ∧ i = .int .i64 k ∧ Below w.heap.size w wr ∧ Hid (∀ j (hj : j < l.length), j < k → (l[j].k == 4) = false)) (fun i _ => l.length - (intOf i).toNat)
  case atStart => exact ⟨0, by omega, rfl, Below.refl _ _, fun j _ hj => by omega⟩
  case round =>
    obtain ⟨k, hk, rfl, hb, hall⟩ := hrel
    by_cases hlt : k < l.length
    · obtain ⟨b, o, rfl, hbl, hit⟩ := its_at hSh.out hlt
      have hi := hit wr hb
      have c0 := hi.c0
      have c1 := hi.c1
      have c2 := hi.c2
      have c3 := hi.c3
      have c4 := hi.c4
      have c5 := hi.c5
      have c6 := hi.c6
      have c7 := hi.c7
      have hlt' : (k : Int) < l.length := by omega
      have hm := leaps1_any l[k] wr
      have hyes : Hid ((l[k].k == 4) = true → decide ((0 : Int) ≤ (k : Nat)) = r) := hY.out k hlt
      have hno : Hid ((l[k].k == 4) = false → ∀ j (hj : j < l.length), j < k + 1 → (l[j].k == 4) = false) := fun hv j hj hjk => by
        by_cases h : j < k
        · exact hall.out j hj h
        · obtain rfl : j = k := by omega
          exact hv
      clear hY hN hall hit hSh hi
      generalize l[k] = it at *
      obtain ⟨k0, f0, t0, w0, s0, h0, q0, y0⟩ := it
      simp only at c0 c1 c2 c3 c4 c5 c6 c7 hm hyes hno
      have hm' : Hid (Calls Tryz.prog 58 #[.agg #[.int .i64 k0, .int .i64 f0, .int .i64 t0, .int .i64 w0, .int .i64 s0, .int .i64 h0, .int .i64 q0, .bool y0]] wr fun e w' => e = .returned (.bool (k0 == 4)) ∧ Below wr.heap.size wr w') := hm
      clear hm
      cases hv : (k0 == 4) with
      | true =>
        have hn := hyes.out hv
        rw [hv] at hm'
        clear hyes hno hv
        have hn' : Hid (decide ((0 : Int) ≤ (k : Nat)) = r) := hn
        clear hn
        go_wp2_with (go_at_call 58; refine hm'.out.mono ?_; rintro e w' ⟨rfl, hb2⟩)
        go_ret
        exact ⟨⟨_, rfl, hn'.out⟩, hb.trans (hb2.mono hb.size)⟩
      | false =>
        have hn : Hid (∀ j (hj : j < l.length), j < k + 1 → (l[j].k == 4) = false) := hno.out hv
        rw [hv] at hm'
        clear hyes hno hv
        go_wp2_with (go_at_call 58; refine hm'.out.mono ?_; rintro e w' ⟨rfl, hb2⟩)
        go_roundw
        case rel => exact ⟨k + 1, by omega, by simp, hb.trans (hb2.mono hb.size), hn⟩
        case measure => simp [intOf]; omega
    · have hn := hN.out (fun j hj => hall.out j hj (by omega))
      have hn' : Hid (decide ((0 : Int) ≤ -1) = r) := hn
      have hge : ¬ (k : Int) < l.length := by omega
      clear hY hN hall hSh hn
      go_wp2_with fail
      go_ret
      exact ⟨⟨_, rfl, hn'.out⟩, hb⟩

set_option maxRecDepth 100000 in
set_option maxHeartbeats 2000000 in
theorem leaps_any (v : Value) (l : List It) (hl : l.length ≤ 9223372036854775807) (w : World) (hS : ItsAt w v l) :
    Calls Tryz.prog 26 #[v] w fun e w' => e = .returned (.bool (lpB l)) ∧ Below w.heap.size w w' := by
  have hi : Hid (Calls Tryz.prog 88 #[v, .func (.func 58) #[] #[]] w fun e w' => (∃ n : Int, e = .returned (.int .i64 n) ∧ decide (0 ≤ n) = lpB l) ∧ Below w.heap.size w w') := index_any v l hl w hS
  obtain ⟨a, cap, rfl, -⟩ := hS.ex
  clear hS
  have hcf : Hid (Calls Tryz.prog 57 #[.slice a l.length cap, .func (.func 58) #[] #[]] w fun e w' => e = .returned (.bool (lpB l)) ∧ Below w.heap.size w w') := by
    show Calls Tryz.prog 57 _ _ _
    generalize lpB l = r at *
    go_enter Tryz.func57, Tryz.ntmps57
    go_wp2_with (go_at_call 88; refine hi.out.mono ?_; rintro e w' ⟨⟨n, rfl, hn⟩, hb2⟩)
    go_ret
    exact ⟨by rw [← hn]; rfl, hb2⟩
  clear hi
  generalize lpB l = r at *
  go_enter Tryz.func26, Tryz.ntmps26
  go_wp2_with (go_at_call 57; refine hcf.out.mono ?_; rintro e w' ⟨rfl, hb2⟩)
  go_ret
  exact ⟨rfl, hb2⟩

set_option maxRecDepth 100000 in
set_option maxHeartbeats 2000000 in
theorem rleaps_any (v : Value) (l : List It) (hl : l.length ≤ 9223372036854775807) (w : World) (hS : ItsAt w v l) :
    Calls Tryz.prog 27 #[v] w fun e w' => e = .returned (.bool (lpB l)) ∧ w' = w := by
  obtain ⟨a, cap, rfl, -⟩ := hS.ex
  have hY : Hid (∀ k (hk : k < l.length), ((itAt l k).k == 4) = true → lpB l = true) := fun k hk e => any_yes hk (by rw [itAt_is hk] at e; exact e)
  have hN : Hid ((∀ k (hk : k < l.length), ((itAt l k).k == 4) = false) → lpB l = false) := fun h => any_no (fun i hi => by have := h i hi; rwa [itAt_is hi] at this)
  have hk : Hid (∀ i, i < l.length → ∃ b o, a = some ⟨b, o, none⟩ ∧ w.cell? ⟨b, o + i * 8, none⟩ = some (.int .i64 (itAt l i).k)) := fun i hlt => by
      obtain ⟨b, o, e, _, h⟩ := its_kind hS hlt (Below.refl _ _)
      exact ⟨b, o, e, h⟩
  clear hS
  generalize lpB l = r at hY hN ⊢
  go_enter Tryz.func27, Tryz.ntmps27
  go_wp2_with fail
  go_loopw [3] (fun i wr => ∃ (k : Nat), k ≤ l.length ∧ i = .int .i64 k ∧ wr = w ∧ Hid (∀ j (_ : j < l.length), j < k → ((itAt l j).k == 4) = false)) (fun i _ => l.length - (intOf i).toNat)
  case atStart => exact ⟨0, by omega, rfl, rfl, fun j _ hj => by omega⟩
  case round =>
    obtain ⟨k, hk1, rfl, rfl, hall⟩ := hrel
    by_cases hlt : k < l.length
    · obtain ⟨b, o, rfl, c0⟩ := hk.out k hlt
      have hlt' : (k : Int) < l.length := by omega
      cases hv : ((itAt l k).k == 4) with
      | true =>
        have hn := hY.out k hlt hv
        subst hn
        clear hY hN hall hk
        generalize (itAt l k).k = kx at *
        go_wp2_with fail
        go_ret
        exact ⟨rfl, rfl⟩
      | false =>
        have hn : Hid (∀ j (_ : j < l.length), j < k + 1 → ((itAt l j).k == 4) = false) := fun j hj hjk => by
          by_cases h : j < k
          · exact hall.out j hj h
          · obtain rfl : j = k := by omega
            exact hv
        clear hY hN hall hk
        generalize (itAt l k).k = kx at *
        go_wp2_with fail
        go_roundw
        case rel => exact ⟨k + 1, by omega, by simp, by first | rfl | trivial, hn⟩
        case measure => simp [intOf]; omega
    · have hn := hN.out (fun j hj => hall.out j hj (by omega))
      have hge : ¬ (k : Int) < l.length := by omega
      subst hn
      clear hY hN hall hk
      go_wp2_with fail
      go_ret
      exact ⟨rfl, rfl⟩
end Go.Proofs.YthcphnifnfnceaaGreatDoor
