/-
  What is proved here: the natural width of a run of masses, as Natural of metric tells it.
-/
import Derived.Test.YtkhnfmdhdfpdhaaMassMath
namespace Go.Proofs.Ytkhnfmdhdfpdhaa
open Go.RowKit Go.Shelf

/-- May a mass be? -/
def mOk (m : Ms) : Bool := decide ((0 ≤ m.w ∧ m.w ≤ 4095) ∧ (-64 ≤ m.q ∧ m.q ≤ 0))
def ms0 : Ms := ⟨0, 0, 0, 0, 0, 0⟩
/-- The width of k masses from f on. -/
def runN (l : List Ms) (f : Nat) : Nat → Int
  | 0 => 0
  | k + 1 => runN l f k + (l.getD (f + k) ms0).w + (if 0 < k then (l.getD (f + k) ms0).q else 0)
def natE (l : List Ms) (f t : Int) : Int := if 4096 < l.length then 3 else if l.all mOk = true then (if 0 ≤ f ∧ f ≤ t ∧ t ≤ l.length then 0 else 5) else 2
def natV (l : List Ms) (f t : Int) : Int := if natE l f t = 0 then runN l f.toNat (t.toNat - f.toNat) else 0
theorem getD_is {l : List Ms} {i : Nat} (h : i < l.length) : l.getD i ms0 = l[i] := by rw [List.getD_eq_getElem?_getD, List.getElem?_eq_getElem h]; rfl
theorem run_rng {l : List Ms} (h : l.all mOk = true) (f : Nat) : ∀ k, f + k ≤ l.length → -64 * (k : Int) ≤ runN l f k ∧ runN l f k ≤ 4095 * (k : Int)
  | 0, _ => by simp [runN]
  | k + 1, hk => by
    have ih := run_rng h f k (by omega)
    have hm := List.all_eq_true.1 h l[f + k] (List.getElem_mem (by omega))
    unfold mOk at hm
    rw [decide_eq_true_eq] at hm
    have e : runN l f (k + 1) = runN l f k + l[f + k].w + (if 0 < k then l[f + k].q else 0) := by
      show runN l f k + (l.getD (f + k) ms0).w + (if 0 < k then (l.getD (f + k) ms0).q else 0) = _
      rw [getD_is (show f + k < l.length by omega)]
    rw [e]
    split <;> omega
theorem all_no {l : List Ms} {k : Nat} (hk : k < l.length) (h : mOk l[k] = false) : l.all mOk = false := List.all_eq_false.2 ⟨l[k], List.getElem_mem hk, by simp [h]⟩
theorem all_yes {l : List Ms} (h : ∀ k (hk : k < l.length), mOk l[k] = true) : l.all mOk = true := List.all_eq_true.2 fun b hb => by
  obtain ⟨k, hk, rfl⟩ := List.getElem_of_mem hb
  exact h k hk
theorem all_at {l : List Ms} (h : l.all mOk = true) {k : Nat} (hk : k < l.length) : mOk l[k] = true := List.all_eq_true.1 h _ (List.getElem_mem hk)

def nat2 (m : Ms) : List Bd := [(m.w, 0, 4095), (m.q, -64, 0)]
theorem nat2_keep (m : Ms) : keepB (nat2 m) = mOk m := by
  unfold keepB nat2 bdB mOk
  rw [Bool.eq_iff_iff]
  simp only [List.all_cons, List.all_nil, Bool.and_true, Bool.and_eq_true, decide_eq_true_eq]

theorem slice36 (a : Option Addr) (n cap f t : Nat) (W : World) (h1 : f ≤ t) (h2 : t ≤ cap) : ∃ a', (Instr.slice 101 (.slice a n cap) (some (.int .i64 (f : Int))) (some (.int .i64 (t : Int))) none).run Try.prog W = .ok (.slice a' (t - f) (cap - f)) W ∧ (∀ b o, a = some ⟨b, o, none⟩ → f < t → a' = some ⟨b, o + f * 6, none⟩) := by
  have he : Try.prog.elem 101 = 105 := by kernel_rfl
  have hu : Try.prog.underlying 101 = some (.slice (Try.prog.elem 101)) := by rw [he]; exact Try.underlying101
  have hr := run_slice_lh (P := Try.prog) (w := W) 101 a n cap hu .i64 .i64 f t (by omega) (by omega) (by omega)
  have hs : (sizeOf (Try.prog.elem 101)).run Try.prog W = .ok 6 W := by kernel_rfl
  rw [hs] at hr
  simp only [Result.andThen, sliced, Int.toNat_natCast] at hr
  refine ⟨_, hr, fun b o e hlt => ?_⟩
  rw [if_neg (by omega), e]
  simp [addr_add]

set_option maxRecDepth 100000 in
set_option maxHeartbeats 4000000 in
theorem natural_any (v : Value) (l : List Ms) (hl : l.length ≤ 9223372036854775807) (f t : Int) (w : World) (hS : RecAt 6 msL w v l) :
    Calls Try.prog 75 #[v, .int .i64 f, .int .i64 t] w fun e w' => e = .returned (.tuple #[.int .i64 (natV l f t), .int .i64 (natE l f t)]) ∧ Below w.heap.size w w' := by
  have hle := hS.le
  obtain ⟨a, cap, rfl, h2⟩ := hS.ex
  have hcap := hle _ _ _ rfl
  clear hS hle
  by_cases hlong : 4096 < l.length
  · have e1 : natE l f t = 3 := if_pos hlong
    have e2 : natV l f t = 0 := by unfold natV; rw [e1]; rfl
    rw [e1, e2]
    clear e1 e2
    go_enter Try.func75, Try.ntmps75
    go_wp2_with fail
    go_ret2
    exact ⟨rfl, Below.refl _ _⟩
  · have hr : Hid (∀ (W : World) (m : Nat) (r : Ms), W.heap.size = m → Calls Try.prog 87 #[.slice (some ⟨m, 0, none⟩) 2 2] (W.alloc (.cells #[.int .i64 r.w, .int .i64 0, .int .i64 4095, .int .i64 r.q, .int .i64 (-64), .int .i64 0] 152)) fun e w' => e = .returned (.bool (mOk r)) ∧ Below W.heap.size W w') := fun W m r hm => by
      subst hm
      have h := keep_any _ (nat2 r) (by show 2 ≤ 100; omega) _ (rec_new (k := 3) bdL_len W 152 (nat2 r))
      rw [nat2_keep] at h
      refine h.mono ?_
      rintro e w' ⟨rfl, hb⟩
      exact ⟨rfl, ((Below.refl _ W).alloc (Nat.le_refl _) _).trans (hb.mono (by simp))⟩
    have hno : Hid (l.all mOk = false → natE l f t = 2 ∧ natV l f t = 0) := fun h => by
      have e : natE l f t = 2 := by unfold natE; rw [if_neg hlong, h]; rfl
      refine ⟨e, ?_⟩; unfold natV; rw [e]; rfl
    have hre : Hid (l.all mOk = true → ¬ (0 ≤ f ∧ f ≤ t ∧ t ≤ l.length) → natE l f t = 5 ∧ natV l f t = 0) := fun h h3 => by
      have e : natE l f t = 5 := by unfold natE; rw [if_neg hlong, h, if_pos rfl, if_neg h3]
      refine ⟨e, ?_⟩; unfold natV; rw [e]; rfl
    have hyes : Hid (l.all mOk = true → (0 ≤ f ∧ f ≤ t ∧ t ≤ l.length) → natE l f t = 0 ∧ natV l f t = runN l f.toNat (t.toNat - f.toNat)) := fun h h3 => by
      have e : natE l f t = 0 := by unfold natE; rw [if_neg hlong, h, if_pos rfl, if_pos h3]
      refine ⟨e, ?_⟩; unfold natV; rw [e]; rfl
    generalize natE l f t = E at *
    generalize natV l f t = V at *
    have hlong' : ¬ (4096 : Int) < l.length := by omega
    go_enter Try.func75, Try.ntmps75
    go_wp2_with fail
    go_loopw [18] (fun i wr => ∃ k : Nat, k ≤ l.length ∧ i = .int .i64 k ∧ Below w.heap.size w wr ∧ Hid (∀ j (hj : j < l.length), j < k → mOk l[j] = true)) (fun i _ => l.length - (intOf i).toNat)
    case atStart => exact ⟨0, by omega, rfl, Below.refl _ _, fun j _ hj => by omega⟩
    case round =>
      obtain ⟨k, hk, rfl, hb, hall⟩ := hrel
      by_cases hlt : k < l.length
      · rcases h2 with h2 | ⟨b, o, rfl, hbl, hc⟩
        · rw [h2] at hlt; simp at hlt
        · have c0 : wr.cell? ⟨b, o + k * 6, none⟩ = some (.int .i64 l[k].f) := (hb.cell hbl).trans (hc k hlt 0 _ rfl)
          have c1 : wr.cell? ⟨b, o + k * 6 + 1, none⟩ = some (.int .i64 l[k].t) := (hb.cell hbl).trans (hc k hlt 1 _ rfl)
          have c2 : wr.cell? ⟨b, o + k * 6 + 2, none⟩ = some (.int .i64 l[k].k) := (hb.cell hbl).trans (hc k hlt 2 _ rfl)
          have c3 : wr.cell? ⟨b, o + k * 6 + 3, none⟩ = some (.int .i64 l[k].s) := (hb.cell hbl).trans (hc k hlt 3 _ rfl)
          have c4 : wr.cell? ⟨b, o + k * 6 + 4, none⟩ = some (.int .i64 l[k].w) := (hb.cell hbl).trans (hc k hlt 4 _ rfl)
          have c5 : wr.cell? ⟨b, o + k * 6 + 5, none⟩ = some (.int .i64 l[k].q) := (hb.cell hbl).trans (hc k hlt 5 _ rfl)
          have hlt' : (k : Int) < l.length := by omega
          have hw := hb.size
          have hr' : Hid (Calls Try.prog 87 #[.slice (some ⟨wr.heap.size + 1, 0, none⟩) 2 2] ((wr.alloc (.cells #[.int .i64 l[k].f, .int .i64 l[k].t, .int .i64 l[k].k, .int .i64 l[k].s, .int .i64 l[k].w, .int .i64 l[k].q] 105)).alloc (.cells #[.int .i64 l[k].w, .int .i64 0, .int .i64 4095, .int .i64 l[k].q, .int .i64 (-64), .int .i64 0] 152)) fun e w' => e = .returned (.bool (mOk l[k])) ∧ Below w.heap.size w w') := by
            have := hr.out (wr.alloc (.cells #[.int .i64 l[k].f, .int .i64 l[k].t, .int .i64 l[k].k, .int .i64 l[k].s, .int .i64 l[k].w, .int .i64 l[k].q] 105)) (wr.heap.size + 1) l[k] (World.size_alloc _ _)
            refine this.mono ?_
            rintro e w' ⟨rfl, hB⟩
            exact ⟨rfl, (hb.alloc hb.size _).trans (hB.mono (by simp; omega))⟩
          clear hr hc
          cases hv : mOk l[k]
          · rw [hv] at hr'
            obtain ⟨e1, e2⟩ := hno.out (all_no hlt hv)
            subst e1 e2
            clear hno hre hyes hall hv
            generalize l[k].f = x0 at *
            generalize l[k].t = x1 at *
            generalize l[k].k = x2 at *
            generalize l[k].s = x3 at *
            generalize l[k].w = x4 at *
            generalize l[k].q = x5 at *
            go_wp2_with (go_at_call 87; refine hr'.out.mono ?_; rintro e w' ⟨rfl, hB⟩)
            go_ret2
            exact ⟨rfl, hB⟩
          · rw [hv] at hr'
            have hy : Hid (∀ j (hj : j < l.length), j < k + 1 → mOk l[j] = true) := fun j hj hjk => by
              by_cases h : j < k
              · exact hall.out j hj h
              · obtain rfl : j = k := by omega
                exact hv
            clear hno hre hyes hall hv
            generalize l[k].f = x0 at *
            generalize l[k].t = x1 at *
            generalize l[k].k = x2 at *
            generalize l[k].s = x3 at *
            generalize l[k].w = x4 at *
            generalize l[k].q = x5 at *
            go_wp2_with (go_at_call 87; refine hr'.out.mono ?_; rintro e w' ⟨rfl, hB⟩)
            go_roundw
            case rel => exact ⟨k + 1, by omega, by simp, hB, hy⟩
            case measure => simp [intOf]; omega
      · obtain rfl : k = l.length := by omega
        have hall' : l.all mOk = true := all_yes (fun j hj => hall.out j hj hj)
        have hge : ¬ ((l.length : Int) < l.length) := by omega
        by_cases h3 : 0 ≤ f ∧ f ≤ t ∧ t ≤ l.length
        · obtain ⟨e1, e2⟩ := hyes.out hall' h3
          obtain ⟨h30, h31, h32⟩ := h3
          obtain ⟨F, rfl⟩ : ∃ F : Nat, f = F := ⟨f.toNat, by omega⟩
          obtain ⟨T, rfl⟩ : ∃ T : Nat, t = T := ⟨t.toNat, by omega⟩
          obtain ⟨a', hsl, hsa⟩ := slice36 a l.length cap F T wr (by omega) (by omega)
          have hrun : Hid (V = runN l F (T - F)) := by rw [e2]; rfl
          have hAll : Hid (l.all mOk = true) := hall'
          subst e1
          clear e2 hyes hre hno hr hall hall'
          have hF0 : ¬ (F : Int) < 0 := by omega
          have hTF : ¬ (T : Int) < F := by omega
          have hTl : ¬ (l.length : Int) < T := by omega
          obtain ⟨n, hn⟩ : ∃ n, T - F = n := ⟨_, rfl⟩
          rw [hn] at hsl hrun
          have hn4 : n ≤ 4096 := by omega
          go_wp2_with fail
          go_loopw [10, 50] (fun s i wr2 => ∃ j : Nat, j ≤ n ∧ i = .int .i64 j ∧ s = .int .i64 (runN l F j) ∧ Below w.heap.size w wr2) (fun _ i _ => n - (intOf i).toNat)
          case atStart => exact ⟨0, by omega, rfl, rfl, hb⟩
          case round =>
            obtain ⟨j, hj, rfl, rfl, hb2⟩ := hrel
            by_cases hjn : j < n
            · rcases h2 with h2 | ⟨b, o, rfl, hbl, hc⟩
              · rw [h2] at h32; simp at h32; omega
              · have ha' := hsa b o rfl (by omega)
                subst ha'
                have hjl : F + j < l.length := by omega
                have e0 : o + (F + j) * 6 = o + F * 6 + j * 6 := by rw [Nat.add_mul]; omega
                have hcj : ∀ q u, (msL l[F + j])[q]? = some u → wr.cell? ⟨b, o + F * 6 + j * 6 + q, none⟩ = some u := fun q u hu => by
                  have := (hb2.cell hbl).trans (hc (F + j) hjl q u hu)
                  rwa [e0] at this
                have c0 : wr.cell? ⟨b, o + F * 6 + j * 6, none⟩ = some (.int .i64 l[F + j].f) := hcj 0 _ rfl
                have c1 : wr.cell? ⟨b, o + F * 6 + j * 6 + 1, none⟩ = some (.int .i64 l[F + j].t) := hcj 1 _ rfl
                have c2 : wr.cell? ⟨b, o + F * 6 + j * 6 + 2, none⟩ = some (.int .i64 l[F + j].k) := hcj 2 _ rfl
                have c3 : wr.cell? ⟨b, o + F * 6 + j * 6 + 3, none⟩ = some (.int .i64 l[F + j].s) := hcj 3 _ rfl
                have c4 : wr.cell? ⟨b, o + F * 6 + j * 6 + 4, none⟩ = some (.int .i64 l[F + j].w) := hcj 4 _ rfl
                have c5 : wr.cell? ⟨b, o + F * 6 + j * 6 + 5, none⟩ = some (.int .i64 l[F + j].q) := hcj 5 _ rfl
                have hr0 := run_rng hAll.out F j (by omega)
                have hm := all_at hAll.out hjl
                unfold mOk at hm
                rw [decide_eq_true_eq] at hm
                have hst : Hid (runN l F (j + 1) = runN l F j + l[F + j].w + (if 0 < j then l[F + j].q else 0)) := by
                  show runN l F j + (l.getD (F + j) ms0).w + (if 0 < j then (l.getD (F + j) ms0).q else 0) = _
                  rw [getD_is hjl]
                have hjn' : (j : Int) < n := by omega
                have hb2' : Hid (Below w.heap.size w wr) := hb2
                have hb3 : Hid (Below w.heap.size w (wr.alloc (.cells #[.int .i64 l[F + j].f, .int .i64 l[F + j].t, .int .i64 l[F + j].k, .int .i64 l[F + j].s, .int .i64 l[F + j].w, .int .i64 l[F + j].q] 105))) := hb2.alloc hb2.size _
                obtain ⟨off, hoff⟩ : ∃ off, o + F * 6 = off := ⟨_, rfl⟩
                rw [hoff] at c0 c1 c2 c3 c4 c5
                rw [hoff] at hsl
                rw [hoff]
                clear hcj hc e0 hoff hsa hb2 hsl
                generalize l[F + j].f = x0 at *
                generalize l[F + j].t = x1 at *
                generalize l[F + j].k = x2 at *
                generalize l[F + j].s = x3 at *
                generalize l[F + j].w = x4 at *
                generalize l[F + j].q = x5 at *
                generalize hR : runN l F j = R at *
                obtain ⟨⟨m0, m1⟩, m2, m3⟩ := hm
                obtain ⟨r0, r1⟩ := hr0
                by_cases hj0 : j = 0
                · have hz : Hid (runN l F (j + 1) = R + x4) := hst.out.trans (by rw [if_neg (by omega), Int.add_zero])
                  have hj0' : ¬ (0 : Int) < j := by omega
                  have hj0'' : decide ((0 : Int) < j) = false := decide_eq_false hj0'
                  clear hst hj0
                  go_wp2_with fail
                  go_roundw
                  case rel => exact ⟨j + 1, by omega, by simp, by rw [hz.out], hb3⟩
                  case measure => simp [intOf]; omega
                · have hz : Hid (runN l F (j + 1) = R + x4 + x5) := hst.out.trans (by rw [if_pos (by omega)])
                  have hj0' : (0 : Int) < j := by omega
                  clear hst hj0
                  go_wp2_with fail
                  go_roundw
                  case rel => exact ⟨j + 1, by omega, by simp, by rw [hz.out], hb3⟩
                  case measure => simp [intOf]; omega
            · obtain rfl : j = n := by omega
              have hv := hrun.out
              subst hv
              clear hrun h2 hsl hsa hn
              go_wp2_with fail
              go_ret2
              exact ⟨rfl, hb2⟩
        · obtain ⟨e1, e2⟩ := hre.out hall' h3
          subst e1 e2
          clear hyes hre hno hr hall hall' h2
          have h3' : f < 0 ∨ (0 ≤ f ∧ t < f) ∨ (0 ≤ f ∧ f ≤ t ∧ (l.length : Int) < t) := by omega
          clear h3
          rcases h3' with h3 | ⟨h3, h4⟩ | ⟨h3, h4, h5⟩
          all_goals
            go_wp2_with fail
            go_ret2
            exact ⟨rfl, hb⟩

end Go.Proofs.Ytkhnfmdhdfpdhaa
