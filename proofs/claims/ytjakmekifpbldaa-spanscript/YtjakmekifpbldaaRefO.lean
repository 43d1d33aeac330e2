/-
  What is proved here: one call on the program's looks and on the document's is answered alike (act, for SpanScript).
-/
import Derived.Test.YtjakmekifpbldaaRefN
namespace Go.Proofs.Ytjakmekifpbldaa
open Go.RowKit Go.Shelf

theorem both_box {t t2 x : Nat} {w w' : World} {o : Obj} (h : Both t t2 w w') (hx : w.heap[x]? = some o) (h1 : x ≠ t) (h2 : x ≠ t2) : w'.heap[x]? = some o := by
  obtain ⟨_, _, _, _, _, _, k⟩ := h
  exact (k.block x (Array.getElem?_eq_some_iff.1 hx).1 h1 h2).trans hx
theorem Both.trans {t t2 : Nat} {w w1 w2 : World} (hb : Below w.heap.size w w1) (h : Both t t2 w1 w2) : Both t t2 w w2 := by
  obtain ⟨sv, v, L, m, k1, k2, k⟩ := h
  exact ⟨sv, v, L, m, k1, k2, k.os.trans hb.1, k.tape.trans hb.2, k.output.trans hb.3, Nat.le_trans hb.size k.size, fun j hj a b => (k.block j (Nat.lt_of_lt_of_le hj hb.size) a b).trans (hb.block j hj)⟩

set_option maxRecDepth 100000 in
set_option maxHeartbeats 1000000 in
theorem act_any (t t2 : Nat) (sv v : Value) (L : List Ch) (m : Ch) (kd a n : Int) (c : Ch) (ha : a ≤ 9223372036854775807) (w : World) (h : LooksAt t sv L m w) (hr : RefAt t2 v L m w) :
    Calls Try.prog 14 #[.pointer (some ⟨t, 0, none⟩), .pointer (some ⟨t2, 0, none⟩), .agg #[.int .i64 kd, .int .i64 a, .int .i64 n, .int .i64 c.s, .int .i64 c.t, .int .i64 c.k]] w fun e w' => e = .returned (.bool true) ∧ Both t t2 w w' := by
  have hbel := (Below.refl w.heap.size w).alloc (Nat.le_refl _) (.cells #[.int .i64 kd, .int .i64 a, .int .i64 n, .int .i64 c.s, .int .i64 c.t, .int .i64 c.k] 36)
  have hX : Hid _ := heap_new w (.cells #[.int .i64 kd, .int .i64 a, .int .i64 n, .int .i64 c.s, .int .i64 c.t, .int .i64 c.k] 36)
  have hL : Hid (LooksAt t sv L m (w.alloc (.cells #[.int .i64 kd, .int .i64 a, .int .i64 n, .int .i64 c.s, .int .i64 c.t, .int .i64 c.k] 36))) := h.below hbel
  have hR : Hid (RefAt t2 v L m (w.alloc (.cells #[.int .i64 kd, .int .i64 a, .int .i64 n, .int .i64 c.s, .int .i64 c.t, .int .i64 c.k] 36))) := hr.below hbel
  have hne := (h.apart hr.obj (by decide) (by decide)).1
  have hxt : w.heap.size ≠ t := by have := h.lt; omega
  have hxt2 : w.heap.size ≠ t2 := by have := hr.lt; omega
  have hB : Hid (Both t t2 w (w.alloc (.cells #[.int .i64 kd, .int .i64 a, .int .i64 n, .int .i64 c.s, .int .i64 c.t, .int .i64 c.k] 36))) := Both.trans hbel ⟨sv, v, L, m, hL.out, hR.out, rfl, rfl, rfl, Nat.le_refl _, fun _ _ _ _ => rfl⟩
  clear h hr
  by_cases hk0 : kd = 0
  · subst hk0
    go_enter Try.func14, Try.ntmps14
    go_wp2_with fail
    refine act_region3 _ (fun _ _ _ _ _ h => h) _ _ t t2 w.heap.size 0 a n c _ hX.out (fun c1 w' => c1 = insC L a n ∧ ∃ sv', LooksAt t sv' (insN L m a n) (m) w' ∧ Only t (w.alloc (.cells #[.int .i64 0, .int .i64 a, .int .i64 n, .int .i64 c.s, .int .i64 c.t, .int .i64 c.k] 36)) w') (fun c1 c2 w' => c1 = c2 ∧ Both t t2 (w.alloc (.cells #[.int .i64 0, .int .i64 a, .int .i64 n, .int .i64 c.s, .int .i64 c.t, .int .i64 c.k] 36)) w') ?_ ?_ ?_
    · refine Calls.mono (insP t sv L m a n _ (hL.out.below ((Below.refl _ _).drew))) ?_
      rintro e w' ⟨sv', rfl, k1, k2, _⟩
      exact ⟨_, rfl, (k2.block w.heap.size (Array.getElem?_eq_some_iff.1 hX.out).1 (by simp; exact hxt)).trans hX.out, rfl, sv', k1, ⟨k2.1, k2.2, k2.3, k2.4, k2.5⟩⟩
    · rintro c1 w1 x1 ⟨rfl, sv', k1, k2⟩
      refine Calls.mono (insR t2 v L m a n _ (hR.out.only k2 (Ne.symm hne) hL.out.obj (by decide))) ?_
      intro e w2 hd
      obtain ⟨rfl, hb⟩ := both_of hR.out k1 k2 hL.out (fun _ => hd)
      exact ⟨_, rfl, both_box hb hX.out hxt hxt2, rfl, hb⟩
    · rintro c1 c2 w' _ ⟨rfl, hb⟩
      have hb' : Hid _ := Both.trans hbel hb
      clear hb
      unfold fr14
      go_wp2_with fail
      go_ret
      exact ⟨by simp, hb'.out⟩
  by_cases hk1 : kd = 1
  · subst hk1
    go_enter Try.func14, Try.ntmps14
    go_wp2_with fail
    refine act_region5 _ (fun _ _ _ _ _ h => h) _ _ t t2 w.heap.size 1 a n c _ hX.out (fun c1 w' => c1 = delC L a n ∧ ∃ sv', LooksAt t sv' (delN L a n) (delK L m a n) w' ∧ Only t (w.alloc (.cells #[.int .i64 1, .int .i64 a, .int .i64 n, .int .i64 c.s, .int .i64 c.t, .int .i64 c.k] 36)) w') (fun c1 c2 w' => c1 = c2 ∧ Both t t2 (w.alloc (.cells #[.int .i64 1, .int .i64 a, .int .i64 n, .int .i64 c.s, .int .i64 c.t, .int .i64 c.k] 36)) w') ?_ ?_ ?_
    · refine Calls.mono (delP t sv L m a n ha _ (hL.out.below ((Below.refl _ _).drew))) ?_
      rintro e w' ⟨sv', rfl, k1, k2, _⟩
      exact ⟨_, rfl, (k2.block w.heap.size (Array.getElem?_eq_some_iff.1 hX.out).1 (by simp; exact hxt)).trans hX.out, rfl, sv', k1, ⟨k2.1, k2.2, k2.3, k2.4, k2.5⟩⟩
    · rintro c1 w1 x1 ⟨rfl, sv', k1, k2⟩
      refine Calls.mono (delR t2 v L m a n _ (hR.out.only k2 (Ne.symm hne) hL.out.obj (by decide))) ?_
      intro e w2 hd
      obtain ⟨rfl, hb⟩ := both_of hR.out k1 k2 hL.out (fun _ => hd)
      exact ⟨_, rfl, both_box hb hX.out hxt hxt2, rfl, hb⟩
    · rintro c1 c2 w' _ ⟨rfl, hb⟩
      have hb' : Hid _ := Both.trans hbel hb
      clear hb
      unfold fr14
      go_wp2_with fail
      go_ret
      exact ⟨by simp, hb'.out⟩
  by_cases hk2 : kd = 2
  · subst hk2
    go_enter Try.func14, Try.ntmps14
    go_wp2_with fail
    refine act_region7 _ (fun _ _ _ _ _ h => h) _ _ t t2 w.heap.size 2 a n c _ hX.out (fun c1 w' => c1 = setC L a n c ∧ ∃ sv', LooksAt t sv' (setN L a n c) (m) w' ∧ Only t (w.alloc (.cells #[.int .i64 2, .int .i64 a, .int .i64 n, .int .i64 c.s, .int .i64 c.t, .int .i64 c.k] 36)) w') (fun c1 c2 w' => c1 = c2 ∧ Both t t2 (w.alloc (.cells #[.int .i64 2, .int .i64 a, .int .i64 n, .int .i64 c.s, .int .i64 c.t, .int .i64 c.k] 36)) w') ?_ ?_ ?_
    · refine Calls.mono (setP t sv L m a n c ha _ (hL.out.below ((Below.refl _ _).drew))) ?_
      rintro e w' ⟨sv', rfl, k1, k2, _⟩
      exact ⟨_, rfl, (k2.block w.heap.size (Array.getElem?_eq_some_iff.1 hX.out).1 (by simp; exact hxt)).trans hX.out, rfl, sv', k1, ⟨k2.1, k2.2, k2.3, k2.4, k2.5⟩⟩
    · rintro c1 w1 x1 ⟨rfl, sv', k1, k2⟩
      refine Calls.mono (setR t2 v L m a n c _ (hR.out.only k2 (Ne.symm hne) hL.out.obj (by decide))) ?_
      intro e w2 hd
      obtain ⟨rfl, hb⟩ := both_of hR.out k1 k2 hL.out (fun _ => hd)
      exact ⟨_, rfl, both_box hb hX.out hxt hxt2, rfl, hb⟩
    · rintro c1 c2 w' _ ⟨rfl, hb⟩
      have hb' : Hid _ := Both.trans hbel hb
      clear hb
      unfold fr14
      go_wp2_with fail
      go_ret
      exact ⟨by simp, hb'.out⟩
  go_enter Try.func14, Try.ntmps14
  go_wp2_with fail
  go_ret
  exact ⟨rfl, hB.out⟩
end Go.Proofs.Ytjakmekifpbldaa
