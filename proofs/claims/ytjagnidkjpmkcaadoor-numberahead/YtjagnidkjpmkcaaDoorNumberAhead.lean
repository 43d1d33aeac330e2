/-
  What is proved here: for every list of paragraphs and every place NumberAhead answers true: a paragraph's label hangs on those ahead of it alone, and of these on those of its list alone. Its conditions: the listed tables lie as the program's own text lays them.
-/
import Derived.Test.YtjagnidkjpmkcaaDoorEntries
namespace Go.Proofs.YtjagnidkjpmkcaaDoor.numberAhead
open Go.ChangeShapes Go.WideShapes Go.ChangeAt Go.RowKit

theorem lab_take (ls : List En) (k : Nat) : lab (ls.take (k + 1)) k = lab ls k := by
  unfold lab
  rw [List.getElem?_take, if_pos (by omega), List.take_take, Nat.min_self]
theorem own_last (ls : List En) {k : Nat} (h : k < ls.length) : ofL (ls.take (k + 1)) ls[k].1 = ofL (ls.take k) ls[k].1 ++ [ls[k]] := by rw [ofL_take ls _ h, if_pos rfl]
theorem lab_own (ls : List En) {k : Nat} (h : k < ls.length) (hok : okE ls[k] = true) : lab (ofL (ls.take (k + 1)) ls[k].1) (ofL (ls.take k) ls[k].1).length = lab ls k := by
  have ho := (okE_iff _).1 hok
  have hg : (ofL (ls.take (k + 1)) ls[k].1)[(ofL (ls.take k) ls[k].1).length]? = some ls[k] := by rw [own_last ls h]; simp
  have ht : (ofL (ls.take (k + 1)) ls[k].1).take ((ofL (ls.take k) ls[k].1).length + 1) = ofL (ls.take (k + 1)) ls[k].1 := List.take_of_length_le (by rw [own_last ls h]; simp)
  unfold lab
  rw [hg, List.getElem?_eq_getElem h, ht]
  simp only
  by_cases h0 : ls[k].1 = 0
  · rw [if_pos h0, if_pos h0]
  · rw [if_neg h0, if_neg h0]
    have e : ls[k].1 = (((ls[k].1 - 1).toNat : Nat) : Int) + 1 := by omega
    have := cnt_ofL (ls.take (k + 1)) (ls[k].1 - 1).toNat
    rw [← e] at this
    rw [this]
theorem lab_ne (ls : List En) {k : Nat} (h : k < ls.length) (h0 : ls[k].1 ≠ 0) : lab ls k ≠ [] := by
  unfold lab
  rw [List.getElem?_eq_getElem h]
  simp only
  rw [if_neg h0]
  unfold labelN
  split
  · simp
  · split
    · simp
    · split
      · simp
      · simp
theorem lab_zero (ls : List En) {k : Nat} (h : k < ls.length) (h0 : ls[k].1 = 0) : lab ls k = [] := by
  unfold lab
  rw [List.getElem?_eq_getElem h]
  simp only
  rw [if_pos h0]

theorem tx_lab {W : World} {v : Value} {L : List En} (h : TxAt W v (labs L)) {i : Nat} (hi : i < L.length) : ∃ b o cap, v = .slice (some ⟨b, o, none⟩) L.length cap ∧ W.cell? ⟨b, o + i, none⟩ = some (.string ⟨(lab L i).toArray⟩) := by
  obtain ⟨a, cap, rfl, h2⟩ := h.ex
  rcases h2 with h2 | ⟨b, o, rfl, _, hc⟩
  · have : (labs L).length = 0 := by rw [h2]; rfl
    rw [labs_length] at this; omega
  · have hi' : i < (labs L).length := by rw [labs_length]; exact hi
    have := hc i hi'
    have e : (labs L)[i] = lab L i := by
      have := labs_at L hi
      rw [List.getElem?_eq_getElem hi'] at this
      exact Option.some.inj this
    rw [e] at this
    exact ⟨b, o, cap, by rw [labs_length], this⟩

theorem refE_of {ls : List En} (h1 : ls.length ≤ 3999) (h2 : ∀ y ∈ ls, okE y = true) : refE ls = 0 := by
  have h3 : ls.all okE = true := List.all_eq_true.2 h2
  unfold refE
  rw [if_neg (by omega), h3]
  rfl
theorem refE_take {ls : List En} (h : refE ls = 0) (k : Nat) : refE (ls.take k) = 0 := by
  obtain ⟨h1, h2⟩ := refE_yes h
  exact refE_of (by rw [List.length_take]; omega) (fun y hy => List.all_eq_true.1 h2 y (List.mem_of_mem_take hy))
theorem refE_ofL {ls : List En} (h : refE ls = 0) (li : Int) : refE (ofL ls li) = 0 := by
  obtain ⟨h1, h2⟩ := refE_yes h
  exact refE_of (Nat.le_trans (ofL_len ls li) h1) (fun y hy => List.all_eq_true.1 h2 y (List.mem_filter.1 hy).1)
theorem en_take {W : World} {a : Option Addr} {ls : List En} {cap n k : Nat} (h : EnAt W (.slice a n cap) ls) (hn : n = ls.length) (hk : k + 1 ≤ n) : EnAt W (.slice a (k + 1) cap) (ls.take (k + 1)) := by
  subst hn
  exact h.take hk cap

set_option maxHeartbeats 2000000 in
set_option maxRecDepth 100000 in
theorem walk {w : World} (a : Option Addr) (cap : Nat) (ls : List En) (hlen : ls.length ≤ 9223372036854775807) (hcap : ls.length ≤ cap) (hS0 : ls.length ≤ 140737488355328 → EnAt w (.slice a ls.length cap) ls) (x : Int) (ht : Tab w) :
    Calls Tryd.prog 5 #[.slice a ls.length cap, .int .i64 x] w fun e w' => e = .returned (.bool true) ∧ Below w.heap.size w w' := by
  have haw := awake_yes w ht
  by_cases h100 : 100 < ls.length
  · go_enter Tryd.func5, Tryd.ntmps5
    go_wp2_with (go_at_call 19; refine haw.mono ?_; rintro e w1 ⟨rfl, hb1⟩)
    go_ret
    exact ⟨rfl, hb1⟩
  have hS := hS0 (by omega)
  by_cases hz : ls.length = 0
  · rw [hz]
    go_enter Tryd.func5, Tryd.ntmps5
    go_wp2_with (go_at_call 19; refine haw.mono ?_; rintro e w1 ⟨rfl, hb1⟩)
    go_ret
    exact ⟨rfl, hb1⟩
  have hmy := fun W hW => may_any (.slice a ls.length cap) ls W hW
  have hz' : ¬ ((ls.length : Int) = 0) := by omega
  cases hall : ls.all okE
  · rw [hall] at hmy
    go_enter Tryd.func5, Tryd.ntmps5
    go_wp2_with (first | (go_at_call 19; refine haw.mono ?_; rintro e w1 ⟨rfl, hb1⟩) | (go_at_call 20; refine (hmy _ (hS.below (by assumption))).mono ?_; rintro e w2 ⟨rfl, rfl⟩))
    go_ret
    exact ⟨rfl, hb1⟩
  rw [hall] at hmy
  have hre : refE ls = 0 := by unfold refE; rw [if_neg (by omega), hall]; rfl
  obtain ⟨k, hkp⟩ : ∃ k : Nat, pickI x (ls.length : Int) = k := ⟨(pickI x (ls.length : Int)).toNat, by have := pick_lo x (n := ls.length) (by omega); omega⟩
  have hk : k < ls.length := by have := pick_hi x (n := ls.length) (by omega); omega
  have hpk := pick_any x ls.length (by omega) (by omega)
  rw [hkp] at hpk
  have hok : okE ls[k] = true := List.all_eq_true.1 hall _ (List.getElem_mem hk)
  obtain ⟨n, hn⟩ : ∃ n, n = ls.length := ⟨_, rfl⟩
  rw [← hn] at h100 hz hz' hmy hpk hcap ⊢
  have HN : Hid (n = ls.length) := hn
  have hkn : k < n := by omega
  have HS : Hid (EnAt w (.slice a n cap) ls) := by rw [hn]; exact hS
  have hk1 : (k : Int) + 1 ≤ cap := by omega
  obtain ⟨b, o, rfl, hbl, hc⟩ : ∃ b o, a = some ⟨b, o, none⟩ ∧ b < w.heap.size ∧ ∀ (i : Nat) (h : i < ls.length), w.cell? ⟨b, o + i * 2, none⟩ = some (.int .i64 ls[i].1) ∧ w.cell? ⟨b, o + i * 2 + 1, none⟩ = some (.int .i64 ls[i].2) := by
    obtain ⟨a', cap', e, h2⟩ := hS.ex
    cases e
    rcases h2 with h2 | h2
    · rw [h2] at hk; simp at hk
    · exact h2
  have HC : Hid (∀ (i : Nat) (h : i < ls.length), w.cell? ⟨b, o + i * 2, none⟩ = some (.int .i64 ls[i].1) ∧ w.cell? ⟨b, o + i * 2 + 1, none⟩ = some (.int .i64 ls[i].2)) := hc
  have HALL : Hid (ls.all okE = true) := hall
  have HRE : Hid (refE ls = 0) := hre
  have HOK : Hid (okE ls[k] = true) := hok
  clear hc hall hre hok hkp
  have h100i : ¬ ((100 : Int) < n) := by omega
  have hd100 : decide ((100 : Int) < n) = false := decide_eq_false h100i
  clear hn hS hS0 hlen
  go_enter Tryd.func5, Tryd.ntmps5
  go_wp2_with (first | (go_at_call 19; refine haw.mono ?_; rintro e w1 ⟨rfl, hb1⟩) | (go_at_call 20; refine (hmy _ (HS.out.below (by assumption))).mono ?_; rintro e w2 ⟨rfl, rfl⟩) | (go_at_call 21; refine (hpk _).mono ?_; rintro e w3 ⟨rfl, rfl⟩))
  have hm1 : Hid (∀ W, EnAt W (.slice (some ⟨b, o, none⟩) n cap) ls → Tab W → Calls Tryd.prog 12 #[.slice (some ⟨b, o, none⟩) n cap] W fun e w' => ∃ v', e = .returned (.tuple #[v', .int .i64 0]) ∧ w'.ownsRow W.heap.size 9 1 v' ls.length (strC (labs ls)) ∧ Below W.heap.size W w') := fun W h1 h2 => Labels_yes _ ls W h1 HRE.out h2
  refine (hm1.out _ (HS.out.below hb1) (ht.below hb1)).mono ?_
  rintro e w4 ⟨v6, rfl, q1, q2⟩
  have B4 := hb1.trans (q2.mono hb1.size)
  have T6 : TxAt w4 v6 (labs ls) := TxAt.of_row (by rw [labs_length]; exact q1) (by rw [labs_length]; have := HN.out; omega)
  have hre2 : refE (ls.take (k + 1)) = 0 := refE_take HRE.out (k + 1)
  have hE2 : EnAt w4 (.slice (some ⟨b, o, none⟩) (k + 1) cap) (ls.take (k + 1)) := en_take (HS.out.below B4) HN.out hkn
  go_wp2_with fail
  refine (Labels_yes _ _ _ hE2 hre2 (ht.below B4)).mono ?_
  rintro e w5 ⟨v8, rfl, q3, q4⟩
  have B5 := B4.trans (q4.mono B4.size)
  have hlt : (ls.take (k + 1)).length = k + 1 := by rw [List.length_take]; omega
  have T8 : TxAt w5 v8 (labs (ls.take (k + 1))) := TxAt.of_row (by rw [labs_length]; exact q3) (by rw [labs_length, hlt]; omega)
  have T6' : TxAt w5 v6 (labs ls) := T6.below q4
  obtain ⟨i0, hi0, hz0, hz1, hz2⟩ := info_parts info37
  have Hre2 : Hid (_ = _) := hre2
  have Hlt : Hid (_ = _) := hlt
  clear hm1 q1 q2 q3 q4 T6 hE2 hre2 hlt hmy hpk haw
  go_wp2_with fail
  go_loopw [10, 11] (fun v i wr => ∃ j m : Nat, j ≤ k + 1 ∧ i = .int .i64 j ∧ m = (ofL (ls.take j) ls[k].1).length ∧ wr.ownsRow w5.heap.size 37 2 v m (enC (ofL (ls.take j) ls[k].1)) ∧ Below w5.heap.size w5 wr) (fun _ i _ => k + 1 - (RowKit.intOf i).toNat)
  case atStart => exact ⟨0, 0, by omega, rfl, rfl, World.ownsRow_nil _ _ _ _, Below.refl _ _⟩
  case round =>
    obtain ⟨j, m, hj, rfl, hm, hrow, hb⟩ := hrel
    have hwr : Below w.heap.size w wr := B5.trans (hb.mono B5.size)
    by_cases hjk : j ≤ k
    · have hjl : j < ls.length := by omega
      have hjn : j < n := by omega
      have hjk' : (j : Int) ≤ k := by omega
      obtain ⟨c0, c1⟩ := HC.out j hjl
      obtain ⟨e0, _⟩ := HC.out k hk
      have d0 := (hwr.cell (p := ⟨b, o + j * 2, none⟩) hbl).trans c0
      have d1 := (hwr.cell (p := ⟨b, o + j * 2 + 1, none⟩) hbl).trans c1
      have dk := (hwr.cell (p := ⟨b, o + k * 2, none⟩) hbl).trans e0
      have htk := ofL_take ls ls[k].1 hjl
      have hml : m ≤ 101 := by have := ofL_len (ls.take j) ls[k].1; rw [List.length_take] at this; omega
      clear c0 c1 e0
      by_cases hx : ls[j].1 = ls[k].1
      · rw [if_pos hx] at htk
        have hnew : Hid (enC (ofL (ls.take (j + 1)) ls[k].1) = enC (ofL (ls.take j) ls[k].1) ++ [.int .i64 ls[k].1, .int .i64 ls[j].2]) := by
          show _ = _
          rw [htk, enC_append, ← hx]; rfl
        have hnl : Hid ((ofL (ls.take (j + 1)) ls[k].1).length = m + 1) := by show _ = _; rw [htk, hm]; simp
        have HM : Hid (m = _) := hm
        clear htk hm
        rw [hx] at d0
        generalize ls[k].1 = lx at *
        generalize ls[j].2 = ly at *
        have hsrc : ∀ W : World, Srcs (W.alloc (.cells #[.int .i64 lx, .int .i64 ly] 37)) 2 (.slice (some ⟨W.heap.size, 0, none⟩) 1 1) 1 [.int .i64 lx, .int .i64 ly] := fun W => ⟨rfl, fun u hu => by simp at hu; rcases hu with rfl | rfl <;> rfl, .inr ⟨_, _, rfl, fun y u hy => by
          rw [addr_add0, Lib.cell_of_heap (heap_new W _)]
          simpa using hy⟩⟩
        have hrowA : ∀ q, ((wr.drewN q).alloc (.cells #[.int .i64 lx, .int .i64 ly] 37)).ownsRow w5.heap.size 37 2 u10 m (enC (ofL (ls.take j) lx)) := fun q => (show (wr.drewN q).ownsRow w5.heap.size 37 2 u10 m (enC (ofL (ls.take j) lx)) from hrow).alloc _
        have hbA : ∀ q, Below w5.heap.size w5 ((wr.drewN q).alloc (.cells #[.int .i64 lx, .int .i64 ly] 37)) := fun q => Below.alloc (w := wr.drewN q) ⟨hb.os, hb.tape, hb.output, hb.size, hb.block⟩ hb.size _
        have hsA : ∀ q, w5.heap.size ≤ ((wr.drewN q).alloc (.cells #[.int .i64 lx, .int .i64 ly] 37)).heap.size := fun q => (hbA q).size
        have k1 : Hid (m + 1 ≤ maxLen) := by show _ ≤ _; unfold maxLen; omega
        have k2 : Hid ((m + 1) * 16 ≤ 140737488355328) := by show _ ≤ _; omega
        go_wp2_with fail
        go_quiet (fail)
        go_wp2_with (at_builtin; refine wpList_append_any _ rfl _ _ 28 rfl w5.heap.size 37 i0 _ 2 16 Tryd.underlying28 hi0 hz0 hz1 hz2 rfl (by decide) _ m (enC (ofL (ls.take j) lx)) rfl (hrowA _) 1 [.int .i64 lx, .int .i64 ly] _ rfl (hsrc _) k1.out k2.out (hsA _) ?_)
        intro v' w' q1 q2
        go_wp2_with fail
        go_roundw
        case rel => exact ⟨j + 1, m + 1, by omega, by simp, hnl.out.symm, by rw [hnew.out]; exact q1, below_grown (hbA _) (hrowA _) (Nat.le_refl _) (Nat.le_refl _) q2⟩
        case measure => simp [RowKit.intOf]; omega
      · rw [if_neg hx] at htk
        have Htk : Hid (_ = _) := htk
        have hxn : (ls[j].1 == ls[k].1) = false := by simpa using hx
        clear htk
        generalize ls[j].1 = lj at *
        generalize hgk : ls[k].1 = lx at *
        go_wp2_with fail
        go_quiet (fail)
        go_wp2_with fail
        go_roundw
        case rel => exact ⟨j + 1, m, by omega, by simp, by rw [Htk.out]; exact hm, by rw [Htk.out]; exact hrow, ⟨hb.os, hb.tape, hb.output, hb.size, hb.block⟩⟩
        case measure => simp [RowKit.intOf]; omega
    · obtain rfl : j = k + 1 := by omega
      have hjk' : ¬ (((k + 1 : Nat) : Int) ≤ k) := by omega
      have hml : (ofL (ls.take k) ls[k].1).length ≤ 101 := by have := ofL_len (ls.take k) ls[k].1; rw [List.length_take] at this; omega
      have hm1 : m = (ofL (ls.take k) ls[k].1).length + 1 := by rw [hm, own_last ls hk]; simp
      have hE : EnAt wr u10 (ofL (ls.take (k + 1)) ls[k].1) := en_of_row (by rw [← hm]; exact hrow) (by rw [← hm]; omega)
      have hL := Labels_yes _ _ _ hE (refE_ofL Hre2.out _) (ht.below hwr)
      rw [← hm] at hL
      have T6r := T6'.below hb
      have T8r := T8.below hb
      obtain ⟨ua, uc, rfl⟩ : ∃ a c, u10 = .slice a m c := by
        rcases hrow.2 with ⟨e1, e2⟩ | ⟨g, cp, cur, e1, _⟩
        · exact ⟨_, _, by rw [e1, e2]⟩
        · exact ⟨_, _, e1⟩
      obtain ⟨p, hp⟩ : ∃ p, p = (ofL (ls.take k) ls[k].1).length := ⟨_, rfl⟩
      rw [← hp] at hm1 hml
      have HP : Hid (p = (ofL (ls.take k) ls[k].1).length) := hp
      have HM : Hid (m = (ofL (ls.take (k + 1)) ls[k].1).length) := hm
      subst hm1
      clear hp hm hE hrow T6' T8
      go_wp2_with fail
      refine hL.mono ?_
      rintro e w6 ⟨v12, rfl, q1, q2⟩
      have B6 : Below w.heap.size w w6 := hwr.trans (q2.mono hwr.size)
      have T6s := T6r.below q2
      have T8s := T8r.below q2
      have T12 : TxAt w6 v12 (labs (ofL (ls.take (k + 1)) ls[k].1)) := TxAt.of_row (by rw [labs_length, ← HM.out]; exact q1) (by rw [labs_length, ← HM.out]; omega)
      clear T6r T8r hL q1
      obtain ⟨b6, o6, c6, rfl, d6⟩ := tx_lab T6s hk
      obtain ⟨b8, o8, c8, rfl, d8⟩ := tx_lab T8s (i := k) (by rw [Hlt.out]; omega)
      obtain ⟨b12, o12, c12, rfl, d12⟩ := tx_lab T12 (i := p) (by rw [← HM.out]; omega)
      rw [lab_take ls k] at d8
      rw [HP.out, lab_own ls hk HOK.out, ← HP.out] at d12
      have dk := (B6.cell (p := ⟨b, o + k * 2, none⟩) hbl).trans (HC.out k hk).1
      rw [← HN.out, Hlt.out, ← HM.out]
      clear T6s T8s T12
      have hpi : ((p + 1 : Nat) : Int) - 1 = (p : Int) := by omega
      have hl0 : ls[k].1 = 0 → lab ls k = [] := lab_zero ls hk
      have hl1 : ls[k].1 ≠ 0 → lab ls k ≠ [] := lab_ne ls hk
      generalize lab ls k = S at *
      generalize ls[k].1 = lx at *
      by_cases h0 : lx = 0
      · rw [hl0 h0] at d6 d8 d12
        rw [h0] at dk
        clear hl0 hl1 h0
        go_wp2_with fail
        go_quiet (fail)
        go_wp2_with fail
        go_ret
        exact ⟨rfl, ⟨B6.os, B6.tape, B6.output, B6.size, B6.block⟩⟩
      · have hne := hl1 h0
        have hT : (ByteArray.toList (⟨S.toArray⟩ : ByteArray)).isEmpty = false := by
          rw [ByteArray.toList_eq]
          cases S with
          | nil => exact absurd rfl hne
          | cons c r => rfl
        have hlx : (lx == 0) = false := by simpa using h0
        clear hl0 hl1 hne
        generalize (⟨S.toArray⟩ : ByteArray) = T at *
        go_wp2_with fail
        go_quiet (fail)
        go_wp2_with fail
        go_ret
        exact ⟨rfl, ⟨B6.os, B6.tape, B6.output, B6.size, B6.block⟩⟩

set_option maxRecDepth 100000 in
theorem lifted (os : Os) (started : os.Started) (H : Type) (enc : TypeId × Value → H) :
    ReturnsInHanded {} Tryd.checked os 5 .any (fun w args => (Rows.numberAheadSpec.pre enc Tryd.prog Tryd.f5 Rows.numberAheadRow.domain false w args ∧ laidMetH Tryd.prog laidL w) ∧ sizedMet enc Tryd.prog Tryd.f5 (OpenSpec.ofChange Rows.numberAheadSpec) false w args)
      (Rows.numberAheadSpec.post enc Tryd.prog Tryd.f5 false true false false) := by
  refine returnsInHanded_of_change_and (C := Tryd.checked) (X := fun w _ => laidMetH Tryd.prog laidL w) (fun _ _ _ hh h => h.of_heap hh) own started (by kernel_rfl) Tryd.func5
    (ChangeSpec.witness_shaped (enc := enc) (C := Tryd.checked) (os := os) (X := fun w _ => laidMetH Tryd.prog laidL w) false (World.laidAll Tryd.prog os laidL) #[.slice none 0 0, .int .i64 0] 8 (World.laidAll_os _ _ _)
      (World.shaped_of_ZipB (by kernel_rfl) (by kernel_rfl)) (by kernel_rfl) (by kernel_rfl) (by kernel_rfl)
      (by rw [MakeChecks.laidMetH_plain _ _ _ (by kernel_rfl)]; exact laidMet_laidAll _ (by kernel_rfl) (by kernel_rfl))) ?_
  intro W base args ds gs before hval0 hW hcnd _ hL _
  have hval : ∀ (j : Nat) t v, Tryd.f5.params[j]? = some t → args[j]? = some v → Value.okWide Tryd.prog W .any base t v := hval0
  have hW' := hW
  obtain ⟨p, q, hA0, hV, rfl, hfz, hnd⟩ := hW
  have hA : DataW.TrodAll enc Tryd.prog W 0 (fun _ => true) true Tryd.f5.params.toList args.toList ds p := hA0
  rw [Tryd.params5] at hA hval
  obtain ⟨v0, vs0, d0, ds0, p0, q0, hargs, rfl, rfl, h0, r0⟩ := trodAll_cons hA
  obtain ⟨v1, vs1, d1, ds1, p1, q1, rfl, rfl, rfl, h1, r1⟩ := trodAll_cons r0
  obtain ⟨rfl, rfl, rfl⟩ := trodAll_nil r1
  obtain rfl : args = #[v0, v1] := by cases args; simp_all
  obtain ⟨rfl, rfl⟩ := trodVars_none hV
  obtain ⟨x0, len0, cap0, rfl⟩ := okWide_slice Tryd.underlying28 (hval 0 28 v0 rfl rfl)
  have k0 := h0
  have lt0 : ∀ x ∈ p0, x.block < W.heap.size := by obtain ⟨m, hm⟩ := k0; exact DataW.trod_lt m _ _ _ hm
  obtain ⟨ls0, rfl, hl0, hc0, hS0⟩ := entries_in h0
  obtain ⟨a1, rfl, rfl, rfl, w1⟩ := open_int Tryd.underlying3 (hval 1 3 v1 rfl rfl) h1
  clear hA0 hval0
  refine (walk x0 cap0 ls0 hl0 hc0 hS0 a1 (tab_of hL)).mono fun e W' ⟨he, bel⟩ => ?_
  subst he
  exact ⟨_, rfl, _, _, _, [], _, [], hW', trodAll_mk1 (shut_bool Tryd.underlying4 _), (trodAll_cons_mk (Below.trod laidOut (by kernel_rfl) (of_decide_eq_true (by kernel_rfl)) k0 bel lt0) (trodAll_cons_mk (shut_int Tryd.underlying3 w1) trodAll_mk0)), rfl, bel.frame _, fun h => by cases h⟩

theorem over : Rows.NumberAheadSaid :=
  OpenClaim.holds_of_wide 5 Tryd.f5 rfl rfl rfl rfl rfl rfl rfl ⟨rfl, rfl, rfl, rfl, rfl⟩ rfl rfl rfl rfl rfl (by kernel_rfl) Tryd.func5 (by kernel_rfl)
    (of_decide_eq_true (by kernel_rfl)) (by unfold Func.isWrapper; first | (rw [if_pos (by decide +kernel)]; kernel_rfl) | (rw [if_neg (by decide +kernel)]; exact ⟨rfl, rfl⟩))
    (fun os started H enc _ => lifted os started H enc)

end Go.Proofs.YtjagnidkjpmkcaaDoor.numberAhead
namespace Go.Proofs.YtjagnidkjpmkcaaDoor

theorem numberAhead_holds : Rows.NumberAheadCardSaid :=
  Claim7.holds_tied_plain_at .later [] [.data, .data, .data] true (true, "c601c4f8caee564fb420438873ca0a117589b02a3eb6d476e76363b032b0e9b9") false numberAhead.over (fun _ h => by cases h) (by kernel_rfl) (fun _ h => by cases h) numberAhead_row_tie rfl ⟨rfl, rfl⟩ (by kernel_rfl) rfl
    (fun f fn hf hfn => by
      obtain rfl : f = 5 := Option.some.inj ((show Tryd.prog.funcNamed "quire/quirelaw04.NumberAhead" = some 5 by kernel_rfl).symm.trans hf) |>.symm
      obtain rfl : fn = Tryd.f5 := (Option.some.inj (Tryd.func5.symm.trans hfn)).symm
      exact ⟨by kernel_rfl, fun j t ht => by
        rw [Tryd.params5] at ht
        have hm : t ∈ [28, 3] := by simpa using Array.mem_of_getElem? ht
        have hall : ([28, 3].all fun u => !Tryd.prog.wantsStandIn u) = true := by kernel_rfl
        exact (show Tryd.prog.wantsStandIn t = false by simpa using List.all_eq_true.1 hall t hm)⟩)
    (by kernel_rfl)

end Go.Proofs.YtjagnidkjpmkcaaDoor
