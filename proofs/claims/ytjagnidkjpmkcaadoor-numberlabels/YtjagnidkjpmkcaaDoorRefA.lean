/-
  What is proved here: what the document's own dec, behind and letters tell.
-/
import Derived.Test.YtjagnidkjpmkcaaDoorLabel
namespace Go.Proofs.YtjagnidkjpmkcaaDoor
open Go.RowKit Go.Shelf

theorem dec_small {n : Nat} (h : n < 10) : Lib.decDigits n = [UInt8.ofNat (48 + n)] := by rw [Lib.decDigits, dif_pos h]
theorem dec_big {n : Nat} (h : 10 ≤ n) : Lib.decDigits n = Lib.decDigits (n / 10) ++ Lib.decDigits (n % 10) := by
  rw [dec_small (n := n % 10) (by omega), Lib.decDigits, dif_neg (by omega)]

theorem str_add2 (a b : List UInt8) : (⟨a.toArray⟩ : ByteArray) ++ ⟨b.toArray⟩ = ⟨(a ++ b).toArray⟩ := by
  apply ByteArray.ext
  simp

set_option maxHeartbeats 1000000 in
set_option maxRecDepth 100000 in
theorem dec_any (n : Nat) (hn : n ≤ 3999) (w : World) : Calls Tryd.prog 24 #[.int .i64 n] w fun e w' => e = .returned (.string ⟨(Lib.decDigits n).toArray⟩) ∧ w' = w := by
  induction n using Nat.strongRecOn with
  | ind n ih =>
    by_cases h : n < 10
    · rw [dec_small h]
      have h10 : n = 0 ∨ n = 1 ∨ n = 2 ∨ n = 3 ∨ n = 4 ∨ n = 5 ∨ n = 6 ∨ n = 7 ∨ n = 8 ∨ n = 9 := by omega
      clear ih
      rcases h10 with rfl | rfl | rfl | rfl | rfl | rfl | rfl | rfl | rfl | rfl
      all_goals
        go_enter Tryd.func24, Tryd.ntmps24
        go_wp2_with fail
        go_ret
        exact ⟨rfl, rfl⟩
    · have i1 := ih (n / 10) (by omega) (by omega)
      have i2 := ih (n % 10) (by omega) (by omega)
      have hb : ¬ ((n : Int) < 10) := by omega
      have e1 : (n : Int) / 10 = ((n / 10 : Nat) : Int) := by omega
      have e2 : (n : Int) % 10 = ((n % 10 : Nat) : Int) := by omega
      have l1 : ¬ (9223372036854775807 < (Lib.decDigits (n / 10)).length + (Lib.decDigits (n % 10)).length) := by have := dec_len (n / 10); have := dec_len (n % 10); omega
      have hd : Hid (_ = _) := dec_big (n := n) (by omega)
      rw [← e1] at i1
      rw [← e2] at i2
      clear ih e1 e2
      go_enter Tryd.func24, Tryd.ntmps24
      go_wp2_with fail
      refine i1.mono ?_
      rintro e w' ⟨rfl, rfl⟩
      go_wp2_with fail
      refine i2.mono ?_
      rintro e w' ⟨rfl, rfl⟩
      go_wp2_with fail
      go_ret
      refine ⟨?_, rfl⟩
      rw [hd.out]
      exact congrArg (fun x => Ending.returned (Value.string x)) (str_add2 _ _)

/-- The word behind a word. -/
def nxt (l : List UInt8) : List UInt8 := (incr l.reverse).reverse
theorem nxt_letters (k : Nat) : nxt (lettersN k) = lettersN (k + 1) := by unfold nxt lettersN; rw [List.reverse_reverse, incr_revL]

theorem row_set {W : World} {B g n cap : Nat} {xs : List Value} (h : W.ownsRow B 5 1 (.slice (some ⟨g, 0, none⟩) n cap) n xs) (i : Nat) (u : Value) : (W.setCell ⟨g, i, none⟩ u).ownsRow B 5 1 (.slice (some ⟨g, 0, none⟩) n cap) n (xs.set i u) := by
  refine ⟨by simpa using h.1, ?_⟩
  rcases h.2 with ⟨hv, _⟩ | ⟨g', cap', cur, hv, hb, hg, hnc, hcm, hcs, ht⟩
  · cases hv
  · cases hv
    refine .inr ⟨g, cap, cur.setIfInBounds i u, rfl, hb, by simp [World.setCell, Array.getElem?_modify, hg], hnc, hcm, by simpa using hcs, ?_⟩
    rw [← ht]
    simp [List.take_set]

theorem byteCells_set (l : List UInt8) (i : Nat) (c : UInt8) : (Lib.byteCells l).set i (.int .u8 c.toNat) = Lib.byteCells (l.set i c) := by simp [Lib.byteCells, List.map_set]

theorem incr_low {p : List UInt8} {c : UInt8} (h : c.toNat < 122) : incr (p ++ [c]).reverse = (c + 1) :: p.reverse := by
  rw [List.reverse_append, List.reverse_singleton, List.singleton_append, incr, if_pos (by rw [UInt8.lt_iff_toNat_lt]; exact h)]
theorem incr_high {p : List UInt8} {c : UInt8} (h : ¬ c.toNat < 122) : incr (p ++ [c]).reverse = 97 :: incr p.reverse := by
  rw [List.reverse_append, List.reverse_singleton, List.singleton_append, incr, if_neg (by rw [UInt8.lt_iff_toNat_lt]; exact h)]

theorem set_mid (l : List UInt8) (m : Nat) (hm : m < l.length) (c : UInt8) (t : List UInt8) : (l.take (m + 1) ++ t).set m c = l.take m ++ (c :: t) := by
  have hl : (l.take m).length = m := by rw [List.length_take]; omega
  rw [List.take_succ_eq_append_getElem hm, List.append_assoc, List.set_append, if_neg (by omega), hl, Nat.sub_self]
  rfl

theorem byte_succ (c : UInt8) (h : c.toNat < 122) : ((c + 1).toNat : Int) = (c.toNat : Int) + 1 := by
  rw [UInt8.toNat_add]
  show (((c.toNat + 1) % 256 : Nat) : Int) = _
  omega

set_option maxHeartbeats 4000000 in
set_option maxRecDepth 100000 in
theorem behind_any (B : Nat) (v : Value) (l : List UInt8) (hlen : l.length ≤ 100000) (w : World) (hown : w.ownsRow B 5 1 v (Lib.byteCells l).length (Lib.byteCells l)) (hv : v ≠ .slice none 0 0) (hB : B ≤ w.heap.size) :
    Calls Tryd.prog 34 #[v] w fun e w' => ∃ v', e = .returned v' ∧ w'.ownsRow B 5 1 v' (Lib.byteCells (nxt l)).length (Lib.byteCells (nxt l)) ∧ v' ≠ .slice none 0 0 ∧ Below B w w' := by
  obtain ⟨g, cap, rfl⟩ : ∃ g cap, v = .slice (some ⟨g, 0, none⟩) (Lib.byteCells l).length cap := by
    rcases hown.2 with ⟨h, _⟩ | ⟨g, cap, _, h, _⟩
    · exact absurd h hv
    · exact ⟨g, cap, h⟩
  have hBg : B ≤ g := (hown.lt g rfl).1
  obtain ⟨n, hnl⟩ : ∃ n, n = (Lib.byteCells l).length := ⟨_, rfl⟩
  have hnl2 : n = l.length := by rw [hnl]; simp [Lib.byteCells]
  rw [← hnl] at hown ⊢
  have HN : Hid (n = (Lib.byteCells l).length) := hnl
  have HN2 : Hid (n = l.length) := hnl2
  have hn5 : n ≤ 100000 := by omega
  clear hnl hnl2 hlen
  go_enter Tryd.func34, Tryd.ntmps34
  go_wp2_with fail
  go_loopw [3] (fun i wr => ∃ m j : Nat, m + j = n ∧ i = .int .i64 ((m : Int) - 1) ∧ wr.ownsRow B 5 1 (.slice (some ⟨g, 0, none⟩) n cap) n (Lib.byteCells (l.take m ++ List.replicate j 97)) ∧ Below B w wr ∧ Hid (incr l.reverse = List.replicate j 97 ++ incr (l.take m).reverse)) (fun i _ => (RowKit.intOf i + 1).toNat)
  case atStart => exact ⟨n, 0, rfl, rfl, by rw [HN2.out, List.take_length]; simpa using HN2.out ▸ hown, Below.refl _ _, by rw [HN2.out, List.take_length]; rfl⟩
  case round =>
    obtain ⟨m, j, hmj, rfl, hrow, hb, hi⟩ := hrel
    have hrl : (l.take m ++ List.replicate j 97).length = n := by have := HN2.out; rw [List.length_append, List.length_take, List.length_replicate]; omega
    have hbw : B ≤ wr.heap.size := by have := hb.size; omega
    by_cases hm : m = 0
    · have hneg : ¬ ((0 : Int) ≤ (m : Int) - 1) := by omega
      obtain ⟨i0, hi0, hz0, hz1, hz2⟩ := info_parts info5
      have hnew : Hid (Lib.byteCells (nxt l) = Lib.byteCells (l.take m ++ List.replicate j 97) ++ [Value.int .u8 97]) := by
        show _ = _
        have : nxt l = List.replicate j 97 ++ [97] := by
          unfold nxt
          rw [hi.out, hm]
          simp [incr, ← List.replicate_succ']
        rw [this, hm, byteCells_append]
        simp [Lib.byteCells]
      have hlt : ∀ k, (Value.slice (some ⟨g, 0, none⟩) n cap).ownBlock = some k → k < wr.heap.size := fun k hk => (hrow.lt k hk).2
      have hsrc : Srcs (wr.alloc (.cells #[.int .u8 97] 5)) 1 (.slice (some ⟨wr.heap.size, 0, none⟩) 1 1) 1 [.int .u8 97] := ⟨rfl, fun u hu => by simp at hu; rw [hu]; rfl, .inr ⟨_, _, rfl, fun q u hq => by
        cases q with
        | zero => rw [addr_add0, Lib.cell_of_heap (heap_new wr _)]; simpa using hq
        | succ q => simp at hq⟩⟩
      have hrow1 := hrow.alloc (.cells #[.int .u8 97] 5)
      have hba := hb.alloc hbw (.cells #[.int .u8 97] 5)
      have k1 : Hid (n + 1 ≤ maxLen) := by show _ ≤ _; unfold maxLen; omega
      have k2 : Hid ((n + 1) * 1 ≤ 140737488355328) := by show _ ≤ _; omega
      have k3 : Hid (B ≤ (wr.alloc (.cells #[.int .u8 97] 5)).heap.size) := by show _ ≤ _; simp; omega
      clear hi
      go_wp2_with (at_builtin; refine wpList_append_any _ rfl _ _ 58 rfl B 5 i0 _ 1 1 Tryd.underlying58 hi0 hz0 hz1 hz2 rfl (by decide) _ n _ rfl hrow1 1 [.int .u8 97] _ rfl hsrc k1.out k2.out k3.out ?_)
      intro v' w' q1 q2
      go_wp2_with fail
      go_ret
      refine ⟨v', rfl, ?_, ?_, below_grown hba hrow1 hB (Nat.le_refl _) q2⟩
      · rw [hnew.out, List.length_append, List.length_singleton]
        have hl2 : (Lib.byteCells (l.take m ++ List.replicate j 97)).length = n := by rw [← hrl]; simp [Lib.byteCells]
        rw [hl2]
        rw [show l.take m = [] by rw [hm]; rfl, List.nil_append]
        exact q1
      · intro e
        rw [e] at q1
        rcases q1.2 with ⟨_, h⟩ | ⟨_, _, _, h, _⟩
        · omega
        · cases h
    · obtain ⟨m', rfl⟩ : ∃ m', m = m' + 1 := ⟨m - 1, by omega⟩
      have hml : m' < l.length := by have := HN2.out; omega
      have hcell : wr.cell? ⟨g, m', none⟩ = some (.int .u8 (l[m'].toNat)) := by
        have := hrow.cells (g := g) rfl m' (.int .u8 (l[m'].toNat)) (by
          simp only [Lib.byteCells, List.getElem?_map]
          rw [List.getElem?_append_left (by rw [List.length_take]; omega), List.getElem?_take, if_pos (by omega), List.getElem?_eq_getElem hml]
          rfl)
        rwa [addr_add0] at this
      have hfz : wr.frozen? ⟨g, m', none⟩ = false := by
        rcases hrow.2 with ⟨h, _⟩ | ⟨g', cap', cur, h, _, hg, _⟩
        · cases h
        · cases h; exact Lib.frozen_of_heap hg m'
      have hpos : (0 : Int) ≤ ((m' + 1 : Nat) : Int) - 1 := by omega
      have htk : l.take (m' + 1) = l.take m' ++ [l[m']] := List.take_succ_eq_append_getElem hml
      have hix : ((m' + 1 : Nat) : Int) - 1 = (m' : Int) := by omega
      have hin : (m' : Int) < n := by omega
      by_cases hc : l[m'].toNat < 122
      · have hfin : Hid (wr.setCell ⟨g, m', none⟩ (.int .u8 ((l[m'] + 1).toNat)) |>.ownsRow B 5 1 (.slice (some ⟨g, 0, none⟩) n cap) (Lib.byteCells (nxt l)).length (Lib.byteCells (nxt l))) := by
          show World.ownsRow _ _ _ _ _ _ _
          have e1 : nxt l = (l.take (m' + 1) ++ List.replicate j 97).set m' (l[m'] + 1) := by
            rw [set_mid l m' hml]
            unfold nxt
            rw [hi.out, htk, incr_low hc]
            simp
          have e2 : (Lib.byteCells (nxt l)).length = n := by rw [e1, ← hrl]; simp [Lib.byteCells]
          rw [e2, e1, ← byteCells_set]
          exact row_set hrow m' _
        have hfb : Hid (Below B w (wr.setCell ⟨g, m', none⟩ (.int .u8 ((l[m'] + 1).toNat)))) := hb.setCell hBg _
        rw [byte_succ _ hc] at hfin hfb
        clear hi htk hrow
        generalize l[m'].toNat = x at hc hcell hfin hfb
        rw [hix]
        go_wp2_with fail
        go_ret
        exact ⟨_, rfl, hfin.out, by simp, hfb.out⟩
      · have hi2 : Hid (incr l.reverse = List.replicate (j + 1) 97 ++ incr (l.take m').reverse) := by
          show _ = _
          rw [hi.out, htk, incr_high hc, List.replicate_succ']
          simp
        have hrow2 : (wr.setCell ⟨g, m', none⟩ (.int .u8 97)).ownsRow B 5 1 (.slice (some ⟨g, 0, none⟩) n cap) n (Lib.byteCells (l.take m' ++ List.replicate (j + 1) 97)) := by
          have e1 : l.take m' ++ List.replicate (j + 1) 97 = (l.take (m' + 1) ++ List.replicate j 97).set m' 97 := by
            rw [set_mid l m' hml, List.replicate_succ]
          rw [e1, ← byteCells_set]
          exact row_set hrow m' _
        have hb2 := hb.setCell (p := ⟨g, m', none⟩) hBg (.int .u8 97)
        clear hi htk hrow
        generalize l[m'].toNat = x at hc hcell
        rw [hix]
        go_wp2_with fail
        go_roundw
        case rel => exact ⟨m', j + 1, by omega, by congr 1, hrow2, hb2, hi2⟩
        case measure => simp [RowKit.intOf]

set_option maxHeartbeats 4000000 in
set_option maxRecDepth 100000 in
theorem refLetters_any (n : Nat) (hn : n ≤ 3999) (w : World) :
    Calls Tryd.prog 25 #[.int .i64 n] w fun e w' => e = .returned (.string ⟨(lettersN n).toArray⟩) ∧ Below w.heap.size w w' := by
  go_enter Tryd.func25, Tryd.ntmps25
  go_wp2_with fail
  go_loopw [3, 4] (fun v i wr => ∃ k : Nat, k ≤ n ∧ i = .int .i64 k ∧ wr.ownsRow w.heap.size 5 1 v (Lib.byteCells (lettersN k)).length (Lib.byteCells (lettersN k)) ∧ v ≠ .slice none 0 0 ∧ Below w.heap.size w wr) (fun _ i _ => n - (RowKit.intOf i).toNat)
  case atStart => exact ⟨0, by omega, rfl, by rw [lettersN_zero]; exact ownsRow_lit w 5 1 _ (Nat.le_refl _), by simp, (Below.refl _ w).alloc (Nat.le_refl _) _⟩
  case round =>
    obtain ⟨k, hk, rfl, hrow, hv, hb⟩ := hrel
    by_cases hlt : k < n
    · have hlt' : (k : Int) < n := by omega
      have hbe := behind_any w.heap.size u3 (lettersN k) (by have := lettersN_len k; omega) wr hrow hv hb.size
      rw [nxt_letters] at hbe
      go_wp2_with (go_at_call 34; refine hbe.mono ?_; rintro e w' ⟨v', rfl, q1, q2, q3⟩)
      go_roundw
      case rel => exact ⟨k + 1, by omega, by simp, q1, q2, hb.trans q3⟩
      case measure => simp [RowKit.intOf]; omega
    · have hge : ¬ ((k : Int) < n) := by omega
      have hcv := conv_own hrow
      have hkn : Hid (k = n) := by show _ = _; omega
      go_wp2_with fail
      go_ret
      exact ⟨by rw [← hkn.out]; rfl, hb⟩

end Go.Proofs.YtjagnidkjpmkcaaDoor
