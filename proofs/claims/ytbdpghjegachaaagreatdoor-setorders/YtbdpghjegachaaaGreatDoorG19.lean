/-
  What is proved here: what at of digits and odd of a hyph answer.
-/
import Derived.Test.YtbdpghjegachaaaGreatDoorG18
namespace Go.Proofs.YtbdpghjegachaaaGreatDoor.Hy
open Go.RowKit Go.Shelf

set_option maxHeartbeats 1000000 in
theorem at_any (w : World) (v : Value) (d : List Int) (hr : w.ownsRow 0 3 1 v d.length (ints d)) (k : Nat) (_hd : d.length ≤ 2000) : Calls Tryz.prog 193 #[v, .int .i64 k] w fun e w' => e = .returned (.int .i64 (atL d k)) ∧ w' = w := by
  obtain ⟨a, cap, rfl⟩ := row_val hr
  by_cases hk : k < d.length
  · obtain ⟨g, cap', hga, hcap, hcell⟩ := row_get hr hk
    cases hga
    have ck := hcell k
    rw [if_pos hk, ints_get d hk] at ck
    have e1 : atL d k = d[k]'hk := by simp [atL, List.getD_eq_getElem?_getD, List.getElem?_eq_getElem hk]
    rw [e1]
    generalize d[k]'hk = u at *
    have hk' : ¬ (d.length : Int) ≤ k := by omega
    clear hcell hr e1
    go_enter Tryz.func193, Tryz.ntmps193
    go_wp2_with fail
    go_ret
    exact ⟨rfl, rfl⟩
  · have e1 : atL d k = 0 := by simp [atL, List.getD_eq_getElem?_getD, List.getElem?_eq_none (by omega : d.length ≤ k)]
    rw [e1]
    have hk' : (d.length : Int) ≤ k := by omega
    clear e1 hr
    go_enter Tryz.func193, Tryz.ntmps193
    go_wp2_with fail
    go_ret
    exact ⟨rfl, rfl⟩

/-- The places below k with odd values, two letters ahead. -/
def oddTo (vals : List Int) (k : Nat) : List Int := ((List.range k).filter (fun j => decide (2 ≤ j) && decide ((atL vals (j + 1)).tmod 2 = 1))).map (fun j : Nat => (j : Int))
theorem oddTo_succ (vals : List Int) (k : Nat) : oddTo vals (k + 1) = if 2 ≤ k ∧ (atL vals (k + 1)).tmod 2 = 1 then oddTo vals k ++ [(k : Int)] else oddTo vals k := by
  unfold oddTo
  rw [List.range_succ, List.filter_append, List.map_append]
  by_cases h : 2 ≤ k ∧ (atL vals (k + 1)).tmod 2 = 1
  · rw [if_pos h]; simp [h.1, h.2]
  · rw [if_neg h]
    have : (decide (2 ≤ k) && decide ((atL vals (k + 1)).tmod 2 = 1)) = false := by
      cases h1 : decide (2 ≤ k) <;> cases h2 : decide ((atL vals (k + 1)).tmod 2 = 1) <;> simp_all
    simp [this]
theorem oddTo_small (vals : List Int) {k : Nat} (h : k ≤ 2) : oddTo vals k = [] := by
  unfold oddTo
  rw [List.map_eq_nil_iff, List.filter_eq_nil_iff]
  intro j hj
  have := List.mem_range.1 hj
  have : ¬ 2 ≤ j := by omega
  simp [this]
theorem oddTo_len (vals : List Int) (k : Nat) : (oddTo vals k).length ≤ k := by
  unfold oddTo
  rw [List.length_map]
  exact Nat.le_trans (List.length_filter_le _ _) (by simp)
def dot (l : Bs) : Bs := 46 :: (l ++ [46])
theorem dot_str (s : ByteArray) : ((⟨#[46]⟩ : ByteArray) ++ s ++ ⟨#[46]⟩).data.toList = dot s.data.toList := by
  rw [ByteArray.data_append, ByteArray.data_append]
  simp [dot]
def oddL (T : Tr) (l : Bs) : List Int := oddTo (mats T (dot l) (dot l).length) (l.length - 2)

section
variable {w : World} {rb : Nat} {s e : Value} {T : Tr} {N : Ns} {M : Nat}
set_option maxRecDepth 100000 in
set_option maxHeartbeats 2000000 in
theorem odd_any (h : TrieAt w rb s e T N M) (t : ByteArray) (ht : t.size ≤ 64) :
    Calls Tryz.prog 169 #[.pointer (some ⟨rb, 0, none⟩), .string t] w fun r w' => ∃ v, r = .returned v ∧ Below w.heap.size w w' ∧ w'.ownsRow w.heap.size 3 1 v (oddL T t.data.toList).length (ints (oddL T t.data.toList)) := by
  obtain ⟨i3, hi⟩ := Option.isSome_iff_exists.1 (show (Tryz.prog.info? 3).isSome = true by kernel_rfl)
  have hz0 : i3.zero = some (.int .i64 0) := by
    have h : (Tryz.prog.info? 3).map (·.zero) = some (some (.int .i64 0)) := by kernel_rfl
    rw [hi] at h; simpa using h
  have hz1 : i3.size = 1 := by
    have h : (Tryz.prog.info? 3).map (·.size) = some 1 := by kernel_rfl
    rw [hi] at h; simpa using h
  have hz2 : i3.bytes = 8 := by
    have h : (Tryz.prog.info? 3).map (·.bytes) = some 8 := by kernel_rfl
    rw [hi] at h; simpa using h
  obtain ⟨b, hb⟩ : ∃ b, w.heap.size = b := ⟨_, rfl⟩
  obtain ⟨w1, hw1⟩ : ∃ w1, w.alloc (.cells #[.slice none 0 0] 203) = w1 := ⟨_, rfl⟩
  have hB1 : Blk w1 b #[.slice none 0 0] 203 := by rw [← hw1, ← hb]; exact World.alloc_heap_new w _
  have hb1 : Below b w w1 := by rw [← hw1, ← hb]; exact (Below.refl _ _).alloc (Nat.le_refl _) _
  have hT1 : TrieAt w1 rb s e T N M := by rw [← hw1]; exact h.turns (Turns.alloc Noth _ _) (fun _ h => h.elim)
  have hX : ∀ k, (k = b ∨ (Value.slice none 0 0).ownBlock = some k) → ¬ NOwn N k := by
    rintro k (rfl | hk) h1
    · have := h.lt h1; omega
    · cases hk
  have hD1 : Dig w1 (.slice none 0 0) b 0 #[.slice none 0 0] 203 [] w1 := Dig.start hB1 rfl (World.ownsRow_nil _ _ _ _)
  obtain ⟨q, hq⟩ : ∃ q : ByteArray, (⟨#[46]⟩ : ByteArray) ++ t ++ ⟨#[46]⟩ = q := ⟨_, rfl⟩
  have hql : q.data.toList = dot t.data.toList := by rw [← hq]; exact dot_str t
  have hqs : q.size = t.size + 2 := by rw [← size_ba, hql, dot]; simp
  have hO : Hid (oddL T t.data.toList = oddTo (mats T q.data.toList q.size) (t.size - 2)) := by
    show _ = _
    unfold oddL
    rw [← hql, size_ba, size_ba]
  have hmat : Hid (∀ (i : Nat) (d : List Int) (w2 : World), i ≤ q.size → Dig w1 (.slice none 0 0) b 0 #[.slice none 0 0] 203 d w2 → d.length ≤ 2000 → Calls Tryz.prog 191 #[.pointer (some ⟨rb, 1, none⟩), .string q, .int .i64 i, .func (.func 192) #[.pointer (some ⟨b, 0, none⟩)] #[]] w2 fun r w' => r = .returned (.tuple #[]) ∧ Dig w1 (.slice none 0 0) b 0 #[.slice none 0 0] 203 (matA T q.data.toList i d) w' ∧ (matA T q.data.toList i d).length ≤ 2000) :=
    fun i d w2 h1 h2 h3 => match_any hT1 q (by omega) i h1 (by simp) (by decide) hX h2 h3
  generalize oddL T t.data.toList = O at *
  clear hX hT1 h hql
  go_enter Tryz.func169, Tryz.ntmps169
  go_wp2_with fail
  go_loopw [15] (fun i wr => ∃ (k : Nat) (d : List Int), k ≤ t.size + 2 ∧ i = .int .i64 k ∧ Dig w1 (.slice none 0 0) b 0 #[.slice none 0 0] 203 d wr ∧ d.length ≤ 2000 ∧ Hid (d = mats T q.data.toList k)) (fun i _ => t.size + 2 - (intOf i).toNat)
  case atStart => exact ⟨0, [], by omega, rfl, hD1, by simp, rfl⟩
  case round =>
    obtain ⟨k, d, hk, rfl, hD, hl, hd⟩ := hrel
    by_cases hlt : k < t.size + 2
    · have hM := hmat.out k d wr (by omega) hD hl
      have hd2 : Hid (matA T q.data.toList k d = mats T q.data.toList (k + 1)) := by
        show _ = _
        rw [mats, ← hd.out]
      have hlt' : (k : Int) < t.size + 2 := by omega
      have hMh : Hid (Calls Tryz.prog 191 #[.pointer (some ⟨rb, 1, none⟩), .string q, .int .i64 k, .func (.func 192) #[.pointer (some ⟨b, 0, none⟩)] #[]] wr fun r w' => r = .returned (.tuple #[]) ∧ Dig w1 (.slice none 0 0) b 0 #[.slice none 0 0] 203 (matA T q.data.toList k d) w' ∧ (matA T q.data.toList k d).length ≤ 2000) := hM
      clear hM hmat hO hd hD1
      generalize matA T q.data.toList k d = d2 at *
      go_wp2_with (go_at_call 191; refine hMh.out.mono ?_; rintro e w' ⟨rfl, hD2, hl2⟩)
      go_roundw
      case rel => exact ⟨k + 1, d2, by omega, by simp, hD2, hl2, hd2⟩
      case measure => simp [intOf]; omega
    · obtain rfl : k = t.size + 2 := by omega
      have hO2 : Hid (O = oddTo d (t.size - 2)) := by
        show _ = _
        rw [hO.out, hd.out, hqs]
      have hlt' : ¬ ((t.size + 2 : Nat) : Int) < t.size + 2 := by omega
      obtain ⟨wm, rfl⟩ : ∃ wm, wm = wr := ⟨_, rfl⟩
      obtain ⟨v, hv1, hv2, hv3, hv4⟩ := hD
      have hv1' : Blk wm b #[v] 203 := hv1
      have cv : wm.cell? ⟨b, 0, none⟩ = some v := by rw [hv1'.cell]; rfl
      obtain ⟨av, capv, rfl⟩ := row_val hv2
      have hBl : Below b w wm := by
        refine ⟨hv3.os.trans hb1.1, hv3.tape.trans hb1.2, hv3.output.trans hb1.3, Nat.le_trans hb1.size hv3.size, fun k hk => (hv3.block k (by have := hb1.size; omega) ?_).trans (hb1.block k hk)⟩
        rintro (h | h)
        · omega
        · cases h
      have hs : b < wm.heap.size := hv1'.lt
      have hrow : Hid (wm.ownsRow 0 3 1 (.slice av d.length capv) d.length (ints d)) := hv2
      have hbk : Hid (Blk wm b #[.slice av d.length capv] 203) := hv1'
      clear hv1 hv1' hv2 hv3 hv4 hO hd hmat hD1 hb1 hB1
      generalize hdl : d.length = n at *
      go_wp2_with fail
      go_loopw [8, 9] (fun a i wr => ∃ (k : Nat), 2 ≤ k ∧ (k ≤ 2 ∨ k ≤ t.size - 2) ∧ i = .int .i64 k ∧ Hid (Below wm.heap.size wm wr ∧ wr.ownsRow wm.heap.size 3 1 a (oddTo d k).length (ints (oddTo d k)))) (fun _ i _ => t.size - (intOf i).toNat)
      case atStart => exact ⟨2, by omega, .inl (by omega), rfl, Below.refl _ _, by rw [oddTo_small _ (Nat.le_refl _)]; exact World.ownsRow_nil _ _ _ _⟩
      case round =>
        obtain ⟨k, hk2, hk, rfl, hH⟩ := hrel
        have hbel := hH.out.1
        obtain ⟨aa, capa, hva⟩ := row_val hH.out.2
        subst hva
        have hlen := oddTo_len d k
        by_cases hlt2 : k + 3 ≤ t.size
        · have f1 : (k : Int) ≤ t.size - 3 := by omega
          have cv2 : wr.cell? ⟨b, 0, none⟩ = some (.slice av n capv) := by
            rw [← cv]; exact World.cell?_of_block (hbel.block b hs)
          have hat := at_any wr (.slice av n capv) d (by rw [hdl]; exact ownsRow_below hrow.out hbel) (k + 1) (by omega)
          have hos := oddTo_succ d k
          have hath : Hid (∀ z : Int, z = ((k + 1 : Nat) : Int) → Calls Tryz.prog 193 #[.slice av n capv, .int .i64 z] wr fun e w' => e = .returned (.int .i64 (atL d (k + 1))) ∧ w' = wr) := by
            rintro z rfl; exact hat
          have hsz := hbel.size
          by_cases ho : (atL d (k + 1)).tmod 2 = 1
          · rw [if_pos ⟨hk2, ho⟩] at hos
            have hnext : Hid (∀ v' w2, w2.ownsRow wm.heap.size 3 1 v' ((oddTo d k).length + 1) (ints (oddTo d k) ++ [.int .i64 k]) → (wr.alloc (.cells #[.int .i64 k] 3)).grownBy w2 (Value.slice aa (oddTo d k).length capa).ownBlock → Below wm.heap.size wm w2 ∧ w2.ownsRow wm.heap.size 3 1 v' (oddTo d (k + 1)).length (ints (oddTo d (k + 1)))) := by
              intro v' w2 h1 h2
              refine ⟨below_grown (hbel.alloc hbel.size _) (hH.out.2.alloc _) (Nat.le_refl _) (Nat.le_refl _) h2, ?_⟩
              rw [hos, ints_append, List.length_append]; exact h1
            have hrowa : Hid (wr.ownsRow wm.heap.size 3 1 (.slice aa (oddTo d k).length capa) (oddTo d k).length (ints (oddTo d k))) := hH.out.2
            generalize atL d (k + 1) = y at *
            clear hat hos hH hbel hbk hrow
            generalize hol : (oddTo d k).length = m at *
            go_wp2_with (first | (go_at_call 193; refine (hath.out _ (by omega)).mono ?_; rintro e w' ⟨rfl, hww⟩; subst w') | (at_builtin; refine wpList_append_any _ rfl _ _ 44 rfl wm.heap.size 3 i3 _ 1 8 Tryz.underlying44 hi hz0 hz1 hz2 rfl (by decide) _ m _ rfl (by exact hrowa.out.alloc _) 1 _ _ rfl (by exact srcs_one wr 3 (.int .i64 k) rfl) (by unfold maxLen; omega) (by omega) (by simp; omega) ?_; intro v2 w2 hown hgrow; obtain ⟨a2, cap2, rfl⟩ := row_val hown))
            have hfin := hnext.out _ w2 hown hgrow
            go_roundw
            case rel => exact ⟨k + 1, by omega, .inr (by omega), by simp, hfin⟩
            case measure => simp [intOf]; omega
          · rw [if_neg (fun h => ho h.2)] at hos
            have hnext : Hid (Below wm.heap.size wm wr ∧ wr.ownsRow wm.heap.size 3 1 (.slice aa (oddTo d k).length capa) (oddTo d (k + 1)).length (ints (oddTo d (k + 1)))) := by rw [hos]; exact hH.out
            generalize atL d (k + 1) = y at *
            have ho' : Hid (¬ y.tmod 2 = 1) := ho
            clear hat hos hH hbel hbk hrow
            generalize hol : (oddTo d k).length = m at *
            go_wp2_with (go_at_call 193; refine (hath.out _ (by omega)).mono ?_; rintro e w' ⟨rfl, hww⟩; subst w')
            go_roundw
            case rel => exact ⟨k + 1, by omega, .inr (by omega), by simp, hnext⟩
            case measure => simp [intOf]; omega
        · have f1 : ¬ (k : Int) ≤ t.size - 3 := by omega
          have hOk : O = oddTo d k := by
            rw [hO2.out]
            rcases hk with h | h
            · rw [oddTo_small _ h, oddTo_small _ (by omega)]
            · rw [show k = t.size - 2 by omega]
          have hbel2 : Below b w wr := hBl.trans (hbel.mono (by omega))
          have hrowa : Hid (wr.ownsRow b 3 1 (.slice aa (oddTo d k).length capa) O.length (ints O)) := by rw [hOk]; exact ownsRow_base hH.out.2 (by omega)
          clear hH hO2 hOk hbk hrow
          generalize hol : (oddTo d k).length = m at *
          go_wp2_with fail
          go_ret
          exact ⟨_, rfl, hbel2, hrowa.out⟩
end
end Go.Proofs.YtbdpghjegachaaaGreatDoor.Hy
