/-
  What is proved here: what add of a node does: a pattern is put into the trie.
-/
import Derived.Test.YtfblhpkndfbhgaaDoorGrow
namespace Go.Proofs.YtfblhpkndfbhgaaDoor
open Go.RowKit Go.Shelf

/-- A trie's blocks turn, and new ones come. -/
def Ext (N : Ns) (w : World) (N' : Ns) (w' : World) : Prop := Turns (NOwn N) w w' ∧ ∀ k, NOwn N' k → NOwn N k ∨ w.heap.size ≤ k
theorem Ext.refl (N : Ns) (w : World) : Ext N w N w := ⟨Turns.refl _ _, fun _ h => .inl h⟩
theorem Ext.trans {N N1 N2 : Ns} {w w1 w2 : World} (h : Ext N w N1 w1) (h2 : Ext N1 w1 N2 w2) : Ext N w N2 w2 :=
  ⟨h.1.trans' h2.1 h.2, fun k hk => (h2.2 k hk).elim (h.2 k) (fun h' => .inr (Nat.le_trans h.1.size h'))⟩
theorem pathT_prefix (T : Tr) (L : Bs) (c : UInt8) : ∀ n, n ≤ L.length → pathT T (L ++ [c]) n = pathT T L n
  | 0, _ => rfl
  | n + 1, h => by rw [pathT, pathT, pathT_prefix T L c n (by omega), List.take_append_of_le_length h]
theorem pathT_snoc (T : Tr) (L : Bs) (c : UInt8) : pathT T (L ++ [c]) (L ++ [c]).length = growT (pathT T L L.length) (L ++ [c]) := by
  rw [List.length_append, List.length_singleton, pathT, pathT_prefix T L c _ (Nat.le_refl _), List.take_of_length_le (by simp)]
theorem layAll_len (n : Nat) : ∀ (xs : List (Nat × Int)) (d : List Int), d.length ≤ n → (∀ x ∈ xs, x.1 < n) → (layAll d xs).length ≤ n
  | [], _, h, _ => h
  | x :: xs, d, h, hx => by
    refine layAll_len n xs _ ?_ (fun y hy => hx y (by simp [hy]))
    rw [lay_len]
    have := hx x (by simp)
    omega
theorem size_ba (p : ByteArray) : p.data.toList.length = p.size := by show p.data.toList.length = p.data.size; simp
section
variable {w : World} {rb : Nat} {s e : Value} {T : Tr} {N : Ns} {M : Nat}
def endNd (x : Nd) (v : Value) : Nd := { x with cs := x.cs.setIfInBounds (x.o + 1) v, v := v }
theorem TrieAt.ends (h : TrieAt w rb s e T N M) {L : Bs} {x : Nd} (hx : N L = some x) (hL : L ≠ []) {d : List Int} (hd : d.length ≤ 1000) {w' : World} (hD : Dig w x.v x.b (x.o + 1) x.cs x.t d w') :
    ∃ x', TrieAt w' rb s e (putT T L d) (setN N L x') M ∧ Ext N w (setN N L x') w' := by
  obtain ⟨d0, hd0⟩ := h.get hx
  have hl := h.loc L x d0 hx hd0
  obtain ⟨v, h1, h2, h3, h4⟩ := hD
  have ho : x.o + 1 < x.cs.size := (Array.getElem?_eq_some_iff.1 hl.ce).1
  have hown : ∀ k, (endNd x v).Own k → x.Own k ∨ w.heap.size ≤ k := by
    rintro k (rfl | hk | hk)
    · exact .inl (.inl rfl)
    · exact .inl (.inr (.inl hk))
    · rcases h4 with h4 | h4
      · exact .inl (.inr (.inr (h4 ▸ hk)))
      · exact .inr (h4 k hk)
  have hX : ∀ k, (k = x.b ∨ x.v.ownBlock = some k) → x.Own k := by
    rintro k (hk | hk)
    · exact .inl hk
    · exact .inr (.inr hk)
  have hmm : ∀ mb, x.m = some mb → ¬ (mb = x.b ∨ x.v.ownBlock = some mb) := fun mb hm hk' => by
    obtain ⟨es, cl, hmm⟩ := (hl.map mb hm).isMap
    rcases hk' with rfl | hk'
    · have := hl.blk; rw [Blk, hmm] at this; cases this
    · rcases hl.row.2 with ⟨h1, _⟩ | ⟨g, cap, cur, h1, _, hg, _⟩
      · rw [h1] at hk'; cases hk'
      · rw [h1] at hk'; cases hk'; rw [hmm] at hg; cases hg
  refine ⟨endNd x v, h.change hx (x' := endNd x v) rfl h3 hX hown ?_ (fun e => absurd e hL), h3.mono (fun k hk => ⟨L, x, hx, hX k hk⟩), fun k hk => NOwn_setN hx hown hk⟩
  refine ⟨h1, ?_, ?_, hl.ty, h2, hd, hl.nomap, fun mb hm => (hl.map mb hm).turns h3 (hmm mb hm)⟩
  · show (x.cs.setIfInBounds (x.o + 1) v)[x.o]? = _
    rw [Array.getElem?_setIfInBounds_ne (by omega)]; exact hl.cm
  · simp [endNd, ho]

set_option maxRecDepth 100000 in
set_option maxHeartbeats 1000000 in
theorem add_any (h : TrieAt w rb s e T N M) (p : ByteArray) (hp : p.size ≤ 16) (hn : ltrs p.data.toList ≠ []) (hM : M < 900000) :
    Calls Tryd.prog 31 #[.pointer (some ⟨rb, 1, none⟩), .string p] w fun r w' => r = .returned (.tuple #[]) ∧ ∃ N', TrieAt w' rb s e (addT T p.data.toList) N' (M + 16) ∧ Ext N w N' w' := by
  have hW : Hid (p.data.toList.take p.size = p.data.toList) := take_all_ba p
  obtain ⟨r, hr0, hr1, hr2, _⟩ := h.root
  have hrat : r.at = .pointer (some ⟨rb, 1, none⟩) := by unfold Nd.at; rw [hr1, hr2]
  rw [← hrat]
  have hst : Hid (∃ N1, TrieAt w rb s e (pathT T (ltrs (p.data.toList.take 0)) (ltrs (p.data.toList.take 0)).length) N1 (M + 0) ∧ N1 (ltrs (p.data.toList.take 0)) = some r ∧ Ext N w N1 w) := ⟨N, h, hr0, Ext.refl _ _⟩
  clear h hrat hr0 hr1 hr2
  unfold Nd.at
  go_enter Tryd.func31, Tryd.ntmps31
  go_wp2_with fail
  go_loopw [0, 7] (fun a i wr => ∃ (k : Nat) (x : Nd), k ≤ p.size ∧ i = .int .i64 k ∧ a = x.at ∧ Hid (∃ N1, TrieAt wr rb s e (pathT T (ltrs (p.data.toList.take k)) (ltrs (p.data.toList.take k)).length) N1 (M + k) ∧ N1 (ltrs (p.data.toList.take k)) = some x ∧ Ext N w N1 wr)) (fun _ i _ => p.size - (intOf i).toNat)
  case atStart => exact ⟨0, r, by omega, rfl, rfl, hst.out⟩
  case round =>
    obtain ⟨k, x, hk, rfl, rfl, hrest⟩ := hrel
    by_cases hlt : k < p.size
    · have ht1 := take_succ_ba hlt
      have hI := isDigit_any ((p[k]'hlt).toNat : Int)
      cases hc : dgI ((p[k]'hlt).toNat : Int) with
      | true =>
        rw [hc] at hI
        have hnext : Hid (∃ N1, TrieAt wr rb s e (pathT T (ltrs (p.data.toList.take (k + 1))) (ltrs (p.data.toList.take (k + 1))).length) N1 (M + (k + 1)) ∧ N1 (ltrs (p.data.toList.take (k + 1))) = some x ∧ Ext N w N1 wr) := by
          have e1 : ltrs (p.data.toList.take (k + 1)) = ltrs (p.data.toList.take k) := by rw [ht1, ltrs_snoc, show dgt (p[k]'hlt) = true from hc, if_pos rfl]
          rw [e1]
          obtain ⟨N1, h1, h2, h3⟩ := hrest.out
          exact ⟨N1, h1.mono (by omega), h2, h3⟩
        clear hrest ht1 hc hst hW
        unfold Nd.at
        go_wp2_with (go_at_call 46; refine (hI _).mono ?_; rintro e w' ⟨rfl, hww⟩; subst w')
        go_roundw
        case rel => exact ⟨k + 1, x, by omega, by simp, rfl, hnext⟩
        case measure => simp [intOf]; omega
      | false =>
        rw [hc] at hI
        obtain ⟨N1, h1, h2, h3⟩ := hrest.out
        have hg := grow_any h1 h2 (p[k]'hlt) (by omega)
        have hnext : Hid (∀ a w', Grown wr rb s e (pathT T (ltrs (p.data.toList.take k)) (ltrs (p.data.toList.take k)).length) N1 (M + k) (ltrs (p.data.toList.take k) ++ [p[k]'hlt]) a w' →
            ∃ x, a = x.at ∧ ∃ N1, TrieAt w' rb s e (pathT T (ltrs (p.data.toList.take (k + 1))) (ltrs (p.data.toList.take (k + 1))).length) N1 (M + (k + 1)) ∧ N1 (ltrs (p.data.toList.take (k + 1))) = some x ∧ Ext N w N1 w') := by
          rintro a w' ⟨N2, y, rfl, g1, g2, g3, g4⟩
          have e1 : ltrs (p.data.toList.take (k + 1)) = ltrs (p.data.toList.take k) ++ [p[k]'hlt] := by rw [ht1, ltrs_snoc, show dgt (p[k]'hlt) = false from hc]; rfl
          rw [e1, pathT_snoc]
          exact ⟨y, rfl, N2, g1, g2, h3.trans ⟨g3, g4⟩⟩
        have hgh : Hid (Calls Tryd.prog 50 #[x.at, .int .u8 (p[k]'hlt).toNat] wr fun r w' => ∃ a, r = .returned a ∧ Grown wr rb s e (pathT T (ltrs (p.data.toList.take k)) (ltrs (p.data.toList.take k)).length) N1 (M + k) (ltrs (p.data.toList.take k) ++ [p[k]'hlt]) a w') := hg
        clear hrest ht1 hc hst hW h1 h2 h3 hg
        unfold Nd.at
        go_wp2_with (first | (go_at_call 46; refine (hI _).mono ?_; rintro e w' ⟨rfl, hww⟩; subst w') | (go_at_call 50; refine hgh.out.mono ?_; rintro e w' ⟨a, rfl, hG⟩; obtain ⟨x2, rfl, hx2⟩ := hnext.out a w' hG; clear hG; unfold Nd.at))
        go_roundw
        case rel => exact ⟨k + 1, x2, by omega, by simp, rfl, hx2⟩
        case measure => simp [intOf]; omega
    · obtain rfl : k = p.size := by omega
      rw [hW.out] at hrest
      obtain ⟨N1, h1, h2, h3⟩ := hrest.out
      obtain ⟨d, hd⟩ := h1.get h2
      have hl := h1.loc _ x d h2 hd
      have ho : x.o + 1 < x.cs.size := (Array.getElem?_eq_some_iff.1 hl.ce).1
      have hE := eachDigit_any p (by omega) ho hl.ty (Dig.start hl.blk hl.ce hl.row) hl.len
      have hfin : Hid (∀ w', Dig wr x.v x.b (x.o + 1) x.cs x.t (layAll d (digs 0 p.data.toList)) w' → ∃ N', TrieAt w' rb s e (addT T p.data.toList) N' (M + 16) ∧ Ext N w N' w') := by
        intro w' hD
        obtain ⟨x', g1, g2⟩ := h1.ends h2 hn (layAll_len 1000 _ _ hl.len (fun y hy => by
          have := (digs_rng 0 _ y hy).2.1
          have := ltrs_le p.data.toList
          have : p.data.toList.length = p.size := size_ba p
          omega)) hD
        refine ⟨_, ?_, h3.trans g2⟩
        unfold addT
        rw [hd]
        exact g1.mono (by omega)
      have hEh : Hid (Calls Tryd.prog 51 #[.string p, .func (.func 52) #[.pointer (some ⟨x.b, x.o + 1, none⟩)] #[]] wr fun e w' => e = .returned (.tuple #[]) ∧ Dig wr x.v x.b (x.o + 1) x.cs x.t (layAll d (digs 0 p.data.toList)) w') := hE
      clear hrest h1 h2 h3 hl ho hE hd hst hW
      unfold Nd.at
      go_wp2_with (go_at_call 51; refine hEh.out.mono ?_; rintro e w' ⟨rfl, hD⟩)
      go_returns
      exact ⟨rfl, hfin.out _ hD⟩
end
end Go.Proofs.YtfblhpkndfbhgaaDoor
