/-
  What is proved here: what grow of a node does.
  What is proved here: what add of a node does: a pattern is put into the trie.
  What is proved here: what match of a node does: the digits of patterns are laid.
-/
import Derived.Test.YtbdpghjegachaaaGreatDoorG17
namespace Go.Proofs.YtbdpghjegachaaaGreatDoor.Hy
open Go.RowKit Go.Shelf

theorem run_eql_ptr_nil' {P : Program} (w : World) {tp te : TypeId} (a : Addr) (hp : P.underlying tp = some (.pointer te)) :
    (binOp .eql tp (.pointer (some a)) (.pointer none)).run P w = .ok (.bool false) w := by
  have h : ∀ d : Nat, (Op.equalIn (d + 1) tp (.pointer (some a)) (.pointer none)).run P w = .ok false w := fun d => by
    simp [Op.equalIn, run_underlying hp]
  simp only [binOp]
  simp [Op.equal, Op.maxDepth, h 9999]

theorem run_eql_map_nil {P : Program} (w : World) {tm k e : TypeId} (b : Nat) (hp : P.underlying tm = some (.map k e)) :
    (binOp .eql tm (.map (some b)) (.map none)).run P w = .ok (.bool false) w := by
  have h : ∀ d : Nat, (Op.equalIn (d + 1) tm (.map (some b)) (.map none)).run P w = .ok false w := fun d => by
    simp [Op.equalIn, run_underlying hp]
  simp only [binOp]
  simp [Op.equal, Op.maxDepth, h 9999]
theorem run_eql_map_nils {P : Program} (w : World) {tm k e : TypeId} (hp : P.underlying tm = some (.map k e)) :
    (binOp .eql tm (.map none) (.map none)).run P w = .ok (.bool true) w := by
  have h : ∀ d : Nat, (Op.equalIn (d + 1) tm (.map none) (.map none)).run P w = .ok true w := fun d => by
    simp [Op.equalIn, run_underlying hp]
  simp only [binOp]
  simp [Op.equal, Op.maxDepth, h 9999]

section
variable {w : World} {rb : Nat} {s e : Value} {T : Tr} {N : Ns} {M : Nat}
/-- What grow leaves behind. -/
def Grown (w : World) (rb : Nat) (s e : Value) (T : Tr) (N : Ns) (M : Nat) (q : Bs) (a : Value) (w' : World) : Prop :=
  ∃ N' y, a = y.at ∧ TrieAt w' rb s e (growT T q) N' (M + 1) ∧ N' q = some y ∧ Turns (NOwn N) w w' ∧ ∀ k, NOwn N' k → NOwn N k ∨ w.heap.size ≤ k

def newNd (b : Nat) : Nd := ⟨b, 0, #[.map none, .slice none 0 0], 205, none, .slice none 0 0⟩
/-- A new node, and its entry in the map ahead of it. -/
theorem TrieAt.child (h : TrieAt w rb s e T N M) {L : Bs} {x : Nd} (hx : N L = some x) {mb : Nat} (hm : x.m = some mb) (c : UInt8) (hc : N (L ++ [c]) = none) (hM : M < 1000000) :
    ∃ w2, (Instr.mapUpdate 202 (.map (some mb)) (.int .u8 c.toNat) (.pointer (some ⟨w.heap.size, 0, none⟩))).run Tryz.prog (w.alloc (.cells #[.map none, .slice none 0 0] 205)) = .ok () w2 ∧
      TrieAt w2 rb s e (growT T (L ++ [c])) (setN N (L ++ [c]) (newNd w.heap.size)) (M + 1) ∧ Turns (NOwn N) w w2 := by
  obtain ⟨d, hd⟩ := h.get hx
  have hl := h.loc L x d hx hd
  have hmap := hl.map mb hm
  have hlt := hmap.lt
  have hT1 : Turns Noth w (w.alloc (.cells #[.map none, .slice none 0 0] 205)) := Turns.alloc _ _ _
  have hmap1 := hmap.turns hT1 (fun h => h)
  obtain ⟨w2, hrun, hm2, hT2⟩ := hmap1.put law5 Tryz.underlying202 (by unfold maxLen; omega) c (keyOf5 c) (.pointer (some ⟨w.heap.size, 0, none⟩)) encB_inj (fun _ => trivial)
  have hT : Turns (fun k => k = mb) w w2 := (hT1.mono (fun _ h => h.elim)).trans hT2
  refine ⟨w2, hrun, ?_, hT.mono (fun k hk => ⟨L, x, hx, .inr (.inl (hk ▸ hm))⟩)⟩
  have hg : growT T (L ++ [c]) = putT T (L ++ [c]) [] := by
    unfold growT
    rw [if_neg (by rw [← h.dom, hc]; simp)]
  rw [hg]
  have hB : Blk w2 w.heap.size #[.map none, .slice none 0 0] 205 := by
    have h1 : Blk (w.alloc (.cells #[.map none, .slice none 0 0] 205)) w.heap.size #[.map none, .slice none 0 0] 205 := World.alloc_heap_new w _
    exact h1.turns hT2 (by omega)
  refine h.more hx hc (y := newNd w.heap.size) hm hT hm2 ?_ ?_
  · rintro k (rfl | hk | hk)
    · exact Nat.le_refl _
    · cases hk
    · cases hk
  · exact ⟨hB, rfl, rfl, (by simp [newNd]), World.ownsRow_nil _ _ _ _, by simp, fun _ _ => rfl, fun mb hm => by cases hm⟩
def mapNd (x : Nd) (m : Nat) : Nd := { x with cs := x.cs.setIfInBounds x.o (.map (some m)), m := some m }
/-- A new map of a node that has none. -/
theorem TrieAt.addMap (h : TrieAt w rb s e T N M) {L : Bs} {x : Nd} (hx : N L = some x) (hm : x.m = none) :
    TrieAt ((w.alloc (.map #[] 0)).setCell ⟨x.b, x.o, none⟩ (.map (some w.heap.size))) rb s e T (setN N L (mapNd x w.heap.size)) M ∧ Turns (NOwn N) w ((w.alloc (.map #[] 0)).setCell ⟨x.b, x.o, none⟩ (.map (some w.heap.size))) ∧
      (∀ k, (mapNd x w.heap.size).Own k → x.Own k ∨ w.heap.size ≤ k) := by
  obtain ⟨d, hd⟩ := h.get hx
  have hl := h.loc L x d hx hd
  have hno := hl.nomap hm
  have hbl := hl.blk.lt
  have ho : x.o < x.cs.size := (Array.getElem?_eq_some_iff.1 hl.cm).1
  have hT0 : Turns (fun k => k = x.b) w (w.alloc (.map #[] 0)) := Turns.alloc _ _ _
  have hT1 : Turns (fun k => k = x.b) (w.alloc (.map #[] 0)) ((w.alloc (.map #[] 0)).setCell ⟨x.b, x.o, none⟩ (.map (some w.heap.size))) := Turns.setCell (X := fun k => k = x.b) _ (p := ⟨x.b, x.o, none⟩) rfl _
  have hT := hT0.trans hT1
  have hown : ∀ k, (mapNd x w.heap.size).Own k → x.Own k ∨ w.heap.size ≤ k := by
    rintro k (rfl | hk | hk)
    · exact .inl (.inl rfl)
    · cases hk; exact .inr (Nat.le_refl _)
    · exact .inl (.inr (.inr hk))
  refine ⟨?_, hT.mono (fun k hk => ⟨L, x, hx, .inl hk⟩), hown⟩
  rw [← putT_self hd]
  have hrow1 := ownsRow_turns hl.row hT (fun g hg (hX : g = x.b) => by subst hX; exact row_ne hl.row hl.blk hl.ty hg)
  refine h.change hx (x' := mapNd x w.heap.size) rfl hT (fun k hk => .inl hk) hown ?_ ?_
  · refine ⟨((hl.blk.turns (Turns.alloc Noth _ _) (fun h => h)).set x.o _), ?_, ?_, hl.ty, hrow1, hl.len, (fun h => by cases h), fun mb' hm' => ?_⟩
    · simp [mapNd, ho]
    · show (x.cs.setIfInBounds x.o _)[x.o + 1]? = _
      rw [Array.getElem?_setIfInBounds_ne (by omega)]; exact hl.ce
    · cases hm'
      have h2 := ((MapAt.made (kt := 5) (enc := encB) w).turns hT1 (show ¬ w.heap.size = x.b by omega)).mono (Nat.zero_le M)
      have e : (fun _ => none) = kids N L := by funext c; exact (hno c).symm
      rw [e] at h2; exact h2
  · rintro rfl
    obtain ⟨r, h1, h2, h3, h4, h5⟩ := h.root
    rw [hx] at h1; cases h1
    refine ⟨h4, ?_⟩
    show x.cs.setIfInBounds x.o _ = _
    rw [h5, h3]; rfl
theorem NOwn_new {L : Bs} {b : Nat} {k : Nat} (hk : NOwn (setN N L (newNd b)) k) : NOwn N k ∨ k = b := by
  obtain ⟨K, y, hy, hk⟩ := hk
  by_cases e : K = L
  · subst e
    rw [setN_same] at hy; cases hy
    rcases hk with rfl | hk | hk
    · exact .inr rfl
    · cases hk
    · cases hk
  · rw [setN_other _ _ e] at hy
    exact .inl ⟨K, y, hy, hk⟩

set_option maxRecDepth 100000 in
set_option maxHeartbeats 1000000 in
theorem grow_any (h : TrieAt w rb s e T N M) {L : Bs} {x : Nd} (hx : N L = some x) (c : UInt8) (hM : M < 1000000) :
    Calls Tryz.prog 201 #[x.at, .int .u8 c.toNat] w fun r w' => ∃ a, r = .returned a ∧ Grown w rb s e T N M (L ++ [c]) a w' := by
  obtain ⟨d, hd⟩ := h.get hx
  have hl := h.loc L x d hx hd
  have c0 : w.cell? ⟨x.b, x.o, none⟩ = some (.map x.m) := by rw [hl.blk.cell]; exact hl.cm
  cases hm : x.m with
  | some mb =>
    have hmap := hl.map mb hm
    have hlook := hmap.look law5 Tryz.underlying202 (zero79 w) c (keyOf5 c)
    have hmn := run_eql_map_nil w mb Tryz.underlying202
    rw [hm] at c0
    cases hk : N (L ++ [c]) with
    | some y =>
      have hkd : kids N L c = some y.at := by simp [kids, hk]
      rw [hkd] at hlook
      have hnil := run_eql_ptr_nil' w ⟨y.b, y.o, none⟩ Tryz.underlying238
      have hG : Hid (Grown w rb s e T N M (L ++ [c]) y.at w) := by
        refine ⟨N, y, rfl, ?_, hk, Turns.refl _ _, fun k hk => .inl hk⟩
        have : growT T (L ++ [c]) = T := by
          unfold growT
          rw [if_pos (by rw [← h.dom, hk]; rfl)]
        rw [this]; exact h.mono (by omega)
      unfold Nd.at at *
      simp only [Option.getD_some] at hlook
      clear hmap hl hk hkd h
      go_enter Tryz.func201, Tryz.ntmps201
      go_wp2_with fail
      go_ret
      exact ⟨_, rfl, hG.out⟩
    | none =>
      have hkd : kids N L c = none := by simp [kids, hk]
      rw [hkd] at hlook
      simp only [Option.getD_none] at hlook
      obtain ⟨w2, hrun, hT2, ht2⟩ := h.child hx hm c hk hM
      have hx2 : setN N (L ++ [c]) (newNd w.heap.size) L = some x := by rw [setN_other _ _ (fun e => by have := congrArg List.length e; simp at this)]; exact hx
      obtain ⟨d2, hd2⟩ := hT2.get hx2
      have hl2 := hT2.loc L x d2 hx2 hd2
      have c2 : w2.cell? ⟨x.b, x.o, none⟩ = some (.map (some mb)) := by rw [hl2.blk.cell, hl2.cm, hm]
      have hlook2 := (hl2.map mb hm).look law5 Tryz.underlying202 (zero79 w2) c (keyOf5 c)
      have hkd2 : kids (setN N (L ++ [c]) (newNd w.heap.size)) L c = some (newNd w.heap.size).at := by simp [kids, setN_same]
      rw [hkd2] at hlook2
      simp only [Option.getD_some] at hlook2
      have c1 : (w.alloc (.cells #[.map none, .slice none 0 0] 205)).cell? ⟨x.b, x.o, none⟩ = some (.map (some mb)) := by
        rw [← c0]; exact World.cell?_of_block (Below.heap_alloc _ _ _ hl.blk.lt)
      have hG : Hid (Grown w rb s e T N M (L ++ [c]) (newNd w.heap.size).at w2) :=
        ⟨_, _, rfl, hT2, setN_same _ _ _, ht2, fun k hk => (NOwn_new hk).imp id (fun e => by omega)⟩
      unfold Nd.at at *
      unfold newNd at hlook2 hG
      simp only at hlook2
      clear hmap hl hk hkd h hT2 hl2 hkd2 hx2 hd2 ht2
      go_enter Tryz.func201, Tryz.ntmps201
      go_wp2_with fail
      go_ret
      exact ⟨_, rfl, hG.out⟩
  | none =>
    rw [hm] at c0
    obtain ⟨hT1, ht1, hown⟩ := h.addMap hx hm
    have hf0 : (w.alloc (.map #[] 0)).frozen? ⟨x.b, x.o, none⟩ = false := (hl.blk.turns (Turns.alloc Noth _ _) (fun h => h)).free x.o
    have hmn := run_eql_map_nils w Tryz.underlying202
    have hno := hl.nomap hm
    have hk : N (L ++ [c]) = none := by
      have := hno c
      unfold kids at this
      simpa using this
    have cw : (w.alloc (.map #[] 0)).cell? ⟨x.b, x.o, none⟩ = some (.map none) := by
      rw [← c0]; exact World.cell?_of_block (Below.heap_alloc _ _ _ hl.blk.lt)
    obtain ⟨w1, hw1⟩ : ∃ w1, (w.alloc (.map #[] 0)).setCell ⟨x.b, x.o, none⟩ (.map (some w.heap.size)) = w1 := ⟨_, rfl⟩
    rw [hw1] at hT1 ht1
    obtain ⟨mb, hmb⟩ : ∃ mb, w.heap.size = mb := ⟨_, rfl⟩
    have hs1 : mb < w1.heap.size := by rw [← hw1, ← hmb]; simp
    rw [hmb] at hT1 hw1 hown
    have hmk : (Instr.makeMap 202 none).run Tryz.prog w = .ok (.map (some mb)) (w.alloc (.map #[] 0)) := by rw [← hmb]; rfl
    have hx1 : setN N L (mapNd x mb) L = some (mapNd x mb) := setN_same _ _ _
    have hk1 : setN N L (mapNd x mb) (L ++ [c]) = none := by rw [setN_other _ _ (fun e => by have := congrArg List.length e; simp at this)]; exact hk
    have hl1 := hT1.loc L _ d hx1 hd
    have c1 : w1.cell? ⟨x.b, x.o, none⟩ = some (.map (some mb)) := by
      have := hl1.blk.cell x.o
      rw [show (mapNd x mb).cs[x.o]? = _ from hl1.cm] at this
      exact this
    have hlook := (hl1.map mb rfl).look law5 Tryz.underlying202 (zero79 w1) c (keyOf5 c)
    have hkd : kids (setN N L (mapNd x mb)) L c = none := by simp [kids, hk1]
    rw [hkd] at hlook
    simp only [Option.getD_none] at hlook
    obtain ⟨w2, hrun, hT2, ht2⟩ := hT1.child hx1 rfl c hk1 hM
    have hx2 : setN (setN N L (mapNd x mb)) (L ++ [c]) (newNd w1.heap.size) L = some (mapNd x mb) := by rw [setN_other _ _ (fun e => by have := congrArg List.length e; simp at this)]; exact hx1
    obtain ⟨d2, hd2⟩ := hT2.get hx2
    have hl2 := hT2.loc L _ d2 hx2 hd2
    have c2 : w2.cell? ⟨x.b, x.o, none⟩ = some (.map (some mb)) := by
      have := hl2.blk.cell x.o
      rw [show (mapNd x mb).cs[x.o]? = _ from hl2.cm] at this
      exact this
    have hlook2 := (hl2.map mb rfl).look law5 Tryz.underlying202 (zero79 w2) c (keyOf5 c)
    have hkd2 : kids (setN (setN N L (mapNd x mb)) (L ++ [c]) (newNd w1.heap.size)) L c = some (newNd w1.heap.size).at := by simp [kids, setN_same]
    rw [hkd2] at hlook2
    simp only [Option.getD_some] at hlook2
    have c1' : (w1.alloc (.cells #[.map none, .slice none 0 0] 205)).cell? ⟨x.b, x.o, none⟩ = some (.map (some mb)) := by
      rw [← c1]; exact World.cell?_of_block (Below.heap_alloc _ _ _ hl1.blk.lt)
    have hG : Hid (Grown w rb s e T N M (L ++ [c]) (newNd w1.heap.size).at w2) := by
      refine ⟨_, _, rfl, hT2, setN_same _ _ _, ht1.trans' ht2 ?_, fun k hk => ?_⟩
      · intro k hk
        exact (NOwn_setN hx hown hk).imp id (fun h => by omega)
      · rcases NOwn_new hk with hk | rfl
        · exact (NOwn_setN hx hown hk).imp id (fun h => by omega)
        · exact .inr (by omega)
    unfold Nd.at at *
    unfold newNd at hlook2 hG
    simp only at hlook2
    clear hl hk hkd h hT1 hT2 hl1 hl2 hkd2 hx2 hd2 ht1 ht2 hown hx1 hk1 hno
    go_enter Tryz.func201, Tryz.ntmps201
    go_wp2_with fail
    go_ret
    exact ⟨_, rfl, hG.out⟩
end
end Go.Proofs.YtbdpghjegachaaaGreatDoor.Hy

namespace Go.Proofs.YtbdpghjegachaaaGreatDoor.Hy
open Go.RowKit Go.Shelf

/-- A trie's blocks turn, and new ones come. -/
def Ext (N : Ns) (w : World) (N' : Ns) (w' : World) : Prop := Turns (NOwn N) w w' ∧ ∀ k, NOwn N' k → NOwn N k ∨ w.heap.size ≤ k
theorem Ext.refl (N : Ns) (w : World) : Ext N w N w := ⟨Turns.refl _ _, fun _ h => .inl h⟩
theorem Ext.trans {N N1 N2 : Ns} {w w1 w2 : World} (h : Ext N w N1 w1) (h2 : Ext N1 w1 N2 w2) : Ext N w N2 w2 :=
  ⟨h.1.trans' h2.1 h.2, fun k hk => (h2.2 k hk).elim (h.2 k) (fun h' => .inr (Nat.le_trans h.1.size h'))⟩
theorem pathT_prefix (T : Tr) (L : Bs) (c : UInt8) : ∀ n, n ≤ L.length → pathT T (L ++ [c]) n = pathT T L n
  | 0, _ => rfl
  | n + 1, h => by rw [pathT, pathT, pathT_prefix T L c n (by omega), List.take_append_of_le_length h]
theorem pathT_snoc (T : Tr) (L : Bs) (c : UInt8) : pathT T (L ++ [c]) (L ++ [c]).length = growT (pathT T L L.length) (L ++ [c]) := by
  rw [List.length_append, List.length_singleton, pathT, pathT_prefix T L c _ (Nat.le_refl _), List.take_of_length_le (by simp)]
theorem layAll_len (n : Nat) : ∀ (xs : List (Nat × Int)) (d : List Int), d.length ≤ n → (∀ x ∈ xs, x.1 < n) → (layAll d xs).length ≤ n
  | [], _, h, _ => h
  | x :: xs, d, h, hx => by
    refine layAll_len n xs _ ?_ (fun y hy => hx y (by simp [hy]))
    rw [lay_len]
    have := hx x (by simp)
    omega
theorem size_ba (p : ByteArray) : p.data.toList.length = p.size := by show p.data.toList.length = p.data.size; simp
section
variable {w : World} {rb : Nat} {s e : Value} {T : Tr} {N : Ns} {M : Nat}
def endNd (x : Nd) (v : Value) : Nd := { x with cs := x.cs.setIfInBounds (x.o + 1) v, v := v }
theorem TrieAt.ends (h : TrieAt w rb s e T N M) {L : Bs} {x : Nd} (hx : N L = some x) (hL : L ≠ []) {d : List Int} (hd : d.length ≤ 1000) {w' : World} (hD : Dig w x.v x.b (x.o + 1) x.cs x.t d w') :
    ∃ x', TrieAt w' rb s e (putT T L d) (setN N L x') M ∧ Ext N w (setN N L x') w' := by
  obtain ⟨d0, hd0⟩ := h.get hx
  have hl := h.loc L x d0 hx hd0
  obtain ⟨v, h1, h2, h3, h4⟩ := hD
  have ho : x.o + 1 < x.cs.size := (Array.getElem?_eq_some_iff.1 hl.ce).1
  have hown : ∀ k, (endNd x v).Own k → x.Own k ∨ w.heap.size ≤ k := by
    rintro k (rfl | hk | hk)
    · exact .inl (.inl rfl)
    · exact .inl (.inr (.inl hk))
    · rcases h4 with h4 | h4
      · exact .inl (.inr (.inr (h4 ▸ hk)))
      · exact .inr (h4 k hk)
  have hX : ∀ k, (k = x.b ∨ x.v.ownBlock = some k) → x.Own k := by
    rintro k (hk | hk)
    · exact .inl hk
    · exact .inr (.inr hk)
  have hmm : ∀ mb, x.m = some mb → ¬ (mb = x.b ∨ x.v.ownBlock = some mb) := fun mb hm hk' => by
    obtain ⟨es, cl, hmm⟩ := (hl.map mb hm).isMap
    rcases hk' with rfl | hk'
    · have := hl.blk; rw [Blk, hmm] at this; cases this
    · rcases hl.row.2 with ⟨h1, _⟩ | ⟨g, cap, cur, h1, _, hg, _⟩
      · rw [h1] at hk'; cases hk'
      · rw [h1] at hk'; cases hk'; rw [hmm] at hg; cases hg
  refine ⟨endNd x v, h.change hx (x' := endNd x v) rfl h3 hX hown ?_ (fun e => absurd e hL), h3.mono (fun k hk => ⟨L, x, hx, hX k hk⟩), fun k hk => NOwn_setN hx hown hk⟩
  refine ⟨h1, ?_, ?_, hl.ty, h2, hd, hl.nomap, fun mb hm => (hl.map mb hm).turns h3 (hmm mb hm)⟩
  · show (x.cs.setIfInBounds (x.o + 1) v)[x.o]? = _
    rw [Array.getElem?_setIfInBounds_ne (by omega)]; exact hl.cm
  · simp [endNd, ho]

set_option maxRecDepth 100000 in
set_option maxHeartbeats 1000000 in
theorem add_any (h : TrieAt w rb s e T N M) (p : ByteArray) (hp : p.size ≤ 16) (hn : ltrs p.data.toList ≠ []) (hM : M < 900000) :
    Calls Tryz.prog 180 #[.pointer (some ⟨rb, 1, none⟩), .string p] w fun r w' => r = .returned (.tuple #[]) ∧ ∃ N', TrieAt w' rb s e (addT T p.data.toList) N' (M + 16) ∧ Ext N w N' w' := by
  have hW : Hid (p.data.toList.take p.size = p.data.toList) := take_all_ba p
  obtain ⟨r, hr0, hr1, hr2, _⟩ := h.root
  have hrat : r.at = .pointer (some ⟨rb, 1, none⟩) := by unfold Nd.at; rw [hr1, hr2]
  rw [← hrat]
  have hst : Hid (∃ N1, TrieAt w rb s e (pathT T (ltrs (p.data.toList.take 0)) (ltrs (p.data.toList.take 0)).length) N1 (M + 0) ∧ N1 (ltrs (p.data.toList.take 0)) = some r ∧ Ext N w N1 w) := ⟨N, h, hr0, Ext.refl _ _⟩
  clear h hrat hr0 hr1 hr2
  unfold Nd.at
  go_enter Tryz.func180, Tryz.ntmps180
  go_wp2_with fail
  go_loopw [0, 7] (fun a i wr => ∃ (k : Nat) (x : Nd), k ≤ p.size ∧ i = .int .i64 k ∧ a = x.at ∧ Hid (∃ N1, TrieAt wr rb s e (pathT T (ltrs (p.data.toList.take k)) (ltrs (p.data.toList.take k)).length) N1 (M + k) ∧ N1 (ltrs (p.data.toList.take k)) = some x ∧ Ext N w N1 wr)) (fun _ i _ => p.size - (intOf i).toNat)
  case atStart => exact ⟨0, r, by omega, rfl, rfl, hst.out⟩
  case round =>
    obtain ⟨k, x, hk, rfl, rfl, hrest⟩ := hrel
    by_cases hlt : k < p.size
    · have ht1 := take_succ_ba hlt
      have hI := isDigit_any ((p[k]'hlt).toNat : Int)
      cases hc : dgI ((p[k]'hlt).toNat : Int) with
      | true =>
        rw [hc] at hI
        have hnext : Hid (∃ N1, TrieAt wr rb s e (pathT T (ltrs (p.data.toList.take (k + 1))) (ltrs (p.data.toList.take (k + 1))).length) N1 (M + (k + 1)) ∧ N1 (ltrs (p.data.toList.take (k + 1))) = some x ∧ Ext N w N1 wr) := by
          have e1 : ltrs (p.data.toList.take (k + 1)) = ltrs (p.data.toList.take k) := by rw [ht1, ltrs_snoc, show dgt (p[k]'hlt) = true from hc, if_pos rfl]
          rw [e1]
          obtain ⟨N1, h1, h2, h3⟩ := hrest.out
          exact ⟨N1, h1.mono (by omega), h2, h3⟩
        clear hrest ht1 hc hst hW
        unfold Nd.at
        go_wp2_with (go_at_call 199; refine (hI _).mono ?_; rintro e w' ⟨rfl, hww⟩; subst w')
        go_roundw
        case rel => exact ⟨k + 1, x, by omega, by simp, rfl, hnext⟩
        case measure => simp [intOf]; omega
      | false =>
        rw [hc] at hI
        obtain ⟨N1, h1, h2, h3⟩ := hrest.out
        have hg := grow_any h1 h2 (p[k]'hlt) (by omega)
        have hnext : Hid (∀ a w', Grown wr rb s e (pathT T (ltrs (p.data.toList.take k)) (ltrs (p.data.toList.take k)).length) N1 (M + k) (ltrs (p.data.toList.take k) ++ [p[k]'hlt]) a w' →
            ∃ x, a = x.at ∧ ∃ N1, TrieAt w' rb s e (pathT T (ltrs (p.data.toList.take (k + 1))) (ltrs (p.data.toList.take (k + 1))).length) N1 (M + (k + 1)) ∧ N1 (ltrs (p.data.toList.take (k + 1))) = some x ∧ Ext N w N1 w') := by
          rintro a w' ⟨N2, y, rfl, g1, g2, g3, g4⟩
          have e1 : ltrs (p.data.toList.take (k + 1)) = ltrs (p.data.toList.take k) ++ [p[k]'hlt] := by rw [ht1, ltrs_snoc, show dgt (p[k]'hlt) = false from hc]; rfl
          rw [e1, pathT_snoc]
          exact ⟨y, rfl, N2, g1, g2, h3.trans ⟨g3, g4⟩⟩
        have hgh : Hid (Calls Tryz.prog 201 #[x.at, .int .u8 (p[k]'hlt).toNat] wr fun r w' => ∃ a, r = .returned a ∧ Grown wr rb s e (pathT T (ltrs (p.data.toList.take k)) (ltrs (p.data.toList.take k)).length) N1 (M + k) (ltrs (p.data.toList.take k) ++ [p[k]'hlt]) a w') := hg
        clear hrest ht1 hc hst hW h1 h2 h3 hg
        unfold Nd.at
        go_wp2_with (first | (go_at_call 199; refine (hI _).mono ?_; rintro e w' ⟨rfl, hww⟩; subst w') | (go_at_call 201; refine hgh.out.mono ?_; rintro e w' ⟨a, rfl, hG⟩; obtain ⟨x2, rfl, hx2⟩ := hnext.out a w' hG; clear hG; unfold Nd.at))
        go_roundw
        case rel => exact ⟨k + 1, x2, by omega, by simp, rfl, hx2⟩
        case measure => simp [intOf]; omega
    · obtain rfl : k = p.size := by omega
      rw [hW.out] at hrest
      obtain ⟨N1, h1, h2, h3⟩ := hrest.out
      obtain ⟨d, hd⟩ := h1.get h2
      have hl := h1.loc _ x d h2 hd
      have ho : x.o + 1 < x.cs.size := (Array.getElem?_eq_some_iff.1 hl.ce).1
      have hE := eachDigit_any p (by omega) ho hl.ty (Dig.start hl.blk hl.ce hl.row) hl.len
      have hfin : Hid (∀ w', Dig wr x.v x.b (x.o + 1) x.cs x.t (layAll d (digs 0 p.data.toList)) w' → ∃ N', TrieAt w' rb s e (addT T p.data.toList) N' (M + 16) ∧ Ext N w N' w') := by
        intro w' hD
        obtain ⟨x', g1, g2⟩ := h1.ends h2 hn (layAll_len 1000 _ _ hl.len (fun y hy => by
          have := (digs_rng 0 _ y hy).2.1
          have := ltrs_le p.data.toList
          have : p.data.toList.length = p.size := size_ba p
          omega)) hD
        refine ⟨_, ?_, h3.trans g2⟩
        unfold addT
        rw [hd]
        exact g1.mono (by omega)
      have hEh : Hid (Calls Tryz.prog 202 #[.string p, .func (.func 192) #[.pointer (some ⟨x.b, x.o + 1, none⟩)] #[]] wr fun e w' => e = .returned (.tuple #[]) ∧ Dig wr x.v x.b (x.o + 1) x.cs x.t (layAll d (digs 0 p.data.toList)) w') := hE
      clear hrest h1 h2 h3 hl ho hE hd hst hW
      unfold Nd.at
      go_wp2_with (go_at_call 202; refine hEh.out.mono ?_; rintro e w' ⟨rfl, hD⟩)
      go_returns
      exact ⟨rfl, hfin.out _ hD⟩
end
end Go.Proofs.YtbdpghjegachaaaGreatDoor.Hy

namespace Go.Proofs.YtbdpghjegachaaaGreatDoor.Hy
open Go.RowKit Go.Shelf

theorem row_get {w : World} {base : Nat} {e : TypeId} {v : Value} {n : Nat} {xs : List Value} (h : w.ownsRow base e 1 v n xs) {k : Nat} (hk : k < n) : ∃ g cap, v = .slice (some ⟨g, 0, none⟩) n cap ∧ n ≤ cap ∧ ∀ j, w.cell? ⟨g, j, none⟩ = (if j < n then xs[j]? else w.cell? ⟨g, j, none⟩) := by
  rcases h.2 with ⟨rfl, rfl⟩ | ⟨g, cap, cur, rfl, _, hg, hcap, _, _, htk⟩
  · omega
  · refine ⟨g, cap, rfl, hcap, fun j => ?_⟩
    by_cases hj : j < n
    · rw [if_pos hj, Lib.cell_of_heap hg, ← htk, List.getElem?_take_of_lt (by omega), Array.getElem?_toList]
    · rw [if_neg hj]
theorem ints_get (d : List Int) {k : Nat} (h : k < d.length) : (ints d)[k]? = some (.int .i64 (d[k]'h)) := by
  unfold ints
  rw [List.getElem?_map, List.getElem?_eq_getElem h]; rfl
theorem enum_take (i : Nat) (e : List Int) {k : Nat} (h : k < e.length) : enum i (e.take (k + 1)) = enum i (e.take k) ++ [(i + k, e[k]'h)] := by
  rw [List.take_succ_eq_append_getElem h, enum_append]
  simp [enum, List.length_take, Nat.min_eq_left (Nat.le_of_lt h)]
theorem drop_take_succ {t : ByteArray} {i q : Nat} (hi : i ≤ q) (h : q < t.size) : (t.data.toList.drop i).take (q - i + 1) = (t.data.toList.drop i).take (q - i) ++ [t[q]'h] := by
  have hl : q - i < (t.data.toList.drop i).length := by
    rw [List.length_drop, size_ba]; omega
  rw [List.take_succ_eq_append_getElem hl]
  simp only [List.getElem_drop, Nat.add_sub_cancel' hi]
  simp [ByteArray.getElem_eq_getElem_data]
section
variable {w0 w : World} {rb : Nat} {s e : Value} {T : Tr} {N : Ns} {M : Nat}
set_option maxRecDepth 100000 in
set_option maxHeartbeats 2000000 in
theorem match_any (h : TrieAt w0 rb s e T N M) (t : ByteArray) (ht : t.size ≤ 100) (i : Nat) (hi : i ≤ t.size) {v0 : Value} {b o : Nat} {cs : Array Value} {ty : TypeId} (ho : o < cs.size) (hty : ty ≠ 3) (hX : ∀ k, (k = b ∨ v0.ownBlock = some k) → ¬ NOwn N k) {d : List Int} (hD : Dig w0 v0 b o cs ty d w) (hd : d.length ≤ 2000) :
    Calls Tryz.prog 191 #[.pointer (some ⟨rb, 1, none⟩), .string t, .int .i64 i, .func (.func 192) #[.pointer (some ⟨b, o, none⟩)] #[]] w fun r w' => r = .returned (.tuple #[]) ∧ Dig w0 v0 b o cs ty (matA T t.data.toList i d) w' ∧ (matA T t.data.toList i d).length ≤ 2000 := by
  obtain ⟨r, hr0, hr1, hr2, _⟩ := h.root
  have hrat : r.at = .pointer (some ⟨rb, 1, none⟩) := by unfold Nd.at; rw [hr1, hr2]
  rw [← hrat]
  clear hrat hr1 hr2
  have hTr : Hid (∀ d1 w1, Dig w0 v0 b o cs ty d1 w1 → TrieAt w1 rb s e T N M) := fun d1 w1 ⟨_, _, _, h3, _⟩ => h.turns h3 hX
  have hstop : Hid (∀ m d1, i + m ≤ t.size → mat T t.data.toList i d m = (d1, false) → matA T t.data.toList i d = d1) := fun m d1 hm h1 => by
    unfold matA
    rw [mat_stops h1 _ (by rw [size_ba]; omega)]
  have hend : Hid (∀ m d1 b1, i + m = t.size → mat T t.data.toList i d m = (d1, b1) → matA T t.data.toList i d = d1) := fun m d1 b1 hm h1 => by
    unfold matA
    rw [size_ba, show t.size - i = m by omega, h1]
  generalize hA : matA T t.data.toList i d = A at *
  clear hA
  unfold Nd.at
  go_enter Tryz.func191, Tryz.ntmps191
  go_wp2_with fail
  go_loopw [0, 8] (fun a j wr => ∃ (q : Nat) (x : Nd) (d1 : List Int), i ≤ q ∧ q ≤ t.size ∧ j = .int .i64 q ∧ a = x.at ∧ Dig w0 v0 b o cs ty d1 wr ∧ d1.length ≤ 2000 ∧ Hid (N ((t.data.toList.drop i).take (q - i)) = some x) ∧ Hid (mat T t.data.toList i d (q - i) = (d1, true))) (fun _ j _ => t.size - (intOf j).toNat)
  case atStart => exact ⟨i, r, d, by omega, hi, rfl, rfl, hD, hd, by show _ = _; rw [Nat.sub_self]; exact hr0, by show _ = _; rw [Nat.sub_self]; rfl⟩
  case round =>
    obtain ⟨q, x, d1, hiq, hm, rfl, rfl, hD1, hl1, hN, hmat⟩ := hrel
    by_cases hlt : q < t.size
    · have hT := hTr.out d1 wr hD1
      obtain ⟨dx, hdx⟩ := hT.get hN.out
      have hl := hT.loc _ x dx hN.out hdx
      have c0 : wr.cell? ⟨x.b, x.o, none⟩ = some (.map x.m) := by rw [hl.blk.cell]; exact hl.cm
      have htk := drop_take_succ hiq hlt
      have hlook : (Instr.lookup 202 (.map x.m) (.int .u8 (t[q]'hlt).toNat) false).run Tryz.prog wr.drew = .ok (((N ((t.data.toList.drop i).take (q - i + 1))).map Nd.at).getD (.pointer none)) wr.drew := by
        have e1 : (N ((t.data.toList.drop i).take (q - i + 1))).map Nd.at = kids N ((t.data.toList.drop i).take (q - i)) (t[q]'hlt) := by rw [htk]; rfl
        rw [e1]
        cases hm : x.m with
        | some mb => exact ((hl.map mb hm).turns (Turns.drew Noth wr) (fun h => h)).look law5 Tryz.underlying202 (zero79 wr.drew) _ (keyOf5 _)
        | none =>
          rw [hl.nomap hm]
          exact Maps.look_nil false law5 Tryz.underlying202 (zero79 wr.drew) (keyOf5 _)
      cases hy : N ((t.data.toList.drop i).take (q - i + 1)) with
      | none =>
        rw [hy] at hlook
        simp only [Option.map_none, Option.getD_none] at hlook
        have hq := hT.none_iff.1 hy
        have hA := hstop.out (q - i + 1) d1 (by omega) (by rw [mat, hmat.out]; simp only; rw [hq])
        subst hA
        have hD2 : Dig w0 v0 b o cs ty A wr.drew := by
          obtain ⟨v, a1, a2, a3, a4⟩ := hD1
          exact ⟨v, a1, a2, a3.trans (Turns.drew _ _), a4⟩
        clear hend hstop hTr hmat hN hT hl htk hq hy hdx
        unfold Nd.at
        go_wp2_with fail
        go_region
        go_wp2_with fail
        go_returns
        exact ⟨rfl, hD2, hl1⟩
      | some y =>
        rw [hy] at hlook
        simp only [Option.map_some, Option.getD_some] at hlook
        have hD2 : Dig w0 v0 b o cs ty d1 wr.drew := by
          obtain ⟨v, a1, a2, a3, a4⟩ := hD1
          exact ⟨v, a1, a2, a3.trans (Turns.drew _ _), a4⟩
        have hT2 := hTr.out d1 _ hD2
        obtain ⟨dy, hdy⟩ := hT2.get hy
        have hly := hT2.loc _ y dy hy hdy
        have cy : wr.drew.cell? ⟨y.b, y.o + 1, none⟩ = some y.v := by rw [hly.blk.cell]; exact hly.ce
        obtain ⟨ay, capy, hvy⟩ := row_val hly.row
        rw [hvy] at cy
        have hnil := run_eql_ptr_nil' wr.drew ⟨y.b, y.o, none⟩ Tryz.underlying238
        have hnext : Hid (∀ k, k = dy.length → mat T t.data.toList i d (q - i + 1) = (layAll d1 (enum i (dy.take k)), true)) := by
          rintro k rfl
          rw [mat, hmat.out]; simp only; rw [hdy, List.take_length]
        have hrowy : Hid (∀ d2 w2, Dig w0 v0 b o cs ty d2 w2 → w2.ownsRow 0 3 1 (.slice ay dy.length capy) dy.length (ints dy)) := fun d2 w2 h2 => by
          have := ((hTr.out d2 w2 h2).loc _ y dy hy hdy).row
          rw [hvy] at this; exact this
        have hN2 : Hid (N ((t.data.toList.drop i).take (q - i + 1)) = some y) := hy
        have hleny := hly.len
        have het : Hid (∀ (k : Nat) (hk : k < dy.length), enum i (dy.take (k + 1)) = enum i (dy.take k) ++ [(i + k, dy[k]'hk)]) := fun k hk => enum_take i dy hk
        clear hend hstop hTr hmat hN hT hl htk hy hdx hT2 hly hvy hdy
        unfold Nd.at at *
        go_wp2_with fail
        go_region
        go_wp2_with fail
        go_loopw [33] (fun j wr2 => ∃ (k : Nat) (d2 : List Int), k ≤ dy.length ∧ j = .int .i64 k ∧ Dig w0 v0 b o cs ty d2 wr2 ∧ d2.length ≤ 2000 ∧ Hid (d2 = layAll d1 (enum i (dy.take k)))) (fun j _ => dy.length - (intOf j).toNat)
        case atStart => exact ⟨0, d1, by omega, rfl, hD2, hl1, rfl⟩
        case round =>
          obtain ⟨k, d2, hk, rfl, hDk, hlk, hd2⟩ := hrel
          by_cases hkl : k < dy.length
          · have hr := hrowy.out d2 _ hDk
            obtain ⟨g, cap', hga, hcap, hcell⟩ := row_get hr hkl
            cases hga
            have ck := hcell k
            rw [if_pos hkl, ints_get dy hkl] at ck
            have hS := lay_step ho hty hDk (i + k) (dy[k]'hkl) (by omega) (by omega)
            have hl3 : (layL d2 (i + k) (dy[k]'hkl)).length ≤ 2000 := by rw [lay_len]; omega
            have hd3 : Hid (layL d2 (i + k) (dy[k]'hkl) = layAll d1 (enum i (dy.take (k + 1)))) := by
              show _ = _
              rw [het.out k hkl, layAll_append, ← hd2.out]; rfl
            have hSh : Hid (∀ z : Int, z = ((i + k : Nat) : Int) → Calls Tryz.prog 192 #[.pointer (some ⟨b, o, none⟩), .int .i64 z, .int .i64 (dy[k]'hkl)] wr fun e w' => e = .returned (.tuple #[]) ∧ Dig w0 v0 b o cs ty (layL d2 (i + k) (dy[k]'hkl)) w') := by
              rintro z rfl; exact hS
            have hkl' : (k : Int) < dy.length := by omega
            clear hS hcell hr hd2
            generalize layL d2 (i + k) (dy[k]'hkl) = d3 at *
            generalize dy[k]'hkl = u at *
            go_wp2_with (go_at_call 192; refine (hSh.out _ (by omega)).mono ?_; rintro e w' ⟨rfl, hD3⟩)
            go_roundw
            case rel => exact ⟨k + 1, d3, by omega, by simp, hD3, hl3, hd3⟩
            case measure => simp [intOf]; omega
          · have hkk : k = dy.length := by omega
            have hm2 := hnext.out k hkk
            rw [← hd2.out] at hm2
            have hm3 : Hid (mat T t.data.toList i d (q - i + 1) = (d2, true)) := hm2
            have hkl' : ¬ (k : Int) < dy.length := by omega
            clear hnext hm2 hd2 hrowy
            go_wp2_with fail
            go_roundw
            case rel => exact ⟨q + 1, y, d2, by omega, by omega, by simp, rfl, hDk, hlk, by rw [show q + 1 - i = q - i + 1 by omega]; exact hN2, by rw [show q + 1 - i = q - i + 1 by omega]; exact hm3⟩
            case measure => simp [intOf]; omega
    · have hA := hend.out (q - i) d1 true (by omega) hmat.out
      subst hA
      clear hend hstop hTr hmat hN
      unfold Nd.at
      go_wp2_with fail
      go_returns
      exact ⟨rfl, hD1, hl1⟩
end
end Go.Proofs.YtbdpghjegachaaaGreatDoor.Hy
