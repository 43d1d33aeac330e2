/-
  What is proved here: what grow of a node does.
-/
import Derived.Test.YtfblhpkndfbhgaaDoorTrie
namespace Go.Proofs.YtfblhpkndfbhgaaDoor
open Go.RowKit Go.Shelf

theorem run_eql_ptr_nil' {P : Program} (w : World) {tp te : TypeId} (a : Addr) (hp : P.underlying tp = some (.pointer te)) :
    (binOp .eql tp (.pointer (some a)) (.pointer none)).run P w = .ok (.bool false) w := by
  have h : ∀ d : Nat, (Op.equalIn (d + 1) tp (.pointer (some a)) (.pointer none)).run P w = .ok false w := fun d => by
    simp [Op.equalIn, run_underlying hp]
  simp only [binOp]
  simp [Op.equal, Op.maxDepth, h 9999]

theorem run_eql_map_nil {P : Program} (w : World) {tm k e : TypeId} (b : Nat) (hp : P.underlying tm = some (.map k e)) :
    (binOp .eql tm (.map (some b)) (.map none)).run P w = .ok (.bool false) w := by
  have h : ∀ d : Nat, (Op.equalIn (d + 1) tm (.map (some b)) (.map none)).run P w = .ok false w := fun d => by
    simp [Op.equalIn, run_underlying hp]
  simp only [binOp]
  simp [Op.equal, Op.maxDepth, h 9999]
theorem run_eql_map_nils {P : Program} (w : World) {tm k e : TypeId} (hp : P.underlying tm = some (.map k e)) :
    (binOp .eql tm (.map none) (.map none)).run P w = .ok (.bool true) w := by
  have h : ∀ d : Nat, (Op.equalIn (d + 1) tm (.map none) (.map none)).run P w = .ok true w := fun d => by
    simp [Op.equalIn, run_underlying hp]
  simp only [binOp]
  simp [Op.equal, Op.maxDepth, h 9999]

section
variable {w : World} {rb : Nat} {s e : Value} {T : Tr} {N : Ns} {M : Nat}
/-- What grow leaves behind. -/
def Grown (w : World) (rb : Nat) (s e : Value) (T : Tr) (N : Ns) (M : Nat) (q : Bs) (a : Value) (w' : World) : Prop :=
  ∃ N' y, a = y.at ∧ TrieAt w' rb s e (growT T q) N' (M + 1) ∧ N' q = some y ∧ Turns (NOwn N) w w' ∧ ∀ k, NOwn N' k → NOwn N k ∨ w.heap.size ≤ k

def newNd (b : Nat) : Nd := ⟨b, 0, #[.map none, .slice none 0 0], 45, none, .slice none 0 0⟩
/-- A new node, and its entry in the map ahead of it. -/
theorem TrieAt.child (h : TrieAt w rb s e T N M) {L : Bs} {x : Nd} (hx : N L = some x) {mb : Nat} (hm : x.m = some mb) (c : UInt8) (hc : N (L ++ [c]) = none) (hM : M < 1000000) :
    ∃ w2, (Instr.mapUpdate 42 (.map (some mb)) (.int .u8 c.toNat) (.pointer (some ⟨w.heap.size, 0, none⟩))).run Tryd.prog (w.alloc (.cells #[.map none, .slice none 0 0] 45)) = .ok () w2 ∧
      TrieAt w2 rb s e (growT T (L ++ [c])) (setN N (L ++ [c]) (newNd w.heap.size)) (M + 1) ∧ Turns (NOwn N) w w2 := by
  obtain ⟨d, hd⟩ := h.get hx
  have hl := h.loc L x d hx hd
  have hmap := hl.map mb hm
  have hlt := hmap.lt
  have hT1 : Turns Noth w (w.alloc (.cells #[.map none, .slice none 0 0] 45)) := Turns.alloc _ _ _
  have hmap1 := hmap.turns hT1 (fun h => h)
  obtain ⟨w2, hrun, hm2, hT2⟩ := hmap1.put law5 Tryd.underlying42 (by unfold maxLen; omega) c (keyOf5 c) (.pointer (some ⟨w.heap.size, 0, none⟩)) encB_inj (fun _ => trivial)
  have hT : Turns (fun k => k = mb) w w2 := (hT1.mono (fun _ h => h.elim)).trans hT2
  refine ⟨w2, hrun, ?_, hT.mono (fun k hk => ⟨L, x, hx, .inr (.inl (hk ▸ hm))⟩)⟩
  have hg : growT T (L ++ [c]) = putT T (L ++ [c]) [] := by
    unfold growT
    rw [if_neg (by rw [← h.dom, hc]; simp)]
  rw [hg]
  have hB : Blk w2 w.heap.size #[.map none, .slice none 0 0] 45 := by
    have h1 : Blk (w.alloc (.cells #[.map none, .slice none 0 0] 45)) w.heap.size #[.map none, .slice none 0 0] 45 := World.alloc_heap_new w _
    exact h1.turns hT2 (by omega)
  refine h.more hx hc (y := newNd w.heap.size) hm hT hm2 ?_ ?_
  · rintro k (rfl | hk | hk)
    · exact Nat.le_refl _
    · cases hk
    · cases hk
  · exact ⟨hB, rfl, rfl, (by simp [newNd]), World.ownsRow_nil _ _ _ _, by simp, fun _ _ => rfl, fun mb hm => by cases hm⟩
def mapNd (x : Nd) (m : Nat) : Nd := { x with cs := x.cs.setIfInBounds x.o (.map (some m)), m := some m }
/-- A new map of a node that has none. -/
theorem TrieAt.addMap (h : TrieAt w rb s e T N M) {L : Bs} {x : Nd} (hx : N L = some x) (hm : x.m = none) :
    TrieAt ((w.alloc (.map #[] 0)).setCell ⟨x.b, x.o, none⟩ (.map (some w.heap.size))) rb s e T (setN N L (mapNd x w.heap.size)) M ∧ Turns (NOwn N) w ((w.alloc (.map #[] 0)).setCell ⟨x.b, x.o, none⟩ (.map (some w.heap.size))) ∧
      (∀ k, (mapNd x w.heap.size).Own k → x.Own k ∨ w.heap.size ≤ k) := by
  obtain ⟨d, hd⟩ := h.get hx
  have hl := h.loc L x d hx hd
  have hno := hl.nomap hm
  have hbl := hl.blk.lt
  have ho : x.o < x.cs.size := (Array.getElem?_eq_some_iff.1 hl.cm).1
  have hT0 : Turns (fun k => k = x.b) w (w.alloc (.map #[] 0)) := Turns.alloc _ _ _
  have hT1 : Turns (fun k => k = x.b) (w.alloc (.map #[] 0)) ((w.alloc (.map #[] 0)).setCell ⟨x.b, x.o, none⟩ (.map (some w.heap.size))) := Turns.setCell (X := fun k => k = x.b) _ (p := ⟨x.b, x.o, none⟩) rfl _
  have hT := hT0.trans hT1
  have hown : ∀ k, (mapNd x w.heap.size).Own k → x.Own k ∨ w.heap.size ≤ k := by
    rintro k (rfl | hk | hk)
    · exact .inl (.inl rfl)
    · cases hk; exact .inr (Nat.le_refl _)
    · exact .inl (.inr (.inr hk))
  refine ⟨?_, hT.mono (fun k hk => ⟨L, x, hx, .inl hk⟩), hown⟩
  rw [← putT_self hd]
  have hrow1 := ownsRow_turns hl.row hT (fun g hg (hX : g = x.b) => by subst hX; exact row_ne hl.row hl.blk hl.ty hg)
  refine h.change hx (x' := mapNd x w.heap.size) rfl hT (fun k hk => .inl hk) hown ?_ ?_
  · refine ⟨((hl.blk.turns (Turns.alloc Noth _ _) (fun h => h)).set x.o _), ?_, ?_, hl.ty, hrow1, hl.len, (fun h => by cases h), fun mb' hm' => ?_⟩
    · simp [mapNd, ho]
    · show (x.cs.setIfInBounds x.o _)[x.o + 1]? = _
      rw [Array.getElem?_setIfInBounds_ne (by omega)]; exact hl.ce
    · cases hm'
      have h2 := ((MapAt.made (kt := 5) (enc := encB) w).turns hT1 (show ¬ w.heap.size = x.b by omega)).mono (Nat.zero_le M)
      have e : (fun _ => none) = kids N L := by funext c; exact (hno c).symm
      rw [e] at h2; exact h2
  · rintro rfl
    obtain ⟨r, h1, h2, h3, h4, h5⟩ := h.root
    rw [hx] at h1; cases h1
    refine ⟨h4, ?_⟩
    show x.cs.setIfInBounds x.o _ = _
    rw [h5, h3]; rfl
theorem NOwn_new {L : Bs} {b : Nat} {k : Nat} (hk : NOwn (setN N L (newNd b)) k) : NOwn N k ∨ k = b := by
  obtain ⟨K, y, hy, hk⟩ := hk
  by_cases e : K = L
  · subst e
    rw [setN_same] at hy; cases hy
    rcases hk with rfl | hk | hk
    · exact .inr rfl
    · cases hk
    · cases hk
  · rw [setN_other _ _ e] at hy
    exact .inl ⟨K, y, hy, hk⟩

set_option maxRecDepth 100000 in
set_option maxHeartbeats 1000000 in
theorem grow_any (h : TrieAt w rb s e T N M) {L : Bs} {x : Nd} (hx : N L = some x) (c : UInt8) (hM : M < 1000000) :
    Calls Tryd.prog 50 #[x.at, .int .u8 c.toNat] w fun r w' => ∃ a, r = .returned a ∧ Grown w rb s e T N M (L ++ [c]) a w' := by
  obtain ⟨d, hd⟩ := h.get hx
  have hl := h.loc L x d hx hd
  have c0 : w.cell? ⟨x.b, x.o, none⟩ = some (.map x.m) := by rw [hl.blk.cell]; exact hl.cm
  cases hm : x.m with
  | some mb =>
    have hmap := hl.map mb hm
    have hlook := hmap.look law5 Tryd.underlying42 (zero79 w) c (keyOf5 c)
    have hmn := run_eql_map_nil w mb Tryd.underlying42
    rw [hm] at c0
    cases hk : N (L ++ [c]) with
    | some y =>
      have hkd : kids N L c = some y.at := by simp [kids, hk]
      rw [hkd] at hlook
      have hnil := run_eql_ptr_nil' w ⟨y.b, y.o, none⟩ Tryd.underlying79
      have hG : Hid (Grown w rb s e T N M (L ++ [c]) y.at w) := by
        refine ⟨N, y, rfl, ?_, hk, Turns.refl _ _, fun k hk => .inl hk⟩
        have : growT T (L ++ [c]) = T := by
          unfold growT
          rw [if_pos (by rw [← h.dom, hk]; rfl)]
        rw [this]; exact h.mono (by omega)
      unfold Nd.at at *
      simp only [Option.getD_some] at hlook
      clear hmap hl hk hkd h
      go_enter Tryd.func50, Tryd.ntmps50
      go_wp2_with fail
      go_ret
      exact ⟨_, rfl, hG.out⟩
    | none =>
      have hkd : kids N L c = none := by simp [kids, hk]
      rw [hkd] at hlook
      simp only [Option.getD_none] at hlook
      obtain ⟨w2, hrun, hT2, ht2⟩ := h.child hx hm c hk hM
      have hx2 : setN N (L ++ [c]) (newNd w.heap.size) L = some x := by rw [setN_other _ _ (fun e => by have := congrArg List.length e; simp at this)]; exact hx
      obtain ⟨d2, hd2⟩ := hT2.get hx2
      have hl2 := hT2.loc L x d2 hx2 hd2
      have c2 : w2.cell? ⟨x.b, x.o, none⟩ = some (.map (some mb)) := by rw [hl2.blk.cell, hl2.cm, hm]
      have hlook2 := (hl2.map mb hm).look law5 Tryd.underlying42 (zero79 w2) c (keyOf5 c)
      have hkd2 : kids (setN N (L ++ [c]) (newNd w.heap.size)) L c = some (newNd w.heap.size).at := by simp [kids, setN_same]
      rw [hkd2] at hlook2
      simp only [Option.getD_some] at hlook2
      have c1 : (w.alloc (.cells #[.map none, .slice none 0 0] 45)).cell? ⟨x.b, x.o, none⟩ = some (.map (some mb)) := by
        rw [← c0]; exact World.cell?_of_block (Below.heap_alloc _ _ _ hl.blk.lt)
      have hG : Hid (Grown w rb s e T N M (L ++ [c]) (newNd w.heap.size).at w2) :=
        ⟨_, _, rfl, hT2, setN_same _ _ _, ht2, fun k hk => (NOwn_new hk).imp id (fun e => by omega)⟩
      unfold Nd.at at *
      unfold newNd at hlook2 hG
      simp only at hlook2
      clear hmap hl hk hkd h hT2 hl2 hkd2 hx2 hd2 ht2
      go_enter Tryd.func50, Tryd.ntmps50
      go_wp2_with fail
      go_ret
      exact ⟨_, rfl, hG.out⟩
  | none =>
    rw [hm] at c0
    obtain ⟨hT1, ht1, hown⟩ := h.addMap hx hm
    have hf0 : (w.alloc (.map #[] 0)).frozen? ⟨x.b, x.o, none⟩ = false := (hl.blk.turns (Turns.alloc Noth _ _) (fun h => h)).free x.o
    have hmn := run_eql_map_nils w Tryd.underlying42
    have hno := hl.nomap hm
    have hk : N (L ++ [c]) = none := by
      have := hno c
      unfold kids at this
      simpa using this
    have cw : (w.alloc (.map #[] 0)).cell? ⟨x.b, x.o, none⟩ = some (.map none) := by
      rw [← c0]; exact World.cell?_of_block (Below.heap_alloc _ _ _ hl.blk.lt)
    obtain ⟨w1, hw1⟩ : ∃ w1, (w.alloc (.map #[] 0)).setCell ⟨x.b, x.o, none⟩ (.map (some w.heap.size)) = w1 := ⟨_, rfl⟩
    rw [hw1] at hT1 ht1
    obtain ⟨mb, hmb⟩ : ∃ mb, w.heap.size = mb := ⟨_, rfl⟩
    have hs1 : mb < w1.heap.size := by rw [← hw1, ← hmb]; simp
    rw [hmb] at hT1 hw1 hown
    have hmk : (Instr.makeMap 42 none).run Tryd.prog w = .ok (.map (some mb)) (w.alloc (.map #[] 0)) := by rw [← hmb]; rfl
    have hx1 : setN N L (mapNd x mb) L = some (mapNd x mb) := setN_same _ _ _
    have hk1 : setN N L (mapNd x mb) (L ++ [c]) = none := by rw [setN_other _ _ (fun e => by have := congrArg List.length e; simp at this)]; exact hk
    have hl1 := hT1.loc L _ d hx1 hd
    have c1 : w1.cell? ⟨x.b, x.o, none⟩ = some (.map (some mb)) := by
      have := hl1.blk.cell x.o
      rw [show (mapNd x mb).cs[x.o]? = _ from hl1.cm] at this
      exact this
    have hlook := (hl1.map mb rfl).look law5 Tryd.underlying42 (zero79 w1) c (keyOf5 c)
    have hkd : kids (setN N L (mapNd x mb)) L c = none := by simp [kids, hk1]
    rw [hkd] at hlook
    simp only [Option.getD_none] at hlook
    obtain ⟨w2, hrun, hT2, ht2⟩ := hT1.child hx1 rfl c hk1 hM
    have hx2 : setN (setN N L (mapNd x mb)) (L ++ [c]) (newNd w1.heap.size) L = some (mapNd x mb) := by rw [setN_other _ _ (fun e => by have := congrArg List.length e; simp at this)]; exact hx1
    obtain ⟨d2, hd2⟩ := hT2.get hx2
    have hl2 := hT2.loc L _ d2 hx2 hd2
    have c2 : w2.cell? ⟨x.b, x.o, none⟩ = some (.map (some mb)) := by
      have := hl2.blk.cell x.o
      rw [show (mapNd x mb).cs[x.o]? = _ from hl2.cm] at this
      exact this
    have hlook2 := (hl2.map mb rfl).look law5 Tryd.underlying42 (zero79 w2) c (keyOf5 c)
    have hkd2 : kids (setN (setN N L (mapNd x mb)) (L ++ [c]) (newNd w1.heap.size)) L c = some (newNd w1.heap.size).at := by simp [kids, setN_same]
    rw [hkd2] at hlook2
    simp only [Option.getD_some] at hlook2
    have c1' : (w1.alloc (.cells #[.map none, .slice none 0 0] 45)).cell? ⟨x.b, x.o, none⟩ = some (.map (some mb)) := by
      rw [← c1]; exact World.cell?_of_block (Below.heap_alloc _ _ _ hl1.blk.lt)
    have hG : Hid (Grown w rb s e T N M (L ++ [c]) (newNd w1.heap.size).at w2) := by
      refine ⟨_, _, rfl, hT2, setN_same _ _ _, ht1.trans' ht2 ?_, fun k hk => ?_⟩
      · intro k hk
        exact (NOwn_setN hx hown hk).imp id (fun h => by omega)
      · rcases NOwn_new hk with hk | rfl
        · exact (NOwn_setN hx hown hk).imp id (fun h => by omega)
        · exact .inr (by omega)
    unfold Nd.at at *
    unfold newNd at hlook2 hG
    simp only at hlook2
    clear hl hk hkd h hT1 hT2 hl1 hl2 hkd2 hx2 hd2 ht1 ht2 hown hx1 hk1 hno
    go_enter Tryd.func50, Tryd.ntmps50
    go_wp2_with fail
    go_ret
    exact ⟨_, rfl, hG.out⟩
end
end Go.Proofs.YtfblhpkndfbhgaaDoor
