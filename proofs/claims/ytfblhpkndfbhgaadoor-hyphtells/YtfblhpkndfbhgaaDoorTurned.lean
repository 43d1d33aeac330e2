/-
  What is proved here: what turned answers: the same word, great letters for small ones and the other way round.
-/
import Derived.Test.YtfblhpkndfbhgaaDoorAid
import Derived.Lib.ConvBytes
import Derived.Lib.BufferMore
namespace Go.Proofs.YtfblhpkndfbhgaaDoor
open Go.RowKit Go.Shelf

theorem flip_all : ∀ i : Fin 256, bits .xor .u8 ((UInt8.ofNat i.val).toNat : Int) 32 = (((UInt8.ofNat i.val) ^^^ 32).toNat : Int) ∧ (ltr (UInt8.ofNat i.val) = true → Lib.lowerB ((UInt8.ofNat i.val) ^^^ 32) = Lib.lowerB (UInt8.ofNat i.val) ∧ ltr ((UInt8.ofNat i.val) ^^^ 32) = true) := by decide +kernel
theorem flip (c : UInt8) : bits .xor .u8 (c.toNat : Int) 32 = ((c ^^^ 32).toNat : Int) ∧ (ltr c = true → Lib.lowerB (c ^^^ 32) = Lib.lowerB c ∧ ltr (c ^^^ 32) = true) := by
  have h := flip_all ⟨c.toNat, c.toNat_lt⟩
  have e : UInt8.ofNat c.toNat = c := by simp
  simp only [e] at h
  exact h
/-- The same word but for the size of letters. -/
def Alike (l m : Bs) : Prop := low l = low m ∧ l.map ltr = m.map ltr
theorem Alike.word {l m : Bs} (h : Alike l m) : wordB l = wordB m := by
  have hl : l.length = m.length := by simpa using congrArg List.length h.2
  have ha : l.all ltr = m.all ltr := by
    have e : ∀ x : Bs, x.all ltr = (x.map ltr).all id := fun x => by rw [List.all_map]; rfl
    rw [e, e, h.2]
  unfold wordB
  rw [hl, ha]
theorem alike_set {l m : Bs} (h : Alike l m) {k : Nat} (hk : k < l.length) {c : UInt8} (h1 : Lib.lowerB c = Lib.lowerB (l[k]'hk)) (h2 : ltr c = ltr (l[k]'hk)) : Alike (l.set k c) m := by
  refine ⟨?_, ?_⟩
  · rw [← h.1]
    unfold low Lib.toLowerA
    rw [List.map_set, h1, show Lib.lowerB (l[k]'hk) = (l.map Lib.lowerB)[k]'(by simpa using hk) by simp, List.set_getElem_self]
  · rw [← h.2, List.map_set, h2, show ltr (l[k]'hk) = (l.map ltr)[k]'(by simpa using hk) by simp, List.set_getElem_self]
/-- Bytes in a block, some of it beyond them kept from being written. -/
structure BAt (w : World) (b m : Nat) (l : Bs) : Prop where
  ex : ∃ cur : Array Value, w.heap[b]? = some (.cells cur 5 (m, m + 1)) ∧ l.length ≤ m ∧ cur.size = m ∧ cur.toList.take l.length = Lib.byteCells l
theorem BAt.cell {w : World} {b m : Nat} {l : Bs} (h : BAt w b m l) {k : Nat} (hk : k < l.length) : w.cell? ⟨b, k, none⟩ = some (.int .u8 ((l[k]'hk).toNat : Int)) ∧ w.frozen? ⟨b, k, none⟩ = false := by
  obtain ⟨cur, h1, h2, _, h3⟩ := h.ex
  refine ⟨?_, ?_⟩
  · have e : (cur.toList.take l.length)[k]? = (Lib.byteCells l)[k]? := by rw [h3]
    rw [List.getElem?_take_of_lt hk, Array.getElem?_toList] at e
    rw [Lib.cell_of_heap h1, e]
    simp [Lib.byteCells, hk]
  · simp only [World.frozen?, h1]
    have : ¬ m ≤ k := by omega
    simp [this]
theorem BAt.set {w : World} {b m : Nat} {l : Bs} (h : BAt w b m l) (k : Nat) (c : UInt8) : BAt (w.setCell ⟨b, k, none⟩ (.int .u8 (c.toNat : Int))) b m (l.set k c) := by
  obtain ⟨cur, h1, h2, h0, h3⟩ := h.ex
  refine ⟨cur.setIfInBounds k (.int .u8 (c.toNat : Int)), Lib.heap_setCell_same h1 _, by simpa using h2, by simpa using h0, ?_⟩
  rw [Array.toList_setIfInBounds, List.length_set, List.take_set, h3]
  simp [Lib.byteCells, List.map_set]

set_option maxRecDepth 100000 in
set_option maxHeartbeats 4000000 in
theorem turned_any (s : ByteArray) (hs : s.size ≤ maxLen) (b : Int) (w : World) : Calls Tryd.prog 23 #[.string s, .int .u64 b] w fun e w' => ∃ q : ByteArray, e = .returned (.string q) ∧ Alike (bs q) (bs s) ∧ Below w.heap.size w w' := by
  have hcv := Lib.run_convert_string_bytes (P := Tryd.prog) w 9 71 5 s Tryd.underlying9 Tryd.underlying71 Tryd.underlying5
  obtain ⟨w1, hw1⟩ : ∃ w1, Lib.bytesWorld w 5 s = w1 := ⟨_, rfl⟩
  obtain ⟨cp, hcp⟩ : ∃ cp, grownCap w s.size 0 5 = cp := ⟨_, rfl⟩
  rw [hw1, hcp] at hcv
  have hB : Hid (BAt w1 w.heap.size (Lib.bytesCells w 5 s).size (bs s)) := by
    refine ⟨Lib.bytesCells w 5 s, by rw [← hw1]; exact Lib.bytesWorld_at_new w 5 s, ?_, rfl, ?_⟩
    · rw [size_ba]
      unfold Lib.bytesCells
      rw [Array.size_append, Array.size_map]
      show s.data.size ≤ _
      omega
    · unfold Lib.bytesCells Lib.byteCells
      rw [Array.toList_append, List.take_append_of_le_length (by simp), List.take_of_length_le (by simp)]
      simp
  have hb1 : Below w.heap.size w w1 := by
    rw [← hw1]
    exact ⟨rfl, rfl, rfl, by rw [Lib.bytesWorld_size]; omega, fun k hk => Lib.bytesWorld_at_old w 5 s k hk⟩
  have hlen : (bs s).length = s.size := size_ba s
  generalize (Lib.bytesCells w 5 s).size = m at *
  unfold maxLen at hs
  clear hw1 hcp
  go_enter Tryd.func23, Tryd.ntmps23
  go_wp2_with fail
  go_loopw [6] (fun i wr => ∃ (k : Nat) (l : Bs), k ≤ s.size ∧ i = .int .i64 k ∧ l.length = s.size ∧ Hid (BAt wr w.heap.size m l) ∧ Hid (Alike l (bs s)) ∧ Below w.heap.size w wr) (fun i _ => s.size - (intOf i).toNat)
  case atStart => exact ⟨0, bs s, by omega, rfl, hlen, hB, ⟨rfl, rfl⟩, hb1⟩
  case round =>
    obtain ⟨k, l, hk, rfl, hl, hBA, hAl, hbw⟩ := hrel
    by_cases hlt : k < s.size
    · have hkl : k < l.length := by omega
      obtain ⟨c0, f0⟩ := hBA.out.cell hkl
      obtain ⟨hx, hfl⟩ := flip (l[k]'hkl)
      have hsame : Hid (Hid (BAt wr w.heap.size m l) ∧ Hid (Alike l (bs s)) ∧ Below w.heap.size w wr) := ⟨hBA, hAl, hbw⟩
      have hset : Hid (ltr (l[k]'hkl) = true → (l.set k ((l[k]'hkl) ^^^ 32)).length = s.size ∧ Hid (BAt (wr.setCell ⟨w.heap.size, k, none⟩ (.int .u8 (((l[k]'hkl) ^^^ 32).toNat : Int))) w.heap.size m (l.set k ((l[k]'hkl) ^^^ 32))) ∧ Hid (Alike (l.set k ((l[k]'hkl) ^^^ 32)) (bs s)) ∧ Below w.heap.size w (wr.setCell ⟨w.heap.size, k, none⟩ (.int .u8 (((l[k]'hkl) ^^^ 32).toNat : Int)))) := fun hc =>
        ⟨by simpa using hl, hBA.out.set k _, alike_set hAl.out hkl (hfl hc).1 (by rw [(hfl hc).2, hc]), hbw.setCell (p := ⟨w.heap.size, k, none⟩) (Nat.le_refl _) _⟩
      have hlet : Hid ((97 ≤ ((l[k]'hkl).toNat : Int) ∧ ((l[k]'hkl).toNat : Int) ≤ 122) ∨ (65 ≤ ((l[k]'hkl).toNat : Int) ∧ ((l[k]'hkl).toNat : Int) ≤ 90) → ltr (l[k]'hkl) = true) := fun h => by
        unfold ltr ltI
        rcases h with h | h
        · rw [smI_yes h.1 h.2]; rfl
        · rw [grI_yes h.1 h.2, Bool.or_true]
      have hmod : (k : Int).tmod 64 = ((k % 64 : Nat) : Int) := by
        rw [Int.tmod_eq_emod_of_nonneg (by omega)]; rfl
      have hm64 : k % 64 < 64 := Nat.mod_lt _ (by omega)
      generalize hsx : l.set k ((l[k]'hkl) ^^^ 32) = l2 at *
      generalize hcx : (l[k]'hkl) ^^^ 32 = c2 at *
      generalize l[k]'hkl = c at *
      generalize k % 64 = km at *
      clear hBA hAl hfl hsx hcx
      go_wp2_with fail
      all_goals first
        | exact ⟨⟨k + 1, l, by omega, by simp, hl, hsame.out⟩, by simp [intOf]; omega⟩
        | exact ⟨⟨k + 1, l2, by omega, by simp, hset.out (hlet.out (by omega))⟩, by simp [intOf]; omega⟩
    · have hconv : (convert 71 9 (.slice (some ⟨w.heap.size, 0, none⟩) s.size cp)).run Tryd.prog wr = .ok (.string ⟨l.toArray⟩) wr := by
        have := run_convert_bytes_back (P := Tryd.prog) wr 71 9 5 ⟨w.heap.size, 0, none⟩ cp l Tryd.underlying71 Tryd.underlying5 Tryd.underlying9 (fun j hj => by rw [addr_add0]; exact (hBA.out.cell hj).1)
        rw [hl] at this; exact this
      obtain ⟨q, hq⟩ : ∃ q : ByteArray, (⟨l.toArray⟩ : ByteArray) = q := ⟨_, rfl⟩
      have hAq : Hid (Alike (bs q) (bs s)) := by rw [← hq]; exact hAl
      rw [hq] at hconv
      have hkk : ¬ (k : Int) < s.size := by omega
      clear hBA hAl hq
      go_wp2_with fail
      go_ret
      exact ⟨q, rfl, hAq.out, hbw⟩
end Go.Proofs.YtfblhpkndfbhgaaDoor
