/-
  What is proved here: the document's kerning of two bytes.
-/
import Derived.Test.YtkhnfmdhdfpdhaaMetF
import Derived.Test.YtkhnfmdhdfpdhaaRow
import Derived.Laws.IdiomStrings
namespace Go.Proofs.Ytkhnfmdhdfpdhaa
open Go.RowKit Go.Shelf

/-- Texts, in memory. -/
structure StrsAt (W : World) (v : Value) (ns : List ByteArray) : Prop where
  ex : ∃ a cap, v = .slice a ns.length cap ∧ (ns = [] ∨ ∃ g o, a = some ⟨g, o, none⟩ ∧ g < W.heap.size ∧ ∀ (i : Nat) (h : i < ns.length), W.cell? ⟨g, o + i, none⟩ = some (.string ns[i]))
  le : ∀ a n c, v = .slice a n c → n ≤ c
theorem StrsAt.below {W W' : World} {n : Nat} {v : Value} {ns : List ByteArray} (h : StrsAt W v ns) (hb : Below n W W') (hn : W.heap.size ≤ n) : StrsAt W' v ns := by
  have hle := h.le
  obtain ⟨a, cap, rfl, h2⟩ := h.ex
  refine ⟨⟨a, cap, rfl, ?_⟩, hle⟩
  rcases h2 with h2 | ⟨g, o, rfl, hlt, hc⟩
  · exact .inl h2
  · exact .inr ⟨g, o, rfl, Nat.lt_of_lt_of_le hlt hb.size, fun i hi => (hb.cell (Nat.lt_of_lt_of_le hlt hn)).trans (hc i hi)⟩
theorem strs_new (w : World) (l : List ByteArray) : StrsAt (w.alloc (.cells (l.map Value.string).toArray 9)) (.slice (some ⟨w.heap.size, 0, none⟩) l.length l.length) l := by
  refine ⟨⟨_, _, rfl, .inr ⟨_, 0, rfl, by simp, fun i hi => ?_⟩⟩, fun a n c e => by cases e; exact Nat.le_refl _⟩
  rw [Lib.cell_of_heap (World.alloc_heap_new w _)]
  simp [hi]

/-- Is a text one of a list's? -/
def anyT (l : List ByteArray) (s : ByteArray) : Bool := l.any (fun t => t.toList == s.toList)

set_option maxRecDepth 100000 in
set_option maxHeartbeats 1000000 in
theorem rpair_any (v : Value) (l : List ByteArray) (s : ByteArray) (hl : l.length ≤ 100) (w : World) (hS : StrsAt w v l) :
    Calls Try.prog 83 #[v, .string s] w fun e w' => e = .returned (.bool (anyT l s)) ∧ w' = w := by
  obtain ⟨a, cap, rfl, h2⟩ := hS.ex
  clear hS
  have hY : Hid (∀ k (hk : k < l.length), (l[k].toList == s.toList) = true → anyT l s = true) := fun k hk e => List.any_eq_true.2 ⟨l[k], List.getElem_mem hk, e⟩
  have hN : Hid ((∀ k (hk : k < l.length), (l[k].toList == s.toList) = false) → anyT l s = false) := fun h => List.any_eq_false.2 fun b hb => by
    obtain ⟨k, hk, rfl⟩ := List.getElem_of_mem hb
    simp [h k hk]
  generalize anyT l s = r at hY hN ⊢
  go_enter Try.func83, Try.ntmps83
  go_wp2
  go_loopw [5] (fun i wr => ∃ k : Nat, k ≤ l.length ∧ i = .int .i64 k ∧ wr = w ∧ Hid (∀ j (hj : j < l.length), j < k → (l[j].toList == s.toList) = false)) (fun i _ => l.length - (intOf i).toNat)
  case atStart => exact ⟨0, by omega, rfl, rfl, fun j _ hj => by omega⟩
  case round =>
    obtain ⟨k, hk, rfl, rfl, hall⟩ := hrel
    by_cases hlt : k < l.length
    · rcases h2 with h2 | ⟨g, o, rfl, hbl, hc⟩
      · rw [h2] at hlt; simp at hlt
      · have c0 := hc k hlt
        have hlt' : (k : Int) < l.length := by omega
        cases hv : (l[k].toList == s.toList)
        · have hyes : Hid (∀ j (hj : j < l.length), j < k + 1 → (l[j].toList == s.toList) = false) := fun j hj hjk => by
            by_cases h : j < k
            · exact hall.out j hj h
            · obtain rfl : j = k := by omega
              exact hv
          generalize l[k] = u at *
          clear hY hN hall hc
          go_wp2_with fail
          go_roundw
          case rel => exact ⟨k + 1, by omega, by simp, by first | rfl | trivial, hyes⟩
          case measure => simp [intOf]; omega
        · have hn := hY.out k hlt hv
          generalize l[k] = u at *
          clear hY hN hall hc
          subst hn
          go_wp2_with fail
          go_ret
          exact ⟨rfl, rfl⟩
    · have hn := hN.out (fun j hj => hall.out j hj (by omega))
      have hge : ¬ (k : Int) < l.length := by omega
      clear hY hN hall h2
      subst hn
      go_wp2_with fail
      go_ret
      exact ⟨rfl, rfl⟩

def s2 (a b : Int) : ByteArray := ⟨#[UInt8.ofNat a.toNat, UInt8.ofNat b.toNat]⟩
theorem conv2 (a b : Int) (ha : 0 ≤ a ∧ a < 256) (hb : 0 ≤ b ∧ b < 256) (w : World) : (convert 75 9 (.slice (some ⟨w.heap.size, 0, none⟩) 2 2)).run Try.prog (w.alloc (.cells #[.int .u8 a, .int .u8 b] 5)) = .ok (.string (s2 a b)) (w.alloc (.cells #[.int .u8 a, .int .u8 b] 5)) := by
  refine run_convert_bytes_back (P := Try.prog) _ 75 9 5 ⟨w.heap.size, 0, none⟩ 2 [UInt8.ofNat a.toNat, UInt8.ofNat b.toNat] Try.underlying75 Try.underlying5 Try.underlying9 fun j hj => ?_
  have h := World.alloc_heap_new w (.cells #[.int .u8 a, .int .u8 b] 5)
  have ea : (((UInt8.ofNat a.toNat).toNat : Nat) : Int) = a := by simp [UInt8.toNat_ofNat']; omega
  have eb : (((UInt8.ofNat b.toNat).toNat : Nat) : Int) = b := by simp [UInt8.toNat_ofNat']; omega
  rw [addr_add0, Lib.cell_of_heap h]
  have hj' : j = 0 ∨ j = 1 := by simp at hj; omega
  rcases hj' with rfl | rfl
  · show some (Value.int .u8 a) = some (.int .u8 (((UInt8.ofNat a.toNat).toNat : Nat) : Int))
    rw [ea]
  · show some (Value.int .u8 b) = some (.int .u8 (((UInt8.ofNat b.toNat).toNat : Nat) : Int))
    rw [eb]
theorem eq2 (x y : UInt8) (a b : Int) (ha : 0 ≤ a ∧ a < 256) (hb : 0 ≤ b ∧ b < 256) : ((⟨#[x, y]⟩ : ByteArray).toList == (s2 a b).toList) = decide (a = (x.toNat : Int) ∧ b = (y.toNat : Int)) := by
  have ea : (UInt8.ofNat a.toNat).toNat = a.toNat := by simp [UInt8.toNat_ofNat']; omega
  have eb : (UInt8.ofNat b.toNat).toNat = b.toNat := by simp [UInt8.toNat_ofNat']; omega
  rw [ByteArray.toList_eq, ByteArray.toList_eq, Bool.eq_iff_iff]
  simp only [s2, beq_iff_eq, List.cons.injEq, and_true, decide_eq_true_eq, ← UInt8.toNat_inj, ea, eb]
  omega
def lst2 : List ByteArray := [⟨#[65, 84]⟩, ⟨#[65, 86]⟩, ⟨#[65, 87]⟩, ⟨#[65, 89]⟩, ⟨#[84, 65]⟩, ⟨#[86, 65]⟩, ⟨#[87, 65]⟩, ⟨#[89, 65]⟩, ⟨#[76, 84]⟩, ⟨#[76, 86]⟩, ⟨#[76, 89]⟩, ⟨#[80, 65]⟩, ⟨#[84, 111]⟩, ⟨#[84, 97]⟩, ⟨#[84, 101]⟩, ⟨#[86, 111]⟩, ⟨#[86, 97]⟩, ⟨#[89, 111]⟩, ⟨#[89, 97]⟩]
def lst1 : List ByteArray := [⟨#[114, 46]⟩, ⟨#[114, 44]⟩, ⟨#[102, 46]⟩, ⟨#[102, 44]⟩, ⟨#[118, 46]⟩, ⟨#[121, 46]⟩, ⟨#[65, 118]⟩, ⟨#[65, 121]⟩, ⟨#[111, 118]⟩, ⟨#[118, 111]⟩]
theorem any2 (a b : Int) (ha : 0 ≤ a ∧ a < 256) (hb : 0 ≤ b ∧ b < 256) : anyT lst2 (s2 a b) = hasB pairs2 a b := by
  unfold anyT lst2 hasB pairs2
  simp only [List.any_cons, List.any_nil, eq2 _ _ a b ha hb, Bool.or_false, List.mem_cons, List.not_mem_nil, or_false, Prod.mk.injEq, Bool.decide_or]
  rfl
theorem any1 (a b : Int) (ha : 0 ≤ a ∧ a < 256) (hb : 0 ≤ b ∧ b < 256) : anyT lst1 (s2 a b) = hasB pairs1 a b := by
  unfold anyT lst1 hasB pairs1
  simp only [List.any_cons, List.any_nil, eq2 _ _ a b ha hb, Bool.or_false, List.mem_cons, List.not_mem_nil, or_false, Prod.mk.injEq, Bool.decide_or]
  rfl

theorem rpair2 (a b : Int) (ha : 0 ≤ a ∧ a < 256) (hb : 0 ≤ b ∧ b < 256) (w : World) (n : Nat) (hn : w.heap.size = n) : Calls Try.prog 83 #[.slice (some ⟨n, 0, none⟩) 19 19, .string (s2 a b)] (w.alloc (.cells #[.string ⟨#[65, 84]⟩, .string ⟨#[65, 86]⟩, .string ⟨#[65, 87]⟩, .string ⟨#[65, 89]⟩, .string ⟨#[84, 65]⟩, .string ⟨#[86, 65]⟩, .string ⟨#[87, 65]⟩, .string ⟨#[89, 65]⟩, .string ⟨#[76, 84]⟩, .string ⟨#[76, 86]⟩, .string ⟨#[76, 89]⟩, .string ⟨#[80, 65]⟩, .string ⟨#[84, 111]⟩, .string ⟨#[84, 97]⟩, .string ⟨#[84, 101]⟩, .string ⟨#[86, 111]⟩, .string ⟨#[86, 97]⟩, .string ⟨#[89, 111]⟩, .string ⟨#[89, 97]⟩] 9)) fun e w' => e = .returned (.bool (hasB pairs2 a b)) ∧ w' = w.alloc (.cells #[.string ⟨#[65, 84]⟩, .string ⟨#[65, 86]⟩, .string ⟨#[65, 87]⟩, .string ⟨#[65, 89]⟩, .string ⟨#[84, 65]⟩, .string ⟨#[86, 65]⟩, .string ⟨#[87, 65]⟩, .string ⟨#[89, 65]⟩, .string ⟨#[76, 84]⟩, .string ⟨#[76, 86]⟩, .string ⟨#[76, 89]⟩, .string ⟨#[80, 65]⟩, .string ⟨#[84, 111]⟩, .string ⟨#[84, 97]⟩, .string ⟨#[84, 101]⟩, .string ⟨#[86, 111]⟩, .string ⟨#[86, 97]⟩, .string ⟨#[89, 111]⟩, .string ⟨#[89, 97]⟩] 9) := by
  have := rpair_any _ lst2 (s2 a b) (by decide) _ (strs_new w lst2)
  subst hn
  rw [any2 a b ha hb] at this
  exact this
theorem rpair1 (a b : Int) (ha : 0 ≤ a ∧ a < 256) (hb : 0 ≤ b ∧ b < 256) (w : World) (n : Nat) (hn : w.heap.size = n) : Calls Try.prog 83 #[.slice (some ⟨n, 0, none⟩) 10 10, .string (s2 a b)] (w.alloc (.cells #[.string ⟨#[114, 46]⟩, .string ⟨#[114, 44]⟩, .string ⟨#[102, 46]⟩, .string ⟨#[102, 44]⟩, .string ⟨#[118, 46]⟩, .string ⟨#[121, 46]⟩, .string ⟨#[65, 118]⟩, .string ⟨#[65, 121]⟩, .string ⟨#[111, 118]⟩, .string ⟨#[118, 111]⟩] 9)) fun e w' => e = .returned (.bool (hasB pairs1 a b)) ∧ w' = w.alloc (.cells #[.string ⟨#[114, 46]⟩, .string ⟨#[114, 44]⟩, .string ⟨#[102, 46]⟩, .string ⟨#[102, 44]⟩, .string ⟨#[118, 46]⟩, .string ⟨#[121, 46]⟩, .string ⟨#[65, 118]⟩, .string ⟨#[65, 121]⟩, .string ⟨#[111, 118]⟩, .string ⟨#[118, 111]⟩] 9) := by
  have := rpair_any _ lst1 (s2 a b) (by decide) _ (strs_new w lst1)
  subst hn
  rw [any1 a b ha hb] at this
  exact this

set_option maxRecDepth 100000 in
set_option maxHeartbeats 1000000 in
theorem rPair_any (a b s : Int) (ha : 0 ≤ a ∧ a < 256) (hb : 0 ≤ b ∧ b < 256) (h0 : 0 ≤ s) (h1 : s ≤ 64) (w : World) : Calls Try.prog 69 #[.int .u8 a, .int .u8 b, .int .i64 s] w fun e w' => e = .returned (.int .i64 (kernI a b s)) ∧ Below w.heap.size w w' := by
  have hcv := conv2 a b ha hb w
  have c2 := rpair2 a b ha hb
  have c1 := rpair1 a b ha hb
  have q2 : (2 * s).tdiv 16 = 2 * s / 16 := Int.tdiv_eq_ediv_of_nonneg (by omega)
  have q1 : s.tdiv 16 = s / 16 := Int.tdiv_eq_ediv_of_nonneg (by omega)
  have hb0 := (Below.refl w.heap.size w).alloc (Nat.le_refl _) (.cells #[.int .u8 a, .int .u8 b] 5)
  generalize s2 a b = sv at *
  by_cases e2 : hasB pairs2 a b = true
  · have ek : kernI a b s = -((2 * s) / 16) := by unfold kernI; rw [if_pos e2]
    rw [ek]
    rw [e2] at c2
    clear ek e2 c1
    go_enter Try.func69, Try.ntmps69
    go_wp2_with fail
    refine (c2 _ _ (by simp)).mono ?_
    rintro e w' ⟨rfl, hww⟩
    subst w'
    go_wp2_with fail
    go_ret
    exact ⟨rfl, hb0.alloc hb0.size _⟩
  · have e2' : hasB pairs2 a b = false := by simpa using e2
    simp only [e2'] at c2
    by_cases e1 : hasB pairs1 a b = true
    · have ek : kernI a b s = -(s / 16) := by unfold kernI; rw [if_neg e2, if_pos e1]
      rw [ek]
      simp only [e1] at c1
      clear ek e2 e2' e1
      go_enter Try.func69, Try.ntmps69
      go_wp2_with fail
      refine (c2 _ _ (by simp)).mono ?_
      rintro e w' ⟨rfl, hww⟩
      subst w'
      go_wp2_with fail
      refine (c1 _ _ (by simp)).mono ?_
      rintro e w' ⟨rfl, hww⟩
      subst w'
      go_wp2_with fail
      go_ret
      exact ⟨rfl, (hb0.alloc hb0.size _).alloc (hb0.alloc hb0.size _).size _⟩
    · have ek : kernI a b s = 0 := by unfold kernI; rw [if_neg e2, if_neg e1]
      have e1' : hasB pairs1 a b = false := by simpa using e1
      rw [ek]
      simp only [e1'] at c1
      clear ek e2 e2' e1 e1'
      go_enter Try.func69, Try.ntmps69
      go_wp2_with fail
      refine (c2 _ _ (by simp)).mono ?_
      rintro e w' ⟨rfl, hww⟩
      subst w'
      go_wp2_with fail
      refine (c1 _ _ (by simp)).mono ?_
      rintro e w' ⟨rfl, hww⟩
      subst w'
      go_wp2_with fail
      go_ret
      exact ⟨rfl, (hb0.alloc hb0.size _).alloc (hb0.alloc hb0.size _).size _⟩

end Go.Proofs.Ytkhnfmdhdfpdhaa
