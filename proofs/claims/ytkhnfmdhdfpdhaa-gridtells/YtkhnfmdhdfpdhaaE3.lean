/-
  What is proved here: which two bytes stand nearer, as Kern of metric tells it.
  What is proved here: the document's kerning of two bytes.
  What is proved here: the bounds of a paragraph's properties, as properties answers them.
  What is proved here: a paragraph in memory; loads of its parts.
  What is proved here: what kind, isAccent, end, refuse, refusePlace of cluster answer, and the document's Kind, letter, accent, Wrong.
-/
import Derived.Test.YtkhnfmdhdfpdhaaE1
import Derived.Test.YtkhnfmdhdfpdhaaE2
import Derived.Laws.IdiomStrings
import Derived.OrdersHeld
import Derived.BigQuiet
import Derived.WalkKit
import Derived.WalkSpells
import Derived.LoopN
namespace Go.Proofs.Ytkhnfmdhdfpdhaa
open Go.RowKit Go.Shelf

def pairs2 : List (Int × Int) := [(65, 84), (65, 86), (65, 87), (65, 89), (84, 65), (86, 65), (87, 65), (89, 65), (76, 84), (76, 86), (76, 89), (80, 65), (84, 111), (84, 97), (84, 101), (86, 111), (86, 97), (89, 111), (89, 97)]
def pairs1 : List (Int × Int) := [(114, 46), (114, 44), (102, 46), (102, 44), (118, 46), (121, 46), (65, 118), (65, 121), (111, 118), (118, 111)]
def txt2 : ByteArray := { data := #[65, 84, 65, 86, 65, 87, 65, 89, 84, 65, 86, 65, 87, 65, 89, 65, 76, 84, 76, 86, 76, 89, 80, 65, 84, 111, 84, 97, 84, 101, 86, 111, 86, 97, 89, 111, 89, 97] }
def txt1 : ByteArray := { data := #[114, 46, 114, 44, 102, 46, 102, 44, 118, 46, 121, 46, 65, 118, 65, 121, 111, 118, 118, 111] }
/-- The pairs of a text, two bytes at a time. -/
def prs (p : ByteArray) (n : Nat) : List (Int × Int) := (List.range n).map (fun i => (bt p (2 * i), bt p (2 * i + 1)))
theorem prs2 : prs txt2 19 = pairs2 := by decide +kernel
theorem prs1 : prs txt1 10 = pairs1 := by decide +kernel
def hasB (l : List (Int × Int)) (a b : Int) : Bool := decide ((a, b) ∈ l)
/-- The kerning of two bytes of a size. -/
def kernI (a b s : Int) : Int := if hasB pairs2 a b = true then -((2 * s) / 16) else if hasB pairs1 a b = true then -(s / 16) else 0
theorem kernI_rng (a b : Int) {s : Int} (h0 : 0 ≤ s) (h1 : s ≤ 64) : -8 ≤ kernI a b s ∧ kernI a b s ≤ 0 := by
  unfold kernI
  repeat' split
  all_goals omega

set_option maxRecDepth 100000 in
set_option maxHeartbeats 1000000 in
theorem hasPair_any (p : ByteArray) (n : Nat) (hp : p.size = 2 * n) (hn : n ≤ 100) (a b : Int) (w : World) :
    Calls Try.prog 104 #[.string p, .int .u8 a, .int .u8 b] w fun e w' => e = .returned (.bool (hasB (prs p n) a b)) ∧ w' = w := by
  have hY : Hid (∀ k, k < n → bt p (2 * k) = a → bt p (2 * k + 1) = b → hasB (prs p n) a b = true) := fun k hk e1 e2 => by
    refine decide_eq_true (List.mem_map.2 ⟨k, List.mem_range.2 hk, ?_⟩)
    rw [e1, e2]
  have hN : Hid ((∀ k, k < n → ¬ (bt p (2 * k) = a ∧ bt p (2 * k + 1) = b)) → hasB (prs p n) a b = false) := fun h => by
    refine decide_eq_false (fun hm => ?_)
    obtain ⟨k, hk, e⟩ := List.mem_map.1 hm
    exact h k (List.mem_range.1 hk) ⟨congrArg Prod.fst e, congrArg Prod.snd e⟩
  generalize hasB (prs p n) a b = r at hY hN ⊢
  have hp1 : p.size ≤ 2 * n := by omega
  have hp2 : 2 * n ≤ p.size := by omega
  clear hp
  go_enter Try.func104, Try.ntmps104
  go_wp2
  go_loopw [7] (fun i wr => ∃ k : Nat, k ≤ n ∧ i = .int .i64 (2 * k : Nat) ∧ wr = w ∧ Hid (∀ j, j < k → ¬ (bt p (2 * j) = a ∧ bt p (2 * j + 1) = b))) (fun i _ => p.size - (intOf i).toNat)
  case atStart => exact ⟨0, by omega, rfl, rfl, fun j hj => by omega⟩
  case round =>
    obtain ⟨k, hk, rfl, rfl, hall⟩ := hrel
    by_cases hlt : k < n
    · have hl0 : 2 * k < p.size := by omega
      have hl1 : 2 * k + 1 < p.size := by omega
      have hb0 : Hid (bt p (2 * k) = ((p[2 * k]'hl0).toNat : Int)) := bt_eq hl0
      have hb1 : Hid (bt p (2 * k + 1) = ((p[2 * k + 1]'hl1).toNat : Int)) := bt_eq hl1
      go_wp2_with fail
      · rename_i h0 _ h1
        have hn := hY.out k hlt (hb0.out.trans h0) (hb1.out.trans (by simpa using h1))
        subst hn
        go_ret
        exact ⟨rfl, rfl⟩
      · rename_i _ _ h1
        have hyes : Hid (∀ j, j < k + 1 → ¬ (bt p (2 * j) = a ∧ bt p (2 * j + 1) = b)) := fun j hj => by
          by_cases h : j < k
          · exact hall.out j h
          · obtain rfl : j = k := by omega
            rintro ⟨_, e⟩
            rw [hb1.out] at e
            simp [e] at h1
        clear hY hN hall hb0 hb1 h1
        refine ⟨⟨k + 1, by omega, by simp; omega, trivial, hyes⟩, ?_⟩
        simp [intOf]; omega
      · rename_i h0
        have hyes : Hid (∀ j, j < k + 1 → ¬ (bt p (2 * j) = a ∧ bt p (2 * j + 1) = b)) := fun j hj => by
          by_cases h : j < k
          · exact hall.out j h
          · obtain rfl : j = k := by omega
            rintro ⟨e, _⟩
            rw [hb0.out] at e
            exact h0 e
        clear hY hN hall hb0 hb1 h0
        refine ⟨⟨k + 1, by omega, by simp; omega, trivial, hyes⟩, ?_⟩
        simp [intOf]; omega
    · have hn := hN.out (fun j hj => hall.out j (by omega))
      have hge : ¬ (2 * (k : Int)) < p.size := by omega
      clear hY hN hall
      subst hn
      go_wp2_with fail
      go_ret
      exact ⟨rfl, rfl⟩

set_option maxRecDepth 100000 in
set_option maxHeartbeats 1000000 in
theorem kern_any (a b s : Int) (h0 : 0 ≤ s) (h1 : s ≤ 64) (w : World) : Calls Try.prog 95 #[.int .u8 a, .int .u8 b, .int .i64 s] w fun e w' => e = .returned (.int .i64 (kernI a b s)) ∧ w' = w := by
  have c2 := hasPair_any txt2 19 rfl (by decide) a b w
  have c1 := hasPair_any txt1 10 rfl (by decide) a b w
  rw [prs2] at c2
  rw [prs1] at c1
  have q2 : (2 * s).tdiv 16 = 2 * s / 16 := Int.tdiv_eq_ediv_of_nonneg (by omega)
  have q1 : s.tdiv 16 = s / 16 := Int.tdiv_eq_ediv_of_nonneg (by omega)
  by_cases e2 : hasB pairs2 a b = true
  · have ek : kernI a b s = -((2 * s) / 16) := by unfold kernI; rw [if_pos e2]
    rw [ek]
    rw [e2] at c2
    clear ek e2 c1
    go_enter Try.func95, Try.ntmps95
    go_wp2_with fail
    refine c2.mono ?_
    rintro e w' ⟨rfl, hww⟩
    subst w'
    go_wp2_with fail
    go_ret
    exact ⟨rfl, rfl⟩
  · have e2' : hasB pairs2 a b = false := by simpa using e2
    rw [e2'] at c2
    by_cases e1 : hasB pairs1 a b = true
    · have ek : kernI a b s = -(s / 16) := by unfold kernI; rw [if_neg e2, if_pos e1]
      rw [ek]
      rw [e1] at c1
      clear ek e2 e2' e1
      go_enter Try.func95, Try.ntmps95
      go_wp2_with fail
      refine c2.mono ?_
      rintro e w' ⟨rfl, hww⟩
      subst w'
      go_wp2_with fail
      refine c1.mono ?_
      rintro e w' ⟨rfl, hww⟩
      subst w'
      go_wp2_with fail
      go_ret
      exact ⟨rfl, rfl⟩
    · have ek : kernI a b s = 0 := by unfold kernI; rw [if_neg e2, if_neg e1]
      have e1' : hasB pairs1 a b = false := by simpa using e1
      rw [ek]
      rw [e1'] at c1
      clear ek e2 e2' e1 e1'
      go_enter Try.func95, Try.ntmps95
      go_wp2_with fail
      refine c2.mono ?_
      rintro e w' ⟨rfl, hww⟩
      subst w'
      go_wp2_with fail
      refine c1.mono ?_
      rintro e w' ⟨rfl, hww⟩
      subst w'
      go_wp2_with fail
      go_ret
      exact ⟨rfl, rfl⟩

end Go.Proofs.Ytkhnfmdhdfpdhaa

namespace Go.Proofs.Ytkhnfmdhdfpdhaa
open Go.RowKit Go.Shelf

/-- Texts, in memory. -/
structure StrsAt (W : World) (v : Value) (ns : List ByteArray) : Prop where
  ex : ∃ a cap, v = .slice a ns.length cap ∧ (ns = [] ∨ ∃ g o, a = some ⟨g, o, none⟩ ∧ g < W.heap.size ∧ ∀ (i : Nat) (h : i < ns.length), W.cell? ⟨g, o + i, none⟩ = some (.string ns[i]))
  le : ∀ a n c, v = .slice a n c → n ≤ c
theorem StrsAt.below {W W' : World} {n : Nat} {v : Value} {ns : List ByteArray} (h : StrsAt W v ns) (hb : Below n W W') (hn : W.heap.size ≤ n) : StrsAt W' v ns := by
  have hle := h.le
  obtain ⟨a, cap, rfl, h2⟩ := h.ex
  refine ⟨⟨a, cap, rfl, ?_⟩, hle⟩
  rcases h2 with h2 | ⟨g, o, rfl, hlt, hc⟩
  · exact .inl h2
  · exact .inr ⟨g, o, rfl, Nat.lt_of_lt_of_le hlt hb.size, fun i hi => (hb.cell (Nat.lt_of_lt_of_le hlt hn)).trans (hc i hi)⟩
theorem strs_new (w : World) (l : List ByteArray) : StrsAt (w.alloc (.cells (l.map Value.string).toArray 9)) (.slice (some ⟨w.heap.size, 0, none⟩) l.length l.length) l := by
  refine ⟨⟨_, _, rfl, .inr ⟨_, 0, rfl, by simp, fun i hi => ?_⟩⟩, fun a n c e => by cases e; exact Nat.le_refl _⟩
  rw [Lib.cell_of_heap (World.alloc_heap_new w _)]
  simp [hi]

/-- Is a text one of a list's? -/
def anyT (l : List ByteArray) (s : ByteArray) : Bool := l.any (fun t => t.toList == s.toList)

set_option maxRecDepth 100000 in
set_option maxHeartbeats 1000000 in
theorem rpair_any (v : Value) (l : List ByteArray) (s : ByteArray) (hl : l.length ≤ 100) (w : World) (hS : StrsAt w v l) :
    Calls Try.prog 83 #[v, .string s] w fun e w' => e = .returned (.bool (anyT l s)) ∧ w' = w := by
  obtain ⟨a, cap, rfl, h2⟩ := hS.ex
  clear hS
  have hY : Hid (∀ k (hk : k < l.length), (l[k].toList == s.toList) = true → anyT l s = true) := fun k hk e => List.any_eq_true.2 ⟨l[k], List.getElem_mem hk, e⟩
  have hN : Hid ((∀ k (hk : k < l.length), (l[k].toList == s.toList) = false) → anyT l s = false) := fun h => List.any_eq_false.2 fun b hb => by
    obtain ⟨k, hk, rfl⟩ := List.getElem_of_mem hb
    simp [h k hk]
  generalize anyT l s = r at hY hN ⊢
  go_enter Try.func83, Try.ntmps83
  go_wp2
  go_loopw [5] (fun i wr => ∃ k : Nat, k ≤ l.length ∧ i = .int .i64 k ∧ wr = w ∧ Hid (∀ j (hj : j < l.length), j < k → (l[j].toList == s.toList) = false)) (fun i _ => l.length - (intOf i).toNat)
  case atStart => exact ⟨0, by omega, rfl, rfl, fun j _ hj => by omega⟩
  case round =>
    obtain ⟨k, hk, rfl, rfl, hall⟩ := hrel
    by_cases hlt : k < l.length
    · rcases h2 with h2 | ⟨g, o, rfl, hbl, hc⟩
      · rw [h2] at hlt; simp at hlt
      · have c0 := hc k hlt
        have hlt' : (k : Int) < l.length := by omega
        cases hv : (l[k].toList == s.toList)
        · have hyes : Hid (∀ j (hj : j < l.length), j < k + 1 → (l[j].toList == s.toList) = false) := fun j hj hjk => by
            by_cases h : j < k
            · exact hall.out j hj h
            · obtain rfl : j = k := by omega
              exact hv
          generalize l[k] = u at *
          clear hY hN hall hc
          go_wp2_with fail
          go_roundw
          case rel => exact ⟨k + 1, by omega, by simp, by first | rfl | trivial, hyes⟩
          case measure => simp [intOf]; omega
        · have hn := hY.out k hlt hv
          generalize l[k] = u at *
          clear hY hN hall hc
          subst hn
          go_wp2_with fail
          go_ret
          exact ⟨rfl, rfl⟩
    · have hn := hN.out (fun j hj => hall.out j hj (by omega))
      have hge : ¬ (k : Int) < l.length := by omega
      clear hY hN hall h2
      subst hn
      go_wp2_with fail
      go_ret
      exact ⟨rfl, rfl⟩

def s2 (a b : Int) : ByteArray := ⟨#[UInt8.ofNat a.toNat, UInt8.ofNat b.toNat]⟩
theorem conv2 (a b : Int) (ha : 0 ≤ a ∧ a < 256) (hb : 0 ≤ b ∧ b < 256) (w : World) : (convert 75 9 (.slice (some ⟨w.heap.size, 0, none⟩) 2 2)).run Try.prog (w.alloc (.cells #[.int .u8 a, .int .u8 b] 5)) = .ok (.string (s2 a b)) (w.alloc (.cells #[.int .u8 a, .int .u8 b] 5)) := by
  refine run_convert_bytes_back (P := Try.prog) _ 75 9 5 ⟨w.heap.size, 0, none⟩ 2 [UInt8.ofNat a.toNat, UInt8.ofNat b.toNat] Try.underlying75 Try.underlying5 Try.underlying9 fun j hj => ?_
  have h := World.alloc_heap_new w (.cells #[.int .u8 a, .int .u8 b] 5)
  have ea : (((UInt8.ofNat a.toNat).toNat : Nat) : Int) = a := by simp [UInt8.toNat_ofNat']; omega
  have eb : (((UInt8.ofNat b.toNat).toNat : Nat) : Int) = b := by simp [UInt8.toNat_ofNat']; omega
  rw [addr_add0, Lib.cell_of_heap h]
  have hj' : j = 0 ∨ j = 1 := by simp at hj; omega
  rcases hj' with rfl | rfl
  · show some (Value.int .u8 a) = some (.int .u8 (((UInt8.ofNat a.toNat).toNat : Nat) : Int))
    rw [ea]
  · show some (Value.int .u8 b) = some (.int .u8 (((UInt8.ofNat b.toNat).toNat : Nat) : Int))
    rw [eb]
theorem eq2 (x y : UInt8) (a b : Int) (ha : 0 ≤ a ∧ a < 256) (hb : 0 ≤ b ∧ b < 256) : ((⟨#[x, y]⟩ : ByteArray).toList == (s2 a b).toList) = decide (a = (x.toNat : Int) ∧ b = (y.toNat : Int)) := by
  have ea : (UInt8.ofNat a.toNat).toNat = a.toNat := by simp [UInt8.toNat_ofNat']; omega
  have eb : (UInt8.ofNat b.toNat).toNat = b.toNat := by simp [UInt8.toNat_ofNat']; omega
  rw [ByteArray.toList_eq, ByteArray.toList_eq, Bool.eq_iff_iff]
  simp only [s2, beq_iff_eq, List.cons.injEq, and_true, decide_eq_true_eq, ← UInt8.toNat_inj, ea, eb]
  omega
def lst2 : List ByteArray := [⟨#[65, 84]⟩, ⟨#[65, 86]⟩, ⟨#[65, 87]⟩, ⟨#[65, 89]⟩, ⟨#[84, 65]⟩, ⟨#[86, 65]⟩, ⟨#[87, 65]⟩, ⟨#[89, 65]⟩, ⟨#[76, 84]⟩, ⟨#[76, 86]⟩, ⟨#[76, 89]⟩, ⟨#[80, 65]⟩, ⟨#[84, 111]⟩, ⟨#[84, 97]⟩, ⟨#[84, 101]⟩, ⟨#[86, 111]⟩, ⟨#[86, 97]⟩, ⟨#[89, 111]⟩, ⟨#[89, 97]⟩]
def lst1 : List ByteArray := [⟨#[114, 46]⟩, ⟨#[114, 44]⟩, ⟨#[102, 46]⟩, ⟨#[102, 44]⟩, ⟨#[118, 46]⟩, ⟨#[121, 46]⟩, ⟨#[65, 118]⟩, ⟨#[65, 121]⟩, ⟨#[111, 118]⟩, ⟨#[118, 111]⟩]
theorem any2 (a b : Int) (ha : 0 ≤ a ∧ a < 256) (hb : 0 ≤ b ∧ b < 256) : anyT lst2 (s2 a b) = hasB pairs2 a b := by
  unfold anyT lst2 hasB pairs2
  simp only [List.any_cons, List.any_nil, eq2 _ _ a b ha hb, Bool.or_false, List.mem_cons, List.not_mem_nil, or_false, Prod.mk.injEq, Bool.decide_or]
  rfl
theorem any1 (a b : Int) (ha : 0 ≤ a ∧ a < 256) (hb : 0 ≤ b ∧ b < 256) : anyT lst1 (s2 a b) = hasB pairs1 a b := by
  unfold anyT lst1 hasB pairs1
  simp only [List.any_cons, List.any_nil, eq2 _ _ a b ha hb, Bool.or_false, List.mem_cons, List.not_mem_nil, or_false, Prod.mk.injEq, Bool.decide_or]
  rfl

theorem rpair2 (a b : Int) (ha : 0 ≤ a ∧ a < 256) (hb : 0 ≤ b ∧ b < 256) (w : World) (n : Nat) (hn : w.heap.size = n) : Calls Try.prog 83 #[.slice (some ⟨n, 0, none⟩) 19 19, .string (s2 a b)] (w.alloc (.cells #[.string ⟨#[65, 84]⟩, .string ⟨#[65, 86]⟩, .string ⟨#[65, 87]⟩, .string ⟨#[65, 89]⟩, .string ⟨#[84, 65]⟩, .string ⟨#[86, 65]⟩, .string ⟨#[87, 65]⟩, .string ⟨#[89, 65]⟩, .string ⟨#[76, 84]⟩, .string ⟨#[76, 86]⟩, .string ⟨#[76, 89]⟩, .string ⟨#[80, 65]⟩, .string ⟨#[84, 111]⟩, .string ⟨#[84, 97]⟩, .string ⟨#[84, 101]⟩, .string ⟨#[86, 111]⟩, .string ⟨#[86, 97]⟩, .string ⟨#[89, 111]⟩, .string ⟨#[89, 97]⟩] 9)) fun e w' => e = .returned (.bool (hasB pairs2 a b)) ∧ w' = w.alloc (.cells #[.string ⟨#[65, 84]⟩, .string ⟨#[65, 86]⟩, .string ⟨#[65, 87]⟩, .string ⟨#[65, 89]⟩, .string ⟨#[84, 65]⟩, .string ⟨#[86, 65]⟩, .string ⟨#[87, 65]⟩, .string ⟨#[89, 65]⟩, .string ⟨#[76, 84]⟩, .string ⟨#[76, 86]⟩, .string ⟨#[76, 89]⟩, .string ⟨#[80, 65]⟩, .string ⟨#[84, 111]⟩, .string ⟨#[84, 97]⟩, .string ⟨#[84, 101]⟩, .string ⟨#[86, 111]⟩, .string ⟨#[86, 97]⟩, .string ⟨#[89, 111]⟩, .string ⟨#[89, 97]⟩] 9) := by
  have := rpair_any _ lst2 (s2 a b) (by decide) _ (strs_new w lst2)
  subst hn
  rw [any2 a b ha hb] at this
  exact this
theorem rpair1 (a b : Int) (ha : 0 ≤ a ∧ a < 256) (hb : 0 ≤ b ∧ b < 256) (w : World) (n : Nat) (hn : w.heap.size = n) : Calls Try.prog 83 #[.slice (some ⟨n, 0, none⟩) 10 10, .string (s2 a b)] (w.alloc (.cells #[.string ⟨#[114, 46]⟩, .string ⟨#[114, 44]⟩, .string ⟨#[102, 46]⟩, .string ⟨#[102, 44]⟩, .string ⟨#[118, 46]⟩, .string ⟨#[121, 46]⟩, .string ⟨#[65, 118]⟩, .string ⟨#[65, 121]⟩, .string ⟨#[111, 118]⟩, .string ⟨#[118, 111]⟩] 9)) fun e w' => e = .returned (.bool (hasB pairs1 a b)) ∧ w' = w.alloc (.cells #[.string ⟨#[114, 46]⟩, .string ⟨#[114, 44]⟩, .string ⟨#[102, 46]⟩, .string ⟨#[102, 44]⟩, .string ⟨#[118, 46]⟩, .string ⟨#[121, 46]⟩, .string ⟨#[65, 118]⟩, .string ⟨#[65, 121]⟩, .string ⟨#[111, 118]⟩, .string ⟨#[118, 111]⟩] 9) := by
  have := rpair_any _ lst1 (s2 a b) (by decide) _ (strs_new w lst1)
  subst hn
  rw [any1 a b ha hb] at this
  exact this

set_option maxRecDepth 100000 in
set_option maxHeartbeats 1000000 in
theorem rPair_any (a b s : Int) (ha : 0 ≤ a ∧ a < 256) (hb : 0 ≤ b ∧ b < 256) (h0 : 0 ≤ s) (h1 : s ≤ 64) (w : World) : Calls Try.prog 69 #[.int .u8 a, .int .u8 b, .int .i64 s] w fun e w' => e = .returned (.int .i64 (kernI a b s)) ∧ Below w.heap.size w w' := by
  have hcv := conv2 a b ha hb w
  have c2 := rpair2 a b ha hb
  have c1 := rpair1 a b ha hb
  have q2 : (2 * s).tdiv 16 = 2 * s / 16 := Int.tdiv_eq_ediv_of_nonneg (by omega)
  have q1 : s.tdiv 16 = s / 16 := Int.tdiv_eq_ediv_of_nonneg (by omega)
  have hb0 := (Below.refl w.heap.size w).alloc (Nat.le_refl _) (.cells #[.int .u8 a, .int .u8 b] 5)
  generalize s2 a b = sv at *
  by_cases e2 : hasB pairs2 a b = true
  · have ek : kernI a b s = -((2 * s) / 16) := by unfold kernI; rw [if_pos e2]
    rw [ek]
    rw [e2] at c2
    clear ek e2 c1
    go_enter Try.func69, Try.ntmps69
    go_wp2_with fail
    refine (c2 _ _ (by simp)).mono ?_
    rintro e w' ⟨rfl, hww⟩
    subst w'
    go_wp2_with fail
    go_ret
    exact ⟨rfl, hb0.alloc hb0.size _⟩
  · have e2' : hasB pairs2 a b = false := by simpa using e2
    simp only [e2'] at c2
    by_cases e1 : hasB pairs1 a b = true
    · have ek : kernI a b s = -(s / 16) := by unfold kernI; rw [if_neg e2, if_pos e1]
      rw [ek]
      simp only [e1] at c1
      clear ek e2 e2' e1
      go_enter Try.func69, Try.ntmps69
      go_wp2_with fail
      refine (c2 _ _ (by simp)).mono ?_
      rintro e w' ⟨rfl, hww⟩
      subst w'
      go_wp2_with fail
      refine (c1 _ _ (by simp)).mono ?_
      rintro e w' ⟨rfl, hww⟩
      subst w'
      go_wp2_with fail
      go_ret
      exact ⟨rfl, (hb0.alloc hb0.size _).alloc (hb0.alloc hb0.size _).size _⟩
    · have ek : kernI a b s = 0 := by unfold kernI; rw [if_neg e2, if_neg e1]
      have e1' : hasB pairs1 a b = false := by simpa using e1
      rw [ek]
      simp only [e1'] at c1
      clear ek e2 e2' e1 e1'
      go_enter Try.func69, Try.ntmps69
      go_wp2_with fail
      refine (c2 _ _ (by simp)).mono ?_
      rintro e w' ⟨rfl, hww⟩
      subst w'
      go_wp2_with fail
      refine (c1 _ _ (by simp)).mono ?_
      rintro e w' ⟨rfl, hww⟩
      subst w'
      go_wp2_with fail
      go_ret
      exact ⟨rfl, (hb0.alloc hb0.size _).alloc (hb0.alloc hb0.size _).size _⟩

end Go.Proofs.Ytkhnfmdhdfpdhaa

namespace Go.Proofs.Ytkhnfmdhdfpdhaa
open Go.RowKit Go.Shelf

set_option maxRecDepth 100000 in
set_option maxHeartbeats 2000000 in
theorem properties_any (p : Pr) (w : World) :
    Calls Try.prog 88 #[.agg (prL p).toArray] w fun e w' => ∃ v, e = .returned v ∧ RecAt 3 bdL w' v (prB p) ∧ Below w.heap.size w w' := by
  have hr := fun W : World => rec_new (k := 3) bdL_len W 152 (prB p)
  obtain ⟨x0, x1, x2, x3, x4, x5, x6, x7, x8, x9, x10, x11, x12, x13, x14, x15, x16⟩ := p
  show Calls Try.prog 88 #[.agg #[.int .i64 x0, .int .i64 x1, .int .i64 x2, .int .i64 x3, .int .i64 x4, .int .i64 x5, .int .i64 x6, .int .i64 x7, .int .i64 x8, .int .i64 x9, .int .i64 x10, .int .i64 x11, .int .i64 x12, .int .i64 x13, .int .i64 x14, .int .i64 x15, .int .i64 x16]] w _
  go_enter Try.func88, Try.ntmps88
  go_wp2
  go_ret
  have h1 := hr (w.alloc (.cells #[.int .i64 x0, .int .i64 x1, .int .i64 x2, .int .i64 x3, .int .i64 x4, .int .i64 x5, .int .i64 x6, .int .i64 x7, .int .i64 x8, .int .i64 x9, .int .i64 x10, .int .i64 x11, .int .i64 x12, .int .i64 x13, .int .i64 x14, .int .i64 x15, .int .i64 x16] 37))
  rw [World.size_alloc] at h1
  have hb := (Below.refl w.heap.size w).alloc (Nat.le_refl _) (.cells #[.int .i64 x0, .int .i64 x1, .int .i64 x2, .int .i64 x3, .int .i64 x4, .int .i64 x5, .int .i64 x6, .int .i64 x7, .int .i64 x8, .int .i64 x9, .int .i64 x10, .int .i64 x11, .int .i64 x12, .int .i64 x13, .int .i64 x14, .int .i64 x15, .int .i64 x16] 37)
  exact ⟨_, rfl, h1, hb.alloc hb.size _⟩

end Go.Proofs.Ytkhnfmdhdfpdhaa

namespace Go.Proofs.Ytkhnfmdhdfpdhaa
open Go.RowKit Go.Shelf

theorem run_loadVar_part {P : Program} (w : World) (g o : Nat) (ty : TypeId) (cs : List Value) (d : TypeDesc) (hc : ∀ j v, cs[j]? = some v → w.cell? ⟨g, o + j, none⟩ = some v)
    (hu : P.underlying ty = some d) (hd : (match d with | .struct _ | .array _ _ => true | _ => false) = true) (hi : (P.info? ty).map (·.size) = some cs.length) :
    (loadVar ty ⟨g, o, none⟩).run P w = .ok (.agg cs.toArray) w := by
  have hl : (loadCells ⟨g, o, none⟩ cs.length).run P w = .ok cs.toArray w :=
    run_loadCells_list (P := P) w ⟨g, o, none⟩ cs (fun j v hv => by rw [addr_add]; exact hc j v hv)
  cases hq : P.info? ty with
  | none => simp [hq] at hi
  | some i =>
    have hs : i.size = cs.length := by simpa [hq] using hi
    have hagg : (isAgg ty).run P w = .ok true w := by
      unfold isAgg
      rw [Sem.run_bind, run_underlying hu w]
      cases d <;> simp_all
    simp [loadVar, Sem.run_bind, hagg, sizeOf, typeInfo, hq, hs, hl]
theorem wp_load_part {P : Program} {oi : Oper} {a : Act} {w : World} {K : Act → World → Prop} {Q : Exit → Act → World → Prop} (ty : TypeId) (x : Operand) (ho : oi.op = .load ty x)
    (g o : Nat) (hx : a.eval x = .pointer (some ⟨g, o, none⟩)) (cs : List Value) (d : TypeDesc) (hc : ∀ j v, cs[j]? = some v → w.cell? ⟨g, o + j, none⟩ = some v)
    (hu : P.underlying ty = some d) (hd : (match d with | .struct _ | .array _ _ => true | _ => false) = true) (hi : (P.info? ty).map (·.size) = some cs.length)
    (h : K (a.put oi.dst (.agg cs.toArray)) w) : oi.wp P a w K Q := by
  unfold Oper.wp execOp
  simp only [ho, hx, Instr.loadAt, Instr.sureAddr, Sem.run_bind, Sem.run_pure, Result.andThen_ok, run_loadVar_part w g o ty cs d hc hu hd hi]
  exact h
theorem wpList_load_part {P : Program} {ops : Array Oper} {rest : List Oper} {oi : Oper} {a : Act} {w : World} {Q : Exit → Act → World → Prop} (ty : TypeId) (x : Operand) (ho : oi.op = .load ty x) (hw : Region.wanted oi (yielded ops a.tmps) = true)
    (g o : Nat) (hx : a.eval x = .pointer (some ⟨g, o, none⟩)) (cs : List Value) (d : TypeDesc) (hc : ∀ j v, cs[j]? = some v → w.cell? ⟨g, o + j, none⟩ = some v)
    (hu : P.underlying ty = some d) (hd : (match d with | .struct _ | .array _ _ => true | _ => false) = true) (hi : (P.info? ty).map (·.size) = some cs.length)
    (h : wpList P ops Q rest (a.put oi.dst (.agg cs.toArray)) w) : wpList P ops Q (oi :: rest) a w :=
  BigFrame.wpList_want hw fun _ hK => wp_load_part ty x ho g o hx cs d hc hu hd hi (hK _ _ h)

theorem below_drewN {n : Nat} {w w' : World} (h : Below n w w') (q : Nat) : Below n w (w'.drewN q) := ⟨h.1, h.2, h.3, h.4, h.5⟩

/-- A paragraph: its text, its properties, its label, its spans, its marks. -/
structure Pa where
  t : ByteArray
  sv : Value
  p : Pr
  lb : ByteArray
  mv : Value
  sp : List Sp
  ms : List ByteArray
def paC (a : Pa) : Array Value := #[.string a.t, a.sv, .int .i64 a.p.p0, .int .i64 a.p.p1, .int .i64 a.p.p2, .int .i64 a.p.p3, .int .i64 a.p.p4, .int .i64 a.p.p5, .int .i64 a.p.p6, .int .i64 a.p.p7, .int .i64 a.p.p8, .int .i64 a.p.p9, .int .i64 a.p.p10, .int .i64 a.p.p11, .int .i64 a.p.p12, .int .i64 a.p.p13, .int .i64 a.p.p14, .int .i64 a.p.p15, .int .i64 a.p.p16, .string a.lb, a.mv]
def paV (a : Pa) : Value := .agg (paC a)
/-- A paragraph's lists, in memory. -/
structure PaAt (W : World) (a : Pa) : Prop where
  sp : RecAt 4 spL W a.sv a.sp
  ms : StrsAt W a.mv a.ms
  few : a.sp.length ≤ 9223372036854775807 ∧ a.ms.length ≤ 9223372036854775807
theorem PaAt.below {W W' : World} {n : Nat} {a : Pa} (h : PaAt W a) (hb : Below n W W') (hn : W.heap.size ≤ n) : PaAt W' a := ⟨h.sp.below hb hn, h.ms.below hb hn, h.few⟩
/-- A paragraph's box. -/
structure PB (w : World) (B : Nat) (a : Pa) : Prop where
  row : w.heap[B]? = some (.cells (paC a) 39 (0, 0))
theorem PB.lt {w : World} {B : Nat} {a : Pa} (h : PB w B a) : B < w.heap.size := (Array.getElem?_eq_some_iff.1 h.row).1
theorem PB.cell {w : World} {B : Nat} {a : Pa} (h : PB w B a) {k : Nat} {v : Value} (hk : (paC a)[k]? = some v) : w.cell? ⟨B, k, none⟩ = some v := by
  rw [Lib.cell_of_heap h.row, hk]
theorem PB.below {w w' : World} {n B : Nat} {a : Pa} (h : PB w B a) (hb : Below n w w') (hn : B < n) : PB w' B a := ⟨(hb.block B hn).trans h.row⟩
theorem PB.new (w : World) (a : Pa) : PB (w.alloc (.cells (paC a) 39)) w.heap.size a := ⟨World.alloc_heap_new w _⟩
theorem PB.c0 {w : World} {B : Nat} {a : Pa} (h : PB w B a) : w.cell? ⟨B, 0, none⟩ = some (.string a.t) := h.cell rfl
theorem PB.c1 {w : World} {B : Nat} {a : Pa} (h : PB w B a) : w.cell? ⟨B, 1, none⟩ = some a.sv := h.cell rfl
theorem PB.c2 {w : World} {B : Nat} {a : Pa} (h : PB w B a) : w.cell? ⟨B, 2, none⟩ = some (.int .i64 a.p.p0) := h.cell rfl
theorem PB.c19 {w : World} {B : Nat} {a : Pa} (h : PB w B a) : w.cell? ⟨B, 19, none⟩ = some (.string a.lb) := h.cell rfl
theorem PB.c20 {w : World} {B : Nat} {a : Pa} (h : PB w B a) : w.cell? ⟨B, 20, none⟩ = some a.mv := h.cell rfl
theorem PB.pr {w : World} {B : Nat} {a : Pa} (h : PB w B a) : ∀ j v, (prL a.p)[j]? = some v → w.cell? ⟨B, 2 + j, none⟩ = some v := fun j v hv => by
  refine h.cell ?_
  have hj : j < 17 := (List.getElem?_eq_some_iff.1 hv).1
  have e : (paC a)[2 + j]? = (prL a.p)[j]? := by
    have hj' : j = 0 ∨ j = 1 ∨ j = 2 ∨ j = 3 ∨ j = 4 ∨ j = 5 ∨ j = 6 ∨ j = 7 ∨ j = 8 ∨ j = 9 ∨ j = 10 ∨ j = 11 ∨ j = 12 ∨ j = 13 ∨ j = 14 ∨ j = 15 ∨ j = 16 := by omega
    rcases hj' with rfl | rfl | rfl | rfl | rfl | rfl | rfl | rfl | rfl | rfl | rfl | rfl | rfl | rfl | rfl | rfl | rfl <;> rfl
  rw [e, hv]
theorem info34 (a : Pa) : (Try.prog.info? 39).map (·.size) = some (paC a).size := by show _ = some 21; kernel_rfl
theorem info31 (p : Pr) : (Try.prog.info? 37).map (·.size) = some (prL p).length := by show _ = some 17; kernel_rfl

/-- May the marks be? -/
def markB (t : ByteArray) (l : List ByteArray) : Bool := decide (l.length = refN t t.size) && l.all (fun m => standB m 1 8)

set_option maxRecDepth 100000 in
set_option maxHeartbeats 2000000 in
theorem mayMark_any (a : Pa) (ht : a.t.size ≤ 4096) (w : World) (hA : PaAt w a) :
    Calls Try.prog 90 #[paV a] w fun e w' => e = .returned (.bool (markB a.t a.ms)) ∧ Below w.heap.size w w' := by
  have hB := (Below.refl w.heap.size w).alloc (Nat.le_refl _) (Obj.cells (paC a) 39)
  have hP := PB.new w a
  have c0 := hP.c0; have c20 := hP.c20
  have hM := hA.ms.below hB (Nat.le_refl _)
  have hfew := hA.few.2
  have hcn := count_any a.t
  have hrl := refN_le a.t a.t.size
  clear hA hP
  unfold paV
  generalize hw1 : w.alloc (.cells (paC a) 39) = w1 at *
  obtain ⟨ad, cap, hv, h2⟩ := hM.ex
  rw [hv] at c20
  have hN0 : Hid (a.ms.length ≠ refN a.t a.t.size → markB a.t a.ms = false) := fun h => by unfold markB; rw [decide_eq_false h, Bool.false_and]
  have hN : Hid (∀ k (hk : k < a.ms.length), standB a.ms[k] 1 8 = false → markB a.t a.ms = false) := fun k hk e => by
    unfold markB
    rw [List.all_eq_false.2 ⟨a.ms[k], List.getElem_mem hk, by simp [e]⟩, Bool.and_false]
  have hY : Hid (a.ms.length = refN a.t a.t.size → (∀ k (hk : k < a.ms.length), standB a.ms[k] 1 8 = true) → markB a.t a.ms = true) := fun h0 h => by
    unfold markB
    rw [decide_eq_true h0, Bool.true_and]
    exact List.all_eq_true.2 fun b hb => by
      obtain ⟨k, hk, rfl⟩ := List.getElem_of_mem hb
      exact h k hk
  generalize markB a.t a.ms = r at hN0 hN hY ⊢
  clear hv hM
  generalize a.ms = l at *
  generalize refN a.t a.t.size = m at *
  have ht0 : Hid (a.t.size ≤ 4096) := ht
  clear ht
  generalize a.t = t at *
  go_enter Try.func90, Try.ntmps90
  go_wp2_with fail
  have q1 : ((l.length : Int) != (m : Int)) = !decide (l.length = m) := by
    by_cases h : l.length = m
    · simp [h]
    · have : ¬ (l.length : Int) = m := by omega
      simp [h, this]
  by_cases hlm : l.length = m
  · rw [decide_eq_true hlm] at q1
    have hY' := hY.out hlm
    have hY2 : Hid ((∀ k (hk : k < l.length), standB l[k] 1 8 = true) → r = true) := hY'
    have hm4 : Hid (l.length ≤ 4096) := by have := ht0.out; show l.length ≤ 4096; omega
    clear hY hY' hN0 hlm
    go_quiet (first | (go_at_call 103; refine Calls.quiet_of_same (hcn _)))
    rename_i nq
    have hB1 : Below w.heap.size w (w1.drewN nq) := below_drewN hB _
    have e0 : (w1.drewN nq).cell? ⟨w.heap.size, 20, none⟩ = some (.slice ad l.length cap) := c20
    have hs1 : Hid (w1.heap.size = (w1.drewN nq).heap.size) := rfl
    have h3 : Hid (∀ (i : Nat) (h : i < l.length), ∃ g o, ad = some ⟨g, o, none⟩ ∧ g < (w1.drewN nq).heap.size ∧ (w1.drewN nq).cell? ⟨g, o + i, none⟩ = some (.string l[i])) := fun i h => by
      rcases h2 with h2 | ⟨g, o, e, hg, hc⟩
      · rw [h2] at h; simp at h
      · exact ⟨g, o, e, hg, hc i h⟩
    clear h2 hB c0 c20 hs1
    generalize w1.drewN nq = w2 at *
    go_wp2_with fail
    go_loopw [15] (fun i wr => ∃ k : Nat, k ≤ l.length ∧ i = .int .i64 k ∧ wr = w2 ∧ Hid (∀ j (hj : j < l.length), j < k → standB l[j] 1 8 = true)) (fun i _ => l.length - (intOf i).toNat)
    case atStart => exact ⟨0, by omega, rfl, rfl, fun j _ hj => by omega⟩
    case round =>
      obtain ⟨k, hk, rfl, rfl, hall⟩ := hrel
      by_cases hlt : k < l.length
      · obtain ⟨g, o, rfl, hg, hc⟩ := h3.out k hlt
        have hlt' : (k : Int) < l.length := by omega
        have hms := mayStand_any l[k] 1 8 (by omega) wr
        cases hv : standB l[k] 1 8
        · have hn := hN.out k hlt hv
          rw [hv] at hms
          subst hn
          clear hN hY2 hall hv h3
          generalize l[k] = u at *
          go_wp2_with (go_at_call 89; refine hms.mono ?_; rintro e w' ⟨rfl, hww⟩; subst w')
          go_ret
          exact ⟨rfl, hB1⟩
        · have hyes : Hid (∀ j (hj : j < l.length), j < k + 1 → standB l[j] 1 8 = true) := fun j hj hjk => by
            by_cases h : j < k
            · exact hall.out j hj h
            · obtain rfl : j = k := by omega
              exact hv
          rw [hv] at hms
          clear hN hY2 hall hv h3
          generalize l[k] = u at *
          go_wp2_with (go_at_call 89; refine hms.mono ?_; rintro e w' ⟨rfl, hww⟩; subst w')
          go_roundw
          case rel => exact ⟨k + 1, by omega, by simp, by first | rfl | trivial, hyes⟩
          case measure => simp [intOf]; omega
      · have hn := hY2.out (fun j hj => hall.out j hj (by omega))
        have hge : ¬ (k : Int) < l.length := by omega
        clear hN hY2 hall h3
        subst hn
        go_wp2_with fail
        go_ret
        exact ⟨rfl, hB1⟩
  · rw [decide_eq_false hlm] at q1
    have hn := hN0.out hlm
    subst hn
    clear hN0 hN hY hlm h2
    go_quiet (first | (go_at_call 103; refine Calls.quiet_of_same (hcn _)))
    go_wp2_with fail
    go_ret
    exact ⟨rfl, below_drewN hB _⟩

end Go.Proofs.Ytkhnfmdhdfpdhaa

namespace Go.Proofs.Ytkhnfmdhdfpdhaa
open Go.RowKit Go.Shelf

theorem cases_kind (x : Int) : x < 1 ∨ x = 1 ∨ x = 2 ∨ x = 3 ∨ (3 < x ∧ x < 9) ∨ x = 9 ∨ (9 < x ∧ x < 31) ∨ x = 31 ∨ x = 32 ∨ (32 < x ∧ x < 65) ∨ (65 ≤ x ∧ x ≤ 90) ∨ (90 < x ∧ x < 97) ∨ (97 ≤ x ∧ x ≤ 122) ∨ (122 < x ∧ x ≤ 126) ∨ 126 < x := by omega

set_option maxHeartbeats 2000000 in
theorem kind_any (x : Int) (w : World) : Calls Try.prog 105 #[.int .u8 x] w fun e w' => e = .returned (.int .i64 (kindI x)) ∧ w' = w := by
  have hv : kindI x = (if (97 ≤ x ∧ x ≤ 122) ∨ (65 ≤ x ∧ x ≤ 90) then 1 else if x = 32 then 3 else if 32 < x ∧ x ≤ 126 then 2 else if x = 9 then 4 else if x = 31 then 5
    else if x = 1 then 6 else if x = 2 then 7 else if x = 3 then 8 else 0) := rfl
  rcases cases_kind x with h | h | h | h | h | h | h | h | h | h | h | h | h | h | h
  all_goals
    first
      | (have e1 : kindI x = 1 := by rw [hv]; repeat (first | rw [if_neg (by omega)] | rw [if_pos (by omega)])
         rw [e1])
      | (have e1 : kindI x = 3 := by rw [hv]; repeat (first | rw [if_neg (by omega)] | rw [if_pos (by omega)])
         rw [e1])
      | (have e1 : kindI x = 2 := by rw [hv]; repeat (first | rw [if_neg (by omega)] | rw [if_pos (by omega)])
         rw [e1])
      | (have e1 : kindI x = 4 := by rw [hv]; repeat (first | rw [if_neg (by omega)] | rw [if_pos (by omega)])
         rw [e1])
      | (have e1 : kindI x = 5 := by rw [hv]; repeat (first | rw [if_neg (by omega)] | rw [if_pos (by omega)])
         rw [e1])
      | (have e1 : kindI x = 6 := by rw [hv]; repeat (first | rw [if_neg (by omega)] | rw [if_pos (by omega)])
         rw [e1])
      | (have e1 : kindI x = 7 := by rw [hv]; repeat (first | rw [if_neg (by omega)] | rw [if_pos (by omega)])
         rw [e1])
      | (have e1 : kindI x = 8 := by rw [hv]; repeat (first | rw [if_neg (by omega)] | rw [if_pos (by omega)])
         rw [e1])
      | (have e1 : kindI x = 0 := by rw [hv]; repeat (first | rw [if_neg (by omega)] | rw [if_pos (by omega)])
         rw [e1])
    clear hv
    go_enter Try.func105, Try.ntmps105
    go_wp2
    all_goals (go_ret; first | exact ⟨rfl, rfl⟩ | (exfalso; omega))

set_option maxHeartbeats 1000000 in
theorem isAccent_any (x : Int) (w : World) : Calls Try.prog 112 #[.int .u8 x] w fun e w' => e = .returned (.bool (accB x)) ∧ w' = w := by
  have hv : accB x = decide (x = 94 ∨ x = 96 ∨ x = 126) := rfl
  have hc : x < 94 ∨ x = 94 ∨ x = 95 ∨ x = 96 ∨ (96 < x ∧ x < 126) ∨ x = 126 ∨ 126 < x := by omega
  rcases hc with h | h | h | h | h | h | h
  all_goals
    first
      | (have e1 : accB x = true := by rw [hv]; simp; omega
         rw [e1])
      | (have e1 : accB x = false := by rw [hv]; simp; omega
         rw [e1])
    clear hv
    go_enter Try.func112, Try.ntmps112
    go_wp2
    all_goals (go_ret; first | exact ⟨rfl, rfl⟩ | (exfalso; omega))

set_option maxHeartbeats 1000000 in
theorem raccent_any (x : Int) (w : World) : Calls Try.prog 81 #[.int .u8 x] w fun e w' => e = .returned (.bool (accB x)) ∧ w' = w := by
  have hv : accB x = decide (x = 94 ∨ x = 96 ∨ x = 126) := rfl
  have hc : x < 94 ∨ x = 94 ∨ x = 95 ∨ x = 96 ∨ (96 < x ∧ x < 126) ∨ x = 126 ∨ 126 < x := by omega
  rcases hc with h | h | h | h | h | h | h
  all_goals
    first
      | (have e1 : accB x = true := by rw [hv]; simp; omega
         rw [e1])
      | (have e1 : accB x = false := by rw [hv]; simp; omega
         rw [e1])
    clear hv
    have f1 : (x == 94) = decide (x = 94) := by by_cases h : x = 94 <;> simp [h]
    have f2 : (x == 96) = decide (x = 96) := by by_cases h : x = 96 <;> simp [h]
    go_enter Try.func81, Try.ntmps81
    go_wp2
    all_goals (go_ret; first | exact ⟨rfl, rfl⟩ | (exfalso; omega) | (refine ⟨?_, rfl⟩; congr 2; simp <;> omega))

set_option maxHeartbeats 1000000 in
theorem rletter_any (x : Int) (w : World) : Calls Try.prog 98 #[.int .u8 x] w fun e w' => e = .returned (.bool (letB x)) ∧ w' = w := by
  have hv : letB x = decide ((97 ≤ x ∧ x ≤ 122) ∨ (65 ≤ x ∧ x ≤ 90)) := rfl
  have hc : x < 65 ∨ (65 ≤ x ∧ x ≤ 90) ∨ (90 < x ∧ x < 97) ∨ (97 ≤ x ∧ x ≤ 122) ∨ 122 < x := by omega
  rcases hc with h | h | h | h | h
  all_goals
    first
      | (have e1 : letB x = true := by rw [hv]; simp; omega
         rw [e1])
      | (have e1 : letB x = false := by rw [hv]; simp; omega
         rw [e1])
    clear hv
    go_enter Try.func98, Try.ntmps98
    go_wp2
    all_goals (go_ret; first | exact ⟨rfl, rfl⟩ | (exfalso; omega) | (refine ⟨?_, rfl⟩; congr 2; simp <;> omega))

set_option maxHeartbeats 2000000 in
theorem rkind_any (x : Int) (w : World) : Calls Try.prog 80 #[.int .u8 x] w fun e w' => e = .returned (.int .i64 (kindI x)) ∧ w' = w := by
  have hv : kindI x = (if (97 ≤ x ∧ x ≤ 122) ∨ (65 ≤ x ∧ x ≤ 90) then 1 else if x = 32 then 3 else if 32 < x ∧ x ≤ 126 then 2 else if x = 9 then 4 else if x = 31 then 5
    else if x = 1 then 6 else if x = 2 then 7 else if x = 3 then 8 else 0) := rfl
  have hl := rletter_any x w
  have hv2 : letB x = decide ((97 ≤ x ∧ x ≤ 122) ∨ (65 ≤ x ∧ x ≤ 90)) := rfl
  rcases cases_kind x with h | h | h | h | h | h | h | h | h | h | h | h | h | h | h
  all_goals
    first
      | (have e1 : letB x = true := by rw [hv2]; simp; omega
         rw [e1] at hl)
      | (have e1 : letB x = false := by rw [hv2]; simp; omega
         rw [e1] at hl)
    first
      | (have e1 : kindI x = 1 := by rw [hv]; repeat (first | rw [if_neg (by omega)] | rw [if_pos (by omega)])
         rw [e1])
      | (have e1 : kindI x = 3 := by rw [hv]; repeat (first | rw [if_neg (by omega)] | rw [if_pos (by omega)])
         rw [e1])
      | (have e1 : kindI x = 2 := by rw [hv]; repeat (first | rw [if_neg (by omega)] | rw [if_pos (by omega)])
         rw [e1])
      | (have e1 : kindI x = 4 := by rw [hv]; repeat (first | rw [if_neg (by omega)] | rw [if_pos (by omega)])
         rw [e1])
      | (have e1 : kindI x = 5 := by rw [hv]; repeat (first | rw [if_neg (by omega)] | rw [if_pos (by omega)])
         rw [e1])
      | (have e1 : kindI x = 6 := by rw [hv]; repeat (first | rw [if_neg (by omega)] | rw [if_pos (by omega)])
         rw [e1])
      | (have e1 : kindI x = 7 := by rw [hv]; repeat (first | rw [if_neg (by omega)] | rw [if_pos (by omega)])
         rw [e1])
      | (have e1 : kindI x = 8 := by rw [hv]; repeat (first | rw [if_neg (by omega)] | rw [if_pos (by omega)])
         rw [e1])
      | (have e1 : kindI x = 0 := by rw [hv]; repeat (first | rw [if_neg (by omega)] | rw [if_pos (by omega)])
         rw [e1])
    clear hv hv2
    go_enter Try.func80, Try.ntmps80
    go_wp2_with (go_at_call 98; refine hl.mono ?_; rintro e w' ⟨rfl, rfl⟩)
    all_goals (go_ret; first | exact ⟨rfl, rfl⟩ | (exfalso; omega))

end Go.Proofs.Ytkhnfmdhdfpdhaa
