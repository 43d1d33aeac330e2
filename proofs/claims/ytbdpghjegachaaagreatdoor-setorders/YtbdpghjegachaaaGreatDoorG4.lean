/-
  What is proved here: whether a label or a mark may stand; whether a text has a Field; how many Refs it has.
  What is proved here: which two bytes stand nearer, as Kern of metric tells it.
  What is proved here: the document's kerning of two bytes.
  What is proved here: the bounds of a paragraph's properties, as properties answers them.
  What is proved here: a paragraph in memory; loads of its parts.
  What is proved here: what kind, isAccent, end, refuse, refusePlace of cluster answer, and the document's Kind, letter, accent, Wrong.
  What is proved here: what end, refuse, refusePlace of cluster answer, and the document's Wrong.
-/
import Derived.Test.YtbdpghjegachaaaGreatDoorG3
import Derived.Lib.Bytealg
import Derived.Test.YtbdpghjegachaaaGreatDoorG1
import Derived.Laws.IdiomStrings
import Derived.OrdersHeld
import Derived.BigQuiet
import Derived.WalkKit
import Derived.WalkSpells
import Derived.LoopN
namespace Go.Proofs.YtbdpghjegachaaaGreatDoor
open Go.RowKit Go.Shelf

/-- All bytes are letters. -/
def visB (s : ByteArray) : Bool := decide (∀ k, k < s.size → 32 < bt s k ∧ bt s k ≤ 126)
def standB (s : ByteArray) (a b : Int) : Bool := decide (a ≤ s.size ∧ (s.size : Int) ≤ b) && visB s
theorem vis_no {s : ByteArray} {k : Nat} (hk : k < s.size) (h : ¬ (32 < bt s k ∧ bt s k ≤ 126)) : visB s = false := decide_eq_false (fun ha => h (ha k hk))

set_option maxRecDepth 100000 in
set_option maxHeartbeats 1000000 in
theorem mayStand_any (s : ByteArray) (a b : Int) (hb : b ≤ 16) (w : World) : Calls Tryz.prog 86 #[.string s, .int .i64 a, .int .i64 b] w fun e w' => e = .returned (.bool (standB s a b)) ∧ w' = w := by
  by_cases h1 : a ≤ s.size
  · by_cases h2 : (s.size : Int) ≤ b
    · have e0 : standB s a b = visB s := by unfold standB; rw [decide_eq_true ⟨h1, h2⟩, Bool.true_and]
      rw [e0]
      clear e0
      have hN : Hid (∀ k, k < s.size → ¬ (32 < bt s k ∧ bt s k ≤ 126) → visB s = false) := fun k hk h => vis_no hk h
      have hY : Hid ((∀ k, k < s.size → 32 < bt s k ∧ bt s k ≤ 126) → visB s = true) := fun h => decide_eq_true h
      generalize visB s = r at hN hY ⊢
      go_enter Tryz.func86, Tryz.ntmps86
      go_wp2
      go_loopw [20] (fun i wr => ∃ k : Nat, k ≤ s.size ∧ i = .int .i64 k ∧ wr = w ∧ Hid (∀ j, j < k → 32 < bt s j ∧ bt s j ≤ 126)) (fun i _ => s.size - (intOf i).toNat)
      case atStart => exact ⟨0, by omega, rfl, rfl, fun j hj => by omega⟩
      case round =>
        obtain ⟨k, hk, rfl, rfl, hall⟩ := hrel
        by_cases hlt : k < s.size
        · have hb0 : Hid (bt s k = ((s[k]'hlt).toNat : Int)) := bt_eq hlt
          have hno := hN.out k hlt
          have hno' : Hid (¬ (32 < bt s k ∧ bt s k ≤ 126) → r = false) := hno
          have hyes : Hid ((32 < bt s k ∧ bt s k ≤ 126) → ∀ j, j < k + 1 → 32 < bt s j ∧ bt s j ≤ 126) := fun hv j hj => by
            by_cases h : j < k
            · exact hall.out j h
            · obtain rfl : j = k := by omega
              exact hv
          clear hN hY hall hno
          by_cases d1 : ((s[k]'hlt).toNat : Int) ≤ 32
          · have hn := hno'.out (by rw [hb0.out]; omega)
            subst hn
            clear hno' hyes hb0
            go_wp2_with fail
            go_ret
            exact ⟨rfl, rfl⟩
          · by_cases d2 : 126 < ((s[k]'hlt).toNat : Int)
            · have hn := hno'.out (by rw [hb0.out]; omega)
              subst hn
              clear hno' hyes hb0
              go_wp2_with fail
              go_ret
              exact ⟨rfl, rfl⟩
            · have hy : Hid (∀ j, j < k + 1 → 32 < bt s j ∧ bt s j ≤ 126) := hyes.out (by rw [hb0.out]; omega)
              clear hno' hyes hb0
              go_wp2_with fail
              go_roundw
              case rel => exact ⟨k + 1, by omega, by simp, by first | rfl | trivial, hy⟩
              case measure => simp [intOf]; omega
        · have hn := hY.out (fun j hj => hall.out j (by omega))
          clear hN hY hall
          subst hn
          go_wp2_with fail
          go_ret
          exact ⟨rfl, rfl⟩
    · have e0 : standB s a b = false := by unfold standB; rw [decide_eq_false (fun h => h2 h.2), Bool.false_and]
      rw [e0]
      clear e0
      go_enter Tryz.func86, Tryz.ntmps86
      go_wp2
      go_ret
      exact ⟨rfl, rfl⟩
  · have e0 : standB s a b = false := by unfold standB; rw [decide_eq_false (fun h => h1 h.1), Bool.false_and]
    rw [e0]
    clear e0
    go_enter Tryz.func86, Tryz.ntmps86
    go_wp2
    go_ret
    exact ⟨rfl, rfl⟩

/-- Has a text a Field? -/
def fieldB (t : ByteArray) : Bool := decide (∃ k, k < t.size ∧ bt t k = 3)
theorem mem_bt {t : ByteArray} {c : UInt8} : c ∈ t.data.toList ↔ ∃ k, k < t.size ∧ bt t k = (c.toNat : Int) := by
  constructor
  · intro h
    obtain ⟨k, hk, rfl⟩ := List.getElem_of_mem h
    have hk' : k < t.size := by simpa using hk
    exact ⟨k, hk', by rw [bt_eq hk']; simp [ByteArray.getElem_eq_getElem_data]⟩
  · rintro ⟨k, hk, e⟩
    rw [bt_eq hk] at e
    have : t[k] = c := UInt8.toNat_inj.1 (by omega)
    rw [← this]
    simp [ByteArray.getElem_eq_getElem_data]
theorem index_pos (l : List UInt8) (c : UInt8) : (0 ≤ Lib.indexByte l c) ↔ c ∈ l := by
  induction l with
  | nil => simp [Lib.indexByte]
  | cons b l ih =>
    have hg := Lib.indexByte_ge l c
    rw [Lib.indexByte]
    by_cases e : b = c
    · simp [e]
    · have e' : (b == c) = false := by simpa using e
      rw [e']
      by_cases h : Lib.indexByte l c = -1
      · simp [h]
        have : ¬ c ∈ l := fun hm => by have := ih.2 hm; omega
        exact ⟨fun h => e h.symm, this⟩
      · have h' : (Lib.indexByte l c == -1) = false := by simpa using h
        rw [h']
        have : c ∈ l := ih.1 (by omega)
        simp [this]
        omega
theorem field_index (t : ByteArray) : decide (0 ≤ Lib.indexByte t.data.toList 3) = fieldB t := by
  unfold fieldB
  rw [decide_eq_decide, index_pos, mem_bt]
  rfl

set_option maxRecDepth 100000 in
set_option maxHeartbeats 1000000 in
theorem liteIndex_any (t : ByteArray) (c : Int) (w : World) : Calls Tryz.prog 124 #[.string t, .int .u8 c] w fun e w' => e = .returned (.int .i64 (Lib.indexByte t.data.toList c.toNat.toUInt8)) ∧ w' = w := by
  go_enter Tryz.func124, Tryz.ntmps124
  go_wp2
  rw [run_callFunc_extern Tryz.func141 (by kernel_rfl) (by kernel_rfl) (by kernel_rfl) (e := Extern.BytealgIndexByte.indexByte) (by kernel_rfl), Lib.run_indexByteString]
  simp only [Result.andThen]
  rw [Oper.upon_value]
  go_wp2
  go_ret
  exact ⟨rfl, rfl⟩
set_option maxRecDepth 100000 in
set_option maxHeartbeats 1000000 in
theorem indexByte_any (t : ByteArray) (w : World) : Calls Tryz.prog 82 #[.string t, .int .u8 3] w fun e w' => e = .returned (.int .i64 (Lib.indexByte t.data.toList 3)) ∧ w' = w := by
  have h := liteIndex_any t 3 w
  go_enter Tryz.func82, Tryz.ntmps82
  go_wp2_with (go_at_call 124; refine h.mono ?_; rintro e w' ⟨rfl, hww⟩; subst w')
  go_ret
  exact ⟨rfl, rfl⟩

/-- How many Refs are among the first bytes. -/
def refN (t : ByteArray) : Nat → Nat
  | 0 => 0
  | k + 1 => refN t k + (if bt t k = 2 then 1 else 0)
theorem refN_take (t : ByteArray) : ∀ k, k ≤ t.size → refN t k = (t.data.toList.take k).count 2
  | 0, _ => by simp [refN]
  | k + 1, h => by
    have hk : k < t.data.toList.length := by simp; omega
    rw [List.take_succ_eq_append_getElem hk, List.count_append, refN, refN_take t k (by omega)]
    have e : bt t k = ((t.data.toList[k]).toNat : Int) := by rw [bt_eq (by omega)]; simp [ByteArray.getElem_eq_getElem_data]
    rw [e]
    congr 1
    by_cases h2 : t.data.toList[k] = 2
    · rw [h2]; rfl
    · have h3 : ¬ ((t.data.toList[k]).toNat : Int) = 2 := fun h => h2 (UInt8.toNat_inj.1 (by show _ = 2; omega))
      rw [if_neg h3]
      generalize t.data.toList[k] = y at h2
      simp [h2]
theorem refN_count (t : ByteArray) : t.data.toList.count 2 = refN t t.size := by
  rw [refN_take t t.size (Nat.le_refl _)]
  congr 1
  symm
  apply List.take_of_length_le
  simp
theorem refN_le (t : ByteArray) : ∀ k, refN t k ≤ k
  | 0 => Nat.le_refl _
  | k + 1 => by
    have := refN_le t k
    show refN t k + (if bt t k = 2 then 1 else 0) ≤ k + 1
    split <;> omega

set_option maxRecDepth 100000 in
set_option maxHeartbeats 1000000 in
theorem count_any (t : ByteArray) (w : World) : Calls Tryz.prog 125 #[.string t, .string { data := #[2] }] w fun e w' => e = .returned (.int .i64 (refN t t.size : Nat)) ∧ w' = w := by
  have hcnt : Lib.countByte t.data.toList 2 = refN t t.size := refN_count t
  go_enter Tryz.func125, Tryz.ntmps125
  go_wp2
  rw [run_callFunc_extern Tryz.func143 (by kernel_rfl) (by kernel_rfl) (by kernel_rfl) (e := Extern.BytealgCount.count) (by kernel_rfl), Lib.run_countString]
  simp only [Result.andThen]
  rw [Oper.upon_value]
  go_wp2
  go_ret
  exact ⟨by rw [← hcnt]; rfl, rfl⟩

end Go.Proofs.YtbdpghjegachaaaGreatDoor

namespace Go.Proofs.YtbdpghjegachaaaGreatDoor
open Go.RowKit Go.Shelf

def pairs2 : List (Int × Int) := [(65, 84), (65, 86), (65, 87), (65, 89), (84, 65), (86, 65), (87, 65), (89, 65), (76, 84), (76, 86), (76, 89), (80, 65), (84, 111), (84, 97), (84, 101), (86, 111), (86, 97), (89, 111), (89, 97)]
def pairs1 : List (Int × Int) := [(114, 46), (114, 44), (102, 46), (102, 44), (118, 46), (121, 46), (65, 118), (65, 121), (111, 118), (118, 111)]
def txt2 : ByteArray := { data := #[65, 84, 65, 86, 65, 87, 65, 89, 84, 65, 86, 65, 87, 65, 89, 65, 76, 84, 76, 86, 76, 89, 80, 65, 84, 111, 84, 97, 84, 101, 86, 111, 86, 97, 89, 111, 89, 97] }
def txt1 : ByteArray := { data := #[114, 46, 114, 44, 102, 46, 102, 44, 118, 46, 121, 46, 65, 118, 65, 121, 111, 118, 118, 111] }
/-- The pairs of a text, two bytes at a time. -/
def prs (p : ByteArray) (n : Nat) : List (Int × Int) := (List.range n).map (fun i => (bt p (2 * i), bt p (2 * i + 1)))
theorem prs2 : prs txt2 19 = pairs2 := by decide +kernel
theorem prs1 : prs txt1 10 = pairs1 := by decide +kernel
def hasB (l : List (Int × Int)) (a b : Int) : Bool := decide ((a, b) ∈ l)
/-- The kerning of two bytes of a size. -/
def kernI (a b s : Int) : Int := if hasB pairs2 a b = true then -((2 * s) / 16) else if hasB pairs1 a b = true then -(s / 16) else 0
theorem kernI_rng (a b : Int) {s : Int} (h0 : 0 ≤ s) (h1 : s ≤ 64) : -8 ≤ kernI a b s ∧ kernI a b s ≤ 0 := by
  unfold kernI
  repeat' split
  all_goals omega

set_option maxRecDepth 100000 in
set_option maxHeartbeats 1000000 in
theorem hasPair_any (p : ByteArray) (n : Nat) (hp : p.size = 2 * n) (hn : n ≤ 100) (a b : Int) (w : World) :
    Calls Tryz.prog 126 #[.string p, .int .u8 a, .int .u8 b] w fun e w' => e = .returned (.bool (hasB (prs p n) a b)) ∧ w' = w := by
  have hY : Hid (∀ k, k < n → bt p (2 * k) = a → bt p (2 * k + 1) = b → hasB (prs p n) a b = true) := fun k hk e1 e2 => by
    refine decide_eq_true (List.mem_map.2 ⟨k, List.mem_range.2 hk, ?_⟩)
    rw [e1, e2]
  have hN : Hid ((∀ k, k < n → ¬ (bt p (2 * k) = a ∧ bt p (2 * k + 1) = b)) → hasB (prs p n) a b = false) := fun h => by
    refine decide_eq_false (fun hm => ?_)
    obtain ⟨k, hk, e⟩ := List.mem_map.1 hm
    exact h k (List.mem_range.1 hk) ⟨congrArg Prod.fst e, congrArg Prod.snd e⟩
  generalize hasB (prs p n) a b = r at hY hN ⊢
  have hp1 : p.size ≤ 2 * n := by omega
  have hp2 : 2 * n ≤ p.size := by omega
  clear hp
  go_enter Tryz.func126, Tryz.ntmps126
  go_wp2
  go_loopw [7] (fun i wr => ∃ k : Nat, k ≤ n ∧ i = .int .i64 (2 * k : Nat) ∧ wr = w ∧ Hid (∀ j, j < k → ¬ (bt p (2 * j) = a ∧ bt p (2 * j + 1) = b))) (fun i _ => p.size - (intOf i).toNat)
  case atStart => exact ⟨0, by omega, rfl, rfl, fun j hj => by omega⟩
  case round =>
    obtain ⟨k, hk, rfl, rfl, hall⟩ := hrel
    by_cases hlt : k < n
    · have hl0 : 2 * k < p.size := by omega
      have hl1 : 2 * k + 1 < p.size := by omega
      have hb0 : Hid (bt p (2 * k) = ((p[2 * k]'hl0).toNat : Int)) := bt_eq hl0
      have hb1 : Hid (bt p (2 * k + 1) = ((p[2 * k + 1]'hl1).toNat : Int)) := bt_eq hl1
      go_wp2_with fail
      · rename_i h0 _ h1
        have hn := hY.out k hlt (hb0.out.trans h0) (hb1.out.trans (by simpa using h1))
        subst hn
        go_ret
        exact ⟨rfl, rfl⟩
      · rename_i _ _ h1
        have hyes : Hid (∀ j, j < k + 1 → ¬ (bt p (2 * j) = a ∧ bt p (2 * j + 1) = b)) := fun j hj => by
          by_cases h : j < k
          · exact hall.out j h
          · obtain rfl : j = k := by omega
            rintro ⟨_, e⟩
            rw [hb1.out] at e
            simp [e] at h1
        clear hY hN hall hb0 hb1 h1
        refine ⟨⟨k + 1, by omega, by simp; omega, trivial, hyes⟩, ?_⟩
        simp [intOf]; omega
      · rename_i h0
        have hyes : Hid (∀ j, j < k + 1 → ¬ (bt p (2 * j) = a ∧ bt p (2 * j + 1) = b)) := fun j hj => by
          by_cases h : j < k
          · exact hall.out j h
          · obtain rfl : j = k := by omega
            rintro ⟨e, _⟩
            rw [hb0.out] at e
            exact h0 e
        clear hY hN hall hb0 hb1 h0
        refine ⟨⟨k + 1, by omega, by simp; omega, trivial, hyes⟩, ?_⟩
        simp [intOf]; omega
    · have hn := hN.out (fun j hj => hall.out j (by omega))
      have hge : ¬ (2 * (k : Int)) < p.size := by omega
      clear hY hN hall
      subst hn
      go_wp2_with fail
      go_ret
      exact ⟨rfl, rfl⟩

set_option maxRecDepth 100000 in
set_option maxHeartbeats 1000000 in
theorem kern_any (a b s : Int) (h0 : 0 ≤ s) (h1 : s ≤ 64) (w : World) : Calls Tryz.prog 92 #[.int .u8 a, .int .u8 b, .int .i64 s] w fun e w' => e = .returned (.int .i64 (kernI a b s)) ∧ w' = w := by
  have c2 := hasPair_any txt2 19 rfl (by decide) a b w
  have c1 := hasPair_any txt1 10 rfl (by decide) a b w
  rw [prs2] at c2
  rw [prs1] at c1
  have q2 : (2 * s).tdiv 16 = 2 * s / 16 := Int.tdiv_eq_ediv_of_nonneg (by omega)
  have q1 : s.tdiv 16 = s / 16 := Int.tdiv_eq_ediv_of_nonneg (by omega)
  by_cases e2 : hasB pairs2 a b = true
  · have ek : kernI a b s = -((2 * s) / 16) := by unfold kernI; rw [if_pos e2]
    rw [ek]
    rw [e2] at c2
    clear ek e2 c1
    go_enter Tryz.func92, Tryz.ntmps92
    go_wp2_with fail
    refine c2.mono ?_
    rintro e w' ⟨rfl, hww⟩
    subst w'
    go_wp2_with fail
    go_ret
    exact ⟨rfl, rfl⟩
  · have e2' : hasB pairs2 a b = false := by simpa using e2
    rw [e2'] at c2
    by_cases e1 : hasB pairs1 a b = true
    · have ek : kernI a b s = -(s / 16) := by unfold kernI; rw [if_neg e2, if_pos e1]
      rw [ek]
      rw [e1] at c1
      clear ek e2 e2' e1
      go_enter Tryz.func92, Tryz.ntmps92
      go_wp2_with fail
      refine c2.mono ?_
      rintro e w' ⟨rfl, hww⟩
      subst w'
      go_wp2_with fail
      refine c1.mono ?_
      rintro e w' ⟨rfl, hww⟩
      subst w'
      go_wp2_with fail
      go_ret
      exact ⟨rfl, rfl⟩
    · have ek : kernI a b s = 0 := by unfold kernI; rw [if_neg e2, if_neg e1]
      have e1' : hasB pairs1 a b = false := by simpa using e1
      rw [ek]
      rw [e1'] at c1
      clear ek e2 e2' e1 e1'
      go_enter Tryz.func92, Tryz.ntmps92
      go_wp2_with fail
      refine c2.mono ?_
      rintro e w' ⟨rfl, hww⟩
      subst w'
      go_wp2_with fail
      refine c1.mono ?_
      rintro e w' ⟨rfl, hww⟩
      subst w'
      go_wp2_with fail
      go_ret
      exact ⟨rfl, rfl⟩

end Go.Proofs.YtbdpghjegachaaaGreatDoor

namespace Go.Proofs.YtbdpghjegachaaaGreatDoor
open Go.RowKit Go.Shelf

/-- Texts, in memory. -/
structure StrsAt (W : World) (v : Value) (ns : List ByteArray) : Prop where
  ex : ∃ a cap, v = .slice a ns.length cap ∧ (ns = [] ∨ ∃ g o, a = some ⟨g, o, none⟩ ∧ g < W.heap.size ∧ ∀ (i : Nat) (h : i < ns.length), W.cell? ⟨g, o + i, none⟩ = some (.string ns[i]))
  le : ∀ a n c, v = .slice a n c → n ≤ c
theorem StrsAt.below {W W' : World} {n : Nat} {v : Value} {ns : List ByteArray} (h : StrsAt W v ns) (hb : Below n W W') (hn : W.heap.size ≤ n) : StrsAt W' v ns := by
  have hle := h.le
  obtain ⟨a, cap, rfl, h2⟩ := h.ex
  refine ⟨⟨a, cap, rfl, ?_⟩, hle⟩
  rcases h2 with h2 | ⟨g, o, rfl, hlt, hc⟩
  · exact .inl h2
  · exact .inr ⟨g, o, rfl, Nat.lt_of_lt_of_le hlt hb.size, fun i hi => (hb.cell (Nat.lt_of_lt_of_le hlt hn)).trans (hc i hi)⟩
end Go.Proofs.YtbdpghjegachaaaGreatDoor

namespace Go.Proofs.YtbdpghjegachaaaGreatDoor
open Go.RowKit Go.Shelf

set_option maxRecDepth 100000 in
set_option maxHeartbeats 2000000 in
theorem properties_any (p : Pr) (w : World) :
    Calls Tryz.prog 85 #[.agg (prL p).toArray] w fun e w' => ∃ v, e = .returned v ∧ RecAt 3 bdL w' v (prB p) ∧ Below w.heap.size w w' := by
  have hr := fun W : World => rec_new (k := 3) bdL_len W 166 (prB p)
  obtain ⟨x0, x1, x2, x3, x4, x5, x6, x7, x8, x9, x10, x11, x12, x13, x14, x15, x16⟩ := p
  show Calls Tryz.prog 85 #[.agg #[.int .i64 x0, .int .i64 x1, .int .i64 x2, .int .i64 x3, .int .i64 x4, .int .i64 x5, .int .i64 x6, .int .i64 x7, .int .i64 x8, .int .i64 x9, .int .i64 x10, .int .i64 x11, .int .i64 x12, .int .i64 x13, .int .i64 x14, .int .i64 x15, .int .i64 x16]] w _
  go_enter Tryz.func85, Tryz.ntmps85
  go_wp2
  go_ret
  have h1 := hr (w.alloc (.cells #[.int .i64 x0, .int .i64 x1, .int .i64 x2, .int .i64 x3, .int .i64 x4, .int .i64 x5, .int .i64 x6, .int .i64 x7, .int .i64 x8, .int .i64 x9, .int .i64 x10, .int .i64 x11, .int .i64 x12, .int .i64 x13, .int .i64 x14, .int .i64 x15, .int .i64 x16] 24))
  rw [World.size_alloc] at h1
  have hb := (Below.refl w.heap.size w).alloc (Nat.le_refl _) (.cells #[.int .i64 x0, .int .i64 x1, .int .i64 x2, .int .i64 x3, .int .i64 x4, .int .i64 x5, .int .i64 x6, .int .i64 x7, .int .i64 x8, .int .i64 x9, .int .i64 x10, .int .i64 x11, .int .i64 x12, .int .i64 x13, .int .i64 x14, .int .i64 x15, .int .i64 x16] 24)
  exact ⟨_, rfl, h1, hb.alloc hb.size _⟩

end Go.Proofs.YtbdpghjegachaaaGreatDoor

namespace Go.Proofs.YtbdpghjegachaaaGreatDoor
open Go.RowKit Go.Shelf

theorem run_loadVar_part {P : Program} (w : World) (g o : Nat) (ty : TypeId) (cs : List Value) (d : TypeDesc) (hc : ∀ j v, cs[j]? = some v → w.cell? ⟨g, o + j, none⟩ = some v)
    (hu : P.underlying ty = some d) (hd : (match d with | .struct _ | .array _ _ => true | _ => false) = true) (hi : (P.info? ty).map (·.size) = some cs.length) :
    (loadVar ty ⟨g, o, none⟩).run P w = .ok (.agg cs.toArray) w := by
  have hl : (loadCells ⟨g, o, none⟩ cs.length).run P w = .ok cs.toArray w :=
    run_loadCells_list (P := P) w ⟨g, o, none⟩ cs (fun j v hv => by rw [addr_add]; exact hc j v hv)
  cases hq : P.info? ty with
  | none => simp [hq] at hi
  | some i =>
    have hs : i.size = cs.length := by simpa [hq] using hi
    have hagg : (isAgg ty).run P w = .ok true w := by
      unfold isAgg
      rw [Sem.run_bind, run_underlying hu w]
      cases d <;> simp_all
    simp [loadVar, Sem.run_bind, hagg, sizeOf, typeInfo, hq, hs, hl]
theorem wp_load_part {P : Program} {oi : Oper} {a : Act} {w : World} {K : Act → World → Prop} {Q : Exit → Act → World → Prop} (ty : TypeId) (x : Operand) (ho : oi.op = .load ty x)
    (g o : Nat) (hx : a.eval x = .pointer (some ⟨g, o, none⟩)) (cs : List Value) (d : TypeDesc) (hc : ∀ j v, cs[j]? = some v → w.cell? ⟨g, o + j, none⟩ = some v)
    (hu : P.underlying ty = some d) (hd : (match d with | .struct _ | .array _ _ => true | _ => false) = true) (hi : (P.info? ty).map (·.size) = some cs.length)
    (h : K (a.put oi.dst (.agg cs.toArray)) w) : oi.wp P a w K Q := by
  unfold Oper.wp execOp
  simp only [ho, hx, Instr.loadAt, Instr.sureAddr, Sem.run_bind, Sem.run_pure, Result.andThen_ok, run_loadVar_part w g o ty cs d hc hu hd hi]
  exact h
theorem wpList_load_part {P : Program} {ops : Array Oper} {rest : List Oper} {oi : Oper} {a : Act} {w : World} {Q : Exit → Act → World → Prop} (ty : TypeId) (x : Operand) (ho : oi.op = .load ty x) (hw : Region.wanted oi (yielded ops a.tmps) = true)
    (g o : Nat) (hx : a.eval x = .pointer (some ⟨g, o, none⟩)) (cs : List Value) (d : TypeDesc) (hc : ∀ j v, cs[j]? = some v → w.cell? ⟨g, o + j, none⟩ = some v)
    (hu : P.underlying ty = some d) (hd : (match d with | .struct _ | .array _ _ => true | _ => false) = true) (hi : (P.info? ty).map (·.size) = some cs.length)
    (h : wpList P ops Q rest (a.put oi.dst (.agg cs.toArray)) w) : wpList P ops Q (oi :: rest) a w :=
  BigFrame.wpList_want hw fun _ hK => wp_load_part ty x ho g o hx cs d hc hu hd hi (hK _ _ h)

theorem below_drewN {n : Nat} {w w' : World} (h : Below n w w') (q : Nat) : Below n w (w'.drewN q) := ⟨h.1, h.2, h.3, h.4, h.5⟩

/-- A paragraph: its text, its properties, its label, its spans, its marks. -/
structure Pa where
  t : ByteArray
  sv : Value
  p : Pr
  lb : ByteArray
  mv : Value
  sp : List Sp
  ms : List ByteArray
def paC (a : Pa) : Array Value := #[.string a.t, a.sv, .int .i64 a.p.p0, .int .i64 a.p.p1, .int .i64 a.p.p2, .int .i64 a.p.p3, .int .i64 a.p.p4, .int .i64 a.p.p5, .int .i64 a.p.p6, .int .i64 a.p.p7, .int .i64 a.p.p8, .int .i64 a.p.p9, .int .i64 a.p.p10, .int .i64 a.p.p11, .int .i64 a.p.p12, .int .i64 a.p.p13, .int .i64 a.p.p14, .int .i64 a.p.p15, .int .i64 a.p.p16, .string a.lb, a.mv]
def paV (a : Pa) : Value := .agg (paC a)
/-- A paragraph's lists, in memory. -/
structure PaAt (W : World) (a : Pa) : Prop where
  sp : RecAt 4 spL W a.sv a.sp
  ms : StrsAt W a.mv a.ms
  few : a.sp.length ≤ 9223372036854775807 ∧ a.ms.length ≤ 9223372036854775807
theorem PaAt.below {W W' : World} {n : Nat} {a : Pa} (h : PaAt W a) (hb : Below n W W') (hn : W.heap.size ≤ n) : PaAt W' a := ⟨h.sp.below hb hn, h.ms.below hb hn, h.few⟩
/-- A paragraph's box. -/
structure PB (w : World) (B : Nat) (a : Pa) : Prop where
  row : w.heap[B]? = some (.cells (paC a) 27 (0, 0))
theorem PB.lt {w : World} {B : Nat} {a : Pa} (h : PB w B a) : B < w.heap.size := (Array.getElem?_eq_some_iff.1 h.row).1
theorem PB.cell {w : World} {B : Nat} {a : Pa} (h : PB w B a) {k : Nat} {v : Value} (hk : (paC a)[k]? = some v) : w.cell? ⟨B, k, none⟩ = some v := by
  rw [Lib.cell_of_heap h.row, hk]
theorem PB.below {w w' : World} {n B : Nat} {a : Pa} (h : PB w B a) (hb : Below n w w') (hn : B < n) : PB w' B a := ⟨(hb.block B hn).trans h.row⟩
theorem PB.new (w : World) (a : Pa) : PB (w.alloc (.cells (paC a) 27)) w.heap.size a := ⟨World.alloc_heap_new w _⟩
theorem PB.c0 {w : World} {B : Nat} {a : Pa} (h : PB w B a) : w.cell? ⟨B, 0, none⟩ = some (.string a.t) := h.cell rfl
theorem PB.c1 {w : World} {B : Nat} {a : Pa} (h : PB w B a) : w.cell? ⟨B, 1, none⟩ = some a.sv := h.cell rfl
theorem PB.c2 {w : World} {B : Nat} {a : Pa} (h : PB w B a) : w.cell? ⟨B, 2, none⟩ = some (.int .i64 a.p.p0) := h.cell rfl
theorem PB.c19 {w : World} {B : Nat} {a : Pa} (h : PB w B a) : w.cell? ⟨B, 19, none⟩ = some (.string a.lb) := h.cell rfl
theorem PB.c20 {w : World} {B : Nat} {a : Pa} (h : PB w B a) : w.cell? ⟨B, 20, none⟩ = some a.mv := h.cell rfl
theorem PB.pr {w : World} {B : Nat} {a : Pa} (h : PB w B a) : ∀ j v, (prL a.p)[j]? = some v → w.cell? ⟨B, 2 + j, none⟩ = some v := fun j v hv => by
  refine h.cell ?_
  have hj : j < 17 := (List.getElem?_eq_some_iff.1 hv).1
  have e : (paC a)[2 + j]? = (prL a.p)[j]? := by
    have hj' : j = 0 ∨ j = 1 ∨ j = 2 ∨ j = 3 ∨ j = 4 ∨ j = 5 ∨ j = 6 ∨ j = 7 ∨ j = 8 ∨ j = 9 ∨ j = 10 ∨ j = 11 ∨ j = 12 ∨ j = 13 ∨ j = 14 ∨ j = 15 ∨ j = 16 := by omega
    rcases hj' with rfl | rfl | rfl | rfl | rfl | rfl | rfl | rfl | rfl | rfl | rfl | rfl | rfl | rfl | rfl | rfl | rfl <;> rfl
  rw [e, hv]
theorem info34 (a : Pa) : (Tryz.prog.info? 27).map (·.size) = some (paC a).size := by show _ = some 21; kernel_rfl
theorem info31 (p : Pr) : (Tryz.prog.info? 24).map (·.size) = some (prL p).length := by show _ = some 17; kernel_rfl

/-- May the marks be? -/
def markB (t : ByteArray) (l : List ByteArray) : Bool := decide (l.length = refN t t.size) && l.all (fun m => standB m 1 8)

set_option maxRecDepth 100000 in
set_option maxHeartbeats 2000000 in
theorem mayMark_any (a : Pa) (ht : a.t.size ≤ 4096) (w : World) (hA : PaAt w a) :
    Calls Tryz.prog 87 #[paV a] w fun e w' => e = .returned (.bool (markB a.t a.ms)) ∧ Below w.heap.size w w' := by
  have hB := (Below.refl w.heap.size w).alloc (Nat.le_refl _) (Obj.cells (paC a) 27)
  have hP := PB.new w a
  have c0 := hP.c0; have c20 := hP.c20
  have hM := hA.ms.below hB (Nat.le_refl _)
  have hfew := hA.few.2
  have hcn := count_any a.t
  have hrl := refN_le a.t a.t.size
  clear hA hP
  unfold paV
  generalize hw1 : w.alloc (.cells (paC a) 27) = w1 at *
  obtain ⟨ad, cap, hv, h2⟩ := hM.ex
  rw [hv] at c20
  have hN0 : Hid (a.ms.length ≠ refN a.t a.t.size → markB a.t a.ms = false) := fun h => by unfold markB; rw [decide_eq_false h, Bool.false_and]
  have hN : Hid (∀ k (hk : k < a.ms.length), standB a.ms[k] 1 8 = false → markB a.t a.ms = false) := fun k hk e => by
    unfold markB
    rw [List.all_eq_false.2 ⟨a.ms[k], List.getElem_mem hk, by simp [e]⟩, Bool.and_false]
  have hY : Hid (a.ms.length = refN a.t a.t.size → (∀ k (hk : k < a.ms.length), standB a.ms[k] 1 8 = true) → markB a.t a.ms = true) := fun h0 h => by
    unfold markB
    rw [decide_eq_true h0, Bool.true_and]
    exact List.all_eq_true.2 fun b hb => by
      obtain ⟨k, hk, rfl⟩ := List.getElem_of_mem hb
      exact h k hk
  generalize markB a.t a.ms = r at hN0 hN hY ⊢
  clear hv hM
  generalize a.ms = l at *
  generalize refN a.t a.t.size = m at *
  have ht0 : Hid (a.t.size ≤ 4096) := ht
  clear ht
  generalize a.t = t at *
  go_enter Tryz.func87, Tryz.ntmps87
  go_wp2_with fail
  have q1 : ((l.length : Int) != (m : Int)) = !decide (l.length = m) := by
    by_cases h : l.length = m
    · simp [h]
    · have : ¬ (l.length : Int) = m := by omega
      simp [h, this]
  by_cases hlm : l.length = m
  · rw [decide_eq_true hlm] at q1
    have hY' := hY.out hlm
    have hY2 : Hid ((∀ k (hk : k < l.length), standB l[k] 1 8 = true) → r = true) := hY'
    have hm4 : Hid (l.length ≤ 4096) := by have := ht0.out; show l.length ≤ 4096; omega
    clear hY hY' hN0 hlm
    go_quiet (first | (go_at_call 125; refine Calls.quiet_of_same (hcn _)))
    rename_i nq
    have hB1 : Below w.heap.size w (w1.drewN nq) := below_drewN hB _
    have e0 : (w1.drewN nq).cell? ⟨w.heap.size, 20, none⟩ = some (.slice ad l.length cap) := c20
    have hs1 : Hid (w1.heap.size = (w1.drewN nq).heap.size) := rfl
    have h3 : Hid (∀ (i : Nat) (h : i < l.length), ∃ g o, ad = some ⟨g, o, none⟩ ∧ g < (w1.drewN nq).heap.size ∧ (w1.drewN nq).cell? ⟨g, o + i, none⟩ = some (.string l[i])) := fun i h => by
      rcases h2 with h2 | ⟨g, o, e, hg, hc⟩
      · rw [h2] at h; simp at h
      · exact ⟨g, o, e, hg, hc i h⟩
    clear h2 hB c0 c20 hs1
    generalize w1.drewN nq = w2 at *
    go_wp2_with fail
    go_loopw [15] (fun i wr => ∃ k : Nat, k ≤ l.length ∧ i = .int .i64 k ∧ wr = w2 ∧ Hid (∀ j (hj : j < l.length), j < k → standB l[j] 1 8 = true)) (fun i _ => l.length - (intOf i).toNat)
    case atStart => exact ⟨0, by omega, rfl, rfl, fun j _ hj => by omega⟩
    case round =>
      obtain ⟨k, hk, rfl, rfl, hall⟩ := hrel
      by_cases hlt : k < l.length
      · obtain ⟨g, o, rfl, hg, hc⟩ := h3.out k hlt
        have hlt' : (k : Int) < l.length := by omega
        have hms := mayStand_any l[k] 1 8 (by omega) wr
        cases hv : standB l[k] 1 8
        · have hn := hN.out k hlt hv
          rw [hv] at hms
          subst hn
          clear hN hY2 hall hv h3
          generalize l[k] = u at *
          go_wp2_with (go_at_call 86; refine hms.mono ?_; rintro e w' ⟨rfl, hww⟩; subst w')
          go_ret
          exact ⟨rfl, hB1⟩
        · have hyes : Hid (∀ j (hj : j < l.length), j < k + 1 → standB l[j] 1 8 = true) := fun j hj hjk => by
            by_cases h : j < k
            · exact hall.out j hj h
            · obtain rfl : j = k := by omega
              exact hv
          rw [hv] at hms
          clear hN hY2 hall hv h3
          generalize l[k] = u at *
          go_wp2_with (go_at_call 86; refine hms.mono ?_; rintro e w' ⟨rfl, hww⟩; subst w')
          go_roundw
          case rel => exact ⟨k + 1, by omega, by simp, by first | rfl | trivial, hyes⟩
          case measure => simp [intOf]; omega
      · have hn := hY2.out (fun j hj => hall.out j hj (by omega))
        have hge : ¬ (k : Int) < l.length := by omega
        clear hN hY2 hall h3
        subst hn
        go_wp2_with fail
        go_ret
        exact ⟨rfl, hB1⟩
  · rw [decide_eq_false hlm] at q1
    have hn := hN0.out hlm
    subst hn
    clear hN0 hN hY hlm h2
    go_quiet (first | (go_at_call 125; refine Calls.quiet_of_same (hcn _)))
    go_wp2_with fail
    go_ret
    exact ⟨rfl, below_drewN hB _⟩

end Go.Proofs.YtbdpghjegachaaaGreatDoor

namespace Go.Proofs.YtbdpghjegachaaaGreatDoor
open Go.RowKit Go.Shelf

theorem cases_kind (x : Int) : x < 1 ∨ x = 1 ∨ x = 2 ∨ x = 3 ∨ (3 < x ∧ x < 9) ∨ x = 9 ∨ (9 < x ∧ x < 31) ∨ x = 31 ∨ x = 32 ∨ (32 < x ∧ x < 65) ∨ (65 ≤ x ∧ x ≤ 90) ∨ (90 < x ∧ x < 97) ∨ (97 ≤ x ∧ x ≤ 122) ∨ (122 < x ∧ x ≤ 126) ∨ 126 < x := by omega

set_option maxHeartbeats 2000000 in
theorem kind_any (x : Int) (w : World) : Calls Tryz.prog 96 #[.int .u8 x] w fun e w' => e = .returned (.int .i64 (kindI x)) ∧ w' = w := by
  have hv : kindI x = (if (97 ≤ x ∧ x ≤ 122) ∨ (65 ≤ x ∧ x ≤ 90) then 1 else if x = 32 then 3 else if 32 < x ∧ x ≤ 126 then 2 else if x = 9 then 4 else if x = 31 then 5
    else if x = 1 then 6 else if x = 2 then 7 else if x = 3 then 8 else 0) := rfl
  rcases cases_kind x with h | h | h | h | h | h | h | h | h | h | h | h | h | h | h
  all_goals
    first
      | (have e1 : kindI x = 1 := by rw [hv]; repeat (first | rw [if_neg (by omega)] | rw [if_pos (by omega)])
         rw [e1])
      | (have e1 : kindI x = 3 := by rw [hv]; repeat (first | rw [if_neg (by omega)] | rw [if_pos (by omega)])
         rw [e1])
      | (have e1 : kindI x = 2 := by rw [hv]; repeat (first | rw [if_neg (by omega)] | rw [if_pos (by omega)])
         rw [e1])
      | (have e1 : kindI x = 4 := by rw [hv]; repeat (first | rw [if_neg (by omega)] | rw [if_pos (by omega)])
         rw [e1])
      | (have e1 : kindI x = 5 := by rw [hv]; repeat (first | rw [if_neg (by omega)] | rw [if_pos (by omega)])
         rw [e1])
      | (have e1 : kindI x = 6 := by rw [hv]; repeat (first | rw [if_neg (by omega)] | rw [if_pos (by omega)])
         rw [e1])
      | (have e1 : kindI x = 7 := by rw [hv]; repeat (first | rw [if_neg (by omega)] | rw [if_pos (by omega)])
         rw [e1])
      | (have e1 : kindI x = 8 := by rw [hv]; repeat (first | rw [if_neg (by omega)] | rw [if_pos (by omega)])
         rw [e1])
      | (have e1 : kindI x = 0 := by rw [hv]; repeat (first | rw [if_neg (by omega)] | rw [if_pos (by omega)])
         rw [e1])
    clear hv
    go_enter Tryz.func96, Tryz.ntmps96
    go_wp2
    all_goals (go_ret; first | exact ⟨rfl, rfl⟩ | (exfalso; omega))

set_option maxHeartbeats 1000000 in
theorem isAccent_any (x : Int) (w : World) : Calls Tryz.prog 127 #[.int .u8 x] w fun e w' => e = .returned (.bool (accB x)) ∧ w' = w := by
  have hv : accB x = decide (x = 94 ∨ x = 96 ∨ x = 126) := rfl
  have hc : x < 94 ∨ x = 94 ∨ x = 95 ∨ x = 96 ∨ (96 < x ∧ x < 126) ∨ x = 126 ∨ 126 < x := by omega
  rcases hc with h | h | h | h | h | h | h
  all_goals
    first
      | (have e1 : accB x = true := by rw [hv]; simp; omega
         rw [e1])
      | (have e1 : accB x = false := by rw [hv]; simp; omega
         rw [e1])
    clear hv
    go_enter Tryz.func127, Tryz.ntmps127
    go_wp2
    all_goals (go_ret; first | exact ⟨rfl, rfl⟩ | (exfalso; omega))

end Go.Proofs.YtbdpghjegachaaaGreatDoor

namespace Go.Proofs.YtbdpghjegachaaaGreatDoor
open Go.RowKit Go.Shelf

theorem endN_is {t : ByteArray} {k j : Nat} (h1 : kindI (bt t k) = 1) (hj : 1 ≤ j ∧ j ≤ 3) (ha : ∀ m, 1 ≤ m → m < j → accB (bt t (k + m)) = true) (hz : j = 3 ∨ accB (bt t (k + j)) = false) : endN t k = k + j := by
  unfold endN
  rw [if_pos h1]
  have h3 : j = 1 ∨ j = 2 ∨ j = 3 := by omega
  rcases h3 with rfl | rfl | rfl
  · rw [if_neg (by rcases hz with h | h; omega; rw [h]; simp)]
  · rw [if_pos (ha 1 (by omega) (by omega)), if_neg (by rcases hz with h | h; omega; rw [h]; simp)]
  · rw [if_pos (ha 1 (by omega) (by omega)), if_pos (ha 2 (by omega) (by omega))]

set_option maxRecDepth 100000 in
set_option maxHeartbeats 1000000 in
theorem end_any (t : ByteArray) (k : Nat) (hk : k < t.size) (ht : t.size ≤ 4096) (w : World) : Calls Tryz.prog 95 #[.string t, .int .i64 k] w fun e w' => e = .returned (.int .i64 (endN t k : Nat)) ∧ w' = w := by
  have hb := bt_eq hk
  have hK := kind_any
  have hA := isAccent_any
  by_cases h1 : kindI (bt t k) = 1
  · have hE : Hid (∀ j, (1 ≤ j ∧ j ≤ 3) → (∀ m, 1 ≤ m → m < j → accB (bt t (k + m)) = true) → (j = 3 ∨ accB (bt t (k + j)) = false) → endN t k = k + j) := fun j a b c => endN_is h1 a b c
    rw [hb] at h1
    clear hb
    generalize hn : endN t k = n at hE ⊢
    clear hn
    go_enter Tryz.func95, Tryz.ntmps95
    go_wp2_with (go_at_call 96; refine (hK _ _).mono ?_; rintro e w' ⟨rfl, hww⟩; subst w')
    go_loopw [5] (fun i wr => ∃ j : Nat, 1 ≤ j ∧ j ≤ 3 ∧ k + j ≤ t.size ∧ i = .int .i64 (k + j : Nat) ∧ wr = w ∧ Hid (∀ m, 1 ≤ m → m < j → accB (bt t (k + m)) = true)) (fun i _ => t.size - (intOf i).toNat)
    case atStart => exact ⟨1, by omega, by omega, by omega, by simp, rfl, fun m _ _ => by omega⟩
    case round =>
      obtain ⟨j, hj1, hj3, hjs, rfl, rfl, hall⟩ := hrel
      by_cases hlt : k + j < t.size
      · have hbj := bt_eq hlt
        by_cases h3 : j = 3
        · have hn := hE.out j ⟨hj1, hj3⟩ hall.out (.inl h3)
          clear hE hall hbj
          have hd : ((k + j : Nat) : Int) - k = 3 := by omega
          go_wp2_with fail
          go_ret
          exact ⟨by first | rfl | (rw [hn]; done) | (rw [hn]; rfl), rfl⟩
        · have hd : ((k + j : Nat) : Int) - k ≤ 2 := by omega
          cases hv : accB (bt t (k + j))
          · have hn := hE.out j ⟨hj1, hj3⟩ hall.out (.inr hv)
            rw [hbj] at hv
            clear hE hall hbj
            go_wp2_with (go_at_call 127; refine (hA _ _).mono ?_; rw [hv]; rintro e w' ⟨rfl, hww⟩; subst w')
            go_ret
            exact ⟨by first | rfl | (rw [hn]; done) | (rw [hn]; rfl), rfl⟩
          · have hyes : Hid (∀ m, 1 ≤ m → m < j + 1 → accB (bt t (k + m)) = true) := fun m h1 h2 => by
              by_cases h : m < j
              · exact hall.out m h1 h
              · obtain rfl : m = j := by omega
                exact hv
            rw [hbj] at hv
            clear hE hall hbj
            go_wp2_with (go_at_call 127; refine (hA _ _).mono ?_; rw [hv]; rintro e w' ⟨rfl, hww⟩; subst w')
            go_roundw
            case rel => exact ⟨j + 1, by omega, by omega, by omega, by simp; omega, by first | rfl | trivial, hyes⟩
            case measure => simp [intOf]; omega
      · have hv : accB (bt t (k + j)) = false := by rw [bt_no hlt]; decide
        have hn := hE.out j ⟨hj1, hj3⟩ hall.out (.inr hv)
        clear hE hall hv
        go_wp2_with fail
        go_ret
        exact ⟨by first | rfl | (rw [hn]; done) | (rw [hn]; rfl), rfl⟩
  · have e1 : endN t k = k + 1 := by unfold endN; rw [if_neg h1]
    rw [e1]
    rw [hb] at h1
    go_enter Tryz.func95, Tryz.ntmps95
    go_wp2_with (go_at_call 96; refine (hK _ _).mono ?_; rintro e w' ⟨rfl, hww⟩; subst w')
    go_ret
    exact ⟨rfl, rfl⟩

set_option maxRecDepth 100000 in
set_option maxHeartbeats 1000000 in
theorem refuse_any (t : ByteArray) (w : World) : Calls Tryz.prog 93 #[.string t] w fun e w' => e = .returned (.int .i64 (wrongI t)) ∧ w' = w := by
  have hK := kind_any
  by_cases hl : 4096 < t.size
  · rw [wrong_long hl]
    go_enter Tryz.func93, Tryz.ntmps93
    go_wp2
    go_ret
    exact ⟨rfl, rfl⟩
  · have hB : Hid (∀ k, k < t.size → kindI (bt t k) = 0 → wrongI t = 4) := fun k hk h0 => wrong_byte hl hk h0
    have hO : Hid ((∀ k, k < t.size → kindI (bt t k) ≠ 0) → wrongI t = 0) := fun h => wrong_ok hl h
    generalize wrongI t = n at hB hO ⊢
    go_enter Tryz.func93, Tryz.ntmps93
    go_wp2
    go_loopw [9] (fun i wr => ∃ k : Nat, k ≤ t.size ∧ i = .int .i64 k ∧ wr = w ∧ Hid (∀ j, j < k → kindI (bt t j) ≠ 0)) (fun i _ => t.size - (intOf i).toNat)
    case atStart => exact ⟨0, by omega, rfl, rfl, fun j hj => by omega⟩
    case round =>
      obtain ⟨k, hk, rfl, rfl, hall⟩ := hrel
      by_cases hlt : k < t.size
      · have hb := bt_eq hlt
        by_cases hv : kindI (bt t k) = 0
        · have hn := hB.out k hlt hv
          rw [hb] at hv
          clear hB hO hall hb
          go_wp2_with (go_at_call 96; refine (hK _ _).mono ?_; rw [hv]; rintro e w' ⟨rfl, hww⟩; subst w')
          go_ret
          exact ⟨by first | rfl | (rw [hn]; done) | (rw [hn]; rfl), rfl⟩
        · have hyes : Hid (∀ j, j < k + 1 → kindI (bt t j) ≠ 0) := fun j hj => by
            by_cases h : j < k
            · exact hall.out j h
            · obtain rfl : j = k := by omega
              exact hv
          rw [hb] at hv
          clear hB hO hall hb
          go_wp2_with (go_at_call 96; refine (hK _ _).mono ?_; rintro e w' ⟨rfl, hww⟩; subst w')
          go_roundw
          case rel => exact ⟨k + 1, by omega, by simp, by first | rfl | trivial, hyes⟩
          case measure => simp [intOf]; omega
      · have hn := hO.out (fun j hj => hall.out j (by omega))
        clear hB hO hall
        go_wp2_with fail
        go_ret
        exact ⟨by first | rfl | (rw [hn]; done) | (rw [hn]; rfl), rfl⟩

end Go.Proofs.YtbdpghjegachaaaGreatDoor
