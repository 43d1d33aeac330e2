/-
  What is proved here: what made, inName, isName, has, refuse of style answer.
  What is proved here: what inName, isName of style answer.
-/
import Derived.Test.YtifkelpgpdgenaaXSheet
import Derived.Test.YtifkelpgpdgenaaWalkB
namespace Go.Proofs.Ytifkelpgpdgenaa
open Go.RowKit Go.Shelf

variable {X : Nat → Prop}

theorem info60 : (Try.prog.info? 60).map (fun i => (i.size, i.bytes)) = some (2, 16) := by kernel_rfl
theorem run_eql_ptr_nil {P : Program} (w : World) {tp te : TypeId} (a : Addr) (hp : P.underlying tp = some (.pointer te)) :
    (binOp .eql tp (.pointer none) (.pointer (some a))).run P w = .ok (.bool false) w := by
  have h : ∀ d : Nat, (Op.equalIn (d + 1) tp (.pointer none) (.pointer (some a))).run P w = .ok false w := fun d => by
    simp [Op.equalIn, run_underlying hp]
  simp only [binOp]
  simp [Op.equal, Op.maxDepth, h 9999]

set_option maxHeartbeats 400000 in
theorem made_nil (w : World) : Calls Try.prog 37 #[.pointer none] w fun e w' => e = .returned (.bool false) ∧ w' = w := by
  go_enter Try.func37, Try.ntmps37
  go_wp2
  go_ret
  exact ⟨rfl, rfl⟩

set_option maxHeartbeats 400000 in
theorem made_zero (t : Nat) (w : World) (h : w.cell? ⟨t, 0, none⟩ = some (.pointer none)) : Calls Try.prog 37 #[.pointer (some ⟨t, 0, none⟩)] w fun e w' => e = .returned (.bool false) ∧ w' = w := by
  have he := run_eql_ptr_nil w ⟨t, 0, none⟩ Try.underlying45
  go_enter Try.func37, Try.ntmps37
  go_wp2
  go_ret
  exact ⟨rfl, rfl⟩

set_option maxHeartbeats 400000 in
theorem made_yes (t : Nat) (w : World) (h : w.cell? ⟨t, 0, none⟩ = some (.pointer (some ⟨t, 0, none⟩))) : Calls Try.prog 37 #[.pointer (some ⟨t, 0, none⟩)] w fun e w' => e = .returned (.bool true) ∧ w' = w := by
  obtain ⟨j, hj, _⟩ := Option.map_eq_some_iff.1 info60
  have he := run_eql_ptr_same w ⟨t, 0, none⟩ Try.underlying45 hj
  go_enter Try.func37, Try.ntmps37
  go_wp2
  go_ret
  exact ⟨rfl, rfl⟩

set_option maxHeartbeats 1000000 in
theorem has_any (t b n : Nat) (S : Sh) (s : Str) (hs : s.size ≤ maxLen) (w : World) (h : SheetAt X w t b n S) :
    Calls Try.prog 40 #[.pointer (some ⟨t, 0, none⟩), .string s] w fun e w' => e = .returned (.bool (S s).isSome) ∧ Below w.heap.size w w' := by
  obtain ⟨D, h1, _, h3⟩ := h.own
  obtain ⟨p, a, l, cap, hl⟩ := look_true h1 hs (h3 s)
  obtain ⟨c0, c1⟩ := h.cells
  have hB := (Below.refl w.heap.size w).alloc (Nat.le_refl _) (Obj.cells #[.string p, .slice a l cap] 82)
  clear h1 h3 h
  go_enter Try.func40, Try.ntmps40
  go_wp2
  go_ret
  exact ⟨rfl, hB⟩

def refuseL (L : List (Int × Int)) : Int := if 64 < L.length then 3 else if L.all (fun q => mayS q.1 q.2) then 0 else 2

theorem all_take_succ {qs : List (Int × Int)} {k : Nat} (h : k < qs.length) (ha : (qs.take k).all (fun q => mayS q.1 q.2) = true) (hm : mayS qs[k].1 qs[k].2 = true) : (qs.take (k + 1)).all (fun q => mayS q.1 q.2) = true := by
  rw [List.take_succ_eq_append_getElem h, List.all_append, ha]; simp [hm]
theorem all_no {qs : List (Int × Int)} {k : Nat} (h : k < qs.length) (hm : mayS qs[k].1 qs[k].2 = false) : qs.all (fun q => mayS q.1 q.2) = false := by
  cases ha : qs.all (fun q => mayS q.1 q.2) with
  | false => rfl
  | true =>
    have := List.all_eq_true.1 ha qs[k] (List.getElem_mem h)
    simp only [hm] at this
    cases this

set_option maxRecDepth 100000 in
set_option maxHeartbeats 2000000 in
theorem refuse_any (v : Value) (qs : List (Int × Int)) (w : World) (hS : SetsAt w v qs) :
    Calls Try.prog 41 #[v] w fun e w' => e = .returned (.int .i64 (refuseL qs)) ∧ Below w.heap.size w w' := by
  obtain ⟨a, cap, rfl, h2⟩ := hS.ex
  have hlen := hS.few
  clear hS
  by_cases h64 : 64 < qs.length
  · have hr : refuseL qs = 3 := by unfold refuseL; rw [if_pos h64]
    rw [hr]
    go_enter Try.func41, Try.ntmps41
    go_wp2_with fail
    go_ret
    exact ⟨rfl, Below.refl _ _⟩
  · have hr : Hid (refuseL qs = if qs.all (fun q => mayS q.1 q.2) then 0 else 2) := by unfold refuseL; rw [if_neg h64]; exact rfl
    go_enter Try.func41, Try.ntmps41
    go_wp2_with fail
    go_loopw [10] (fun i wr => ∃ k : Nat, k ≤ qs.length ∧ i = .int .i64 k ∧ Below w.heap.size w wr ∧ Hid ((qs.take k).all (fun q => mayS q.1 q.2) = true)) (fun i _ => qs.length - (intOf i).toNat)
    case atStart => exact ⟨0, by omega, rfl, Below.refl _ _, rfl⟩
    case round =>
      obtain ⟨k, hk, rfl, hb, hall⟩ := hrel
      by_cases hlt : k < qs.length
      · rcases h2 with h2 | ⟨b, o, rfl, hbl, hc⟩
        · rw [h2] at hlt; simp at hlt
        · obtain ⟨c0, c1⟩ := hc k hlt
          have hw : ∀ j v, w.cell? ⟨b, j, none⟩ = some v → wr.cell? ⟨b, j, none⟩ = some v := fun j v hv => by rw [← hv]; exact hb.cell hbl
          have d0 := hw _ _ c0; have d1 := hw _ _ c1
          clear hw c0 c1 hc
          have hmay := may_any qs[k].1 qs[k].2
          have hno : Hid _ := all_no hlt
          have hyes : Hid _ := all_take_succ hlt hall
          unfold seV at hmay
          have hba := hb.alloc hb.size (Obj.cells #[.int .i64 qs[k].1, .int .i64 qs[k].2] 37)
          generalize qs[k].1 = x at *
          generalize qs[k].2 = y at *
          cases hm : mayS x y
          · rw [hm] at hmay
            have h5 : refuseL qs = 2 := by rw [hr.out, hno.out hm]; rfl
            clear hno hyes hall hr
            go_wp2_with (go_at_call 33; refine (hmay _).mono ?_; rintro e w' ⟨rfl, hb'⟩)
            go_ret
            exact ⟨by first | rfl | (rw [h5]; rfl), hba.trans (hb'.mono hba.size)⟩
          · rw [hm] at hmay
            have h5 : Hid _ := hyes.out hm
            clear hno hyes hall hr
            go_wp2_with (go_at_call 33; refine (hmay _).mono ?_; rintro e w' ⟨rfl, hb'⟩)
            go_roundw
            case rel => exact ⟨k + 1, by omega, by simp, hba.trans (hb'.mono hba.size), h5⟩
            case measure => simp [intOf]; omega
      · obtain rfl : k = qs.length := by omega
        have h5 : refuseL qs = 0 := by
          have := hall.out
          rw [List.take_length] at this
          rw [hr.out, this]; rfl
        clear hall hr
        go_wp2_with fail
        go_ret
        exact ⟨by first | rfl | (rw [h5]; rfl), hb⟩
end Go.Proofs.Ytifkelpgpdgenaa

namespace Go.Proofs.Ytifkelpgpdgenaa
open Go.RowKit Go.Shelf

def inB (x : Int) : Bool := decide (97 ≤ x ∧ x ≤ 122) || (decide (48 ≤ x ∧ x ≤ 57) || decide (x = 45))
def e0 : Str := ⟨#[]⟩
def nameB (s : Str) : Bool := decide (0 < s.size) && decide (s.size ≤ 16) && s.data.toList.all (fun c => inB c.toNat)

set_option maxHeartbeats 1000000 in
theorem inName_any (x : Int) (w : World) : Calls Try.prog 57 #[.int .u8 x] w fun e w' => e = .returned (.bool (inB x)) ∧ w' = w := by
  have hc : x < 45 ∨ x = 45 ∨ (45 < x ∧ x < 48) ∨ (48 ≤ x ∧ x ≤ 57) ∨ (57 < x ∧ x < 97) ∨ (97 ≤ x ∧ x ≤ 122) ∨ 122 < x := by omega
  have hv : inB x = (decide (97 ≤ x ∧ x ≤ 122) || (decide (48 ≤ x ∧ x ≤ 57) || decide (x = 45))) := rfl
  rcases hc with h | h | h | h | h | h | h
  all_goals
    first
      | (have e1 : inB x = true := by rw [hv]; simp; omega
         rw [e1])
      | (have e1 : inB x = false := by rw [hv]; simp; omega
         rw [e1])
    clear hv
    have f1 : (x == 45) = decide (x = 45) := by by_cases h : x = 45 <;> simp [h]
    go_enter Try.func57, Try.ntmps57
    go_wp2
    all_goals (go_ret; first | exact ⟨rfl, rfl⟩ | (exfalso; omega) | (refine ⟨?_, rfl⟩; congr 2; simp <;> omega))

theorem size_zero {s : Str} (h : s.size = 0) : s = e0 := by
  obtain ⟨⟨l⟩⟩ := s
  have : l = [] := List.eq_nil_of_length_eq_zero h
  rw [this]; rfl
theorem toList_data (s : Str) : ByteArray.toList s = s.data.toList := ByteArray.toList_eq s
theorem isEmpty_no {s : Str} (h : 0 < s.size) : (ByteArray.toList s).isEmpty = false := by
  rw [toList_data]
  cases hl : s.data.toList with
  | nil =>
    have : s.size = 0 := by show s.data.size = 0; rw [← Array.length_toList, hl]; rfl
    omega
  | cons => rfl
theorem nameB_all {s : Str} (h1 : 0 < s.size) (h2 : s.size ≤ 16) (h : ∀ (k : Nat) (hk : k < s.size), inB ((s[k]'hk).toNat : Int) = true) : nameB s = true := by
  unfold nameB
  rw [decide_eq_true h1, decide_eq_true h2]
  refine List.all_eq_true.2 fun c hc => ?_
  obtain ⟨k, hk, rfl⟩ := List.getElem_of_mem hc
  exact h k (by simpa using hk)
theorem nameB_no {s : Str} {k : Nat} (hk : k < s.size) (h : inB ((s[k]'hk).toNat : Int) = false) : nameB s = false := by
  cases hn : nameB s with
  | false => rfl
  | true =>
    unfold nameB at hn
    simp only [Bool.and_eq_true] at hn
    have := List.all_eq_true.1 hn.2 (s.data.toList[k]'(by simpa using hk)) (List.getElem_mem _)
    rw [← this, ← h]; rfl

set_option maxRecDepth 100000 in
set_option maxHeartbeats 2000000 in
theorem isName_any (s : Str) (w : World) : Calls Try.prog 39 #[.string s] w fun e w' => e = .returned (.bool (nameB s)) ∧ w' = w := by
  have hin := inName_any
  by_cases h0 : s.size = 0
  · obtain rfl := size_zero h0
    have : nameB e0 = false := by decide
    rw [this]
    unfold e0
    go_enter Try.func39, Try.ntmps39
    go_wp2_with fail
    go_ret
    exact ⟨rfl, rfl⟩
  · have hpos : 0 < s.size := by omega
    have hE := isEmpty_no hpos
    by_cases h16 : 16 < s.size
    · have : nameB s = false := by unfold nameB; rw [decide_eq_false (by omega : ¬ s.size ≤ 16)]; simp
      rw [this]
      go_enter Try.func39, Try.ntmps39
      go_wp2_with fail
      go_ret
      exact ⟨rfl, rfl⟩
    · have h16' : s.size ≤ 16 := by omega
      go_enter Try.func39, Try.ntmps39
      go_wp2_with fail
      go_loopw [13] (fun i wr => ∃ k : Nat, k ≤ s.size ∧ i = .int .i64 k ∧ wr = w ∧ Hid (∀ (j : Nat) (hj : j < s.size), j < k → inB ((s[j]'hj).toNat : Int) = true)) (fun i _ => s.size - (intOf i).toNat)
      case atStart => exact ⟨0, by omega, rfl, rfl, fun j _ hj => by omega⟩
      case round =>
        obtain ⟨k, hk, rfl, rfl, hall⟩ := hrel
        by_cases hlt : k < s.size
        · have hno : Hid _ := nameB_no hlt
          cases hv : inB ((s[k]'hlt).toNat : Int)
          · have h5 := hno.out hv
            clear hno hall
            go_wp2_with (go_at_call 57; refine (hin _ _).mono ?_; rintro e w' ⟨rfl, hww⟩; subst w')
            go_ret
            exact ⟨by first | rfl | (rw [h5]; rfl), rfl⟩
          · have hyes : Hid (∀ (j : Nat) (hj : j < s.size), j < k + 1 → inB ((s[j]'hj).toNat : Int) = true) := fun j hj hjk => by
              by_cases h : j < k
              · exact hall.out j hj h
              · obtain rfl : j = k := by omega
                exact hv
            clear hno hall
            go_wp2_with (go_at_call 57; refine (hin _ _).mono ?_; rintro e w' ⟨rfl, hww⟩; subst w')
            go_roundw
            case rel => exact ⟨k + 1, by omega, by simp, by first | rfl | trivial, hyes⟩
            case measure => simp [intOf]; omega
        · have hks : k = s.size := by omega
          have h5 : nameB s = true := nameB_all hpos h16' fun j hj => hall.out j hj (by omega)
          clear hall
          go_wp2_with fail
          go_ret
          exact ⟨by first | rfl | (rw [h5]; rfl), rfl⟩
end Go.Proofs.Ytifkelpgpdgenaa
