/-
  What is proved here: what Check and refuse of section answer; small; and the document's bytes.
-/
import Derived.Test.YtglgapmjhmeonaaWalkE
namespace Go.Proofs.Ytglgapmjhmeonaa
open Go.RowKit Go.Shelf

def smB (s : Sec) : Bool := (texts s).all (fun t => decide (t.size ≤ 300))
theorem sm_size {s : Sec} (h : smB s = true) : ∀ (k : Nat) (hk : k < (texts s).length), ((texts s)[k]).size ≤ 1000000 := fun k hk => by
  have := List.all_eq_true.1 h _ (List.getElem_mem hk)
  simp only [decide_eq_true_eq] at this
  omega

theorem check_first {s : Sec} (h : keepI (numL s) ≠ 0) : checkI s = keepI (numL s) := by
  rw [keep_num] at h ⊢
  unfold checkI
  by_cases h1 : RangeBad s
  · rw [if_pos h1, if_pos h1]
  · rw [if_neg h1] at h ⊢
    by_cases h2 : ArgBad s
    · rw [if_neg h1, if_pos h2, if_pos h2]
    · rw [if_neg h2] at h; exact absurd rfl h
theorem check_num {s : Sec} (h : keepI (numL s) = 0) : NumOk s ∧ checkI s = if Thin s then 5 else textI s := by
  rw [keep_num] at h
  by_cases h1 : RangeBad s
  · rw [if_pos h1] at h; omega
  · rw [if_neg h1] at h
    by_cases h2 : ArgBad s
    · rw [if_pos h2] at h; omega
    · exact ⟨numOk_of h1 h2, by unfold checkI; rw [if_neg h1, if_neg h2]⟩
theorem check_second {s : Sec} (hn : NumOk s) (hc : checkI s = if Thin s then 5 else textI s) (h : keepI (sizL s) ≠ 0) : checkI s = keepI (sizL s) := by
  rw [keep_siz hn] at h ⊢
  rw [hc]
  by_cases h1 : Thin s
  · rw [if_pos h1, if_pos h1]
  · rw [if_neg h1] at h; exact absurd rfl h
theorem check_third {s : Sec} (hn : NumOk s) (hc : checkI s = if Thin s then 5 else textI s) (h : keepI (sizL s) = 0) : checkI s = textI s := by
  rw [keep_siz hn] at h
  rw [hc]
  by_cases h1 : Thin s
  · rw [if_pos h1] at h; omega
  · rw [if_neg h1]

set_option maxRecDepth 100000 in
set_option maxHeartbeats 1000000 in
theorem check_any (s : Sec) (hsm : smB s = true) (w : World) : Calls Try.prog 13 #[seV s] w fun e w' => e = .returned (.int .i64 (checkI s)) ∧ Below w.heap.size w w' := by
  have hB := (Below.refl w.heap.size w).alloc (Nat.le_refl _) (Obj.cells (seC s) 24)
  have hP := SB.new w s
  have hnum : Hid (∀ w, Calls Try.prog 31 #[seV s] w fun e w' => ∃ b, e = .returned (.slice (some ⟨b, 0, none⟩) 11 11) ∧ BdsAt w' b (numL s) ∧ Below w.heap.size w w') := numbers_any s
  have htx : Hid (∀ w, Calls Try.prog 33 #[seV s] w fun e w' => e = .returned (.int .i64 (textI s)) ∧ Below w.heap.size w w') := checkTexts_any s (sm_size hsm)
  have f1 : Hid (keepI (numL s) ≠ 0 → checkI s = keepI (numL s)) := check_first
  have f2 : Hid (keepI (numL s) = 0 → NumOk s ∧ checkI s = if Thin s then 5 else textI s) := check_num
  clear hsm
  unfold seV
  go_enter Try.func13, Try.ntmps13
  go_wp2_with (refine wpList_load_row rfl 24 _ rfl w.heap.size rfl 24 _ (0, 0) _ hP.row Try.underlying24 rfl (info24 s) ?_)
  refine (hnum.out _).mono ?_
  rintro e w1 ⟨b1, rfl, hb1, B1⟩
  have hP1 := hP.below B1 hP.lt
  have D1 := hB.trans (B1.mono hB.size)
  have hk1 : Hid (Calls Try.prog 30 #[.slice (some ⟨b1, 0, none⟩) (numL s).length 11] w1 fun e w' => e = .returned (.int .i64 (keepI (numL s))) ∧ Below w1.heap.size w1 w') := keep_any b1 11 (numL s) (by simp [numL]) w1 hb1
  clear hb1
  go_wp2_with fail
  refine hk1.out.mono ?_
  rintro e w2 ⟨rfl, B2⟩
  have hP2 := hP1.below B2 hP1.lt
  have D2 := D1.trans (B2.mono D1.size)
  by_cases h1 : keepI (numL s) = 0
  · obtain ⟨hn, hc⟩ := f2.out h1
    have hsz : Hid (∀ w, Calls Try.prog 32 #[seV s] w fun e w' => ∃ b, e = .returned (.slice (some ⟨b, 0, none⟩) 2 2) ∧ BdsAt w' b (sizL s) ∧ Below w.heap.size w w') := sizes_any s hn
    have f3 : Hid (keepI (sizL s) ≠ 0 → checkI s = keepI (sizL s)) := check_second hn hc
    have f4 : Hid (keepI (sizL s) = 0 → checkI s = textI s) := check_third hn hc
    clear hc
    rw [h1]
    clear h1 f1 f2 hn
    go_wp2_with (refine wpList_load_row rfl 24 _ rfl w.heap.size rfl 24 _ (0, 0) _ hP2.row Try.underlying24 rfl (info24 s) ?_)
    refine (hsz.out _).mono ?_
    rintro e w3 ⟨b3, rfl, hb3, B3⟩
    have hP3 := hP2.below B3 hP2.lt
    have D3 := D2.trans (B3.mono D2.size)
    have hk3 : Hid (Calls Try.prog 30 #[.slice (some ⟨b3, 0, none⟩) (sizL s).length 2] w3 fun e w' => e = .returned (.int .i64 (keepI (sizL s))) ∧ Below w3.heap.size w3 w') := keep_any b3 2 (sizL s) (by simp [sizL]) w3 hb3
    clear hb3
    go_wp2_with fail
    refine hk3.out.mono ?_
    rintro e w4 ⟨rfl, B4⟩
    have hP4 := hP3.below B4 hP3.lt
    have D4 := D3.trans (B4.mono D3.size)
    by_cases h2 : keepI (sizL s) = 0
    · have h5 : Hid (checkI s = textI s) := f4.out h2
      rw [h2]
      clear h2 f3 f4
      go_wp2_with (refine wpList_load_row rfl 24 _ rfl w.heap.size rfl 24 _ (0, 0) _ hP4.row Try.underlying24 rfl (info24 s) ?_)
      refine (htx.out _).mono ?_
      rintro e w5 ⟨rfl, B5⟩
      go_wp2_with fail
      go_ret
      exact ⟨by rw [h5.out]; rfl, D4.trans (B5.mono D4.size)⟩
    · have h5 : Hid (checkI s = keepI (sizL s)) := f3.out h2
      clear f3 f4
      generalize keepI (sizL s) = K2 at *
      go_wp2_with fail
      go_ret
      exact ⟨by rw [h5.out]; rfl, D4⟩
  · have h5 : Hid (checkI s = keepI (numL s)) := f1.out h1
    clear f1 f2
    generalize keepI (numL s) = K1 at *
    go_wp2_with fail
    go_ret
    exact ⟨by rw [h5.out]; rfl, D2⟩

theorem page_first {s : Sec} {page least : Int} (h : checkI s ≠ 0) : pageI s page least = checkI s := by unfold pageI; rw [if_pos h]
theorem page_second {s : Sec} {page least : Int} (h : checkI s = 0) : pageI s page least = keepI (pagL page least) := by unfold pageI; rw [if_neg (by omega), keep_pag]

set_option maxRecDepth 100000 in
set_option maxHeartbeats 1000000 in
theorem refuse_any (s : Sec) (hsm : smB s = true) (page least : Int) (w : World) : Calls Try.prog 27 #[seV s, .int .i64 page, .int .i64 least] w fun e w' => e = .returned (.int .i64 (pageI s page least)) ∧ Below w.heap.size w w' := by
  have hB := (Below.refl w.heap.size w).alloc (Nat.le_refl _) (Obj.cells (seC s) 24)
  have hP := SB.new w s
  have hch : Hid (∀ w, Calls Try.prog 13 #[seV s] w fun e w' => e = .returned (.int .i64 (checkI s)) ∧ Below w.heap.size w w') := check_any s hsm
  clear hsm
  unfold seV
  go_enter Try.func27, Try.ntmps27
  go_wp2_with (refine wpList_load_row rfl 24 _ rfl w.heap.size rfl 24 _ (0, 0) _ hP.row Try.underlying24 rfl (info24 s) ?_)
  refine (hch.out _).mono ?_
  rintro e w1 ⟨rfl, B1⟩
  have D1 := hB.trans (B1.mono hB.size)
  by_cases h1 : checkI s = 0
  · have h5 : Hid (pageI s page least = keepI (pagL page least)) := page_second h1
    rw [h1]
    clear h1
    have D2 := D1.alloc D1.size (Obj.cells (bdRow (pagL page least)) 59)
    have hk : Hid (Calls Try.prog 30 #[.slice (some ⟨w1.heap.size, 0, none⟩) (pagL page least).length 1] (w1.alloc (Obj.cells (bdRow (pagL page least)) 59)) fun e w' => e = .returned (.int .i64 (keepI (pagL page least))) ∧ Below (w1.alloc (Obj.cells (bdRow (pagL page least)) 59)).heap.size (w1.alloc (Obj.cells (bdRow (pagL page least)) 59)) w') := keep_any w1.heap.size 1 (pagL page least) (by simp [pagL]) _ ⟨heap_new w1 _⟩
    go_wp2_with fail
    refine hk.out.mono ?_
    rintro e w2 ⟨rfl, B2⟩
    go_wp2_with fail
    go_ret
    exact ⟨by rw [h5.out]; rfl, D2.trans (B2.mono D2.size)⟩
  · have h5 : Hid (pageI s page least = checkI s) := page_first h1
    generalize checkI s = K1 at *
    go_wp2_with fail
    go_ret
    exact ⟨by rw [h5.out]; rfl, D1⟩

def hdK (s : Sec) : Nat → Str | 0 => s.h0 | 1 => s.h1 | _ => s.h2
def ftK (s : Sec) : Nat → Str | 0 => s.f0 | 1 => s.f1 | _ => s.f2
theorem k3 {k : Nat} (h : k < 3) : k = 0 ∨ k = 1 ∨ k = 2 := by omega
theorem mem_hd (s : Sec) {k : Nat} (h : k < 3) : hdK s k ∈ texts s := by
  rcases k3 h with rfl | rfl | rfl <;> simp [hdK, texts]
theorem mem_ft (s : Sec) {k : Nat} (h : k < 3) : ftK s k ∈ texts s := by
  rcases k3 h with rfl | rfl | rfl <;> simp [ftK, texts]
theorem all_texts {s : Sec} {p : Str → Prop} (h : ∀ k, k < 3 → p (hdK s k) ∧ p (ftK s k)) : ∀ t ∈ texts s, p t := by
  have h0 := h 0 (by omega); have h1 := h 1 (by omega); have h2 := h 2 (by omega)
  simp only [hdK, ftK] at h0 h1 h2
  intro t ht
  simp [texts] at ht
  rcases ht with rfl | rfl | rfl | rfl | rfl | rfl
  · exact h0.1
  · exact h1.1
  · exact h2.1
  · exact h0.2
  · exact h1.2
  · exact h2.2
theorem SB.hd {w : World} {B : Nat} {s : Sec} (h : SB w B s) {k : Nat} (hk : k < 3) : w.cell? ⟨B, 11 + k, none⟩ = some (.string (hdK s k)) := by
  rcases k3 hk with rfl | rfl | rfl <;> exact h.cell rfl
theorem SB.ft {w : World} {B : Nat} {s : Sec} (h : SB w B s) {k : Nat} (hk : k < 3) : w.cell? ⟨B, 14 + k, none⟩ = some (.string (ftK s k)) := by
  rcases k3 hk with rfl | rfl | rfl <;> exact h.cell rfl
theorem sm_no {s : Sec} {t : Str} (ht : t ∈ texts s) (h : 300 < t.size) : smB s = false := by
  cases hb : smB s with
  | false => rfl
  | true =>
    have := List.all_eq_true.1 hb t ht
    simp only [decide_eq_true_eq] at this
    omega
theorem sm_yes {s : Sec} (h : ∀ k, k < 3 → (hdK s k).size ≤ 300 ∧ (ftK s k).size ≤ 300) : smB s = true :=
  List.all_eq_true.2 fun t ht => decide_eq_true (all_texts (p := fun t => t.size ≤ 300) h t ht)

set_option maxRecDepth 100000 in
set_option maxHeartbeats 1000000 in
theorem small_any (s : Sec) (hf : ∀ t ∈ texts s, t.size ≤ 9223372036854775807) (w : World) : Calls Try.prog 8 #[seV s] w fun e w' => e = .returned (.bool (smB s)) ∧ Below w.heap.size w w' := by
  have hB := (Below.refl w.heap.size w).alloc (Nat.le_refl _) (Obj.cells (seC s) 24)
  have hP : Hid (SB (w.alloc (Obj.cells (seC s) 24)) w.heap.size s) := SB.new w s
  have hf' : Hid (∀ t ∈ texts s, t.size ≤ 9223372036854775807) := hf
  clear hf
  unfold seV
  go_enter Try.func8, Try.ntmps8
  go_wp2_with fail
  go_loopw [3] (fun i wr => ∃ k : Nat, k ≤ 3 ∧ i = .int .i64 k ∧ wr = w.alloc (Obj.cells (seC s) 24) ∧ Hid (∀ j, j < k → (hdK s j).size ≤ 300 ∧ (ftK s j).size ≤ 300)) (fun i _ => 3 - (intOf i).toNat)
  case atStart => exact ⟨0, by omega, rfl, rfl, fun j hj => by omega⟩
  case round =>
    obtain ⟨k, hk, rfl, hwr, hall⟩ := hrel
    subst wr
    by_cases hlt : k < 3
    · have hltI : (k : Int) < 3 := by omega
      have ch := hP.out.hd hlt
      have cf := hP.out.ft hlt
      have s1 := hf'.out _ (mem_hd s hlt)
      have s2 := hf'.out _ (mem_ft s hlt)
      by_cases h1 : 300 < (hdK s k).size
      · have h5 : Hid (smB s = false) := sm_no (mem_hd s hlt) h1
        generalize hdK s k = t1 at *
        generalize ftK s k = t2 at *
        clear hall
        go_wp2_with fail
        go_ret
        exact ⟨by rw [h5.out]; rfl, hB⟩
      · by_cases h2 : 300 < (ftK s k).size
        · have h5 : Hid (smB s = false) := sm_no (mem_ft s hlt) h2
          generalize hdK s k = t1 at *
          generalize ftK s k = t2 at *
          clear hall
          go_wp2_with fail
          go_ret
          exact ⟨by rw [h5.out]; rfl, hB⟩
        · have hyes : Hid (∀ j, j < k + 1 → (hdK s j).size ≤ 300 ∧ (ftK s j).size ≤ 300) := fun j hj => by
            by_cases h : j < k
            · exact hall.out j h
            · obtain rfl : j = k := by omega
              exact ⟨by omega, by omega⟩
          clear hall
          generalize hdK s k = t1 at *
          generalize ftK s k = t2 at *
          go_wp2_with fail
          go_roundw
          case rel => exact ⟨k + 1, by omega, by simp, by first | rfl | trivial, hyes⟩
          case measure => simp [intOf]; omega
    · have hge : ¬ (k : Int) < 3 := by omega
      have h5 : Hid (smB s = true) := sm_yes fun j hj => hall.out j (by omega)
      clear hall
      go_wp2_with fail
      go_ret
      exact ⟨by rw [h5.out]; rfl, hB⟩

set_option maxRecDepth 100000 in
set_option maxHeartbeats 1000000 in
theorem rbytes_any (t : Str) (ht : t.size ≤ 1000000) (w : World) : Calls Try.prog 35 #[.string t] w fun e w' => e = .returned (.bool (bytesB t)) ∧ w' = w := by
  go_enter Try.func35, Try.ntmps35
  go_wp2_with fail
  go_loopw [3] (fun i wr => ∃ k : Nat, k ≤ t.size ∧ i = .int .i64 k ∧ wr = w ∧ Hid (∀ (j : Nat) (hj : j < t.size), j < k → mayB ((t[j]'hj).toNat : Int) = true)) (fun i _ => t.size - (intOf i).toNat)
  case atStart => exact ⟨0, by omega, rfl, rfl, fun j _ hj => by omega⟩
  case round =>
    obtain ⟨k, hk, rfl, hwr, hall⟩ := hrel
    subst wr
    by_cases hlt : k < t.size
    · have hno : Hid (mayB ((t[k]'hlt).toNat : Int) = false → bytesB t = false) := bytesB_no hlt
      have hyes : Hid (mayB ((t[k]'hlt).toNat : Int) = true → ∀ (j : Nat) (hj : j < t.size), j < k + 1 → mayB ((t[j]'hj).toNat : Int) = true) := fun hv j hj hjk => by
        by_cases h : j < k
        · exact hall.out j hj h
        · obtain rfl : j = k := by omega
          exact hv
      clear hall
      have hx0 : (0 : Int) ≤ ((t[k]'hlt).toNat : Int) := by omega
      have hc : ((t[k]'hlt).toNat : Int) = 3 ∨ ((t[k]'hlt).toNat ≠ 3 ∧ ((t[k]'hlt).toNat : Int) < 32) ∨ (((t[k]'hlt).toNat : Int) ≠ 3 ∧ 32 ≤ ((t[k]'hlt).toNat : Int) ∧ ((t[k]'hlt).toNat : Int) ≤ 126) ∨ (((t[k]'hlt).toNat : Int) ≠ 3 ∧ 32 ≤ ((t[k]'hlt).toNat : Int) ∧ 126 < ((t[k]'hlt).toNat : Int)) := by omega
      rcases hc with h | ⟨h, h'⟩ | ⟨h, h', h''⟩ | ⟨h, h', h''⟩
      · have h5 : Hid (∀ (j : Nat) (hj : j < t.size), j < k + 1 → mayB ((t[j]'hj).toNat : Int) = true) := hyes.out (by unfold mayB; simp; omega)
        clear hno hyes
        go_wp2_with fail
        go_roundw
        case rel => exact ⟨k + 1, by omega, by simp, by first | rfl | trivial, h5⟩
        case measure => simp [intOf]; omega
      · have h5 : Hid (bytesB t = false) := hno.out (by unfold mayB; simp; omega)
        have hI : ¬ ((t[k]'hlt).toNat : Int) = 3 := by omega
        clear hno hyes
        go_wp2_with fail
        go_ret
        exact ⟨by rw [h5.out]; rfl, rfl⟩
      · have h5 : Hid (∀ (j : Nat) (hj : j < t.size), j < k + 1 → mayB ((t[j]'hj).toNat : Int) = true) := hyes.out (by unfold mayB; simp; omega)
        have hI : ¬ ((t[k]'hlt).toNat : Int) < 32 := by omega
        have hJ : ¬ 126 < ((t[k]'hlt).toNat : Int) := by omega
        clear hno hyes
        go_wp2_with fail
        go_roundw
        case rel => exact ⟨k + 1, by omega, by simp, by first | rfl | trivial, h5⟩
        case measure => simp [intOf]; omega
      · have h5 : Hid (bytesB t = false) := hno.out (by unfold mayB; simp; omega)
        have hI : ¬ ((t[k]'hlt).toNat : Int) < 32 := by omega
        clear hno hyes
        go_wp2_with fail
        go_ret
        exact ⟨by rw [h5.out]; rfl, rfl⟩
    · have hks : ¬ (k : Int) < t.size := by omega
      have h5 : Hid (bytesB t = true) := bytesB_all fun j hj => hall.out j hj (by omega)
      clear hall
      go_wp2_with fail
      go_ret
      exact ⟨by rw [h5.out]; rfl, rfl⟩
end Go.Proofs.Ytglgapmjhmeonaa
