/-
  What is proved here: StyleNearest's walk.
-/
import Derived.Test.YtifkelpgpdgenaaLast
import Derived.Laws.IdiomStrings
namespace Go.Proofs.Ytifkelpgpdgenaa
open Go.RowKit Go.Shelf

def ck (k : Nat) : Str := ⟨#[UInt8.ofNat (97 + k)]⟩
theorem ck_nm (k : Nat) : (⟨#[115]⟩ : ByteArray) ++ ck k = nm (k + 1) := by
  unfold ck nm
  rfl
theorem conv_k (w : World) {k : Nat} (hk : k < 16) : (convert 70 9 (.slice (some ⟨w.heap.size, 0, none⟩) 1 1)).run Try.prog (w.alloc (.cells #[.int .u8 (97 + (k : Int))] 5)) = .ok (.string (ck k)) (w.alloc (.cells #[.int .u8 (97 + (k : Int))] 5)) := by
  refine run_convert_bytes_back (P := Try.prog) _ 70 9 5 ⟨w.heap.size, 0, none⟩ 1 [UInt8.ofNat (97 + k)] Try.underlying70 Try.underlying5 Try.underlying9 fun j hj => ?_
  obtain rfl : j = 0 := by simpa using hj
  have h := heap_new w (.cells #[.int .u8 (97 + (k : Int))] 5)
  rw [addr_add0, Lib.cell_of_heap h]
  have e : (UInt8.ofNat (97 + k)).toNat = 97 + k := by simp [UInt8.toNat_ofNat']; omega
  show some (Value.int .u8 _) = some (.int .u8 (((UInt8.ofNat (97 + k)).toNat : Nat) : Int))
  rw [e]; rfl

set_option maxRecDepth 100000 in
set_option maxHeartbeats 8000000 in
theorem near_walk (vl vo : Value) (Ls : Lst) (O : List (Int × Int)) (w : World) (hLs : LLAt w vl Ls) (hO : SetsAt w vo O) :
    Calls Try.prog 6 #[vl, vo] w fun e w' => e = .returned (.bool true) ∧ Below w.heap.size w w' := by
  have ll := hLs.few
  have lo := hO.few
  obtain ⟨al, cl, rfl, hel⟩ := hLs.ex
  obtain ⟨ao, co, rfl, _⟩ := hO.ex
  go_enter Try.func6, Try.ntmps6
  go_wp2_with fail
  refine (awake_any w).mono ?_
  rintro e w0 ⟨rfl, B0⟩
  by_cases g1 : 16 < Ls.length
  · have g1' : (16 : Int) < (Ls.length : Int) := by omega
    go_wp2_with fail
    go_ret
    exact ⟨rfl, B0⟩
  by_cases g2 : 20 < O.length
  · have g1' : ¬ (16 : Int) < (Ls.length : Int) := by omega
    have g2' : (20 : Int) < (O.length : Int) := by omega
    go_wp2_with fail
    go_ret
    exact ⟨rfl, B0⟩
  have g1' : ¬ (16 : Int) < (Ls.length : Int) := by omega
  have g2' : ¬ (20 : Int) < (O.length : Int) := by omega
  go_wp2_with fail
  refine (new_any w0).mono ?_
  rintro e w1 ⟨t, b, rfl, ht, hb0, h1, b1⟩
  have Bw1 := B0.trans (b1.mono B0.size)
  have hb : w.heap.size ≤ b := Nat.le_trans B0.size hb0
  clear b1 g1' g2'
  go_wp2_with fail
  go_loopw [7, 8] (fun s i wr => ∃ k : Nat, k ≤ Ls.length ∧ i = .int .i64 k ∧ s = .string (nm k) ∧ Below w.heap.size w wr ∧ Hid (SheetAt wr t b k (chainS Ls k) ∧ WF (chainS Ls k) ∧ ∀ j, j < k → refuseL (Ls.getD j []) = 0)) (fun _ i _ => Ls.length - (intOf i).toNat)
  case atStart => exact ⟨0, by omega, rfl, rfl, Bw1, h1, wf_none, fun j hj => by omega⟩
  case round =>
    obtain ⟨k, hk, rfl, rfl, hbr, hH⟩ := hrel
    by_cases hlt : k < Ls.length
    · rcases hel with hel | ⟨bl, ol, rfl, hbl, hc⟩
      · rw [hel] at hlt; simp at hlt
      · obtain ⟨x, c, c0, hs⟩ := hc k hlt
        have d0 : wr.cell? ⟨bl, ol + k, none⟩ = _ := (hbr.cell hbl).trans c0
        replace hc : Hid _ := hc
        have hk16 : k < 16 := by omega
        have hlL := hs.few
        clear c0
        by_cases g3 : 20 < (Ls.getD k []).length
        · have g3' : (20 : Int) < ((Ls.getD k []).length : Int) := by omega
          generalize Ls.getD k [] = L at *
          go_wp2_with fail
          go_ret
          exact ⟨rfl, hbr⟩
        · have g3' : ¬ (20 : Int) < ((Ls.getD k []).length : Int) := by omega
          have hLE : Hid (Ls.getD k [] = Ls.getD k []) := rfl
          generalize hLk : Ls.getD k [] = L at d0 hs hlL g3 g3'
          replace hLk : Hid _ := hLk
          have hcv := conv_k wr hk16
          have hA := (Below.refl wr.heap.size wr).alloc (Nat.le_refl _) (Obj.cells #[.int .u8 (97 + (k : Int))] 5)
          have d1 : (wr.alloc (Obj.cells #[.int .u8 (97 + (k : Int))] 5)).cell? ⟨bl, ol + k, none⟩ = _ := (hA.cell (Nat.lt_of_lt_of_le hbl hbr.size)).trans d0
          obtain ⟨nx, hnx⟩ : ∃ nx, (⟨#[115]⟩ : ByteArray) ++ ck k = nx := ⟨_, rfl⟩
          go_wp2_with fail
          obtain ⟨hSh, hWF, hR⟩ := hH.out
          obtain rfl : nx = nm (k + 1) := hnx.symm.trans (ck_nm k)
          clear hnx hcv hH
          refine (define_any t b k (chainS Ls k) hWF (nm (k + 1)) (nm k) (by have := nm_size k; unfold maxLen; omega) _ L _ (hSh.below hA) ((hs.below hbr).below hA)).mono ?_
          intro e w3 p3
          have Bx := hbr.trans (hA.mono hbr.size)
          clear d0 d1
          by_cases hr : refuseL L = 0
          · have hd := chain_def Ls hk16 hWF hr
            obtain ⟨rfl, o3, h3, f3⟩ := p3.ok hd
            rw [chain_cnt Ls hk16] at h3
            have Bw3 := Only.below Bx hb (Nat.le_refl _) o3
            have hN : Hid (SheetAt w3 t b (k + 1) (chainS Ls (k + 1)) ∧ WF (chainS Ls (k + 1)) ∧ ∀ j, j < k + 1 → refuseL (Ls.getD j []) = 0) := by
              refine ⟨?_, ?_, fun j hj => ?_⟩
              · show SheetAt w3 t b (k + 1) (upd (chainS Ls k) (nm (k + 1)) (nm k, Ls.getD k []))
                rw [hLk.out]; exact h3
              · show WF (upd (chainS Ls k) (nm (k + 1)) (nm k, Ls.getD k []))
                rw [hLk.out]; exact f3
              · by_cases e : j < k
                · exact hR j e
                · obtain rfl : j = k := by omega
                  rw [hLk.out]; exact hr
            clear p3 o3 h3 f3 hSh hWF hR hd hr
            go_wp2_with fail
            go_roundw
            case rel => exact ⟨k + 1, by omega, by simp, rfl, Bw3, hN⟩
            case measure => simp [intOf]; omega
          · have hd : defE (chainS Ls k) k (nm (k + 1)) (nm k) L ≠ 0 := fun h => hr (defE_zero h).2.2.1
            obtain ⟨rfl, o3, n3, S3, h3, f3, h4, _⟩ := p3
            obtain ⟨rfl, rfl⟩ := h4 hd
            have Bw3 := Only.below Bx hb (Nat.le_refl _) o3
            clear h4 o3 hSh f3
            generalize defE (chainS Ls n3) n3 (nm (n3 + 1)) (nm n3) L = dd at *
            have e1 : (dd == 0) = false := by simpa using hd
            have e2 : (dd != 0) = true := by simpa using hd
            have hN0 : Hid (WF (chainS Ls n3)) := hWF
            clear hWF hR hr
            go_wp2_with fail
            refine (define_any t b n3 _ hN0.out (nm (n3 + 1)) (nm n3) (by have := nm_size n3; unfold maxLen; omega) _ [] w3 h3 (sets_nil w3)).mono ?_
            intro e w4 p4
            obtain ⟨rfl, o4, _, _⟩ := p4.ok (chain_def Ls hk16 hN0.out (by decide))
            have Bw4 := Only.below Bw3 hb (Nat.le_refl _) o4
            clear p4 o4 h3
            go_wp2_with fail
            go_ret
            exact ⟨rfl, Bw4⟩
    · have hkn : k = Ls.length := by omega
      subst hkn
      obtain ⟨hSh, hWF, hR⟩ := hH.out
      clear hH hlt hk
      replace hel : Hid _ := hel
      replace hR : Hid _ := hR
      have hpar := chain_parent Ls (k := Ls.length) (by omega)
      replace hpar : Hid _ := hpar
      go_wp2_with fail
      refine (resolve_any t b _ _ hWF (nm Ls.length) (by have := nm_size Ls.length; unfold maxLen; omega) _ O wr hSh (hO.below hbr)).mono ?_
      intro e w3 p3
      by_cases hr : refuseL O = 0
      · obtain ⟨rfl, hql, b3⟩ := p3.ok (resE_ok hpar.out hr) (chain_makes Ls baseL (n := Ls.length) (by omega) (Nat.le_refl _) Ls.length (Nat.le_refl _))
        have B3 := hbr.trans (b3.mono hbr.size)
        have hmp : Hid _ := applyL_may _ (by rw [foldK_length]; rfl) (fold_may Ls (fun k hk => refuseL_all (hR.out k hk)) Ls.length (Nat.le_refl _)) O (refuseL_all hr)
        have hqv : Hid (∀ n : Int, 1 ≤ n ∧ n ≤ 17 → (applyL (foldK baseL Ls Ls.length) O).getD (n.toNat - 1) 0 = (lastL O n).getD (wantK Ls n Ls.length)) := fun n hn => by
          rw [applyL_get _ (by rw [foldK_length]; rfl) O (refuseL_allP hr) hn, want_fold Ls (fun k hk => refuseL_allP (hR.out k hk)) hn Ls.length (Nat.le_refl _)]
        generalize applyL (foldK baseL Ls Ls.length) O = q at *
        obtain ⟨N4, c4⟩ := made23 w3 (l := q) hql
        have B4 := B3.trans (c4.mono B3.size)
        obtain ⟨w4, hw4⟩ : ∃ y, (w3.alloc (.cells #[Value.int IntKind.i64 0, Value.int IntKind.i64 0, Value.int IntKind.i64 0, Value.int IntKind.i64 0, Value.int IntKind.i64 0, Value.int IntKind.i64 0, Value.int IntKind.i64 0, Value.int IntKind.i64 0, Value.int IntKind.i64 0, Value.int IntKind.i64 0, Value.int IntKind.i64 0, Value.int IntKind.i64 0, Value.int IntKind.i64 0, Value.int IntKind.i64 0, Value.int IntKind.i64 0, Value.int IntKind.i64 0, Value.int IntKind.i64 0] 23)).setRow w3.heap.size (prC q) = y := ⟨_, rfl⟩
        rw [hw4] at N4 c4 B4
        clear p3 hSh hWF hr b3
        go_wp2_with (refine wpList_store_row rfl 23 _ _ rfl w3.heap.size (prC q) rfl rfl 23 _ (heap_new w3 _) (info23l hql) (by rw [prC_size, hql]; rfl) (prC_one _) ?_; rw [hw4])
        clear hw4
        go_loopw [12] (fun i wr => ∃ j : Nat, j ≤ 17 ∧ i = .int .i64 ((j : Int) + 1) ∧ Below w4.heap.size w4 wr) (fun i _ => 18 - (intOf i).toNat)
        case atStart => exact ⟨0, by omega, rfl, Below.refl _ _⟩
        case round =>
          obtain ⟨j, hj, rfl, hb5⟩ := hrel
          by_cases hlt : j < 17
          · have hn : 1 ≤ (j : Int) + 1 ∧ (j : Int) + 1 ≤ 17 := by omega
            have hn' : (j : Int) + 1 ≤ 17 := by omega
            have h15 := get_yes baseL rfl ((j : Int) + 1) hn
            rw [show baseL.getD (((j : Int) + 1).toNat - 1) 0 = wantK Ls ((j : Int) + 1) 0 from rfl] at h15
            have h15q := get_yes q hql ((j : Int) + 1) hn
            rw [hqv.out _ hn] at h15q
            unfold prV at h15 h15q
            replace h15 : Hid _ := h15
            replace h15q : Hid _ := h15q
            go_wp2_with fail
            refine (base_any _).mono ?_
            rintro e w6 ⟨rfl, b6⟩
            have C6 := hb5.trans (b6.mono hb5.size)
            clear b6
            unfold prV
            go_wp2_with fail
            refine (h15.out _).mono ?_
            rintro e w7 ⟨rfl, b7⟩
            have C7 := C6.trans (b7.mono C6.size)
            clear b7 C6 h15
            go_wp2_with fail
            go_loopw [13, 15] (fun x i wr => ∃ m : Nat, m ≤ Ls.length ∧ i = .int .i64 m ∧ x = .int .i64 (wantK Ls ((j : Int) + 1) m) ∧ Below w4.heap.size w4 wr) (fun _ i _ => Ls.length - (intOf i).toNat)
            case atStart => exact ⟨0, by omega, rfl, rfl, C7⟩
            case round =>
              obtain ⟨m, hm, rfl, rfl, hb8⟩ := hrel
              have B8 := B4.trans (hb8.mono B4.size)
              by_cases hlt2 : m < Ls.length
              · rcases hel.out with hel2 | ⟨bl, ol, hal, hbl, hc⟩
                · rw [hel2] at hlt2; simp at hlt2
                · subst hal
                  obtain ⟨x, c, c0, hs⟩ := hc m hlt2
                  have d0 : wr.cell? ⟨bl, ol + m, none⟩ = _ := (B8.cell hbl).trans c0
                  have hla := last_any _ _ ((j : Int) + 1) wr (hs.below B8)
                  have hstep : Hid (wantK Ls ((j : Int) + 1) (m + 1) = (lastL (Ls.getD m []) ((j : Int) + 1)).getD (wantK Ls ((j : Int) + 1) m)) := rfl
                  replace hc : Hid _ := hc
                  clear c0 hs
                  generalize Ls.getD m [] = L at *
                  generalize wantK Ls ((j : Int) + 1) m = wk at *
                  cases hll : lastL L ((j : Int) + 1) with
                  | none =>
                    rw [hll] at hla hstep
                    go_wp2_with (go_at_call 32; refine hla.mono ?_; rintro e w' ⟨rfl, hww⟩; subst w')
                    go_roundw
                    case rel => exact ⟨m + 1, by omega, by simp, by rw [hstep.out]; rfl, hb8⟩
                    case measure => simp [intOf]; omega
                  | some y =>
                    rw [hll] at hla hstep
                    go_wp2_with (go_at_call 32; refine hla.mono ?_; rintro e w' ⟨rfl, hww⟩; subst w')
                    go_roundw
                    case rel => exact ⟨m + 1, by omega, by simp, by rw [hstep.out]; rfl, hb8⟩
                    case measure => simp [intOf]; omega
              · have hmn : m = Ls.length := by omega
                subst hmn
                have hla := last_any _ O ((j : Int) + 1) wr (hO.below B8)
                have N8 := N4.below hb8 N4.lt
                generalize wantK Ls ((j : Int) + 1) Ls.length = wk at *
                cases hll : lastL O ((j : Int) + 1) with
                | none =>
                  rw [hll] at hla h15q
                  go_wp2_with (first
                    | (go_at_call 32; refine hla.mono ?_; rintro e w' ⟨rfl, hww⟩; subst w')
                    | refine wpList_load_row rfl 23 _ rfl w3.heap.size rfl 23 _ (0, 0) _ N8.row Try.underlying23 rfl (info23l hql) ?_)
                  refine (h15q.out _).mono ?_
                  rintro e w9 ⟨rfl, b9⟩
                  have C9 := hb8.trans (b9.mono hb8.size)
                  rw [show (none : Option Int).getD wk = wk from rfl]
                  go_wp2_with fail
                  go_roundw
                  case rel => exact ⟨j + 1, by omega, by simp, C9⟩
                  case measure => simp [intOf]; omega
                | some y =>
                  rw [hll] at hla h15q
                  go_wp2_with (first
                    | (go_at_call 32; refine hla.mono ?_; rintro e w' ⟨rfl, hww⟩; subst w')
                    | refine wpList_load_row rfl 23 _ rfl w3.heap.size rfl 23 _ (0, 0) _ N8.row Try.underlying23 rfl (info23l hql) ?_)
                  refine (h15q.out _).mono ?_
                  rintro e w9 ⟨rfl, b9⟩
                  have C9 := hb8.trans (b9.mono hb8.size)
                  rw [show (some y : Option Int).getD wk = y from rfl]
                  go_wp2_with fail
                  go_roundw
                  case rel => exact ⟨j + 1, by omega, by simp, C9⟩
                  case measure => simp [intOf]; omega
          · have hgt : ¬ ((j : Int) + 1 ≤ 17) := by omega
            have N5 := N4.below hb5 N4.lt
            have B5 := B4.trans (hb5.mono B4.size)
            have hmay := mayP_any q hql
            rw [hmp.out] at hmay
            unfold prV at hmay
            go_wp2_with (refine wpList_load_want 23 _ rfl (by kernel_rfl) w3.heap.size rfl 23 _ (0, 0) _ N5.row Try.underlying23 rfl (info23l hql) ?_)
            refine (hmay _).mono ?_
            rintro e w6 ⟨rfl, b6⟩
            have B6 := B5.trans (b6.mono B5.size)
            go_wp2_with fail
            go_ret
            exact ⟨rfl, B6⟩
      · have hr2 : refuseL O = 2 := by
          unfold refuseL at hr ⊢
          rw [if_neg (by omega)] at hr ⊢
          split at hr
          · exact absurd rfl hr
          · rename_i h; rw [if_neg h]
        have hE : resE (chainS Ls Ls.length) (nm Ls.length) O = 2 := by
          unfold resE
          rw [if_neg, hr2]
          rintro ⟨h1, h2⟩
          rcases hpar.out with h | h
          · exact h1 h
          · rw [h2] at h; cases h
        obtain ⟨b3, q, rfl, hql, _, _⟩ := p3
        rw [hE]
        have B3 := hbr.trans (b3.mono hbr.size)
        obtain ⟨N4, c4⟩ := made23 w3 (l := q) hql
        have B4 := B3.trans (c4.mono B3.size)
        obtain ⟨w4, hw4⟩ : ∃ y, (w3.alloc (.cells #[Value.int IntKind.i64 0, Value.int IntKind.i64 0, Value.int IntKind.i64 0, Value.int IntKind.i64 0, Value.int IntKind.i64 0, Value.int IntKind.i64 0, Value.int IntKind.i64 0, Value.int IntKind.i64 0, Value.int IntKind.i64 0, Value.int IntKind.i64 0, Value.int IntKind.i64 0, Value.int IntKind.i64 0, Value.int IntKind.i64 0, Value.int IntKind.i64 0, Value.int IntKind.i64 0, Value.int IntKind.i64 0, Value.int IntKind.i64 0] 23)).setRow w3.heap.size (prC q) = y := ⟨_, rfl⟩
        rw [hw4] at N4 c4 B4
        clear hSh hWF hr hr2 hE b3
        go_wp2_with (refine wpList_store_row rfl 23 _ _ rfl w3.heap.size (prC q) rfl rfl 23 _ (heap_new w3 _) (info23l hql) (by rw [prC_size, hql]; rfl) (prC_one _) ?_; rw [hw4])
        go_ret
        exact ⟨rfl, B4⟩
end Go.Proofs.Ytifkelpgpdgenaa
