/-
  What is proved here: what the document's Values answers.
-/
import Derived.Test.YtfblhpkndfbhgaaDoorRefVM
import Derived.Test.YtfblhpkndfbhgaaDoorRefP
namespace Go.Proofs.YtfblhpkndfbhgaaDoor
open Go.RowKit Go.Shelf

theorem made34 (n : Nat) : madeCells #[.int .i64 0] n = (ints (List.replicate n 0)).toArray := by
  apply Array.ext
  · simp [madeCells, ints]
  · intro i h1 h2
    simp [madeCells, ints, Nat.mod_one]
theorem make34 {n : Nat} (h : n ≤ 100) (W : World) : (Instr.makeSlice 34 (.int .i64 (n : Int)) (.int .i64 (n : Int))).run Tryd.prog W = .ok (.slice (some ⟨W.heap.size, 0, none⟩) n n) (W.alloc (.cells (ints (List.replicate n 0)).toArray 3)) := by
  obtain ⟨i3, hi⟩ := Option.isSome_iff_exists.1 (show (Tryd.prog.info? 3).isSome = true by kernel_rfl)
  have hz0 : i3.zero = some (.int .i64 0) := by
    have h : (Tryd.prog.info? 3).map (·.zero) = some (some (.int .i64 0)) := by kernel_rfl
    rw [hi] at h; simpa using h
  have hz1 : i3.size = 1 := by
    have h : (Tryd.prog.info? 3).map (·.size) = some 1 := by kernel_rfl
    rw [hi] at h; simpa using h
  have hz2 : i3.bytes = 8 := by
    have h : (Tryd.prog.info? 3).map (·.bytes) = some 8 := by kernel_rfl
    rw [hi] at h; simpa using h
  have := run_makeSlice (P := Tryd.prog) (w := W) 34 3 i3 _ Tryd.underlying34 hi hz0 .i64 .i64 n n (by omega) (by omega) (by rw [hz1]; omega) (by rw [hz2]; omega) (by omega)
  rw [hz1, Int.toNat_natCast, Nat.mul_one] at this
  rw [← made34]
  exact this
/-- Numbers that fill a block. -/
def IB (W : World) (g : Nat) (d : List Int) : Prop := W.heap[g]? = some (.cells (ints d).toArray 3 (0, 0))
theorem IB.cell {W : World} {g : Nat} {d : List Int} (h : IB W g d) {k : Nat} (hk : k < d.length) : W.cell? ⟨g, k, none⟩ = some (.int .i64 (d[k]'hk)) ∧ W.frozen? ⟨g, k, none⟩ = false := by
  refine ⟨?_, Lib.frozen_of_heap h _⟩
  rw [Lib.cell_of_heap h]
  simp [ints, hk]
theorem IB.set {W : World} {g : Nat} {d : List Int} (h : IB W g d) (k : Nat) (x : Int) : IB (W.setCell ⟨g, k, none⟩ (.int .i64 x)) g (d.set k x) := by
  have := Lib.heap_setCell_same (i := k) h (.int .i64 x)
  unfold IB
  rw [this]
  congr 2
  apply Array.ext'
  simp [ints, List.map_set]
theorem pre_cut {l q : ByteArray} {m : Nat} : ((q.extract m (m + l.size)).toList == l.toList) = true ↔ bs l <+: (bs q).drop m := by
  rw [beq_iff_eq, ByteArray.toList_eq, ByteArray.toList_eq, extract_ba, List.drop_take, List.prefix_iff_eq_take, show m + l.size - m = (bs l).length by rw [show (bs l).length = l.size from size_ba l]; omega]
  exact eq_comm
set_option maxRecDepth 100000 in
set_option maxHeartbeats 8000000 in
theorem values_any (v1 : Value) (ps : List ByteArray) (s : ByteArray) (hs : s.size ≤ 64) (hp : ps.length ≤ 1000) (hps : ∀ p ∈ ps, p.size ≤ 16 ∧ ltrs (bs p) ≠ []) (w : World) (t1 : TxAt w v1 ps) :
    Calls Tryd.prog 40 #[v1, .string s] w fun e w' => ∃ d, e = .returned (.slice (some ⟨w.heap.size, 0, none⟩) (s.size + 1) (s.size + 1)) ∧ Below w.heap.size w w' ∧ d.length = s.size + 1 ∧ IB w' w.heap.size d ∧ ∀ (k : Nat) (h : k < d.length), d[k] = valI (ps.map bs) (dot (bs s)) (k + 1) := by
  have T1 : Hid (∀ W, Below w.heap.size w W → TxAt W v1 ps) := fun W hb => t1.below hb (Nat.le_refl _)
  obtain ⟨a1, c1, rfl, -⟩ := t1.ex
  clear t1
  have hmk : ∀ W, (Instr.makeSlice 34 (.int .i64 ((s.size : Int) + 1)) (.int .i64 ((s.size : Int) + 1))).run Tryd.prog W = .ok (.slice (some ⟨W.heap.size, 0, none⟩) (s.size + 1) (s.size + 1)) (W.alloc (.cells (ints (List.replicate (s.size + 1) 0)).toArray 3)) := fun W => by
    have := make34 (n := s.size + 1) (by omega) W
    rwa [show (((s.size + 1 : Nat)) : Int) = (s.size : Int) + 1 by omega] at this
  obtain ⟨q, hq⟩ : ∃ q : ByteArray, (⟨#[46]⟩ : ByteArray) ++ s ++ ⟨#[46]⟩ = q := ⟨_, rfl⟩
  have hql : bs q = dot (bs s) := by rw [← hq]; exact dot_str s
  have hqs : q.size = s.size + 2 := by rw [← size_ba, show q.data.toList = dot (bs s) from hql, dot]; simp
  have hq66 : q.size ≤ 66 := by omega
  clear hqs
  have hb1 : Below w.heap.size w (w.alloc (.cells (ints (List.replicate (s.size + 1) 0)).toArray 3)) := below_one (Below.refl _ _) _
  have hI1 : Hid (IB (w.alloc (.cells (ints (List.replicate (s.size + 1) 0)).toArray 3)) w.heap.size (List.replicate (s.size + 1) 0)) := World.alloc_heap_new w _
  have hmk1 := hmk w
  generalize w.alloc (.cells (ints (List.replicate (s.size + 1) 0)).toArray 3) = w1 at *
  obtain ⟨g, hg⟩ : ∃ g, w.heap.size = g := ⟨_, rfl⟩
  rw [hg] at hmk1 hb1 hI1 T1 ⊢
  have hgh : Hid (w.heap.size = g) := hg
  have hpsh : Hid (∀ p ∈ ps, p.size ≤ 16 ∧ ltrs (bs p) ≠ []) := hps
  have hqh : Hid (bs q = dot (bs s)) := hql
  obtain ⟨tx, htx⟩ : ∃ tx, dot (bs s) = tx := ⟨_, rfl⟩
  rw [htx] at hqh ⊢
  obtain ⟨PS, hPS⟩ : ∃ PS, ps.map bs = PS := ⟨_, rfl⟩
  rw [hPS]
  have hPSh : Hid (ps.map bs = PS) := hPS
  have hLet : Hid (∀ p ∈ ps, ∀ W, Calls Tryd.prog 63 #[.string p] W fun e w' => e = .returned (.string ⟨(ltrs (bs p)).toArray⟩) ∧ w' = W) := fun p h W => letters_any p (by have := (hps p h).1; omega) W
  have f1 : ¬ 9223372036854775807 < (⟨#[46]⟩ : ByteArray).size + s.size := by show ¬ _ < 1 + s.size; omega
  have f2 : ¬ 9223372036854775807 < ((⟨#[46]⟩ : ByteArray) ++ s).size + (⟨#[46]⟩ : ByteArray).size := by rw [ByteArray.size_append]; show ¬ _ < 1 + s.size + 1; omega
  have f1' : ¬ 9223372036854775807 < 1 + s.size := by omega
  have f2' : ¬ 9223372036854775807 < 1 + s.size + 1 := by omega
  clear hmk hg hps hql htx hPS
  go_enter Tryd.func40, Tryd.ntmps40
  go_wp2_with fail
  clear hmk1
  go_loopw [7] (fun i wr => ∃ (k : Nat) (d : List Int), k ≤ ps.length ∧ i = .int .i64 k ∧ Below g w wr ∧ d.length = s.size + 1 ∧ Hid (IB wr g d) ∧ Hid (VI d (S0 PS tx k))) (fun i _ => ps.length - (intOf i).toNat)
  case atStart => exact ⟨0, List.replicate (s.size + 1) 0, by omega, rfl, hb1, by simp, hI1, VI.zero _ (fun k v hv h => by obtain ⟨p, hp, _⟩ := h; simp at hp)⟩
  case round =>
    obtain ⟨i, d, hi, rfl, hbl, hdl, hIB, hVI⟩ := hrel
    obtain ⟨wo, rfl⟩ : ∃ wo, wo = wr := ⟨_, rfl⟩
    by_cases hlt : i < ps.length
    · have hil : (i : Int) < ps.length := by omega
      obtain ⟨b0, o0, hab, cj⟩ := tx_cell (T1.out _ hbl) hlt
      subst hab
      obtain ⟨hp16, hpne⟩ := hpsh.out _ (List.getElem_mem hlt)
      have hL := hLet.out _ (List.getElem_mem hlt)
      have hiP : i < PS.length := by rw [← hPSh.out, List.length_map]; exact hlt
      have hPi : PS[i]'hiP = bs (ps[i]'hlt) := by simp [← hPSh.out]
      have hTx : Hid (∀ W, Below g w W → W.cell? ⟨b0, o0 + i, none⟩ = some (.string (ps[i]'hlt))) := fun W hb => by
        obtain ⟨b1, o1, e1, e2⟩ := tx_cell (T1.out _ hb) hlt
        cases e1; exact e2
      generalize ps[i]'hlt = p at *
      obtain ⟨l, hl⟩ : ∃ l : ByteArray, (⟨(ltrs (bs p)).toArray⟩ : ByteArray) = l := ⟨_, rfl⟩
      have hlb : bs l = ltrs (bs p) := by rw [← hl]
      have hls : l.size ≤ 16 := by
        rw [← size_ba, show l.data.toList = ltrs (bs p) from hlb]
        exact Nat.le_trans (List.length_filter_le _ _) (by rw [show (bs p).length = p.size from size_ba p]; exact hp16)
      rw [hl] at hL
      have hlbh : Hid (bs l = ltrs (bs p) ∧ ltrs (bs p) ≠ []) := ⟨hlb, hpne⟩
      have hVI1 : Hid (VI d (S1 PS tx i (bs p) 0)) := hVI.out.cast (fun k v _ => s1_zero k v)
      have hPih : Hid (∃ hiP : i < PS.length, PS[i]'hiP = bs p) := ⟨hiP, hPi⟩
      clear hl hlb hpne hVI hPi hiP
      go_wp2_with (go_at_call 63; refine (hL _).mono ?_; rintro e w' ⟨rfl, hww⟩; subst w')
      clear hL cj
      go_loopw [9] (fun a wr => ∃ (m : Nat) (d : List Int), m ≤ q.size + 1 ∧ a = .int .i64 m ∧ Below g w wr ∧ d.length = s.size + 1 ∧ Hid (IB wr g d) ∧ Hid (VI d (S1 PS tx i (bs p) m))) (fun a _ => q.size + 2 - (intOf a).toNat)
      case atStart => exact ⟨0, d, by omega, rfl, hbl, hdl, hIB, hVI1⟩
      case round =>
        clear hVI1 hIB hdl hbl
        obtain ⟨m, d, hm, rfl, hbl, hdl, hIB, hVI⟩ := hrel
        obtain ⟨wo, rfl⟩ : ∃ wo, wo = wr := ⟨_, rfl⟩
        by_cases hml : m + l.size ≤ q.size
        · have hmlI : (m : Int) + l.size ≤ q.size := by omega
          cases hcut : ((q.extract m (m + l.size)).toList == l.toList) with
          | false =>
            have hno : ¬ ltrs (bs p) <+: tx.drop m := by
              rw [← hlbh.out.1, ← hqh.out, ← pre_cut, hcut]; decide
            have hVI2 : Hid (VI d (S1 PS tx i (bs p) (m + 1))) := hVI.out.cast (fun k v _ => s1_skip hno k v)
            clear hVI hno
            go_wp2_with fail
            go_roundw
            case rel => exact ⟨m + 1, d, by omega, by simp, hbl, hdl, hIB, hVI2⟩
            case measure => simp [intOf]; omega
          | true =>
            have hyes : Hid (ltrs (bs p) <+: tx.drop m) := by
              show _ <+: _
              rw [← hlbh.out.1, ← hqh.out, ← pre_cut, hcut]
            have hVI2 : Hid (VI d (S2' PS tx i (bs p) m 0)) := hVI.out.cast (fun k v _ => s2_zero k v)
            clear hVI
            go_wp2_with fail
            go_loopw [10, 11] (fun kk jj wr => ∃ (j n : Nat) (kv : Int) (d : List Int), j ≤ p.size ∧ n ≤ j ∧ jj = .int .i64 j ∧ kk = .int .i64 kv ∧ kv = (m : Int) - 1 + n ∧ Below g w wr ∧ d.length = s.size + 1 ∧ Hid (n = (ltrs ((bs p).take j)).length) ∧ Hid (IB wr g d) ∧ Hid (VI d (S2' PS tx i (bs p) m j))) (fun _ jj _ => p.size - (intOf jj).toNat)
            case atStart => exact ⟨0, 0, (m : Int) - 1, d, by omega, by omega, rfl, rfl, by omega, hbl, hdl, rfl, hIB, hVI2⟩
            case round =>
              clear hVI2 hIB hdl hbl
              obtain ⟨j, n, kv, d, hj, hnj, rfl, rfl, hkv, hbl, hdl, hn, hIB, hVI⟩ := hrel
              have cj := hTx.out _ hbl
              by_cases hjl : j < p.size
              · have hjlI : (j : Int) < p.size := by omega
                have hjb : j < (bs p).length := by rw [show (bs p).length = p.size from size_ba p]; exact hjl
                have hget : (bs p)[j]'hjb = p[j]'hjl := by
                  have := getD_ba hjl
                  rw [List.getD_eq_getElem?_getD, List.getElem?_eq_getElem (show j < p.data.toList.length from hjb)] at this
                  exact this
                have hD := rdigit_any ((p[j]'hjl).toNat : Int)
                have hlt1 : ltrs ((bs p).take (j + 1)) = if dgt (p[j]'hjl) then ltrs ((bs p).take j) else ltrs ((bs p).take j) ++ [p[j]'hjl] := by
                  rw [List.take_succ_eq_append_getElem hjb, hget, ltrs_add]
                cases hc : dgt (p[j]'hjl) with
                | false =>
                  rw [show dgI ((p[j]'hjl).toNat : Int) = false from hc] at hD
                  have hn2 : Hid (n + 1 = (ltrs ((bs p).take (j + 1))).length) := by
                    show _ = _
                    rw [hlt1, if_neg (by rw [hc]; decide), List.length_append, ← hn.out]; rfl
                  have hVI2 : Hid (VI d (S2' PS tx i (bs p) m (j + 1))) := hVI.out.cast (fun k v _ => s2_let hjb (by rw [hget]; exact hc) k v)
                  have hkv2 : Hid (kv + 1 = (m : Int) - 1 + ((n + 1 : Nat) : Int)) := by show _ = _; omega
                  have hkvh : Hid (kv = (m : Int) - 1 + n) := hkv
                  have k1 : -1 ≤ kv := by omega
                  have k2 : kv ≤ 200 := by omega
                  clear hVI hlt1 hn hget hjb hc hkv
                  go_wp2_with (go_at_call 53; refine (hD _).mono ?_; rintro e w' ⟨rfl, hww⟩; subst w')
                  go_roundw
                  case rel => exact ⟨j + 1, n + 1, kv + 1, d, by omega, by omega, by simp, by simp, hkv2.out, hbl, hdl, hn2, hIB, hVI2⟩
                  case measure => simp [intOf]; omega
                | true =>
                  have hr := dgI_rng (show dgI ((p[j]'hjl).toNat : Int) = true from hc)
                  rw [show dgI ((p[j]'hjl).toNat : Int) = true from hc] at hD
                  have hn2 : Hid (n = (ltrs ((bs p).take (j + 1))).length) := by
                    show _ = _
                    rw [hlt1, if_pos hc, ← hn.out]
                  have hcast : Hid (∀ d', VI d' (fun k v => S2' PS tx i (bs p) m j k v ∨ ((k : Int) = kv ∧ v ≤ ((p[j]'hjl).toNat : Int) - 48)) → VI d' (S2' PS tx i (bs p) m (j + 1))) := fun d' h => h.cast (fun k v _ => by
                    have := s2_dig (ps := PS) (text := tx) (i := i) (m := m) hjb (by rw [hget]; exact hc) k v
                    rw [hget, ← hn.out, ← hkv] at this
                    exact this)
                  have hkvh : Hid (kv = (m : Int) - 1 + n) := hkv
                  have k1 : -1 ≤ kv := by omega
                  have k2 : kv ≤ 200 := by omega
                  by_cases hin : 0 ≤ kv ∧ kv ≤ s.size
                  · obtain ⟨h0, h1⟩ := hin
                    obtain ⟨kn, hkn⟩ : ∃ kn : Nat, kv = (kn : Int) := ⟨kv.toNat, by omega⟩
                    have hknd : kn < d.length := by omega
                    obtain ⟨c0, fz0⟩ := hIB.out.cell hknd
                    have hset : Hid (∀ y, y = max (d[kn]'hknd) (((p[j]'hjl).toNat : Int) - 48) → (d.set kn y).length = s.size + 1 ∧ Hid (IB (wr.setCell ⟨g, kn, none⟩ (.int .i64 y)) g (d.set kn y)) ∧ Hid (VI (d.set kn y) (S2' PS tx i (bs p) m (j + 1))) ∧ Below g w (wr.setCell ⟨g, kn, none⟩ (.int .i64 y))) := fun y hy =>
                      ⟨by simpa using hdl, hIB.out.set kn y, hcast.out _ (by
                        have := hVI.out.put hknd (x := ((p[j]'hjl).toNat : Int) - 48) y hy
                        rw [← hkn] at this
                        exact this), hbl.setCell (p := ⟨g, kn, none⟩) (Nat.le_refl _) _⟩
                    subst hkn
                    generalize d[kn]'hknd = dk at *
                    generalize hcN : (p[j]'hjl).toNat = cN at *
                    obtain ⟨hr1, hr2⟩ := hr
                    have hcNh : Hid ((p[j]'hjl).toNat = cN) := hcN
                    clear hVI hlt1 hn hget hjb hc hcast hkv
                    go_wp2_with (go_at_call 53; refine (hD _).mono ?_; rintro e w' ⟨rfl, hww⟩; subst w')
                    go_roundw
                    case rel =>
                      obtain ⟨e1, e2, e3, e4⟩ := hset.out _ rfl
                      exact ⟨j + 1, n, kn, d.set kn (max dk ((cN : Int) - 48)), by omega, by omega, by simp, rfl, hkvh.out, e4, e1, hn2, e2, e3⟩
                    case measure => simp [intOf]; omega
                  · have hVI2 : Hid (VI d (S2' PS tx i (bs p) m (j + 1))) := hcast.out d (hVI.out.miss (by omega) _)
                    have hin3 : ¬ 0 ≤ kv ∨ (0 ≤ kv ∧ ¬ kv ≤ s.size) := by omega
                    clear hVI hlt1 hn hget hjb hc hcast hkv hin
                    rcases hin3 with h0 | ⟨h0, h1⟩
                    · go_wp2_with (go_at_call 53; refine (hD _).mono ?_; rintro e w' ⟨rfl, hww⟩; subst w')
                      go_roundw
                      case rel => exact ⟨j + 1, n, kv, d, by omega, by omega, by simp, rfl, hkvh.out, hbl, hdl, hn2, hIB, hVI2⟩
                      case measure => simp [intOf]; omega
                    · go_wp2_with (go_at_call 53; refine (hD _).mono ?_; rintro e w' ⟨rfl, hww⟩; subst w')
                      go_roundw
                      case rel => exact ⟨j + 1, n, kv, d, by omega, by omega, by simp, rfl, hkvh.out, hbl, hdl, hn2, hIB, hVI2⟩
                      case measure => simp [intOf]; omega
              · obtain rfl : j = p.size := by omega
                have hVI2 : Hid (VI d (S1 PS tx i (bs p) (m + 1))) := hVI.out.cast (fun k v _ => by
                  rw [show p.size = (bs p).length from (size_ba p).symm]
                  exact s2_end hyes.out k v)
                have hjlI : ¬ (p.size : Int) < p.size := by omega
                clear hVI hn hkv
                go_wp2_with fail
                go_roundw
                case rel => exact ⟨m + 1, d, by omega, by simp, hbl, hdl, hIB, hVI2⟩
                case measure => simp [intOf]; omega
        · have hmlI : ¬ (m : Int) + l.size ≤ q.size := by omega
          have hVI2 : Hid (VI d (S0 PS tx (i + 1))) := by
            obtain ⟨hiP, hPi⟩ := hPih.out
            obtain ⟨e1, e2⟩ := hlbh.out
            rw [← hPi] at e1 e2 hVI
            refine hVI.out.cast (fun k v _ => s1_end hiP e2 ?_ k v)
            rw [← e1, ← hqh.out, show (bs q).length = q.size from size_ba q, show (bs l).length = l.size from size_ba l]
            omega
          clear hVI
          go_wp2_with fail
          go_roundw
          case rel => exact ⟨i + 1, d, by omega, by simp, hbl, hdl, hIB, hVI2⟩
          case measure => simp [intOf]; omega
    · obtain rfl : i = ps.length := by omega
      have hval : Hid (∀ (k : Nat) (h : k < d.length), d[k] = valI PS tx (k + 1)) := fun k h => by
        refine VI.val (text := tx) ?_ h
        rw [← hPSh.out, List.length_map, hPSh.out]; exact hVI.out
      clear hVI
      go_wp2_with fail
      go_ret
      exact ⟨d, rfl, hbl, hdl, hIB.out, hval.out⟩
end Go.Proofs.YtfblhpkndfbhgaaDoor
