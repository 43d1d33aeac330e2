/-
  What is proved here: PieceBack's walk: it answers true at every input: what is put in is read where it was put, all else stands as it did, taken out again the text is as it was, and an edit makes at most two pieces more.
-/
import Derived.Test.YtpippmbkdjcbeaaBackOps
import Derived.Test.YtpippmbkdjcbeaaBackMath
import Derived.ProofKit
import Derived.OpenShut
import Derived.ShutString
import Derived.Deep.Slices
import Derived.Deep.RegionWith
namespace Go.Proofs.Ytpippmbkdjcbeaa.pieceBack
open Go.ChangeShapes Go.WideShapes Go.ChangeAt Go.RowKit

theorem own : ownKnob Try.prog.godebug = none := by kernel_rfl
theorem laidOut : laidOutB Try.prog = true := by kernel_rfl

/-- One call, in memory. -/
def ActAt (w : World) (b o : Nat) : Prop := ∃ (kd p n : Int) (s : ByteArray), w.cell? ⟨b, o, none⟩ = some (.int .i64 kd) ∧ w.cell? ⟨b, o + 1, none⟩ = some (.int .i64 p) ∧ w.cell? ⟨b, o + 2, none⟩ = some (.int .i64 n) ∧ w.cell? ⟨b, o + 3, none⟩ = some (.string s) ∧
  (-9223372036854775808 ≤ p ∧ p ≤ 9223372036854775807) ∧ s.size ≤ maxLen
/-- The calls, in memory. -/
def IsActs (w : World) (a : Option Addr) (len : Nat) : Prop := len = 0 ∨ ∃ b off, a = some ⟨b, off, none⟩ ∧ b < w.heap.size ∧ ∀ i, i < len → ActAt w b (off + i * 5)

theorem refuse_cases (s : List UInt8) (h : refuseI s 0 ≠ 0) : refuseI s 0 = 4 ∨ refuseI s 0 = 8 := by
  unfold refuseI at h ⊢
  split
  · exact .inl rfl
  · rename_i h1
    rw [if_neg h1] at h
    split
    · exact .inr rfl
    · rename_i h2; rw [if_neg h2] at h; exact absurd rfl h

set_option maxHeartbeats 1000000 in
set_option maxRecDepth 100000 in
theorem walk_no (s : ByteArray) (hs : s.size ≤ maxLen) (hr : refuseI s.data.toList 0 ≠ 0) (a : Option Addr) (len cap : Nat) (p : Int) (put : ByteArray) (w : World) :
    Calls Try.prog 4 #[.string s, .slice a len cap, .int .i64 p, .string put] w fun e w' => e = .returned (.bool true) ∧ Below w.heap.size w w' := by
  have hn := new_no s hs hr
  rcases refuse_cases _ hr with h | h
  · rw [h] at hn
    go_enter Try.func4, Try.ntmps4
    go_wp2_with (first | (go_at_call 16; refine (awake_any _).mono ?_; rintro e w1 ⟨rfl, hb⟩) | (go_at_call 17; refine (hn _).mono ?_; rintro e w2 ⟨rfl, hww⟩; subst w2))
    go_ret
    exact ⟨rfl, hb⟩
  · rw [h] at hn
    go_enter Try.func4, Try.ntmps4
    go_wp2_with (first | (go_at_call 16; refine (awake_any _).mono ?_; rintro e w1 ⟨rfl, hb⟩) | (go_at_call 17; refine (hn _).mono ?_; rintro e w2 ⟨rfl, hww⟩; subst w2))
    go_ret
    exact ⟨rfl, hb⟩

set_option maxHeartbeats 1000000 in
set_option maxRecDepth 100000 in
theorem walk_long (s : ByteArray) (hs : s.size ≤ maxLen) (hr : refuseI s.data.toList 0 = 0) (a : Option Addr) (len cap : Nat) (hl : 40 < len) (p : Int) (put : ByteArray) (w : World) :
    Calls Try.prog 4 #[.string s, .slice a len cap, .int .i64 p, .string put] w fun e w' => e = .returned (.bool true) ∧ Below w.heap.size w w' := by
  have hn := new_yes s hs hr
  have hl' : (40 : Int) < (len : Int) := by omega
  go_enter Try.func4, Try.ntmps4
  go_wp2_with (first | (go_at_call 16; refine (awake_any _).mono ?_; rintro e w1 ⟨rfl, hb⟩) | (go_at_call 17; refine (hn _).mono ?_; rintro e w2 ⟨t, sv, rfl, hlt, hT, hb2⟩))
  go_ret
  exact ⟨rfl, hb.trans (hb2.mono hb.size)⟩

set_option maxHeartbeats 1000000 in
set_option maxRecDepth 100000 in
theorem walk_yes (s : ByteArray) (hs : s.size ≤ maxLen) (hr : refuseI s.data.toList 0 = 0) (a : Option Addr) (len cap : Nat) (hl : len ≤ 40) (p : Int) (put : ByteArray) (hput : put.size ≤ maxLen) (w : World) (hA : IsActs w a len) :
    Calls Try.prog 4 #[.string s, .slice a len cap, .int .i64 p, .string put] w fun e w' => e = .returned (.bool true) ∧ Below w.heap.size w w' := by
  have hn := new_yes s hs hr
  have hd : decide ((40 : Int) < (len : Int)) = false := by simp; omega
  go_enter Try.func4, Try.ntmps4
  go_wp2_with (first | (go_at_call 16; refine (awake_any _).mono ?_; rintro e w1 ⟨rfl, hb⟩) | (go_at_call 17; refine (hn _).mono ?_; rintro e w2 ⟨t, sv, rfl, hlt, hT, hb2⟩))
  have B2 := hb.trans (hb2.mono hb.size)
  have hwt : w.heap.size ≤ t := Nat.le_trans hb.size hlt
  have hgood : Good (runsOf s.data.toList) := by
    have hlen : s.data.toList.length = s.size := rfl
    have hsz : s.size ≤ 4096 := by
      unfold refuseI at hr
      split at hr
      · omega
      · split at hr
        · omega
        · omega
    unfold runsOf
    by_cases he : s.data.toList = []
    · rw [if_pos he]; exact ⟨by simp, by simp [tlen]⟩
    · rw [if_neg he]; exact ⟨by simpa using he, by unfold tlen; simp only [List.flatten_cons, List.flatten_nil, List.append_nil]; omega⟩
  clear hn hr hs
  go_loopw [12] (fun i wr => ∃ (k : Nat) (sv : Value) (rs : List (List UInt8)), k ≤ len ∧ i = .int .i64 k ∧ Good rs ∧ TextAt t sv rs wr ∧ Below w.heap.size w wr) (fun i _ => len - (intOf i).toNat)
  case atStart => exact ⟨0, sv, _, Nat.zero_le _, rfl, hgood, hT, B2⟩
  case round =>
    clear hgood hT B2 hb hb2 hlt
    obtain ⟨k, sv, rs, hk, rfl, hg, hT, hB⟩ := hrel
    have hpc := hg.cnt
    by_cases hlt : k < len
    · obtain ⟨b, off, rfl, hbw, hact⟩ : ∃ b off, a = some ⟨b, off, none⟩ ∧ b < w.heap.size ∧ ∀ i, i < len → ActAt w b (off + i * 5) := by
        rcases hA with h | h
        · omega
        · exact h
      obtain ⟨kd, q, n, sa, c0, c1, c2, c3, ⟨hq0, hq1⟩, hsa⟩ := hact k hlt
      clear hact hA
      have hcc : ∀ (W : World), Below w.heap.size w W → W.cell? ⟨b, off + k * 5, none⟩ = some (.int .i64 kd) ∧ W.cell? ⟨b, off + k * 5 + 1, none⟩ = some (.int .i64 q) ∧ W.cell? ⟨b, off + k * 5 + 2, none⟩ = some (.int .i64 n) ∧ W.cell? ⟨b, off + k * 5 + 3, none⟩ = some (.string sa) := fun W h =>
        ⟨(h.cell (p := ⟨b, _, none⟩) hbw).trans c0, (h.cell (p := ⟨b, _, none⟩) hbw).trans c1, (h.cell (p := ⟨b, _, none⟩) hbw).trans c2, (h.cell (p := ⟨b, _, none⟩) hbw).trans c3⟩
      clear c0 c1 c2 c3
      go_wp2_with fail
      refine (pieces_any t sv rs hg.tot hg.cnt _ hT).mono ?_
      rintro e wa ⟨rfl, qa⟩
      have hTa := hT.below qa
      have hBa := hB.trans (qa.mono hB.size)
      obtain ⟨c0, c1, c2, c3⟩ := hcc wa hBa
      by_cases hkd : kd = 0
      · have hkb : (kd == 0) = true := beq_iff_eq.2 hkd
        clear hkd
        go_wp2_with fail
        go_region_with (go_at_call 9; refine (insert_all t sv rs hg _ (hTa.turns (Turns.drew Noth _) (fun _ h => h.elim)) q sa hsa).mono ?_; rintro e wx ⟨c, sv', rs', rfl, hTx, hgx, htx, hlx, _⟩)
        all_goals
          have hBx : Below w.heap.size w wx := htx.to_below hwt hBa.drew
          have hpx := hgx.cnt
          have hlx2 := hgx.le
          have htx2 := hgx.tot
          have hd1 : decide ((rs.length : Int) + 2 < (rs'.length : Int)) = false := by simp; omega
          have hd2 : decide ((tlen rs' : Int) < (rs'.length : Int)) = false := by simp; omega
          clear c0 c1 c2 c3 hcc
          go_wp2_with fail
          refine (pieces_any t sv' rs' hgx.tot hgx.cnt _ hTx).mono ?_
          rintro e wy ⟨rfl, qy⟩
          have hTy := hTx.below qy
          have hBy := hBx.trans (qy.mono hBx.size)
          go_wp2_with fail
          refine (pieces_any t sv' rs' hgx.tot hgx.cnt _ hTy).mono ?_
          rintro e wz ⟨rfl, qz⟩
          have hTz := hTy.below qz
          have hBz := hBy.trans (qz.mono hBy.size)
          go_wp2_with fail
          refine (len_any t sv' rs' hgx.tot hgx.cnt _ hTz).mono ?_
          rintro e wu ⟨rfl, qu⟩
          have hTu := hTz.below qu
          have hBu := hBz.trans (qu.mono hBz.size)
          go_wp2_with fail
          go_roundw
          case rel => exact ⟨k + 1, sv', rs', by omega, by simp, hgx, hTu, hBu⟩
          case measure => simp [intOf]; omega
      · have hkb : (kd == 0) = false := beq_eq_false_iff_ne.2 hkd
        clear hkd
        go_wp2_with fail
        go_region_with (go_at_call 10; refine (delete_all t sv rs hg _ (hTa.turns (Turns.drew Noth _) (fun _ h => h.elim)) q n hq0 hq1).mono ?_; rintro e wx ⟨c, sv', rs', rfl, hTx, hgx, htx, hlx⟩)
        all_goals
          have hBx : Below w.heap.size w wx := htx.to_below hwt hBa.drew
          have hpx := hgx.cnt
          have hlx2 := hgx.le
          have htx2 := hgx.tot
          have hd1 : decide ((rs.length : Int) + 2 < (rs'.length : Int)) = false := by simp; omega
          have hd2 : decide ((tlen rs' : Int) < (rs'.length : Int)) = false := by simp; omega
          clear c0 c1 c2 c3 hcc
          go_wp2_with fail
          refine (pieces_any t sv' rs' hgx.tot hgx.cnt _ hTx).mono ?_
          rintro e wy ⟨rfl, qy⟩
          have hTy := hTx.below qy
          have hBy := hBx.trans (qy.mono hBx.size)
          go_wp2_with fail
          refine (pieces_any t sv' rs' hgx.tot hgx.cnt _ hTy).mono ?_
          rintro e wz ⟨rfl, qz⟩
          have hTz := hTy.below qz
          have hBz := hBy.trans (qz.mono hBy.size)
          go_wp2_with fail
          refine (len_any t sv' rs' hgx.tot hgx.cnt _ hTz).mono ?_
          rintro e wu ⟨rfl, qu⟩
          have hTu := hTz.below qu
          have hBu := hBz.trans (qu.mono hBz.size)
          go_wp2_with fail
          go_roundw
          case rel => exact ⟨k + 1, sv', rs', by omega, by simp, hgx, hTu, hBu⟩
          case measure => simp [intOf]; omega
    · go_wp2_with fail
      refine (whole_any t sv rs hg.tot hg.cnt _ hT).mono ?_
      rintro e wa ⟨rfl, qa⟩
      have hTa := hT.below qa
      have hBa := hB.trans (qa.mono hB.size)
      go_wp2_with fail
      refine (insert_all t sv rs hg _ hTa p put hput).mono ?_
      rintro e wb ⟨c, sv', rs', rfl, hTb, hgb, htb, _, hout⟩
      have hBb := htb.to_below hwt hBa
      rcases hout with ⟨hc, hfl⟩ | ⟨rfl, hp0, hp1, hps, hfl⟩
      · have hcb : (c == 0) = false := beq_eq_false_iff_ne.2 hc
        clear hc
        go_wp2_with fail
        refine (whole_any t sv' rs' hgb.tot hgb.cnt _ hTb).mono ?_
        rw [hfl]
        rintro e wc ⟨rfl, qc⟩
        go_wp2_with fail
        go_ret
        exact ⟨rfl, hBb.trans (qc.mono hBb.size)⟩
      · go_wp2_with fail
        have hpn : p ≤ (((⟨rs.flatten.toArray⟩ : ByteArray).size : Nat) : Int) := hp1
        have hws : ((⟨rs.flatten.toArray⟩ : ByteArray).size : Nat) ≤ 4096 := hg.tot
        have hwn := whole_any t sv' rs' hgb.tot hgb.cnt wb.drew (hTb.turns (Turns.drew Noth _) (fun _ h => h.elim))
        have hsl := slice_put t sv' rs' hgb rs.flatten p put hp0 hp1 hfl
        have hdl := delete_put t sv' rs' hgb rs.flatten p put hp0 hp1 hfl
        have heq := back_glue hfl
        have hlast : ∀ (u : ByteArray), u = ⟨rs.flatten.toArray⟩ → ∀ (sv2 : Value) (rs2 : List (List UInt8)), Good rs2 → rs2.flatten = rs.flatten → ∀ W, TextAt t sv2 rs2 W → Calls Try.prog 18 #[.pointer (some ⟨t, 0, none⟩)] W fun e w' => e = .returned (.string u) ∧ Below W.heap.size W w' := by
          rintro u rfl sv2 rs2 hg2 h2 W hT2
          have := whole_any t sv2 rs2 hg2.tot hg2.cnt W hT2
          rwa [h2] at this
        have hrng : p + (put.size : Int) ≤ 8192 := by omega
        generalize hwas : (⟨rs.flatten.toArray⟩ : ByteArray) = was at *
        generalize hnow : (⟨rs'.flatten.toArray⟩ : ByteArray) = now at *
        clear hfl hnow hp1
        generalize rs.flatten = l at *
        refine region18 _ (fun _ _ _ _ _ h => h) _ _ p put t was now _ hp0 hpn hws hps heq _ hwn ?_
        rintro e wc ⟨rfl, qc⟩
        refine ⟨rfl, ?_⟩
        unfold fr18
        have hTc : TextAt t sv' rs' wc := (hTb.turns (Turns.drew Noth _) (fun _ h => h.elim)).below qc
        have hBc : Below w.heap.size w wc := hBb.drew.trans (qc.mono hBb.drew.size)
        clear hwn qc
        go_wp2_with fail
        refine (hsl _ hTc).mono ?_
        rintro e wd ⟨rfl, qd⟩
        have hTd := hTc.below qd
        have hBd := hBc.trans (qd.mono hBc.size)
        go_wp2_with fail
        refine (hdl _ hTd).mono ?_
        rintro e we ⟨sv2, rs2, rfl, hTe, hge, hfe, hte⟩
        have hBe := hte.to_below hwt hBd
        go_wp2_with fail
        refine (hlast was rfl sv2 rs2 hge hfe _ hTe).mono ?_
        rintro e wf ⟨rfl, qf⟩
        go_wp2_with fail
        go_ret
        exact ⟨rfl, hBe.trans (qf.mono hBe.size)⟩

theorem walk (s : ByteArray) (hs : s.size ≤ maxLen) (a : Option Addr) (len cap : Nat) (p : Int) (put : ByteArray) (hput : put.size ≤ maxLen) (w : World) (hA : IsActs w a len) :
    Calls Try.prog 4 #[.string s, .slice a len cap, .int .i64 p, .string put] w fun e w' => e = .returned (.bool true) ∧ Below w.heap.size w w' := by
  by_cases hr : refuseI s.data.toList 0 = 0
  · by_cases hl : len ≤ 40
    · exact walk_yes s hs hr a len cap hl p put hput w hA
    · exact walk_long s hs hr a len cap (by omega) p put w
  · exact walk_no s hs hr a len cap p put w

end Go.Proofs.Ytpippmbkdjcbeaa.pieceBack
