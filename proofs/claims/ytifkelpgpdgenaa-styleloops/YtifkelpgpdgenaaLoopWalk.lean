/-
  What is proved here: StyleLoops' walk.
-/
import Derived.Test.YtifkelpgpdgenaaLoopOps
namespace Go.Proofs.Ytifkelpgpdgenaa
open Go.RowKit Go.Shelf

/-- Names in memory. -/
structure StrsAt (W : World) (v : Value) (ns : List Str) : Prop where
  ex : ∃ a cap, v = .slice a ns.length cap ∧ (ns = [] ∨ ∃ g, a = some ⟨g, 0, none⟩ ∧ g < W.heap.size ∧ ∀ (i : Nat) (h : i < ns.length), W.cell? ⟨g, i, none⟩ = some (.string ns[i]))

/-- What Names answers. -/
def namesPost (w : World) (n : Nat) (S : Sh) (e : Ending) (w' : World) : Prop :=
  ∃ v ns, e = .returned v ∧ StrsAt w' v ns ∧ ns.length = n ∧ (∀ s ∈ ns, (S s).isSome = true) ∧ (∀ s, (S s).isSome = true → s ∈ ns) ∧ Below w.heap.size w w'

/-- On the way up. -/
def OnWay (S : Sh) (r : Str → Nat) (ns : List Str) (u : Str) (vs : List Str) : Prop := vs.Nodup ∧ (∀ x ∈ vs, x ∈ ns) ∧ (u = e0 ∨ ((S u).isSome = true ∧ ∀ x ∈ vs, r u < r x))
theorem OnWay.few {S : Sh} {r : Str → Nat} {ns : List Str} {u : Str} {vs : List Str} (h : OnWay S r ns u vs) (hu : u ≠ e0) (hin : ∀ s, (S s).isSome = true → s ∈ ns) : vs.length + 1 ≤ ns.length := by
  obtain ⟨h1, h2, h3⟩ := h
  rcases h3 with h3 | ⟨h3, h4⟩
  · exact absurd h3 hu
  · have := nodup_le (u :: vs) ns (List.nodup_cons.2 ⟨fun hm => by have := h4 u hm; omega, h1⟩) fun x hx => by
      rcases List.mem_cons.1 hx with rfl | hx
      · exact hin _ h3
      · exact h2 x hx
    simpa using this
theorem OnWay.up {S : Sh} {r : Str → Nat} (hS : WF S) (hr : ∀ s p L, S s = some (p, L) → p ≠ e0 → r p < r s) {ns : List Str} {u p : Str} {L : List (Int × Int)} {vs : List Str} (h : OnWay S r ns u vs) (hu : u ≠ e0) (hx : S u = some (p, L)) (hin : ∀ s, (S s).isSome = true → s ∈ ns) : OnWay S r ns p (u :: vs) := by
  obtain ⟨h1, h2, h3⟩ := h
  rcases h3 with h3 | ⟨h3, h4⟩
  · exact absurd h3 hu
  · refine ⟨List.nodup_cons.2 ⟨fun hm => by have := h4 u hm; omega, h1⟩, fun x hm => ?_, ?_⟩
    · rcases List.mem_cons.1 hm with rfl | hm
      · exact hin _ h3
      · exact h2 x hm
    · by_cases hp : p = e0
      · exact .inl hp
      · right
        obtain ⟨y, hy⟩ := hS.up _ _ _ hx hp
        have hlt := hr _ _ _ hx hp
        refine ⟨by rw [hy]; rfl, fun x hm => ?_⟩
        rcases List.mem_cons.1 hm with rfl | hm
        · exact hlt
        · have := h4 x hm; omega

set_option maxRecDepth 100000 in
set_option maxHeartbeats 8000000 in
theorem loops_walk (hnames : ∀ (t b n : Nat) (S : Sh) (w : World), SheetAt w t b n S → Calls Try.prog 30 #[.pointer (some ⟨t, 0, none⟩)] w (namesPost w n S)) (va : Value) (As : List (Str × Str)) (w : World) (hAs : ActsAt w va As) :
    Calls Try.prog 8 #[va] w fun e w' => e = .returned (.bool true) ∧ Below w.heap.size w w' := by
  have la := hAs.few
  obtain ⟨aa, ca, rfl, hel⟩ := hAs.ex
  replace hnames : Hid _ := hnames
  go_enter Try.func8, Try.ntmps8
  go_wp2_with fail
  refine (awake_any w).mono ?_
  rintro e w0 ⟨rfl, B0⟩
  go_wp2_with fail
  refine (new_any w0).mono ?_
  rintro e w1 ⟨t, b, rfl, ht, hb0, h1, b1⟩
  have Bw1 := B0.trans (b1.mono B0.size)
  have hb : w.heap.size ≤ b := Nat.le_trans B0.size hb0
  clear b1
  by_cases g1 : 60 < As.length
  · have g1' : (60 : Int) < (As.length : Int) := by omega
    go_wp2_with fail
    go_ret
    exact ⟨rfl, Bw1⟩
  have g1' : ¬ (60 : Int) < (As.length : Int) := by omega
  go_wp2_with fail
  clear g1'
  go_loopw [5] (fun i wr => ∃ (k n : Nat) (S : Sh), k ≤ As.length ∧ i = .int .i64 k ∧ Below w.heap.size w wr ∧ Hid (SheetAt wr t b n S ∧ WF S)) (fun i _ => As.length - (intOf i).toNat)
  case atStart => exact ⟨0, 0, _, by omega, rfl, Bw1, h1, wf_none⟩
  case round =>
    obtain ⟨k, n, S, hk, rfl, hbr, hH⟩ := hrel
    obtain ⟨hSh, hWF⟩ := hH.out
    clear hH
    by_cases hlt : k < As.length
    · rcases hel with hel | ⟨bl, ol, rfl, hbl, hc⟩
      · rw [hel] at hlt; simp at hlt
      · obtain ⟨c1, c2, s1, s2⟩ := hc k hlt
        have d1 : wr.cell? ⟨bl, ol + k * 4 + 1, none⟩ = _ := (hbr.cell hbl).trans c1
        have d2 : wr.cell? ⟨bl, ol + k * 4 + 2, none⟩ = _ := (hbr.cell hbl).trans c2
        replace hc : Hid _ := hc
        replace hWF : Hid _ := hWF
        go_wp2_with fail
        refine def_region _ (fun _ _ _ _ _ h => h) _ _ t b n S hWF.out _ _ s2 bl ol As.length ca k hlt wr hSh (Nat.lt_of_lt_of_le hbl hbr.size) (by omega) d1 d2 ?_
        intro w3 dd n3 S3 h3 f3 o3
        have Bw3 := Only.below hbr hb (Nat.le_refl _) o3
        have hN : Hid (SheetAt w3 t b n3 S3 ∧ WF S3) := ⟨h3, f3⟩
        clear h3 f3 o3 hSh hWF d1 d2 c1 c2
        unfold fr8
        go_wp2_with fail
        go_roundw
        case rel => exact ⟨k + 1, n3, S3, by omega, by simp, Bw3, hN⟩
        case measure => simp [intOf]; omega
    · go_wp2_with fail
      refine (hnames.out t b n S wr hSh).mono ?_
      rintro e w4 ⟨v, ns, rfl, hst, hnl, hin1, hin2, b4⟩
      have Bw4 := hbr.trans (b4.mono hbr.size)
      have h4 := hSh.below b4
      have hn32 := h4.few
      subst hnl
      obtain ⟨an, cn, rfl, hen⟩ := hst.ex
      obtain ⟨r, hr⟩ := hWF.rank
      replace hin1 : Hid _ := hin1
      replace hin2 : Hid _ := hin2
      replace hr : Hid _ := hr
      replace hWF : Hid _ := hWF
      replace hel : Hid _ := hel
      clear hSh b4 hst
      go_wp2_with fail
      go_loopw [7] (fun i wr => ∃ k : Nat, k ≤ ns.length ∧ i = .int .i64 k ∧ Below w4.heap.size w4 wr) (fun i _ => ns.length - (intOf i).toNat)
      case atStart => exact ⟨0, by omega, rfl, Below.refl _ _⟩
      case round =>
        obtain ⟨i, hi, rfl, hb5⟩ := hrel
        by_cases hlt2 : i < ns.length
        · rcases hen with hen | ⟨gn, rfl, hgn, hcn⟩
          · rw [hen] at hlt2; simp at hlt2
          · have d0 : wr.cell? ⟨gn, i, none⟩ = _ := (hb5.cell hgn).trans (hcn i hlt2)
            have hsi := hin1.out ns[i] (List.getElem_mem hlt2)
            replace hcn : Hid _ := hcn
            have hway : Hid (OnWay S r ns ns[i] []) := ⟨List.nodup_nil, by simp, .inr ⟨hsi, by simp⟩⟩
            generalize ns[i] = s0 at *
            have hb5' : Hid _ := hb5
            go_wp2_with fail
            go_loopw [8, 9] (fun x y wr => ∃ (u : Str) (vs : List Str), x = .string u ∧ y = .int .i64 (vs.length : Int) ∧ Below w4.heap.size w4 wr ∧ Hid (OnWay S r ns u vs)) (fun x _ _ => rk S r (strOf x))
            case atStart => exact ⟨s0, [], rfl, rfl, hb5, hway⟩
            case round =>
              obtain ⟨u, vs, rfl, rfl, hb6, hway⟩ := hrel
              by_cases hue : u = e0
              · have hE : (ByteArray.toList u).isEmpty = true := by rw [hue, toList_data]; rfl
                clear hue hway
                go_wp2_with fail
                go_roundw
                case rel => exact ⟨i + 1, by omega, by simp, hb6⟩
                case measure => simp [intOf]; omega
              · have hE := isEmpty_no (size_pos hue)
                have hfew := hway.out.few hue hin2.out
                have hus : (S u).isSome = true := by
                  rcases hway.out.2.2 with h | h
                  · exact absurd h hue
                  · exact h.1
                obtain ⟨⟨p, L⟩, hx⟩ := Option.isSome_iff_exists.1 hus
                have hu16 := (nameB_pos (hWF.out.name _ _ hx)).2
                have h6 := h4.below hb6
                have hpar := parent_some t b _ S u p L (by unfold maxLen; omega) hx wr h6
                have hup : Hid _ := hway.out.up hWF.out hr.out hue hx hin2.out
                have hm : Hid (rk S r p < rk S r u) := by
                  rw [rk_some S r hue hx]
                  by_cases hp : p = e0
                  · rw [hp, rk_e0]; exact Nat.succ_pos _
                  · obtain ⟨y, hy⟩ := hWF.out.up _ _ _ hx hp
                    rw [rk_some S r hp hy]
                    have := hr.out _ _ _ hx hp
                    show _ < _
                    omega
                have hmv : Hid (((u :: vs).length : Int) = (vs.length : Int) + 1) := by simp [Hid]
                generalize vs.length = m at *
                have hle : ¬ ((ns.length : Int) < (m : Int)) := by omega
                have hm32 : m ≤ 32 := by omega
                clear hway hue hx hus h6 hfew
                go_wp2_with fail
                refine hpar.mono ?_
                rintro e w7 ⟨rfl, b7⟩
                have C7 := hb6.trans (b7.mono hb6.size)
                clear hpar b7 hu16
                go_wp2_with fail
                go_roundw
                case rel => exact ⟨p, u :: vs, rfl, by rw [hmv.out], C7, hup⟩
                case measure => exact hm.out
        · have hn' : (ns.length : Int) ≤ 32 := by omega
          have Bw5 := Bw4.trans (hb5.mono Bw4.size)
          go_wp2_with fail
          go_ret
          exact ⟨rfl, Bw5⟩
end Go.Proofs.Ytifkelpgpdgenaa
