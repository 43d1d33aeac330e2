/-
  What is proved here: what the document's Lines and Break answer.
  What is proved here: what the document's Break answers.
-/
import Derived.Test.YtnnlfeimebiboaaGreatDoorG17
import Derived.Test.YtnnlfeimebiboaaGreatDoorG18
import Derived.Test.YtnnlfeimebiboaaGreatDoorG15
namespace Go.Proofs.YtnnlfeimebiboaaGreatDoor
open Go.RowKit Go.Shelf

/-- Lines so far, in memory behind z. -/
structure PW (z : World) (v : Value) (qs : List Pc) (W : World) : Prop where
  low : Below z.heap.size z W
  row : W.ownsRow z.heap.size 41 5 v qs.length (qs.flatMap pcL)
theorem PW.next {z : World} {v : Value} {qs : List Pc} {W W' : World} (h : PW z v qs W) (hb : Below W.heap.size W W') : PW z v qs W' := ⟨h.low.trans (hb.mono h.low.size), ownsRow_below h.row hb⟩
theorem PW.app {z : World} {v v' : Value} {qs : List Pc} {p : Pc} {W W' : World} (h : PW z v qs W) (ho : W'.ownsRow z.heap.size 41 5 v' (qs ++ [p]).length ((qs ++ [p]).flatMap pcL)) (hg : (W.alloc (.cells (pcL p).toArray 41)).grownBy W' v.ownBlock) : PW z v' (qs ++ [p]) W' := by
  have hb := h.low.alloc h.low.size (.cells (pcL p).toArray 41)
  exact ⟨hb.grown hg hb.size (fun k hk => (h.row.lt k hk).1), ho⟩
theorem row_slice {W : World} {base : Nat} {v : Value} {n : Nat} {xs : List Value} (h : W.ownsRow base 41 5 v n xs) : ∃ a c, v = .slice a n c := by
  rcases h.2 with ⟨e, e0⟩ | ⟨g', cap', cur', e, _⟩
  · subst e0; exact ⟨none, 0, e⟩
  · exact ⟨_, _, e⟩
theorem lsA_now {l : List It} {ss : List Sl} {r : Sl} {a n : Nat} (h : a ≤ l.length) : lsA l ss r a n = lnP l a (slN ss r n) :: (if bgN l (lnP l a (slN ss r n)).b < l.length then lsA l ss r (bgN l (lnP l a (slN ss r n)).b) (n + 1) else []) := by
  split
  · rename_i hb; exact lsA_go h hb
  · rename_i hb; exact lsA_end hb

set_option maxRecDepth 100000 in
set_option maxHeartbeats 1000000 in
theorem rlines_any (v vs : Value) (l : List It) (ss : List Sl) (r : Sl) (hck : ckL l = 0) (hcs : ckS ss r = 0) (w : World) (hS : ItsAt w v l) (hV : SlsAt w vs ss) :
    Calls Tryz.prog 27 #[v, vs, .agg (slL r).toArray] w fun e w' => (∃ v', e = .returned v' ∧ PcsAt w' v' (lsL l ss r)) ∧ Below w.heap.size w w' := by
  obtain ⟨a0, cap, rfl, -⟩ := hS.ex
  obtain ⟨a2, cap2, rfl, -⟩ := hV.ex
  have h8 := ck_len hck
  have hf := ckS_few hcs
  have hB := (Below.refl w.heap.size w).alloc (Nat.le_refl _) (.cells #[.int .i64 r.x, .int .i64 r.w] 25)
  have hS1 := hS.below hB (Nat.le_refl _)
  have hV1 := hV.below hB (Nat.le_refl _)
  have c0 : (w.alloc (.cells #[.int .i64 r.x, .int .i64 r.w] 25)).cell? ⟨w.heap.size, 0, none⟩ = some (.int .i64 r.x) := by rw [Lib.cell_of_heap (World.alloc_heap_new w _)]; rfl
  have c1 : (w.alloc (.cells #[.int .i64 r.x, .int .i64 r.w] 25)).cell? ⟨w.heap.size, 1, none⟩ = some (.int .i64 r.w) := by rw [Lib.cell_of_heap (World.alloc_heap_new w _)]; rfl
  have hlt : w.heap.size < (w.alloc (.cells #[.int .i64 r.x, .int .i64 r.w] 25)).heap.size := by simp
  have hk : Hid (∀ i, i < l.length → ∃ g o, a0 = some ⟨g, o, none⟩ ∧ (w.alloc (.cells #[.int .i64 r.x, .int .i64 r.w] 25)).cell? ⟨g, o + i * 8, none⟩ = some (.int .i64 (itAt l i).k)) := fun i hi => by
    obtain ⟨g, o, e, _, h⟩ := its_kind hS1 hi (Below.refl _ _)
    exact ⟨g, o, e, h⟩
  have hBh : Hid (Below w.heap.size w (w.alloc (.cells #[.int .i64 r.x, .int .i64 r.w] 25))) := hB
  generalize hwz : w.alloc (.cells #[.int .i64 r.x, .int .i64 r.w] 25) = wz at *
  have hcl : Hid (∀ W, Below wz.heap.size wz W → W.cell? ⟨w.heap.size, 0, none⟩ = some (.int .i64 r.x) ∧ W.cell? ⟨w.heap.size, 1, none⟩ = some (.int .i64 r.w)) := fun W hW => ⟨(hW.cell hlt).trans c0, (hW.cell hlt).trans c1⟩
  have hSl : Hid (∀ (n : Nat) W, Below wz.heap.size wz W → Calls Tryz.prog 14 #[.slice a2 ss.length cap2, .agg #[.int .i64 r.x, .int .i64 r.w], .int .i64 (n : Nat)] W fun e w' => e = .returned (.agg (slL (slN ss r n)).toArray) ∧ Below W.heap.size W w') := fun n W hW => by
    have := rfslot_any _ ss r n (by omega) W (hV1.below hW (Nat.le_refl _))
    rwa [slI_nat] at this
  have hOn : Hid (∀ (a n : Nat) W, a < l.length → Below wz.heap.size wz W → Calls Tryz.prog 43 #[.slice a0 l.length cap, .int .i64 (a : Nat), .agg (slL (slN ss r n)).toArray] W fun e w' => e = .returned (.agg (pcL (lnP l a (slN ss r n))).toArray) ∧ Below W.heap.size W w') := fun a n W ha hW => one_any _ l a _ hck ha (slN_ok hcs n) W (hS1.below hW (Nat.le_refl _))
  have hBg : Hid (∀ (b : Nat) W, b ≤ l.length → Below wz.heap.size wz W → Calls Tryz.prog 44 #[.slice a0 l.length cap, .int .i64 (b : Nat)] W fun e w' => e = .returned (.int .i64 (bgN l b : Nat)) ∧ w' = W) := fun b W hb hW => rbegin_any _ l b hb h8 W (hS1.below hW (Nat.le_refl _))
  have hsk : sk l 0 ≤ l.length := (sk_le (l := l) (l.length + 1) 0 (by omega)).2
  have hl8 : (l.length : Int) ≤ 8192 := by omega
  have hEnd : Hid (∀ v' W, PcsAt W v' (lsL l ss r) → Below wz.heap.size wz W → (∃ v'', Ending.returned v' = .returned v'' ∧ PcsAt W v'' (lsL l ss r)) ∧ Below w.heap.size w W) := fun v' W h1 h2 => ⟨⟨v', rfl, h1⟩, hBh.out.trans (h2.mono hBh.out.size)⟩
  have hR : Hid (lsA l ss r (sk l 0) 0 = lsL l ss r) := rfl
  clear hS hV hS1 hV1 c0 c1 hlt hB hck hcs
  show Calls Tryz.prog 27 #[.slice a0 l.length cap, .slice a2 ss.length cap2, .agg #[.int .i64 r.x, .int .i64 r.w]] w _
  go_enter Tryz.func27, Tryz.ntmps27
  go_wp2_with fail
  clear hwz
  go_loopw [7] (fun i wr => ∃ k : Nat, k ≤ l.length ∧ i = .int .i64 k ∧ wr = wz ∧ Hid (sk l k = sk l 0)) (fun i _ => l.length - (intOf i).toNat)
  case atStart => exact ⟨0, by omega, rfl, rfl, rfl⟩
  case round =>
    obtain ⟨k, hkl, rfl, hwe, hrk⟩ := hrel
    subst wr
    by_cases hgl : k < l.length ∧ (itAt l k).k = 2
    · obtain ⟨g, o, rfl, ck⟩ := hk.out k hgl.1
      have q1 : (k : Int) < l.length := by omega
      have q2 : Hid (sk l (k + 1) = sk l 0) := by show _ = _; rw [← hrk.out, sk_go hgl.1 hgl.2]
      rw [hgl.2] at ck
      clear hrk hk hOn hBg hSl hEnd hcl
      go_wp2_with fail
      go_roundw
      case rel => exact ⟨k + 1, by omega, by simp, by first | rfl | trivial, q2⟩
      case measure => simp [intOf]; omega
    · have hks : k = sk l 0 := by rw [← hrk.out, sk_no hgl]
      have hcond : Hid ((k < l.length ∧ (itAt l k).k ≠ 2) ∨ k = l.length) := by
        by_cases h : k < l.length
        · exact .inl ⟨h, fun e => hgl ⟨h, e⟩⟩
        · exact .inr (by omega)
      rcases hcond.out with ⟨hkl2, hk2⟩ | hkl2
      · have hpw0 : PW wz (.slice none 0 0) [] wz := ⟨Below.refl _ _, World.ownsRow_nil _ _ _ _⟩
        obtain ⟨g, o, rfl, ck⟩ := hk.out k hkl2
        have q1 : (k : Int) < l.length := by omega
        have q2 : ((itAt l k).k == 2) = false := by simpa using hk2
        have hksh : Hid (lsA l ss r k 0 = lsL l ss r) := by rw [hks]; exact hR
        clear hrk hk hgl hk2 hks hcond hR
        generalize (itAt l k).k = kd at *
        go_wp2_with fail
        go_loopw [7, 8] (fun i v wr => ∃ (a : Nat) (qs : List Pc) (va : Option Addr) (vc : Nat), (a ≤ l.length ∧ qs.length ≤ a) ∧ i = .int .i64 a ∧ v = .slice va qs.length vc ∧ PW wz (.slice va qs.length vc) qs wr ∧ Hid ((qs = [] ∧ a = k) ∨ (qs ≠ [] ∧ qs ++ (if a < l.length then lsA l ss r a qs.length else []) = lsL l ss r))) (fun i _ _ => l.length - (intOf i).toNat)
        case atStart => exact ⟨k, [], none, 0, ⟨by omega, by simp⟩, rfl, rfl, hpw0, .inl ⟨rfl, rfl⟩⟩
        case round =>
          obtain ⟨a, qs, va, vc, ⟨hal, hqa⟩, rfl, rfl, hP, hr⟩ := hrel
          by_cases hlt : a < l.length
          · have q3 : (a : Int) < l.length := by omega
            have hall : qs ++ lsA l ss r a qs.length = lsL l ss r := by
              rcases hr.out with ⟨k1, k2⟩ | ⟨_, k2⟩
              · subst k1; rw [k2]; exact hksh.out
              · rw [if_pos hlt] at k2; exact k2
            rw [lsA_now hal] at hall
            have hp := lnP_b (s := slN ss r qs.length) hlt
            have hbgl := bg_le hp.1
            have hsl : Hid (Calls Tryz.prog 14 #[.slice a2 ss.length cap2, .agg #[.int .i64 r.x, .int .i64 r.w], .int .i64 (qs.length : Nat)] wr fun e w' => e = .returned (.agg (slL (slN ss r qs.length)).toArray) ∧ Below wr.heap.size wr w') := hSl.out qs.length wr hP.low
            have hon : Hid (∀ W, Below wz.heap.size wz W → Calls Tryz.prog 43 #[.slice (some ⟨g, o, none⟩) l.length cap, .int .i64 (a : Nat), .agg (slL (slN ss r qs.length)).toArray] W fun e w' => e = .returned (.agg (pcL (lnP l a (slN ss r qs.length))).toArray) ∧ Below W.heap.size W w') := fun W => hOn.out a qs.length W hlt
            have hbg : Hid (∀ W, Below wz.heap.size wz W → Calls Tryz.prog 44 #[.slice (some ⟨g, o, none⟩) l.length cap, .int .i64 ((lnP l a (slN ss r qs.length)).b : Nat)] W fun e w' => e = .returned (.int .i64 (bgN l (lnP l a (slN ss r qs.length)).b : Nat)) ∧ w' = W) := fun W => hBg.out _ W hp.1
            have hput : Hid (∀ w3, Below wr.heap.size wr w3 → PW wz (.slice va qs.length vc) qs ((w3.alloc (.cells #[.int .i64 0, .int .i64 0, .bool false, .bool false, .int .i64 0] 41)).setRow w3.heap.size (pcL (lnP l a (slN ss r qs.length))).toArray) ∧ ((w3.alloc (.cells #[.int .i64 0, .int .i64 0, .bool false, .bool false, .int .i64 0] 41)).setRow w3.heap.size (pcL (lnP l a (slN ss r qs.length))).toArray).heap[w3.heap.size]? = some (.cells (pcL (lnP l a (slN ss r qs.length))).toArray 41 (0, 0))) := fun w3 h3 => by
              have hbb : Below w3.heap.size w3 ((w3.alloc (.cells (pcL zpc).toArray 41)).setRow w3.heap.size (pcL (lnP l a (slN ss r qs.length))).toArray) := ((Below.refl w3.heap.size w3).alloc (Nat.le_refl _) _).trans ((Turns.setRow (X := fun k => k = w3.heap.size) _ rfl _).below (by simp) (fun k hk => by omega))
              exact ⟨(hP.next h3).next hbb, setRow_heap (w3.alloc (.cells (pcL zpc).toArray 41)) w3.heap.size (pcL zpc).toArray _ 41 (0, 0) (World.alloc_heap_new w3 _)⟩
            have hlt4 : Hid (∀ w3, Below wr.heap.size wr w3 → ∀ g', Value.ownBlock (.slice va qs.length vc) = some g' → g' < w3.heap.size) := fun w3 h3 g' e => Nat.lt_of_lt_of_le (hP.row.lt g' e).2 h3.size
            have happ : Hid (∀ (w4 : World) v' w5 D, PW wz (.slice va qs.length vc) qs w4 → w4.heap[D]? = some (.cells (pcL (lnP l a (slN ss r qs.length))).toArray 41 (0, 0)) → (∀ g', Value.ownBlock (.slice va qs.length vc) = some g' → g' < D) → World.ownsRow w5 wz.heap.size 41 5 v' (qs ++ [lnP l a (slN ss r qs.length)]).length ((qs ++ [lnP l a (slN ss r qs.length)]).flatMap pcL) → (w4.alloc (.cells (pcL (lnP l a (slN ss r qs.length))).toArray 41)).grownBy w5 (Value.ownBlock (.slice va qs.length vc)) → PW wz v' (qs ++ [lnP l a (slN ss r qs.length)]) w5 ∧ w5.heap[D]? = some (.cells (pcL (lnP l a (slN ss r qs.length))).toArray 41 (0, 0))) := fun w4 v' w5 D k1 k2 k3 k4 k5 => by
              have hD := (Array.getElem?_eq_some_iff.1 k2).1
              exact ⟨k1.app k4 k5, (k5.block D (by rw [World.size_alloc]; omega) (fun e => by have := k3 D e.symm; omega)).trans ((Below.heap_alloc _ _ _ hD).trans k2)⟩
            obtain ⟨x1, x2⟩ := hcl.out wr hP.low
            have hq9 : qs.length ≤ 9000 := by omega
            have hbg2 := hbgl.2
            have hbg1 : a < bgN l (lnP l a (slN ss r qs.length)).b := by omega
            have hpb : (lnP l a (slN ss r qs.length)).b ≤ l.length := hp.1
            have hpe : (lnP l a (slN ss r qs.length)).b = l.length → bgN l (lnP l a (slN ss r qs.length)).b = l.length := fun e => by rw [e, bg_end]
            have hallh : Hid (qs ++ lnP l a (slN ss r qs.length) :: (if bgN l (lnP l a (slN ss r qs.length)).b < l.length then lsA l ss r (bgN l (lnP l a (slN ss r qs.length)).b) (qs.length + 1) else []) = lsL l ss r) := hall
            clear hall hr hSl hOn hBg hp hbgl hcl
            generalize bgN l (lnP l a (slN ss r qs.length)).b = a3 at *
            generalize lnP l a (slN ss r qs.length) = p at *
            generalize slN ss r qs.length = sv at *
            by_cases hpl : p.b = l.length
            · have q5 : ((p.b : Int) == l.length) = true := by rw [hpl]; simp
              have hfin : Hid (qs ++ [p] = lsL l ss r) := by
                show _ = _
                have := hallh.out
                rw [if_neg (by have := hpe hpl; omega)] at this
                exact this
              clear hallh hpl hpe
              go_wp2_with (first | (go_at_call 14; refine (hsl.out).mono ?_; rintro e w2 ⟨rfl, hb2⟩) | (go_at_call 43; refine (hon.out w2 (hP.low.trans (hb2.mono hP.low.size))).mono ?_; rintro e w3 ⟨rfl, hb3⟩) | (refine wpList_store_row rfl 41 _ _ rfl w3.heap.size (pcL p).toArray rfl rfl 41 _ (World.alloc_heap_new _ _) (info41 _) rfl (pcL_all _) ?_; obtain ⟨hP4, hr4⟩ := hput.out w3 (hb2.trans (hb3.mono hb2.size)); generalize (w3.alloc (.cells #[.int .i64 0, .int .i64 0, .bool false, .bool false, .int .i64 0] 41)).setRow w3.heap.size (pcL p).toArray = w4 at *) | (refine wpList_load_row rfl 41 _ rfl w3.heap.size rfl 41 _ (0, 0) _ hr4 Tryz.underlying41 rfl (info41 _) ?_) | (refine wpList_plain rfl fun K hK => wp_pbuild1 (Operand.tmp 37) rfl p rfl (hK _ _ ?_)) | (refine wpList_plain rfl fun K hK => wp_papp (Operand.tmp 36) (Operand.tmp 38) rfl wz.heap.size (.slice va qs.length vc) qs p rfl hP4.row hP4.low.size hq9 rfl (fun v' w5 ho hg => hK _ _ ?_); obtain ⟨hP5, hr5⟩ := happ.out w4 v' w5 w3.heap.size hP4 hr4 (hlt4.out w3 (hb2.trans (hb3.mono hb2.size))) ho hg; clear ho hg hK; obtain ⟨va', vc', rfl⟩ := row_slice hP5.row; have cb5 : w5.cell? ⟨w3.heap.size, 1, none⟩ = some (.int .i64 (p.b : Nat)) := (by rw [Lib.cell_of_heap hr5]; rfl)) | (go_at_call 44; refine (hbg.out w5 hP5.low).mono ?_; rintro e w6 ⟨rfl, hww⟩; subst w6))
              go_ret
              refine hEnd.out _ _ ?_ hP5.low
              rw [← hfin.out]
              have h5 := rec_of_row pcL_len rfl hP5.row
              rw [show (qs ++ [p]).length = qs.length + 1 by simp] at h5
              exact h5
            · have q5 : ((p.b : Int) == l.length) = false := by simp; omega
              have hnx : Hid ((qs ++ [p] = [] ∧ a3 = k) ∨ (qs ++ [p] ≠ [] ∧ (qs ++ [p]) ++ (if a3 < l.length then lsA l ss r a3 (qs ++ [p]).length else []) = lsL l ss r)) := by
                refine .inr ⟨by simp, ?_⟩
                rw [List.append_assoc, List.length_append]
                exact hallh.out
              have hqn : Hid ((qs ++ [p]).length ≤ a3) := by show _ ≤ _; simp; omega
              clear hallh hpl hpe
              go_wp2_with (first | (go_at_call 14; refine (hsl.out).mono ?_; rintro e w2 ⟨rfl, hb2⟩) | (go_at_call 43; refine (hon.out w2 (hP.low.trans (hb2.mono hP.low.size))).mono ?_; rintro e w3 ⟨rfl, hb3⟩) | (refine wpList_store_row rfl 41 _ _ rfl w3.heap.size (pcL p).toArray rfl rfl 41 _ (World.alloc_heap_new _ _) (info41 _) rfl (pcL_all _) ?_; obtain ⟨hP4, hr4⟩ := hput.out w3 (hb2.trans (hb3.mono hb2.size)); generalize (w3.alloc (.cells #[.int .i64 0, .int .i64 0, .bool false, .bool false, .int .i64 0] 41)).setRow w3.heap.size (pcL p).toArray = w4 at *) | (refine wpList_load_row rfl 41 _ rfl w3.heap.size rfl 41 _ (0, 0) _ hr4 Tryz.underlying41 rfl (info41 _) ?_) | (refine wpList_plain rfl fun K hK => wp_pbuild1 (Operand.tmp 37) rfl p rfl (hK _ _ ?_)) | (refine wpList_plain rfl fun K hK => wp_papp (Operand.tmp 36) (Operand.tmp 38) rfl wz.heap.size (.slice va qs.length vc) qs p rfl hP4.row hP4.low.size hq9 rfl (fun v' w5 ho hg => hK _ _ ?_); obtain ⟨hP5, hr5⟩ := happ.out w4 v' w5 w3.heap.size hP4 hr4 (hlt4.out w3 (hb2.trans (hb3.mono hb2.size))) ho hg; clear ho hg hK; obtain ⟨va', vc', rfl⟩ := row_slice hP5.row; have cb5 : w5.cell? ⟨w3.heap.size, 1, none⟩ = some (.int .i64 (p.b : Nat)) := (by rw [Lib.cell_of_heap hr5]; rfl)) | (go_at_call 44; refine (hbg.out w5 hP5.low).mono ?_; rintro e w6 ⟨rfl, hww⟩; subst w6))
              go_roundw
              case rel => exact ⟨a3, qs ++ [p], va', vc', ⟨hbg2, hqn.out⟩, rfl, by simp, hP5, hnx⟩
              case measure => simp [intOf]; omega
          · have q3 : ¬ (a : Int) < l.length := by omega
            have hall : Hid (qs = lsL l ss r) := by
              rcases hr.out with ⟨k1, k2⟩ | ⟨_, k2⟩
              · omega
              · rw [if_neg hlt, List.append_nil] at k2; exact k2
            have hq0 : 0 < qs.length := by
              rcases hr.out with ⟨k1, k2⟩ | ⟨k1, _⟩
              · omega
              · exact List.length_pos_iff.2 k1
            have q4 : ((qs.length : Int) == 0) = false := beq_false_of_ne (by omega)
            clear hr hSl hOn hBg hcl
            go_wp2_with fail
            go_ret
            refine hEnd.out _ _ ?_ hP.low
            rw [← hall.out]
            exact rec_of_row pcL_len rfl hP.row
      · have q1 : ¬ (k : Int) < l.length := by omega
        have hpw0 : Below wz.heap.size wz wz := Below.refl _ _
        have hfin : Hid ([pc0 l.length] = lsL l ss r) := by
          show _ = _
          rw [← hR.out, ← hks, hkl2, lsA_end (by rw [lnP_end]; show ¬ bgN l l.length < _; rw [bg_end]; omega), lnP_end]
        clear hrk hk hgl hcond hR hSl hOn hBg hcl hks
        have hrn : Hid (PcsAt (wz.alloc (.cells #[.int .i64 (l.length : Nat), .int .i64 (l.length : Nat), .bool false, .bool false, .int .i64 0] 41)) (.slice (some ⟨wz.heap.size, 0, none⟩) 1 1) [pc0 l.length]) := rec_new pcL_len wz 41 [pc0 l.length]
        have hba : Hid (Below wz.heap.size wz (wz.alloc (.cells #[.int .i64 (l.length : Nat), .int .i64 (l.length : Nat), .bool false, .bool false, .int .i64 0] 41))) := hpw0.alloc (Nat.le_refl _) _
        have hklh : Hid (k = l.length) := hkl2
        clear hkl2 hpw0
        go_wp2_with fail
        go_loopw [7, 8] (fun i v wr => i = .int .i64 (k : Nat) ∧ v = .slice none 0 0 ∧ wr = wz) (fun _ _ _ => 0)
        case atStart => exact ⟨rfl, rfl, rfl⟩
        case round =>
          obtain ⟨rfl, rfl, hwe⟩ := hrel
          subst wr
          go_wp2_with fail
          go_ret
          refine hEnd.out _ _ ?_ hba.out
          rw [← hfin.out]
          exact hrn.out
end Go.Proofs.YtnnlfeimebiboaaGreatDoor

namespace Go.Proofs.YtnnlfeimebiboaaGreatDoor
open Go.RowKit Go.Shelf

set_option maxRecDepth 100000 in
set_option maxHeartbeats 4000000 in
theorem rbreak_any (v vs : Value) (l : List It) (ss : List Sl) (r : Sl) (hl : ss.length ≤ 9223372036854775807) (w : World) (hS : ItsAt w v l) (hV : SlsAt w vs ss) :
    Calls Tryz.prog 9 #[v, vs, .agg (slL r).toArray] w (BrEnd l ss r w) := by
  obtain ⟨a, cap, rfl, -⟩ := hS.ex
  obtain ⟨a2, cap2, rfl, -⟩ := hV.ex
  have hB := (Below.refl w.heap.size w).alloc (Nat.le_refl _) (.cells #[.int .i64 r.x, .int .i64 r.w] 25)
  have hS1 := hS.below hB (Nat.le_refl _)
  have hV1 := hV.below hB (Nat.le_refl _)
  have c0 : (w.alloc (.cells #[.int .i64 r.x, .int .i64 r.w] 25)).cell? ⟨w.heap.size, 0, none⟩ = some (.int .i64 r.x) := by rw [Lib.cell_of_heap (World.alloc_heap_new w _)]; rfl
  have c1 : (w.alloc (.cells #[.int .i64 r.x, .int .i64 r.w] 25)).cell? ⟨w.heap.size, 1, none⟩ = some (.int .i64 r.w) := by rw [Lib.cell_of_heap (World.alloc_heap_new w _)]; rfl
  have hlt : w.heap.size < (w.alloc (.cells #[.int .i64 r.x, .int .i64 r.w] 25)).heap.size := by simp
  have hBh : Hid (Below w.heap.size w (w.alloc (.cells #[.int .i64 r.x, .int .i64 r.w] 25))) := hB
  show Calls Tryz.prog 9 #[.slice a l.length cap, .slice a2 ss.length cap2, .agg #[.int .i64 r.x, .int .i64 r.w]] w _
  generalize hwz : (w.alloc (.cells #[.int .i64 r.x, .int .i64 r.w] 25)) = wz at *
  have hcl : Hid (∀ W, Below wz.heap.size wz W → W.cell? ⟨w.heap.size, 0, none⟩ = some (.int .i64 r.x) ∧ W.cell? ⟨w.heap.size, 1, none⟩ = some (.int .i64 r.w)) := fun W hW => ⟨(hW.cell hlt).trans c0, (hW.cell hlt).trans c1⟩
  have hC : Hid (Calls Tryz.prog 26 #[.slice a l.length cap] wz fun e w' => e = .returned (.int .i64 (ckL l)) ∧ Below wz.heap.size wz w') := richeck_any _ l _ hS1
  have hF : Hid (∀ W, Below wz.heap.size wz W → Calls Tryz.prog 12 #[.slice a2 ss.length cap2, .agg #[.int .i64 r.x, .int .i64 r.w]] W fun e w' => e = .returned (.int .i64 (ckS ss r)) ∧ Below W.heap.size W w') := fun W hW => rfcheck_any _ ss r hl W (hV1.below hW (Nat.le_refl _))
  have hE : Hid (ckL l = 0 → ckS ss r = 0 → ∀ W, Below wz.heap.size wz W → Calls Tryz.prog 27 #[.slice a l.length cap, .slice a2 ss.length cap2, .agg #[.int .i64 r.x, .int .i64 r.w]] W fun e w' => (∃ v', e = .returned v' ∧ PcsAt w' v' (lsL l ss r)) ∧ Below W.heap.size W w') := fun h1 h2 W hW => rlines_any _ _ l ss r h1 h2 W (hS1.below hW (Nat.le_refl _)) (hV1.below hW (Nat.le_refl _))
  have hbr : Hid (brE l ss r = if ckL l ≠ 0 then ckL l else ckS ss r) := rfl
  have hEnd : Hid (∀ v W, (brE l ss r ≠ 0 ∧ v = .slice none 0 0) ∨ (brE l ss r = 0 ∧ PcsAt W v (lsL l ss r)) → Below w.heap.size w W → BrEnd l ss r w (.returned (.tuple #[v, .int .i64 (brE l ss r)])) W) := fun v W h1 h2 => ⟨⟨v, rfl, h1⟩, h2⟩
  clear hS hV hS1 hV1 c0 c1 hB hlt
  generalize lsL l ss r = R at *
  generalize brE l ss r = br at *
  generalize ckL l = k1 at *
  generalize ckS ss r = k2 at *
  by_cases h1 : k1 = 0
  · have q1 : (k1 == 0) = true := by rw [h1]; rfl
    have hbr2 : br = k2 := by rw [hbr.out, if_neg (by simpa using h1)]
    subst hbr2
    by_cases h2 : br = 0
    · have hE2 : Hid (∀ W, Below wz.heap.size wz W → Calls Tryz.prog 27 #[.slice a l.length cap, .slice a2 ss.length cap2, .agg #[.int .i64 r.x, .int .i64 r.w]] W fun e w' => (∃ v', e = .returned v' ∧ PcsAt w' v' R) ∧ Below W.heap.size W w') := hE.out h1 h2
      have q2 : (br != 0) = false := by rw [h2]; rfl
      have hEnd2 : Hid (∀ v W, PcsAt W v R → Below w.heap.size w W → BrEnd l ss r w (.returned (.tuple #[v, .int .i64 0])) W) := fun v W k1 k2 => by
        have := hEnd.out v W (.inr ⟨h2, k1⟩) k2
        rwa [h2] at this
      clear hE hbr hEnd h1 h2
      go_enter Tryz.func9, Tryz.ntmps9
      go_wp2_with (first | (go_at_call 26; refine hC.out.mono ?_; rintro e w1 ⟨rfl, hb1⟩; obtain ⟨x1, x2⟩ := hcl.out w1 hb1) | (go_at_call 12; refine (hF.out w1 hb1).mono ?_; rintro e w2 ⟨rfl, hb2⟩; have hb12 := hb1.trans (hb2.mono hb1.size); obtain ⟨y1, y2⟩ := hcl.out w2 hb12) | (go_at_call 27; refine (hE2.out w2 hb12).mono ?_; rintro e w3 ⟨⟨v3, rfl, hv3⟩, hb3⟩; have hb13 := hb12.trans (hb3.mono hb12.size); have hv3h : Hid (PcsAt w3 v3 R) := hv3; obtain ⟨va, vc, rfl, -⟩ := hv3.ex; clear hv3))
      go_ret2
      exact hEnd2.out _ _ hv3h.out (hBh.out.trans (hb13.mono hBh.out.size))
    · have q2 : (br != 0) = true := by simpa using h2
      have hEnd2 : Hid (∀ W, Below w.heap.size w W → BrEnd l ss r w (.returned (.tuple #[.slice none 0 0, .int .i64 br])) W) := fun W k2 => hEnd.out _ W (.inl ⟨h2, rfl⟩) k2
      clear hE hbr hEnd h1 h2
      go_enter Tryz.func9, Tryz.ntmps9
      go_wp2_with (first | (go_at_call 26; refine hC.out.mono ?_; rintro e w1 ⟨rfl, hb1⟩; obtain ⟨x1, x2⟩ := hcl.out w1 hb1) | (go_at_call 12; refine (hF.out w1 hb1).mono ?_; rintro e w2 ⟨rfl, hb2⟩; have hb12 := hb1.trans (hb2.mono hb1.size)))
      go_ret2
      exact hEnd2.out _ (hBh.out.trans (hb12.mono hBh.out.size))
  · have q1 : (k1 == 0) = false := by simpa using h1
    have q1' : (k1 != 0) = true := by simpa using h1
    have hbr2 : br = k1 := by rw [hbr.out, if_pos h1]
    subst hbr2
    have hEnd2 : Hid (∀ W, Below w.heap.size w W → BrEnd l ss r w (.returned (.tuple #[.slice none 0 0, .int .i64 br])) W) := fun W k2 => hEnd.out _ W (.inl ⟨h1, rfl⟩) k2
    clear hE hbr hEnd h1 hF
    go_enter Tryz.func9, Tryz.ntmps9
    go_wp2_with (go_at_call 26; refine hC.out.mono ?_; rintro e w1 ⟨rfl, hb1⟩)
    go_ret2
    exact hEnd2.out _ (hBh.out.trans (hb1.mono hBh.out.size))
end Go.Proofs.YtnnlfeimebiboaaGreatDoor
