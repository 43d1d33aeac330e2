/-
  What is proved here: what checkTexts of section answers.
-/
import Derived.Test.YtglgapmjhmeonaaWalkD
import Derived.Lib.ConvBytes
namespace Go.Proofs.Ytglgapmjhmeonaa
open Go.RowKit Go.Shelf

theorem src_of {W : World} {B : Nat} {s : Sec} (h : SB W B s) : SrcAt W (.slice (some ⟨B, 11, none⟩) 3 3) [s.h0, s.h1, s.h2] ∧ SrcAt W (.slice (some ⟨B, 14, none⟩) 3 3) [s.f0, s.f1, s.f2] := by
  refine ⟨⟨B, 11, 3, rfl, h.lt, fun j hj => ?_⟩, ⟨B, 14, 3, rfl, h.lt, fun j hj => ?_⟩⟩
  · obtain rfl | rfl | rfl : j = 0 ∨ j = 1 ∨ j = 2 := by simp at hj; omega
    · exact h.cell rfl
    · exact h.cell rfl
    · exact h.cell rfl
  · obtain rfl | rfl | rfl : j = 0 ∨ j = 1 ∨ j = 2 := by simp at hj; omega
    · exact h.cell rfl
    · exact h.cell rfl
    · exact h.cell rfl
theorem lists_of {W : World} {B : Nat} {s : Sec} (h : SB (W.alloc (Obj.cells #[.slice (some ⟨B, 11, none⟩) 3 3, .slice (some ⟨B, 14, none⟩) 3 3] 60)) B s) : ListsAt (W.alloc (Obj.cells #[.slice (some ⟨B, 11, none⟩) 3 3, .slice (some ⟨B, 14, none⟩) 3 3] 60)) (.slice (some ⟨W.heap.size, 0, none⟩) 2 2) [[s.h0, s.h1, s.h2], [s.f0, s.f1, s.f2]] := by
  have hn := heap_new W (Obj.cells #[.slice (some ⟨B, 11, none⟩) 3 3, .slice (some ⟨B, 14, none⟩) 3 3] 60)
  refine ⟨W.heap.size, 2, rfl, (Array.getElem?_eq_some_iff.1 hn).1, fun i hi => ?_⟩
  obtain rfl | rfl : i = 0 ∨ i = 1 := by simp at hi; omega
  · exact ⟨_, by rw [Lib.cell_of_heap hn]; rfl, (src_of h).1⟩
  · exact ⟨_, by rw [Lib.cell_of_heap hn]; rfl, (src_of h).2⟩
def fr33 (v0 v1 v2 v3 v4 v5 v6 v7 v8 v9 v10 v11 v12 v13 v14 v15 v16 v17 v18 v19 v20 v21 v22 v23 v24 v25 v26 v27 v28 v29 v30 v31 v32 v33 v34 v35 v36 v37 v38 v39 v40 v41 v42 v43 : Value) : Act := { tmps := #[v0, v1, v2, v3, v4, v5, v6, v7, v8, v9, v10, v11, v12, v13, v14, v15, v16, v17, v18, v19, v20, v21, v22, v23, v24, v25, v26, v27, v28, v29, v30, v31, v32, v33, v34, v35, v36, v37, v38, v39, v40, v41, v42, v43], defers := [] }
def ops33 (ps : String) : Array Oper := #[{ dst := some 10, op := Op.fieldAddr 24 (Operand.tmp 1) 11, type := 0, pos := ps, after := #[], guard := none }, { dst := some 11, op := Op.slice 22 (Operand.tmp 10) none none none, type := 60, pos := ps, after := #[{ on := 0, ground := Ground.data }], guard := none }, { dst := some 12, op := Op.fieldAddr 24 (Operand.tmp 1) 12, type := 0, pos := ps, after := #[], guard := none }, { dst := some 13, op := Op.slice 22 (Operand.tmp 12) none none none, type := 60, pos := ps, after := #[{ on := 2, ground := Ground.data }], guard := none }, { dst := some 14, op := Op.buildSlice 64 2 #[(0, Operand.tmp 11), (1, Operand.tmp 13)], type := 64, pos := ps, after := #[{ on := 1, ground := Ground.data }, { on := 3, ground := Ground.data }], guard := none }, { dst := some 15, op := Op.call { callee := Callee.value (Operand.func 43), args := #[Operand.tmp 14], argTypes := #[64] }, type := 60, pos := ps, after := #[{ on := 4, ground := Ground.data }], guard := none }, { dst := some 3, op := Op.assign (Operand.tmp 15), type := 60, pos := ps, after := #[{ on := 5, ground := Ground.data }, { on := 5, ground := Ground.chain }, { on := 0, ground := Ground.phase }, { on := 1, ground := Ground.phase }, { on := 2, ground := Ground.phase }, { on := 3, ground := Ground.phase }, { on := 4, ground := Ground.phase }, { on := 5, ground := Ground.phase }], guard := none }]

set_option maxRecDepth 100000 in
set_option maxHeartbeats 1000000 in
theorem texts_region (Q : Exit → Act → World → Prop) (hQ : ∀ c x (n : Nat) v w, Q (.panic c) (x.put (some n) v) w → Q (.panic c) x w) (id : Nat) (ps : String) {v0 v2 v3 v4 v5 v6 v7 v8 v9 v10 v11 v12 v13 v14 v15 v16 v17 v18 v19 v20 v21 v22 v23 v24 v25 v26 v27 v28 v29 v30 v31 v32 v33 v34 v35 v36 v37 v38 v39 v40 v41 v42 v43 : Value}
    (B : Nat) (s : Sec) (w0 : World) (hS : SB w0 B s)
    (hq : ∀ b u w', Below w0.heap.size w0 w' → RowAt w' 0 u (texts s) → Q .normal (fr33 v0 (.pointer (some ⟨B, 0, none⟩)) v2 u v4 v5 v6 v7 v8 v9 (.pointer (some ⟨B, 11, none⟩)) (.slice (some ⟨B, 11, none⟩) 3 3) (.pointer (some ⟨B, 14, none⟩)) (.slice (some ⟨B, 14, none⟩) 3 3) (.slice (some ⟨b, 0, none⟩) 2 2) u v16 v17 v18 v19 v20 v21 v22 v23 v24 v25 v26 v27 v28 v29 v30 v31 v32 v33 v34 v35 v36 v37 v38 v39 v40 v41 v42 v43) w') :
    (Code.region id (ops33 ps) true).wp Try.prog Q (fr33 v0 (.pointer (some ⟨B, 0, none⟩)) v2 v3 v4 v5 v6 v7 v8 v9 v10 v11 v12 v13 v14 v15 v16 v17 v18 v19 v20 v21 v22 v23 v24 v25 v26 v27 v28 v29 v30 v31 v32 v33 v34 v35 v36 v37 v38 v39 v40 v41 v42 v43) w0 := by
  refine wp_region_held (S := fun w => SB w B s) (by kernel_rfl) ?_
  change wpAnyH _ _ _ _ _ 7 _ _ (World.drew w0)
  have C0 : SB w0.drew B s := hS.below (below_drew w0) hS.lt
  refine take_h (i := 0) (oi := { dst := some 10, op := Op.fieldAddr 24 (Operand.tmp 1) 11, type := 0, pos := ps, after := #[], guard := none }) (fuel := 6) (v := (.pointer (some ⟨B, 11, none⟩))) (fr33 v0 (.pointer (some ⟨B, 0, none⟩)) v2 v3 v4 v5 v6 v7 v8 v9 (.pointer (some ⟨B, 11, none⟩)) v11 v12 v13 v14 v15 v16 v17 v18 v19 v20 v21 v22 v23 v24 v25 v26 v27 v28 v29 v30 v31 v32 v33 v34 v35 v36 v37 v38 v39 v40 v41 v42 v43) (by kernel_rfl) (by kernel_rfl) (by kernel_rfl) (by kernel_rfl) (fun c x w => hQ c x _ _ w) (by kernel_rfl) (fun w hS => by unfold fr33; go_simp) (by kernel_rfl) C0 ?_
  refine take_h (i := 1) (oi := { dst := some 11, op := Op.slice 22 (Operand.tmp 10) none none none, type := 60, pos := ps, after := #[{ on := 0, ground := Ground.data }], guard := none }) (fuel := 5) (v := (.slice (some ⟨B, 11, none⟩) 3 3)) (fr33 v0 (.pointer (some ⟨B, 0, none⟩)) v2 v3 v4 v5 v6 v7 v8 v9 (.pointer (some ⟨B, 11, none⟩)) (.slice (some ⟨B, 11, none⟩) 3 3) v12 v13 v14 v15 v16 v17 v18 v19 v20 v21 v22 v23 v24 v25 v26 v27 v28 v29 v30 v31 v32 v33 v34 v35 v36 v37 v38 v39 v40 v41 v42 v43) (by kernel_rfl) (by kernel_rfl) (by kernel_rfl) (by kernel_rfl) (fun c x w => hQ c x _ _ w) (by kernel_rfl) (fun w hS => by unfold fr33; go_simp) (by kernel_rfl) C0 ?_
  refine take_h (i := 2) (oi := { dst := some 12, op := Op.fieldAddr 24 (Operand.tmp 1) 12, type := 0, pos := ps, after := #[], guard := none }) (fuel := 4) (v := (.pointer (some ⟨B, 14, none⟩))) (fr33 v0 (.pointer (some ⟨B, 0, none⟩)) v2 v3 v4 v5 v6 v7 v8 v9 (.pointer (some ⟨B, 11, none⟩)) (.slice (some ⟨B, 11, none⟩) 3 3) (.pointer (some ⟨B, 14, none⟩)) v13 v14 v15 v16 v17 v18 v19 v20 v21 v22 v23 v24 v25 v26 v27 v28 v29 v30 v31 v32 v33 v34 v35 v36 v37 v38 v39 v40 v41 v42 v43) (by kernel_rfl) (by kernel_rfl) (by kernel_rfl) (by kernel_rfl) (fun c x w => hQ c x _ _ w) (by kernel_rfl) (fun w hS => by unfold fr33; go_simp) (by kernel_rfl) C0 ?_
  refine take_h (i := 3) (oi := { dst := some 13, op := Op.slice 22 (Operand.tmp 12) none none none, type := 60, pos := ps, after := #[{ on := 2, ground := Ground.data }], guard := none }) (fuel := 3) (v := (.slice (some ⟨B, 14, none⟩) 3 3)) (fr33 v0 (.pointer (some ⟨B, 0, none⟩)) v2 v3 v4 v5 v6 v7 v8 v9 (.pointer (some ⟨B, 11, none⟩)) (.slice (some ⟨B, 11, none⟩) 3 3) (.pointer (some ⟨B, 14, none⟩)) (.slice (some ⟨B, 14, none⟩) 3 3) v14 v15 v16 v17 v18 v19 v20 v21 v22 v23 v24 v25 v26 v27 v28 v29 v30 v31 v32 v33 v34 v35 v36 v37 v38 v39 v40 v41 v42 v43) (by kernel_rfl) (by kernel_rfl) (by kernel_rfl) (by kernel_rfl) (fun c x w => hQ c x _ _ w) (by kernel_rfl) (fun w hS => by unfold fr33; go_simp) (by kernel_rfl) C0 ?_
  refine want_h (i := 4) (oi := { dst := some 14, op := Op.buildSlice 64 2 #[(0, Operand.tmp 11), (1, Operand.tmp 13)], type := 64, pos := ps, after := #[{ on := 1, ground := Ground.data }, { on := 3, ground := Ground.data }], guard := none }) (fuel := 2) (by kernel_rfl) (by kernel_rfl) (by kernel_rfl) fun K hK => ?_
  unfold fr33
  go_simp
  have D1 := (below_drew w0).alloc (Nat.le_refl w0.heap.size) (Obj.cells #[.slice (some ⟨B, 11, none⟩) 3 3, .slice (some ⟨B, 14, none⟩) 3 3] 60)
  have C1 : SB (w0.drew.alloc (Obj.cells #[.slice (some ⟨B, 11, none⟩) 3 3, .slice (some ⟨B, 14, none⟩) 3 3] 60)) B s := hS.below D1 hS.lt
  have L1 := lists_of C1
  refine hK _ _ C1 (cast_h (fr33 v0 (.pointer (some ⟨B, 0, none⟩)) v2 v3 v4 v5 v6 v7 v8 v9 (.pointer (some ⟨B, 11, none⟩)) (.slice (some ⟨B, 11, none⟩) 3 3) (.pointer (some ⟨B, 14, none⟩)) (.slice (some ⟨B, 14, none⟩) 3 3) (.slice (some ⟨w0.drew.heap.size, 0, none⟩) 2 2) v15 v16 v17 v18 v19 v20 v21 v22 v23 v24 v25 v26 v27 v28 v29 v30 v31 v32 v33 v34 v35 v36 v37 v38 v39 v40 v41 v42 v43) (by kernel_rfl) ?_)
  clear hK K
  refine want_h (i := 5) (oi := { dst := some 15, op := Op.call { callee := Callee.value (Operand.func 43), args := #[Operand.tmp 14], argTypes := #[64] }, type := 60, pos := ps, after := #[{ on := 4, ground := Ground.data }], guard := none }) (fuel := 1) (by kernel_rfl) (by kernel_rfl) (by kernel_rfl) fun K hK => ?_
  unfold fr33
  go_simp
  refine (concat_any _ [[s.h0, s.h1, s.h2], [s.f0, s.f1, s.f2]] (by simp) (by simp) _ L1).mono ?_
  rintro e w2 ⟨u, rfl, hrow, B2⟩
  have D2 := D1.trans (B2.mono D1.size)
  have C2 := C1.below B2 C1.lt
  refine hK _ _ C2 (cast_h (fr33 v0 (.pointer (some ⟨B, 0, none⟩)) v2 v3 v4 v5 v6 v7 v8 v9 (.pointer (some ⟨B, 11, none⟩)) (.slice (some ⟨B, 11, none⟩) 3 3) (.pointer (some ⟨B, 14, none⟩)) (.slice (some ⟨B, 14, none⟩) 3 3) (.slice (some ⟨w0.drew.heap.size, 0, none⟩) 2 2) u v16 v17 v18 v19 v20 v21 v22 v23 v24 v25 v26 v27 v28 v29 v30 v31 v32 v33 v34 v35 v36 v37 v38 v39 v40 v41 v42 v43) (by kernel_rfl) ?_)
  clear hK K
  refine take_h (i := 6) (oi := { dst := some 3, op := Op.assign (Operand.tmp 15), type := 60, pos := ps, after := #[{ on := 5, ground := Ground.data }, { on := 5, ground := Ground.chain }, { on := 0, ground := Ground.phase }, { on := 1, ground := Ground.phase }, { on := 2, ground := Ground.phase }, { on := 3, ground := Ground.phase }, { on := 4, ground := Ground.phase }, { on := 5, ground := Ground.phase }], guard := none }) (fuel := 0) (v := u) (fr33 v0 (.pointer (some ⟨B, 0, none⟩)) v2 u v4 v5 v6 v7 v8 v9 (.pointer (some ⟨B, 11, none⟩)) (.slice (some ⟨B, 11, none⟩) 3 3) (.pointer (some ⟨B, 14, none⟩)) (.slice (some ⟨B, 14, none⟩) 3 3) (.slice (some ⟨w0.drew.heap.size, 0, none⟩) 2 2) u v16 v17 v18 v19 v20 v21 v22 v23 v24 v25 v26 v27 v28 v29 v30 v31 v32 v33 v34 v35 v36 v37 v38 v39 v40 v41 v42 v43) (by kernel_rfl) (by kernel_rfl) (by kernel_rfl) (by kernel_rfl) (fun c x w => hQ c x _ _ w) (by kernel_rfl) (fun w _ => by kernel_rfl) (by kernel_rfl) C2 ?_
  exact wpAnyH_done (by kernel_rfl) (hq _ _ _ D2 (ownsRow_base hrow (Nat.zero_le _))) _

theorem RowAt.get {W : World} {base : Nat} {v : Value} {ts : List Str} (h : RowAt W base v ts) (h0 : 0 < ts.length) : ∃ g cap, v = .slice (some ⟨g, 0, none⟩) ts.length cap ∧ g < W.heap.size ∧ ∀ (j : Nat) (hj : j < ts.length), W.cell? ⟨g, j, none⟩ = some (.string ts[j]) := by
  rcases h.2 with ⟨_, hn⟩ | ⟨g, cap, cur, rfl, _, hg, _⟩
  · omega
  · refine ⟨g, cap, rfl, (Array.getElem?_eq_some_iff.1 hg).1, fun j hj => ?_⟩
    have := h.out.cells (g := g) rfl j (.string ts[j]) (by simp [txRow, List.getElem?_eq_getElem hj])
    rwa [addr_add0] at this

theorem conv_any (t : Str) (w : World) : ∃ b cap w1, (convert 9 62 (.string t)).run Try.prog w = .ok (.slice (some ⟨b, 0, none⟩) t.size cap) w1 ∧ Below w.heap.size w w1 ∧ b < w1.heap.size ∧ ∀ (j : Nat) (hj : j < t.size), w1.cell? ⟨b, j, none⟩ = some (.int .u8 ((t[j]'hj).toNat : Int)) := by
  refine ⟨w.heap.size, _, _, Lib.run_convert_string_bytes (P := Try.prog) w 9 62 5 t (u := .string) Try.underlying9 Try.underlying62 Try.underlying5, ?_, ?_, fun j hj => ?_⟩
  · exact ⟨rfl, rfl, rfl, by rw [Lib.bytesWorld_size]; omega, fun k hk => Lib.bytesWorld_at_old w 5 t k hk⟩
  · rw [Lib.bytesWorld_size]; omega
  · rw [Lib.bytesWorld_cell w 5 t j hj]
    have hl : j < t.data.toList.length := by simpa using hj
    rw [List.getD_eq_getElem?_getD, List.getElem?_eq_getElem hl]
    rfl

theorem bytesB_all {t : Str} (h : ∀ (k : Nat) (hk : k < t.size), mayB ((t[k]'hk).toNat : Int) = true) : bytesB t = true := by
  unfold bytesB
  refine List.all_eq_true.2 fun c hc => ?_
  obtain ⟨k, hk, rfl⟩ := List.getElem_of_mem hc
  exact h k (by simpa using hk)
theorem bytesB_no {t : Str} {k : Nat} (hk : k < t.size) (h : mayB ((t[k]'hk).toNat : Int) = false) : bytesB t = false := by
  cases hn : bytesB t with
  | false => rfl
  | true =>
    unfold bytesB at hn
    have := List.all_eq_true.1 hn (t.data.toList[k]'(by simpa using hk)) (List.getElem_mem _)
    rw [← this, ← h]; rfl

theorem text_long {s : Sec} {k : Nat} (hk : k < (texts s).length) (h : 100 < ((texts s)[k]).size) : textI s = 3 := by
  unfold textI
  rw [if_pos]
  exact List.any_eq_true.2 ⟨_, List.getElem_mem hk, by simpa using h⟩
theorem text_bytes {s : Sec} (h : ∀ (k : Nat) (hk : k < (texts s).length), ¬ 100 < ((texts s)[k]).size) : textI s = if (texts s).any (fun t => !bytesB t) then 4 else 0 := by
  unfold textI
  rw [if_neg]
  intro ha
  obtain ⟨t, ht, hs⟩ := List.any_eq_true.1 ha
  obtain ⟨k, hk, rfl⟩ := List.getElem_of_mem ht
  exact h k hk (by simpa using hs)
theorem text_no {s : Sec} (h : textI s = if (texts s).any (fun t => !bytesB t) then 4 else 0) {k : Nat} (hk : k < (texts s).length) (hb : bytesB ((texts s)[k]) = false) : textI s = 4 := by
  rw [h, if_pos]
  exact List.any_eq_true.2 ⟨_, List.getElem_mem hk, by rw [hb]; rfl⟩
theorem text_yes {s : Sec} (h : textI s = if (texts s).any (fun t => !bytesB t) then 4 else 0) (hb : ∀ (k : Nat) (hk : k < (texts s).length), bytesB ((texts s)[k]) = true) : textI s = 0 := by
  rw [h, if_neg]
  intro ha
  obtain ⟨t, ht, hs⟩ := List.any_eq_true.1 ha
  obtain ⟨k, hk, rfl⟩ := List.getElem_of_mem ht
  rw [hb k hk] at hs
  cases hs

set_option maxRecDepth 100000 in
set_option maxHeartbeats 2000000 in
theorem checkTexts_any (s : Sec) (hsm : ∀ (k : Nat) (hk : k < (texts s).length), ((texts s)[k]).size ≤ 1000000) (w : World) : Calls Try.prog 33 #[seV s] w fun e w' => e = .returned (.int .i64 (textI s)) ∧ Below w.heap.size w w' := by
  have hB := (Below.refl w.heap.size w).alloc (Nat.le_refl _) (Obj.cells (seC s) 24)
  have hP := SB.new w s
  have hsm' : Hid (∀ (k : Nat) (hk : k < (texts s).length), ((texts s)[k]).size ≤ 1000000) := hsm
  have hmay := mayStand_any
  have hlen : (texts s).length = 6 := rfl
  clear hsm
  unfold seV
  go_enter Try.func33, Try.ntmps33
  go_wp2_with fail
  refine texts_region _ (fun _ _ _ _ _ h => h) _ _ w.heap.size s _ hP ?_
  intro b0 u w1 B1 hrow
  obtain ⟨g, cap, rfl, hg, hc⟩ := hrow.get (by rw [hlen]; omega)
  have D1 := hB.trans (B1.mono hB.size)
  have hc' : Hid (∀ (j : Nat) (hj : j < (texts s).length), w1.cell? ⟨g, j, none⟩ = some (.string (texts s)[j])) := hc
  have hl' : Hid (∀ (k : Nat) (hk : k < (texts s).length), 100 < ((texts s)[k]).size → textI s = 3) := fun k hk h => text_long hk h
  have hb' : Hid ((∀ (k : Nat) (hk : k < (texts s).length), ¬ 100 < ((texts s)[k]).size) → textI s = if (texts s).any (fun t => !bytesB t) then 4 else 0) := text_bytes
  have hn' : Hid (textI s = (if (texts s).any (fun t => !bytesB t) then 4 else 0) → ∀ (k : Nat) (hk : k < (texts s).length), bytesB ((texts s)[k]) = false → textI s = 4) := fun h k hk hb => text_no h hk hb
  have hy' : Hid (textI s = (if (texts s).any (fun t => !bytesB t) then 4 else 0) → (∀ (k : Nat) (hk : k < (texts s).length), bytesB ((texts s)[k]) = true) → textI s = 0) := text_yes
  clear hc hrow hP hB
  obtain ⟨TI, hTI⟩ : ∃ x, textI s = x := ⟨_, rfl⟩
  rw [hTI] at hl' hb' hn' hy'
  have hTI' : Hid (textI s = TI) := hTI
  clear hTI
  generalize texts s = ts at *
  unfold fr33
  rw [hlen]
  go_wp2_with fail
  go_loopw [18] (fun i wr => ∃ k : Nat, k ≤ 6 ∧ i = .int .i64 k ∧ wr = w1 ∧ Hid (∀ (j : Nat) (hj : j < ts.length), j < k → ¬ 100 < (ts[j]).size)) (fun i _ => 6 - (intOf i).toNat)
  case atStart => exact ⟨0, by omega, rfl, rfl, fun j _ hj => by omega⟩
  case round =>
    obtain ⟨k, hk, rfl, hwr, hall⟩ := hrel
    subst wr
    by_cases hlt : k < 6
    · have hkl : k < ts.length := by omega
      have hck := hc'.out k hkl
      have hll := hl'.out k hkl
      by_cases h100 : 100 < (ts[k]).size
      · have h5 := hll h100
        have hsz := hsm'.out k hkl
        clear hll hall
        generalize ts[k] = t at *
        go_wp2_with fail
        go_ret
        exact ⟨by rw [hTI'.out, h5]; rfl, D1⟩
      · have hyes : Hid (∀ (j : Nat) (hj : j < ts.length), j < k + 1 → ¬ 100 < (ts[j]).size) := fun j hj hjk => by
          by_cases h : j < k
          · exact hall.out j hj h
          · obtain rfl : j = k := by omega
            exact h100
        clear hll hall
        generalize ts[k] = t at *
        go_wp2_with fail
        go_roundw
        case rel => exact ⟨k + 1, by omega, by simp, by first | rfl | trivial, hyes⟩
        case measure => simp [intOf]; omega
    · have hge : ¬ (k : Int) < 6 := by omega
      have hbb : Hid (TI = if ts.any (fun t => !bytesB t) then 4 else 0) := hb'.out fun j hj => hall.out j hj (by omega)
      have hno : Hid (∀ (k : Nat) (hk : k < ts.length), bytesB (ts[k]) = false → TI = 4) := hn'.out hbb.out
      have hye : Hid ((∀ (k : Nat) (hk : k < ts.length), bytesB (ts[k]) = true) → TI = 0) := hy'.out hbb.out
      have hsh : Hid (∀ (j : Nat) (hj : j < ts.length), ¬ 100 < (ts[j]).size) := fun j hj => hall.out j hj (by omega)
      clear hall hbb hb' hn' hy' hl' hsm'
      go_wp2_with fail
      clear hlt
      go_loopw [28] (fun i wr => ∃ k : Nat, k ≤ 6 ∧ i = .int .i64 k ∧ Below w1.heap.size w1 wr ∧ Hid (∀ (j : Nat) (hj : j < ts.length), j < k → bytesB (ts[j]) = true)) (fun i _ => 6 - (intOf i).toNat)
      case atStart => exact ⟨0, by omega, rfl, Below.refl _ _, fun j _ hj => by omega⟩
      case round =>
        obtain ⟨k, hk, rfl, hbk, hall⟩ := hrel
        by_cases hlt : k < 6
        · have hkl : k < ts.length := by omega
          have hck : wr.cell? ⟨g, k, none⟩ = some (.string ts[k]) := (hbk.cell hg).trans (hc'.out k hkl)
          have hsz := hsh.out k hkl
          have hnk : Hid (bytesB (ts[k]) = false → TI = 4) := hno.out k hkl
          have hyk : Hid (bytesB (ts[k]) = true → ∀ (j : Nat) (hj : j < ts.length), j < k + 1 → bytesB (ts[j]) = true) := fun hb j hj hjk => by
            by_cases h : j < k
            · exact hall.out j hj h
            · obtain rfl : j = k := by omega
              exact hb
          clear hall
          generalize ts[k] = t at *
          obtain ⟨bb, cc, w2, hconv, B2, hbb, hcells⟩ := conv_any t wr
          have hcells' : Hid (∀ (j : Nat) (hj : j < t.size), w2.cell? ⟨bb, j, none⟩ = some (.int .u8 ((t[j]'hj).toNat : Int))) := hcells
          have hb2 := hbk.trans (B2.mono hbk.size)
          clear hcells
          have hltI : (k : Int) < 6 := by omega
          go_wp2_with fail
          have hlt' : Hid (k < 6) := hlt
          clear hlt hkl
          go_loopw [35] (fun i wq => ∃ j : Nat, j ≤ t.size ∧ i = .int .i64 j ∧ wq = w2 ∧ Hid (∀ (n : Nat) (hn : n < t.size), n < j → mayB ((t[n]'hn).toNat : Int) = true)) (fun i _ => t.size - (intOf i).toNat)
          case atStart => exact ⟨0, by omega, rfl, rfl, fun j _ hj => by omega⟩
          case round =>
            obtain ⟨j, hj, rfl, hwr, hjall⟩ := hrel
            subst wr
            by_cases hjt : j < t.size
            · have hcj := hcells'.out j hjt
              have hj4 : Hid (mayB ((t[j]'hjt).toNat : Int) = false → TI = 4) := fun h => hnk.out (bytesB_no hjt h)
              have hj5 : Hid (mayB ((t[j]'hjt).toNat : Int) = true → ∀ (n : Nat) (hn : n < t.size), n < j + 1 → mayB ((t[n]'hn).toNat : Int) = true) := fun h n hn hnj => by
                by_cases h2 : n < j
                · exact hjall.out n hn h2
                · obtain rfl : n = j := by omega
                  exact h
              clear hjall
              generalize ((t[j]'hjt).toNat : Int) = x at *
              cases hm : mayB x
              · have h4 := hj4.out hm
                have hmx := hmay x
                rw [hm] at hmx
                go_wp2_with (go_at_call 44; refine (hmx _).mono ?_; rintro e w' ⟨rfl, hww⟩; subst w')
                go_ret
                exact ⟨by rw [hTI'.out, h4]; rfl, D1.trans (hb2.mono D1.size)⟩
              · have h5 : Hid (∀ (n : Nat) (hn : n < t.size), n < j + 1 → mayB ((t[n]'hn).toNat : Int) = true) := hj5.out hm
                have hmx := hmay x
                rw [hm] at hmx
                go_wp2_with (go_at_call 44; refine (hmx _).mono ?_; rintro e w' ⟨rfl, hww⟩; subst w')
                go_roundw
                case rel => exact ⟨j + 1, by omega, by simp, by first | rfl | trivial, h5⟩
                case measure => simp [intOf]; omega
            · have hjs : ¬ (j : Int) < t.size := by omega
              have hbt : Hid (∀ (j : Nat) (hj : j < ts.length), j < k + 1 → bytesB (ts[j]) = true) := hyk.out (bytesB_all fun n hn => hjall.out n hn (by omega))
              clear hjall
              go_wp2_with fail
              go_roundw
              case rel => exact ⟨k + 1, by have := hlt'.out; omega, by simp, hb2, hbt⟩
              case measure => have := hlt'.out; simp [intOf]; omega
        · have hge2 : ¬ (k : Int) < 6 := by omega
          have h0 : TI = 0 := hye.out fun j hj => hall.out j hj (by omega)
          clear hall
          go_wp2_with fail
          go_ret
          exact ⟨by rw [hTI'.out, h0]; rfl, D1.trans (hbk.mono D1.size)⟩
end Go.Proofs.Ytglgapmjhmeonaa
