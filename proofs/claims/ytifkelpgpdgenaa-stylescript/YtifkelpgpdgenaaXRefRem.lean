/-
  What is proved here: what the document's own Remove answers (for StyleScript).
-/
import Derived.Test.YtifkelpgpdgenaaXRemReg
import Derived.Test.YtifkelpgpdgenaaXRefH
namespace Go.Proofs.Ytifkelpgpdgenaa
open Go.RowKit Go.Shelf

variable {X : Nat → Prop}

/-- What the document's own Remove answers, and what is there behind it. -/
def rremPost (X : Nat → Prop) (w : World) (g : Nat) (T : Stys) (name : Str) (e : Ending) (w' : World) : Prop :=
  e = .returned (.int .i64 (remE (shOf T) name)) ∧ Only g w w' ∧ ∃ T', RefAt X w' g T' ∧ SortedT T' ∧ (remE (shOf T) name ≠ 0 → T' = T) ∧ (remE (shOf T) name = 0 → shOf T' = del (shOf T) name ∧ T'.length + 1 = T.length)
theorem rremPost_no {w : World} {g : Nat} {T : Stys} {name : Str} {e : Int} (hs : SortedT T) (h : RefAt X w g T) (hd : remE (shOf T) name = e) (he : e ≠ 0) : rremPost X w g T name (.returned (.int .i64 e)) w :=
  ⟨by rw [hd], only_of_below (Below.refl _ _), T, h, hs, fun _ => rfl, fun h0 => absurd (hd ▸ h0) he⟩

theorem used_iff {T : Stys} (hs : SortedT T) (name : Str) : Used (shOf T) name ↔ ∃ x ∈ T, x.2.1 = name := by
  constructor
  · rintro ⟨s, L, h⟩
    exact ⟨_, (shOf_iff hs).1 h, rfl⟩
  · rintro ⟨x, hx, rfl⟩
    exact ⟨x.1, x.2.2, (shOf_iff hs).2 hx⟩
theorem mem_cut {T : Stys} (hs : SortedT T) {i : Nat} (hi : i < T.length) (z : Str × Sty) : z ∈ T.take i ++ T.drop (i + 1) ↔ z ∈ T ∧ z.1 ≠ T[i].1 := by
  have hT : T = T.take i ++ (T[i] :: T.drop (i + 1)) := by simp
  have hs2 : SortedT (T.take i ++ (T[i] :: T.drop (i + 1))) := hT ▸ hs
  obtain ⟨_, h2, h3⟩ := List.pairwise_append.1 hs2
  obtain ⟨h4, _⟩ := List.pairwise_cons.1 h2
  constructor
  · intro hz
    rcases List.mem_append.1 hz with hz | hz
    · exact ⟨List.mem_of_mem_take hz, ltS_ne (h3 _ hz _ List.mem_cons_self)⟩
    · exact ⟨List.mem_of_mem_drop hz, fun e => ltS_ne (h4 _ hz) e.symm⟩
  · rintro ⟨hz, hne⟩
    rw [hT] at hz
    rcases List.mem_append.1 hz with hz | hz
    · exact List.mem_append.2 (.inl hz)
    · rcases List.mem_cons.1 hz with rfl | hz
      · exact absurd rfl hne
      · exact List.mem_append.2 (.inr hz)
theorem sorted_cut {T : Stys} (hs : SortedT T) (i : Nat) : SortedT (T.take i ++ T.drop (i + 1)) := by
  rw [← List.eraseIdx_eq_take_drop_succ]
  exact sorted_erase hs i
theorem shOf_cut {T : Stys} (hs : SortedT T) {i : Nat} (hi : i < T.length) : shOf (T.take i ++ T.drop (i + 1)) = del (shOf T) T[i].1 := by
  funext s
  apply Option.ext
  intro y
  rw [shOf_iff (sorted_cut hs i), mem_cut hs hi]
  by_cases e : s = T[i].1
  · subst e
    rw [del_same]
    constructor
    · rintro ⟨_, h⟩; exact absurd rfl h
    · intro h; cases h
  · rw [del_other _ e, shOf_iff hs]
    exact ⟨fun h => h.1, fun h => ⟨h, e⟩⟩

theorem srcs_take {W : World} {a : Addr} {c n : Nat} {R : List Ent} (h : Srcs W 3 (.slice (some a) n c) n (stRow R)) (hn : n = R.length) {p : Nat} (hp : p ≤ n) : Srcs W 3 (.slice (some a) p c) p (stRow (R.take p)) := by
  have hlp : (R.take p).length = p := by rw [List.length_take]; omega
  refine ⟨by rw [stRow_length, hlp], stRow_one _, .inr ⟨a, c, rfl, fun j u hu => ?_⟩⟩
  obtain ⟨_, _, ⟨_, _, hx⟩ | ⟨a', c', he, hc⟩⟩ := h
  · cases hx
  · cases he
    refine hc j u ?_
    have hR : R = R.take p ++ R.drop p := by simp
    rw [hR, stRow_append, List.getElem?_append_left (List.getElem?_eq_some_iff.1 hu).1]
    exact hu
theorem srcs_drop {W : World} {b o c n : Nat} {R : List Ent} (h : Srcs W 3 (.slice (some ⟨b, o, none⟩) n c) n (stRow R)) (hn : n = R.length) {q : Nat} (hq : q ≤ n) (c' : Nat) : Srcs W 3 (.slice (some ⟨b, o + q * 3, none⟩) (n - q) c') (n - q) (stRow (R.drop q)) := by
  have hlp : (R.drop q).length = n - q := by rw [List.length_drop]; omega
  refine ⟨by rw [stRow_length, hlp], stRow_one _, .inr ⟨_, _, rfl, fun j u hu => ?_⟩⟩
  obtain ⟨_, _, ⟨_, _, hx⟩ | ⟨a', c', he, hc⟩⟩ := h
  · cases hx
  · cases he
    have hR : R = R.take q ++ R.drop q := by simp
    have hlt : (stRow (R.take q)).length = q * 3 := by rw [stRow_length, List.length_take]; congr 1; omega
    have := hc (q * 3 + j) u (by
      rw [hR, stRow_append, List.getElem?_append_right (by omega), hlt]
      rw [show q * 3 + j - q * 3 = j by omega]; exact hu)
    rw [addr_add] at this ⊢
    rw [← this]; congr 2; omega
theorem srcs_drop0 {W : World} {a : Addr} {R : List Ent} {q : Nat} (hq : R.length ≤ q) : Srcs W 3 (.slice (some a) 0 0) 0 (stRow (R.drop q)) := by
  rw [List.drop_eq_nil_of_le hq]
  exact ⟨rfl, fun u hu => (by simp [stRow] at hu), .inr ⟨a, 0, rfl, fun j u hu => (by simp [stRow] at hu)⟩⟩

set_option maxRecDepth 100000 in
set_option maxHeartbeats 4000000 in
theorem refRemove_any (g : Nat) (T : Stys) (hsT : SortedT T) (hT : T.length ≤ 64) (name : Str) (w : World) (h : RefAt X w g T) (hXL : XL X w) :
    Calls Try.prog 26 #[.pointer (some ⟨g, 0, none⟩), .string name] w (rremPost X w g T name) := by
  cases hx : shOf T name with
  | none =>
    have hd : remE (shOf T) name = 6 := by unfold remE; rw [if_pos hx]
    have hat := refAt_not g T name w h hx
    have hfin := rremPost_no hsT h hd (by decide)
    clear h
    go_enter Try.func26, Try.ntmps26
    go_wp2_with (go_at_call 44; refine hat.mono ?_; rintro e w' ⟨rfl, hww⟩; subst w')
    go_ret
    exact hfin
  | some y =>
    have hsome : (shOf T name).isSome = true := by rw [hx]; rfl
    obtain ⟨i, hi, h1, h2, _⟩ := shOf_first hsome
    have hat := refAt_there g T name w h i hi h1 h2
    obtain ⟨v, hv, hS⟩ := h.ex
    obtain ⟨R, hRT, hok, hsrc⟩ := hS.row
    have hlenR : R.length = T.length := by rw [← hRT, List.length_map]
    obtain ⟨u0, hobj⟩ := h.obj
    have hfit := hS.fit
    obtain ⟨a, cap, rfl, h3⟩ := hS.ex
    rcases h3 with h3 | ⟨b, o, rfl, hbl, _, hc⟩
    · rw [h3] at hi; simp at hi
    have hkc : T.length ≤ cap := hfit _ _ _ rfl
    have hg := h.lt
    have hN : name = T[i].1 := h1.symm
    replace hX' : Hid (XL X w) := hXL
    have hR' : Hid (RefAt X w g T) := h
    have hrow : Hid _ := And.intro hRT (And.intro hok (And.intro hsrc hlenR))
    have hi0 : ¬ (i : Int) < 0 := by omega
    clear h hS hRT hok hsrc hlenR hfit h2 hsome h1
    replace hobj : Hid _ := hobj
    replace hc : Hid _ := hc
    replace hN : Hid _ := hN
    go_enter Try.func26, Try.ntmps26
    go_wp2_with (go_at_call 44; refine hat.mono ?_; rintro e w' ⟨rfl, hww⟩; subst w')
    go_loopw [6] (fun z wr => ∃ k : Nat, k ≤ T.length ∧ z = .int .i64 k ∧ wr = w ∧ Hid (∀ (j : Nat) (hj : j < T.length), j < k → T[j].2.1 ≠ name)) (fun z _ => T.length - (intOf z).toNat)
    case atStart => exact ⟨0, by omega, rfl, rfl, fun j _ hj => by omega⟩
    case round =>
      obtain ⟨k, hk, rfl, rfl, hall⟩ := hrel
      by_cases hlt : k < T.length
      · obtain ⟨_, c1, _⟩ := hc.out k hlt
        by_cases he : T[k].2.1 = name
        · have hd : remE (shOf T) name = 9 := by
            unfold remE
            rw [if_neg (by rw [hx]; simp), if_pos ((used_iff hsT name).2 ⟨T[k], List.getElem_mem hlt, he⟩)]
          have hfin := rremPost_no hsT hR'.out hd (by decide)
          rw [he] at c1
          clear hall
          go_wp2_with fail
          go_ret
          exact hfin
        · have hmore : Hid (∀ (j : Nat) (hj : j < T.length), j < k + 1 → T[j].2.1 ≠ name) := fun j hj hjk => by
            by_cases hjj : j < k
            · exact hall.out j hj hjj
            · obtain rfl : j = k := by omega
              exact he
          have hq := strEq_no he
          generalize T[k].2.1 = u at *
          clear hall
          go_wp2_with fail
          go_roundw
          case rel => exact ⟨k + 1, by omega, by simp, trivial, hmore⟩
          case measure => simp [intOf]; omega
      · obtain rfl : k = T.length := by omega
        have hd : remE (shOf T) name = 0 := by
          unfold remE
          rw [if_neg (by rw [hx]; simp), if_neg]
          rw [used_iff hsT]
          rintro ⟨x, hxm, hxe⟩
          obtain ⟨j, hj, rfl⟩ := List.mem_iff_getElem.1 hxm
          exact hall.out j hj hj hxe
        clear hall
        go_wp2_with fail
        obtain ⟨hRT, hok, hsrc, hlenR⟩ := hrow.out
        obtain ⟨vB, hvB⟩ : ∃ vB, (cap = i + 1 ∧ vB = Value.slice (some ⟨b, o, none⟩) 0 0) ∨ (cap ≠ i + 1 ∧ vB = .slice (some ⟨b, o + (i + 1) * 3, none⟩) (T.length - (i + 1)) (cap - (i + 1))) := by
          by_cases hcc : cap = i + 1
          · exact ⟨_, .inl ⟨hcc, rfl⟩⟩
          · exact ⟨_, .inr ⟨hcc, rfl⟩⟩
        refine rem_region _ (fun _ _ _ _ _ h => h) _ _ b o T.length cap g i (i + 1) (stRow (R.take i)) (stRow (R.drop (i + 1))) rfl (by omega) hT hkc _ vB hvB (fun W hW => (hW.cell hg).trans hv) (fun W hW => Lib.frozen_of_heap ((hW.block g hg).trans hobj.out) 0) (fun W hW => srcs_take (by have := hsrc W hW; rwa [hlenR] at this) hlenR.symm (by omega)) (fun W hW => ?_) ?_
        · have := hsrc W hW
          rw [hlenR] at this
          rcases hvB with ⟨hcc, rfl⟩ | ⟨hcc, rfl⟩
          · rw [show T.length - (i + 1) = 0 by omega]
            exact srcs_drop0 (by omega)
          · exact srcs_drop this hlenR.symm (by omega) _
        · intro s32 s39 u W' hown hW
          have hcut : (R.take i ++ R.drop (i + 1)).map (·.1) = T.take i ++ T.drop (i + 1) := by rw [List.map_append, List.map_take, List.map_drop, hRT]
          have hl2 : (R.take i ++ R.drop (i + 1)).length = i + (T.length - (i + 1)) := by rw [List.length_append, List.length_take, List.length_drop]; omega
          rw [← stRow_append, ← hl2] at hown
          have hok2 : EntsOk X W' (R.take i ++ R.drop (i + 1)) := EntsOk.append (fun e he => EntsOk.below hok hW e (List.mem_of_mem_take he)) (fun e he => EntsOk.below hok hW e (List.mem_of_mem_drop he))
          obtain ⟨r1, r2⟩ := hR'.out.store hW hown (Nat.le_refl _) (by omega) hX'.out hok2
          rw [hcut] at r1
          have hfin : rremPost X wr g T name (.returned (.int .i64 0)) (W'.setCell ⟨g, 0, none⟩ u) := ⟨by rw [hd], r2, _, r1, sorted_cut hsT i, fun h0 => absurd hd h0, fun _ => ⟨by rw [shOf_cut hsT hi, hN.out], by rw [List.length_append, List.length_take, List.length_drop]; omega⟩⟩
          replace hfin : Hid _ := hfin
          clear hown r1 r2 hok2 hvB
          unfold fr26
          go_wp2_with fail
          go_ret
          exact hfin.out
end Go.Proofs.Ytifkelpgpdgenaa
