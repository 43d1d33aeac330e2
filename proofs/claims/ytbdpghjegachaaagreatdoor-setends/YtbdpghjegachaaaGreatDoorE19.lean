/-
  What is proved here: what New of hyph answers.
  What is proved here: what Points of a hyph answers.
  What is proved here: what SameInts and Plain answer.
  What is proved here: what plain, points, bad, awake and HyphKnown answer.
  What is proved here: the places at which a word may be parted lie within it.
-/
import Derived.Test.YtbdpghjegachaaaGreatDoorE18
namespace Go.Proofs.YtbdpghjegachaaaGreatDoor.Hy
open Go.RowKit Go.Shelf
set_option maxRecDepth 100000
set_option maxHeartbeats 2000000

abbrev bs (s : ByteArray) : Bs := s.data.toList
def exE (xs : List Bs) : Ex := xs.foldl (fun E x => setV E (excW x) (excP x)) (fun _ => none)
theorem exE_snoc (xs : List Bs) (x : Bs) : exE (xs ++ [x]) = setV (exE xs) (excW x) (excP x) := by simp [exE]
def freshB : List Bs → List Bs → Bool
 | _,[] => true
 | ys,x :: xs => !(exE ys (excW x)).isSome && freshB (ys ++ [x]) xs
theorem fresh_no (xs : List Bs) : ∀ (n : Nat) (k : Nat) (h : k < xs.length),xs.length - k = n → freshB (xs.take k) (xs.drop k) = (!(exE (xs.take k) (excW xs[k])).isSome && freshB (xs.take (k + 1)) (xs.drop (k + 1))) := fun n k h _ => by
 rw [List.drop_eq_getElem_cons h,freshB,List.take_succ_eq_append_getElem h]
theorem patB_ltrs {l : Bs} (h : patB l = true) : ltrs l ≠ [] := by
 unfold patB at h
 rw [Bool.and_eq_true] at h
 have h2 := h.2
 unfold patT at h2
 rw [Bool.and_eq_true,decide_eq_true_eq] at h2
 obtain ⟨c,hc⟩ := List.exists_mem_of_length_pos h2.2
 obtain ⟨hc1,hc2⟩ := List.mem_filter.1 hc
 have hm : c ∈ l := by
  unfold trimD Lib.trimSuffix Lib.trimPrefix at hc1
  split at hc1 <;> split at hc1
  all_goals first
   | exact List.mem_of_mem_drop (List.mem_of_mem_take hc1)
   | exact List.mem_of_mem_take hc1
   | exact List.mem_of_mem_drop hc1
   | exact hc1
 have hd : dgt c = false := by
  have := smI_rng hc2
  unfold dgt
  exact dgI_no (by omega)
 intro e
 have : c ∈ ltrs l := by unfold ltrs; rw [List.mem_filter]; exact ⟨hm,by simp [hd]⟩
 rw [e] at this
 cases this
theorem patB_size {s : ByteArray} (h : patB (bs s) = true) : s.size ≤ 16 := by
 unfold patB at h
 rw [Bool.and_eq_true,decide_eq_true_eq,size_ba] at h
 exact h.1

def rootNd (hb em : Nat) : Nd := ⟨hb,1,#[.pointer (some ⟨hb,0,none⟩),.map none,.slice none 0 0,.map (some em)],208,none,.slice none 0 0⟩
def N0 (hb em : Nat) : Ns := fun L => if L = [] then some (rootNd hb em) else none
theorem hyph_new {w : World} {base hb em : Nat} (hB : Blk w hb #[.pointer (some ⟨hb,0,none⟩),.map none,.slice none 0 0,.map (some em)] 208) (hm : MapAt 9 encS w em (fun _ => none) 0) (h1 : base ≤ hb) (h2 : base ≤ em) :
  HyphAt w base hb T0 (fun _ => none) (N0 hb em) em 0 (fun _ => none) := by
 have hown : ∀ k,NOwn (N0 hb em) k → k = hb := by
  rintro k ⟨L,x,hx,hk⟩
  unfold N0 at hx
  split at hx
  ·cases hx
   rcases hk with rfl | hk | hk
   ·rfl
   ·cases hk
   ·cases hk
  ·cases hx
 have hne : hb ≠ em := fun e => by
  obtain ⟨es,cl,hmm⟩ := hm.isMap
  rw [← e,hB] at hmm; cases hmm
 refine ⟨⟨fun L => ?_,⟨rootNd hb em,if_pos rfl,rfl,rfl,rfl,rfl⟩,fun L x d hx hd => ?_,fun L L' x y hx hy hne => ?_,fun L c hL => ?_⟩,hm,(fun l v hv => by cases hv),(fun _ _ => rfl),(fun h => hne (hown _ h).symm),(fun l v g hv => by cases hv),fun k hk => ?_⟩
 ·unfold N0 T0
  by_cases e : L = [] <;> simp [e]
 ·unfold N0 at hx
  unfold T0 at hd
  by_cases e : L = []
  ·rw [if_pos e] at hx hd
   cases hx; cases hd
   refine ⟨hB,rfl,rfl,by simp [rootNd],World.ownsRow_nil _ _ _ _,by simp,fun _ c => ?_,(fun mb hm => by cases hm)⟩
   unfold kids N0
   rw [if_neg (by simp)]; rfl
  ·rw [if_neg e] at hx; cases hx
 ·unfold N0 at hx hy
  split at hx <;> split at hy
  ·rename_i e1 e2; exact absurd (e1.trans e2.symm) hne
  ·cases hy
  ·cases hx
  ·cases hx
 ·unfold T0 at hL ⊢
  rw [if_neg (by simp)]
 ·rcases hk with hk | rfl | ⟨l,v,hv,_⟩
  ·have := hown k hk; omega
  ·exact h2
  ·cases hv

def NewPost (w : World) (ps xs : List Bs) (e : Ending) (w' : World) : Prop :=
 Below w.heap.size w w' ∧ if freshB [] xs then ∃ hb N em M V,e = .returned (.tuple #[.pointer (some ⟨hb,0,none⟩),.int .i64 0]) ∧ HyphAt w' w.heap.size hb (trie ps) (exE xs) N em M V ∧ M < 10000 else e = .returned (.tuple #[.pointer none,.int .i64 7])
theorem new_good (v1 v2 : Value) (ps xs : List ByteArray) (w : World) (h1 : TxAt w v1 ps) (h2 : TxAt w v2 xs) (hp : ps.length ≤ 256) (hx : xs.length ≤ 64) (hxs : ∀ s ∈ xs,s.size ≤ 200)
  (hg1 : ps.all (fun s => patB (bs s)) = true) (hg2 : xs.all (fun s => excB (bs s)) = true) :
  Calls Tryz.prog 163 #[v1,v2] w fun e w' => NewPost w (ps.map bs) (xs.map bs) e w' := by
 have hA : Hid (Calls Tryz.prog 176 #[v1,.func (.func 177) #[] #[]] w fun e w' => e = .returned (.bool true) ∧ Below w.heap.size w w') := by
  have := allPat_any v1 ps (by omega) w h1
  rw [show ps.all (fun s => patB s.data.toList) = true from hg1] at this
  exact this
 have hB : Hid (∀ w',Below w.heap.size w w' → Calls Tryz.prog 176 #[v2,.func (.func 178) #[] #[]] w' fun e w'' => e = .returned (.bool true) ∧ Below w'.heap.size w' w'') := fun w' hb => by
  have := allExc_any v2 xs (by omega) (fun s hs => by have := hxs s hs; omega) w' (h2.below hb (Nat.le_refl _))
  rw [show xs.all (fun s => excB s.data.toList) = true from hg2] at this
  exact this
 have hgp : Hid (∀ (k : Nat) (h : k < ps.length),patB (bs (ps[k]'h)) = true) := fun k h => (List.all_eq_true.1 hg1) _ (List.getElem_mem h)
 have t1 : Hid (TxAt w v1 ps) := h1
 have t2 : Hid (TxAt w v2 xs) := h2
 obtain ⟨a1,c1,rfl,_⟩ := h1.ex
 obtain ⟨a2,c2,rfl,_⟩ := h2.ex
 have f1 : ¬ (256 : Int) < ps.length := by omega
 have f2 : ¬ (64 : Int) < xs.length := by omega
 clear hg1 hg2 h1 h2
 go_enter Tryz.func163,Tryz.ntmps163
 go_wp2_with (go_at_call 176; first | (with_reducible refine hA.out.mono ?_; rintro e w' ⟨rfl,hb⟩) | (with_reducible refine (hB.out _ hb).mono ?_; rintro e wa ⟨rfl,hb2⟩; have hmk : (Instr.makeMap 206 none).run Tryz.prog wa = .ok (.map (some wa.heap.size)) (wa.alloc (.map #[] 0)) := rfl))
 have hbw : Below w.heap.size w wa := hb.trans (hb2.mono hb.size)
 obtain ⟨em,hem⟩ : ∃ em,wa.heap.size = em := ⟨_,rfl⟩
 obtain ⟨hbk,hhb⟩ : ∃ hbk,wa.heap.size + 1 = hbk := ⟨_,rfl⟩
 obtain ⟨wm,hwm⟩ : ∃ wm,(wa.alloc (.map #[] 0)).alloc (.cells #[.pointer (some ⟨wa.heap.size + 1,0,none⟩),.map none,.slice none 0 0,.map (some wa.heap.size)] 208) = wm := ⟨_,rfl⟩
 have hws := hbw.size
 have hbm : Below w.heap.size w wm := by rw [← hwm]; exact (hbw.alloc hbw.size _).alloc (by simp; omega) _
 have hBk : Blk wm hbk #[.pointer (some ⟨hbk,0,none⟩),.map none,.slice none 0 0,.map (some em)] 208 := by
  rw [← hwm,← hhb,← hem]
  have := World.alloc_heap_new (wa.alloc (.map #[] 0)) (.cells #[.pointer (some ⟨wa.heap.size + 1,0,none⟩),.map none,.slice none 0 0,.map (some wa.heap.size)] 208)
  rwa [World.size_alloc] at this
 have hmp : MapAt 9 encS wm em (fun _ => none) 0 := by
  rw [← hwm,← hem]
  exact (MapAt.made wa).turns (Turns.alloc Noth _ _) (fun h => h)
 have hH0 : Hid (∃ V,HyphAt wm w.heap.size hbk T0 (exE ((xs.take 0).map bs)) (N0 hbk em) em 0 V) := ⟨_,hyph_new hBk hmp (by omega) (by omega)⟩
 have hemw : w.heap.size ≤ em := by omega
 have hfr0 : Hid (freshB [] (xs.map bs) = freshB ((xs.take 0).map bs) ((xs.drop 0).map bs)) := rfl
 rw [hwm,hhb,hem]
 clear hwm hBk hmp hmk hb hb2 hbw hem hhb hws hA hB
 go_loopw [36] (fun i wr => ∃ k : Nat,k ≤ xs.length ∧ i = .int .i64 k ∧ Below w.heap.size w wr ∧ Hid (∃ V,HyphAt wr w.heap.size hbk T0 (exE ((xs.take k).map bs)) (N0 hbk em) em k V) ∧ Hid (freshB [] (xs.map bs) = freshB ((xs.take k).map bs) ((xs.drop k).map bs))) (fun i _ => xs.length - (intOf i).toNat)
 case atStart => exact ⟨0,by omega,rfl,hbm,hH0,hfr0⟩
 case round =>
  obtain ⟨k,hk,rfl,hbl,hH,hfr⟩ := hrel
  by_cases hlt : k < xs.length
  ·obtain ⟨b0,o0,rfl,c0⟩ := tx_cell (t2.out.below hbl (Nat.le_refl _)) hlt
   obtain ⟨V,hHy⟩ := hH.out
   have hE := except_any hHy hbl.size (by omega) (xs[k]'hlt) (hxs _ (List.getElem_mem hlt))
   have htk : (xs.take (k + 1)).map bs = (xs.take k).map bs ++ [bs (xs[k]'hlt)] := by rw [List.take_succ_eq_append_getElem hlt,List.map_append]; rfl
   have hstep := fresh_no (xs.map bs) _ k (by simpa using hlt) rfl
   rw [← List.map_take,← List.map_drop,← List.map_take,← List.map_drop,List.getElem_map,← hfr.out] at hstep
   have hkl : (k : Int) < xs.length := by omega
   have hEh : Hid (Calls Tryz.prog 179 #[.pointer (some ⟨hbk,0,none⟩),.string (xs[k]'hlt)] wr fun e w' => e = .returned (.bool (!(exE ((xs.take k).map bs) (excW (bs (xs[k]'hlt)))).isSome)) ∧ Turns (fun k => k = em) wr w' ∧ EP wr w.heap.size hbk T0 (exE ((xs.take k).map bs)) (N0 hbk em) em k V (bs (xs[k]'hlt)) w') := hE
   have hbt : Hid (∀ w',Turns (fun k => k = em) wr w' → Below w.heap.size w w') := fun w' ht => ⟨ht.os.trans hbl.1,ht.tape.trans hbl.2,ht.output.trans hbl.3,Nat.le_trans hbl.size ht.size,fun k hk => (ht.block k (by have := hbl.size; omega) (by omega)).trans (hbl.block k hk)⟩
   cases hs : (exE ((xs.take k).map bs) (excW (bs (xs[k]'hlt)))).isSome with
   | true =>
    rw [hs] at hstep hEh
    have hnf : Hid (freshB [] (xs.map bs) = false) := hstep
    generalize xs[k]'hlt = s at *
    clear hfr hH hHy hE htk hstep hs hH0 hfr0
    go_wp2_with (go_at_call 179; refine hEh.out.mono ?_; rintro e w' ⟨rfl,hT,_⟩)
    go_ret2
    refine ⟨hbt.out _ hT,?_⟩
    rw [hnf.out]; rfl
   | false =>
    rw [hs] at hstep hEh
    have hfr2 : Hid (freshB [] (xs.map bs) = freshB ((xs.take (k + 1)).map bs) ((xs.drop (k + 1)).map bs)) := by show _ = _; rw [hstep]; rfl
    have hnext : Hid (∀ w',EP wr w.heap.size hbk T0 (exE ((xs.take k).map bs)) (N0 hbk em) em k V (bs (xs[k]'hlt)) w' → ∃ V,HyphAt w' w.heap.size hbk T0 (exE ((xs.take (k + 1)).map bs)) (N0 hbk em) em (k + 1) V) := fun w' he => by
     unfold EP at he
     rw [hs] at he
     rw [htk,exE_snoc]
     exact he
    generalize xs[k]'hlt = s at *
    clear hfr hH hHy hE htk hstep hs hH0 hfr0
    go_wp2_with (go_at_call 179; refine hEh.out.mono ?_; rintro e w' ⟨rfl,hT,hP⟩)
    go_roundw
    case rel => exact ⟨k + 1,by omega,by simp,hbt.out _ hT,hnext.out _ hP,hfr2⟩
    case measure => simp [intOf]; omega
  ·obtain rfl : k = xs.length := by omega
   have hfresh : Hid (freshB [] (xs.map bs) = true) := by
    show _ = _
    rw [hfr.out,List.drop_of_length_le (Nat.le_refl _)]; rfl
   obtain ⟨V,hHy⟩ := hH.out
   rw [List.take_length] at hHy
   have hst : Hid (∃ N M,HyphAt wr w.heap.size hbk (trie ((ps.take 0).map bs)) (exE (xs.map bs)) N em M V ∧ M ≤ 64 + 16 * 0) := ⟨_,_,hHy,hx⟩
   have hkl : ¬ (xs.length : Int) < xs.length := by omega
   clear hfr hH hHy hH0 hfr0
   go_wp2_with fail
   go_loopw [47] (fun i wr => ∃ k : Nat,k ≤ ps.length ∧ i = .int .i64 k ∧ Below w.heap.size w wr ∧ Hid (∃ N M,HyphAt wr w.heap.size hbk (trie ((ps.take k).map bs)) (exE (xs.map bs)) N em M V ∧ M ≤ 64 + 16 * k)) (fun i _ => ps.length - (intOf i).toNat)
   case atStart => exact ⟨0,by omega,rfl,hbl,hst⟩
   case round =>
    obtain ⟨k,hk,rfl,hbl,hH⟩ := hrel
    by_cases hlt : k < ps.length
    ·obtain ⟨b0,o0,rfl,c0⟩ := tx_cell (t1.out.below hbl (Nat.le_refl _)) hlt
     obtain ⟨N,M,hHy,hM⟩ := hH.out
     have hpk := hgp.out k hlt
     have hE := add_any hHy.trie (ps[k]'hlt) (patB_size hpk) (patB_ltrs hpk) (by omega)
     have htk : (ps.take (k + 1)).map bs = (ps.take k).map bs ++ [bs (ps[k]'hlt)] := by rw [List.take_succ_eq_append_getElem hlt,List.map_append]; rfl
     have hnext : Hid (∀ w',(∃ N',TrieAt w' hbk (.pointer (some ⟨hbk,0,none⟩)) (.map (some em)) (addT (trie ((ps.take k).map bs)) (bs (ps[k]'hlt))) N' (M + 16) ∧ Ext N wr N' w') → Below w.heap.size w w' ∧ ∃ N M,HyphAt w' w.heap.size hbk (trie ((ps.take (k + 1)).map bs)) (exE (xs.map bs)) N em M V ∧ M ≤ 64 + 16 * (k + 1)) := fun w' ⟨N',h1,h2⟩ => by
      refine ⟨⟨h2.1.os.trans hbl.1,h2.1.tape.trans hbl.2,h2.1.output.trans hbl.3,Nat.le_trans hbl.size h2.1.size,fun j hj => (h2.1.block j (by have := hbl.size; omega) (fun hN => by have := hHy.young j (.inl hN); omega)).trans (hbl.block j hj)⟩,N',M + 16,?_,by omega⟩
      rw [htk,trie_snoc]
      exact hHy.trie_step hbl.size h1 h2 (by omega)
     have hEh : Hid (Calls Tryz.prog 180 #[.pointer (some ⟨hbk,1,none⟩),.string (ps[k]'hlt)] wr fun r w' => r = .returned (.tuple #[]) ∧ ∃ N',TrieAt w' hbk (.pointer (some ⟨hbk,0,none⟩)) (.map (some em)) (addT (trie ((ps.take k).map bs)) (bs (ps[k]'hlt))) N' (M + 16) ∧ Ext N wr N' w') := hE
     have hkl2 : (k : Int) < ps.length := by omega
     generalize ps[k]'hlt = s at *
     clear hH hHy hE htk hst hpk
     go_wp2_with (go_at_call 180; refine hEh.out.mono ?_; rintro e w' ⟨rfl,hP⟩)
     go_roundw
     case rel => exact ⟨k + 1,by omega,by simp,(hnext.out _ hP).1,(hnext.out _ hP).2⟩
     case measure => simp [intOf]; omega
    ·obtain rfl : k = ps.length := by omega
     obtain ⟨N,M,hHy,hM⟩ := hH.out
     rw [List.take_length] at hHy
     have hfin : Hid (HyphAt wr w.heap.size hbk (trie (ps.map bs)) (exE (xs.map bs)) N em M V ∧ M < 10000) := ⟨hHy,by omega⟩
     have hkl2 : ¬ (ps.length : Int) < ps.length := by omega
     clear hH hHy hst
     go_wp2_with fail
     go_ret2
     refine ⟨hbl,?_⟩
     rw [if_pos hfresh.out]
     exact ⟨hbk,N,em,M,V,rfl,hfin.out⟩
end Go.Proofs.YtbdpghjegachaaaGreatDoor.Hy

namespace Go.Proofs.YtbdpghjegachaaaGreatDoor.Hy
open Go.RowKit Go.Shelf
set_option maxRecDepth 100000
set_option maxHeartbeats 1000000

theorem info48 : (Tryz.prog.info? 208).map (fun i => (i.size,i.bytes)) = some (4,48) := by kernel_rfl
theorem made_yes (t : Nat) (w : World) (h : w.cell? ⟨t,0,none⟩ = some (.pointer (some ⟨t,0,none⟩))) : Calls Tryz.prog 165 #[.pointer (some ⟨t,0,none⟩)] w fun e w' => e = .returned (.bool true) ∧ w' = w := by
 obtain ⟨j,hj,_⟩ := Option.map_eq_some_iff.1 info48
 have he := run_eql_ptr_same w ⟨t,0,none⟩ Tryz.underlying186 hj
 go_enter Tryz.func165,Tryz.ntmps165
 go_wp2
 go_ret
 exact ⟨rfl,rfl⟩
def low (l : Bs) : Bs := Lib.toLowerA l
def ptE (l : Bs) : Int := if wordB l then 0 else 4
def ptR (T : Tr) (E : Ex) (l : Bs) : List Int := if wordB l then (E (low l)).getD (oddL T (low l)) else []
theorem ltr_ascii {c : UInt8} (h : ltr c = true) : c.toNat < 128 := by
 unfold ltr ltI at h
 rcases Bool.or_eq_true .. ▸ h with h | h
 ·have := smI_rng h; omega
 ·have := grI_rng h; omega
theorem wordB_parts {l : Bs} (h : wordB l = true) : 1 ≤ l.length ∧ l.length ≤ 64 ∧ ∀ c ∈ l,ltr c = true := by
 unfold wordB at h
 simp only [Bool.and_eq_true,decide_eq_true_eq,List.all_eq_true] at h
 exact ⟨h.1,h.2.1,h.2.2⟩

theorem points_any {w : World} {base hb : Nat} {T : Tr} {E : Ex} {N : Ns} {em M : Nat} {V : Vs} (h : HyphAt w base hb T E N em M V) (s : ByteArray) :
  Calls Tryz.prog 147 #[.pointer (some ⟨hb,0,none⟩),.string s] w fun e w' => ∃ v,e = .returned (.tuple #[v,.int .i64 (ptE (bs s))]) ∧ Below w.heap.size w w' ∧ w'.ownsRow w.heap.size 3 1 v (ptR T E (bs s)).length (ints (ptR T E (bs s))) := by
 have hm := made_yes hb w h.cells.1
 have hW := isWord_any s w
 unfold ptE ptR
 cases hw : wordB (bs s) with
 | false =>
  rw [show wordB s.data.toList = false from hw] at hW
  simp only [Bool.false_eq_true,if_false]
  clear hw
  go_enter Tryz.func147,Tryz.ntmps147
  go_wp2_with (first | (go_at_call 165; refine hm.mono ?_; rintro e w' ⟨rfl,hww⟩; subst w') | (go_at_call 166; refine hW.mono ?_; rintro e w' ⟨rfl,hww⟩; subst w'))
  go_ret2
  exact ⟨_,rfl,Below.refl _ _,World.ownsRow_nil _ _ _ _⟩
 | true =>
  rw [show wordB s.data.toList = true from hw] at hW
  simp only [if_true]
  obtain ⟨hl1,hl2,hlt⟩ := wordB_parts hw
  have hL := Tryz.strings_ToLower_ascii s w (by have : s.size ≤ 64 := (by rw [← size_ba]; exact hl2); omega) (fun j b hj => ltr_ascii (hlt b (List.mem_of_getElem? hj)))
  have hLs : (low (bs s)).length ≤ 64 := by unfold low Lib.toLowerA; rw [List.length_map]; exact hl2
  have hL' : Calls Tryz.prog 167 #[.string s] w fun e w' => e = .returned (.string ⟨(low (bs s)).toArray⟩) ∧ Below w.heap.size w w' := hL
  obtain ⟨q,hq⟩ : ∃ q : ByteArray,(⟨(low (bs s)).toArray⟩ : ByteArray) = q := ⟨_,rfl⟩
  have hql : low (bs s) = bs q := by rw [← hq]
  rw [hq] at hL'
  rw [hql] at hLs ⊢
  have hqs : q.size ≤ 64 := by rw [← size_ba]; exact hLs
  have hlook : ∀ w',Below w.heap.size w w' → (Instr.lookup 206 (.map (some em)) (.string q) true).run Tryz.prog w' = .ok (.tuple #[(V (bs q)).getD (.slice none 0 0),.bool (V (bs q)).isSome]) w' := fun w' hb =>
   (h.below hb).emap.look_ok law9 Tryz.underlying206 (zero34 w') q (keyOf9 (by unfold maxLen; omega))
  have hc3 : ∀ w',Below w.heap.size w w' → w'.cell? ⟨hb,3,none⟩ = some (.map (some em)) := fun w' hb => (h.below hb).cells.2
  cases hv : V (bs q) with
  | none =>
   rw [hv] at hlook
   rw [h.dom _ hv]
   simp only [Option.getD_none,Option.isSome_none] at hlook ⊢
   have hO : Hid (∀ w',Below w.heap.size w w' → Calls Tryz.prog 169 #[.pointer (some ⟨hb,0,none⟩),.string q] w' fun r w'' => ∃ v,r = .returned v ∧ Below w'.heap.size w' w'' ∧ w''.ownsRow w'.heap.size 3 1 v (oddL T (bs q)).length (ints (oddL T (bs q)))) := fun w' hb => odd_any (h.below hb).trie q hqs
   have hlookh : Hid (∀ w',Below w.heap.size w w' → (Instr.lookup 206 (.map (some em)) (.string q) true).run Tryz.prog w' = .ok (.tuple #[.slice none 0 0,.bool false]) w') := hlook
   have hc3h : Hid (∀ w',Below w.heap.size w w' → w'.cell? ⟨hb,3,none⟩ = some (.map (some em))) := hc3
   generalize oddL T (bs q) = O at *
   clear hv hlook hc3 hL hw hlt hql hq hLs h
   go_enter Tryz.func147,Tryz.ntmps147
   go_wp2_with (first | (go_at_call 165; refine hm.mono ?_; rintro e w' ⟨rfl,hww⟩; subst w') | (go_at_call 166; refine hW.mono ?_; rintro e w' ⟨rfl,hww⟩; subst w') | (go_at_call 167; refine hL'.mono ?_; rintro e wl ⟨rfl,hbl⟩; have hlk := hlookh.out _ hbl; have hc3 := hc3h.out _ hbl) | (go_at_call 169; refine (hO.out _ hbl).mono ?_; rintro e wo ⟨vo,rfl,hbo,hro⟩; obtain ⟨ao,co,rfl⟩ := row_val hro))
   go_ret2
   exact ⟨_,rfl,hbl.trans (hbo.mono hbl.size),ownsRow_base hro hbl.size⟩
  | some u =>
   rw [hv] at hlook
   obtain ⟨d,hd,hdl,hrow⟩ := h.rows _ u hv
   rw [hd]
   simp only [Option.getD_some,Option.isSome_some] at hlook ⊢
   have hC : Hid (∀ w',Below w.heap.size w w' → Calls Tryz.prog 168 #[u] w' fun e w'' => ∃ v',e = .returned v' ∧ w''.ownsRow w.heap.size 3 1 v' d.length (ints d) ∧ Below w'.heap.size w' w'') := fun w' hb => by
    have hrow' := ownsRow_turns hrow (Turns.of_below hb) (fun _ _ h => h)
    rcases hrow'.2 with ⟨rfl,h0⟩ | ⟨g,cap,cur,rfl,_,hg,hcap,_,_,htk⟩
    ·have : d = [] := List.eq_nil_of_length_eq_zero h0
     subst this
     refine (Tryz.slices_Clone_int_nil 0 0 w').mono ?_
     rintro e w'' ⟨rfl,rfl⟩
     exact ⟨_,rfl,World.ownsRow_nil _ _ _ _,Below.refl _ _⟩
    ·refine (Tryz.slices_Clone_int g 0 d.length cap d w' (Nat.le_refl _) (by omega) (fun j hj => ?_)).mono ?_
     ·have := hrow'.cells (g := g) rfl j (.int .i64 d[j]) (ints_get d hj)
      rw [addr_add0] at this
      rw [Nat.zero_add,List.getD_eq_getElem?_getD,List.getElem?_eq_getElem hj]
      exact this
     ·rintro e w'' ⟨v',rfl,h1,_,h2⟩
      rw [List.take_length] at h1
      exact ⟨v',rfl,ownsRow_base h1 hb.size,h2⟩
   obtain ⟨au,cu,rfl⟩ := row_val hrow
   have hlookh : Hid (∀ w',Below w.heap.size w w' → (Instr.lookup 206 (.map (some em)) (.string q) true).run Tryz.prog w' = .ok (.tuple #[.slice au d.length cu,.bool true]) w') := hlook
   have hc3h : Hid (∀ w',Below w.heap.size w w' → w'.cell? ⟨hb,3,none⟩ = some (.map (some em))) := hc3
   clear hv hlook hc3 hL hw hlt hql hq hLs h hrow hd
   go_enter Tryz.func147,Tryz.ntmps147
   go_wp2_with (first | (go_at_call 165; refine hm.mono ?_; rintro e w' ⟨rfl,hww⟩; subst w') | (go_at_call 166; refine hW.mono ?_; rintro e w' ⟨rfl,hww⟩; subst w') | (go_at_call 167; refine hL'.mono ?_; rintro e wl ⟨rfl,hbl⟩; have hlk := hlookh.out _ hbl; have hc3 := hc3h.out _ hbl) | (go_at_call 168; refine (hC.out _ hbl).mono ?_; rintro e wo ⟨vo,rfl,hro,hbo⟩; obtain ⟨ao,co,rfl⟩ := row_val hro))
   go_ret2
   exact ⟨_,rfl,hbl.trans (hbo.mono hbl.size),hro⟩
end Go.Proofs.YtbdpghjegachaaaGreatDoor.Hy

namespace Go.Proofs.YtbdpghjegachaaaGreatDoor.Hy
open Go.RowKit Go.Shelf
set_option maxRecDepth 100000
set_option maxHeartbeats 1000000

structure Tab (w : World) : Prop where
 tab : Lib.TabIs Tryz.prog w "strings.asciiSpace" .u8 Lib.asciiSpaceTab
theorem Tab.below {w w' : World} (h : Tab w) (hb : Below w.heap.size w w') : Tab w' := by
 refine ⟨?_⟩
 have := h.tab
 unfold Lib.TabIs World.var? at this ⊢
 cases hg : Tryz.prog.globalNamed "strings.asciiSpace" with
 | none => rw [hg] at this; cases this
 | some g =>
  rw [hg] at this
  simp only [Option.bind_some] at this ⊢
  cases hw : w.heap[g]? with
  | none => rw [hw] at this; cases this
  | some o =>
   rw [hw] at this
   rw [hb.block g (Array.getElem?_eq_some_iff.1 hw).1,hw]
   exact this

abbrev IntsAt (W : World) (v : Value) (d : List Int) : Prop := RecAt 1 (fun x : Int => [Value.int .i64 x]) W v d
theorem flat_one {α β : Type} (g : α → β) : ∀ l : List α,l.flatMap (fun x => [g x]) = l.map g
 | [] => rfl
 | a :: l => by rw [List.flatMap_cons,flat_one g l]; rfl
theorem ints_of_row {W : World} {base : Nat} {v : Value} {d : List Int} (h : W.ownsRow base 3 1 v d.length (ints d)) : IntsAt W v d :=
 rec_of_row (k := 1) (f := fun x : Int => [Value.int .i64 x]) (fun _ => rfl) (base := base) (e := 3) (n := d.length) rfl (by rw [flat_one]; exact h)
theorem int_cell {W : World} {a : Option Addr} {cap n : Nat} {d : List Int} (h : IntsAt W (.slice a n cap) d) {k : Nat} (hk : k < d.length) : ∃ b o,a = some ⟨b,o,none⟩ ∧ W.cell? ⟨b,o + k,none⟩ = some (.int .i64 (d[k]'hk)) := by
 obtain ⟨a',cap',h1,h2⟩ := h.ex
 cases h1
 rcases h2 with h2 | ⟨b,o,rfl,hb,hc⟩
 ·subst h2; simp at hk
 ·have := hc k hk 0 (.int .i64 (d[k]'hk)) rfl
  exact ⟨b,o,rfl,by simpa using this⟩
def plainP : ByteArray := ⟨#[49,116,97,32,49,116,101,32,49,116,105,32,49,116,111,32,49,110,97,32,49,110,101,32,49,110,105,32,49,108,97,32,49,108,101,32,49,108,105,32,49,114,97,32,49,114,101,32,49,109,97,32,49,109,101,32,49,112,97,32,49,112,101,32,49,99,97,32,49,99,111,32,49,100,101,32,49,115,97,32,49,103,101,32,49,98,108,32,116,50,116,101,32,108,50,108,101,32,110,50,110,101,32,114,50,114,101,32,50,98,108,101,46,32,52,108,101,46,32,46,114,101,51,97,32,49,112,104,101]⟩
def plainX : ByteArray := ⟨#[116,97,45,98,108,101,32,112,114,111,45,106,101,99,116,32,104,121,45,112,104,101,110,45,97,45,116,105,111,110]⟩
def PP : List Bs := [[49,116,97],[49,116,101],[49,116,105],[49,116,111],[49,110,97],[49,110,101],[49,110,105],[49,108,97],[49,108,101],[49,108,105],[49,114,97],[49,114,101],[49,109,97],[49,109,101],[49,112,97],[49,112,101],[49,99,97],[49,99,111],[49,100,101],[49,115,97],[49,103,101],[49,98,108],[116,50,116,101],[108,50,108,101],[110,50,110,101],[114,50,114,101],[50,98,108,101,46],[52,108,101,46],[46,114,101,51,97],[49,112,104,101]]
def PX : List Bs := [[116,97,45,98,108,101],[112,114,111,45,106,101,99,116],[104,121,45,112,104,101,110,45,97,45,116,105,111,110]]
theorem fields_P : Lib.fields plainP.data.toList = PP := by decide +kernel
theorem fields_X : Lib.fields plainX.data.toList = PX := by decide +kernel
theorem ascii_P : ∀ (j : Nat) (b : UInt8),plainP.data.toList[j]? = some b → b.toNat < 128 := fun j b h =>
 (show ∀ b ∈ plainP.data.toList,b.toNat < 128 by decide +kernel) b (List.mem_of_getElem? h)
theorem ascii_X : ∀ (j : Nat) (b : UInt8),plainX.data.toList[j]? = some b → b.toNat < 128 := fun j b h =>
 (show ∀ b ∈ plainX.data.toList,b.toNat < 128 by decide +kernel) b (List.mem_of_getElem? h)
theorem good_P : PP.all patB = true := by decide +kernel
theorem good_X : PX.all excB = true := by decide +kernel
theorem fresh_X : freshB [] PX = true := by decide +kernel
theorem size_X : ∀ l ∈ PX,l.length ≤ 200 := by decide +kernel
def tx (l : List Bs) : List ByteArray := l.map (fun x => ⟨x.toArray⟩)
theorem tx_bs (l : List Bs) : (tx l).map bs = l := by
 unfold tx
 rw [List.map_map]
 conv => rhs; rw [← List.map_id l]
 rfl
theorem tx_new (w : World) (l : List Bs) : TxAt (w.alloc (.cells (l.map fun x => Value.string ⟨x.toArray⟩).toArray 9)) (.slice (some ⟨w.heap.size,0,none⟩) l.length l.length) (tx l) := by
 have h := rec_new (α := ByteArray) (k := 1) (f := fun s => [Value.string s]) (fun _ => rfl) w 9 (tx l)
 have e : (tx l).flatMap (fun s => [Value.string s]) = l.map fun x => Value.string ⟨x.toArray⟩ := by
  rw [flat_one]
  unfold tx
  rw [List.map_map]; rfl
 rw [e,show (tx l).length = l.length by simp [tx]] at h
 exact h
theorem plain_any (w : World) (ht : Tab w) : Calls Tryz.prog 145 #[] w fun e w' => Below w.heap.size w w' ∧ ∃ hb N em M V,e = .returned (.pointer (some ⟨hb,0,none⟩)) ∧ HyphAt w' w.heap.size hb (trie PP) (exE PX) N em M V := by
 have h1 : Hid (Calls Tryz.prog 164 #[.string plainP] w fun e w' => e = .returned (.slice (some ⟨w.heap.size,0,none⟩) PP.length PP.length) ∧ w' = w.alloc (.cells (PP.map fun l => Value.string ⟨l.toArray⟩).toArray 9)) := by
  have := Tryz.strings_Fields plainP w (by decide) ascii_P ht.tab
  rw [fields_P] at this; exact this
 obtain ⟨w1,hw1⟩ : ∃ w1,w.alloc (.cells (PP.map fun l => Value.string ⟨l.toArray⟩).toArray 9) = w1 := ⟨_,rfl⟩
 have hb1 : Below w.heap.size w w1 := by rw [← hw1]; exact (Below.refl _ _).alloc (Nat.le_refl _) _
 have t1 : TxAt w1 (.slice (some ⟨w.heap.size,0,none⟩) PP.length PP.length) (tx PP) := by rw [← hw1]; exact tx_new w PP
 rw [hw1] at h1
 have h2 : Hid (Calls Tryz.prog 164 #[.string plainX] w1 fun e w' => e = .returned (.slice (some ⟨w1.heap.size,0,none⟩) PX.length PX.length) ∧ w' = w1.alloc (.cells (PX.map fun l => Value.string ⟨l.toArray⟩).toArray 9)) := by
  have := Tryz.strings_Fields plainX w1 (by decide) ascii_X (ht.below hb1).tab
  rw [fields_X] at this; exact this
 obtain ⟨w2,hw2⟩ : ∃ w2,w1.alloc (.cells (PX.map fun l => Value.string ⟨l.toArray⟩).toArray 9) = w2 := ⟨_,rfl⟩
 have hb2' : Below w1.heap.size w1 w2 := by rw [← hw2]; exact (Below.refl _ _).alloc (Nat.le_refl _) _
 have hb2 : Below w.heap.size w w2 := hb1.trans (hb2'.mono hb1.size)
 have t2 : TxAt w2 (.slice (some ⟨w1.heap.size,0,none⟩) PX.length PX.length) (tx PX) := by rw [← hw2]; exact tx_new w1 PX
 rw [hw2] at h2
 have hN := new_good _ _ (tx PP) (tx PX) w2 (t1.below hb2' (Nat.le_refl _)) t2 (by decide) (by decide) (fun s hs => by
   unfold tx at hs
   obtain ⟨l,hl,rfl⟩ := List.mem_map.1 hs
   exact size_X l hl) (by
   have := good_P
   unfold tx
   rw [List.all_map]; exact this) (by
   have := good_X
   unfold tx
   rw [List.all_map]; exact this)
 rw [tx_bs,tx_bs] at hN
 have hNh : Hid (Calls Tryz.prog 163 #[.slice (some ⟨w.heap.size,0,none⟩) PP.length PP.length,.slice (some ⟨w1.heap.size,0,none⟩) PX.length PX.length] w2 fun e w' => ∃ hb N em M V,e = .returned (.tuple #[.pointer (some ⟨hb,0,none⟩),.int .i64 0]) ∧ Below w2.heap.size w2 w' ∧ HyphAt w' w2.heap.size hb (trie PP) (exE PX) N em M V) := by
  refine hN.mono ?_
  rintro e w' ⟨q1,q2⟩
  rw [if_pos fresh_X] at q2
  obtain ⟨hb,N,em,M,V,q3,q4,_⟩ := q2
  exact ⟨hb,N,em,M,V,q3,q1,q4⟩
 clear hN t1 t2 hw1 hw2
 unfold plainP at h1
 unfold plainX at h2
 generalize PP.length = np at *
 generalize PX.length = nx at *
 go_enter Tryz.func145,Tryz.ntmps145
 go_wp2_with (first | (go_at_call 164; first | (with_reducible refine h1.out.mono ?_; rintro e w' ⟨rfl,hww⟩; subst hww) | (with_reducible refine h2.out.mono ?_; rintro e w' ⟨rfl,hww⟩; subst hww)) | (go_at_call 163; refine hNh.out.mono ?_; rintro e w' ⟨hb,N,em,M,V,rfl,q1,q2⟩))
 go_ret
 exact ⟨hb2.trans (q1.mono hb2.size),hb,N,em,M,V,rfl,q2.trie,q2.emap,q2.rows,q2.dom,q2.ape,q2.apr,fun k hk => Nat.le_trans hb2.size (q2.young k hk)⟩
end Go.Proofs.YtbdpghjegachaaaGreatDoor.Hy

namespace Go.Proofs.YtbdpghjegachaaaGreatDoor.Hy
open Go.RowKit Go.Shelf

def oddV (ps : List Bs) (l : Bs) : List Int := ((List.range (l.length - 2)).filter (fun j => decide (2 ≤ j) && decide (valI ps (dot l) (j + 1) % 2 = 1))).map (fun j : Nat => (j : Int))
theorem oddL_val {ps : List Bs} (hp : ∀ p ∈ ps,ltrs p ≠ []) (l : Bs) : oddL (trie ps) l = oddV ps l := by
 unfold oddL oddV oddTo
 congr 1
 apply List.filter_congr
 intro j _
 rw [mats_is hp,Int.tmod_eq_emod_of_nonneg (valI_nonneg _ _ _)]
def ptV (ps xs : List Bs) (l : Bs) : List Int := if wordB l then (exE xs (low l)).getD (oddV ps (low l)) else []
theorem ptR_val {ps : List Bs} (hp : ps.all patB = true) (xs : List Bs) (l : Bs) : ptR (trie ps) (exE xs) l = ptV ps xs l := by
 unfold ptR ptV
 rw [oddL_val (fun p h => patB_ltrs (List.all_eq_true.1 hp p h))]

end Go.Proofs.YtbdpghjegachaaaGreatDoor.Hy

namespace Go.Proofs.YtbdpghjegachaaaGreatDoor.Hy
open Go.RowKit Go.Shelf

theorem exE_some {u : Bs} {d : List Int} : ∀ (n : Nat) (xs : List Bs),xs.length = n → exE xs u = some d → ∃ x ∈ xs,excW x = u ∧ d = excP x
 | 0,xs,hn,h => by
  obtain rfl : xs = [] := List.eq_nil_of_length_eq_zero hn
  cases h
 | n + 1, xs, hn, h => by
  have hne : xs ≠ [] := by intro e; subst e; simp at hn
  obtain ⟨ys,x,rfl⟩ : ∃ ys x,xs = ys ++ [x] := ⟨xs.dropLast,xs.getLast hne,(List.dropLast_concat_getLast hne).symm⟩
  rw [exE_snoc] at h
  unfold setV at h
  by_cases e : u = excW x
  ·rw [if_pos e] at h
   cases h
   exact ⟨x,by simp,e.symm,rfl⟩
  ·rw [if_neg e] at h
   obtain ⟨y,h1,h2⟩ := exE_some n ys (by simpa using hn) h
   exact ⟨y,by simp [h1],h2⟩
theorem exc_in : ∀ x ∈ PX,∀ y ∈ excP x,0 ≤ y ∧ y < (excW x).length := by decide +kernel
theorem exc_few : ∀ x ∈ PX,(excP x).length ≤ 64 := by decide +kernel
theorem low_len (l : Bs) : (low l).length = l.length := by simp [low,Lib.toLowerA]
theorem pt_in {l : Bs} {x : Int} (h : x ∈ ptV PP PX l) : 0 ≤ x ∧ x < l.length := by
 unfold ptV at h
 cases hw : wordB l with
 | false => rw [hw] at h; simp at h
 | true =>
  rw [hw] at h
  simp only [if_true] at h
  cases he : exE PX (low l) with
  | some d =>
   rw [he] at h
   obtain ⟨y,h1,h2,rfl⟩ := exE_some _ PX rfl he
   have := exc_in y h1 x h
   rw [h2,low_len] at this
   exact this
  | none =>
   rw [he] at h
   simp only [Option.getD_none] at h
   unfold oddV at h
   obtain ⟨j,hj,rfl⟩ := List.mem_map.1 h
   have := List.mem_range.1 (List.mem_filter.1 hj).1
   rw [low_len] at this
   omega
theorem pt_few (l : Bs) : (ptV PP PX l).length ≤ 64 := by
 unfold ptV
 cases hw : wordB l with
 | false => simp
 | true =>
  obtain ⟨_,h2,_⟩ := wordB_parts hw
  simp only [if_true]
  cases he : exE PX (low l) with
  | some d =>
   obtain ⟨y,h1,_,rfl⟩ := exE_some _ PX rfl he
   exact exc_few y h1
  | none =>
   simp only [Option.getD_none]
   unfold oddV
   rw [List.length_map]
   have h4 := List.length_filter_le (fun j => decide (2 ≤ j) && decide (valI PP (dot (low l)) (j + 1) % 2 = 1)) (List.range ((low l).length - 2))
   rw [List.length_range,low_len] at h4
   rw [low_len]
   omega
end Go.Proofs.YtbdpghjegachaaaGreatDoor.Hy
