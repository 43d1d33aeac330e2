/-
  What is proved here: what add of a node does: a pattern is put into the trie.
  What is proved here: what match of a node does: the digits of patterns are laid.
  What is proved here: what at of digits and odd of a hyph answer.
-/
import Derived.Test.YtbdpghjegachaaaGreatDoorE13
namespace Go.Proofs.YtbdpghjegachaaaGreatDoor.Hy
open Go.RowKit Go.Shelf
set_option maxRecDepth 100000
set_option maxHeartbeats 1000000

def Ext (N : Ns) (w : World) (N' : Ns) (w' : World) : Prop := Turns (NOwn N) w w' ∧ ∀ k,NOwn N' k → NOwn N k ∨ w.heap.size ≤ k
theorem Ext.refl (N : Ns) (w : World) : Ext N w N w := ⟨Turns.refl _ _,fun _ h => .inl h⟩
theorem Ext.trans {N N1 N2 : Ns} {w w1 w2 : World} (h : Ext N w N1 w1) (h2 : Ext N1 w1 N2 w2) : Ext N w N2 w2 :=
 ⟨h.1.trans' h2.1 h.2,fun k hk => (h2.2 k hk).elim (h.2 k) (fun h' => .inr (Nat.le_trans h.1.size h'))⟩
theorem pathT_prefix (T : Tr) (L : Bs) (c : UInt8) : ∀ n,n ≤ L.length → pathT T (L ++ [c]) n = pathT T L n
 | 0,_ => rfl
 | n + 1,h => by rw [pathT,pathT,pathT_prefix T L c n (by omega),List.take_append_of_le_length h]
theorem pathT_snoc (T : Tr) (L : Bs) (c : UInt8) : pathT T (L ++ [c]) (L ++ [c]).length = growT (pathT T L L.length) (L ++ [c]) := by
 rw [List.length_append,List.length_singleton,pathT,pathT_prefix T L c _ (Nat.le_refl _),List.take_of_length_le (by simp)]
theorem layAll_len (n : Nat) : ∀ (xs : List (Nat × Int)) (d : List Int),d.length ≤ n → (∀ x ∈ xs,x.1 < n) → (layAll d xs).length ≤ n
 | [],_,h,_ => h
 | x :: xs,d,h,hx => by
  refine layAll_len n xs _ ?_ (fun y hy => hx y (by simp [hy]))
  rw [lay_len]
  have := hx x (by simp)
  omega
theorem size_ba (p : ByteArray) : p.data.toList.length = p.size := by show p.data.toList.length = p.data.size; simp
section
variable {w : World} {rb : Nat} {s e : Value} {T : Tr} {N : Ns} {M : Nat}
def endNd (x : Nd) (v : Value) : Nd := { x with cs := x.cs.setIfInBounds (x.o + 1) v,v := v }
theorem TrieAt.ends (h : TrieAt w rb s e T N M) {L : Bs} {x : Nd} (hx : N L = some x) (hL : L ≠ []) {d : List Int} (hd : d.length ≤ 1000) {w' : World} (hD : Dig w x.v x.b (x.o + 1) x.cs x.t d w') :
  ∃ x',TrieAt w' rb s e (putT T L d) (setN N L x') M ∧ Ext N w (setN N L x') w' := by
 obtain ⟨d0,hd0⟩ := h.get hx
 have hl := h.loc L x d0 hx hd0
 obtain ⟨v,h1,h2,h3,h4⟩ := hD
 have ho : x.o + 1 < x.cs.size := (Array.getElem?_eq_some_iff.1 hl.ce).1
 have hown : ∀ k,(endNd x v).Own k → x.Own k ∨ w.heap.size ≤ k := by
  rintro k (rfl | hk | hk)
  ·exact .inl (.inl rfl)
  ·exact .inl (.inr (.inl hk))
  ·rcases h4 with h4 | h4
   ·exact .inl (.inr (.inr (h4 ▸ hk)))
   ·exact .inr (h4 k hk)
 have hX : ∀ k,(k = x.b ∨ x.v.ownBlock = some k) → x.Own k := by
  rintro k (hk | hk)
  ·exact .inl hk
  ·exact .inr (.inr hk)
 have hmm : ∀ mb,x.m = some mb → ¬ (mb = x.b ∨ x.v.ownBlock = some mb) := fun mb hm hk' => by
  obtain ⟨es,cl,hmm⟩ := (hl.map mb hm).isMap
  rcases hk' with rfl | hk'
  ·have := hl.blk; rw [Blk,hmm] at this; cases this
  ·rcases hl.row.2 with ⟨h1,_⟩ | ⟨g,cap,cur,h1,_,hg,_⟩
   ·rw [h1] at hk'; cases hk'
   ·rw [h1] at hk'; cases hk'; rw [hmm] at hg; cases hg
 refine ⟨endNd x v,h.change hx (x' := endNd x v) rfl h3 hX hown ?_ (fun e => absurd e hL),h3.mono (fun k hk => ⟨L,x,hx,hX k hk⟩),fun k hk => NOwn_setN hx hown hk⟩
 refine ⟨h1,?_,?_,hl.ty,h2,hd,hl.nomap,fun mb hm => (hl.map mb hm).turns h3 (hmm mb hm)⟩
 ·show (x.cs.setIfInBounds (x.o + 1) v)[x.o]? = _
  rw [Array.getElem?_setIfInBounds_ne (by omega)]; exact hl.cm
 ·simp [endNd,ho]

theorem add_any (h : TrieAt w rb s e T N M) (p : ByteArray) (hp : p.size ≤ 16) (hn : ltrs p.data.toList ≠ []) (hM : M < 900000) :
  Calls Tryz.prog 180 #[.pointer (some ⟨rb,1,none⟩),.string p] w fun r w' => r = .returned (.tuple #[]) ∧ ∃ N',TrieAt w' rb s e (addT T p.data.toList) N' (M + 16) ∧ Ext N w N' w' := by
 have hW : Hid (p.data.toList.take p.size = p.data.toList) := take_all_ba p
 obtain ⟨r,hr0,hr1,hr2,_⟩ := h.root
 have hrat : r.at = .pointer (some ⟨rb,1,none⟩) := by unfold Nd.at; rw [hr1,hr2]
 rw [← hrat]
 have hst : Hid (∃ N1,TrieAt w rb s e (pathT T (ltrs (p.data.toList.take 0)) (ltrs (p.data.toList.take 0)).length) N1 (M + 0) ∧ N1 (ltrs (p.data.toList.take 0)) = some r ∧ Ext N w N1 w) := ⟨N,h,hr0,Ext.refl _ _⟩
 clear h hrat hr0 hr1 hr2
 unfold Nd.at
 go_enter Tryz.func180,Tryz.ntmps180
 go_wp2_with fail
 go_loopw [0,7] (fun a i wr => ∃ (k : Nat) (x : Nd),k ≤ p.size ∧ i = .int .i64 k ∧ a = x.at ∧ Hid (∃ N1,TrieAt wr rb s e (pathT T (ltrs (p.data.toList.take k)) (ltrs (p.data.toList.take k)).length) N1 (M + k) ∧ N1 (ltrs (p.data.toList.take k)) = some x ∧ Ext N w N1 wr)) (fun _ i _ => p.size - (intOf i).toNat)
 case atStart => exact ⟨0,r,by omega,rfl,rfl,hst.out⟩
 case round =>
  obtain ⟨k,x,hk,rfl,rfl,hrest⟩ := hrel
  by_cases hlt : k < p.size
  ·have ht1 := take_succ_ba hlt
   have hI := isDigit_any ((p[k]'hlt).toNat : Int)
   cases hc : dgI ((p[k]'hlt).toNat : Int) with
   | true =>
    rw [hc] at hI
    have hnext : Hid (∃ N1,TrieAt wr rb s e (pathT T (ltrs (p.data.toList.take (k + 1))) (ltrs (p.data.toList.take (k + 1))).length) N1 (M + (k + 1)) ∧ N1 (ltrs (p.data.toList.take (k + 1))) = some x ∧ Ext N w N1 wr) := by
     have e1 : ltrs (p.data.toList.take (k + 1)) = ltrs (p.data.toList.take k) := by rw [ht1,ltrs_snoc,show dgt (p[k]'hlt) = true from hc,if_pos rfl]
     rw [e1]
     obtain ⟨N1,h1,h2,h3⟩ := hrest.out
     exact ⟨N1,h1.mono (by omega),h2,h3⟩
    clear hrest ht1 hc hst hW
    unfold Nd.at
    go_wp2_with (go_at_call 199; refine (hI _).mono ?_; rintro e w' ⟨rfl,hww⟩; subst w')
    go_roundw
    case rel => exact ⟨k + 1,x,by omega,by simp,rfl,hnext⟩
    case measure => simp [intOf]; omega
   | false =>
    rw [hc] at hI
    obtain ⟨N1,h1,h2,h3⟩ := hrest.out
    have hg := grow_any h1 h2 (p[k]'hlt) (by omega)
    have hnext : Hid (∀ a w',Grown wr rb s e (pathT T (ltrs (p.data.toList.take k)) (ltrs (p.data.toList.take k)).length) N1 (M + k) (ltrs (p.data.toList.take k) ++ [p[k]'hlt]) a w' →
      ∃ x,a = x.at ∧ ∃ N1,TrieAt w' rb s e (pathT T (ltrs (p.data.toList.take (k + 1))) (ltrs (p.data.toList.take (k + 1))).length) N1 (M + (k + 1)) ∧ N1 (ltrs (p.data.toList.take (k + 1))) = some x ∧ Ext N w N1 w') := by
     rintro a w' ⟨N2,y,rfl,g1,g2,g3,g4⟩
     have e1 : ltrs (p.data.toList.take (k + 1)) = ltrs (p.data.toList.take k) ++ [p[k]'hlt] := by rw [ht1,ltrs_snoc,show dgt (p[k]'hlt) = false from hc]; rfl
     rw [e1,pathT_snoc]
     exact ⟨y,rfl,N2,g1,g2,h3.trans ⟨g3,g4⟩⟩
    have hgh : Hid (Calls Tryz.prog 201 #[x.at,.int .u8 (p[k]'hlt).toNat] wr fun r w' => ∃ a,r = .returned a ∧ Grown wr rb s e (pathT T (ltrs (p.data.toList.take k)) (ltrs (p.data.toList.take k)).length) N1 (M + k) (ltrs (p.data.toList.take k) ++ [p[k]'hlt]) a w') := hg
    clear hrest ht1 hc hst hW h1 h2 h3 hg
    unfold Nd.at
    go_wp2_with (first | (go_at_call 199; refine (hI _).mono ?_; rintro e w' ⟨rfl,hww⟩; subst w') | (go_at_call 201; refine hgh.out.mono ?_; rintro e w' ⟨a,rfl,hG⟩; obtain ⟨x2,rfl,hx2⟩ := hnext.out a w' hG; clear hG; unfold Nd.at))
    go_roundw
    case rel => exact ⟨k + 1,x2,by omega,by simp,rfl,hx2⟩
    case measure => simp [intOf]; omega
  ·obtain rfl : k = p.size := by omega
   rw [hW.out] at hrest
   obtain ⟨N1,h1,h2,h3⟩ := hrest.out
   obtain ⟨d,hd⟩ := h1.get h2
   have hl := h1.loc _ x d h2 hd
   have ho : x.o + 1 < x.cs.size := (Array.getElem?_eq_some_iff.1 hl.ce).1
   have hE := eachDigit_any p (by omega) ho hl.ty (Dig.start hl.blk hl.ce hl.row) hl.len
   have hfin : Hid (∀ w',Dig wr x.v x.b (x.o + 1) x.cs x.t (layAll d (digs 0 p.data.toList)) w' → ∃ N',TrieAt w' rb s e (addT T p.data.toList) N' (M + 16) ∧ Ext N w N' w') := by
    intro w' hD
    obtain ⟨x',g1,g2⟩ := h1.ends h2 hn (layAll_len 1000 _ _ hl.len (fun y hy => by
     have := (digs_rng 0 _ y hy).2.1
     have := ltrs_le p.data.toList
     have : p.data.toList.length = p.size := size_ba p
     omega)) hD
    refine ⟨_,?_,h3.trans g2⟩
    unfold addT
    rw [hd]
    exact g1.mono (by omega)
   have hEh : Hid (Calls Tryz.prog 202 #[.string p,.func (.func 192) #[.pointer (some ⟨x.b,x.o + 1,none⟩)] #[]] wr fun e w' => e = .returned (.tuple #[]) ∧ Dig wr x.v x.b (x.o + 1) x.cs x.t (layAll d (digs 0 p.data.toList)) w') := hE
   clear hrest h1 h2 h3 hl ho hE hd hst hW
   unfold Nd.at
   go_wp2_with (go_at_call 202; refine hEh.out.mono ?_; rintro e w' ⟨rfl,hD⟩)
   go_returns
   exact ⟨rfl,hfin.out _ hD⟩
end
end Go.Proofs.YtbdpghjegachaaaGreatDoor.Hy

namespace Go.Proofs.YtbdpghjegachaaaGreatDoor.Hy
open Go.RowKit Go.Shelf
set_option maxRecDepth 100000
set_option maxHeartbeats 2000000

theorem row_get {w : World} {base : Nat} {e : TypeId} {v : Value} {n : Nat} {xs : List Value} (h : w.ownsRow base e 1 v n xs) {k : Nat} (hk : k < n) : ∃ g cap,v = .slice (some ⟨g,0,none⟩) n cap ∧ n ≤ cap ∧ ∀ j,w.cell? ⟨g,j,none⟩ = (if j < n then xs[j]? else w.cell? ⟨g,j,none⟩) := by
 rcases h.2 with ⟨rfl,rfl⟩ | ⟨g,cap,cur,rfl,_,hg,hcap,_,_,htk⟩
 ·omega
 ·refine ⟨g,cap,rfl,hcap,fun j => ?_⟩
  by_cases hj : j < n
  ·rw [if_pos hj,Lib.cell_of_heap hg,← htk,List.getElem?_take_of_lt (by omega),Array.getElem?_toList]
  ·rw [if_neg hj]
theorem ints_get (d : List Int) {k : Nat} (h : k < d.length) : (ints d)[k]? = some (.int .i64 (d[k]'h)) := by
 unfold ints
 rw [List.getElem?_map,List.getElem?_eq_getElem h]; rfl
theorem enum_take (i : Nat) (e : List Int) {k : Nat} (h : k < e.length) : enum i (e.take (k + 1)) = enum i (e.take k) ++ [(i + k,e[k]'h)] := by
 rw [List.take_succ_eq_append_getElem h,enum_append]
 simp [enum,List.length_take,Nat.min_eq_left (Nat.le_of_lt h)]
theorem drop_take_succ {t : ByteArray} {i q : Nat} (hi : i ≤ q) (h : q < t.size) : (t.data.toList.drop i).take (q - i + 1) = (t.data.toList.drop i).take (q - i) ++ [t[q]'h] := by
 have hl : q - i < (t.data.toList.drop i).length := by
  rw [List.length_drop,size_ba]; omega
 rw [List.take_succ_eq_append_getElem hl]
 simp only [List.getElem_drop,Nat.add_sub_cancel' hi]
 simp [ByteArray.getElem_eq_getElem_data]
section
variable {w0 w : World} {rb : Nat} {s e : Value} {T : Tr} {N : Ns} {M : Nat}
theorem match_any (h : TrieAt w0 rb s e T N M) (t : ByteArray) (ht : t.size ≤ 100) (i : Nat) (hi : i ≤ t.size) {v0 : Value} {b o : Nat} {cs : Array Value} {ty : TypeId} (ho : o < cs.size) (hty : ty ≠ 3) (hX : ∀ k,(k = b ∨ v0.ownBlock = some k) → ¬ NOwn N k) {d : List Int} (hD : Dig w0 v0 b o cs ty d w) (hd : d.length ≤ 2000) :
  Calls Tryz.prog 191 #[.pointer (some ⟨rb,1,none⟩),.string t,.int .i64 i,.func (.func 192) #[.pointer (some ⟨b,o,none⟩)] #[]] w fun r w' => r = .returned (.tuple #[]) ∧ Dig w0 v0 b o cs ty (matA T t.data.toList i d) w' ∧ (matA T t.data.toList i d).length ≤ 2000 := by
 obtain ⟨r,hr0,hr1,hr2,_⟩ := h.root
 have hrat : r.at = .pointer (some ⟨rb,1,none⟩) := by unfold Nd.at; rw [hr1,hr2]
 rw [← hrat]
 clear hrat hr1 hr2
 have hTr : Hid (∀ d1 w1,Dig w0 v0 b o cs ty d1 w1 → TrieAt w1 rb s e T N M) := fun d1 w1 ⟨_,_,_,h3,_⟩ => h.turns h3 hX
 have hstop : Hid (∀ m d1,i + m ≤ t.size → mat T t.data.toList i d m = (d1,false) → matA T t.data.toList i d = d1) := fun m d1 hm h1 => by
  unfold matA
  rw [mat_stops h1 _ (by rw [size_ba]; omega)]
 have hend : Hid (∀ m d1 b1,i + m = t.size → mat T t.data.toList i d m = (d1,b1) → matA T t.data.toList i d = d1) := fun m d1 b1 hm h1 => by
  unfold matA
  rw [size_ba,show t.size - i = m by omega,h1]
 generalize hA : matA T t.data.toList i d = A at *
 clear hA
 unfold Nd.at
 go_enter Tryz.func191,Tryz.ntmps191
 go_wp2_with fail
 go_loopw [0,8] (fun a j wr => ∃ (q : Nat) (x : Nd) (d1 : List Int),i ≤ q ∧ q ≤ t.size ∧ j = .int .i64 q ∧ a = x.at ∧ Dig w0 v0 b o cs ty d1 wr ∧ d1.length ≤ 2000 ∧ Hid (N ((t.data.toList.drop i).take (q - i)) = some x) ∧ Hid (mat T t.data.toList i d (q - i) = (d1,true))) (fun _ j _ => t.size - (intOf j).toNat)
 case atStart => exact ⟨i,r,d,by omega,hi,rfl,rfl,hD,hd,by show _ = _; rw [Nat.sub_self]; exact hr0,by show _ = _; rw [Nat.sub_self]; rfl⟩
 case round =>
  obtain ⟨q,x,d1,hiq,hm,rfl,rfl,hD1,hl1,hN,hmat⟩ := hrel
  by_cases hlt : q < t.size
  ·have hT := hTr.out d1 wr hD1
   obtain ⟨dx,hdx⟩ := hT.get hN.out
   have hl := hT.loc _ x dx hN.out hdx
   have c0 : wr.cell? ⟨x.b,x.o,none⟩ = some (.map x.m) := by rw [hl.blk.cell]; exact hl.cm
   have htk := drop_take_succ hiq hlt
   have hlook : (Instr.lookup 202 (.map x.m) (.int .u8 (t[q]'hlt).toNat) false).run Tryz.prog wr.drew = .ok (((N ((t.data.toList.drop i).take (q - i + 1))).map Nd.at).getD (.pointer none)) wr.drew := by
    have e1 : (N ((t.data.toList.drop i).take (q - i + 1))).map Nd.at = kids N ((t.data.toList.drop i).take (q - i)) (t[q]'hlt) := by rw [htk]; rfl
    rw [e1]
    cases hm : x.m with
    | some mb => exact ((hl.map mb hm).turns (Turns.drew Noth wr) (fun h => h)).look law5 Tryz.underlying202 (zero79 wr.drew) _ (keyOf5 _)
    | none =>
     rw [hl.nomap hm]
     exact Maps.look_nil false law5 Tryz.underlying202 (zero79 wr.drew) (keyOf5 _)
   cases hy : N ((t.data.toList.drop i).take (q - i + 1)) with
   | none =>
    rw [hy] at hlook
    simp only [Option.map_none,Option.getD_none] at hlook
    have hq := hT.none_iff.1 hy
    have hA := hstop.out (q - i + 1) d1 (by omega) (by rw [mat,hmat.out]; simp only; rw [hq])
    subst hA
    have hD2 : Dig w0 v0 b o cs ty A wr.drew := by
     obtain ⟨v,a1,a2,a3,a4⟩ := hD1
     exact ⟨v,a1,a2,a3.trans (Turns.drew _ _),a4⟩
    clear hend hstop hTr hmat hN hT hl htk hq hy hdx
    unfold Nd.at
    go_wp2_with fail
    go_region
    go_wp2_with fail
    go_returns
    exact ⟨rfl,hD2,hl1⟩
   | some y =>
    rw [hy] at hlook
    simp only [Option.map_some,Option.getD_some] at hlook
    have hD2 : Dig w0 v0 b o cs ty d1 wr.drew := by
     obtain ⟨v,a1,a2,a3,a4⟩ := hD1
     exact ⟨v,a1,a2,a3.trans (Turns.drew _ _),a4⟩
    have hT2 := hTr.out d1 _ hD2
    obtain ⟨dy,hdy⟩ := hT2.get hy
    have hly := hT2.loc _ y dy hy hdy
    have cy : wr.drew.cell? ⟨y.b,y.o + 1,none⟩ = some y.v := by rw [hly.blk.cell]; exact hly.ce
    obtain ⟨ay,capy,hvy⟩ := row_val hly.row
    rw [hvy] at cy
    have hnil := run_eql_ptr_nil' wr.drew ⟨y.b,y.o,none⟩ Tryz.underlying238
    have hnext : Hid (∀ k,k = dy.length → mat T t.data.toList i d (q - i + 1) = (layAll d1 (enum i (dy.take k)),true)) := by
     rintro k rfl
     rw [mat,hmat.out]; simp only; rw [hdy,List.take_length]
    have hrowy : Hid (∀ d2 w2,Dig w0 v0 b o cs ty d2 w2 → w2.ownsRow 0 3 1 (.slice ay dy.length capy) dy.length (ints dy)) := fun d2 w2 h2 => by
     have := ((hTr.out d2 w2 h2).loc _ y dy hy hdy).row
     rw [hvy] at this; exact this
    have hN2 : Hid (N ((t.data.toList.drop i).take (q - i + 1)) = some y) := hy
    have hleny := hly.len
    have het : Hid (∀ (k : Nat) (hk : k < dy.length),enum i (dy.take (k + 1)) = enum i (dy.take k) ++ [(i + k,dy[k]'hk)]) := fun k hk => enum_take i dy hk
    clear hend hstop hTr hmat hN hT hl htk hy hdx hT2 hly hvy hdy
    unfold Nd.at at *
    go_wp2_with fail
    go_region
    go_wp2_with fail
    go_loopw [33] (fun j wr2 => ∃ (k : Nat) (d2 : List Int),k ≤ dy.length ∧ j = .int .i64 k ∧ Dig w0 v0 b o cs ty d2 wr2 ∧ d2.length ≤ 2000 ∧ Hid (d2 = layAll d1 (enum i (dy.take k)))) (fun j _ => dy.length - (intOf j).toNat)
    case atStart => exact ⟨0,d1,by omega,rfl,hD2,hl1,rfl⟩
    case round =>
     obtain ⟨k,d2,hk,rfl,hDk,hlk,hd2⟩ := hrel
     by_cases hkl : k < dy.length
     ·have hr := hrowy.out d2 _ hDk
      obtain ⟨g,cap',hga,hcap,hcell⟩ := row_get hr hkl
      cases hga
      have ck := hcell k
      rw [if_pos hkl,ints_get dy hkl] at ck
      have hS := lay_step ho hty hDk (i + k) (dy[k]'hkl) (by omega) (by omega)
      have hl3 : (layL d2 (i + k) (dy[k]'hkl)).length ≤ 2000 := by rw [lay_len]; omega
      have hd3 : Hid (layL d2 (i + k) (dy[k]'hkl) = layAll d1 (enum i (dy.take (k + 1)))) := by
       show _ = _
       rw [het.out k hkl,layAll_append,← hd2.out]; rfl
      have hSh : Hid (∀ z : Int,z = ((i + k : Nat) : Int) → Calls Tryz.prog 192 #[.pointer (some ⟨b,o,none⟩),.int .i64 z,.int .i64 (dy[k]'hkl)] wr fun e w' => e = .returned (.tuple #[]) ∧ Dig w0 v0 b o cs ty (layL d2 (i + k) (dy[k]'hkl)) w') := by
       rintro z rfl; exact hS
      have hkl' : (k : Int) < dy.length := by omega
      clear hS hcell hr hd2
      generalize layL d2 (i + k) (dy[k]'hkl) = d3 at *
      generalize dy[k]'hkl = u at *
      go_wp2_with (go_at_call 192; refine (hSh.out _ (by omega)).mono ?_; rintro e w' ⟨rfl,hD3⟩)
      go_roundw
      case rel => exact ⟨k + 1,d3,by omega,by simp,hD3,hl3,hd3⟩
      case measure => simp [intOf]; omega
     ·have hkk : k = dy.length := by omega
      have hm2 := hnext.out k hkk
      rw [← hd2.out] at hm2
      have hm3 : Hid (mat T t.data.toList i d (q - i + 1) = (d2,true)) := hm2
      have hkl' : ¬ (k : Int) < dy.length := by omega
      clear hnext hm2 hd2 hrowy
      go_wp2_with fail
      go_roundw
      case rel => exact ⟨q + 1,y,d2,by omega,by omega,by simp,rfl,hDk,hlk,by rw [show q + 1 - i = q - i + 1 by omega]; exact hN2,by rw [show q + 1 - i = q - i + 1 by omega]; exact hm3⟩
      case measure => simp [intOf]; omega
  ·have hA := hend.out (q - i) d1 true (by omega) hmat.out
   subst hA
   clear hend hstop hTr hmat hN
   unfold Nd.at
   go_wp2_with fail
   go_returns
   exact ⟨rfl,hD1,hl1⟩
end
end Go.Proofs.YtbdpghjegachaaaGreatDoor.Hy

namespace Go.Proofs.YtbdpghjegachaaaGreatDoor.Hy
open Go.RowKit Go.Shelf
set_option maxRecDepth 100000
set_option maxHeartbeats 2000000

theorem at_any (w : World) (v : Value) (d : List Int) (hr : w.ownsRow 0 3 1 v d.length (ints d)) (k : Nat) (_hd : d.length ≤ 2000) : Calls Tryz.prog 193 #[v,.int .i64 k] w fun e w' => e = .returned (.int .i64 (atL d k)) ∧ w' = w := by
 obtain ⟨a,cap,rfl⟩ := row_val hr
 by_cases hk : k < d.length
 ·obtain ⟨g,cap',hga,hcap,hcell⟩ := row_get hr hk
  cases hga
  have ck := hcell k
  rw [if_pos hk,ints_get d hk] at ck
  have e1 : atL d k = d[k]'hk := by simp [atL,List.getD_eq_getElem?_getD,List.getElem?_eq_getElem hk]
  rw [e1]
  generalize d[k]'hk = u at *
  have hk' : ¬ (d.length : Int) ≤ k := by omega
  clear hcell hr e1
  go_enter Tryz.func193,Tryz.ntmps193
  go_wp2_with fail
  go_ret
  exact ⟨rfl,rfl⟩
 ·have e1 : atL d k = 0 := by simp [atL,List.getD_eq_getElem?_getD,List.getElem?_eq_none (by omega : d.length ≤ k)]
  rw [e1]
  have hk' : (d.length : Int) ≤ k := by omega
  clear e1 hr
  go_enter Tryz.func193,Tryz.ntmps193
  go_wp2_with fail
  go_ret
  exact ⟨rfl,rfl⟩

def oddTo (vals : List Int) (k : Nat) : List Int := ((List.range k).filter (fun j => decide (2 ≤ j) && decide ((atL vals (j + 1)).tmod 2 = 1))).map (fun j : Nat => (j : Int))
theorem oddTo_succ (vals : List Int) (k : Nat) : oddTo vals (k + 1) = if 2 ≤ k ∧ (atL vals (k + 1)).tmod 2 = 1 then oddTo vals k ++ [(k : Int)] else oddTo vals k := by
 unfold oddTo
 rw [List.range_succ,List.filter_append,List.map_append]
 by_cases h : 2 ≤ k ∧ (atL vals (k + 1)).tmod 2 = 1
 ·rw [if_pos h]; simp [h.1,h.2]
 ·rw [if_neg h]
  have : (decide (2 ≤ k) && decide ((atL vals (k + 1)).tmod 2 = 1)) = false := by
   cases h1 : decide (2 ≤ k) <;> cases h2 : decide ((atL vals (k + 1)).tmod 2 = 1) <;> simp_all
  simp [this]
theorem oddTo_small (vals : List Int) {k : Nat} (h : k ≤ 2) : oddTo vals k = [] := by
 unfold oddTo
 rw [List.map_eq_nil_iff,List.filter_eq_nil_iff]
 intro j hj
 have := List.mem_range.1 hj
 have : ¬ 2 ≤ j := by omega
 simp [this]
theorem oddTo_len (vals : List Int) (k : Nat) : (oddTo vals k).length ≤ k := by
 unfold oddTo
 rw [List.length_map]
 exact Nat.le_trans (List.length_filter_le _ _) (by simp)
def dot (l : Bs) : Bs := 46 :: (l ++ [46])
theorem dot_str (s : ByteArray) : ((⟨#[46]⟩ : ByteArray) ++ s ++ ⟨#[46]⟩).data.toList = dot s.data.toList := by
 rw [ByteArray.data_append,ByteArray.data_append]
 simp [dot]
def oddL (T : Tr) (l : Bs) : List Int := oddTo (mats T (dot l) (dot l).length) (l.length - 2)

section
variable {w : World} {rb : Nat} {s e : Value} {T : Tr} {N : Ns} {M : Nat}
theorem odd_any (h : TrieAt w rb s e T N M) (t : ByteArray) (ht : t.size ≤ 64) :
  Calls Tryz.prog 169 #[.pointer (some ⟨rb,0,none⟩),.string t] w fun r w' => ∃ v,r = .returned v ∧ Below w.heap.size w w' ∧ w'.ownsRow w.heap.size 3 1 v (oddL T t.data.toList).length (ints (oddL T t.data.toList)) := by
 obtain ⟨i3,hi⟩ := Option.isSome_iff_exists.1 (show (Tryz.prog.info? 3).isSome = true by kernel_rfl)
 have hz0 : i3.zero = some (.int .i64 0) := by
  have h : (Tryz.prog.info? 3).map (·.zero) = some (some (.int .i64 0)) := by kernel_rfl
  rw [hi] at h; simpa using h
 have hz1 : i3.size = 1 := by
  have h : (Tryz.prog.info? 3).map (·.size) = some 1 := by kernel_rfl
  rw [hi] at h; simpa using h
 have hz2 : i3.bytes = 8 := by
  have h : (Tryz.prog.info? 3).map (·.bytes) = some 8 := by kernel_rfl
  rw [hi] at h; simpa using h
 obtain ⟨b,hb⟩ : ∃ b,w.heap.size = b := ⟨_,rfl⟩
 obtain ⟨w1,hw1⟩ : ∃ w1,w.alloc (.cells #[.slice none 0 0] 203) = w1 := ⟨_,rfl⟩
 have hB1 : Blk w1 b #[.slice none 0 0] 203 := by rw [← hw1,← hb]; exact World.alloc_heap_new w _
 have hb1 : Below b w w1 := by rw [← hw1,← hb]; exact (Below.refl _ _).alloc (Nat.le_refl _) _
 have hT1 : TrieAt w1 rb s e T N M := by rw [← hw1]; exact h.turns (Turns.alloc Noth _ _) (fun _ h => h.elim)
 have hX : ∀ k,(k = b ∨ (Value.slice none 0 0).ownBlock = some k) → ¬ NOwn N k := by
  rintro k (rfl | hk) h1
  ·have := h.lt h1; omega
  ·cases hk
 have hD1 : Dig w1 (.slice none 0 0) b 0 #[.slice none 0 0] 203 [] w1 := Dig.start hB1 rfl (World.ownsRow_nil _ _ _ _)
 obtain ⟨q,hq⟩ : ∃ q : ByteArray,(⟨#[46]⟩ : ByteArray) ++ t ++ ⟨#[46]⟩ = q := ⟨_,rfl⟩
 have hql : q.data.toList = dot t.data.toList := by rw [← hq]; exact dot_str t
 have hqs : q.size = t.size + 2 := by rw [← size_ba,hql,dot]; simp
 have hO : Hid (oddL T t.data.toList = oddTo (mats T q.data.toList q.size) (t.size - 2)) := by
  show _ = _
  unfold oddL
  rw [← hql,size_ba,size_ba]
 have hmat : Hid (∀ (i : Nat) (d : List Int) (w2 : World),i ≤ q.size → Dig w1 (.slice none 0 0) b 0 #[.slice none 0 0] 203 d w2 → d.length ≤ 2000 → Calls Tryz.prog 191 #[.pointer (some ⟨rb,1,none⟩),.string q,.int .i64 i,.func (.func 192) #[.pointer (some ⟨b,0,none⟩)] #[]] w2 fun r w' => r = .returned (.tuple #[]) ∧ Dig w1 (.slice none 0 0) b 0 #[.slice none 0 0] 203 (matA T q.data.toList i d) w' ∧ (matA T q.data.toList i d).length ≤ 2000) :=
  fun i d w2 h1 h2 h3 => match_any hT1 q (by omega) i h1 (by simp) (by decide) hX h2 h3
 generalize oddL T t.data.toList = O at *
 clear hX hT1 h hql
 go_enter Tryz.func169,Tryz.ntmps169
 go_wp2_with fail
 go_loopw [15] (fun i wr => ∃ (k : Nat) (d : List Int),k ≤ t.size + 2 ∧ i = .int .i64 k ∧ Dig w1 (.slice none 0 0) b 0 #[.slice none 0 0] 203 d wr ∧ d.length ≤ 2000 ∧ Hid (d = mats T q.data.toList k)) (fun i _ => t.size + 2 - (intOf i).toNat)
 case atStart => exact ⟨0,[],by omega,rfl,hD1,by simp,rfl⟩
 case round =>
  obtain ⟨k,d,hk,rfl,hD,hl,hd⟩ := hrel
  by_cases hlt : k < t.size + 2
  ·have hM := hmat.out k d wr (by omega) hD hl
   have hd2 : Hid (matA T q.data.toList k d = mats T q.data.toList (k + 1)) := by
    show _ = _
    rw [mats,← hd.out]
   have hlt' : (k : Int) < t.size + 2 := by omega
   have hMh : Hid (Calls Tryz.prog 191 #[.pointer (some ⟨rb,1,none⟩),.string q,.int .i64 k,.func (.func 192) #[.pointer (some ⟨b,0,none⟩)] #[]] wr fun r w' => r = .returned (.tuple #[]) ∧ Dig w1 (.slice none 0 0) b 0 #[.slice none 0 0] 203 (matA T q.data.toList k d) w' ∧ (matA T q.data.toList k d).length ≤ 2000) := hM
   clear hM hmat hO hd hD1
   generalize matA T q.data.toList k d = d2 at *
   go_wp2_with (go_at_call 191; refine hMh.out.mono ?_; rintro e w' ⟨rfl,hD2,hl2⟩)
   go_roundw
   case rel => exact ⟨k + 1,d2,by omega,by simp,hD2,hl2,hd2⟩
   case measure => simp [intOf]; omega
  ·obtain rfl : k = t.size + 2 := by omega
   have hO2 : Hid (O = oddTo d (t.size - 2)) := by
    show _ = _
    rw [hO.out,hd.out,hqs]
   have hlt' : ¬ ((t.size + 2 : Nat) : Int) < t.size + 2 := by omega
   obtain ⟨wm,rfl⟩ : ∃ wm,wm = wr := ⟨_,rfl⟩
   obtain ⟨v,hv1,hv2,hv3,hv4⟩ := hD
   have hv1' : Blk wm b #[v] 203 := hv1
   have cv : wm.cell? ⟨b,0,none⟩ = some v := by rw [hv1'.cell]; rfl
   obtain ⟨av,capv,rfl⟩ := row_val hv2
   have hBl : Below b w wm := by
    refine ⟨hv3.os.trans hb1.1,hv3.tape.trans hb1.2,hv3.output.trans hb1.3,Nat.le_trans hb1.size hv3.size,fun k hk => (hv3.block k (by have := hb1.size; omega) ?_).trans (hb1.block k hk)⟩
    rintro (h | h)
    ·omega
    ·cases h
   have hs : b < wm.heap.size := hv1'.lt
   have hrow : Hid (wm.ownsRow 0 3 1 (.slice av d.length capv) d.length (ints d)) := hv2
   have hbk : Hid (Blk wm b #[.slice av d.length capv] 203) := hv1'
   clear hv1 hv1' hv2 hv3 hv4 hO hd hmat hD1 hb1 hB1
   generalize hdl : d.length = n at *
   go_wp2_with fail
   go_loopw [8,9] (fun a i wr => ∃ (k : Nat),2 ≤ k ∧ (k ≤ 2 ∨ k ≤ t.size - 2) ∧ i = .int .i64 k ∧ Hid (Below wm.heap.size wm wr ∧ wr.ownsRow wm.heap.size 3 1 a (oddTo d k).length (ints (oddTo d k)))) (fun _ i _ => t.size - (intOf i).toNat)
   case atStart => exact ⟨2,by omega,.inl (by omega),rfl,Below.refl _ _,by rw [oddTo_small _ (Nat.le_refl _)]; exact World.ownsRow_nil _ _ _ _⟩
   case round =>
    obtain ⟨k,hk2,hk,rfl,hH⟩ := hrel
    have hbel := hH.out.1
    obtain ⟨aa,capa,hva⟩ := row_val hH.out.2
    subst hva
    have hlen := oddTo_len d k
    by_cases hlt2 : k + 3 ≤ t.size
    ·have f1 : (k : Int) ≤ t.size - 3 := by omega
     have cv2 : wr.cell? ⟨b,0,none⟩ = some (.slice av n capv) := by
      rw [← cv]; exact World.cell?_of_block (hbel.block b hs)
     have hat := at_any wr (.slice av n capv) d (by rw [hdl]; exact ownsRow_below hrow.out hbel) (k + 1) (by omega)
     have hos := oddTo_succ d k
     have hath : Hid (∀ z : Int,z = ((k + 1 : Nat) : Int) → Calls Tryz.prog 193 #[.slice av n capv,.int .i64 z] wr fun e w' => e = .returned (.int .i64 (atL d (k + 1))) ∧ w' = wr) := by
      rintro z rfl; exact hat
     have hsz := hbel.size
     by_cases ho : (atL d (k + 1)).tmod 2 = 1
     ·rw [if_pos ⟨hk2,ho⟩] at hos
      have hnext : Hid (∀ v' w2,w2.ownsRow wm.heap.size 3 1 v' ((oddTo d k).length + 1) (ints (oddTo d k) ++ [.int .i64 k]) → (wr.alloc (.cells #[.int .i64 k] 3)).grownBy w2 (Value.slice aa (oddTo d k).length capa).ownBlock → Below wm.heap.size wm w2 ∧ w2.ownsRow wm.heap.size 3 1 v' (oddTo d (k + 1)).length (ints (oddTo d (k + 1)))) := by
       intro v' w2 h1 h2
       refine ⟨below_grown (hbel.alloc hbel.size _) (hH.out.2.alloc _) (Nat.le_refl _) (Nat.le_refl _) h2,?_⟩
       rw [hos,ints_append,List.length_append]; exact h1
      have hrowa : Hid (wr.ownsRow wm.heap.size 3 1 (.slice aa (oddTo d k).length capa) (oddTo d k).length (ints (oddTo d k))) := hH.out.2
      generalize atL d (k + 1) = y at *
      clear hat hos hH hbel hbk hrow
      generalize hol : (oddTo d k).length = m at *
      go_wp2_with (first | (go_at_call 193; refine (hath.out _ (by omega)).mono ?_; rintro e w' ⟨rfl,hww⟩; subst w') | (at_builtin; refine wpList_append_any _ rfl _ _ 44 rfl wm.heap.size 3 i3 _ 1 8 Tryz.underlying44 hi hz0 hz1 hz2 rfl (by decide) _ m _ rfl (by exact hrowa.out.alloc _) 1 _ _ rfl (by exact srcs_one wr 3 (.int .i64 k) rfl) (by unfold maxLen; omega) (by omega) (by simp; omega) ?_; intro v2 w2 hown hgrow; obtain ⟨a2,cap2,rfl⟩ := row_val hown))
      have hfin := hnext.out _ w2 hown hgrow
      go_roundw
      case rel => exact ⟨k + 1,by omega,.inr (by omega),by simp,hfin⟩
      case measure => simp [intOf]; omega
     ·rw [if_neg (fun h => ho h.2)] at hos
      have hnext : Hid (Below wm.heap.size wm wr ∧ wr.ownsRow wm.heap.size 3 1 (.slice aa (oddTo d k).length capa) (oddTo d (k + 1)).length (ints (oddTo d (k + 1)))) := by rw [hos]; exact hH.out
      generalize atL d (k + 1) = y at *
      have ho' : Hid (¬ y.tmod 2 = 1) := ho
      clear hat hos hH hbel hbk hrow
      generalize hol : (oddTo d k).length = m at *
      go_wp2_with (go_at_call 193; refine (hath.out _ (by omega)).mono ?_; rintro e w' ⟨rfl,hww⟩; subst w')
      go_roundw
      case rel => exact ⟨k + 1,by omega,.inr (by omega),by simp,hnext⟩
      case measure => simp [intOf]; omega
    ·have f1 : ¬ (k : Int) ≤ t.size - 3 := by omega
     have hOk : O = oddTo d k := by
      rw [hO2.out]
      rcases hk with h | h
      ·rw [oddTo_small _ h,oddTo_small _ (by omega)]
      ·rw [show k = t.size - 2 by omega]
     have hbel2 : Below b w wr := hBl.trans (hbel.mono (by omega))
     have hrowa : Hid (wr.ownsRow b 3 1 (.slice aa (oddTo d k).length capa) O.length (ints O)) := by rw [hOk]; exact ownsRow_base hH.out.2 (by omega)
     clear hH hO2 hOk hbk hrow
     generalize hol : (oddTo d k).length = m at *
     go_wp2_with fail
     go_ret
     exact ⟨_,rfl,hbel2,hrowa.out⟩
end
end Go.Proofs.YtbdpghjegachaaaGreatDoor.Hy
