/-
  What is proved here: what the document's Points answers.
  What is proved here: what the document's Plain answers.
-/
import Derived.Test.YthcphnifnfnceaaGreatDoorG41
namespace Go.Proofs.YthcphnifnfnceaaGreatDoor.Hy
open Go.RowKit Go.Shelf
set_option maxRecDepth 100000
set_option maxHeartbeats 8000000

def oddK (ps : List Bs) (l : Bs) (k : Nat) : List Int := ((List.range k).filter (fun j => decide (2 ≤ j) && decide (valI ps (dot l) (j + 1) % 2 = 1))).map (fun j : Nat => (j : Int))
theorem oddK_succ (ps : List Bs) (l : Bs) (k : Nat) : oddK ps l (k + 1) = if 2 ≤ k ∧ valI ps (dot l) (k + 1) % 2 = 1 then oddK ps l k ++ [(k : Int)] else oddK ps l k := by
 unfold oddK
 rw [List.range_succ,List.filter_append,List.map_append]
 by_cases h : 2 ≤ k ∧ valI ps (dot l) (k + 1) % 2 = 1
 ·rw [if_pos h]; simp [h.1,h.2]
 ·rw [if_neg h]
  have : (decide (2 ≤ k) && decide (valI ps (dot l) (k + 1) % 2 = 1)) = false := by
   rw [Bool.and_eq_false_iff,decide_eq_false_iff_not,decide_eq_false_iff_not]; omega
  simp [this]
theorem oddK_two (ps : List Bs) (l : Bs) : oddK ps l 2 = [] := by
 rw [oddK_succ,if_neg (by omega),oddK_succ,if_neg (by omega)]; rfl
theorem oddK_len (ps : List Bs) (l : Bs) (k : Nat) : (oddK ps l k).length ≤ k := by
 unfold oddK
 rw [List.length_map]
 exact Nat.le_trans (List.length_filter_le _ _) (by rw [List.length_range]; exact Nat.le_refl _)
theorem dashP_len : ∀ (l : Bs) (n : Nat),(dashP l n).length ≤ l.length
 | [],_ => by simp [dashP]
 | c :: l,n => by
  rw [dashP,List.length_cons]
  split
  ·have := dashP_len l n; rw [List.length_cons]; omega
  ·have := dashP_len l (n + 1); omega
theorem rpoints_any {w : World} {base m : Nat} {ps xs : List ByteArray} (hR : RH w base m ps xs) (hp : ps.length ≤ 1000) (hx : xs.length ≤ 1000) (hgp : (ps.map bs).all patB = true) (hgx : (xs.map bs).all excB = true) (hfr : freshB [] (xs.map bs) = true) (s : ByteArray) (hs : s.size ≤ maxLen) :
  Calls Tryz.prog 82 #[.pointer (some ⟨m,0,none⟩),.string s] w fun e w' => ∃ v,e = .returned (.tuple #[v,.int .i64 (ptE (bs s))]) ∧ Below w.heap.size w w' ∧ w'.ownsRow w.heap.size 3 1 v (ptV (ps.map bs) (xs.map bs) (bs s)).length (ints (ptV (ps.map bs) (xs.map bs) (bs s))) := by
 obtain ⟨i3,hi3⟩ := Option.isSome_iff_exists.1 (show (Tryz.prog.info? 3).isSome = true by kernel_rfl)
 have hy0 : i3.zero = some (.int .i64 0) := by
  have h : (Tryz.prog.info? 3).map (·.zero) = some (some (.int .i64 0)) := by kernel_rfl
  rw [hi3] at h; simpa using h
 have hy1 : i3.size = 1 := by
  have h : (Tryz.prog.info? 3).map (·.size) = some 1 := by kernel_rfl
  rw [hi3] at h; simpa using h
 have hy2 : i3.bytes = 8 := by
  have h : (Tryz.prog.info? 3).map (·.bytes) = some 8 := by kernel_rfl
  rw [hi3] at h; simpa using h
 have hLo := lower_any s hs w
 cases hw : wordB (bs s) with
 | false =>
  have e1 : ptE (bs s) = 4 := by unfold ptE; rw [hw]; rfl
  have e2 : ptV (ps.map bs) (xs.map bs) (bs s) = [] := by unfold ptV; rw [hw]; rfl
  rw [e1,e2]
  rw [hw] at hLo
  clear e1 e2 hR
  go_enter Tryz.func82,Tryz.ntmps82
  go_wp2_with (go_at_call 119; refine hLo.mono ?_; rintro e wl ⟨rfl,hbl⟩)
  go_ret2
  exact ⟨_,rfl,hbl,World.ownsRow_nil _ _ _ _⟩
 | true =>
  have e1 : ptE (bs s) = 0 := by unfold ptE; rw [hw]; rfl
  have e2 : ptV (ps.map bs) (xs.map bs) (bs s) = (exE (xs.map bs) (low (bs s))).getD (oddV (ps.map bs) (low (bs s))) := by unfold ptV; rw [hw]; rfl
  rw [e1]
  obtain ⟨PT,hPT⟩ : ∃ PT,ptV (ps.map bs) (xs.map bs) (bs s) = PT := ⟨_,rfl⟩
  rw [hPT]
  rw [hPT] at e2
  rw [hw] at hLo
  have hlv : bs (lowV (bs s)) = low (bs s) := by rw [lowV_word hw]
  have hls : (lowV (bs s)).size ≤ 64 := by
   rw [← size_ba,show (lowV (bs s)).data.toList = low (bs s) from hlv,low_len]
   exact (wordB_parts hw).2.1
  generalize lowV (bs s) = lv at *
  rw [← hlv] at e2
  have hgpF : Hid (∀ p ∈ ps,p.size ≤ 16 ∧ ltrs (bs p) ≠ []) := fun p hp => by
   have := (List.all_eq_true.1 hgp) _ (List.mem_map.2 ⟨p,hp,rfl⟩)
   exact ⟨patB_size this,patB_ltrs this⟩
  have hgxF : Hid (∀ x ∈ xs,x.size ≤ 128 ∧ excB (bs x) = true) := fun x hx => by
   have h := (List.all_eq_true.1 hgx) _ (List.mem_map.2 ⟨x,hx,rfl⟩)
   refine ⟨?_,h⟩
   apply Classical.byContradiction
   intro hc
   rw [excB_long (by rw [show (bs x).length = x.size from size_ba x]; omega)] at h
   cases h
  have hBa : Hid (∀ x ∈ xs,∀ W,Calls Tryz.prog 120 #[.string x] W fun e w' => e = .returned (.string ⟨(bare (bs x)).toArray⟩) ∧ w' = W) := fun x hx W => bare_any x (by have := (hgxF.out x hx).1; omega) W
  have hHit : Hid (∀ x ∈ xs,bare (bs x) = bs lv → PT = dashP (bs x) 0) := fun x hx hb => by
   show _ = _
   have := exE_at (x := bs x) (xs.map bs) [] hfr (.inl (List.mem_map.2 ⟨x,hx,rfl⟩))
   rw [List.nil_append,excW_bare,hb] at this
   rw [e2,this,← excP_dash (hgxF.out x hx).2]; rfl
  have hMiss : Hid ((∀ x ∈ xs,bare (bs x) ≠ bs lv) → PT = oddK (ps.map bs) (bs lv) (lv.size - 2)) := fun h => by
   show _ = _
   rw [e2,exE_none _ _ rfl (fun y hy => by
    obtain ⟨x,hx,rfl⟩ := List.mem_map.1 hy
    exact h x hx)]
   show oddV _ _ = _
   unfold oddV oddK
   rw [show (bs lv).length = lv.size from size_ba lv]
  have hVal : Hid (∀ W va,TxAt W va ps → Calls Tryz.prog 121 #[va,.string lv] W fun e w' => ∃ d,e = .returned (.slice (some ⟨W.heap.size,0,none⟩) (lv.size + 1) (lv.size + 1)) ∧ Below W.heap.size W w' ∧ d.length = lv.size + 1 ∧ IB w' W.heap.size d ∧ ∀ (k : Nat) (h : k < d.length),d[k] = valI (ps.map bs) (dot (bs lv)) (k + 1)) := fun W va h => values_any va ps lv hls hp hgpF.out W h
  clear e1 e2 hPT hlv hgp hgx hfr hw
  have hRh : Hid (∀ W,Below w.heap.size w W → RH W base m ps xs) := fun W hb => hR.below hb
  clear hR
  go_enter Tryz.func82,Tryz.ntmps82
  go_wp2_with (go_at_call 119; refine hLo.mono ?_; rintro e wl ⟨rfl,hbl⟩)
  obtain ⟨va,vx,c0,c1,TA,TX⟩ := (hRh.out _ hbl).tx
  obtain ⟨aa,ca,rfl,-⟩ := TA.ex
  obtain ⟨ax,cx,rfl,-⟩ := TX.ex
  have TAh : Hid (TxAt wl (.slice aa ps.length ca) ps) := TA
  have TXh : Hid (TxAt wl (.slice ax xs.length cx) xs) := TX
  clear TA TX hLo
  go_loopw [8,9] (fun o i wr => ∃ k : Nat,k ≤ xs.length ∧ o = .slice none 0 0 ∧ i = .int .i64 k ∧ wr = wl ∧ Hid (∀ (j : Nat) (h : j < xs.length),j < k → bare (bs (xs[j]'h)) ≠ bs lv)) (fun _ i _ => xs.length - (intOf i).toNat)
  case atStart => exact ⟨0,by omega,rfl,rfl,rfl,fun j _ hj => by omega⟩
  case round =>
   obtain ⟨k,hk,rfl,rfl,rfl,hall⟩ := hrel
   obtain ⟨wl,rfl⟩ : ∃ wl,wl = wr := ⟨_,rfl⟩
   by_cases hlt : k < xs.length
   ·have hkl : (k : Int) < xs.length := by omega
    obtain ⟨b0,o0,hab,cj⟩ := tx_cell TXh.out hlt
    subst hab
    have hx128 := (hgxF.out _ (List.getElem_mem hlt)).1
    have hB := hBa.out _ (List.getElem_mem hlt)
    by_cases heq : bare (bs (xs[k]'hlt)) = bs lv
    ·have hPx := hHit.out _ (List.getElem_mem hlt) heq
     have hqq : (⟨(bare (bs (xs[k]'hlt))).toArray⟩ : ByteArray) = lv := by rw [heq]
     rw [hqq] at hB
     have hPxh : Hid (PT = dashP (bs (xs[k]'hlt)) 0) := hPx
     generalize xs[k]'hlt = x at *
     clear hall heq hPx hqq hHit hMiss hVal
     go_wp2_with (go_at_call 120; refine (hB _).mono ?_; rintro e w' ⟨rfl,hww⟩; subst w')
     go_loopw [8,11,12] (fun o kk jj wr => ∃ (j n : Nat),j ≤ x.size ∧ n ≤ j ∧ jj = .int .i64 j ∧ kk = .int .i64 n ∧ Hid (n = (bare ((bs x).take j)).length) ∧ Below wl.heap.size wl wr ∧ Hid (wr.ownsRow wl.heap.size 3 1 o (dashP ((bs x).take j) 0).length (ints (dashP ((bs x).take j) 0)))) (fun _ _ jj _ => x.size - (intOf jj).toNat)
     case atStart => exact ⟨0,0,by omega,by omega,rfl,rfl,rfl,Below.refl _ _,World.ownsRow_nil _ _ _ _⟩
     case round =>
      obtain ⟨j,n,hj,hnj,rfl,rfl,hn,hbw,hrow⟩ := hrel
      by_cases hjl : j < x.size
      ·have hjlI : (j : Int) < x.size := by omega
       have ht1 : (bs x).take (j + 1) = (bs x).take j ++ [x[j]'hjl] := take_succ_ba hjl
       have e45 : (((x[j]'hjl).toNat : Int) == 45) = ((x[j]'hjl) == 45) := beqJ (n := 45) (by decide)
       have hdl : (dashP ((bs x).take j) 0).length ≤ 200 := Nat.le_trans (dashP_len _ _) (by rw [List.length_take]; omega)
       have hd1 := dashP_append ((bs x).take j) [x[j]'hjl] 0
       rw [← ht1,Nat.zero_add,← hn.out] at hd1
       cases hc : ((x[j]'hjl) == 45) with
       | true =>
        have hd2 : dashP ((bs x).take (j + 1)) 0 = dashP ((bs x).take j) 0 ++ [(n : Int)] := by rw [hd1,dashP,if_pos hc]; rfl
        have hn2 : Hid (n = (bare ((bs x).take (j + 1))).length) := by show _ = _; rw [ht1,bare_snoc,if_pos hc]; exact hn.out
        obtain ⟨av,cv,hv⟩ := row_val hrow.out
        subst hv
        have hnext : Hid (∀ v' wz,wz.ownsRow wl.heap.size 3 1 v' ((dashP ((bs x).take j) 0).length + 1) (ints (dashP ((bs x).take j) 0) ++ [.int .i64 (n : Int)]) → (wr.alloc (.cells #[.int .i64 (n : Int)] 3)).grownBy wz (Value.slice av (dashP ((bs x).take j) 0).length cv).ownBlock → Below wl.heap.size wl wz ∧ Hid (wz.ownsRow wl.heap.size 3 1 v' (dashP ((bs x).take (j + 1)) 0).length (ints (dashP ((bs x).take (j + 1)) 0)))) := fun v' wz h1 h2 => by
         refine ⟨below_grown (below_one hbw _) (hrow.out.alloc _) (Nat.le_refl _) (Nat.le_refl _) h2,?_⟩
         rw [hd2]
         show World.ownsRow _ _ _ _ _ _ _
         rw [List.length_append]
         have e : ints (dashP ((bs x).take j) 0 ++ [(n : Int)]) = ints (dashP ((bs x).take j) 0) ++ [.int .i64 (n : Int)] := by simp [ints]
         rw [e]; exact h1
        have hrowa : Hid (wr.ownsRow wl.heap.size 3 1 (.slice av (dashP ((bs x).take j) 0).length cv) (dashP ((bs x).take j) 0).length (ints (dashP ((bs x).take j) 0))) := hrow
        have hsz := hbw.size
        rw [hc] at e45
        generalize hgl : (dashP ((bs x).take j) 0).length = m3 at *
        clear hrow hd1 hd2 ht1 hn hc hgl
        go_wp2_with (at_builtin; refine wpList_append_any _ rfl _ _ 111 rfl wl.heap.size 3 i3 _ 1 8 Tryz.underlying111 hi3 hy0 hy1 hy2 rfl (by decide) _ m3 _ rfl (by exact hrowa.out.alloc _) 1 _ _ rfl (by exact srcs_one wr 3 (.int .i64 n) rfl) (by unfold maxLen; omega) (by omega) (by simp; omega) ?_; intro v2 wz hown hgrow; obtain ⟨a2,cap2,rfl⟩ := row_val hown)
        have hfin := hnext.out _ wz hown hgrow
        go_roundw
        case rel => exact ⟨j + 1,n,by omega,by omega,by simp,rfl,hn2,hfin.1,hfin.2⟩
        case measure => simp [intOf]; omega
       | false =>
        have hd2 : dashP ((bs x).take (j + 1)) 0 = dashP ((bs x).take j) 0 := by rw [hd1,dashP,if_neg (by rw [hc]; decide),dashP,List.append_nil]
        have hn2 : Hid (n + 1 = (bare ((bs x).take (j + 1))).length) := by show _ = _; rw [ht1,bare_snoc,if_neg (by rw [hc]; decide),List.length_append,← hn.out]; rfl
        have hrow2 : Hid (wr.ownsRow wl.heap.size 3 1 u8 (dashP ((bs x).take (j + 1)) 0).length (ints (dashP ((bs x).take (j + 1)) 0))) := by rw [hd2]; exact hrow
        rw [hc] at e45
        clear hrow hd1 hd2 ht1 hn hc
        go_wp2_with fail
        go_roundw
        case rel => exact ⟨j + 1,n + 1,by omega,by omega,by simp,by simp,hn2,hbw,hrow2⟩
        case measure => simp [intOf]; omega
      ·obtain rfl : j = x.size := by omega
       have hrow2 : Hid (wr.ownsRow wl.heap.size 3 1 u8 PT.length (ints PT)) := by
        have h := hrow.out
        rw [show (bs x).take x.size = bs x from take_all_ba x,← hPxh.out] at h
        exact h
       clear hrow
       go_wp2_with fail
       go_ret2
       exact ⟨_,rfl,hbl.trans (hbw.mono hbl.size),ownsRow_base hrow2.out hbl.size⟩
    ·obtain ⟨qx,hqx⟩ : ∃ q : ByteArray,(⟨(bare (bs (xs[k]'hlt))).toArray⟩ : ByteArray) = q := ⟨_,rfl⟩
     have hneq : (ByteArray.toList qx == ByteArray.toList lv) = false := by
      rw [beq_eq_false_iff_ne,ByteArray.toList_eq,ByteArray.toList_eq,← hqx]
      exact heq
     have hall2 : Hid (∀ (j : Nat) (h : j < xs.length),j < k + 1 → bare (bs (xs[j]'h)) ≠ bs lv) := fun j h hj => by
      by_cases hh : j < k
      ·exact hall.out j h hh
      ·obtain rfl : j = k := by omega
       exact heq
     rw [hqx] at hB
     generalize xs[k]'hlt = x at *
     clear hall heq hqx
     go_wp2_with (go_at_call 120; refine (hB _).mono ?_; rintro e w' ⟨rfl,hww⟩; subst w')
     go_roundw
     case rel => exact ⟨k + 1,by omega,rfl,by simp,by first | rfl | trivial,hall2⟩
     case measure => simp [intOf]; omega
   ·have hkl : ¬ (k : Int) < xs.length := by omega
    have hPm := hMiss.out (fun x hx => by
     obtain ⟨j,hj,rfl⟩ := List.getElem_of_mem hx
     exact hall.out j hj (by omega))
    have hPmh : Hid (PT = oddK (ps.map bs) (bs lv) (lv.size - 2)) := hPm
    have hV := hVal.out _ _ TAh.out
    clear hall hPm hHit hMiss hVal
    go_wp2_with (go_at_call 121; refine hV.mono ?_; rintro e wv ⟨d,rfl,hbv,hdl,hIB,hval⟩)
    have hvalh : Hid (∀ (k : Nat) (h : k < d.length),d[k] = valI (ps.map bs) (dot (bs lv)) (k + 1)) := hval
    have hIBh : Hid (IB wv wl.heap.size d) := hIB
    clear hval hIB hV
    go_loopw [8,14] (fun o kk wr => ∃ k : Nat,2 ≤ k ∧ (k ≤ 2 ∨ k ≤ lv.size - 2) ∧ kk = .int .i64 k ∧ Below wv.heap.size wv wr ∧ Hid (wr.ownsRow wv.heap.size 3 1 o (oddK (ps.map bs) (bs lv) k).length (ints (oddK (ps.map bs) (bs lv) k)))) (fun _ kk _ => 100 - (intOf kk).toNat)
    case atStart => exact ⟨2,by omega,by omega,rfl,Below.refl _ _,by rw [oddK_two]; exact World.ownsRow_nil _ _ _ _⟩
    case round =>
     obtain ⟨k',hk2,hkl',rfl,hbw,hrow⟩ := hrel
     by_cases hgo : k' + 3 ≤ lv.size
     ·have hgoI : (k' : Int) + 3 ≤ lv.size := by omega
      have hkd : k' < d.length := by omega
      have cj : wr.cell? ⟨wl.heap.size,k',none⟩ = some (.int .i64 (d[k']'hkd)) := by
       have h := (hIBh.out.cell hkd).1
       rw [← h]; exact hbw.cell (cell_lt h)
      have hdv := hvalh.out k' hkd
      have hnn := valI_nonneg (ps.map bs) (dot (bs lv)) (k' + 1)
      have hsucc := oddK_succ (ps.map bs) (bs lv) k'
      have hlen := oddK_len (ps.map bs) (bs lv) k'
      have hmod : (d[k']'hkd).tmod 2 = valI (ps.map bs) (dot (bs lv)) (k' + 1) % 2 := by
       rw [hdv,Int.tmod_eq_emod_of_nonneg hnn]
      have hkd1 : (k' : Int) < (lv.size : Int) + 1 := by omega
      have hkd2 : k' < lv.size + 1 := by omega
      generalize d[k']'hkd = y at *
      generalize valI (ps.map bs) (dot (bs lv)) (k' + 1) = z at *
      by_cases ho : z % 2 = 1
      ·rw [if_pos ⟨hk2,ho⟩] at hsucc
       obtain ⟨av,cv,hv⟩ := row_val hrow.out
       subst hv
       have hnext : Hid (∀ v' wz,wz.ownsRow wv.heap.size 3 1 v' ((oddK (ps.map bs) (bs lv) k').length + 1) (ints (oddK (ps.map bs) (bs lv) k') ++ [.int .i64 (k' : Int)]) → (wr.alloc (.cells #[.int .i64 (k' : Int)] 3)).grownBy wz (Value.slice av (oddK (ps.map bs) (bs lv) k').length cv).ownBlock → Below wv.heap.size wv wz ∧ Hid (wz.ownsRow wv.heap.size 3 1 v' (oddK (ps.map bs) (bs lv) (k' + 1)).length (ints (oddK (ps.map bs) (bs lv) (k' + 1))))) := fun v' wz h1 h2 => by
        refine ⟨below_grown (below_one hbw _) (hrow.out.alloc _) (Nat.le_refl _) (Nat.le_refl _) h2,?_⟩
        rw [hsucc]
        show World.ownsRow _ _ _ _ _ _ _
        rw [List.length_append]
        have e : ints (oddK (ps.map bs) (bs lv) k' ++ [(k' : Int)]) = ints (oddK (ps.map bs) (bs lv) k') ++ [.int .i64 (k' : Int)] := by simp [ints]
        rw [e]; exact h1
       have hrowa : Hid (wr.ownsRow wv.heap.size 3 1 (.slice av (oddK (ps.map bs) (bs lv) k').length cv) (oddK (ps.map bs) (bs lv) k').length (ints (oddK (ps.map bs) (bs lv) k'))) := hrow
       have hsz := hbw.size
       have f1 : (y.tmod 2 == 1) = true := by rw [hmod,ho]; rfl
       have f2 : y.tmod 2 = 1 := by rw [hmod,ho]
       generalize hgl : (oddK (ps.map bs) (bs lv) k').length = m3 at *
       clear hrow hsucc hdv hmod ho hgl f2
       go_wp2_with (at_builtin; refine wpList_append_any _ rfl _ _ 111 rfl wv.heap.size 3 i3 _ 1 8 Tryz.underlying111 hi3 hy0 hy1 hy2 rfl (by decide) _ m3 _ rfl (by exact hrowa.out.alloc _) 1 _ _ rfl (by exact srcs_one wr 3 (.int .i64 k') rfl) (by unfold maxLen; omega) (by omega) (by simp; omega) ?_; intro v2 wz hown hgrow; obtain ⟨a2,cap2,rfl⟩ := row_val hown)
       have hfin := hnext.out _ wz hown hgrow
       go_roundw
       case rel => exact ⟨k' + 1,by omega,by omega,by simp,hfin.1,hfin.2⟩
       case measure => simp [intOf]; omega
      ·rw [if_neg (fun h => ho h.2)] at hsucc
       have hrow2 : Hid (wr.ownsRow wv.heap.size 3 1 u8 (oddK (ps.map bs) (bs lv) (k' + 1)).length (ints (oddK (ps.map bs) (bs lv) (k' + 1)))) := by rw [hsucc]; exact hrow
       have f1 : (y.tmod 2 == 1) = false := by rw [hmod,beq_eq_false_iff_ne]; exact ho
       clear hrow hsucc hdv hmod ho
       go_wp2_with fail
       go_roundw
       case rel => exact ⟨k' + 1,by omega,by omega,by simp,hbw,hrow2⟩
       case measure => simp [intOf]; omega
     ·have hgoI : ¬ (k' : Int) + 3 ≤ lv.size := by omega
      have hrow2 : Hid (wr.ownsRow wv.heap.size 3 1 u8 PT.length (ints PT)) := by
       have h := hrow.out
       by_cases h2 : k' ≤ 2
       ·obtain rfl : k' = 2 := by omega
        have e0 : ∀ n,n ≤ 2 → oddK (ps.map bs) (bs lv) n = [] := fun n hn => by
         obtain rfl | rfl | rfl : n = 0 ∨ n = 1 ∨ n = 2 := by omega
         ·rfl
         ·rw [oddK_succ,if_neg (by omega)]; rfl
         ·exact oddK_two _ _
        rw [oddK_two,← e0 (lv.size - 2) (by omega),← hPmh.out] at h
        exact h
       ·rw [show k' = lv.size - 2 by omega,← hPmh.out] at h
        exact h
      clear hrow
      go_wp2_with fail
      go_ret2
      have hbz := hbl.trans (hbv.mono hbl.size)
      exact ⟨_,rfl,hbz.trans (hbw.mono hbz.size),ownsRow_base hrow2.out hbz.size⟩
end Go.Proofs.YthcphnifnfnceaaGreatDoor.Hy

namespace Go.Proofs.YthcphnifnfnceaaGreatDoor.Hy
open Go.RowKit Go.Shelf
set_option maxRecDepth 100000
set_option maxHeartbeats 4000000

theorem newI_plain : newI PP PX = 0 := by
 unfold newI
 rw [if_neg (by decide +kernel),good_P,good_X,fresh_X]; rfl
theorem rplain_any (w : World) : Calls Tryz.prog 81 #[] w fun e w' => ∃ m,e = .returned (.pointer (some ⟨m,0,none⟩)) ∧ Below w.heap.size w w' ∧ ∃ base,RH w' base m (tx PP) (tx PX) := by
 have hN : Hid (∀ W v1 v2,Below w.heap.size w W → TxAt W v1 (tx PP) → TxAt W v2 (tx PX) → Calls Tryz.prog 118 #[v1,v2] W fun e w' => ∃ m,e = .returned (.tuple #[.pointer (some ⟨m,0,none⟩),.int .i64 0]) ∧ Below w.heap.size w w' ∧ ∃ base,RH w' base m (tx PP) (tx PX)) := fun W v1 v2 hb h1 h2 => by
  refine (rnew_any v1 v2 (tx PP) (tx PX) W h1 h2 (by decide +kernel) (by decide +kernel) (by
   intro s hs
   obtain ⟨x,hx,rfl⟩ := List.mem_map.1 hs
   exact size_X x hx)).mono ?_
  rintro e w' ⟨hb',h⟩
  rw [tx_bs,tx_bs,newI_plain] at h
  rcases h with ⟨h,-⟩ | ⟨-,-,m,rfl,hR⟩
  ·exact absurd rfl h
  ·exact ⟨m,rfl,hb.trans (hb'.mono hb.size),_,hR⟩
 have hb2 := fun A B => below_one (below_one (Below.refl w.heap.size w) A) B
 go_enter Tryz.func81,Tryz.ntmps81
 go_wp2_with (go_at_call 118; refine (hN.out _ _ _ (hb2 _ _) (TxAt.next (tx_lit w (tx PP) _ 30 (by first | rfl | kernel_rfl) (by first | rfl | kernel_rfl) rfl) _) (tx_lit _ (tx PX) _ 3 (by first | rfl | kernel_rfl) (by first | rfl | kernel_rfl) (by simp))).mono ?_; rintro e w' ⟨m,rfl,hbw,hR⟩)
 go_ret
 exact ⟨m,rfl,hbw,hR⟩
end Go.Proofs.YthcphnifnfnceaaGreatDoor.Hy
