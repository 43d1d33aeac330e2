/-
  What is proved here: what eachDigit does, its digits laid.
  What is proved here: maps in memory, read, turned and kept.
  What is proved here: tries in memory: nodes, kept and turned.
  What is proved here: what grow of a node does.
-/
import Derived.Test.YtbdpghjegachaaaGreatDoorE12
import Derived.Maps.OwnSet
namespace Go.Proofs.YtbdpghjegachaaaGreatDoor.Hy
open Go.RowKit Go.Shelf
set_option maxRecDepth 100000
set_option maxHeartbeats 1000000

theorem take_succ_ba {p : ByteArray} {k : Nat} (h : k < p.size) : p.data.toList.take (k + 1) = p.data.toList.take k ++ [p[k]'h] := by
 have hl : k < p.data.toList.length := by simpa using h
 rw [List.take_succ_eq_append_getElem hl]
 simp [ByteArray.getElem_eq_getElem_data]
theorem take_all_ba (p : ByteArray) : p.data.toList.take p.size = p.data.toList := List.take_of_length_le (by show p.data.toList.length ≤ p.data.size; simp)
theorem ltrs_snoc (q : Bs) (c : UInt8) : ltrs (q ++ [c]) = if dgt c then ltrs q else ltrs q ++ [c] := by
 unfold ltrs
 rw [List.filter_append]
 by_cases h : dgt c <;> simp [h]
theorem digs_snoc (q : Bs) (c : UInt8) : digs 0 (q ++ [c]) = if dgt c then digs 0 q ++ [((ltrs q).length,(c.toNat : Int) - 48)] else digs 0 q := by
 rw [digs_append]
 by_cases h : dgt c
 ·rw [if_pos h,digs,if_pos h]; simp [digs]
 ·rw [if_neg h,digs,if_neg h]; simp [digs]
theorem ltrs_le (q : Bs) : (ltrs q).length ≤ q.length := List.length_filter_le _ _

theorem eachDigit_any (p : ByteArray) (hp : p.size ≤ 200) {w0 : World} {v0 : Value} {b o : Nat} {cs : Array Value} {t : TypeId} {d : List Int} {w : World} (ho : o < cs.size) (ht : t ≠ 3) (h : Dig w0 v0 b o cs t d w) (hd : d.length ≤ 1000) :
  Calls Tryz.prog 202 #[.string p,.func (.func 192) #[.pointer (some ⟨b,o,none⟩)] #[]] w fun e w' => e = .returned (.tuple #[]) ∧ Dig w0 v0 b o cs t (layAll d (digs 0 p.data.toList)) w' := by
 have hW : Hid (p.data.toList.take p.size = p.data.toList) := take_all_ba p
 go_enter Tryz.func202,Tryz.ntmps202
 go_wp2_with fail
 go_loopw [4,8] (fun n i wr => ∃ (k m : Nat) (d1 : List Int),k ≤ p.size ∧ i = .int .i64 k ∧ n = .int .i64 m ∧ m ≤ k ∧ Hid (m = (ltrs (p.data.toList.take k)).length) ∧ Hid (d1 = layAll d (digs 0 (p.data.toList.take k))) ∧ d1.length ≤ 1000 ∧ Dig w0 v0 b o cs t d1 wr) (fun _ i _ => p.size - (intOf i).toNat)
 case atStart => exact ⟨0,0,d,by omega,rfl,rfl,by omega,rfl,rfl,hd,h⟩
 case round =>
  obtain ⟨k,m,d1,hk,rfl,rfl,hmk,hm,hd1,hl1,hD⟩ := hrel
  by_cases hlt : k < p.size
  ·have ht1 := take_succ_ba hlt
   cases hc : dgI ((p[k]'hlt).toNat : Int) with
   | true =>
    have hr := dgI_rng hc
    have hm2 : Hid (m = (ltrs (p.data.toList.take (k + 1))).length) := by
     show _ = _
     rw [ht1,ltrs_snoc,show dgt (p[k]'hlt) = true from hc,if_pos rfl]; exact hm.out
    have hd2 : Hid (layL d1 m (((p[k]'hlt).toNat : Int) - 48) = layAll d (digs 0 (p.data.toList.take (k + 1)))) := by
     show _ = _
     rw [ht1,digs_snoc,show dgt (p[k]'hlt) = true from hc,if_pos rfl,layAll_append,← hd1.out,← hm.out]; rfl
    have hS := lay_step ho ht hD m (((p[k]'hlt).toNat : Int) - 48) (by omega) (by omega)
    have hl2 : (layL d1 m (((p[k]'hlt).toNat : Int) - 48)).length ≤ 1000 := by rw [lay_len]; omega
    have hI := isDigit_any ((p[k]'hlt).toNat : Int)
    rw [hc] at hI
    clear ht1 hm hd1 hc
    generalize layL d1 m (((p[k]'hlt).toNat : Int) - 48) = d2 at hd2 hS hl2
    obtain ⟨hr1,hr2⟩ := hr
    go_wp2_with (first | (go_at_call 199; refine (hI _).mono ?_; rintro e w' ⟨rfl,hww⟩; subst w') | (go_at_call 192; refine hS.mono ?_; rintro e w' ⟨rfl,hD2⟩))
    go_roundw
    case rel => exact ⟨k + 1,m,d2,by omega,by simp,rfl,by omega,hm2,hd2,hl2,hD2⟩
    case measure => simp [intOf]; omega
   | false =>
    have hm2 : Hid (m + 1 = (ltrs (p.data.toList.take (k + 1))).length) := by
     show _ = _
     rw [ht1,ltrs_snoc,show dgt (p[k]'hlt) = false from hc]; simp [hm.out]
    have hd2 : Hid (d1 = layAll d (digs 0 (p.data.toList.take (k + 1)))) := by
     show _ = _
     rw [ht1,digs_snoc,show dgt (p[k]'hlt) = false from hc]; simpa using hd1.out
    have hI := isDigit_any ((p[k]'hlt).toNat : Int)
    rw [hc] at hI
    clear ht1 hm hd1 hc
    go_wp2_with (go_at_call 199; refine (hI _).mono ?_; rintro e w' ⟨rfl,hww⟩; subst w')
    go_roundw
    case rel => exact ⟨k + 1,m + 1,d1,by omega,by simp,by simp,by omega,hm2,hd2,hl1,hD⟩
    case measure => simp [intOf]; omega
  ·obtain rfl : k = p.size := by omega
   rw [hW.out] at hd1
   have := hd1.out
   subst this
   clear hW hm hd1
   go_wp2_with fail
   go_returns
   exact ⟨rfl,hD⟩

end Go.Proofs.YtbdpghjegachaaaGreatDoor.Hy

namespace Go.Proofs.YtbdpghjegachaaaGreatDoor.Hy
open Go.RowKit Go.Shelf
open Go.Maps (Keyed)

def R0 (v : Value) : Option (DataW Value × List MemPlace) := some (.held v,[])
def MapAt {κ : Type} (kt : TypeId) (enc : κ → Lit) (w : World) (mb : Nat) (f : κ → Option Value) (M : Nat) : Prop :=
 ∃ D,w.ownsMap Tryz.prog kt R0 mb M D ∧ ∀ c z,D.atKey (enc c) z = (f c).elim z .held
section
variable {κ : Type} {kt : TypeId} {enc : κ → Lit} {w w' : World} {mb M : Nat} {f : κ → Option Value}
theorem MapAt.lt (h : MapAt kt enc w mb f M) : mb < w.heap.size := by obtain ⟨D,h1,_⟩ := h; exact h1.lt
theorem MapAt.isMap (h : MapAt kt enc w mb f M) : ∃ es clock,w.heap[mb]? = some (.map es clock) := by
 obtain ⟨D,⟨es,clock,hb,_⟩,_⟩ := h; exact ⟨es,clock,hb⟩
theorem MapAt.mono {M' : Nat} (h : MapAt kt enc w mb f M) (hM : M ≤ M') : MapAt kt enc w mb f M' := by
 obtain ⟨D,h1,h2⟩ := h; exact ⟨D,h1.mono hM,h2⟩
theorem MapAt.turns {X : Nat → Prop} (h : MapAt kt enc w mb f M) (ht : Turns X w w') (hx : ¬ X mb) : MapAt kt enc w' mb f M := by
 have hlt := h.lt
 obtain ⟨D,⟨es,clock,hb,r⟩,h2⟩ := h
 exact ⟨D,⟨es,clock,(ht.block mb hlt hx).trans hb,r⟩,h2⟩
theorem MapAt.made (w : World) : MapAt kt enc (w.alloc (.map #[] 0)) w.heap.size (fun _ => none) 0 :=
 ⟨.map [],World.ownsMap_made w Tryz.prog kt R0,fun c z => by
  show DataW.atKey (.map []) (enc c) z = z
  rfl⟩
theorem MapAt.look (h : MapAt kt enc w mb f M) (K : Keyed Tryz.prog kt) {t e : TypeId} (ht : Tryz.prog.underlying t = some (.map kt e)) {z : Value} (hz : (zeroValue e).run Tryz.prog w = .ok z w) {key : Value} (c : κ) (hkey : keyOf Tryz.prog kt key = some (enc c)) :
  (Instr.lookup t (.map (some mb)) key false).run Tryz.prog w = .ok ((f c).getD z) w := by
 obtain ⟨D,h1,h2⟩ := h
 obtain ⟨v,ps,hrun,hv⟩ := h1.lookup K ht hz (zd := .held z) (zp := []) rfl hkey
 simp only [R0,Option.some.injEq,Prod.mk.injEq] at hv
 obtain ⟨hv,_⟩ := hv
 rw [h2] at hv
 rw [hrun]
 cases hf : f c with
 | none => rw [hf] at hv; cases hv; rfl
 | some u => rw [hf] at hv; cases hv; rfl
theorem MapAt.has (h : MapAt kt enc w mb f M) : ∃ D,w.ownsMap Tryz.prog kt R0 mb M D ∧ (∀ c z,D.atKey (enc c) z = (f c).elim z .held) ∧ ∀ c,Maps.has D (enc c) = (f c).isSome := by
 obtain ⟨D,h1,h2⟩ := h
 refine ⟨D,h1,h2,fun c => ?_⟩
 cases hf : f c with
 | none => exact Maps.has_false_of_atKey fun z => by rw [h2,hf]; rfl
 | some u => exact Maps.has_true_of_atKey (y := .held u) fun z => by rw [h2,hf]; rfl
theorem MapAt.look_ok (h : MapAt kt enc w mb f M) (K : Keyed Tryz.prog kt) {t e : TypeId} (ht : Tryz.prog.underlying t = some (.map kt e)) {z : Value} (hz : (zeroValue e).run Tryz.prog w = .ok z w) {key : Value} (c : κ) (hkey : keyOf Tryz.prog kt key = some (enc c)) :
  (Instr.lookup t (.map (some mb)) key true).run Tryz.prog w = .ok (.tuple #[(f c).getD z,.bool (f c).isSome]) w := by
 obtain ⟨D,h1,h2,h3⟩ := h.has
 obtain ⟨v,ps,hrun,hv⟩ := h1.look_ok K ht hz (zd := .held z) (zp := []) rfl hkey
 simp only [R0,Option.some.injEq,Prod.mk.injEq] at hv
 obtain ⟨hv,_⟩ := hv
 rw [h2] at hv
 rw [hrun,h3]
 cases hf : f c with
 | none => rw [hf] at hv; cases hv; rfl
 | some u => rw [hf] at hv; cases hv; rfl
theorem MapAt.put [DecidableEq κ] (h : MapAt kt enc w mb f M) (K : Keyed Tryz.prog kt) {t e : TypeId} (ht : Tryz.prog.underlying t = some (.map kt e)) (hM : M < maxLen) {key : Value} (c : κ) (hkey : keyOf Tryz.prog kt key = some (enc c)) (v : Value)
  (hi : ∀ a b,enc a = enc b → a = b) (hl : ∀ a,WideAt.IsKeyLit (enc a)) :
  ∃ w',(Instr.mapUpdate t (.map (some mb)) key v).run Tryz.prog w = .ok () w' ∧ MapAt kt enc w' mb (fun a => if a = c then some v else f a) (M + 1) ∧ Turns (fun k => k = mb) w w' := by
 obtain ⟨D,h1,h2⟩ := h
 obtain ⟨w',hrun,ho,hg⟩ := h1.update K ht hM hkey (val := v) (d := .held v) (ps := []) rfl
 refine ⟨w',hrun,⟨_,ho,fun a z => ?_⟩,⟨hg.os,hg.tape,hg.output,hg.size,fun k hk hx => hg.block k hk (by simp; exact hx)⟩⟩
 by_cases e : a = c
 ·subst e
  simp only [if_true]
  exact Maps.atKey_put_same h1.isMap (hl _) _ _
 ·simp only [e,if_false]
  rw [Maps.atKey_put_other (fun h => e (hi _ _ h)),h2]
end
def encB (c : UInt8) : Lit := .int .u8 c.toNat
theorem encB_inj (a b : UInt8) (h : encB a = encB b) : a = b := by
 simp [encB] at h
 exact UInt8.toNat_inj.1 (by omega)
theorem law5 : Keyed Tryz.prog 5 := Maps.int_keyed Tryz.underlying5
theorem keyOf5 (c : UInt8) : keyOf Tryz.prog 5 (.int .u8 c.toNat) = some (encB c) := Maps.keyOf_int_mk Tryz.underlying5 (by
 have := c.toNat_lt
 have h0 : IntKind.u8.min = 0 := rfl
 have h1 : IntKind.u8.max = 255 := rfl
 simp [Lit.wf]
 omega)
theorem zero79 (w : World) : (zeroValue 238).run Tryz.prog w = .ok (.pointer none) w := by kernel_rfl
def encS (s : ByteArray) : Lit := .string s.data.toList
theorem encS_inj (a b : ByteArray) (h : encS a = encS b) : a = b := by
 have h1 : a.data.toList = b.data.toList := by simpa [encS] using h
 have h2 : a.data = b.data := Array.toList_inj.1 h1
 obtain ⟨a⟩ := a; obtain ⟨b⟩ := b; simp at h2; rw [h2]
theorem law9 : Keyed Tryz.prog 9 := Maps.string_keyed Tryz.underlying9
theorem keyOf9 {s : ByteArray} (h : s.size ≤ maxLen) : keyOf Tryz.prog 9 (.string s) = some (encS s) := Go.WideMaps.keyOf_string_mk Tryz.underlying9 h
theorem zero34 (w : World) : (zeroValue 44).run Tryz.prog w = .ok (.slice none 0 0) w := by kernel_rfl
end Go.Proofs.YtbdpghjegachaaaGreatDoor.Hy

namespace Go.Proofs.YtbdpghjegachaaaGreatDoor.Hy
open Go.RowKit Go.Shelf

structure Nd where
 b : Nat
 o : Nat
 cs : Array Value
 t : TypeId
 m : Option Nat
 v : Value
def Nd.at (x : Nd) : Value := .pointer (some ⟨x.b,x.o,none⟩)
def Nd.Own (x : Nd) (k : Nat) : Prop := k = x.b ∨ x.m = some k ∨ x.v.ownBlock = some k
structure Loc (w : World) (M : Nat) (x : Nd) (d : List Int) (ch : UInt8 → Option Value) : Prop where
 blk : Blk w x.b x.cs x.t
 cm : x.cs[x.o]? = some (.map x.m)
 ce : x.cs[x.o + 1]? = some x.v
 ty : x.t ≠ 3
 row : w.ownsRow 0 3 1 x.v d.length (ints d)
 len : d.length ≤ 1000
 nomap : x.m = none → ∀ c,ch c = none
 map : ∀ mb,x.m = some mb → MapAt 5 encB w mb ch M
theorem row_lt {w : World} {base : Nat} {e : TypeId} {sz : Nat} {v : Value} {n g : Nat} {xs : List Value} (h : w.ownsRow base e sz v n xs) (hg : v.ownBlock = some g) : g < w.heap.size := (h.lt g hg).2
theorem Loc.lt {w : World} {M : Nat} {x : Nd} {d : List Int} {ch : UInt8 → Option Value} (h : Loc w M x d ch) {k : Nat} (hk : x.Own k) : k < w.heap.size := by
 rcases hk with rfl | hk | hk
 ·exact h.blk.lt
 ·exact (h.map k hk).lt
 ·exact row_lt h.row hk
theorem Loc.turns {w w' : World} {M : Nat} {x : Nd} {d : List Int} {ch : UInt8 → Option Value} {X : Nat → Prop} (h : Loc w M x d ch) (ht : Turns X w w') (hx : ∀ k,X k → ¬ x.Own k) : Loc w' M x d ch :=
 ⟨h.blk.turns ht (fun hX => hx _ hX (.inl rfl)),h.cm,h.ce,h.ty,ownsRow_turns h.row ht (fun g hg hX => hx g hX (.inr (.inr hg))),h.len,h.nomap,fun mb hm => (h.map mb hm).turns ht (fun hX => hx mb hX (.inr (.inl hm)))⟩
theorem Loc.mono {w : World} {M M' : Nat} {x : Nd} {d : List Int} {ch : UInt8 → Option Value} (h : Loc w M x d ch) (hM : M ≤ M') : Loc w M' x d ch :=
 ⟨h.blk,h.cm,h.ce,h.ty,h.row,h.len,h.nomap,fun mb hm => (h.map mb hm).mono hM⟩

abbrev Ns := Bs → Option Nd
def kids (N : Ns) (L : Bs) : UInt8 → Option Value := fun c => (N (L ++ [c])).map Nd.at
structure TrieAt (w : World) (rb : Nat) (s e : Value) (T : Tr) (N : Ns) (M : Nat) : Prop where
 dom : ∀ L,(N L).isSome = (T L).isSome
 root : ∃ x,N [] = some x ∧ x.b = rb ∧ x.o = 1 ∧ x.t = 208 ∧ x.cs = #[s,.map x.m,x.v,e]
 loc : ∀ L x d,N L = some x → T L = some d → Loc w M x d (kids N L)
 ap : ∀ L L' x y,N L = some x → N L' = some y → L ≠ L' → ∀ k,x.Own k → ¬ y.Own k
 cl : ∀ L c,T L = none → T (L ++ [c]) = none
def NOwn (N : Ns) (k : Nat) : Prop := ∃ L x,N L = some x ∧ x.Own k
section
variable {w w' : World} {rb : Nat} {s e : Value} {T : Tr} {N : Ns} {M : Nat}
theorem TrieAt.get (h : TrieAt w rb s e T N M) {L : Bs} {x : Nd} (hx : N L = some x) : ∃ d,T L = some d := by
 have := h.dom L
 rw [hx] at this
 exact Option.isSome_iff_exists.1 this.symm
theorem TrieAt.none_iff (h : TrieAt w rb s e T N M) {L : Bs} : N L = none ↔ T L = none := by
 have := h.dom L
 cases h1 : N L <;> cases h2 : T L <;> simp_all
theorem TrieAt.lt (h : TrieAt w rb s e T N M) {k : Nat} (hk : NOwn N k) : k < w.heap.size := by
 obtain ⟨L,x,hx,hk⟩ := hk
 obtain ⟨d,hd⟩ := h.get hx
 exact (h.loc L x d hx hd).lt hk
theorem TrieAt.turns {X : Nat → Prop} (h : TrieAt w rb s e T N M) (ht : Turns X w w') (hx : ∀ k,X k → ¬ NOwn N k) : TrieAt w' rb s e T N M :=
 ⟨h.dom,h.root,fun L x d h1 h2 => (h.loc L x d h1 h2).turns ht (fun k hX hk => hx k hX ⟨L,x,h1,hk⟩),h.ap,h.cl⟩
theorem TrieAt.mono {M' : Nat} (h : TrieAt w rb s e T N M) (hM : M ≤ M') : TrieAt w rb s e T N M' :=
 ⟨h.dom,h.root,fun L x d h1 h2 => (h.loc L x d h1 h2).mono hM,h.ap,h.cl⟩

def setN (N : Ns) (L : Bs) (x : Nd) : Ns := fun K => if K = L then some x else N K
theorem setN_same (N : Ns) (L : Bs) (x : Nd) : setN N L x L = some x := if_pos rfl
theorem setN_other (N : Ns) {L K : Bs} (x : Nd) (h : K ≠ L) : setN N L x K = N K := if_neg h
theorem kids_setN {L K : Bs} {x x' : Nd} (hx : N L = some x) (hat : x'.at = x.at) : kids (setN N L x') K = kids N K := by
 funext c
 unfold kids
 by_cases h : K ++ [c] = L
 ·rw [h,setN_same,hx]; simp [hat]
 ·rw [setN_other _ _ h]
theorem NOwn_setN {L : Bs} {x x' : Nd} (hx : N L = some x) {S : Nat → Prop} (ho : ∀ k,x'.Own k → x.Own k ∨ S k) {k : Nat} (hk : NOwn (setN N L x') k) : NOwn N k ∨ S k := by
 obtain ⟨K,y,hy,hk⟩ := hk
 by_cases e : K = L
 ·subst e
  rw [setN_same] at hy
  cases hy
  exact (ho k hk).imp (fun h => ⟨K,x,hx,h⟩) id
 ·rw [setN_other _ _ e] at hy
  exact .inl ⟨K,y,hy,hk⟩
theorem TrieAt.change (h : TrieAt w rb s e T N M) {L : Bs} {x x' : Nd} (hx : N L = some x) (hat : x'.at = x.at) {d' : List Int} {X : Nat → Prop} (ht : Turns X w w') (hX : ∀ k,X k → x.Own k)
  (ho : ∀ k,x'.Own k → x.Own k ∨ w.heap.size ≤ k) (hl : Loc w' M x' d' (kids N L)) (hr : L = [] → x'.t = 208 ∧ x'.cs = #[s,.map x'.m,x'.v,e]) : TrieAt w' rb s e (putT T L d') (setN N L x') M := by
 have hb : x'.b = x.b ∧ x'.o = x.o := by
  unfold Nd.at at hat
  injection hat with h1
  injection h1 with h1
  injection h1 with h1 h2
  exact ⟨h1,h2⟩
 refine ⟨fun K => ?_,?_,fun K y d hy hd => ?_,fun K K' y z hy hz hne k hk hk' => ?_,fun K c hK => ?_⟩
 ·by_cases e : K = L
  ·subst e; simp [setN,putT]
  ·rw [setN_other _ _ e,putT,if_neg e]; exact h.dom K
 ·obtain ⟨r,h1,h2,h3,h4,h5⟩ := h.root
  by_cases e : L = []
  ·subst e
   rw [hx] at h1
   cases h1
   exact ⟨x',setN_same _ _ _,hb.1.trans h2,hb.2.trans h3,hr rfl⟩
  ·exact ⟨r,by rw [setN_other _ _ (fun e' => e e'.symm)]; exact h1,h2,h3,h4,h5⟩
 ·rw [kids_setN hx hat]
  by_cases e : K = L
  ·subst e
   rw [setN_same] at hy
   rw [putT,if_pos rfl] at hd
   cases hy; cases hd
   exact hl
  ·rw [setN_other _ _ e] at hy
   rw [putT,if_neg e] at hd
   exact (h.loc K y d hy hd).turns ht (fun k hk hk' => h.ap L K x y hx hy (fun e' => e e'.symm) k (hX k hk) hk')
 ·by_cases e : K = L
  ·subst e
   rw [setN_same] at hy; cases hy
   rw [setN_other _ _ (fun e' => hne e'.symm)] at hz
   rcases ho k hk with h1 | h1
   ·exact h.ap _ _ _ _ hx hz hne k h1 hk'
   ·have := h.lt ⟨K',z,hz,hk'⟩; omega
  ·rw [setN_other _ _ e] at hy
   by_cases e2 : K' = L
   ·subst e2
    rw [setN_same] at hz; cases hz
    rcases ho k hk' with h1 | h1
    ·exact h.ap _ _ _ _ hy hx hne k hk h1
    ·have := h.lt ⟨K,y,hy,hk⟩; omega
   ·rw [setN_other _ _ e2] at hz
    exact h.ap _ _ _ _ hy hz hne k hk hk'
 ·obtain ⟨d0,hd0⟩ := h.get hx
  unfold putT at hK ⊢
  by_cases e : K = L
  ·rw [if_pos e] at hK; cases hK
  ·rw [if_neg e] at hK
   have := h.cl K c hK
   by_cases e2 : K ++ [c] = L
   ·rw [e2,hd0] at this; cases this
   ·rw [if_neg e2]; exact this
theorem putT_self {L : Bs} {d : List Int} (h : T L = some d) : putT T L d = T := by
 funext K
 unfold putT
 by_cases e : K = L
 ·rw [if_pos e,e,h]
 ·rw [if_neg e]
theorem TrieAt.more (h : TrieAt w rb s e T N M) {L : Bs} {x : Nd} (hx : N L = some x) {c : UInt8} (hc : N (L ++ [c]) = none) {y : Nd} {mb : Nat} (hm : x.m = some mb) (ht : Turns (fun k => k = mb) w w')
  (hM : MapAt 5 encB w' mb (fun a => if a = c then some y.at else kids N L a) (M + 1)) (hy : ∀ k,y.Own k → w.heap.size ≤ k) (hl : Loc w' (M + 1) y [] (fun _ => none)) :
  TrieAt w' rb s e (putT T (L ++ [c]) []) (setN N (L ++ [c]) y) (M + 1) := by
 have hne : L ≠ L ++ [c] := fun e => by have := congrArg List.length e; simp at this
 have hkid : ∀ K,K ≠ L → kids (setN N (L ++ [c]) y) K = kids N K := fun K hK => by
  funext a
  unfold kids
  rw [setN_other]
  intro e
  have := List.append_inj' e rfl
  exact hK this.1
 have hT : T (L ++ [c]) = none := h.none_iff.1 hc
 refine ⟨fun K => ?_,?_,fun K z d hz hd => ?_,fun K K' z z' hz hz' hne' k hk hk' => ?_,fun K a hK => ?_⟩
 ·by_cases e : K = L ++ [c]
  ·subst e; simp [setN,putT]
  ·rw [setN_other _ _ e,putT,if_neg e]; exact h.dom K
 ·obtain ⟨r,h1,h2⟩ := h.root
  exact ⟨r,by rw [setN_other _ _ (by simp)]; exact h1,h2⟩
 ·by_cases e : K = L ++ [c]
  ·subst e
   rw [setN_same] at hz
   rw [putT,if_pos rfl] at hd
   cases hz; cases hd
   have e2 : kids (setN N (L ++ [c]) y) (L ++ [c]) = fun _ => none := by
    rw [hkid _ (fun e => hne e.symm)]
    funext a
    unfold kids
    rw [h.none_iff.2 (h.cl _ a hT)]; rfl
   rw [e2]; exact hl
  ·rw [setN_other _ _ e] at hz
   rw [putT,if_neg e] at hd
   have h0 := (h.loc K z d hz hd)
   by_cases e2 : K = L
   ·subst e2
    rw [hx] at hz; cases hz
    have hmb : ∀ k,k = mb → k = x.b ∨ x.v.ownBlock = some k → False := fun k hk hk' => by
     subst hk
     obtain ⟨es,cl,hmm⟩ := (h0.map k hm).isMap
     rcases hk' with rfl | hk'
     ·have := h0.blk; rw [Blk,hmm] at this; cases this
     ·rcases h0.row.2 with ⟨h1,_⟩ | ⟨g,cap,cur,h1,_,hg,_⟩
      ·rw [h1] at hk'; cases hk'
      ·rw [h1] at hk'; cases hk'; rw [hmm] at hg; cases hg
    refine ⟨h0.blk.turns ht (fun hX => hmb _ hX (.inl rfl)),h0.cm,h0.ce,h0.ty,ownsRow_turns h0.row ht (fun g hg hX => hmb _ hX (.inr hg)),h0.len,fun hn => ?_,fun mb' hm' => ?_⟩
    ·rw [hm] at hn; cases hn
    ·rw [hm] at hm'; cases hm'
     have e3 : kids (setN N (K ++ [c]) y) K = fun a => if a = c then some y.at else kids N K a := by
      funext a
      by_cases ea : a = c
      ·subst ea; simp [kids,setN_same]
      ·rw [if_neg ea]
       unfold kids
       rw [setN_other]
       intro e
       have := (List.append_inj' e rfl).2
       simp at this
       exact ea this
     rw [e3]; exact hM
   ·rw [hkid K e2]
    exact (h0.turns ht (fun k hk hk' => by subst hk; exact h.ap _ _ _ _ hx hz (fun e => e2 e.symm) k (.inr (.inl hm)) hk')).mono (by omega)
 ·by_cases e1 : K = L ++ [c]
  ·subst e1
   rw [setN_same] at hz; cases hz
   rw [setN_other _ _ (fun e' => hne' e'.symm)] at hz'
   have := h.lt ⟨K',z',hz',hk'⟩
   have := hy k hk
   omega
  ·rw [setN_other _ _ e1] at hz
   by_cases e2 : K' = L ++ [c]
   ·subst e2
    rw [setN_same] at hz'; cases hz'
    have := h.lt ⟨K,z,hz,hk⟩
    have := hy k hk'
    omega
   ·rw [setN_other _ _ e2] at hz'
    exact h.ap _ _ _ _ hz hz' hne' k hk hk'
 ·obtain ⟨d0,hd0⟩ := h.get hx
  unfold putT at hK ⊢
  by_cases e1 : K = L ++ [c]
  ·rw [if_pos e1] at hK; cases hK
  ·rw [if_neg e1] at hK
   have := h.cl K a hK
   by_cases e2 : K ++ [a] = L ++ [c]
   ·have := (List.append_inj' e2 rfl).1
    subst this
    rw [hd0] at hK; cases hK
   ·rw [if_neg e2]; exact this
end
end Go.Proofs.YtbdpghjegachaaaGreatDoor.Hy

namespace Go.Proofs.YtbdpghjegachaaaGreatDoor.Hy
open Go.RowKit Go.Shelf
set_option maxRecDepth 100000
set_option maxHeartbeats 1000000

theorem run_eql_ptr_nil' {P : Program} (w : World) {tp te : TypeId} (a : Addr) (hp : P.underlying tp = some (.pointer te)) :
  (binOp .eql tp (.pointer (some a)) (.pointer none)).run P w = .ok (.bool false) w := by
 have h : ∀ d : Nat,(Op.equalIn (d + 1) tp (.pointer (some a)) (.pointer none)).run P w = .ok false w := fun d => by
  simp [Op.equalIn,run_underlying hp]
 simp only [binOp]
 simp [Op.equal,Op.maxDepth,h 9999]

theorem run_eql_map_nil {P : Program} (w : World) {tm k e : TypeId} (b : Nat) (hp : P.underlying tm = some (.map k e)) :
  (binOp .eql tm (.map (some b)) (.map none)).run P w = .ok (.bool false) w := by
 have h : ∀ d : Nat,(Op.equalIn (d + 1) tm (.map (some b)) (.map none)).run P w = .ok false w := fun d => by
  simp [Op.equalIn,run_underlying hp]
 simp only [binOp]
 simp [Op.equal,Op.maxDepth,h 9999]
theorem run_eql_map_nils {P : Program} (w : World) {tm k e : TypeId} (hp : P.underlying tm = some (.map k e)) :
  (binOp .eql tm (.map none) (.map none)).run P w = .ok (.bool true) w := by
 have h : ∀ d : Nat,(Op.equalIn (d + 1) tm (.map none) (.map none)).run P w = .ok true w := fun d => by
  simp [Op.equalIn,run_underlying hp]
 simp only [binOp]
 simp [Op.equal,Op.maxDepth,h 9999]

section
variable {w : World} {rb : Nat} {s e : Value} {T : Tr} {N : Ns} {M : Nat}
def Grown (w : World) (rb : Nat) (s e : Value) (T : Tr) (N : Ns) (M : Nat) (q : Bs) (a : Value) (w' : World) : Prop :=
 ∃ N' y,a = y.at ∧ TrieAt w' rb s e (growT T q) N' (M + 1) ∧ N' q = some y ∧ Turns (NOwn N) w w' ∧ ∀ k,NOwn N' k → NOwn N k ∨ w.heap.size ≤ k

def newNd (b : Nat) : Nd := ⟨b,0,#[.map none,.slice none 0 0],205,none,.slice none 0 0⟩
theorem TrieAt.child (h : TrieAt w rb s e T N M) {L : Bs} {x : Nd} (hx : N L = some x) {mb : Nat} (hm : x.m = some mb) (c : UInt8) (hc : N (L ++ [c]) = none) (hM : M < 1000000) :
  ∃ w2,(Instr.mapUpdate 202 (.map (some mb)) (.int .u8 c.toNat) (.pointer (some ⟨w.heap.size,0,none⟩))).run Tryz.prog (w.alloc (.cells #[.map none,.slice none 0 0] 205)) = .ok () w2 ∧
   TrieAt w2 rb s e (growT T (L ++ [c])) (setN N (L ++ [c]) (newNd w.heap.size)) (M + 1) ∧ Turns (NOwn N) w w2 := by
 obtain ⟨d,hd⟩ := h.get hx
 have hl := h.loc L x d hx hd
 have hmap := hl.map mb hm
 have hlt := hmap.lt
 have hT1 : Turns Noth w (w.alloc (.cells #[.map none,.slice none 0 0] 205)) := Turns.alloc _ _ _
 have hmap1 := hmap.turns hT1 (fun h => h)
 obtain ⟨w2,hrun,hm2,hT2⟩ := hmap1.put law5 Tryz.underlying202 (by unfold maxLen; omega) c (keyOf5 c) (.pointer (some ⟨w.heap.size,0,none⟩)) encB_inj (fun _ => trivial)
 have hT : Turns (fun k => k = mb) w w2 := (hT1.mono (fun _ h => h.elim)).trans hT2
 refine ⟨w2,hrun,?_,hT.mono (fun k hk => ⟨L,x,hx,.inr (.inl (hk ▸ hm))⟩)⟩
 have hg : growT T (L ++ [c]) = putT T (L ++ [c]) [] := by
  unfold growT
  rw [if_neg (by rw [← h.dom,hc]; simp)]
 rw [hg]
 have hB : Blk w2 w.heap.size #[.map none,.slice none 0 0] 205 := by
  have h1 : Blk (w.alloc (.cells #[.map none,.slice none 0 0] 205)) w.heap.size #[.map none,.slice none 0 0] 205 := World.alloc_heap_new w _
  exact h1.turns hT2 (by omega)
 refine h.more hx hc (y := newNd w.heap.size) hm hT hm2 ?_ ?_
 ·rintro k (rfl | hk | hk)
  ·exact Nat.le_refl _
  ·cases hk
  ·cases hk
 ·exact ⟨hB,rfl,rfl,(by simp [newNd]),World.ownsRow_nil _ _ _ _,by simp,fun _ _ => rfl,fun mb hm => by cases hm⟩
def mapNd (x : Nd) (m : Nat) : Nd := { x with cs := x.cs.setIfInBounds x.o (.map (some m)),m := some m }
theorem TrieAt.addMap (h : TrieAt w rb s e T N M) {L : Bs} {x : Nd} (hx : N L = some x) (hm : x.m = none) :
  TrieAt ((w.alloc (.map #[] 0)).setCell ⟨x.b,x.o,none⟩ (.map (some w.heap.size))) rb s e T (setN N L (mapNd x w.heap.size)) M ∧ Turns (NOwn N) w ((w.alloc (.map #[] 0)).setCell ⟨x.b,x.o,none⟩ (.map (some w.heap.size))) ∧
   (∀ k,(mapNd x w.heap.size).Own k → x.Own k ∨ w.heap.size ≤ k) := by
 obtain ⟨d,hd⟩ := h.get hx
 have hl := h.loc L x d hx hd
 have hno := hl.nomap hm
 have hbl := hl.blk.lt
 have ho : x.o < x.cs.size := (Array.getElem?_eq_some_iff.1 hl.cm).1
 have hT0 : Turns (fun k => k = x.b) w (w.alloc (.map #[] 0)) := Turns.alloc _ _ _
 have hT1 : Turns (fun k => k = x.b) (w.alloc (.map #[] 0)) ((w.alloc (.map #[] 0)).setCell ⟨x.b,x.o,none⟩ (.map (some w.heap.size))) := Turns.setCell (X := fun k => k = x.b) _ (p := ⟨x.b,x.o,none⟩) rfl _
 have hT := hT0.trans hT1
 have hown : ∀ k,(mapNd x w.heap.size).Own k → x.Own k ∨ w.heap.size ≤ k := by
  rintro k (rfl | hk | hk)
  ·exact .inl (.inl rfl)
  ·cases hk; exact .inr (Nat.le_refl _)
  ·exact .inl (.inr (.inr hk))
 refine ⟨?_,hT.mono (fun k hk => ⟨L,x,hx,.inl hk⟩),hown⟩
 rw [← putT_self hd]
 have hrow1 := ownsRow_turns hl.row hT (fun g hg (hX : g = x.b) => by subst hX; exact row_ne hl.row hl.blk hl.ty hg)
 refine h.change hx (x' := mapNd x w.heap.size) rfl hT (fun k hk => .inl hk) hown ?_ ?_
 ·refine ⟨((hl.blk.turns (Turns.alloc Noth _ _) (fun h => h)).set x.o _),?_,?_,hl.ty,hrow1,hl.len,(fun h => by cases h),fun mb' hm' => ?_⟩
  ·simp [mapNd,ho]
  ·show (x.cs.setIfInBounds x.o _)[x.o + 1]? = _
   rw [Array.getElem?_setIfInBounds_ne (by omega)]; exact hl.ce
  ·cases hm'
   have h2 := ((MapAt.made (kt := 5) (enc := encB) w).turns hT1 (show ¬ w.heap.size = x.b by omega)).mono (Nat.zero_le M)
   have e : (fun _ => none) = kids N L := by funext c; exact (hno c).symm
   rw [e] at h2; exact h2
 ·rintro rfl
  obtain ⟨r,h1,h2,h3,h4,h5⟩ := h.root
  rw [hx] at h1; cases h1
  refine ⟨h4,?_⟩
  show x.cs.setIfInBounds x.o _ = _
  rw [h5,h3]; rfl
theorem NOwn_new {L : Bs} {b : Nat} {k : Nat} (hk : NOwn (setN N L (newNd b)) k) : NOwn N k ∨ k = b := by
 obtain ⟨K,y,hy,hk⟩ := hk
 by_cases e : K = L
 ·subst e
  rw [setN_same] at hy; cases hy
  rcases hk with rfl | hk | hk
  ·exact .inr rfl
  ·cases hk
  ·cases hk
 ·rw [setN_other _ _ e] at hy
  exact .inl ⟨K,y,hy,hk⟩

theorem grow_any (h : TrieAt w rb s e T N M) {L : Bs} {x : Nd} (hx : N L = some x) (c : UInt8) (hM : M < 1000000) :
  Calls Tryz.prog 201 #[x.at,.int .u8 c.toNat] w fun r w' => ∃ a,r = .returned a ∧ Grown w rb s e T N M (L ++ [c]) a w' := by
 obtain ⟨d,hd⟩ := h.get hx
 have hl := h.loc L x d hx hd
 have c0 : w.cell? ⟨x.b,x.o,none⟩ = some (.map x.m) := by rw [hl.blk.cell]; exact hl.cm
 cases hm : x.m with
 | some mb =>
  have hmap := hl.map mb hm
  have hlook := hmap.look law5 Tryz.underlying202 (zero79 w) c (keyOf5 c)
  have hmn := run_eql_map_nil w mb Tryz.underlying202
  rw [hm] at c0
  cases hk : N (L ++ [c]) with
  | some y =>
   have hkd : kids N L c = some y.at := by simp [kids,hk]
   rw [hkd] at hlook
   have hnil := run_eql_ptr_nil' w ⟨y.b,y.o,none⟩ Tryz.underlying238
   have hG : Hid (Grown w rb s e T N M (L ++ [c]) y.at w) := by
    refine ⟨N,y,rfl,?_,hk,Turns.refl _ _,fun k hk => .inl hk⟩
    have : growT T (L ++ [c]) = T := by
     unfold growT
     rw [if_pos (by rw [← h.dom,hk]; rfl)]
    rw [this]; exact h.mono (by omega)
   unfold Nd.at at *
   simp only [Option.getD_some] at hlook
   clear hmap hl hk hkd h
   go_enter Tryz.func201,Tryz.ntmps201
   go_wp2_with fail
   go_ret
   exact ⟨_,rfl,hG.out⟩
  | none =>
   have hkd : kids N L c = none := by simp [kids,hk]
   rw [hkd] at hlook
   simp only [Option.getD_none] at hlook
   obtain ⟨w2,hrun,hT2,ht2⟩ := h.child hx hm c hk hM
   have hx2 : setN N (L ++ [c]) (newNd w.heap.size) L = some x := by rw [setN_other _ _ (fun e => by have := congrArg List.length e; simp at this)]; exact hx
   obtain ⟨d2,hd2⟩ := hT2.get hx2
   have hl2 := hT2.loc L x d2 hx2 hd2
   have c2 : w2.cell? ⟨x.b,x.o,none⟩ = some (.map (some mb)) := by rw [hl2.blk.cell,hl2.cm,hm]
   have hlook2 := (hl2.map mb hm).look law5 Tryz.underlying202 (zero79 w2) c (keyOf5 c)
   have hkd2 : kids (setN N (L ++ [c]) (newNd w.heap.size)) L c = some (newNd w.heap.size).at := by simp [kids,setN_same]
   rw [hkd2] at hlook2
   simp only [Option.getD_some] at hlook2
   have c1 : (w.alloc (.cells #[.map none,.slice none 0 0] 205)).cell? ⟨x.b,x.o,none⟩ = some (.map (some mb)) := by
    rw [← c0]; exact World.cell?_of_block (Below.heap_alloc _ _ _ hl.blk.lt)
   have hG : Hid (Grown w rb s e T N M (L ++ [c]) (newNd w.heap.size).at w2) :=
    ⟨_,_,rfl,hT2,setN_same _ _ _,ht2,fun k hk => (NOwn_new hk).imp id (fun e => by omega)⟩
   unfold Nd.at at *
   unfold newNd at hlook2 hG
   simp only at hlook2
   clear hmap hl hk hkd h hT2 hl2 hkd2 hx2 hd2 ht2
   go_enter Tryz.func201,Tryz.ntmps201
   go_wp2_with fail
   go_ret
   exact ⟨_,rfl,hG.out⟩
 | none =>
  rw [hm] at c0
  obtain ⟨hT1,ht1,hown⟩ := h.addMap hx hm
  have hf0 : (w.alloc (.map #[] 0)).frozen? ⟨x.b,x.o,none⟩ = false := (hl.blk.turns (Turns.alloc Noth _ _) (fun h => h)).free x.o
  have hmn := run_eql_map_nils w Tryz.underlying202
  have hno := hl.nomap hm
  have hk : N (L ++ [c]) = none := by
   have := hno c
   unfold kids at this
   simpa using this
  have cw : (w.alloc (.map #[] 0)).cell? ⟨x.b,x.o,none⟩ = some (.map none) := by
   rw [← c0]; exact World.cell?_of_block (Below.heap_alloc _ _ _ hl.blk.lt)
  obtain ⟨w1,hw1⟩ : ∃ w1,(w.alloc (.map #[] 0)).setCell ⟨x.b,x.o,none⟩ (.map (some w.heap.size)) = w1 := ⟨_,rfl⟩
  rw [hw1] at hT1 ht1
  obtain ⟨mb,hmb⟩ : ∃ mb,w.heap.size = mb := ⟨_,rfl⟩
  have hs1 : mb < w1.heap.size := by rw [← hw1,← hmb]; simp
  rw [hmb] at hT1 hw1 hown
  have hmk : (Instr.makeMap 202 none).run Tryz.prog w = .ok (.map (some mb)) (w.alloc (.map #[] 0)) := by rw [← hmb]; rfl
  have hx1 : setN N L (mapNd x mb) L = some (mapNd x mb) := setN_same _ _ _
  have hk1 : setN N L (mapNd x mb) (L ++ [c]) = none := by rw [setN_other _ _ (fun e => by have := congrArg List.length e; simp at this)]; exact hk
  have hl1 := hT1.loc L _ d hx1 hd
  have c1 : w1.cell? ⟨x.b,x.o,none⟩ = some (.map (some mb)) := by
   have := hl1.blk.cell x.o
   rw [show (mapNd x mb).cs[x.o]? = _ from hl1.cm] at this
   exact this
  have hlook := (hl1.map mb rfl).look law5 Tryz.underlying202 (zero79 w1) c (keyOf5 c)
  have hkd : kids (setN N L (mapNd x mb)) L c = none := by simp [kids,hk1]
  rw [hkd] at hlook
  simp only [Option.getD_none] at hlook
  obtain ⟨w2,hrun,hT2,ht2⟩ := hT1.child hx1 rfl c hk1 hM
  have hx2 : setN (setN N L (mapNd x mb)) (L ++ [c]) (newNd w1.heap.size) L = some (mapNd x mb) := by rw [setN_other _ _ (fun e => by have := congrArg List.length e; simp at this)]; exact hx1
  obtain ⟨d2,hd2⟩ := hT2.get hx2
  have hl2 := hT2.loc L _ d2 hx2 hd2
  have c2 : w2.cell? ⟨x.b,x.o,none⟩ = some (.map (some mb)) := by
   have := hl2.blk.cell x.o
   rw [show (mapNd x mb).cs[x.o]? = _ from hl2.cm] at this
   exact this
  have hlook2 := (hl2.map mb rfl).look law5 Tryz.underlying202 (zero79 w2) c (keyOf5 c)
  have hkd2 : kids (setN (setN N L (mapNd x mb)) (L ++ [c]) (newNd w1.heap.size)) L c = some (newNd w1.heap.size).at := by simp [kids,setN_same]
  rw [hkd2] at hlook2
  simp only [Option.getD_some] at hlook2
  have c1' : (w1.alloc (.cells #[.map none,.slice none 0 0] 205)).cell? ⟨x.b,x.o,none⟩ = some (.map (some mb)) := by
   rw [← c1]; exact World.cell?_of_block (Below.heap_alloc _ _ _ hl1.blk.lt)
  have hG : Hid (Grown w rb s e T N M (L ++ [c]) (newNd w1.heap.size).at w2) := by
   refine ⟨_,_,rfl,hT2,setN_same _ _ _,ht1.trans' ht2 ?_,fun k hk => ?_⟩
   ·intro k hk
    exact (NOwn_setN hx hown hk).imp id (fun h => by omega)
   ·rcases NOwn_new hk with hk | rfl
    ·exact (NOwn_setN hx hown hk).imp id (fun h => by omega)
    ·exact .inr (by omega)
  unfold Nd.at at *
  unfold newNd at hlook2 hG
  simp only at hlook2
  clear hl hk hkd h hT1 hT2 hl1 hl2 hkd2 hx2 hd2 ht1 ht2 hown hx1 hk1 hno
  go_enter Tryz.func201,Tryz.ntmps201
  go_wp2_with fail
  go_ret
  exact ⟨_,rfl,hG.out⟩
end
end Go.Proofs.YtbdpghjegachaaaGreatDoor.Hy
