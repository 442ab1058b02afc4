import Derived.Test.YtgaofjiidedcbadM46
import Derived.Test.YtgaofjiidedcbadM40
import Derived.Deep.RegionHeld
import Derived.Below
import Derived.WalkKit
set_option maxHeartbeats 4000000
set_option linter.unusedVariables false
set_option linter.unusedSimpArgs false
namespace Go.Proofs.Ytgaofjiidedcbad.leaf
set_option maxRecDepth 10000
open Go.RowKit
open mth
theorem landWrongMsg_any (s : Int) (dv : Value) (d : List UInt8) (w : World) (hd : Bs w dv d) (hm : d.length ≤ maxLen) :
    Calls Try.prog 32 #[.agg #[.int .i64 s, dv]] w fun e w' => e = .returned (.int .i64 (wrongMsgL s d)) ∧ Below w.heap.size w w' := by
  obtain ⟨a, cap, rfl, -⟩ := hd
  unfold maxLen at hm
  go_enter Try.func32, Try.ntmps32
  go_wp2
  all_goals
    go_ret
    exact ⟨ite3 s d _ (by repeat' split
                          all_goals omega), (Below.refl _ _).alloc (Nat.le_refl _) _⟩
theorem str_at {S : ByteArray} {xs : List UInt8} (hxs : S.data.toList = xs) {j : Nat} {y : UInt8} (hy : xs[j]? = some y) (k : Int) (hk : k = j) (w : World) : (Instr.index 9 (.string S) (.int .i64 k)).run Try.prog w = .ok (.int .u8 (y.toNat : Int)) w:=by
 subst hk hxs
 have hj:=(List.getElem?_eq_some_iff.1 hy).1
 have hj' : j < S.size:=by rw [Array.length_toList] at hj; exact hj
 rw [run_index_string w 9 S .i64 _ Try.underlying9,dif_pos ⟨by omega,by omega⟩]
 rw [Array.getElem?_toList,Array.getElem?_eq_getElem (by exact hj')] at hy
 injection hy with hy
 rw [← hy]
 rfl
theorem or4 (x y : UInt8) (hx : 0 ≤ valB x) (hy : 0 ≤ valB y) : bits .or .i64 (valB x * 16) (valB y) = 16 * valB x + valB y:=by
 have h : ∀ a b : Nat,a < 16 → b < 16 → bits .or .i64 ((a : Int) * 16) (b : Int) = 16 * (a : Int) + (b : Int):=by
  intro a b ha hb
  have h1 : ∀ a,a < 16 → ∀ b,b < 16 → bits .or .i64 (((a : Nat) : Int) * 16) ((b : Nat) : Int) = 16 * (a : Int) + (b : Int):=by decide +kernel
  exact h1 a ha b hb
 have h0:=val_bd x
 have h1:=val_bd y
 obtain ⟨a,ha⟩:=Int.eq_ofNat_of_zero_le hx
 obtain ⟨b,hb⟩:=Int.eq_ofNat_of_zero_le hy
 rw [ha,hb]
 exact h a b (by omega) (by omega)
theorem take_two (xs : List UInt8) (j : Nat) (y0 y1 : UInt8) (h0 : xs[j]? = some y0) (h1 : xs[j + 1]? = some y1) : xs.take (j + 2) = xs.take j ++ [y0] ++ [y1]:=by
 rw [List.take_add_one,List.take_add_one,h0,h1]; rfl
theorem pairs_two (l : List UInt8) (p y : UInt8) (h : l.length % 2 = 0) : pairsL (l ++ [p] ++ [y]) = pairsL l ++ [b8 (16 * valB p + valB y)]:=by
 rw [pairs_odd l p y h,pairs_even l p h]
theorem digits_two (l : List UInt8) (p y : UInt8) (h : digitsL l = true) : digitsL (l ++ [p] ++ [y]) = (decide (0 ≤ valB p) && decide (0 ≤ valB y)):=by
 unfold digitsL at *
 simp [List.all_append,h]
theorem digits_not (xs : List UInt8) (j : Nat) (y : UInt8) (h : xs[j]? = some y) (hv : valB y < 0) : digitsL xs = false:=by
 unfold digitsL
 rw [List.all_eq_false]
 exact ⟨y,List.mem_of_getElem? h,by simp; omega⟩
theorem owns_formB {w : World} {base e n : Nat} {v : Value} {xs : List Value} (h : w.ownsRow base e 1 v n xs) : ∃ a c,v = .slice a n c:=by
 obtain ⟨h1,⟨rfl,h0⟩ | ⟨g,cap,cur,rfl,_⟩⟩:=h
 ·subst h0; exact ⟨none,0,rfl⟩
 ·exact ⟨_,_,rfl⟩
def digitsOk (xs : List UInt8) : Bool:=decide (xs.length % 2 = 0) && digitsL xs
def FreshD (base : Nat) (v : Value) : Prop:=∀ a n c,v = .slice a n c → (∀ p,a = some p → base ≤ p.block ∧ p.spot = none) ∧ c ≤ maxLen
theorem freshD_nil (base : Nat) : FreshD base (.slice none 0 0):=fun a n c h => by cases h; exact ⟨fun p q => (by cases q),Nat.zero_le _⟩
theorem freshD_owns {w : World} {base e n : Nat} {v : Value} {L : List Value} (h : w.ownsRow base e 1 v n L) : FreshD base v:=fun a n' c' e' => by
 rcases h.2 with ⟨q,_⟩ | ⟨g,cap,cur,q,hb,_,_,hm,_⟩
 ·rw [q] at e'; cases e'; exact ⟨fun p q => (by cases q),Nat.zero_le _⟩
 ·rw [q] at e'; cases e'; exact ⟨fun p q => (by cases q; exact ⟨hb,rfl⟩),hm⟩
theorem FreshD.mono {b b' : Nat} {v : Value} (h : FreshD b v) (hb : b' ≤ b) : FreshD b' v:=fun a n c e => ⟨fun p q => ⟨Nat.le_trans hb ((h a n c e).1 p q).1,((h a n c e).1 p q).2⟩,(h a n c e).2⟩
theorem digits_odd (S : ByteArray) (w : World) (h : ((S.size : Int) % 2 != 0) = true) (hsz : S.size ≤ 140737488355328) :
  Calls Try.prog 45 #[.string S] w fun e w' => e = .returned (.tuple #[.slice none 0 0,.bool false]) ∧ w = w':=by
 go_enter Try.func45,Try.ntmps45
 go_wp2
 go_ret2
 exact ⟨rfl,rfl⟩
set_option maxRecDepth 100000 in
theorem digits_in (S : ByteArray) (xs : List UInt8) (w : World) (hxs : S.data.toList = xs) (h : ((S.size : Int) % 2 != 0) = false) (hsz : S.size ≤ 140737488355328) (R : Bool) (hR : Hid (R = digitsL xs)) :
  Calls Try.prog 45 #[.string S] w fun e w' => ∃ v',e = .returned (.tuple #[v',.bool R]) ∧ (∃ ys,Bs w' v' ys ∧ ys.length ≤ 140737488355328 ∧ (R = true → ys = pairsL xs)) ∧ FreshD w.heap.size v' ∧ Below w.heap.size w w':=by
 obtain ⟨i0,hi,hz0,hz1,hz2⟩:=info_parts info5
 have hlen : xs.length = S.size:=by rw [← hxs,Array.length_toList]; rfl
 have hev : S.size % 2 = 0:=by simp at h; omega
 have hmk : ∀ u : World,(Instr.makeSlice 26 (.int .i64 0) (.int .i64 ((S.size : Int) / 2))).run Try.prog u =
   .ok (.slice (some ⟨u.heap.size,0,none⟩) 0 (S.size / 2)) (u.alloc (.cells (madeCells #[.int .u8 0] (S.size / 2)) 5)):=fun u => by
  have h:=run_make (P:=Try.prog) u 26 5 i0 (.int .u8 0) Try.underlying26 hi hz0 .i64 .i64 0 ((S.size : Int) / 2) (by omega) (by omega) (by rw [hz2]; omega) (by omega)
  have e : ((S.size : Int) / 2).toNat = S.size / 2:=by omega
  rw [e] at h
  simpa [hz1,Value.cells] using h
 have HXS:=hide hxs
 have HLEN:=hide hlen
 have HEV:=hide hev
 clear hlen hxs hev
 go_enter Try.func45,Try.ntmps45
 go_wp2_with fail
 go_loopw [4,5] (fun s i wr => ∃ (j : Nat) (a1 : Option Addr) (c1 : Nat),j ≤ S.size ∧ j % 2 = 0 ∧ i = .int .i64 (j : Int) ∧ s = .slice a1 (j / 2) c1 ∧ wr.ownsRow w.heap.size 5 1 s (j / 2) ((pairsL (xs.take j)).map B) ∧ digitsL (xs.take j) = true ∧ Below w.heap.size w wr) (fun _ i _ => S.size - (intOf i).toNat)
 case atStart =>
  exact ⟨0,_,_,Nat.zero_le _,rfl,rfl,rfl,World.ownsRow_made w _ _ (Nat.le_refl _) (by unfold maxLen; omega) (by simp [madeCells]),rfl,(Below.refl _ _).alloc (Nat.le_refl _) _⟩
 case round =>
  obtain ⟨j,a1,c1,hj,hje,rfl,rfl,hO,hD,hb⟩:=hrel
  by_cases hlt : j < S.size
  ·have hlt' : (j : Int) < (S.size : Int):=by omega
   have hlt1 : (j : Int) + 1 < (S.size : Int):=by have:=HEV.out; omega
   obtain ⟨y0,hy0⟩:=some_at (xs:=xs) (k:=j) (by rw [HLEN.out]; exact hlt)
   obtain ⟨y1,hy1⟩:=some_at (xs:=xs) (k:=j + 1) (by rw [HLEN.out]; omega)
   have f0:=fun w => str_at HXS.out hy0 (j : Int) rfl w
   have f1:=fun w => str_at HXS.out hy1 ((j : Int) + 1) (by omega) w
   have hwrap : IntKind.i64.wrap ((j : Int) + 1) = (j : Int) + 1:=by rw [IntKind.wrap_i64]; omega
   have hv0:=val_bd y0
   have hv1:=val_bd y1
   have HY0:=hide hy0
   have HY1:=hide hy1
   have HO:=hide hO
   have HDG:=hide hD
   have HB:=hide hb
   have HJE:=hide hje
   clear hy0 hy1 hO hD hb hje hmk h
   go_wp2_with fail
   refine regs.heldS_begin (S:=fun x => x = wr.drew) (by kernel_rfl) ?_
   refine regs.heldS_take (i:=0) (v:=.string S) rfl (by kernel_rfl) (by kernel_rfl) (by kernel_rfl) (fun _ _ _ h => h) (by rfl) (fun w' hb => by go_simp) rfl ?_
   simp only [Act.put,List.setIfInBounds_toArray,List.set_cons_zero,List.set_cons_succ,List.getElem_toArray,List.getElem_cons_zero]
   refine regs.heldS_take (i:=1) (v:=.int .i64 (j : Int)) rfl (by kernel_rfl) (by kernel_rfl) (by kernel_rfl) (fun _ _ _ h => h) (by rfl) (fun w' hb => by go_simp) rfl ?_
   simp only [Act.put,List.setIfInBounds_toArray,List.set_cons_zero,List.set_cons_succ,List.getElem_toArray,List.getElem_cons_zero,List.getElem_cons_succ]
   refine regs.heldS_take (i:=2) (v:=.int .u8 (y0.toNat : Int)) rfl (by kernel_rfl) (by kernel_rfl) (by kernel_rfl) (fun _ _ _ h => h) (by rfl) (fun w' hb => by go_simp) rfl ?_
   simp only [Act.put,List.setIfInBounds_toArray,List.set_cons_zero,List.set_cons_succ,List.getElem_toArray,List.getElem_cons_zero,List.getElem_cons_succ]
   refine regs.heldS_take (i:=4) (v:=.string S) rfl (by kernel_rfl) (by kernel_rfl) (by kernel_rfl) (fun _ _ _ h => h) (by rfl) (fun w' hb => by go_simp) rfl ?_
   simp only [Act.put,List.setIfInBounds_toArray,List.set_cons_zero,List.set_cons_succ,List.getElem_toArray,List.getElem_cons_zero,List.getElem_cons_succ]
   refine regs.heldS_take (i:=5) (v:=.int .i64 (j : Int)) rfl (by kernel_rfl) (by kernel_rfl) (by kernel_rfl) (fun _ _ _ h => h) (by rfl) (fun w' hb => by go_simp) rfl ?_
   simp only [Act.put,List.setIfInBounds_toArray,List.set_cons_zero,List.set_cons_succ,List.getElem_toArray,List.getElem_cons_zero,List.getElem_cons_succ]
   refine regs.heldS_take (i:=6) (v:=.int .i64 ((j : Int) + 1)) rfl (by kernel_rfl) (by kernel_rfl) (by kernel_rfl) (fun _ _ _ h => h) (by rfl) (fun w' hb => by go_simp) rfl ?_
   simp only [Act.put,List.setIfInBounds_toArray,List.set_cons_zero,List.set_cons_succ,List.getElem_toArray,List.getElem_cons_zero,List.getElem_cons_succ]
   refine regs.heldS_take (i:=7) (v:=.int .u8 (y1.toNat : Int)) rfl (by kernel_rfl) (by kernel_rfl) (by kernel_rfl) (fun _ _ _ h => h) (by rfl) (fun w' hb => by go_simp) rfl ?_
   simp only [Act.put,List.setIfInBounds_toArray,List.set_cons_zero,List.set_cons_succ,List.getElem_toArray,List.getElem_cons_zero,List.getElem_cons_succ]
   refine regs.heldS_ready (rs:=[3]) (by kernel_rfl) (by simp) (regs.comes1 ?_)
   refine ⟨_,rfl,fun K hK => ?_⟩
   go_simp
   go_wp2_with ((go_at_call 61; refine (idx_any y0 _).mono ?_; rintro e w' ⟨rfl,rfl⟩))
   refine hK.out _ _ rfl ?_
   clear hK K
   refine regs.heldS_ready (rs:=[8]) (by kernel_rfl) (by simp) (regs.comes1 ?_)
   refine ⟨_,rfl,fun K hK => ?_⟩
   go_simp
   go_wp2_with ((go_at_call 61; refine (idx_any y1 _).mono ?_; rintro e w' ⟨rfl,rfl⟩))
   refine hK.out _ _ rfl ?_
   clear hK K
   refine regs.heldS_take (i:=9) (v:=.int .i64 (valB y0)) rfl (by kernel_rfl) (by kernel_rfl) (by kernel_rfl) (fun _ _ _ h => h) (by rfl) (fun w' hb => by go_simp) rfl ?_
   simp only [Act.put,List.setIfInBounds_toArray,List.set_cons_zero,List.set_cons_succ,List.getElem_toArray,List.getElem_cons_zero,List.getElem_cons_succ]
   refine regs.heldS_take (i:=10) (v:=.int .i64 (valB y1)) rfl (by kernel_rfl) (by kernel_rfl) (by kernel_rfl) (fun _ _ _ h => h) (by rfl) (fun w' hb => by go_simp) rfl ?_
   simp only [Act.put,List.setIfInBounds_toArray,List.set_cons_zero,List.set_cons_succ,List.getElem_toArray,List.getElem_cons_zero,List.getElem_cons_succ]
   refine regs.heldS_done (by kernel_rfl) ?_ _
   rcases (show valB y0 < 0 ∨ (0 ≤ valB y0 ∧ valB y1 < 0) ∨ (0 ≤ valB y0 ∧ 0 ≤ valB y1) by omega) with c | c | c
   ·have hr : R = false:=hR.out.trans (digits_not xs j y0 HY0.out c)
    subst hr
    go_wp2
    go_ret2
    exact ⟨_,rfl,⟨[],Bs_nil _,by simp,fun h => by cases h⟩,freshD_nil _,Below.drew HB.out⟩
   ·have hr : R = false:=hR.out.trans (digits_not xs (j + 1) y1 HY1.out c.2)
    subst hr
    have c0:=c.1
    have c1':=c.2
    clear c
    go_wp2
    go_ret2
    exact ⟨_,rfl,⟨[],Bs_nil _,by simp,fun h => by cases h⟩,freshD_nil _,Below.drew HB.out⟩
   ·have ho:=or4 y0 y1 c.1 c.2
    have c0:=c.1
    have c1':=c.2
    clear c
    have HTWO:=hide (take_two xs j y0 y1 HY0.out HY1.out)
    have HPR : Hid (pairsL (xs.take (j + 2)) = pairsL (xs.take j) ++ [b8 (16 * valB y0 + valB y1)]):=by
     rw [HTWO.out]; exact pairs_two _ _ _ (by rw [List.length_take,HLEN.out]; have:=HJE.out; omega)
    have hdt : digitsL (xs.take (j + 2)) = true:=by
     rw [HTWO.out,digits_two _ _ _ HDG.out]; simp [c0,c1']
    have HDT:=hide hdt
    clear hdt
    obtain ⟨X,hX⟩ : ∃ X,X = pairsL (xs.take j):=⟨_,rfl⟩
    rw [← hX] at HO HPR
    clear hX HTWO
    go_wp2_with (at_builtin; go_must (refine wpList_append_own _ rfl (.tmp 37) (.tmp 43) 26 rfl w.heap.size 5 i0 (.int .u8 0) 1 1 Try.underlying26 hi hz0 hz1 hz2 rfl (by decide) (.slice a1 (j / 2) c1) (j / 2) (X.map B) rfl (HO.out.alloc _) ⟨wr.heap.size,0,none⟩ 1 1 [.int .u8 (16 * valB y0 + valB y1)] rfl rfl (one_newB wr (.int .u8 (16 * valB y0 + valB y1))) (fun u hu => by simp at hu; subst hu; rfl) (by unfold maxLen; omega) (by omega) (by have:=HB.out.size; simp; omega) ?_; intro v2 w2 hown2 hgrow2 hnil2; clear hnil2; have HO2:=hide hown2; have HG2:=hide hgrow2; clear hown2 hgrow2))
    go_roundw
    case rel =>
     have hv : [Value.int .u8 (16 * valB y0 + valB y1)] = [b8 (16 * valB y0 + valB y1)].map B:=by simp [B,b8_toNat (show 0 ≤ 16 * valB y0 + valB y1 ∧ 16 * valB y0 + valB y1 ≤ 255 by omega)]
     have ho2:=HO2.out
     rw [hv,← List.map_append,← HPR.out] at ho2
     have hb2 : Below w.heap.size w w2:=(Below.drew (HB.out.alloc HB.out.size _)).grown HG2.out (by have:=HB.out.size; simp; omega) (fun q hq => by have:=(HO.out.lt q hq).1; omega)
     have he : j / 2 + 1 = (j + 2) / 2:=by omega
     rw [he] at ho2
     obtain ⟨a2,c2,rfl⟩:=owns_formB ho2
     exact ⟨j + 2,a2,c2,by omega,by have:=HJE.out; omega,by go_num,rfl,ho2,HDT.out,hb2⟩
    case measure => simp [intOf]; omega
  ·have hke : j = S.size:=by omega
   subst hke
   rw [List.take_of_length_le (by rw [HLEN.out]; exact Nat.le_refl _)] at hO hD
   have hr : R = true:=hR.out.trans hD
   subst hr
   have HV:=hide (owns_Bs hO)
   have HF:=hide (freshD_owns hO)
   have HB:=hide hb
   clear hO hD hb h hmk
   go_wp2
   go_ret2
   exact ⟨_,rfl,⟨HV.out,by rw [len_pairs,HLEN.out]; omega⟩,HF.out,HB.out⟩
theorem digits_any (S : ByteArray) (xs : List UInt8) (w : World) (hxs : S.data.toList = xs) (hsz : S.size ≤ 140737488355328) :
  Calls Try.prog 45 #[.string S] w fun e w' => ∃ v',e = .returned (.tuple #[v',.bool (digitsOk xs)]) ∧ (∃ ys,Bs w' v' ys ∧ ys.length ≤ 140737488355328 ∧ (digitsOk xs = true → ys = pairsL xs)) ∧ FreshD w.heap.size v' ∧ Below w.heap.size w w':=by
 have hlen : xs.length = S.size:=by rw [← hxs,Array.length_toList]; rfl
 by_cases h : S.size % 2 = 0
 ·have e : digitsOk xs = digitsL xs:=by unfold digitsOk; rw [hlen]; simp [h]
  rw [e]
  exact digits_in S xs w hxs (by simp; omega) hsz _ rfl
 ·have e : digitsOk xs = false:=by unfold digitsOk; rw [hlen]; simp [h]
  rw [e]
  exact (digits_odd S w (by simp; omega) hsz).mono fun e w' ⟨h1,h2⟩ => ⟨_,h1,⟨[],Bs_nil _,by simp,fun h => by cases h⟩,freshD_nil _,by rw [← h2]; exact Below.refl _ _⟩
end Go.Proofs.Ytgaofjiidedcbad.leaf
namespace Go.Proofs.Ytgaofjiidedcbad.regs
open Go Go.RowKit
section
variable {P : Program} {ops : Array Oper} {Q : Exit → Act → World → Prop} {md : Region.Mode}
end
end Go.Proofs.Ytgaofjiidedcbad.regs
namespace Go.Proofs.Ytgaofjiidedcbad.leaf
open Go.RowKit
open mth
theorem Bs_set {w : World} {v u : Value} {xs : List UInt8} {a : Addr} (h : Bs w v xs) (ha : w.cell? a = some u) (hu : ∀ n,u ≠ .int .u8 n) (u' : Value) : Bs (w.setCell a u') v xs:=by
 obtain ⟨x,cap,rfl,h1,h2,h3⟩:=h
 refine ⟨x,cap,rfl,h1,h2,fun i hi => ?_⟩
 obtain ⟨y,hy,hc⟩:=h3 i hi
 refine ⟨y,hy,?_⟩
 rw [World.cell?_setCell_other _ _ _ _ (fun e => ?_)]
 ·exact hc
 ·first
   | (rw [← e,ha] at hc; injection hc with hc; exact hu _ hc)
   | (rw [e,ha] at hc; injection hc with hc; exact hu _ hc)
theorem text_no (S : ByteArray) (w : World) (hl : S.size ≤ 140737488355328) (h : (S.size : Int) < 2 ∨ ∃ (h0 : 0 < S.size) (h1 : 1 < S.size),((S[0]'h0).toNat : Int) < 48 ∨ 57 < ((S[0]'h0).toNat : Int) ∨ ((S[1]'h1).toNat : Int) ≠ 58) :
  Calls Try.prog 31 #[.string S] w fun e w' => ∃ v',e = .returned (.tuple #[v',.bool false]) ∧ Mv w' v' ⟨0,[]⟩ ∧ Below w.heap.size w w':=by
 by_cases c0 : (S.size : Int) < 2
 ·clear h
  go_enter Try.func31,Try.ntmps31
  go_wp2
  exact bodyPost_ret (v:=.tuple #[.agg #[.int .i64 0,.slice none 0 0],.bool false]) (by simp [results,Try.results31,go_sem]) rfl ⟨_,rfl,Mv_zero _,(Below.refl _ _).alloc (Nat.le_refl _) _⟩
 ·obtain ⟨h0,h1,h⟩:=h.resolve_left c0
  have h2 : (2 : Int) ≤ (S.size : Int):=by omega
  clear c0
  by_cases c1 : ((S[0]'h0).toNat : Int) < 48
  ·clear h
   go_enter Try.func31,Try.ntmps31
   go_wp2
   exact bodyPost_ret (v:=.tuple #[.agg #[.int .i64 0,.slice none 0 0],.bool false]) (by simp [results,Try.results31,go_sem]) rfl ⟨_,rfl,Mv_zero _,(Below.refl _ _).alloc (Nat.le_refl _) _⟩
  ·by_cases c2 : 57 < ((S[0]'h0).toNat : Int)
   ·clear h
    go_enter Try.func31,Try.ntmps31
    go_wp2
    exact bodyPost_ret (v:=.tuple #[.agg #[.int .i64 0,.slice none 0 0],.bool false]) (by simp [results,Try.results31,go_sem]) rfl ⟨_,rfl,Mv_zero _,(Below.refl _ _).alloc (Nat.le_refl _) _⟩
   ·have c3 : (((S[1]'h1).toNat : Int) != 58) = true:=by simp; omega
    clear h
    go_enter Try.func31,Try.ntmps31
    go_wp2
    exact bodyPost_ret (v:=.tuple #[.agg #[.int .i64 0,.slice none 0 0],.bool false]) (by simp [results,Try.results31,go_sem]) rfl ⟨_,rfl,Mv_zero _,(Below.refl _ _).alloc (Nat.le_refl _) _⟩
theorem text_yes (S : ByteArray) (xs : List UInt8) (w : World) (hxs : S.data.toList = xs) (hl : S.size ≤ 140737488355328) (h2 : (2 : Int) ≤ (S.size : Int)) (h0 : 0 < S.size) (h1 : 1 < S.size) (c1 : 48 ≤ ((S[0]'h0).toNat : Int)) (c2 : ((S[0]'h0).toNat : Int) ≤ 57) (c3 : (((S[1]'h1).toNat : Int) != 58) = false) (R : Bool) (hR : Hid (R = digitsOk (xs.drop 2))) :
  Calls Try.prog 31 #[.string S] w fun e w' => ∃ v' d,e = .returned (.tuple #[v',.bool R]) ∧ Mv w' v' ⟨((S[0]'h0).toNat : Int) - 48,d⟩ ∧ (R = true → d = pairsL (xs.drop 2)) ∧ (∃ k dv,v' = .agg #[k,dv] ∧ FreshD w.heap.size dv) ∧ Below w.heap.size w w':=by
 have hbU : Below w.heap.size w (w.alloc (.cells #[.int .i64 0,.slice none 0 0] 28)):=(Below.refl _ _).alloc (Nat.le_refl _) _
 have hUg : (w.alloc (.cells #[.int .i64 0,.slice none 0 0] 28)).heap[w.heap.size]? = some (.cells #[.int .i64 0,.slice none 0 0] 28 (0,0)):=heap_alloc_new _ _
 have hz : w.heap.size < (w.alloc (.cells #[.int .i64 0,.slice none 0 0] 28)).heap.size:=by simp
 have hdx : (S.extract 2 S.size).data.toList = xs.drop 2:=by
  rw [← hxs,ByteArray.data_extract,Array.toList_extract]
  simp only [List.extract_eq_take_drop]
  rw [List.take_of_length_le (by simp)]
 have hq:=digits_any (S.extract 2 S.size) (xs.drop 2) (w.alloc (.cells #[.int .i64 0,.slice none 0 0] 28)) hdx (by rw [ByteArray.size_extract]; omega)
 rw [← hR.out] at hq
 have HQ:=hide hq
 have HBU:=hide hbU
 have HUG:=hide hUg
 have HZ:=hide hz
 clear hq hbU hUg hz hdx hxs
 go_enter Try.func31,Try.ntmps31
 go_wp2_with fail
 refine HQ.out.mono ?_
 rintro e w1 ⟨v1,rfl,⟨ys,hy,hyl,hyr⟩,hfr,hb1⟩
 have hfr:=hfr.mono HBU.out.size
 obtain ⟨a1,c1',rfl⟩ : ∃ a c,v1 = .slice a ys.length c:=by obtain ⟨a,c,rfl,-⟩:=hy; exact ⟨a,c,rfl⟩
 have hg1 : w1.heap[w.heap.size]? = some (.cells #[.int .i64 0,.slice none 0 0] 28 (0,0)):=(hb1.block _ HZ.out).trans HUG.out
 have g0 : w1.cell? ⟨w.heap.size,0,none⟩ = some (.int .i64 0):=by rw [cell_of_row w1 _ 0 _ 28 (0,0) hg1]; rfl
 have g1 : w1.cell? ⟨w.heap.size,1,none⟩ = some (.slice none 0 0):=by rw [cell_of_row w1 _ 1 _ 28 (0,0) hg1]; rfl
 have f0 : w1.frozen? ⟨w.heap.size,0,none⟩ = false:=by simp [World.frozen?,hg1]
 have f1 : w1.frozen? ⟨w.heap.size,1,none⟩ = false:=by simp [World.frozen?,hg1]
 have hb2 : Below w.heap.size w w1:=HBU.out.trans (hb1.mono HBU.out.size)
 have HY:=hide hy
 have HYL:=hide hyl
 have HYR:=hide hyr
 have HB:=hide hb2
 have HG1:=hide hg1
 obtain ⟨n1,hn1⟩ : ∃ n1,n1 = ys.length:=⟨_,rfl⟩
 rw [← hn1] at HY ⊢
 have HN1:=hide hn1
 have HFR:=hide hfr
 clear hfr hy hyl hyr hb1 hb2 HQ hg1 hn1
 go_wp2_with fail
 refine bodyPost_ret (v:=.tuple #[.agg #[.int .i64 (((S[0]'h0).toNat : Int) - 48),.slice a1 n1 c1'],.bool R]) (by simp [results,Try.results31,go_sem,g0,g1]) rfl ⟨_,ys,rfl,⟨_,rfl,?_,by have:=HYL.out; show ys.length ≤ maxLen; unfold maxLen; omega,by show I64 (((S[0]'h0).toNat : Int) - 48); unfold I64; omega⟩,HYR.out,⟨_,_,rfl,by have h:=HFR.out; rw [← HN1.out] at h; exact h⟩,?_⟩
 ·refine Bs_set (Bs_set (by have h:=HY.out; rw [HN1.out] at h ⊢; exact h) g0 (fun n h => by cases h) _) (u:=.slice none 0 0) ?_ (fun n h => by cases h) _
  rw [World.cell?_setCell_other _ _ _ _ (by intro e; cases e),g1]
 ·exact (HB.out.setCell (Nat.le_refl _) _).setCell (Nat.le_refl _) _
theorem text_any (S : ByteArray) (xs : List UInt8) (w : World) (hxs : S.data.toList = xs) (hl : S.size ≤ 140737488355328) :
  Calls Try.prog 31 #[.string S] w fun e w' => ∃ v' m,e = .returned (.tuple #[v',.bool (formL xs)]) ∧ Mv w' v' m ∧ (formL xs = true → m = rawM xs) ∧ (formL xs = true → ∃ k dv,v' = .agg #[k,dv] ∧ FreshD w.heap.size dv) ∧ Below w.heap.size w w':=by
 have hlen : xs.length = S.size:=by rw [← hxs,Array.length_toList]; rfl
 by_cases h2 : S.size < 2
 ·have e : formL xs = false:=by unfold formL; rw [hlen]; simp; omega
  rw [e]
  exact (text_no S w hl (.inl (by omega))).mono fun e w' ⟨v',h1,h2,h3⟩ => ⟨v',_,h1,h2,(fun h => by cases h),(fun h => by cases h),h3⟩
 ·have h0 : 0 < S.size:=by omega
  have h1 : 1 < S.size:=by omega
  have hat : ∀ (j : Nat) (hj : j < S.size),xs.getD j 0 = S[j]'hj:=by
   intro j hj
   rw [← hxs]
   simp only [List.getD,Array.getElem?_toList]
   rw [Array.getElem?_eq_getElem (by exact hj)]
   rfl
  have g0 : i8 (xs.getD 0 0) = ((S[0]'h0).toNat : Int):=by rw [hat 0 h0]; rfl
  have g1 : i8 (xs.getD 1 0) = ((S[1]'h1).toNat : Int):=by rw [hat 1 h1]; rfl
  by_cases hh : ((S[0]'h0).toNat : Int) < 48 ∨ 57 < ((S[0]'h0).toNat : Int) ∨ ((S[1]'h1).toNat : Int) ≠ 58
  ·have e : formL xs = false:=by
    rw [Bool.eq_false_iff]
    intro hf
    unfold formL at hf
    simp only [Bool.and_eq_true,decide_eq_true_eq] at hf
    rw [g0,g1,hlen] at hf
    omega
   rw [e]
   exact (text_no S w hl (.inr ⟨h0,h1,hh⟩)).mono fun e w' ⟨v',h1,h2,h3⟩ => ⟨v',_,h1,h2,(fun h => by cases h),(fun h => by cases h),h3⟩
  ·have e : formL xs = digitsOk (xs.drop 2):=by
    rw [Bool.eq_iff_iff]
    unfold formL digitsOk
    simp only [Bool.and_eq_true,decide_eq_true_eq,List.length_drop]
    rw [g0,g1,hlen]
    constructor
    ·rintro ⟨-,-,-,-,a5,a6⟩
     exact ⟨by omega,a6⟩
    ·rintro ⟨a5,a6⟩
     exact ⟨by omega,by omega,by omega,by omega,by omega,a6⟩
   rw [e]
   refine (text_yes S xs w hxs hl (by omega) h0 h1 (by omega) (by omega) (by simp only [bne_eq_false_iff_eq]; omega) _ rfl).mono fun e w' ⟨v',d,q1,q2,q3,qf,q4⟩ => ⟨v',_,q1,q2,fun h => ?_,fun _ => qf,q4⟩
   rw [q3 h]
   unfold rawM
   rw [g0]
end Go.Proofs.Ytgaofjiidedcbad.leaf
