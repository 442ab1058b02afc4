import Derived.Test.YtgaofjiidedcbadM47
import Derived.Test.YtgaofjiidedcbadM20
import Derived.Deep.AppendLies
import Derived.Deep.RegionLaw
import Derived.Laws.Externs
import Derived.Test.YtgaofjiidedcbadM40
set_option maxHeartbeats 4000000
set_option linter.unusedVariables false
set_option linter.unusedSimpArgs false
namespace Go.Proofs.Ytgaofjiidedcbad.leaf
open Go.RowKit
open mth
def Mv (w : World) (v : Value) (m : Ms) : Prop:=∃ dv,v = .agg #[.int .i64 m.stream,dv] ∧ Bs w dv m.data ∧ m.data.length ≤ maxLen ∧ I64 m.stream
theorem Mv.later {w w' : World} {v : Value} {m : Ms} (h : Mv w v m) (hb : Below w.heap.size w w') : Mv w' v m:=by
 obtain ⟨dv,rfl,h1,r⟩:=h
 exact ⟨dv,rfl,h1.later hb,r⟩
theorem Bs.at {w : World} {a : Option Addr} {n cap : Nat} {xs : List UInt8} (h : Bs w (.slice a n cap) xs) (hp : xs.length ≠ 0) : ∃ b off,a = some ⟨b,off,none⟩ ∧ ∀ j x,xs[j]? = some x → w.cell? ⟨b,off + j,none⟩ = some (.int .u8 (x.toNat : Int)):=by
 obtain ⟨a',cap',he,hlc,hno,hc⟩:=h
 injection he with h1 _ h2
 subst h1 h2
 obtain ⟨x,rfl,hc0⟩:=hc 0 (by omega)
 obtain ⟨b,off,spot⟩:=x
 have hspot : spot = none:=by simpa [Addr.add] using World.cell?_spot hc0
 subst hspot
 refine ⟨b,off,rfl,fun j y hy => ?_⟩
 have hj : j < xs.length:=(List.getElem?_eq_some_iff.1 hy).1
 obtain ⟨x',hx',hcc⟩:=hc j hj
 simp at hx'
 subst hx'
 rw [Addr.add_lit] at hcc
 rw [hcc]
 simp [List.getD,hy]
set_option maxRecDepth 10000
set_option maxRecDepth 10000
theorem ownsI_later {w w' : World} {base n : Nat} {v : Value} {e : TypeId} {xs : List Value} (h : w.ownsRow base e 1 v n xs) (hb : Below w.heap.size w w') : w'.ownsRow base e 1 v n xs:=by
 obtain ⟨h1,h2⟩:=h
 refine ⟨h1,?_⟩
 rcases h2 with h2 | ⟨g,cap,cur,hv,hg,hh,r⟩
 ·exact .inl h2
 ·exact .inr ⟨g,cap,cur,hv,hg,(hb.block g (Array.getElem?_eq_some_iff.1 hh).1).trans hh,r⟩
set_option maxRecDepth 10000
theorem one_newB (w : World) (v : Value) : ∀ (j : Nat) (u : Value),[v][j]? = some u → (w.alloc (.cells #[v] 5)).cell? ((⟨w.heap.size,0,none⟩ : Addr).add j) = some u:=by
 intro j u hj
 rw [Addr.add_lit,Nat.zero_add,World.cell?_alloc_mark]
 simpa using hj
theorem Mv_zero (w : World) : Mv w (.agg #[.int .i64 0,.slice none 0 0]) ⟨0,[]⟩:=⟨_,rfl,Bs_nil w,by simp,by simp [I64]⟩
theorem pairs_even : ∀ (l : List UInt8) (y : UInt8),l.length % 2 = 0 → pairsL (l ++ [y]) = pairsL l
 | [],_,_ => rfl
 | [_],_,h => by simp at h
 | a :: b :: r,y,h => by
  have:=pairs_even r y (by simp at h; omega)
  simp only [List.cons_append,pairsL,this]
theorem pairs_odd : ∀ (l : List UInt8) (p y : UInt8),l.length % 2 = 0 → pairsL (l ++ [p] ++ [y]) = pairsL (l ++ [p]) ++ [b8 (16 * valB p + valB y)]
 | [],_,_,_ => rfl
 | [_],_,_,h => by simp at h
 | a :: b :: r,p,y,h => by
  have:=pairs_odd r p y (by simp at h; omega)
  simp only [List.cons_append,pairsL,this]
theorem len_pairs : ∀ (l : List UInt8),(pairsL l).length = l.length / 2
 | [] => rfl
 | [_] => by simp [pairsL]
 | a :: b :: r => by
  have:=len_pairs r
  simp only [pairsL,List.length_cons,this]; omega
theorem idx_val (y : UInt8) : firstIdx ⟨#[48,49,50,51,52,53,54,55,56,57,97,98,99,100,101,102]⟩ y = valB y:=by
 have h : ∀ n : Nat,n < 256 → firstIdx ⟨#[48,49,50,51,52,53,54,55,56,57,97,98,99,100,101,102]⟩ (UInt8.ofNat n) = valB (UInt8.ofNat n):=by decide +kernel
 have:=h y.toNat y.toNat_lt
 rwa [UInt8.ofNat_toNat] at this
theorem idx_run (y : UInt8) (w : World) : (callFunc 85 #[.string ⟨#[48,49,50,51,52,53,54,55,56,57,97,98,99,100,101,102]⟩,.int .u8 (y.toNat : Int)]).run Try.prog w = .ok (.value (.int .i64 (valB y))) w:=by
 rw [run_callFunc_extern Try.func85 (by kernel_rfl) (by kernel_rfl) (by kernel_rfl) (e:=Extern.BytealgIndexByte.indexByte) (by kernel_rfl),run_indexByte_string]
 have e : ((y.toNat : Int)).toNat.toUInt8 = y:=by simp
 rw [e,idx_val]
 rfl
set_option maxRecDepth 100000 in
theorem idxIn_any (y : UInt8) (w : World) : Calls Try.prog 74 #[.string ⟨#[48,49,50,51,52,53,54,55,56,57,97,98,99,100,101,102]⟩,.int .u8 (y.toNat : Int)] w fun e w' => e = .returned (.int .i64 (valB y)) ∧ w = w':=by
 have hr:=idx_run y
 go_enter Try.func74,Try.ntmps74
 go_wp2
 go_ret
 exact ⟨rfl,rfl⟩
set_option maxRecDepth 100000 in
theorem idx_any (y : UInt8) (w : World) : Calls Try.prog 61 #[.string ⟨#[48,49,50,51,52,53,54,55,56,57,97,98,99,100,101,102]⟩,.int .u8 (y.toNat : Int)] w fun e w' => e = .returned (.int .i64 (valB y)) ∧ w = w':=by
 go_enter Try.func61,Try.ntmps61
 go_wp2_with (go_at_call 74; refine (idxIn_any y _).mono ?_; rintro e w1 ⟨rfl,rfl⟩)
 go_ret
 exact ⟨rfl,rfl⟩
set_option maxRecDepth 10000
theorem landWrongMsg_any (s : Int) (dv : Value) (d : List UInt8) (w : World) (hd : Bs w dv d) (hm : d.length ≤ maxLen) :
    Calls Try.prog 32 #[.agg #[.int .i64 s, dv]] w fun e w' => e = .returned (.int .i64 (wrongMsgL s d)) ∧ Below w.heap.size w w' := by
  obtain ⟨a, cap, rfl, -⟩ := hd
  unfold maxLen at hm
  go_enter Try.func32, Try.ntmps32
  go_wp2
  all_goals
    go_ret
    exact ⟨ite3 s d _ (by repeat' split
                          all_goals omega), (Below.refl _ _).alloc (Nat.le_refl _) _⟩
theorem str_at {S : ByteArray} {xs : List UInt8} (hxs : S.data.toList = xs) {j : Nat} {y : UInt8} (hy : xs[j]? = some y) (k : Int) (hk : k = j) (w : World) : (Instr.index 9 (.string S) (.int .i64 k)).run Try.prog w = .ok (.int .u8 (y.toNat : Int)) w:=by
 subst hk hxs
 have hj:=(List.getElem?_eq_some_iff.1 hy).1
 have hj' : j < S.size:=by rw [Array.length_toList] at hj; exact hj
 rw [run_index_string w 9 S .i64 _ Try.underlying9,dif_pos ⟨by omega,by omega⟩]
 rw [Array.getElem?_toList,Array.getElem?_eq_getElem (by exact hj')] at hy
 injection hy with hy
 rw [← hy]
 rfl
theorem or4 (x y : UInt8) (hx : 0 ≤ valB x) (hy : 0 ≤ valB y) : bits .or .i64 (valB x * 16) (valB y) = 16 * valB x + valB y:=by
 have h : ∀ a b : Nat,a < 16 → b < 16 → bits .or .i64 ((a : Int) * 16) (b : Int) = 16 * (a : Int) + (b : Int):=by
  intro a b ha hb
  have h1 : ∀ a,a < 16 → ∀ b,b < 16 → bits .or .i64 (((a : Nat) : Int) * 16) ((b : Nat) : Int) = 16 * (a : Int) + (b : Int):=by decide +kernel
  exact h1 a ha b hb
 have h0:=val_bd x
 have h1:=val_bd y
 obtain ⟨a,ha⟩:=Int.eq_ofNat_of_zero_le hx
 obtain ⟨b,hb⟩:=Int.eq_ofNat_of_zero_le hy
 rw [ha,hb]
 exact h a b (by omega) (by omega)
theorem take_two (xs : List UInt8) (j : Nat) (y0 y1 : UInt8) (h0 : xs[j]? = some y0) (h1 : xs[j + 1]? = some y1) : xs.take (j + 2) = xs.take j ++ [y0] ++ [y1]:=by
 rw [List.take_add_one,List.take_add_one,h0,h1]; rfl
theorem pairs_two (l : List UInt8) (p y : UInt8) (h : l.length % 2 = 0) : pairsL (l ++ [p] ++ [y]) = pairsL l ++ [b8 (16 * valB p + valB y)]:=by
 rw [pairs_odd l p y h,pairs_even l p h]
theorem digits_two (l : List UInt8) (p y : UInt8) (h : digitsL l = true) : digitsL (l ++ [p] ++ [y]) = (decide (0 ≤ valB p) && decide (0 ≤ valB y)):=by
 unfold digitsL at *
 simp [List.all_append,h]
theorem digits_not (xs : List UInt8) (j : Nat) (y : UInt8) (h : xs[j]? = some y) (hv : valB y < 0) : digitsL xs = false:=by
 unfold digitsL
 rw [List.all_eq_false]
 exact ⟨y,List.mem_of_getElem? h,by simp; omega⟩
theorem owns_formB {w : World} {base e n : Nat} {v : Value} {xs : List Value} (h : w.ownsRow base e 1 v n xs) : ∃ a c,v = .slice a n c:=by
 obtain ⟨h1,⟨rfl,h0⟩ | ⟨g,cap,cur,rfl,_⟩⟩:=h
 ·subst h0; exact ⟨none,0,rfl⟩
 ·exact ⟨_,_,rfl⟩
def digitsOk (xs : List UInt8) : Bool:=decide (xs.length % 2 = 0) && digitsL xs
def FreshD (base : Nat) (v : Value) : Prop:=∀ a n c,v = .slice a n c → (∀ p,a = some p → base ≤ p.block ∧ p.spot = none) ∧ c ≤ maxLen
theorem freshD_nil (base : Nat) : FreshD base (.slice none 0 0):=fun a n c h => by cases h; exact ⟨fun p q => (by cases q),Nat.zero_le _⟩
theorem freshD_owns {w : World} {base e n : Nat} {v : Value} {L : List Value} (h : w.ownsRow base e 1 v n L) : FreshD base v:=fun a n' c' e' => by
 rcases h.2 with ⟨q,_⟩ | ⟨g,cap,cur,q,hb,_,_,hm,_⟩
 ·rw [q] at e'; cases e'; exact ⟨fun p q => (by cases q),Nat.zero_le _⟩
 ·rw [q] at e'; cases e'; exact ⟨fun p q => (by cases q; exact ⟨hb,rfl⟩),hm⟩
theorem FreshD.mono {b b' : Nat} {v : Value} (h : FreshD b v) (hb : b' ≤ b) : FreshD b' v:=fun a n c e => ⟨fun p q => ⟨Nat.le_trans hb ((h a n c e).1 p q).1,((h a n c e).1 p q).2⟩,(h a n c e).2⟩
theorem digits_odd (S : ByteArray) (w : World) (h : ((S.size : Int) % 2 != 0) = true) (hsz : S.size ≤ 140737488355328) :
  Calls Try.prog 45 #[.string S] w fun e w' => e = .returned (.tuple #[.slice none 0 0,.bool false]) ∧ w = w':=by
 go_enter Try.func45,Try.ntmps45
 go_wp2
 go_ret2
 exact ⟨rfl,rfl⟩
set_option maxRecDepth 100000 in
theorem digits_in (S : ByteArray) (xs : List UInt8) (w : World) (hxs : S.data.toList = xs) (h : ((S.size : Int) % 2 != 0) = false) (hsz : S.size ≤ 140737488355328) (R : Bool) (hR : Hid (R = digitsL xs)) :
  Calls Try.prog 45 #[.string S] w fun e w' => ∃ v',e = .returned (.tuple #[v',.bool R]) ∧ (∃ ys,Bs w' v' ys ∧ ys.length ≤ 140737488355328 ∧ (R = true → ys = pairsL xs)) ∧ FreshD w.heap.size v' ∧ Below w.heap.size w w':=by
 obtain ⟨i0,hi,hz0,hz1,hz2⟩:=info_parts info5
 have hlen : xs.length = S.size:=by rw [← hxs,Array.length_toList]; rfl
 have hev : S.size % 2 = 0:=by simp at h; omega
 have hmk : ∀ u : World,(Instr.makeSlice 26 (.int .i64 0) (.int .i64 ((S.size : Int) / 2))).run Try.prog u =
   .ok (.slice (some ⟨u.heap.size,0,none⟩) 0 (S.size / 2)) (u.alloc (.cells (madeCells #[.int .u8 0] (S.size / 2)) 5)):=fun u => by
  have h:=run_make (P:=Try.prog) u 26 5 i0 (.int .u8 0) Try.underlying26 hi hz0 .i64 .i64 0 ((S.size : Int) / 2) (by omega) (by omega) (by rw [hz2]; omega) (by omega)
  have e : ((S.size : Int) / 2).toNat = S.size / 2:=by omega
  rw [e] at h
  simpa [hz1,Value.cells] using h
 have HXS:=hide hxs
 have HLEN:=hide hlen
 have HEV:=hide hev
 clear hlen hxs hev
 go_enter Try.func45,Try.ntmps45
 go_wp2_with fail
 go_loopw [4,5] (fun s i wr => ∃ (j : Nat) (a1 : Option Addr) (c1 : Nat),j ≤ S.size ∧ j % 2 = 0 ∧ i = .int .i64 (j : Int) ∧ s = .slice a1 (j / 2) c1 ∧ wr.ownsRow w.heap.size 5 1 s (j / 2) ((pairsL (xs.take j)).map B) ∧ digitsL (xs.take j) = true ∧ Below w.heap.size w wr) (fun _ i _ => S.size - (intOf i).toNat)
 case atStart =>
  exact ⟨0,_,_,Nat.zero_le _,rfl,rfl,rfl,World.ownsRow_made w _ _ (Nat.le_refl _) (by unfold maxLen; omega) (by simp [madeCells]),rfl,(Below.refl _ _).alloc (Nat.le_refl _) _⟩
 case round =>
  obtain ⟨j,a1,c1,hj,hje,rfl,rfl,hO,hD,hb⟩:=hrel
  by_cases hlt : j < S.size
  ·have hlt' : (j : Int) < (S.size : Int):=by omega
   have hlt1 : (j : Int) + 1 < (S.size : Int):=by have:=HEV.out; omega
   obtain ⟨y0,hy0⟩:=some_at (xs:=xs) (k:=j) (by rw [HLEN.out]; exact hlt)
   obtain ⟨y1,hy1⟩:=some_at (xs:=xs) (k:=j + 1) (by rw [HLEN.out]; omega)
   have f0:=fun w => str_at HXS.out hy0 (j : Int) rfl w
   have f1:=fun w => str_at HXS.out hy1 ((j : Int) + 1) (by omega) w
   have hwrap : IntKind.i64.wrap ((j : Int) + 1) = (j : Int) + 1:=by rw [IntKind.wrap_i64]; omega
   have hv0:=val_bd y0
   have hv1:=val_bd y1
   have HY0:=hide hy0
   have HY1:=hide hy1
   have HO:=hide hO
   have HDG:=hide hD
   have HB:=hide hb
   have HJE:=hide hje
   clear hy0 hy1 hO hD hb hje hmk h
   go_wp2_with fail
   refine regs.heldS_begin (S:=fun x => x = wr.drew) (by kernel_rfl) ?_
   refine regs.heldS_take (i:=0) (v:=.string S) rfl (by kernel_rfl) (by kernel_rfl) (by kernel_rfl) (fun _ _ _ h => h) (by rfl) (fun w' hb => by go_simp) rfl ?_
   simp only [Act.put,List.setIfInBounds_toArray,List.set_cons_zero,List.set_cons_succ,List.getElem_toArray,List.getElem_cons_zero]
   refine regs.heldS_take (i:=1) (v:=.int .i64 (j : Int)) rfl (by kernel_rfl) (by kernel_rfl) (by kernel_rfl) (fun _ _ _ h => h) (by rfl) (fun w' hb => by go_simp) rfl ?_
   simp only [Act.put,List.setIfInBounds_toArray,List.set_cons_zero,List.set_cons_succ,List.getElem_toArray,List.getElem_cons_zero,List.getElem_cons_succ]
   refine regs.heldS_take (i:=2) (v:=.int .u8 (y0.toNat : Int)) rfl (by kernel_rfl) (by kernel_rfl) (by kernel_rfl) (fun _ _ _ h => h) (by rfl) (fun w' hb => by go_simp) rfl ?_
   simp only [Act.put,List.setIfInBounds_toArray,List.set_cons_zero,List.set_cons_succ,List.getElem_toArray,List.getElem_cons_zero,List.getElem_cons_succ]
   refine regs.heldS_take (i:=4) (v:=.string S) rfl (by kernel_rfl) (by kernel_rfl) (by kernel_rfl) (fun _ _ _ h => h) (by rfl) (fun w' hb => by go_simp) rfl ?_
   simp only [Act.put,List.setIfInBounds_toArray,List.set_cons_zero,List.set_cons_succ,List.getElem_toArray,List.getElem_cons_zero,List.getElem_cons_succ]
   refine regs.heldS_take (i:=5) (v:=.int .i64 (j : Int)) rfl (by kernel_rfl) (by kernel_rfl) (by kernel_rfl) (fun _ _ _ h => h) (by rfl) (fun w' hb => by go_simp) rfl ?_
   simp only [Act.put,List.setIfInBounds_toArray,List.set_cons_zero,List.set_cons_succ,List.getElem_toArray,List.getElem_cons_zero,List.getElem_cons_succ]
   refine regs.heldS_take (i:=6) (v:=.int .i64 ((j : Int) + 1)) rfl (by kernel_rfl) (by kernel_rfl) (by kernel_rfl) (fun _ _ _ h => h) (by rfl) (fun w' hb => by go_simp) rfl ?_
   simp only [Act.put,List.setIfInBounds_toArray,List.set_cons_zero,List.set_cons_succ,List.getElem_toArray,List.getElem_cons_zero,List.getElem_cons_succ]
   refine regs.heldS_take (i:=7) (v:=.int .u8 (y1.toNat : Int)) rfl (by kernel_rfl) (by kernel_rfl) (by kernel_rfl) (fun _ _ _ h => h) (by rfl) (fun w' hb => by go_simp) rfl ?_
   simp only [Act.put,List.setIfInBounds_toArray,List.set_cons_zero,List.set_cons_succ,List.getElem_toArray,List.getElem_cons_zero,List.getElem_cons_succ]
   refine regs.heldS_ready (rs:=[3]) (by kernel_rfl) (by simp) (regs.comes1 ?_)
   refine ⟨_,rfl,fun K hK => ?_⟩
   go_simp
   go_wp2_with ((go_at_call 61; refine (idx_any y0 _).mono ?_; rintro e w' ⟨rfl,rfl⟩))
   refine hK.out _ _ rfl ?_
   clear hK K
   refine regs.heldS_ready (rs:=[8]) (by kernel_rfl) (by simp) (regs.comes1 ?_)
   refine ⟨_,rfl,fun K hK => ?_⟩
   go_simp
   go_wp2_with ((go_at_call 61; refine (idx_any y1 _).mono ?_; rintro e w' ⟨rfl,rfl⟩))
   refine hK.out _ _ rfl ?_
   clear hK K
   refine regs.heldS_take (i:=9) (v:=.int .i64 (valB y0)) rfl (by kernel_rfl) (by kernel_rfl) (by kernel_rfl) (fun _ _ _ h => h) (by rfl) (fun w' hb => by go_simp) rfl ?_
   simp only [Act.put,List.setIfInBounds_toArray,List.set_cons_zero,List.set_cons_succ,List.getElem_toArray,List.getElem_cons_zero,List.getElem_cons_succ]
   refine regs.heldS_take (i:=10) (v:=.int .i64 (valB y1)) rfl (by kernel_rfl) (by kernel_rfl) (by kernel_rfl) (fun _ _ _ h => h) (by rfl) (fun w' hb => by go_simp) rfl ?_
   simp only [Act.put,List.setIfInBounds_toArray,List.set_cons_zero,List.set_cons_succ,List.getElem_toArray,List.getElem_cons_zero,List.getElem_cons_succ]
   refine regs.heldS_done (by kernel_rfl) ?_ _
   rcases (show valB y0 < 0 ∨ (0 ≤ valB y0 ∧ valB y1 < 0) ∨ (0 ≤ valB y0 ∧ 0 ≤ valB y1) by omega) with c | c | c
   ·have hr : R = false:=hR.out.trans (digits_not xs j y0 HY0.out c)
    subst hr
    go_wp2
    go_ret2
    exact ⟨_,rfl,⟨[],Bs_nil _,by simp,fun h => by cases h⟩,freshD_nil _,Below.drew HB.out⟩
   ·have hr : R = false:=hR.out.trans (digits_not xs (j + 1) y1 HY1.out c.2)
    subst hr
    have c0:=c.1
    have c1':=c.2
    clear c
    go_wp2
    go_ret2
    exact ⟨_,rfl,⟨[],Bs_nil _,by simp,fun h => by cases h⟩,freshD_nil _,Below.drew HB.out⟩
   ·have ho:=or4 y0 y1 c.1 c.2
    have c0:=c.1
    have c1':=c.2
    clear c
    have HTWO:=hide (take_two xs j y0 y1 HY0.out HY1.out)
    have HPR : Hid (pairsL (xs.take (j + 2)) = pairsL (xs.take j) ++ [b8 (16 * valB y0 + valB y1)]):=by
     rw [HTWO.out]; exact pairs_two _ _ _ (by rw [List.length_take,HLEN.out]; have:=HJE.out; omega)
    have hdt : digitsL (xs.take (j + 2)) = true:=by
     rw [HTWO.out,digits_two _ _ _ HDG.out]; simp [c0,c1']
    have HDT:=hide hdt
    clear hdt
    obtain ⟨X,hX⟩ : ∃ X,X = pairsL (xs.take j):=⟨_,rfl⟩
    rw [← hX] at HO HPR
    clear hX HTWO
    go_wp2_with (at_builtin; go_must (refine wpList_append_own _ rfl (.tmp 37) (.tmp 43) 26 rfl w.heap.size 5 i0 (.int .u8 0) 1 1 Try.underlying26 hi hz0 hz1 hz2 rfl (by decide) (.slice a1 (j / 2) c1) (j / 2) (X.map B) rfl (HO.out.alloc _) ⟨wr.heap.size,0,none⟩ 1 1 [.int .u8 (16 * valB y0 + valB y1)] rfl rfl (one_newB wr (.int .u8 (16 * valB y0 + valB y1))) (fun u hu => by simp at hu; subst hu; rfl) (by unfold maxLen; omega) (by omega) (by have:=HB.out.size; simp; omega) ?_; intro v2 w2 hown2 hgrow2 hnil2; clear hnil2; have HO2:=hide hown2; have HG2:=hide hgrow2; clear hown2 hgrow2))
    go_roundw
    case rel =>
     have hv : [Value.int .u8 (16 * valB y0 + valB y1)] = [b8 (16 * valB y0 + valB y1)].map B:=by simp [B,b8_toNat (show 0 ≤ 16 * valB y0 + valB y1 ∧ 16 * valB y0 + valB y1 ≤ 255 by omega)]
     have ho2:=HO2.out
     rw [hv,← List.map_append,← HPR.out] at ho2
     have hb2 : Below w.heap.size w w2:=(Below.drew (HB.out.alloc HB.out.size _)).grown HG2.out (by have:=HB.out.size; simp; omega) (fun q hq => by have:=(HO.out.lt q hq).1; omega)
     have he : j / 2 + 1 = (j + 2) / 2:=by omega
     rw [he] at ho2
     obtain ⟨a2,c2,rfl⟩:=owns_formB ho2
     exact ⟨j + 2,a2,c2,by omega,by have:=HJE.out; omega,by go_num,rfl,ho2,HDT.out,hb2⟩
    case measure => simp [intOf]; omega
  ·have hke : j = S.size:=by omega
   subst hke
   rw [List.take_of_length_le (by rw [HLEN.out]; exact Nat.le_refl _)] at hO hD
   have hr : R = true:=hR.out.trans hD
   subst hr
   have HV:=hide (owns_Bs hO)
   have HF:=hide (freshD_owns hO)
   have HB:=hide hb
   clear hO hD hb h hmk
   go_wp2
   go_ret2
   exact ⟨_,rfl,⟨HV.out,by rw [len_pairs,HLEN.out]; omega⟩,HF.out,HB.out⟩
theorem digits_any (S : ByteArray) (xs : List UInt8) (w : World) (hxs : S.data.toList = xs) (hsz : S.size ≤ 140737488355328) :
  Calls Try.prog 45 #[.string S] w fun e w' => ∃ v',e = .returned (.tuple #[v',.bool (digitsOk xs)]) ∧ (∃ ys,Bs w' v' ys ∧ ys.length ≤ 140737488355328 ∧ (digitsOk xs = true → ys = pairsL xs)) ∧ FreshD w.heap.size v' ∧ Below w.heap.size w w':=by
 have hlen : xs.length = S.size:=by rw [← hxs,Array.length_toList]; rfl
 by_cases h : S.size % 2 = 0
 ·have e : digitsOk xs = digitsL xs:=by unfold digitsOk; rw [hlen]; simp [h]
  rw [e]
  exact digits_in S xs w hxs (by simp; omega) hsz _ rfl
 ·have e : digitsOk xs = false:=by unfold digitsOk; rw [hlen]; simp [h]
  rw [e]
  exact (digits_odd S w (by simp; omega) hsz).mono fun e w' ⟨h1,h2⟩ => ⟨_,h1,⟨[],Bs_nil _,by simp,fun h => by cases h⟩,freshD_nil _,by rw [← h2]; exact Below.refl _ _⟩
end Go.Proofs.Ytgaofjiidedcbad.leaf
