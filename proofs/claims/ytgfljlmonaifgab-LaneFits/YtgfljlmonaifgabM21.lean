import Derived.Test.YtgfljlmonaifgabM20
import Derived.Test.YtgfljlmonaifgabProg
import Derived.Test.YtgfljlmonaifgabChecked
import Derived.WalkKit
import Derived.ProofKit
import Derived.WalkSpells
import Derived.Laws.CopyOwn
import Derived.Laws.IdiomStrings
import Derived.Laws.AppendOwnNone
import Derived.Outline
import Derived.Deep.DeepMust
set_option maxHeartbeats 400000
set_option linter.unusedVariables false
set_option linter.unusedSimpArgs false
namespace Go.Proofs.Ytgfljlmonaifgab.ab
set_option maxRecDepth 100000
open Go Go.RowKit
def r6_put_r0 : IC:=cReg Try.prog [
  ⟨some 4,none,iMov 4 (.const (.slice none 0 0)) true⟩] [0,1] []
def r6_put_r1 : IC:=cReg Try.prog [
  ⟨some 5,none,iMov 5 (.tmp 0) false⟩,
  ⟨some 6,none,iLen 6 false (.tmp 5)⟩,
  ⟨some 7,none,iBin 7 .gtr (.tmp 6) (.const (.int .i64 5))⟩] [0,1,7] []
def r6_put_r2 : IC:=cReg Try.prog [
  ⟨some 8,none,iMov 8 (.tmp 0) false⟩,
  ⟨some 4,none,iMov 4 (.tmp 8) true⟩] [4] []
def r6_put_c1a : IC:=(cSeq r6_put_r2 cRet)
def r6_put_c1 : IC:=cCond (.tmp 7) r6_put_c1a cSkip
def r6_put_r3 : IC:=cReg Try.prog [
  ⟨some 9,none,iRow 9 30 1 []⟩,
  ⟨some 10,none,iMov 10 (.tmp 0) false⟩,
  ⟨some 11,none,iApp 11 30 1 24 (.tmp 9) (.tmp 10)⟩,
  ⟨some 12,none,iMov 12 (.tmp 1) false⟩,
  ⟨some 13,none,iRow 13 30 1 [(.tmp 12)]⟩,
  ⟨some 14,none,iApp 14 30 1 24 (.tmp 11) (.tmp 13)⟩,
  ⟨some 4,none,iMov 4 (.tmp 14) true⟩] [4] []
def r6_put : IC:=(cSeq r6_put_r0 (cSeq (cSeq r6_put_r1 r6_put_c1) (cSeq r6_put_r3 cRet)))
theorem told_r6_put {args r : List D} (hl : args.length = 2) (h : r6_put (start args) (fin [(4,none)] r)) : Told Try.prog 78 args r :=
 told_of follows Try.func78 rfl (an:=[([],[0,1],[],[]),([],[0,1,7],[],[]),([],[4],[],[]),([],[4],[],[])]) (by kernel_rfl) (by kernel_rfl) (by rw [hl]; decide +kernel) h
def r6_way_r0 : IC:=cReg Try.prog [
  ⟨some 2,none,iBox 2 (.tmp 0)⟩,
  ⟨some 4,none,iMov 4 (.const (.slice none 0 0)) true⟩] [1,2] [2]
def r6_way_r1 : IC:=cReg Try.prog [
  ⟨some 5,none,iMov 5 (.tmp 1) false⟩] [2,5] [2]
def r6_way_r2 : IC:=cReg Try.prog [
  ⟨some 6,none,iFad 6 16 (.tmp 2)⟩,
  ⟨some 7,none,iLoad 7 1 false (.tmp 6) false⟩,
  ⟨some 4,none,iMov 4 (.tmp 7) true⟩] [4] []
def r6_way_c1a : IC:=(cSeq r6_way_r2 cRet)
def r6_way_c1 : IC:=cCond (.tmp 5) r6_way_c1a cSkip
def r6_way_r3 : IC:=cReg Try.prog [
  ⟨some 8,none,iFad 8 15 (.tmp 2)⟩,
  ⟨some 9,none,iLoad 9 1 false (.tmp 8) false⟩,
  ⟨some 4,none,iMov 4 (.tmp 9) true⟩] [4] []
def r6_way : IC:=(cSeq r6_way_r0 (cSeq (cSeq r6_way_r1 r6_way_c1) (cSeq r6_way_r3 cRet)))
theorem told_r6_way {args r : List D} (hl : args.length = 2) (h : r6_way (start args) (fin [(4,none)] r)) : Told Try.prog 84 args r :=
 told_of follows Try.func84 rfl (an:=[([],[1,2],[2],[]),([],[2,5],[2],[]),([],[4],[],[]),([],[4],[],[])]) (by kernel_rfl) (by kernel_rfl) (by rw [hl]; decide +kernel) h
def r6_with_r0 : IC:=cReg Try.prog [
  ⟨some 3,none,iBox 3 (.tmp 0)⟩,
  ⟨some 6,none,iAlo 6 [vD (.slice none 0 0),vD (.int .i64 0),vD (.int .i64 0),vD (.int .i64 0),vD (.int .i64 0),vD (.slice none 0 0),vD (.int .i64 0),vD (.int .i64 0),vD (.slice none 0 0),vD (.int .i64 0),vD (.int .i64 0),vD (.int .i64 0),vD (.slice none 0 0),vD (.slice none 0 0),vD (.bool false),vD (.slice none 0 0),vD (.slice none 0 0)]⟩] [1,2,3,6] [3,6]
def r6_with_r1 : IC:=cReg Try.prog [
  ⟨some 7,none,iMov 7 (.tmp 1) false⟩] [2,3,6,7] [3,6]
def r6_with_r2 : IC:=cReg Try.prog [
  ⟨some 8,none,iMov 8 (.tmp 2) false⟩,
  ⟨some 9,none,iFad 9 16 (.tmp 3)⟩,
  ⟨none,none,iStor 1 (.tmp 9) (.tmp 8)⟩] [3,6] [3,6]
def r6_with_r3 : IC:=cReg Try.prog [
  ⟨some 10,none,iMov 10 (.tmp 2) false⟩,
  ⟨some 11,none,iFad 11 15 (.tmp 3)⟩,
  ⟨none,none,iStor 1 (.tmp 11) (.tmp 10)⟩] [3,6] [3,6]
def r6_with_c1 : IC:=cCond (.tmp 7) r6_with_r2 r6_with_r3
def r6_with_r4 : IC:=cReg Try.prog [
  ⟨some 12,none,iLoad 12 17 true (.tmp 3) false⟩,
  ⟨none,none,iStor 17 (.tmp 6) (.tmp 12)⟩] [6] [6]
def r6_with : IC:=(cSeq r6_with_r0 (cSeq (cSeq r6_with_r1 r6_with_c1) (cSeq r6_with_r4 cRet)))
theorem told_r6_with {args r : List D} (hl : args.length = 3) (h : r6_with (start args) (fin [(6,some (17,true))] r)) : Told Try.prog 85 args r :=
 told_of follows Try.func85 rfl (an:=[([],[1,2,3,6],[3,6],[]),([],[2,3,6,7],[3,6],[]),([],[3,6],[3,6],[]),([],[3,6],[3,6],[]),([],[6],[6],[])]) (by kernel_rfl) (by kernel_rfl) (by rw [hl]; decide +kernel) h
def r6_without_r0 : IC:=cReg Try.prog [
  ⟨some 4,none,iMov 4 (.const (.slice none 0 0)) true⟩] [0,1] []
def r6_without_r1 : IC:=cRegD Try.prog [
  ⟨some 5,none,iRow 5 30 1 []⟩,
  ⟨some 6,none,iMov 6 (.tmp 0) false⟩,
  ⟨some 7,none,iMov 7 (.tmp 1) false⟩,
  ⟨some 8,none,iSlc 8 1 (.tmp 6) none (some (.tmp 7))⟩,
  ⟨some 9,none,iApp 9 30 1 24 (.tmp 5) (.tmp 8)⟩,
  ⟨some 10,none,iMov 10 (.tmp 0) false⟩,
  ⟨some 11,none,iMov 11 (.tmp 1) false⟩,
  ⟨some 12,none,iBin 12 .add (.tmp 11) (.const (.int .i64 1))⟩,
  ⟨some 13,none,iSlc 13 1 (.tmp 10) (some (.tmp 12)) none⟩,
  ⟨some 14,none,iApp 14 30 1 24 (.tmp 9) (.tmp 13)⟩,
  ⟨some 4,none,iMov 4 (.tmp 14) true⟩] [[],[],[],[1,2],[0,3,1,2],[],[],[6],[5,7,6],[4,8,0,3,1,2,5,7,6],[9,0,1,2,3,4,5,6,7,8]] [4] []
def r6_without : IC:=(cSeq r6_without_r0 (cSeq r6_without_r1 cRet))
theorem told_r6_without {args r : List D} (hl : args.length = 2) (h : r6_without (start args) (fin [(4,none)] r)) : Told Try.prog 86 args r :=
 told_of follows Try.func86 rfl (an:=[([],[0,1],[],[]),([],[4],[],[])]) (by kernel_rfl) (by kernel_rfl) (by rw [hl]; decide +kernel) h
def r6_Speak_r0 : IC:=cReg Try.prog [
  ⟨some 1,none,iBox 1 (.tmp 0)⟩,
  ⟨some 2,none,iAlo 2 [vD (.slice none 0 0),vD (.int .i64 0),vD (.int .i64 0),vD (.int .i64 0),vD (.int .i64 0),vD (.slice none 0 0),vD (.int .i64 0),vD (.int .i64 0),vD (.slice none 0 0),vD (.int .i64 0),vD (.int .i64 0),vD (.int .i64 0),vD (.slice none 0 0),vD (.slice none 0 0),vD (.bool false),vD (.slice none 0 0),vD (.slice none 0 0)]⟩] [1,2] [1,2]
def r6_Speak_r1 : IC:=cReg Try.prog [
  ⟨some 8,none,iFad 8 0 (.tmp 1)⟩,
  ⟨some 9,none,iLoad 9 7 true (.tmp 8) false⟩,
  ⟨some 10,none,iCall 10 30 [(.tmp 9)]⟩,
  ⟨some 7,none,iMov 7 (.tmp 10) false⟩,
  ⟨some 11,none,iExt 11 (.tmp 7) 0⟩,
  ⟨some 12,none,iExt 12 (.tmp 7) 1⟩,
  ⟨some 13,none,iExt 13 (.tmp 7) 2⟩,
  ⟨some 3,none,iAlo 3 [vD (.slice none 0 0),vD (.int .i64 0),vD (.int .i64 0),vD (.int .i64 0),vD (.int .i64 0),vD (.slice none 0 0),vD (.int .i64 0)]⟩,
  ⟨some 4,none,iAlo 4 [vD (.int .i64 0),vD (.int .i64 0),vD (.int .i64 0),vD (.int .i64 0),vD (.slice none 0 0),vD (.slice none 0 0)]⟩,
  ⟨none,none,iStor 7 (.tmp 3) (.tmp 11)⟩,
  ⟨none,none,iStor 6 (.tmp 4) (.tmp 12)⟩,
  ⟨some 5,none,iMov 5 (.tmp 13) true⟩] [1,2,3,4,5] [1,2,3,4]
def r6_Speak_r2 : IC:=cReg Try.prog [
  ⟨some 14,none,iLoad 14 7 true (.tmp 3) false⟩,
  ⟨some 15,none,iFad 15 0 (.tmp 1)⟩,
  ⟨none,none,iStor 7 (.tmp 15) (.tmp 14)⟩] [1,2,4,5] [1,2,4]
def r6_Speak_r3 : IC:=cReg Try.prog [
  ⟨some 16,none,iMov 16 (.tmp 5) false⟩] [1,2,4,16] [1,2,4]
def r6_Speak_r4 : IC:=cRegD Try.prog [
  ⟨some 17,none,iFad 17 15 (.tmp 1)⟩,
  ⟨some 18,none,iLoad 18 1 false (.tmp 17) false⟩,
  ⟨some 19,none,iLoad 19 6 true (.tmp 4) false⟩,
  ⟨some 20,none,iCall 20 79 [(.tmp 19)]⟩,
  ⟨some 21,none,iCall 21 78 [(.tmp 18),(.tmp 20)]⟩,
  ⟨some 22,none,iFad 22 15 (.tmp 1)⟩,
  ⟨none,none,iStor 1 (.tmp 22) (.tmp 21)⟩] [[],[0],[],[2],[1,3,0,2],[0,1,2,3,4],[5,4,0,1,2,3]] [1,2,4] [1,2,4]
def r6_Speak_c1 : IC:=cCond (.tmp 16) r6_Speak_r4 cSkip
def r6_Speak_r5 : IC:=cReg Try.prog [
  ⟨some 24,none,iFad 24 7 (.tmp 1)⟩,
  ⟨some 25,none,iLoad 25 8 true (.tmp 24) false⟩,
  ⟨some 26,none,iCall 26 23 [(.tmp 25)]⟩,
  ⟨some 23,none,iMov 23 (.tmp 26) false⟩,
  ⟨some 27,none,iExt 27 (.tmp 23) 0⟩,
  ⟨some 28,none,iExt 28 (.tmp 23) 1⟩,
  ⟨some 29,none,iExt 29 (.tmp 23) 2⟩,
  ⟨some 6,none,iAlo 6 [vD (.int .i64 0),vD (.slice none 0 0),vD (.int .i64 0),vD (.int .i64 0),vD (.int .i64 0),vD (.slice none 0 0),vD (.slice none 0 0),vD (.bool false)]⟩,
  ⟨none,none,iStor 8 (.tmp 6) (.tmp 27)⟩,
  ⟨none,none,iStor 6 (.tmp 4) (.tmp 28)⟩,
  ⟨some 5,none,iMov 5 (.tmp 29) true⟩] [1,2,4,5,6] [1,2,4,6]
def r6_Speak_r6 : IC:=cReg Try.prog [
  ⟨some 30,none,iLoad 30 8 true (.tmp 6) false⟩,
  ⟨some 31,none,iFad 31 7 (.tmp 1)⟩,
  ⟨none,none,iStor 8 (.tmp 31) (.tmp 30)⟩] [1,2,4,5] [1,2,4]
def r6_Speak_r7 : IC:=cReg Try.prog [
  ⟨some 32,none,iMov 32 (.tmp 5) false⟩] [1,2,4,32] [1,2,4]
def r6_Speak_r8 : IC:=cRegD Try.prog [
  ⟨some 33,none,iFad 33 16 (.tmp 1)⟩,
  ⟨some 34,none,iLoad 34 1 false (.tmp 33) false⟩,
  ⟨some 35,none,iLoad 35 6 true (.tmp 4) false⟩,
  ⟨some 36,none,iCall 36 79 [(.tmp 35)]⟩,
  ⟨some 37,none,iCall 37 78 [(.tmp 34),(.tmp 36)]⟩,
  ⟨some 38,none,iFad 38 16 (.tmp 1)⟩,
  ⟨none,none,iStor 1 (.tmp 38) (.tmp 37)⟩] [[],[0],[],[2],[1,3,0,2],[0,1,2,3,4],[5,4,0,1,2,3]] [1,2] [1,2]
def r6_Speak_c2 : IC:=cCond (.tmp 32) r6_Speak_r8 cSkip
def r6_Speak_r9 : IC:=cReg Try.prog [
  ⟨some 39,none,iLoad 39 17 true (.tmp 1) false⟩,
  ⟨none,none,iStor 17 (.tmp 2) (.tmp 39)⟩] [2] [2]
def r6_Speak : IC:=(cSeq r6_Speak_r0 (cSeq r6_Speak_r1 (cSeq r6_Speak_r2 (cSeq (cSeq r6_Speak_r3 r6_Speak_c1) (cSeq r6_Speak_r5 (cSeq r6_Speak_r6 (cSeq (cSeq r6_Speak_r7 r6_Speak_c2) (cSeq r6_Speak_r9 cRet))))))))
theorem told_r6_Speak {args r : List D} (hl : args.length = 1) (h : r6_Speak (start args) (fin [(2,some (17,true))] r)) : Told Try.prog 36 args r :=
 told_of follows Try.func36 rfl (an:=[([],[1,2],[1,2],[]),([],[1,2,3,4,5],[1,2,3,4],[]),([],[1,2,4,5],[1,2,4],[]),([],[1,2,4,16],[1,2,4],[]),([],[1,2,4],[1,2,4],[]),([],[1,2,4,5,6],[1,2,4,6],[]),([],[1,2,4,5],[1,2,4],[]),([],[1,2,4,32],[1,2,4],[]),([],[1,2],[1,2],[]),([],[2],[2],[])]) (by kernel_rfl) (by kernel_rfl) (by rw [hl]; decide +kernel) h
end Go.Proofs.Ytgfljlmonaifgab.ab
namespace Go.Proofs.Ytgfljlmonaifgab.leaf
open Go.RowKit
open mth
def B (x : UInt8) : Value:=.int .u8 (x.toNat : Int)
def Bs (w : World) (v : Value) (xs : List UInt8) : Prop :=
 ∃ (a : Option Addr) (cap : Nat),v = .slice a xs.length cap ∧ xs.length ≤ cap ∧ (a = none → cap = 0) ∧ ∀ i,i < xs.length → ∃ x,a = some x ∧ w.cell? (x.add i) = some (.int .u8 ((xs.getD i 0).toNat : Int))
theorem ret_int {k : IntKind} {a b : Int} (h : a = b) : Ending.returned (.int k a) = .returned (.int k b):=by rw [h]
theorem take_snoc (xs : List UInt8) (k : Nat) (h : k < xs.length) : sumL (xs.take (k + 1)) = (sumL (xs.take k) * 139 + ((xs[k].toNat : Nat) : Int) + 1) % 65521:=by
 rw [List.take_succ_eq_append_getElem h,sumL_snoc]; rfl
theorem of_any (a : Option Addr) (cap : Nat) (xs : List UInt8) (w : World) (h : Bs w (.slice a xs.length cap) xs) (hm : xs.length ≤ maxLen) :
  Calls Try.prog 118 #[.slice a xs.length cap] w fun e w' => e = .returned (.int .i64 (sumL xs)) ∧ w = w':=by
 unfold maxLen at hm
 obtain ⟨a',cap',he,hlc,hno,hc⟩:=h
 injection he with h1 _ h2
 subst h1 h2
 by_cases hl : xs.length = 0
 ·obtain rfl : xs = []:=List.eq_nil_of_length_eq_zero hl
  clear hc hno hlc
  go_enter Try.func118,Try.ntmps118
  go_wp2
  refine wp_loop_rounds 1 ?_
  rw [rounds_succ]
  go_wp2
  go_ret
  exact ⟨rfl,rfl⟩
 ·obtain ⟨x,rfl,hc0⟩:=hc 0 (by omega)
  obtain ⟨b,off,spot⟩:=x
  have hspot : spot = none:=by simpa [Addr.add] using World.cell?_spot hc0
  subst hspot
  have hcx : ∀ k (_ : k < xs.length),w.cell? ⟨b,off + k,none⟩ = some (.int .u8 (xs[k].toNat : Int)):=by
   intro k hk
   obtain ⟨x',hx',hcc⟩:=hc k hk
   simp at hx'
   subst hx'
   rw [Addr.add_lit] at hcc
   simpa [List.getD,hk] using hcc
  clear hc hc0 hno
  go_enter Try.func118,Try.ntmps118
  go_wp2
  go_loop [3,8] (fun s i => ∃ k : Nat,k ≤ xs.length ∧ i = .int .i64 k ∧ s = .int .i64 (sumL (xs.take k))) (fun _ i => xs.length - (intOf i).toNat)
  case atStart => exact ⟨0,Nat.zero_le _,rfl,rfl⟩
  case round =>
   obtain ⟨k,hk,rfl,rfl⟩:=hrel
   have hd:=sumL_bd (xs.take k)
   by_cases hlt : k < xs.length
   ·have hcell:=hcx k hlt
    have HS : Hid (sumL (xs.take (k + 1)) = _):=take_snoc xs k hlt
    have hb:=xs[k].toNat_lt
    clear hcx
    go_wp2
    go_round
    case rel => exact ⟨k + 1,by omega,by go_num,by rw [HS.out]⟩
    case measure => simp [intOf]; omega
   ·clear hcx
    go_wp2
    go_ret
    exact ⟨ret_int (by rw [List.take_of_length_le (by omega)]),rfl⟩
theorem take_snoc' (xs : List UInt8) (k : Nat) (h : k < xs.length) : sumL (xs.take (k + 1)) = (139 * sumL (xs.take k) + ((xs[k].toNat : Nat) : Int) + 1) % 65521:=by
 rw [take_snoc xs k h,Int.mul_comm]
theorem sum_any (a : Option Addr) (cap : Nat) (xs : List UInt8) (w : World) (h : Bs w (.slice a xs.length cap) xs) (hm : xs.length ≤ maxLen) :
  Calls Try.prog 119 #[.slice a xs.length cap] w fun e w' => e = .returned (.int .i64 (sumL xs)) ∧ w = w':=by
 unfold maxLen at hm
 obtain ⟨a',cap',he,hlc,hno,hc⟩:=h
 injection he with h1 _ h2
 subst h1 h2
 by_cases hl : xs.length = 0
 ·obtain rfl : xs = []:=List.eq_nil_of_length_eq_zero hl
  clear hc hno hlc
  go_enter Try.func119,Try.ntmps119
  go_wp2
  refine wp_loop_rounds 1 ?_
  rw [rounds_succ]
  go_wp2
  go_ret
  exact ⟨rfl,rfl⟩
 ·obtain ⟨x,rfl,hc0⟩:=hc 0 (by omega)
  obtain ⟨b,off,spot⟩:=x
  have hspot : spot = none:=by simpa [Addr.add] using World.cell?_spot hc0
  subst hspot
  have hcx : ∀ k (_ : k < xs.length),w.cell? ⟨b,off + k,none⟩ = some (.int .u8 (xs[k].toNat : Int)):=by
   intro k hk
   obtain ⟨x',hx',hcc⟩:=hc k hk
   simp at hx'
   subst hx'
   rw [Addr.add_lit] at hcc
   simpa [List.getD,hk] using hcc
  clear hc hc0 hno
  go_enter Try.func119,Try.ntmps119
  go_wp2
  go_loop [3,7] (fun s i => ∃ k : Nat,k ≤ xs.length ∧ i = .int .i64 k ∧ s = .int .i64 (sumL (xs.take k))) (fun _ i => xs.length - (intOf i).toNat)
  case atStart => exact ⟨0,Nat.zero_le _,rfl,rfl⟩
  case round =>
   obtain ⟨k,hk,rfl,rfl⟩:=hrel
   have hd:=sumL_bd (xs.take k)
   by_cases hlt : k < xs.length
   ·have hcell:=hcx k hlt
    have HS : Hid (sumL (xs.take (k + 1)) = _):=take_snoc' xs k hlt
    have hb:=xs[k].toNat_lt
    clear hcx
    go_wp2
    go_round
    case rel => exact ⟨k + 1,by omega,by go_num,by rw [HS.out]⟩
    case measure => simp [intOf]; omega
   ·clear hcx
    go_wp2
    go_ret
    exact ⟨ret_int (by rw [List.take_of_length_le (by omega)]),rfl⟩
set_option maxRecDepth 10000
theorem info5 : (Try.prog.info? 5).map (fun i => (i.zero,i.size,i.bytes)) = some (some (.int .u8 0),1,1):=by kernel_rfl
theorem size5 : (Try.prog.info? 5).map (·.size) = some 1:=by kernel_rfl
theorem B_one (xs : List UInt8) : ∀ v ∈ xs.map B,v.oneCell' = true:=by
 intro u hu
 obtain ⟨_,_,rfl⟩:=List.mem_map.1 hu
 rfl
theorem Bs_cells {w : World} {a : Option Addr} {cap : Nat} {xs : List UInt8} (h : Bs w (.slice a xs.length cap) xs) (hp : 0 < xs.length) : ∃ ad,a = some ad ∧ ∀ j v,(xs.map B)[j]? = some v → w.cell? (ad.add j) = some v:=by
 obtain ⟨a',cap',he,hlc,hno,hc⟩:=h
 injection he with h1 _ h2
 subst h1 h2
 obtain ⟨x,rfl,_⟩:=hc 0 hp
 refine ⟨x,rfl,fun j v hv => ?_⟩
 have hj : j < xs.length:=by
  have:=(List.getElem?_eq_some_iff.1 hv).1
  simpa using this
 obtain ⟨x',hx',hcc⟩:=hc j hj
 simp at hx'
 subst hx'
 rw [hcc]
 simp [hj] at hv
 simp [List.getD,hj,← hv,B]
theorem Bs.later {w w' : World} {v : Value} {xs : List UInt8} (h : Bs w v xs) (hb : Below w.heap.size w w') : Bs w' v xs:=by
 obtain ⟨a,cap,rfl,hlc,hno,hc⟩:=h
 refine ⟨a,cap,rfl,hlc,hno,fun i hi => ?_⟩
 obtain ⟨x,rfl,hcc⟩:=hc i hi
 exact ⟨x,rfl,(hb.cell (World.block_lt_of_cell? w _ hcc)).trans hcc⟩
theorem owns_made {w : World} {B0 g n cap : Nat} {cur : List Value} {xs : List Value} (hg : w.heap[g]? = some (.cells cur.toArray 5 (0,0))) (hB : B0 ≤ g) (hn : n ≤ cap) (hm : cap ≤ maxLen) (hl : cur.length = cap) (hx : cur.take n = xs) :
  w.ownsRow B0 5 1 (.slice (some ⟨g,0,none⟩) n cap) n xs :=
 ⟨by rw [← hx]; simp; omega,.inr ⟨g,cap,cur.toArray,rfl,hB,hg,hn,hm,by simpa using hl,by simpa using hx⟩⟩
theorem two_new (w : World) (x y : Int) : ∀ (j : Nat) (u : Value),[Value.int .u8 x,Value.int .u8 y][j]? = some u → (w.alloc (.cells #[Value.int .u8 x,Value.int .u8 y] 5)).cell? ((⟨w.heap.size,0,none⟩ : Addr).add j) = some u:=by
 intro j u hj
 rw [Addr.add_lit,Nat.zero_add,World.cell?_alloc_mark]
 simpa using hj
theorem two_new' (w : World) (n : Nat) (x y : Int) (hn : n = w.heap.size) : ∀ (j : Nat) (u : Value),[Value.int .u8 x,Value.int .u8 y][j]? = some u → (w.alloc (.cells #[Value.int .u8 x,Value.int .u8 y] 5)).cell? ((⟨n,0,none⟩ : Addr).add j) = some u:=by
 subst hn; exact two_new w x y
theorem two_one (x y : Int) : ∀ u ∈ [Value.int .u8 x,Value.int .u8 y],u.oneCell' = true:=by
 intro u hu
 simp at hu
 rcases hu with rfl | rfl <;> rfl
theorem seal_cells (xs : List UInt8) : (sealL xs).map B = xs.map B ++ [Value.int .u8 (sumL xs / 256),Value.int .u8 (sumL xs % 256)]:=by
 simp [sealL,B,hiB_toNat (sumL_bd xs),loB_toNat (sumL_bd xs)]
theorem run_copy {w u : World} {a : Option Addr} {cap B0 g dcap : Nat} {xs : List UInt8} {cur : List Value} (h : Bs w (.slice a xs.length cap) xs) (hu : Below w.heap.size w u)
  (hg : u.heap[g]? = some (.cells cur.toArray 5 (0,0))) (hB : w.heap.size ≤ g) (hB0 : B0 ≤ g) (hl : xs.length ≤ cur.length) (hd : dcap ≤ maxLen) (hcd : cur.length = dcap) :
  ∃ u',(Builtin.copy_ #[30,30] 3 #[.slice (some ⟨g,0,none⟩) xs.length dcap,.slice a xs.length cap]).run Try.prog u = .ok (.int .i64 xs.length) u' ∧
   u'.ownsRow B0 5 1 (.slice (some ⟨g,0,none⟩) xs.length dcap) xs.length (xs.map B) ∧ Below w.heap.size w u':=by
 by_cases h0 : xs.length = 0
 ·have hrun:=run_copy_none (P:=Try.prog) u 30 30 3 5 (some ⟨g,0,none⟩) a xs.length dcap xs.length cap Try.underlying30 size5 (by simp [h0])
  refine ⟨u,?_,?_,hu⟩
  ·rw [hrun]; simp [goInt,h0]
  ·obtain rfl : xs = []:=List.eq_nil_of_length_eq_zero h0
   exact owns_made hg hB0 (Nat.zero_le _) hd hcd (by simp)
 ·obtain ⟨ad,rfl,hc⟩:=Bs_cells (h.later hu) (by omega)
  have hrun:=run_copy_row (P:=Try.prog) u 30 30 3 5 g 0 xs.length dcap ad xs.length cap cur.toArray 5 (xs.map B) Try.underlying30 size5 hg (by simp) hc (by simpa using hl) (B_one xs)
  have hs:=setRow_heap u g _ ((cur.toArray.toList.take 0 ++ xs.map B ++ cur.toArray.toList.drop (0 + (xs.map B).length)).toArray) 5 _ hg
  refine ⟨_,hrun.trans (by simp [goInt]),owns_made hs hB0 (by omega) hd ?_ ?_,below_setRow hu hB _⟩
  ·simp; omega
  ·simp
theorem seal_any (a : Option Addr) (cap : Nat) (xs : List UInt8) (w : World) (h : Bs w (.slice a xs.length cap) xs) (hr : xs.length + 2 ≤ 140737488355328) :
  Calls Try.prog 103 #[.slice a xs.length cap] w fun e w' => e = .returned (.slice (some ⟨w.heap.size,0,none⟩) (xs.length + 2) (xs.length + 2)) ∧ w'.ownsRow w.heap.size 5 1 (.slice (some ⟨w.heap.size,0,none⟩) (xs.length + 2) (xs.length + 2)) (xs.length + 2) ((sealL xs).map B) ∧ Below w.heap.size w w':=by
 obtain ⟨i0,hi,hz0,hz1,hz2⟩:=info_parts info5
 have hmk : ∀ u : World,(Instr.makeSlice 30 (.int .i64 (xs.length : Int)) (.int .i64 ((xs.length : Int) + 2))).run Try.prog u =
   .ok (.slice (some ⟨u.heap.size,0,none⟩) xs.length (xs.length + 2)) (u.alloc (.cells (madeCells #[.int .u8 0] (xs.length + 2)) 5)):=fun u => by
  have h:=run_make (P:=Try.prog) u 30 5 i0 (.int .u8 0) Try.underlying30 hi hz0 .i64 .i64 (xs.length : Int) ((xs.length : Int) + 2) (by omega) (by omega) (by rw [hz2]; omega) (by omega)
  have e : ((xs.length : Int) + 2).toNat = xs.length + 2:=by omega
  have e' : ((xs.length : Int)).toNat = xs.length:=by omega
  rw [e,e'] at h
  simpa [hz1,Value.cells] using h
 have hb:=sumL_bd xs
 have hrow : (w.alloc (.cells (madeCells #[.int .u8 0] (xs.length + 2)) 5)).heap[w.heap.size]? = some (.cells (List.replicate (xs.length + 2) (Value.int .u8 0)).toArray 5 (0,0)):=by
  rw [heap_alloc_new]
  rw [← toList_madeCells_one]
 obtain ⟨w1,hcp,hown,hb1⟩:=run_copy (B0:=w.heap.size) (dcap:=xs.length + 2) h ((Below.refl _ _).alloc (Nat.le_refl _) _) hrow (Nat.le_refl _) (Nat.le_refl _) (by simp) (by unfold maxLen; omega) (by simp)
 clear hrow
 go_enter Try.func103,Try.ntmps103
 go_wp2_with (first
  | (go_at_call 118; refine (of_any a cap xs _ h (by unfold maxLen; omega)).mono ?_; rintro e w' ⟨rfl,rfl⟩)
  | (at_builtin; go_must (refine wpList_append_fits _ rfl (.tmp 16) (.tmp 22) 30 rfl w.heap.size 5 i0 1 Try.underlying30 hi hz1 w.heap.size xs.length (xs.length + 2) (xs.map B) rfl (hown.alloc _) ⟨w1.heap.size,0,none⟩ 2 2 [.int .u8 (sumL xs / 256),.int .u8 (sumL xs % 256)] rfl rfl (two_new _ _ _) (two_one _ _) (by omega) ?_); intro w2 hown2 hgrow2))
 go_ret
 refine ⟨rfl,?_,?_⟩
 ·rw [seal_cells]; exact hown2
 ·exact (hb1.alloc hb1.size _).grown hgrow2 (by have:=hb1.size; simp; omega) (by intro k hk; simp at hk; omega)
theorem owns_empty (w : World) : (w.alloc (.cells #[] 5)).ownsRow w.heap.size 5 1 (.slice (some ⟨w.heap.size,0,none⟩) 0 0) 0 [] :=
 World.ownsRow_made w #[] 0 (Nat.le_refl _) (Nat.zero_le _) rfl
theorem refSeal_any (a : Option Addr) (cap : Nat) (xs : List UInt8) (w : World) (h : Bs w (.slice a xs.length cap) xs) (hr : xs.length + 2 ≤ 140737488355328) :
  Calls Try.prog 104 #[.slice a xs.length cap] w fun e w' => ∃ v',e = .returned v' ∧ w'.ownsRow w.heap.size 5 1 v' (xs.length + 2) ((sealL xs).map B) ∧ Below w.heap.size w w':=by
 obtain ⟨i0,hi,hz0,hz1,hz2⟩:=info_parts info5
 have hb:=sumL_bd xs
 have he:=owns_empty w
 have hb0 : Below w.heap.size w (w.alloc (.cells #[] 5)):=(Below.refl _ _).alloc (Nat.le_refl _) _
 cases a with
 | none =>
  obtain ⟨rfl,rfl⟩ : xs = [] ∧ cap = 0:=by
   obtain ⟨a',cap',hv,hlc,hno,hc⟩:=h
   injection hv with h1 _ h2
   subst h1 h2
   have:=hno rfl
   exact ⟨List.eq_nil_of_length_eq_zero (by omega),this⟩
  go_enter Try.func104,Try.ntmps104
  go_wp2_with (first
   | (go_at_call 119; refine (sum_any none 0 [] _ h (by unfold maxLen; simp)).mono ?_; rintro e w' ⟨rfl,rfl⟩)
   | (at_builtin; refine wpList_append_own_none rfl (.tmp 6) (.tmp 7) 30 rfl w.heap.size 5 i0 1 Try.underlying30 hi (.slice (some ⟨w.heap.size,0,none⟩) 0 0) 0 [] rfl he rfl ?_)
   | (at_builtin; refine wpList_append_own _ rfl (.tmp 8) (.tmp 15) 30 rfl w.heap.size 5 i0 (.int .u8 0) 1 1 Try.underlying30 hi hz0 hz1 hz2 rfl (by decide) (.slice (some ⟨w.heap.size,0,none⟩) 0 0) 0 [] rfl (he.alloc _) ⟨w.heap.size + 1,0,none⟩ 2 2 [.int .u8 (sumL [] / 256),.int .u8 (sumL [] % 256)] rfl rfl (two_new' _ _ _ _ (by simp)) (two_one _ _) (by unfold maxLen; omega) (by omega) (by simp; omega) ?_; intro v2 w2 hown2 hgrow2 hnil2))
  go_ret
  refine ⟨_,rfl,?_,?_⟩
  ·rw [seal_cells]; exact hown2
  ·exact (hb0.alloc hb0.size _).grown hgrow2 (by simp; omega) (by intro k hk; simp [Value.ownBlock] at hk; omega)
 | some ad =>
  have hsrc : ∀ j v,(xs.map B)[j]? = some v → (w.alloc (.cells #[] 5)).cell? (ad.add j) = some v:=by
   intro j v hj
   have hp : 0 < xs.length:=by
    have:=(List.getElem?_eq_some_iff.1 hj).1
    simp at this; omega
   obtain ⟨ad',h1,h2⟩:=Bs_cells (h.later hb0) hp
   cases h1
   exact h2 j v hj
  go_enter Try.func104,Try.ntmps104
  go_wp2_with (first
   | (go_at_call 119; refine (sum_any (some ad) cap xs _ h (by unfold maxLen; omega)).mono ?_; rintro e w' ⟨rfl,rfl⟩)
   | (at_builtin; refine wpList_append_own _ rfl (.tmp 6) (.tmp 7) 30 rfl w.heap.size 5 i0 (.int .u8 0) 1 1 Try.underlying30 hi hz0 hz1 hz2 rfl (by decide) (.slice (some ⟨w.heap.size,0,none⟩) 0 0) 0 [] rfl he ad xs.length cap (xs.map B) rfl (by simp) hsrc (B_one xs) (by unfold maxLen; omega) (by omega) (by simp) ?_; intro v1 w1 hown1 hgrow1 hnil1; clear he hsrc hnil1; simp only [Nat.zero_add,List.nil_append] at hown1)
   | (at_builtin; refine wpList_append_own _ rfl (.tmp 8) (.tmp 15) 30 rfl w.heap.size 5 i0 (.int .u8 0) 1 1 Try.underlying30 hi hz0 hz1 hz2 rfl (by decide) v1 xs.length (xs.map B) rfl (hown1.alloc _) ⟨w1.heap.size,0,none⟩ 2 2 [.int .u8 (sumL xs / 256),.int .u8 (sumL xs % 256)] rfl rfl (two_new _ _ _) (two_one _ _) (by unfold maxLen; omega) (by omega) (by have:=hgrow1.size; simp at this ⊢; omega) ?_; intro v2 w2 hown2 hgrow2 hnil2))
  go_ret
  refine ⟨_,rfl,?_,?_⟩
  ·rw [seal_cells]; exact hown2
  ·have hb1 : Below w.heap.size w w1:=hb0.grown hgrow1 (by simp) (by intro k hk; simp [Value.ownBlock] at hk; omega)
   exact (hb1.alloc hb1.size _).grown hgrow2 (by have:=hb1.size; simp; omega) (fun k hk => (hown1.lt k hk).1)
end Go.Proofs.Ytgfljlmonaifgab.leaf
