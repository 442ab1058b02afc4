import Derived.Test.YtgaofjiidedcbacGreatM20
import Derived.Test.YtgaofjiidedcbacGreatProg
import Derived.Test.YtgaofjiidedcbacGreatChecked
import Derived.WalkKit
import Derived.ProofKit
import Derived.WalkSpells
import Derived.Laws.CopyOwn
import Derived.Laws.IdiomStrings
import Derived.Laws.AppendOwnNone
import Derived.Outline
import Derived.Deep.DeepMust
set_option maxHeartbeats 400000
set_option linter.unusedVariables false
set_option linter.unusedSimpArgs false
namespace Go.Proofs.YtgaofjiidedcbacGreat.ab
set_option maxRecDepth 100000
open Go Go.RowKit
def Q57r0 : IC:=cReg Tryz.prog [⟨some 4,none,iMov 4 (.const (.bool false)) true⟩] [0,1] []
def Q57r1 : IC:=cReg Tryz.prog [xM 6 0,xN 7 6,xM 8 1,xN 9 8,xB 10 .neq 7 9] [0,1,10] []
def Q57r2 : IC:=cReg Tryz.prog [⟨some 4,none,iMov 4 (.const (.bool false)) true⟩] [4] []
def Q57c1a : IC:=(cSeq Q57r2 cRet)
def Q57c1 : IC:=cCond (.tmp 10) Q57c1a cSkip
def Q57r3 : IC:=cReg Tryz.prog [xM 11 0,xN 12 11,⟨some 13,none,iMov 13 (.const (.int .i64 0)) false⟩] [0,1,12,13] []
def Q57r4 : IC:=cReg Tryz.prog [xB 14 .lss 13 12] [0,1,12,13,14] []
def Q57c4 : IC:=cCond (.tmp 14) cSkip (cExit 0)
def Q57r5 : IC:=cReg Tryz.prog [xM 15 13,xT 5 15] [0,1,5,12,13] []
def Q57r6 : IC:=cRegD Tryz.prog [xM 16 0,xM 17 5,xI 18 1 16 17,xL 19 1 18,⟨some 20,none,iStr 20 (.tmp 19)⟩,xM 21 1,xM 22 5,xI 23 1 21 22,xL 24 1 23,⟨some 25,none,iStr 25 (.tmp 24)⟩,xB 26 .neq 20 25] [[],[],[0,1],[2,0,1],[3,2,0,1],[],[],[5,6],[7,5,6],[8,7,5,6],[4,9,3,2,0,1,8,7,5,6]] [0,1,12,13,26] []
def Q57r7 : IC:=cReg Tryz.prog [⟨some 4,none,iMov 4 (.const (.bool false)) true⟩] [4] []
def Q57c6a : IC:=(cSeq Q57r7 cRet)
def Q57c6 : IC:=cCond (.tmp 26) Q57c6a cSkip
def Q57b5 : IC:=cBlock 1 (cSeq Q57r5 (cSeq Q57r6 Q57c6))
def Q57r8 : IC:=cReg Tryz.prog [xC 27 .add 13 1,xM 13 27] [0,1,12,13] []
def Q57l3a : IC:=(cSeq Q57r4 (cSeq Q57c4 (cSeq Q57b5 Q57r8)))
def Q57l3 : IC:=cLoop Q57l3a
def Q57b2 : IC:=cBlock 0 Q57l3
def Q57r9 : IC:=cReg Tryz.prog [⟨some 4,none,iMov 4 (.const (.bool true)) true⟩] [4] []
def r6_SameBytes : IC:=(cSeq Q57r0 (cSeq (cSeq Q57r1 Q57c1) (cSeq (cSeq Q57r3 Q57b2) (cSeq Q57r9 cRet))))
theorem told_r6_SameBytes {args r : List D} (hl : args.length = 2) (h : r6_SameBytes (start args) (fin [(4,none)] r)) : Told Tryz.prog 29 args r :=
 told_of follows Tryz.func29 rfl (an:=[([],[0,1],[],[]),([],[0,1,10],[],[]),([],[4],[],[]),([],[0,1,12,13],[],[]),([],[0,1,12,13,14],[],[]),([],[0,1,5,12,13],[],[]),([],[0,1,12,13,26],[],[]),([],[4],[],[]),([],[0,1,12,13],[],[]),([],[4],[],[])]) (by kernel_rfl) (by kernel_rfl) (by rw [hl]; decide +kernel) h
def Q58r0 : IC:=cReg Tryz.prog [xX 2 0,xX 3 1,⟨some 4,none,iMov 4 (.const (.bool false)) true⟩] [2,3] [2,3]
def Q58r1_0 : IC:=cReg Tryz.prog [xF 5 0 2,xA 6 7 5,xF 7 0 3,xA 8 7 7,xV2 9 27 6 8,xM 10 9,xG 10 true (xF 11 7 2),xG 10 true (xA 12 8 11),xG 10 true (xF 13 7 3),xG 10 true (xA 14 8 13)] [2,3,10,12,14] [2,3]
def Q58r1_1 : IC:=cReg Tryz.prog [xG 10 true (xV2 15 28 12 14),xQ 16 10 15,xM 17 16,xG 17 true (xF 18 15 2),xG 17 true (xL 19 1 18),xG 17 true (xF 20 15 3),xG 17 true (xL 21 1 20),xG 17 true (xV2 22 29 19 21),xQ 23 17 22,xM 24 23] [2,3,24] [2,3]
def Q58r1_2 : IC:=cReg Tryz.prog [xG 24 true (xF 25 16 2),xG 24 true (xL 26 1 25),xG 24 true (xF 27 16 3),xG 24 true (xL 28 1 27),xG 24 true (xV2 29 29 26 28),xQ 30 24 29,xT 4 30] [4] []
def Q58r1 : IC:=(cSeq Q58r1_0 (cSeq Q58r1_1 Q58r1_2))
def r6_SameLane : IC:=(cSeq Q58r0 (cSeq Q58r1 cRet))
theorem told_r6_SameLane {args r : List D} (hl : args.length = 2) (h : r6_SameLane (start args) (fin [(4,none)] r)) : Told Tryz.prog 18 args r :=
 told_of follows Tryz.func18 rfl (an:=[([],[2,3],[2,3],[]),([(10,[2,3,10,12,14],[2,3]),(10,[2,3,24],[2,3])],[4],[],[])]) (by kernel_rfl) (by kernel_rfl) (by rw [hl]; decide +kernel) h
def Q62r0 : IC:=cReg Tryz.prog [⟨some 4,none,iMov 4 (.const (.slice none 0 0)) true⟩] [0,1] []
def Q62r1 : IC:=cReg Tryz.prog [xM 5 0,xN 6 5,xC 7 .gtr 6 5] [0,1,7] []
def Q62r2 : IC:=cReg Tryz.prog [xM 8 0,xT 4 8] [4] []
def Q62c1a : IC:=(cSeq Q62r2 cRet)
def Q62c1 : IC:=cCond (.tmp 7) Q62c1a cSkip
def Q62r3 : IC:=cReg Tryz.prog [⟨some 9,none,iRow 9 41 1 []⟩,xM 10 0,xW 11 41 1 24 9 10,xM 12 1,xR 13 41 1 12,xW 14 41 1 24 11 13,xT 4 14] [4] []
def r6_put : IC:=(cSeq Q62r0 (cSeq (cSeq Q62r1 Q62c1) (cSeq Q62r3 cRet)))
theorem told_r6_put {args r : List D} (hl : args.length = 2) (h : r6_put (start args) (fin [(4,none)] r)) : Told Tryz.prog 49 args r :=
 told_of follows Tryz.func49 rfl (an:=[([],[0,1],[],[]),([],[0,1,7],[],[]),([],[4],[],[]),([],[4],[],[])]) (by kernel_rfl) (by kernel_rfl) (by rw [hl]; decide +kernel) h
def Q63r0 : IC:=cReg Tryz.prog [xX 2 0,⟨some 4,none,iMov 4 (.const (.slice none 0 0)) true⟩] [1,2] [2]
def Q63r1 : IC:=cReg Tryz.prog [xM 5 1] [2,5] [2]
def Q63r2 : IC:=cReg Tryz.prog [xF 6 16 2,xL 7 1 6,xT 4 7] [4] []
def Q63c1a : IC:=(cSeq Q63r2 cRet)
def Q63c1 : IC:=cCond (.tmp 5) Q63c1a cSkip
def Q63r3 : IC:=cReg Tryz.prog [xF 8 15 2,xL 9 1 8,xT 4 9] [4] []
def r6_way : IC:=(cSeq Q63r0 (cSeq (cSeq Q63r1 Q63c1) (cSeq Q63r3 cRet)))
theorem told_r6_way {args r : List D} (hl : args.length = 2) (h : r6_way (start args) (fin [(4,none)] r)) : Told Tryz.prog 53 args r :=
 told_of follows Tryz.func53 rfl (an:=[([],[1,2],[2],[]),([],[2,5],[2],[]),([],[4],[],[]),([],[4],[],[])]) (by kernel_rfl) (by kernel_rfl) (by rw [hl]; decide +kernel) h
def Q64r0 : IC:=cReg Tryz.prog [xX 3 0,⟨some 6,none,iAlo 6 [zS,zI,zI,zI,zI,zS,zI,zI,zS,zI,zI,zI,zS,zS,zF,zS,zS]⟩] [1,2,3,6] [3,6]
def Q64r1 : IC:=cReg Tryz.prog [xM 7 1] [2,3,6,7] [3,6]
def Q64r2 : IC:=cReg Tryz.prog [xM 8 2,xF 9 16 3,xS 1 9 8] [3,6] [3,6]
def Q64r3 : IC:=cReg Tryz.prog [xM 10 2,xF 11 15 3,xS 1 11 10] [3,6] [3,6]
def Q64c1 : IC:=cCond (.tmp 7) Q64r2 Q64r3
def Q64r4 : IC:=cReg Tryz.prog [xA 12 17 3,xS 17 6 12] [6] [6]
def r6_with : IC:=(cSeq Q64r0 (cSeq (cSeq Q64r1 Q64c1) (cSeq Q64r4 cRet)))
theorem told_r6_with {args r : List D} (hl : args.length = 3) (h : r6_with (start args) (fin [(6,some (17,true))] r)) : Told Tryz.prog 54 args r :=
 told_of follows Tryz.func54 rfl (an:=[([],[1,2,3,6],[3,6],[]),([],[2,3,6,7],[3,6],[]),([],[3,6],[3,6],[]),([],[3,6],[3,6],[]),([],[6],[6],[])]) (by kernel_rfl) (by kernel_rfl) (by rw [hl]; decide +kernel) h
def Q65r0 : IC:=cReg Tryz.prog [⟨some 4,none,iMov 4 (.const (.slice none 0 0)) true⟩] [0,1] []
def Q65r1 : IC:=cRegD Tryz.prog [⟨some 5,none,iRow 5 41 1 []⟩,xM 6 0,xM 7 1,⟨some 8,none,iSlc 8 1 (.tmp 6) none (some (.tmp 7))⟩,xW 9 41 1 24 5 8,xM 10 0,xM 11 1,xC 12 .add 11 1,⟨some 13,none,iSlc 13 1 (.tmp 10) (some (.tmp 12)) none⟩,xW 14 41 1 24 9 13,xT 4 14] [[],[],[],[1,2],[0,3,1,2],[],[],[6],[5,7,6],[4,8,0,3,1,2,5,7,6],[9,0,1,2,3,4,5,6,7,8]] [4] []
def r6_without : IC:=(cSeq Q65r0 (cSeq Q65r1 cRet))
theorem told_r6_without {args r : List D} (hl : args.length = 2) (h : r6_without (start args) (fin [(4,none)] r)) : Told Tryz.prog 55 args r :=
 told_of follows Tryz.func55 rfl (an:=[([],[0,1],[],[]),([],[4],[],[])]) (by kernel_rfl) (by kernel_rfl) (by rw [hl]; decide +kernel) h
def Q60r0 : IC:=cReg Tryz.prog [xX 1 0,⟨some 2,none,iAlo 2 [zS,zI,zI,zI,zI,zS,zI,zI,zS,zI,zI,zI,zS,zS,zF,zS,zS]⟩] [1,2] [1,2]
def Q60r1 : IC:=cReg Tryz.prog [xF 8 0 1,xA 9 7 8,xV1 10 48 9,xM 7 10,xE 11 7 0,xE 12 7 1,xE 13 7 2,⟨some 3,none,iAlo 3 [zS,zI,zI,zI,zI,zS,zI]⟩,⟨some 4,none,iAlo 4 [zI,zI,zI,zI,zS,zS]⟩,xS 7 3 11,xS 6 4 12,xT 5 13] [1,2,3,4,5] [1,2,3,4]
def Q60r2 : IC:=cReg Tryz.prog [xA 14 7 3,xF 15 0 1,xS 7 15 14] [1,2,4,5] [1,2,4]
def Q60r3 : IC:=cReg Tryz.prog [xM 16 5] [1,2,4,16] [1,2,4]
def Q60r4 : IC:=cRegD Tryz.prog [xF 17 15 1,xL 18 1 17,xA 19 6 4,xV1 20 50 19,xV2 21 49 18 20,xF 22 15 1,xS 1 22 21] [[],[0],[],[2],[1,3,0,2],[0,1,2,3,4],[5,4,0,1,2,3]] [1,2,4] [1,2,4]
def Q60c1 : IC:=cCond (.tmp 16) Q60r4 cSkip
def Q60r5 : IC:=cReg Tryz.prog [xF 24 7 1,xA 25 8 24,xV1 26 51 25,xM 23 26,xE 27 23 0,xE 28 23 1,xE 29 23 2,⟨some 6,none,iAlo 6 [zI,zS,zI,zI,zI,zS,zS,zF]⟩,xS 8 6 27,xS 6 4 28,xT 5 29] [1,2,4,5,6] [1,2,4,6]
def Q60r6 : IC:=cReg Tryz.prog [xA 30 8 6,xF 31 7 1,xS 8 31 30] [1,2,4,5] [1,2,4]
def Q60r7 : IC:=cReg Tryz.prog [xM 32 5] [1,2,4,32] [1,2,4]
def Q60r8 : IC:=cRegD Tryz.prog [xF 33 16 1,xL 34 1 33,xA 35 6 4,xV1 36 50 35,xV2 37 49 34 36,xF 38 16 1,xS 1 38 37] [[],[0],[],[2],[1,3,0,2],[0,1,2,3,4],[5,4,0,1,2,3]] [1,2] [1,2]
def Q60c2 : IC:=cCond (.tmp 32) Q60r8 cSkip
def Q60r9 : IC:=cReg Tryz.prog [xA 39 17 1,xS 17 2 39] [2] [2]
def r6_Speak : IC:=(cSeq Q60r0 (cSeq Q60r1 (cSeq Q60r2 (cSeq (cSeq Q60r3 Q60c1) (cSeq Q60r5 (cSeq Q60r6 (cSeq (cSeq Q60r7 Q60c2) (cSeq Q60r9 cRet))))))))
theorem told_r6_Speak {args r : List D} (hl : args.length = 1) (h : r6_Speak (start args) (fin [(2,some (17,true))] r)) : Told Tryz.prog 32 args r :=
 told_of follows Tryz.func32 rfl (an:=[([],[1,2],[1,2],[]),([],[1,2,3,4,5],[1,2,3,4],[]),([],[1,2,4,5],[1,2,4],[]),([],[1,2,4,16],[1,2,4],[]),([],[1,2,4],[1,2,4],[]),([],[1,2,4,5,6],[1,2,4,6],[]),([],[1,2,4,5],[1,2,4],[]),([],[1,2,4,32],[1,2,4],[]),([],[1,2],[1,2],[]),([],[2],[2],[])]) (by kernel_rfl) (by kernel_rfl) (by rw [hl]; decide +kernel) h
end Go.Proofs.YtgaofjiidedcbacGreat.ab
namespace Go.Proofs.YtgaofjiidedcbacGreat.leaf
open Go.RowKit
open mth
def B (x : UInt8) : Value:=.int .u8 (x.toNat : Int)
def Bs (w : World) (v : Value) (xs : List UInt8) : Prop :=
 ∃ (a : Option Addr) (cap : Nat),v = .slice a xs.length cap ∧ xs.length ≤ cap ∧ (a = none → cap = 0) ∧ ∀ i,i < xs.length → ∃ x,a = some x ∧ w.cell? (x.add i) = some (.int .u8 ((xs.getD i 0).toNat : Int))
theorem ret_int {k : IntKind} {a b : Int} (h : a = b) : Ending.returned (.int k a) = .returned (.int k b):=by rw [h]
theorem take_snoc (xs : List UInt8) (k : Nat) (h : k < xs.length) : sumL (xs.take (k + 1)) = (sumL (xs.take k) * 139 + ((xs[k].toNat : Nat) : Int) + 1) % 65521:=by
 rw [List.take_succ_eq_append_getElem h,sumL_snoc]; rfl
theorem of_any (a : Option Addr) (cap : Nat) (xs : List UInt8) (w : World) (h : Bs w (.slice a xs.length cap) xs) (hm : xs.length ≤ maxLen) :
  Calls Tryz.prog 98 #[.slice a xs.length cap] w fun e w' => e = .returned (.int .i64 (sumL xs)) ∧ w = w':=by
 unfold maxLen at hm
 obtain ⟨a',cap',he,hlc,hno,hc⟩:=h
 injection he with h1 _ h2
 subst h1 h2
 by_cases hl : xs.length = 0
 ·obtain rfl : xs = []:=List.eq_nil_of_length_eq_zero hl
  clear hc hno hlc
  go_enter Tryz.func98,Tryz.ntmps98
  go_wp2
  refine wp_loop_rounds 1 ?_
  rw [rounds_succ]
  go_wp2
  go_ret
  exact ⟨rfl,rfl⟩
 ·obtain ⟨x,rfl,hc0⟩:=hc 0 (by omega)
  obtain ⟨b,off,spot⟩:=x
  have hspot : spot = none:=by simpa [Addr.add] using World.cell?_spot hc0
  subst hspot
  have hcx : ∀ k (_ : k < xs.length),w.cell? ⟨b,off + k,none⟩ = some (.int .u8 (xs[k].toNat : Int)):=by
   intro k hk
   obtain ⟨x',hx',hcc⟩:=hc k hk
   simp at hx'
   subst hx'
   rw [Addr.add_lit] at hcc
   simpa [List.getD,hk] using hcc
  clear hc hc0 hno
  go_enter Tryz.func98,Tryz.ntmps98
  go_wp2
  go_loop [3,8] (fun s i => ∃ k : Nat,k ≤ xs.length ∧ i = .int .i64 k ∧ s = .int .i64 (sumL (xs.take k))) (fun _ i => xs.length - (intOf i).toNat)
  case atStart => exact ⟨0,Nat.zero_le _,rfl,rfl⟩
  case round =>
   obtain ⟨k,hk,rfl,rfl⟩:=hrel
   have hd:=sumL_bd (xs.take k)
   by_cases hlt : k < xs.length
   ·have hcell:=hcx k hlt
    have HS : Hid (sumL (xs.take (k + 1)) = _):=take_snoc xs k hlt
    have hb:=xs[k].toNat_lt
    clear hcx
    go_wp2
    go_round
    case rel => exact ⟨k + 1,by omega,by go_num,by rw [HS.out]⟩
    case measure => simp [intOf]; omega
   ·clear hcx
    go_wp2
    go_ret
    exact ⟨ret_int (by rw [List.take_of_length_le (by omega)]),rfl⟩
set_option maxRecDepth 10000
theorem info5 : (Tryz.prog.info? 5).map (fun i => (i.zero,i.size,i.bytes)) = some (some (.int .u8 0),1,1):=by kernel_rfl
theorem size5 : (Tryz.prog.info? 5).map (·.size) = some 1:=by kernel_rfl
theorem B_one (xs : List UInt8) : ∀ v ∈ xs.map B,v.oneCell' = true:=by
 intro u hu
 obtain ⟨_,_,rfl⟩:=List.mem_map.1 hu
 rfl
theorem Bs_cells {w : World} {a : Option Addr} {cap : Nat} {xs : List UInt8} (h : Bs w (.slice a xs.length cap) xs) (hp : 0 < xs.length) : ∃ ad,a = some ad ∧ ∀ j v,(xs.map B)[j]? = some v → w.cell? (ad.add j) = some v:=by
 obtain ⟨a',cap',he,hlc,hno,hc⟩:=h
 injection he with h1 _ h2
 subst h1 h2
 obtain ⟨x,rfl,_⟩:=hc 0 hp
 refine ⟨x,rfl,fun j v hv => ?_⟩
 have hj : j < xs.length:=by
  have:=(List.getElem?_eq_some_iff.1 hv).1
  simpa using this
 obtain ⟨x',hx',hcc⟩:=hc j hj
 simp at hx'
 subst hx'
 rw [hcc]
 simp [hj] at hv
 simp [List.getD,hj,← hv,B]
theorem Bs.later {w w' : World} {v : Value} {xs : List UInt8} (h : Bs w v xs) (hb : Below w.heap.size w w') : Bs w' v xs:=by
 obtain ⟨a,cap,rfl,hlc,hno,hc⟩:=h
 refine ⟨a,cap,rfl,hlc,hno,fun i hi => ?_⟩
 obtain ⟨x,rfl,hcc⟩:=hc i hi
 exact ⟨x,rfl,(hb.cell (World.block_lt_of_cell? w _ hcc)).trans hcc⟩
theorem owns_made {w : World} {B0 g n cap : Nat} {cur : List Value} {xs : List Value} (hg : w.heap[g]? = some (.cells cur.toArray 5 (0,0))) (hB : B0 ≤ g) (hn : n ≤ cap) (hm : cap ≤ maxLen) (hl : cur.length = cap) (hx : cur.take n = xs) :
  w.ownsRow B0 5 1 (.slice (some ⟨g,0,none⟩) n cap) n xs :=
 ⟨by rw [← hx]; simp; omega,.inr ⟨g,cap,cur.toArray,rfl,hB,hg,hn,hm,by simpa using hl,by simpa using hx⟩⟩
theorem two_new (w : World) (x y : Int) : ∀ (j : Nat) (u : Value),[Value.int .u8 x,Value.int .u8 y][j]? = some u → (w.alloc (.cells #[Value.int .u8 x,Value.int .u8 y] 5)).cell? ((⟨w.heap.size,0,none⟩ : Addr).add j) = some u:=by
 intro j u hj
 rw [Addr.add_lit,Nat.zero_add,World.cell?_alloc_mark]
 simpa using hj
theorem two_one (x y : Int) : ∀ u ∈ [Value.int .u8 x,Value.int .u8 y],u.oneCell' = true:=by
 intro u hu
 simp at hu
 rcases hu with rfl | rfl <;> rfl
theorem seal_cells (xs : List UInt8) : (sealL xs).map B = xs.map B ++ [Value.int .u8 (sumL xs / 256),Value.int .u8 (sumL xs % 256)]:=by
 simp [sealL,B,hiB_toNat (sumL_bd xs),loB_toNat (sumL_bd xs)]
theorem run_copy {w u : World} {a : Option Addr} {cap B0 g dcap : Nat} {xs : List UInt8} {cur : List Value} (h : Bs w (.slice a xs.length cap) xs) (hu : Below w.heap.size w u)
  (hg : u.heap[g]? = some (.cells cur.toArray 5 (0,0))) (hB : w.heap.size ≤ g) (hB0 : B0 ≤ g) (hl : xs.length ≤ cur.length) (hd : dcap ≤ maxLen) (hcd : cur.length = dcap) :
  ∃ u',(Builtin.copy_ #[41,41] 3 #[.slice (some ⟨g,0,none⟩) xs.length dcap,.slice a xs.length cap]).run Tryz.prog u = .ok (.int .i64 xs.length) u' ∧
   u'.ownsRow B0 5 1 (.slice (some ⟨g,0,none⟩) xs.length dcap) xs.length (xs.map B) ∧ Below w.heap.size w u':=by
 by_cases h0 : xs.length = 0
 ·have hrun:=run_copy_none (P:=Tryz.prog) u 41 41 3 5 (some ⟨g,0,none⟩) a xs.length dcap xs.length cap Tryz.underlying41 size5 (by simp [h0])
  refine ⟨u,?_,?_,hu⟩
  ·rw [hrun]; simp [goInt,h0]
  ·obtain rfl : xs = []:=List.eq_nil_of_length_eq_zero h0
   exact owns_made hg hB0 (Nat.zero_le _) hd hcd (by simp)
 ·obtain ⟨ad,rfl,hc⟩:=Bs_cells (h.later hu) (by omega)
  have hrun:=run_copy_row (P:=Tryz.prog) u 41 41 3 5 g 0 xs.length dcap ad xs.length cap cur.toArray 5 (xs.map B) Tryz.underlying41 size5 hg (by simp) hc (by simpa using hl) (B_one xs)
  have hs:=setRow_heap u g _ ((cur.toArray.toList.take 0 ++ xs.map B ++ cur.toArray.toList.drop (0 + (xs.map B).length)).toArray) 5 _ hg
  refine ⟨_,hrun.trans (by simp [goInt]),owns_made hs hB0 (by omega) hd ?_ ?_,below_setRow hu hB _⟩
  ·simp; omega
  ·simp
theorem seal_any (a : Option Addr) (cap : Nat) (xs : List UInt8) (w : World) (h : Bs w (.slice a xs.length cap) xs) (hr : xs.length + 2 ≤ 140737488355328) :
  Calls Tryz.prog 95 #[.slice a xs.length cap] w fun e w' => e = .returned (.slice (some ⟨w.heap.size,0,none⟩) (xs.length + 2) (xs.length + 2)) ∧ w'.ownsRow w.heap.size 5 1 (.slice (some ⟨w.heap.size,0,none⟩) (xs.length + 2) (xs.length + 2)) (xs.length + 2) ((sealL xs).map B) ∧ Below w.heap.size w w':=by
 obtain ⟨i0,hi,hz0,hz1,hz2⟩:=info_parts info5
 have hmk : ∀ u : World,(Instr.makeSlice 41 (.int .i64 (xs.length : Int)) (.int .i64 ((xs.length : Int) + 2))).run Tryz.prog u =
   .ok (.slice (some ⟨u.heap.size,0,none⟩) xs.length (xs.length + 2)) (u.alloc (.cells (madeCells #[.int .u8 0] (xs.length + 2)) 5)):=fun u => by
  have h:=run_make (P:=Tryz.prog) u 41 5 i0 (.int .u8 0) Tryz.underlying41 hi hz0 .i64 .i64 (xs.length : Int) ((xs.length : Int) + 2) (by omega) (by omega) (by rw [hz2]; omega) (by omega)
  have e : ((xs.length : Int) + 2).toNat = xs.length + 2:=by omega
  have e' : ((xs.length : Int)).toNat = xs.length:=by omega
  rw [e,e'] at h
  simpa [hz1,Value.cells] using h
 have hb:=sumL_bd xs
 have hrow : (w.alloc (.cells (madeCells #[.int .u8 0] (xs.length + 2)) 5)).heap[w.heap.size]? = some (.cells (List.replicate (xs.length + 2) (Value.int .u8 0)).toArray 5 (0,0)):=by
  rw [heap_alloc_new]
  rw [← toList_madeCells_one]
 obtain ⟨w1,hcp,hown,hb1⟩:=run_copy (B0:=w.heap.size) (dcap:=xs.length + 2) h ((Below.refl _ _).alloc (Nat.le_refl _) _) hrow (Nat.le_refl _) (Nat.le_refl _) (by simp) (by unfold maxLen; omega) (by simp)
 clear hrow
 go_enter Tryz.func95,Tryz.ntmps95
 go_wp2_with (first
  | (go_at_call 98; refine (of_any a cap xs _ h (by unfold maxLen; omega)).mono ?_; rintro e w' ⟨rfl,rfl⟩)
  | (at_builtin; go_must (refine wpList_append_fits _ rfl (.tmp 16) (.tmp 22) 41 rfl w.heap.size 5 i0 1 Tryz.underlying41 hi hz1 w.heap.size xs.length (xs.length + 2) (xs.map B) rfl (hown.alloc _) ⟨w1.heap.size,0,none⟩ 2 2 [.int .u8 (sumL xs / 256),.int .u8 (sumL xs % 256)] rfl rfl (two_new _ _ _) (two_one _ _) (by omega) ?_); intro w2 hown2 hgrow2))
 go_ret
 refine ⟨rfl,?_,?_⟩
 ·rw [seal_cells]; exact hown2
 ·exact (hb1.alloc hb1.size _).grown hgrow2 (by have:=hb1.size; simp; omega) (by intro k hk; simp at hk; omega)
end Go.Proofs.YtgaofjiidedcbacGreat.leaf
