import Derived.Test.YtgaofjiidedcbacGreatM20
import Derived.Test.YtgaofjiidedcbacGreatProg
import Derived.Test.YtgaofjiidedcbacGreatM25
import Derived.Test.YtgaofjiidedcbacGreatM27
set_option maxHeartbeats 4000000
set_option linter.unusedVariables false
set_option linter.unusedSimpArgs false
namespace Go.Proofs.YtgaofjiidedcbacGreat.ab
set_option maxRecDepth 100000
open Go Go.RowKit
def Q39r0 : IC:=cReg Tryz.prog [xX 2 0,xX 3 1,⟨some 4,none,iAlo 4 [zI,zS,zI,zI,zI,zS,zS,zF]⟩] [2,3,4] [2,3,4]
def Q39r1 : IC:=cReg Tryz.prog [xF 13 0 3,xL 14 1 13,xC 15 .neq 14 1] [2,3,4,15] [2,3,4]
def Q39r2 : IC:=cReg Tryz.prog [xA 16 8 2,xS 8 4 16] [4] [4]
def Q39c1a : IC:=(cSeq Q39r2 cRet)
def Q39c1 : IC:=cCond (.tmp 15) Q39c1a cSkip
def Q39r3 : IC:=cReg Tryz.prog [xF 17 7 2,⟨none,none,iStor 1 (.tmp 17) (.const (.bool true))⟩] [2,3,4] [2,3,4]
def Q39r4 : IC:=cReg Tryz.prog [⟨some 18,none,iMkM 18⟩,xF 19 1 3,xL 20 1 19,⟨none,none,iUpd (.tmp 18) (.tmp 20) (.const (.bool true))⟩,xM 21 18,xT 5 21] [2,3,4,5] [2,3,4,200018]
def Q39r5 : IC:=cReg Tryz.prog [xF 22 1 2,xL 23 1 22,xN 24 23,⟨some 25,none,iMov 25 (.const (.int .i64 0)) false⟩] [2,3,4,5,23,24,25] [2,3,4,200018]
def Q39r6 : IC:=cReg Tryz.prog [xB 26 .lss 25 24] [2,3,4,5,23,24,25,26] [2,3,4,200018]
def Q39c4 : IC:=cCond (.tmp 26) cSkip (cExit 0)
def Q39r7 : IC:=cReg Tryz.prog [xI 27 1 23 25,xL 28 1 27,xT 7 28] [2,3,4,5,7,23,24,25] [2,3,4,200018]
def Q39r8 : IC:=cReg Tryz.prog [xM 29 7,xF 30 1 3,xL 31 1 30,xB 32 .eql 29 31] [2,3,4,5,7,23,24,25,32] [2,3,4,200018]
def Q39r9 : IC:=cReg Tryz.prog [xA 33 8 2,xS 8 4 33] [4] [4]
def Q39c6a : IC:=(cSeq Q39r9 cRet)
def Q39c6 : IC:=cCond (.tmp 32) Q39c6a cSkip
def Q39r10 : IC:=cReg Tryz.prog [xM 34 5,xM 35 7,⟨none,none,iUpd (.tmp 34) (.tmp 35) (.const (.bool true))⟩] [2,3,4,5,23,24,25] [2,3,4,200018]
def Q39b5 : IC:=cBlock 1 (cSeq Q39r7 (cSeq (cSeq Q39r8 Q39c6) Q39r10))
def Q39r11 : IC:=cReg Tryz.prog [xC 36 .add 25 1,xM 25 36] [2,3,4,5,23,24,25] [2,3,4,200018]
def Q39l3a : IC:=(cSeq Q39r6 (cSeq Q39c4 (cSeq Q39b5 Q39r11)))
def Q39l3 : IC:=cLoop Q39l3a
def Q39b2 : IC:=cBlock 0 Q39l3
def Q39r12_0 : IC:=cReg Tryz.prog [xF 37 1 3,xL 38 1 37,xF 39 0 2,xL 40 1 39,xB 41 .lss 38 40,xM 42 41,xG 42 false (xF 43 1 3),xG 42 false (xL 44 1 43),xG 42 false (xF 45 0 2),xG 42 false (xL 46 1 45)] [2,3,4,5,42,44,46] [2,3,4,200018]
def Q39r12_1 : IC:=cReg Tryz.prog [xG 42 false (xB 47 .gtr 44 46),xG 42 false (xM 48 47),xG 48 true (xF 49 1 2),xG 48 true (xL 50 1 49),xG 48 true (xN 51 50),xG 48 true (xC 52 .gtr 51 2),xG 42 false (xQ 53 48 52),xP 54 42 53] [2,3,4,5,54] [2,3,4,200018]
def Q39r12 : IC:=(cSeq Q39r12_0 Q39r12_1)
def Q39r13 : IC:=cReg Tryz.prog [xA 55 8 2,xS 8 4 55] [4] [4]
def Q39c7a : IC:=(cSeq Q39r13 cRet)
def Q39c7 : IC:=cCond (.tmp 54) Q39c7a cSkip
def Q39r14 : IC:=cReg Tryz.prog [xM 56 5,xF 57 0 2,xL 58 1 57,⟨some 59,none,iLku 59 (.bool false) (.tmp 56) (.tmp 58)⟩] [2,3,4,5,59] [2,3,4,200018]
def Q39c10 : IC:=cCond (.tmp 59) cSkip (cExit 2)
def Q39r15 : IC:=cReg Tryz.prog [xF 60 0 2,xL 61 1 60,xC 62 .add 61 1,xF 63 0 2,xS 1 63 62] [2,3,4,5] [2,3,4,200018]
def Q39b11 : IC:=cBlock 3 Q39r15
def Q39l9a : IC:=(cSeq (cSeq Q39r14 Q39c10) Q39b11)
def Q39l9 : IC:=cLoop Q39l9a
def Q39b8 : IC:=cBlock 2 Q39l9
def Q39r16 : IC:=cReg Tryz.prog [xF 64 1 2,⟨none,none,iStor 1 (.tmp 64) (.const (.slice none 0 0))⟩] [2,3,4,5] [2,3,4,200018]
def Q39r17 : IC:=cReg Tryz.prog [xF 65 0 2,xL 66 1 65,xT 8 66] [2,3,4,5,8] [2,3,4,200018]
def Q39r18 : IC:=cReg Tryz.prog [xM 67 8,xC 68 .lss 67 40] [2,3,4,5,8,68] [2,3,4,200018]
def Q39c14 : IC:=cCond (.tmp 68) cSkip (cExit 4)
def Q39r20 : IC:=cReg Tryz.prog [xM 71 5,xM 72 8,⟨some 73,none,iLku 73 (.bool false) (.tmp 71) (.tmp 72)⟩] [2,3,4,5,8,73] [2,3,4,200018]
def Q39r21 : IC:=cReg Tryz.prog [xF 74 1 2,xU 75 1 74,xM 76 8,xR 77 3 1 76,xW 78 3 1 8 75 77,xF 79 1 2,xS 1 79 78] [2,3,4,5,8] [2,3,4,200018]
def Q39c16 : IC:=cCond (.tmp 73) Q39r21 cSkip
def Q39b15 : IC:=cBlock 5 (cSeq Q39r20 Q39c16)
def Q39r19 : IC:=cReg Tryz.prog [xM 69 8,xC 70 .add 69 1,xT 8 70] [2,3,4,5,8] [2,3,4,200018]
def Q39l13a : IC:=(cSeq (cSeq Q39r18 Q39c14) (cSeq Q39b15 Q39r19))
def Q39l13 : IC:=cLoop Q39l13a
def Q39b12 : IC:=cBlock 4 Q39l13
def Q39r22 : IC:=cRegD Tryz.prog [⟨some 80,none,iRow 80 85 6 []⟩,xF 81 5 2,xL 82 1 81,xW 83 85 6 80 80 82,xA 84 6 3,xR 85 85 6 84,xW 86 85 6 80 83 85,xT 9 86] [[],[],[1],[0,2,1],[],[4],[3,5,0,2,1,4],[6,0,1,2,3,4,5]] [2,4,9] [2,4]
def Q39r23 : IC:=cReg Tryz.prog [⟨some 10,none,iMov 10 (.const (.bool true)) true⟩] [2,4,9,10] [2,4]
def Q39r24 : IC:=cReg Tryz.prog [xM 87 10] [2,4,9,87] [2,4]
def Q39c19 : IC:=cCond (.tmp 87) cSkip (cExit 6)
def Q39r25 : IC:=cReg Tryz.prog [⟨some 10,none,iMov 10 (.const (.bool false)) true⟩] [2,4,9,10] [2,4]
def Q39r26 : IC:=cReg Tryz.prog [xM 88 9,xN 89 88,⟨some 90,none,iMov 90 (.const (.int .i64 0)) false⟩] [2,4,9,10,88,89,90] [2,4]
def Q39r27 : IC:=cReg Tryz.prog [xB 91 .lss 90 89] [2,4,9,10,88,89,90,91] [2,4]
def Q39c23 : IC:=cCond (.tmp 91) cSkip (cExit 8)
def Q39r28 : IC:=cReg Tryz.prog [xM 92 90,xI 93 6 88 90,xA 94 6 93,⟨some 12,none,iAlo 12 [zI,zI,zI,zI,zS,zS]⟩,xT 11 92,xS 6 12 94] [2,4,9,10,11,12,88,89,90] [2,4,12]
def Q39r29 : IC:=cRegD Tryz.prog [xF 95 3 12,xL 96 1 95,xF 97 2 12,xL 98 1 97,xF 99 2 2,⟨some 100,none,iIaA 100 3 1 (.tmp 99) (.tmp 98)⟩,xL 101 1 100,xB 102 .eql 96 101] [[],[0],[],[2],[],[4,3,2],[5,4,3,2],[1,6,0,5,4,3,2]] [2,4,9,10,11,12,88,89,90,102] [2,4,12]
def Q39r30 : IC:=cRegD Tryz.prog [⟨some 103,none,iRow 103 43 2 []⟩,xF 104 6 2,xL 105 1 104,xW 106 43 2 32 103 105,xF 107 2 12,xL 108 1 107,xF 109 4 12,xL 110 1 109,⟨some 111,none,iBld 111 [zI,zS] [(0,1),(1,1)] [(.tmp 108),(.tmp 110)]⟩,xR 112 43 2 111,xW 113 43 2 32 106 112,xF 114 6 2,xS 1 114 113] [[],[],[1],[0,2,1],[],[4],[],[6],[5,7,4,6],[8,5,7,4,6],[3,9,0,2,1,8,5,7,4,6],[0,1,2,3,4,5,6,7,8,9,10],[11,10,0,1,2,3,4,5,6,7,8,9]] [2,4,9,11,12] [2,4,12]
def Q39r31 : IC:=cRegD Tryz.prog [xF 115 2 12,xL 116 1 115,xF 117 2 12,xL 118 1 117,xF 119 2 2,⟨some 120,none,iIaA 120 3 1 (.tmp 119) (.tmp 118)⟩,xL 121 1 120,xC 122 .add 121 1,xF 123 2 2,⟨some 124,none,iIaA 124 3 1 (.tmp 123) (.tmp 116)⟩,xS 1 124 122] [[],[0],[],[2],[],[4,3,2],[5,4,3,2],[6,5,4,3,2],[],[8,1,0,2,3,4,5,6,7],[9,7,0,1,2,3,4,5,6,8]] [2,4,9,11] [2,4]
def Q39r32 : IC:=cRegD Tryz.prog [⟨some 125,none,iRow 125 85 6 []⟩,xM 126 9,xM 127 11,⟨some 128,none,iSlc 128 6 (.tmp 126) none (some (.tmp 127))⟩,xW 129 85 6 80 125 128,xM 130 9,xM 131 11,xC 132 .add 131 1,⟨some 133,none,iSlc 133 6 (.tmp 130) (some (.tmp 132)) none⟩,xW 134 85 6 80 129 133,xT 9 134] [[],[],[],[1,2],[0,3,1,2],[],[],[6],[5,7,6],[4,8,0,3,1,2,5,7,6],[9,0,1,2,3,4,5,6,7,8]] [2,4,9] [2,4]
def Q39r33 : IC:=cReg Tryz.prog [⟨some 10,none,iMov 10 (.const (.bool true)) true⟩] [2,4,9,10] [2,4]
def Q39c25a : IC:=(cSeq Q39r30 (cSeq Q39r31 (cSeq Q39r32 (cSeq Q39r33 (cExit 8)))))
def Q39c25 : IC:=cCond (.tmp 102) Q39c25a cSkip
def Q39b24 : IC:=cBlock 9 (cSeq Q39r28 (cSeq Q39r29 Q39c25))
def Q39r34 : IC:=cReg Tryz.prog [xC 135 .add 90 1,xM 90 135] [2,4,9,10,88,89,90] [2,4]
def Q39l22a : IC:=(cSeq Q39r27 (cSeq Q39c23 (cSeq Q39b24 Q39r34)))
def Q39l22 : IC:=cLoop Q39l22a
def Q39b21 : IC:=cBlock 8 Q39l22
def Q39b20 : IC:=cBlock 7 (cSeq Q39r25 (cSeq Q39r26 Q39b21))
def Q39l18a : IC:=(cSeq (cSeq Q39r24 Q39c19) Q39b20)
def Q39l18 : IC:=cLoop Q39l18a
def Q39b17 : IC:=cBlock 6 Q39l18
def Q39r35 : IC:=cReg Tryz.prog [xM 136 9,xF 137 5 2,xS 1 137 136] [2,4] [2,4]
def Q39r36 : IC:=cReg Tryz.prog [xA 138 8 2,xS 8 4 138] [4] [4]
def r1_RecvHear : IC:=(cSeq Q39r0 (cSeq (cSeq Q39r1 Q39c1) (cSeq Q39r3 (cSeq Q39r4 (cSeq (cSeq Q39r5 Q39b2) (cSeq (cSeq Q39r12 Q39c7) (cSeq Q39b8 (cSeq Q39r16 (cSeq (cSeq Q39r17 Q39b12) (cSeq Q39r22 (cSeq (cSeq Q39r23 Q39b17) (cSeq Q39r35 (cSeq Q39r36 cRet)))))))))))))
theorem told_r1_RecvHear {args r : List D} (hl : args.length = 2) (h : r1_RecvHear (start args) (fin [(4,some (8,true))] r)) : Told Tryz.prog 58 args r :=
 told_of follows Tryz.func58 rfl (an:=[([],[2,3,4],[2,3,4],[]),([],[2,3,4,15],[2,3,4],[]),([],[4],[4],[]),([],[2,3,4],[2,3,4],[]),([],[2,3,4,5],[2,3,4,200018],[]),([],[2,3,4,5,23,24,25],[2,3,4,200018],[]),([],[2,3,4,5,23,24,25,26],[2,3,4,200018],[]),([],[2,3,4,5,7,23,24,25],[2,3,4,200018],[]),([],[2,3,4,5,7,23,24,25,32],[2,3,4,200018],[]),([],[4],[4],[]),([],[2,3,4,5,23,24,25],[2,3,4,200018],[]),([],[2,3,4,5,23,24,25],[2,3,4,200018],[]),([(10,[2,3,4,5,42,44,46],[2,3,4,200018])],[2,3,4,5,54],[2,3,4,200018],[]),([],[4],[4],[]),([],[2,3,4,5,59],[2,3,4,200018],[]),([],[2,3,4,5],[2,3,4,200018],[]),([],[2,3,4,5],[2,3,4,200018],[]),([],[2,3,4,5,8],[2,3,4,200018],[]),([],[2,3,4,5,8,68],[2,3,4,200018],[]),([],[2,3,4,5,8,73],[2,3,4,200018],[]),([],[2,3,4,5,8],[2,3,4,200018],[]),([],[2,3,4,5,8],[2,3,4,200018],[]),([],[2,4,9],[2,4],[]),([],[2,4,9,10],[2,4],[]),([],[2,4,9,87],[2,4],[]),([],[2,4,9,10],[2,4],[]),([],[2,4,9,10,88,89,90],[2,4],[]),([],[2,4,9,10,88,89,90,91],[2,4],[]),([],[2,4,9,10,11,12,88,89,90],[2,4,12],[]),([],[2,4,9,10,11,12,88,89,90,102],[2,4,12],[]),([],[2,4,9,11,12],[2,4,12],[]),([],[2,4,9,11],[2,4],[]),([],[2,4,9],[2,4],[]),([],[2,4,9,10],[2,4],[]),([],[2,4,9,10,88,89,90],[2,4],[]),([],[2,4],[2,4],[]),([],[4],[4],[])]) (by kernel_rfl) (by kernel_rfl) (by rw [hl]; decide +kernel) h
def Q40r0 : IC:=cReg Tryz.prog [xX 1 0,⟨some 2,none,iAlo 2 [zI,zS,zI,zI,zI,zS,zS,zF]⟩,⟨some 3,none,iAlo 3 [zI,zI,zI,zI,zS,zS]⟩,⟨some 4,none,iMov 4 (.const (.bool false)) true⟩] [1,2,3] [1,2,3]
def Q40r1 : IC:=cReg Tryz.prog [xF 5 7 1,xL 6 1 5,xO 7 6] [1,2,3,7] [1,2,3]
def Q40r2 : IC:=cReg Tryz.prog [xA 8 8 1,⟨some 9,none,iBld 9 [zI,zI,zI,zI,zS,zS] [] []⟩,xS 8 2 8,xS 6 3 9,⟨some 4,none,iMov 4 (.const (.bool false)) true⟩] [2,3,4] [2,3]
def Q40c1a : IC:=(cSeq Q40r2 cRet)
def Q40c1 : IC:=cCond (.tmp 7) Q40c1a cSkip
def Q40r3 : IC:=cReg Tryz.prog [xF 10 7 1,⟨none,none,iStor 1 (.tmp 10) (.const (.bool false))⟩] [1,2,3] [1,2,3]
def Q40r4 : IC:=cRegD Tryz.prog [xA 11 8 1,xF 12 0 1,xL 13 1 12,xF 14 1 1,xL 15 1 14,⟨some 16,none,iBld 16 [zI,zI,zI,zI,zS,zS] [(0,1),(1,1),(5,1)] [(.const (.int .i64 2)),(.tmp 13),(.tmp 15)]⟩,xS 8 2 11,xS 6 3 16,⟨some 4,none,iMov 4 (.const (.bool true)) true⟩] [[],[],[1],[],[3],[2,4,1,3],[0],[5,6,0,1,2,3,4],[7,0,1,2,3,4,5,6]] [2,3,4] [2,3]
def r1_RecvSay : IC:=(cSeq Q40r0 (cSeq (cSeq Q40r1 Q40c1) (cSeq Q40r3 (cSeq Q40r4 cRet))))
theorem told_r1_RecvSay {args r : List D} (hl : args.length = 1) (h : r1_RecvSay (start args) (fin [(2,some (8,true)),(3,some (6,true)),(4,none)] r)) : Told Tryz.prog 51 args r :=
 told_of follows Tryz.func51 rfl (an:=[([],[1,2,3],[1,2,3],[]),([],[1,2,3,7],[1,2,3],[]),([],[2,3,4],[2,3],[]),([],[1,2,3],[1,2,3],[]),([],[2,3,4],[2,3],[])]) (by kernel_rfl) (by kernel_rfl) (by rw [hl]; decide +kernel) h
end Go.Proofs.YtgaofjiidedcbacGreat.ab
namespace Go.Proofs.YtgaofjiidedcbacGreat.mth
structure Rv where
 next : Int
 early : List Int
 p0 : Int
 p1 : Int
 p2 : Int
 hold : List Ch
 told : List Ms
 owes : Bool
def rangeI (a b : Int) : List Int:=(List.range (b - a).toNat).map (fun (k : Nat) => a + (k : Int))
theorem rangeI_nil {a b : Int} (h : b ≤ a) : rangeI a b = []:=by
 unfold rangeI
 rw [show (b - a).toNat = 0 by omega]; rfl
theorem rangeI_cons {a b : Int} (h : a < b) : rangeI a b = a :: rangeI (a + 1) b:=by
 unfold rangeI
 rw [show (b - a).toNat = (b - (a + 1)).toNat + 1 by omega,List.range_succ_eq_map]
 simp only [List.map_cons,List.map_map,Int.natCast_zero,Int.add_zero,List.cons.injEq,true_and]
 apply List.map_congr_left
 intro k _
 show a + ((k + 1 : Nat) : Int) = a + 1 + (k : Int)
 omega
theorem rangeI_snoc {a b : Int} (h : a ≤ b) : rangeI a (b + 1) = rangeI a b ++ [b]:=by
 unfold rangeI
 rw [show (b + 1 - a).toNat = (b - a).toNat + 1 by omega,List.range_succ]
 simp only [List.map_append,List.map_cons,List.map_nil]
 rw [show a + (((b - a).toNat : Nat) : Int) = b by omega]
theorem mem_rangeI {a b n : Int} : n ∈ rangeI a b ↔ a ≤ n ∧ n < b:=by
 unfold rangeI
 simp only [List.mem_map,List.mem_range]
 constructor
 ·rintro ⟨k,hk,rfl⟩; omega
 ·rintro ⟨h1,h2⟩
  exact ⟨(n - a).toNat,by omega,by omega⟩
theorem rangeI_len {a b : Int} : (rangeI a b).length = (b - a).toNat:=by simp [rangeI]
theorem rangeI_app {a b c : Int} (h1 : a ≤ b) (h2 : b ≤ c) : rangeI a c = rangeI a b ++ rangeI b c:=by
 obtain ⟨k,hk⟩ : ∃ k : Nat,c = b + k:=⟨(c - b).toNat,by omega⟩
 subst hk
 induction k with
 | zero => rw [rangeI_nil (a:=b) (by simp)]; simp
 | succ k ih =>
  rw [show b + ((k + 1 : Nat) : Int) = (b + (k : Int)) + 1 by omega,rangeI_snoc (by omega),rangeI_snoc (by omega),ih (by omega),List.append_assoc]
theorem count_more (p q : Int → Bool) (x : Int) (hx : p x = false) (hq : ∀ n,q n = (p n || n == x)) : ∀ (k : Nat) (a : Int),a ≤ x → x < a + k → ((rangeI a (a + k)).filter q).length = ((rangeI a (a + k)).filter p).length + 1:=by
 have same : ∀ (l : List Int),x ∉ l → l.filter q = l.filter p:=by
  intro l hl
  apply List.filter_congr
  intro n hn
  rw [hq]
  have : (n == x) = false:=by
   rw [beq_eq_false_iff_ne]; intro e; exact hl (e ▸ hn)
  rw [this,Bool.or_false]
 intro k
 induction k with
 | zero => intro a h1 h2; omega
 | succ k ih =>
  intro a h1 h2
  rw [rangeI_cons (by omega),show a + ((k + 1 : Nat) : Int) = (a + 1) + (k : Int) by omega]
  by_cases hax : a = x
  ·subst hax
   rw [List.filter_cons_of_pos (by rw [hq]; simp),List.filter_cons_of_neg (by rw [hx]; simp),List.length_cons,same]
   intro hm
   have:=(mem_rangeI.1 hm).1
   omega
  ·have hqa : q a = p a:=by
    rw [hq]
    have : (a == x) = false:=by rw [beq_eq_false_iff_ne]; exact hax
    rw [this,Bool.or_false]
   have:=ih (a + 1) (by omega) (by omega)
   by_cases hpa : p a = true
   ·rw [List.filter_cons_of_pos (by rw [hqa]; exact hpa),List.filter_cons_of_pos hpa,List.length_cons,List.length_cons,this]
   ·rw [List.filter_cons_of_neg (by rw [hqa]; exact hpa),List.filter_cons_of_neg hpa,this]
def climb : Nat → List Int → Int → Int
 | 0,_,n => n
 | f + 1,S,n => if S.contains n = true then climb f S (n + 1) else n
theorem climb_ok (S : List Int) (hS : ∀ n ∈ S,n < 40) : ∀ (f : Nat) (n : Int),n ≤ 40 → 40 - n < f → n ≤ climb f S n ∧ climb f S n ≤ 40 ∧ S.contains (climb f S n) = false ∧ ∀ m,n ≤ m → m < climb f S n → S.contains m = true
 | 0,n,h1,h2 => by omega
 | f + 1,n,h1,h2 => by
  unfold climb
  by_cases h : S.contains n = true
  ·rw [if_pos h]
   have hn:=hS n (by simpa using h)
   obtain ⟨q1,q2,q3,q4⟩:=climb_ok S hS f (n + 1) (by omega) (by omega)
   refine ⟨by omega,q2,q3,fun m hm hm' => ?_⟩
   by_cases e : m = n
   ·subst e; exact h
   ·exact q4 m (by omega) hm'
  ·rw [if_neg h]
   exact ⟨Int.le_refl _,h1,by simpa using h,fun m hm hm' => by omega⟩
theorem climb_eq {S : List Int} {n : Int} (h : S.contains n = true) (f : Nat) : climb (f + 1) S n = climb f S (n + 1):=by
 show (if S.contains n = true then _ else _) = _
 rw [if_pos h]
theorem climb_end {S : List Int} {n : Int} (h : S.contains n = false) (f : Nat) : climb f S n = n:=by
 cases f with
 | zero => rfl
 | succ f =>
  show (if S.contains n = true then _ else _) = _
  rw [if_neg (by rw [h]; simp)]
def plc (p0 p1 p2 k : Int) : Int:=if k = 0 then p0 else if k = 1 then p1 else p2
structure Dr where
 p0 : Int
 p1 : Int
 p2 : Int
 hold : List Ch
 told : List Ms
def readyD (d : Dr) (x : Ch) : Bool:=x.place == plc d.p0 d.p1 d.p2 x.stream
def stepD (d : Dr) (i : Nat) (x : Ch) : Dr :=
 ⟨if x.stream = 0 then d.p0 + 1 else d.p0,if x.stream = 1 then d.p1 + 1 else d.p1,if x.stream = 2 then d.p2 + 1 else d.p2,d.hold.take i ++ d.hold.drop (i + 1),d.told ++ [⟨x.stream,x.data⟩]⟩
def drain : Nat → Dr → Dr
 | 0,d => d
 | f + 1,d => match d.hold[d.hold.findIdx (readyD d)]? with
  | some x => drain f (stepD d (d.hold.findIdx (readyD d)) x)
  | none => d
def earlyR (S : List Int) (n : Int) : List Int:=(rangeI n 40).filter (fun m => S.contains m)
def seenR (r : Rv) (n : Int) : Bool:=r.early.contains n || (decide (n < r.next) || (decide (r.next < n) && decide (2 < r.early.length)))
def takeR (r : Rv) (c : Ch) : Rv :=
 let S:=c.number :: r.early
 let nx:=climb 41 S r.next
 let d:=drain (r.hold.length + 1) ⟨r.p0,r.p1,r.p2,r.hold ++ [c],r.told⟩
 ⟨nx,earlyR S nx,d.p0,d.p1,d.p2,d.hold,d.told,true⟩
def hearR (r : Rv) (c : Ch) : Rv:=if c.kind = 1 then (if seenR r c.number = true then { r with owes:=true } else takeR r c) else r
def sayR (r : Rv) : Rv × Ch × Bool:=if r.owes = true then ({ r with owes:=false },⟨2,r.next,0,0,[],r.early⟩,true) else (r,zeroC,false)
def zeroR : Rv:=⟨0,[],0,0,0,[],[],false⟩
structure GoodR (r : Rv) : Prop where
 n : 0 ≤ r.next ∧ r.next ≤ 40
 e : r.early = earlyR r.early r.next
 x : r.early.contains r.next = false
 l : r.early.length ≤ 3
 t : (r.told.length : Int) + r.hold.length = r.next + r.early.length
 p : 0 ≤ r.p0 ∧ 0 ≤ r.p1 ∧ 0 ≤ r.p2 ∧ r.p0 + r.p1 + r.p2 = r.told.length
 h : ∀ c ∈ r.hold,c.kind = 1 ∧ wrongL c = 0
 m : ∀ m ∈ r.told,wrongMsgL m.stream m.data = 0
theorem good_zeroR : GoodR zeroR:=⟨by simp [zeroR],by simp [zeroR,earlyR],by simp [zeroR],by simp [zeroR],by simp [zeroR],by simp [zeroR],by simp [zeroR],by simp [zeroR]⟩
theorem GoodR.in40 {r : Rv} (h : GoodR r) : ∀ n ∈ r.early,r.next < n ∧ n < 40:=by
 intro n hn
 have hn':=hn
 rw [h.e] at hn'
 unfold earlyR at hn'
 obtain ⟨h1,h2⟩:=List.mem_filter.1 hn'
 have:=mem_rangeI.1 h1
 have hne : n ≠ r.next:=fun e => by
  have:=h.x
  rw [← e,List.contains_eq_mem] at this
  simp [hn] at this
 omega
theorem wrong_one {c : Ch} (hk : c.kind = 1) (h : wrongL c = 0) : (0 ≤ c.number ∧ c.number < 40) ∧ (0 ≤ c.place ∧ c.place ≤ c.number) ∧ c.early = [] ∧ wrongMsgL c.stream c.data = 0:=by
 unfold wrongL at h
 rw [if_neg (by omega)] at h
 split at h
 ·cases h
 ·split at h
  ·cases h
  ·split at h
   ·cases h
   ·rename_i h1 h2 h3
    exact ⟨by omega,by omega,List.eq_nil_of_length_eq_zero (by omega),h⟩
theorem count_all {S : List Int} {n : Int} (h0 : 0 ≤ n) (h1 : n ≤ 40) : (((rangeI 0 40).filter (fun m => decide (m < n) || S.contains m)).length : Int) = n + (earlyR S n).length:=by
 rw [rangeI_app h0 h1,List.filter_append,List.length_append]
 have e1 : (rangeI 0 n).filter (fun m => decide (m < n) || S.contains m) = rangeI 0 n:=List.filter_eq_self.2 (fun m hm => by
  have:=(mem_rangeI.1 hm).2
  simp [this])
 have e2 : (rangeI n 40).filter (fun m => decide (m < n) || S.contains m) = earlyR S n:=by
  unfold earlyR
  apply List.filter_congr
  intro m hm
  have:=(mem_rangeI.1 hm).1
  rw [decide_eq_false (by omega),Bool.false_or]
 rw [e1,e2,rangeI_len]
 omega
structure DrOk (d : Dr) (K : Nat) : Prop where
 p : 0 ≤ d.p0 ∧ 0 ≤ d.p1 ∧ 0 ≤ d.p2 ∧ d.p0 + d.p1 + d.p2 = d.told.length
 h : ∀ c ∈ d.hold,c.kind = 1 ∧ wrongL c = 0
 m : ∀ m ∈ d.told,wrongMsgL m.stream m.data = 0
 l : d.told.length + d.hold.length = K
theorem stream3 {s : Int} {b : List UInt8} (h : wrongMsgL s b = 0) : s = 0 ∨ s = 1 ∨ s = 2:=by
 unfold wrongMsgL at h
 split at h
 ·cases h
 ·omega
theorem DrOk.step {d : Dr} {K i : Nat} {x : Ch} (h : DrOk d K) (hx : d.hold[i]? = some x) : DrOk (stepD d i x) K:=by
 have hi : i < d.hold.length:=(List.getElem?_eq_some_iff.1 hx).1
 have hr:=h.h x (List.mem_of_getElem? hx)
 have hw:=(wrong_one hr.1 hr.2).2.2.2
 have hs:=stream3 hw
 have hp:=h.p
 have hl:=h.l
 refine ⟨?_,fun c hc => ?_,fun m hm => ?_,?_⟩
 ·simp only [stepD,List.length_append,List.length_cons,List.length_nil]
  rcases hs with e | e | e
  ·rw [if_pos e,if_neg (by omega),if_neg (by omega)]; omega
  ·rw [if_neg (by omega),if_pos e,if_neg (by omega)]; omega
  ·rw [if_neg (by omega),if_neg (by omega),if_pos e]; omega
 ·rcases List.mem_append.1 hc with q | q
  ·exact h.h c (List.mem_of_mem_take q)
  ·exact h.h c (List.mem_of_mem_drop q)
 ·rcases List.mem_append.1 hm with q | q
  ·exact h.m m q
  ·rw [List.mem_singleton.1 q]; exact hw
 ·simp only [stepD,List.length_append,List.length_cons,List.length_nil,List.length_take,List.length_drop]
  omega
theorem DrOk.drain : ∀ (f : Nat) {d : Dr} {K : Nat},DrOk d K → DrOk (drain f d) K
 | 0,d,K,h => h
 | f + 1,d,K,h => by
  unfold mth.drain
  split
  ·rename_i x hx; exact DrOk.drain f (h.step hx)
  ·exact h
theorem contains_eq (S : List Int) (n m : Int) : (n :: S).contains m = (S.contains m || m == n):=by
 rw [List.contains_cons,Bool.or_comm]
theorem earlyR_has {S : List Int} {nx m : Int} (h1 : nx ≤ m) (h2 : m < 40) : (earlyR S nx).contains m = S.contains m:=by
 unfold earlyR
 cases hS : S.contains m with
 | true =>
  rw [List.contains_iff_mem,List.mem_filter]
  exact ⟨mem_rangeI.2 ⟨h1,h2⟩,hS⟩
 | false =>
  cases hc : ((rangeI nx 40).filter fun m => S.contains m).contains m with
  | false => rfl
  | true =>
   have:=(List.mem_filter.1 (List.contains_iff_mem.1 hc)).2
   rw [hS] at this; cases this
theorem take_numbers {r : Rv} (h : GoodR r) {n : Int} (hn : 0 ≤ n ∧ n < 40) (hs : seenR r n = false) :
  r.next ≤ climb 41 (n :: r.early) r.next ∧ climb 41 (n :: r.early) r.next ≤ 40 ∧ (n :: r.early).contains (climb 41 (n :: r.early) r.next) = false ∧
  (earlyR (n :: r.early) (climb 41 (n :: r.early) r.next)).length ≤ 3 ∧ climb 41 (n :: r.early) r.next + (earlyR (n :: r.early) (climb 41 (n :: r.early) r.next)).length = r.next + r.early.length + 1:=by
 have hS : ∀ m ∈ n :: r.early,m < 40:=by
  intro m hm
  rcases List.mem_cons.1 hm with rfl | hm
  ·exact hn.2
  ·exact (h.in40 m hm).2
 have h0:=h.n
 obtain ⟨c1,c2,c3,c4⟩:=climb_ok (n :: r.early) hS 41 r.next h0.2 (by omega)
 unfold seenR at hs
 simp only [Bool.or_eq_false_iff,Bool.and_eq_false_iff,decide_eq_false_iff_not] at hs
 obtain ⟨s1,s2,s3⟩:=hs
 generalize hnx : climb 41 (n :: r.early) r.next = nx at *
 have hcnt : nx + (earlyR (n :: r.early) nx).length = r.next + r.early.length + 1:=by
  have k1:=count_all (S:=r.early) h0.1 h0.2
  have k2:=count_all (S:=n :: r.early) (n:=nx) (by omega) c2
  rw [← h.e] at k1
  have k3:=count_more (fun m => decide (m < r.next) || r.early.contains m) (fun m => (decide (m < r.next) || r.early.contains m) || m == n) n (by simp only [s1,Bool.or_false,decide_eq_false_iff_not]; exact s2) (fun m => rfl) 40 0 hn.1 (by omega)
  have k4 : (rangeI 0 40).filter (fun m => decide (m < nx) || (n :: r.early).contains m) = (rangeI 0 40).filter (fun m => (decide (m < r.next) || r.early.contains m) || m == n):=by
   apply List.filter_congr
   intro m hm
   rw [contains_eq]
   by_cases q : m < r.next
   ·rw [decide_eq_true q,decide_eq_true (show m < nx by omega)]; simp
   ·rw [decide_eq_false q,Bool.false_or]
    by_cases q2 : m < nx
    ·have:=c4 m (by omega) q2
     rw [contains_eq] at this
     rw [this,Bool.or_true]
    ·rw [decide_eq_false q2,Bool.false_or]
  rw [k4] at k2
  have e40 : (0 : Int) + ((40 : Nat) : Int) = 40:=rfl
  rw [e40] at k3
  omega
 refine ⟨c1,c2,c3,?_,hcnt⟩
 have hl:=h.l
 by_cases q : n = r.next
 ·have : nx ≠ r.next:=fun e => by
   rw [e,q,contains_eq] at c3
   simp at c3
  omega
 ·have : r.early.length ≤ 2:=by
   rcases s3 with s3 | s3
   ·omega
   ·omega
  omega
theorem GoodR.hear {r : Rv} (h : GoodR r) {c : Ch} (hc : wrongL c = 0) : GoodR (hearR r c):=by
 unfold hearR
 by_cases hk : c.kind = 1
 ·rw [if_pos hk]
  have hw:=wrong_one hk hc
  cases hs : seenR r c.number with
  | true =>
   rw [if_pos rfl]
   exact ⟨h.n,h.e,h.x,h.l,h.t,h.p,h.h,h.m⟩
  | false =>
   rw [if_neg (by simp)]
   obtain ⟨t1,t2,t3,t4,t5⟩:=take_numbers h hw.1 hs
   have hd : DrOk ⟨r.p0,r.p1,r.p2,r.hold ++ [c],r.told⟩ (r.told.length + (r.hold.length + 1)):=by
    refine ⟨h.p,fun x hx => ?_,h.m,by simp⟩
    rcases List.mem_append.1 hx with q | q
    ·exact h.h x q
    ·rw [List.mem_singleton.1 q]; exact ⟨hk,hc⟩
   have hd':=DrOk.drain (r.hold.length + 1) hd
   have h0:=h.n
   have ht:=h.t
   unfold takeR
   simp only
   generalize climb 41 (c.number :: r.early) r.next = nx at *
   generalize mth.drain (r.hold.length + 1) ⟨r.p0,r.p1,r.p2,r.hold ++ [c],r.told⟩ = d at *
   refine ⟨by simp only; omega,?_,?_,t4,?_,hd'.p,hd'.h,hd'.m⟩
   ·show earlyR (c.number :: r.early) nx = earlyR (earlyR (c.number :: r.early) nx) nx
    show (rangeI nx 40).filter _ = (rangeI nx 40).filter _
    apply List.filter_congr
    intro m hm
    have:=mem_rangeI.1 hm
    exact (earlyR_has this.1 this.2).symm
   ·show (earlyR (c.number :: r.early) nx).contains nx = false
    by_cases q : nx < 40
    ·rw [earlyR_has (Int.le_refl _) q]; exact t3
    ·have : nx = 40:=by omega
     subst this
     unfold earlyR
     rw [rangeI_nil (Int.le_refl _)]; rfl
   ·have:=hd'.l
    show (d.told.length : Int) + d.hold.length = nx + (earlyR (c.number :: r.early) nx).length
    omega
 ·rw [if_neg hk]; exact h
theorem GoodR.say {r : Rv} (h : GoodR r) : GoodR (sayR r).1:=by
 unfold sayR
 split
 ·exact ⟨h.n,h.e,h.x,h.l,h.t,h.p,h.h,h.m⟩
 ·exact h
end Go.Proofs.YtgaofjiidedcbacGreat.mth
namespace Go.Proofs.YtgaofjiidedcbacGreat.ab
open Go Go.RowKit
open mth
def encRv (r : Rv) : List D:=[vI r.next,sD 1 (r.early.map vI),vI r.p0,vI r.p1,vI r.p2,sD 6 (encCl r.hold),sD 2 (encMl r.told),vB r.owes]
def encS (l : List Int) : List D:=l.map fun n => aD [vI n,vB true]
theorem encS_look (l : List Int) (n : Int) : (mlk (encS l) n).getD (.bool false) = .bool (l.contains n):=by
 induction l with
 | nil => rfl
 | cons x r ih =>
  show (mlk (aD [vI x,vB true] :: encS r) n).getD (.bool false) = _
  rw [List.contains_cons]
  unfold mlk
  by_cases h : x = n
  ·subst h; simp
  ·have h1 : (n == x) = false:=by rw [beq_eq_false_iff_ne]; exact fun e => h e.symm
   rw [h1,Bool.false_or,← ih]
   simp [h]
theorem encS_cons (x : Int) (l : List Int) : aD [vI x,vB true] :: encS l = encS (x :: l):=rfl
theorem len_encS (l : List Int) : (encS l).length = l.length:=List.length_map _
def raSt (B2 B3 B4 : List D) (early : List Int) (n : Int) (k : Nat) : St :=
 ⟨[(2,pD 2 0),(3,pD 3 0),(4,pD 4 0),(5,hD 200018),(23,sD 1 (early.map vI)),(24,vI early.length),(25,vI k)],[(2,B2),(3,B3),(4,B4),(200018,encS ((early.take k).reverse ++ [n]))],[]⟩
theorem raSt_def (B2 B3 B4 : List D) (early : List Int) (n : Int) (k : Nat) : raSt B2 B3 B4 early n k = ⟨[(2,pD 2 0),(3,pD 3 0),(4,pD 4 0),(5,hD 200018),(23,sD 1 (early.map vI)),(24,vI early.length),(25,vI k)],[(2,B2),(3,B3),(4,B4),(200018,encS ((early.take k).reverse ++ [n]))],[]⟩:=rfl
theorem rh_early (next p0 p1 p2 : Int) (H T : List D) (c : Ch) (early : List Int) (hl : early.length ≤ 3) (h40 : ∀ n ∈ early,0 ≤ n ∧ n < 40) (hn : 0 ≤ c.number ∧ c.number < 40) (Q : AX → St → Prop)
  (hyes : early.contains c.number = true → Q (some none) ⟨[(4,pD 4 0)],[(4,[vI next,sD 1 (early.map vI),vI p0,vI p1,vI p2,sD 6 H,sD 2 T,vB true])],[]⟩)
  (hno : early.contains c.number = false → Q none ⟨[(2,pD 2 0),(3,pD 3 0),(4,pD 4 0),(5,hD 200018),(23,sD 1 (early.map vI)),(24,vI early.length),(25,vI early.length),(26,vB false)],[(2,[vI next,sD 1 (early.map vI),vI p0,vI p1,vI p2,sD 6 H,sD 2 T,vB true]),(3,encCh c),(4,[vI 0,vD (.slice none 0 0),vI 0,vI 0,vI 0,vD (.slice none 0 0),vD (.slice none 0 0),vB false]),(200018,encS (early.reverse ++ [c.number]))],[]⟩) :
  Q39b2 (raSt [vI next,sD 1 (early.map vI),vI p0,vI p1,vI p2,sD 6 H,sD 2 T,vB true] (encCh c) [vI 0,vD (.slice none 0 0),vI 0,vI 0,vI 0,vD (.slice none 0 0),vD (.slice none 0 0),vB false] early c.number 0) Q:=by
 refine aw_block ?_
 refine aw_loop (fun m st => ∃ k : Nat,k ≤ early.length ∧ m = early.length - k ∧ (early.take k).contains c.number = false ∧ st = raSt [vI next,sD 1 (early.map vI),vI p0,vI p1,vI p2,sD 6 H,sD 2 T,vB true] (encCh c) [vI 0,vD (.slice none 0 0),vI 0,vI 0,vI 0,vD (.slice none 0 0),vD (.slice none 0 0),vB false] early c.number k) early.length _ (Le.refl _) ⟨0,by omega,by omega,by simp,rfl⟩ ?_
 rintro m st ⟨k,hk,hm,hb,rfl⟩
 by_cases hlt : k < early.length
 ·obtain ⟨y,hy⟩ : ∃ m,early[k]? = some m:=⟨early[k],List.getElem?_eq_getElem hlt⟩
  have hyr:=h40 y (List.mem_of_getElem? hy)
  have g1 : (k : Int) < (early.length : Int):=by omega
  have g2 : (0 : Int) ≤ (k : Int):=by omega
  have g3:=at_il hy
  have g4 : inR .i64 ((k : Int) + 1) = true:=inR_of (by omega)
  have g5 : inR .i64 y = true:=inR_of (by omega)
  have htk : early.take (k + 1) = early.take k ++ [y]:=by rw [List.take_add_one,hy]; rfl
  cases hp : (y == c.number) with
  | true =>
   have hc : early.contains c.number = true:=by
    have e : y = c.number:=by simpa using hp
    rw [List.contains_iff_mem,← e]; exact List.mem_of_getElem? hy
   have hq:=hyes hc
   generalize (fun m st => ∃ k : Nat,k ≤ early.length ∧ m = early.length - k ∧ (early.take k).contains c.number = false ∧ st = raSt [vI next,sD 1 (early.map vI),vI p0,vI p1,vI p2,sD 6 H,sD 2 T,vB true] (encCh c) [vI 0,vD (.slice none 0 0),vI 0,vI 0,vI 0,vD (.slice none 0 0),vD (.slice none 0 0),vB false] early c.number k) = J at *
   simp only [raSt_def,encCh]
   refine wk (an4 @g1 @g2 @g3 @hp) ?_
   exact hq
  | false =>
   have hnx : Next (fun m st => ∃ k : Nat,k ≤ early.length ∧ m = early.length - k ∧ (early.take k).contains c.number = false ∧ st = raSt [vI next,sD 1 (early.map vI),vI p0,vI p1,vI p2,sD 6 H,sD 2 T,vB true] (encCh c) [vI 0,vD (.slice none 0 0),vI 0,vI 0,vI 0,vD (.slice none 0 0),vD (.slice none 0 0),vB false] early c.number k) m
     ⟨[(2,pD 2 0),(3,pD 3 0),(4,pD 4 0),(5,hD 200018),(23,sD 1 (early.map vI)),(24,vI early.length),(25,vI ((k : Int) + 1))],[(2,[vI next,sD 1 (early.map vI),vI p0,vI p1,vI p2,sD 6 H,sD 2 T,vB true]),(3,encCh c),(4,[vI 0,vD (.slice none 0 0),vI 0,vI 0,vI 0,vD (.slice none 0 0),vD (.slice none 0 0),vB false]),(200018,aD [vI y,vB true] :: encS ((early.take k).reverse ++ [c.number]))],[]⟩:=by
    refine ⟨early.length - (k + 1),_,by omega,Le.refl _,k + 1,by omega,rfl,?_,?_⟩
    ·rw [htk]
     cases hcc : (early.take k ++ [y]).contains c.number with
     | false => rfl
     | true =>
      rcases List.mem_append.1 (List.contains_iff_mem.1 hcc) with q | q
      ·rw [List.contains_iff_mem.2 q] at hb; cases hb
      ·rw [List.mem_singleton.1 q] at hp; simp at hp
    ·rw [raSt_def,htk,List.reverse_append,Int.natCast_add,Int.cast_ofNat_Int,encS_cons]; rfl
   generalize (fun m st => ∃ k : Nat,k ≤ early.length ∧ m = early.length - k ∧ (early.take k).contains c.number = false ∧ st = raSt [vI next,sD 1 (early.map vI),vI p0,vI p1,vI p2,sD 6 H,sD 2 T,vB true] (encCh c) [vI 0,vD (.slice none 0 0),vI 0,vI 0,vI 0,vD (.slice none 0 0),vD (.slice none 0 0),vB false] early c.number k) = J at *
   simp only [raSt_def,encCh] at hnx ⊢
   have g6 : ((early.take k).reverse ++ [c.number]).length ≤ 9:=by
    rw [List.length_append,List.length_reverse,List.length_take]; simp; omega
   generalize (early.take k).reverse ++ [c.number] = L at *
   have g7 : (encS L).length < 9223372036854775807:=by rw [len_encS]; omega
   refine wk (an7 @g1 @g2 @g3 @g4 @g5 @g7 @hp) ?_
   exact hnx
 ·have hk' : k = early.length:=by omega
  subst hk'
  have g1 : ¬ (early.length : Int) < (early.length : Int):=by omega
  rw [List.take_length] at hb
  have hq:=hno hb
  simp only [raSt_def,List.take_length]
  refine wk @g1 ?_
  exact hq
end Go.Proofs.YtgaofjiidedcbacGreat.ab
