import Derived.Test.YtgaofjiidedcbadM19
import Derived.WalkKit
import Derived.ProofKit
import Derived.OpenShut
import Derived.JoinedCond
import Derived.Below
import Derived.Test.YtgaofjiidedcbadProg
import Derived.Test.YtgaofjiidedcbadChecked
import Derived.WalkSpells
import Derived.Laws.CopyOwn
import Derived.Laws.IdiomStrings
import Derived.Laws.AppendOwnNone
import Derived.Outline
import Derived.Deep.DeepMust
set_option maxHeartbeats 400000
set_option linter.unusedVariables false
set_option linter.unusedSimpArgs false
namespace Go.Proofs.Ytgaofjiidedcbad.ab
open Go Go.ChangeShapes Go.WideShapes Go.RowKit
theorem own : ownKnob Try.prog.godebug = none:=by kernel_rfl
theorem laidOut : laidOutB Try.prog = true:=by kernel_rfl
theorem Told.yes {f : FuncId} {args : List D} (h : Told Try.prog f args [vB true]) {W : World} {vs : List Value} (hv : Vals (AllOf W) W args vs) : Calls Try.prog f vs.toArray W fun e W' => e = .returned (.bool true) ∧ Below W.heap.size W W':=by
 refine (h W (AllOf W) vs hv (fun b j hb => hb)).mono fun e W' ⟨v,he,hr,hb⟩ => ⟨?_,hb⟩
 have hv : CVRep _ W' (vD (.bool true)) v:=hr
 rw [he,(hv.leaf (fun cs e => by cases e)).invV.1]
open mth
theorem CRep.len {I : Still} {w : World} {z : Nat} {es : List D} {u : Value} (h : CRep I w (sD z es) u) : es.length ≤ 9223372036854775807:=by
 obtain ⟨a,cap,_,U,h1,_,h3,_⟩:=h.invS
 have e : maxLen = 9223372036854775807:=by decide
 omega
section
variable {H : Type} {enc : TypeId × Value → H} {W : World} {base : Nat}
end
set_option maxRecDepth 100000
end Go.Proofs.Ytgaofjiidedcbad.ab
namespace Go.Proofs.Ytgaofjiidedcbad.leaf
open Go.RowKit
open mth
def B (x : UInt8) : Value:=.int .u8 (x.toNat : Int)
def Bs (w : World) (v : Value) (xs : List UInt8) : Prop :=
 ∃ (a : Option Addr) (cap : Nat),v = .slice a xs.length cap ∧ xs.length ≤ cap ∧ (a = none → cap = 0) ∧ ∀ i,i < xs.length → ∃ x,a = some x ∧ w.cell? (x.add i) = some (.int .u8 ((xs.getD i 0).toNat : Int))
theorem ret_int {k : IntKind} {a b : Int} (h : a = b) : Ending.returned (.int k a) = .returned (.int k b):=by rw [h]
theorem take_snoc (xs : List UInt8) (k : Nat) (h : k < xs.length) : sumL (xs.take (k + 1)) = (sumL (xs.take k) * 139 + ((xs[k].toNat : Nat) : Int) + 1) % 65521:=by
 rw [List.take_succ_eq_append_getElem h,sumL_snoc]; rfl
theorem of_any (a : Option Addr) (cap : Nat) (xs : List UInt8) (w : World) (h : Bs w (.slice a xs.length cap) xs) (hm : xs.length ≤ maxLen) :
  Calls Try.prog 75 #[.slice a xs.length cap] w fun e w' => e = .returned (.int .i64 (sumL xs)) ∧ w = w':=by
 unfold maxLen at hm
 obtain ⟨a',cap',he,hlc,hno,hc⟩:=h
 injection he with h1 _ h2
 subst h1 h2
 by_cases hl : xs.length = 0
 ·obtain rfl : xs = []:=List.eq_nil_of_length_eq_zero hl
  clear hc hno hlc
  go_enter Try.func75,Try.ntmps75
  go_wp2
  refine wp_loop_rounds 1 ?_
  rw [rounds_succ]
  go_wp2
  go_ret
  exact ⟨rfl,rfl⟩
 ·obtain ⟨x,rfl,hc0⟩:=hc 0 (by omega)
  obtain ⟨b,off,spot⟩:=x
  have hspot : spot = none:=by simpa [Addr.add] using World.cell?_spot hc0
  subst hspot
  have hcx : ∀ k (_ : k < xs.length),w.cell? ⟨b,off + k,none⟩ = some (.int .u8 (xs[k].toNat : Int)):=by
   intro k hk
   obtain ⟨x',hx',hcc⟩:=hc k hk
   simp at hx'
   subst hx'
   rw [Addr.add_lit] at hcc
   simpa [List.getD,hk] using hcc
  clear hc hc0 hno
  go_enter Try.func75,Try.ntmps75
  go_wp2
  go_loop [3,8] (fun s i => ∃ k : Nat,k ≤ xs.length ∧ i = .int .i64 k ∧ s = .int .i64 (sumL (xs.take k))) (fun _ i => xs.length - (intOf i).toNat)
  case atStart => exact ⟨0,Nat.zero_le _,rfl,rfl⟩
  case round =>
   obtain ⟨k,hk,rfl,rfl⟩:=hrel
   have hd:=sumL_bd (xs.take k)
   by_cases hlt : k < xs.length
   ·have hcell:=hcx k hlt
    have HS : Hid (sumL (xs.take (k + 1)) = _):=take_snoc xs k hlt
    have hb:=xs[k].toNat_lt
    clear hcx
    go_wp2
    go_round
    case rel => exact ⟨k + 1,by omega,by go_num,by rw [HS.out]⟩
    case measure => simp [intOf]; omega
   ·clear hcx
    go_wp2
    go_ret
    exact ⟨ret_int (by rw [List.take_of_length_le (by omega)]),rfl⟩
set_option maxRecDepth 10000
theorem info5 : (Try.prog.info? 5).map (fun i => (i.zero,i.size,i.bytes)) = some (some (.int .u8 0),1,1):=by kernel_rfl
theorem size5 : (Try.prog.info? 5).map (·.size) = some 1:=by kernel_rfl
theorem B_one (xs : List UInt8) : ∀ v ∈ xs.map B,v.oneCell' = true:=by
 intro u hu
 obtain ⟨_,_,rfl⟩:=List.mem_map.1 hu
 rfl
theorem Bs_cells {w : World} {a : Option Addr} {cap : Nat} {xs : List UInt8} (h : Bs w (.slice a xs.length cap) xs) (hp : 0 < xs.length) : ∃ ad,a = some ad ∧ ∀ j v,(xs.map B)[j]? = some v → w.cell? (ad.add j) = some v:=by
 obtain ⟨a',cap',he,hlc,hno,hc⟩:=h
 injection he with h1 _ h2
 subst h1 h2
 obtain ⟨x,rfl,_⟩:=hc 0 hp
 refine ⟨x,rfl,fun j v hv => ?_⟩
 have hj : j < xs.length:=by
  have:=(List.getElem?_eq_some_iff.1 hv).1
  simpa using this
 obtain ⟨x',hx',hcc⟩:=hc j hj
 simp at hx'
 subst hx'
 rw [hcc]
 simp [hj] at hv
 simp [List.getD,hj,← hv,B]
theorem Bs.later {w w' : World} {v : Value} {xs : List UInt8} (h : Bs w v xs) (hb : Below w.heap.size w w') : Bs w' v xs:=by
 obtain ⟨a,cap,rfl,hlc,hno,hc⟩:=h
 refine ⟨a,cap,rfl,hlc,hno,fun i hi => ?_⟩
 obtain ⟨x,rfl,hcc⟩:=hc i hi
 exact ⟨x,rfl,(hb.cell (World.block_lt_of_cell? w _ hcc)).trans hcc⟩
theorem owns_made {w : World} {B0 g n cap : Nat} {cur : List Value} {xs : List Value} (hg : w.heap[g]? = some (.cells cur.toArray 5 (0,0))) (hB : B0 ≤ g) (hn : n ≤ cap) (hm : cap ≤ maxLen) (hl : cur.length = cap) (hx : cur.take n = xs) :
  w.ownsRow B0 5 1 (.slice (some ⟨g,0,none⟩) n cap) n xs :=
 ⟨by rw [← hx]; simp; omega,.inr ⟨g,cap,cur.toArray,rfl,hB,hg,hn,hm,by simpa using hl,by simpa using hx⟩⟩
theorem two_new (w : World) (x y : Int) : ∀ (j : Nat) (u : Value),[Value.int .u8 x,Value.int .u8 y][j]? = some u → (w.alloc (.cells #[Value.int .u8 x,Value.int .u8 y] 5)).cell? ((⟨w.heap.size,0,none⟩ : Addr).add j) = some u:=by
 intro j u hj
 rw [Addr.add_lit,Nat.zero_add,World.cell?_alloc_mark]
 simpa using hj
theorem two_one (x y : Int) : ∀ u ∈ [Value.int .u8 x,Value.int .u8 y],u.oneCell' = true:=by
 intro u hu
 simp at hu
 rcases hu with rfl | rfl <;> rfl
theorem seal_cells (xs : List UInt8) : (sealL xs).map B = xs.map B ++ [Value.int .u8 (sumL xs / 256),Value.int .u8 (sumL xs % 256)]:=by
 simp [sealL,B,hiB_toNat (sumL_bd xs),loB_toNat (sumL_bd xs)]
theorem run_copy {w u : World} {a : Option Addr} {cap B0 g dcap : Nat} {xs : List UInt8} {cur : List Value} (h : Bs w (.slice a xs.length cap) xs) (hu : Below w.heap.size w u)
  (hg : u.heap[g]? = some (.cells cur.toArray 5 (0,0))) (hB : w.heap.size ≤ g) (hB0 : B0 ≤ g) (hl : xs.length ≤ cur.length) (hd : dcap ≤ maxLen) (hcd : cur.length = dcap) :
  ∃ u',(Builtin.copy_ #[26,26] 3 #[.slice (some ⟨g,0,none⟩) xs.length dcap,.slice a xs.length cap]).run Try.prog u = .ok (.int .i64 xs.length) u' ∧
   u'.ownsRow B0 5 1 (.slice (some ⟨g,0,none⟩) xs.length dcap) xs.length (xs.map B) ∧ Below w.heap.size w u':=by
 by_cases h0 : xs.length = 0
 ·have hrun:=run_copy_none (P:=Try.prog) u 26 26 3 5 (some ⟨g,0,none⟩) a xs.length dcap xs.length cap Try.underlying26 size5 (by simp [h0])
  refine ⟨u,?_,?_,hu⟩
  ·rw [hrun]; simp [goInt,h0]
  ·obtain rfl : xs = []:=List.eq_nil_of_length_eq_zero h0
   exact owns_made hg hB0 (Nat.zero_le _) hd hcd (by simp)
 ·obtain ⟨ad,rfl,hc⟩:=Bs_cells (h.later hu) (by omega)
  have hrun:=run_copy_row (P:=Try.prog) u 26 26 3 5 g 0 xs.length dcap ad xs.length cap cur.toArray 5 (xs.map B) Try.underlying26 size5 hg (by simp) hc (by simpa using hl) (B_one xs)
  have hs:=setRow_heap u g _ ((cur.toArray.toList.take 0 ++ xs.map B ++ cur.toArray.toList.drop (0 + (xs.map B).length)).toArray) 5 _ hg
  refine ⟨_,hrun.trans (by simp [goInt]),owns_made hs hB0 (by omega) hd ?_ ?_,below_setRow hu hB _⟩
  ·simp; omega
  ·simp
theorem seal_any (a : Option Addr) (cap : Nat) (xs : List UInt8) (w : World) (h : Bs w (.slice a xs.length cap) xs) (hr : xs.length + 2 ≤ 140737488355328) :
  Calls Try.prog 73 #[.slice a xs.length cap] w fun e w' => e = .returned (.slice (some ⟨w.heap.size,0,none⟩) (xs.length + 2) (xs.length + 2)) ∧ w'.ownsRow w.heap.size 5 1 (.slice (some ⟨w.heap.size,0,none⟩) (xs.length + 2) (xs.length + 2)) (xs.length + 2) ((sealL xs).map B) ∧ Below w.heap.size w w':=by
 obtain ⟨i0,hi,hz0,hz1,hz2⟩:=info_parts info5
 have hmk : ∀ u : World,(Instr.makeSlice 26 (.int .i64 (xs.length : Int)) (.int .i64 ((xs.length : Int) + 2))).run Try.prog u =
   .ok (.slice (some ⟨u.heap.size,0,none⟩) xs.length (xs.length + 2)) (u.alloc (.cells (madeCells #[.int .u8 0] (xs.length + 2)) 5)):=fun u => by
  have h:=run_make (P:=Try.prog) u 26 5 i0 (.int .u8 0) Try.underlying26 hi hz0 .i64 .i64 (xs.length : Int) ((xs.length : Int) + 2) (by omega) (by omega) (by rw [hz2]; omega) (by omega)
  have e : ((xs.length : Int) + 2).toNat = xs.length + 2:=by omega
  have e' : ((xs.length : Int)).toNat = xs.length:=by omega
  rw [e,e'] at h
  simpa [hz1,Value.cells] using h
 have hb:=sumL_bd xs
 have hrow : (w.alloc (.cells (madeCells #[.int .u8 0] (xs.length + 2)) 5)).heap[w.heap.size]? = some (.cells (List.replicate (xs.length + 2) (Value.int .u8 0)).toArray 5 (0,0)):=by
  rw [heap_alloc_new]
  rw [← toList_madeCells_one]
 obtain ⟨w1,hcp,hown,hb1⟩:=run_copy (B0:=w.heap.size) (dcap:=xs.length + 2) h ((Below.refl _ _).alloc (Nat.le_refl _) _) hrow (Nat.le_refl _) (Nat.le_refl _) (by simp) (by unfold maxLen; omega) (by simp)
 clear hrow
 go_enter Try.func73,Try.ntmps73
 go_wp2_with (first
  | (go_at_call 75; refine (of_any a cap xs _ h (by unfold maxLen; omega)).mono ?_; rintro e w' ⟨rfl,rfl⟩)
  | (at_builtin; go_must (refine wpList_append_fits _ rfl (.tmp 16) (.tmp 22) 26 rfl w.heap.size 5 i0 1 Try.underlying26 hi hz1 w.heap.size xs.length (xs.length + 2) (xs.map B) rfl (hown.alloc _) ⟨w1.heap.size,0,none⟩ 2 2 [.int .u8 (sumL xs / 256),.int .u8 (sumL xs % 256)] rfl rfl (two_new _ _ _) (two_one _ _) (by omega) ?_); intro w2 hown2 hgrow2))
 go_ret
 refine ⟨rfl,?_,?_⟩
 ·rw [seal_cells]; exact hown2
 ·exact (hb1.alloc hb1.size _).grown hgrow2 (by have:=hb1.size; simp; omega) (by intro k hk; simp at hk; omega)
end Go.Proofs.Ytgaofjiidedcbad.leaf
