import Derived.Test.YtgaofjiidedcbadM49
import Derived.Test.YtgaofjiidedcbadM48
import Derived.Test.YtgaofjiidedcbadM47
import Derived.Test.YtgaofjiidedcbadM22
import Derived.Test.YtgaofjiidedcbadM33
set_option linter.unusedVariables false
set_option linter.unusedSimpArgs false
namespace Go.Proofs.Ytgaofjiidedcbad.leaf
set_option maxRecDepth 10000
open Go.RowKit
open mth
def FreshS (base : Nat) (a : Option Addr) (c : Nat) : Prop:=(∀ p,a = some p → base ≤ p.block ∧ p.spot = none) ∧ c ≤ maxLen
end Go.Proofs.Ytgaofjiidedcbad.leaf
namespace Go.Proofs.Ytgaofjiidedcbad.ab
open Go Go.RowKit
open mth
section
variable {I : Still} {w : World}
theorem rep_bs {base : Nat} {xs : List UInt8} {a : Option Addr} {n cap : Nat} (h : leaf.Bs w (.slice a n cap) xs) (hf : leaf.FreshS base a cap) (hI : ∀ b j,base ≤ b → b < w.heap.size → I b j) : CRep I w (sD 1 (xs.map encB)) (.slice a n cap):=by
 obtain ⟨a',cap',he,h1,h2,h3⟩:=h
 cases he
 have hr:=CRep.s (I:=I) (w:=w) (z:=1) (es:=xs.map encB) (a:=a) (cap:=cap) ⟨fun i _ => leaf.B (xs.getD i 0),(by rw [List.length_map]; omega),h2,hf.2,fun e he => ?_,fun hne => ?_,fun i j e l he hl => ?_⟩
 ·rw [List.length_map] at hr; exact hr
 ·obtain ⟨x,_,rfl⟩:=List.mem_map.1 he; rfl
 ·have h0 : 0 < xs.length:=by
   cases xs with
   | nil => exact absurd rfl hne
   | cons x r => simp
  obtain ⟨x,rfl,hc0⟩:=h3 0 h0
  obtain ⟨hp,hsp⟩:=hf.1 x rfl
  obtain ⟨b,off,sp⟩:=x
  simp only at hp hsp
  subst hsp
  refine ⟨b,off,rfl,fun i j hi hj => ?_⟩
  rw [List.length_map] at hi
  obtain rfl : j = 0:=by omega
  obtain ⟨x,hx,hc⟩:=h3 i hi
  cases hx
  rw [add_lit] at hc
  have hlt : b < w.heap.size:=by
   unfold World.cell? at hc
   simp only at hc
   cases hg : w.heap[b]? with
   | none => rw [hg] at hc; simp at hc
   | some o => exact (Array.getElem?_eq_some_iff.1 hg).1
  refine ⟨?_,hI _ _ hp hlt⟩
  rw [show off + i * 1 + 0 = off + i by omega,hc]; rfl
 ·rw [List.getElem?_map] at he
  obtain ⟨x,hx',rfl⟩:=Option.map_eq_some_iff.1 he
  have : j = 0 ∧ l = encB x:=by
   cases j with
   | zero => simp [cellsD,encB] at hl; exact ⟨rfl,hl.symm⟩
   | succ k => simp [cellsD,encB] at hl
  obtain ⟨rfl,rfl⟩:=this
  show CRep I w (encB x) (leaf.B (xs.getD i 0))
  rw [show leaf.B (xs.getD i 0) = .int .u8 (x.toNat : Int) by simp [List.getD,hx',leaf.B]]
  exact CRep.v rfl
end
theorem rep_ms {I : Still} {w : World} {base : Nat} {m : Ms} {v : Value} (h : leaf.Mv w v m) (hf : ∃ k dv,v = .agg #[k,dv] ∧ leaf.FreshD base dv) (hI : ∀ b j,base ≤ b → b < w.heap.size → I b j) : CVRep I w (aD (encMs m)) v:=by
 obtain ⟨dv,rfl,hB,_,_⟩:=h
 obtain ⟨k,dv',e,hf⟩:=hf
 simp only [Value.agg.injEq,Array.mk.injEq,List.cons.injEq,and_true] at e
 obtain ⟨_,rfl⟩:=e
 have hB':=hB
 obtain ⟨a,cap,rfl,_⟩:=hB'
 exact .inr ⟨_,[_,_],rfl,rfl,(Row.single (CRep.v rfl)).app (Row.single (rep_bs hB (hf a _ cap rfl) hI))⟩
theorem landT_parse : CTParse 22:=by
 intro S xs hxs hs h0 w I vs hv hlt
 obtain ⟨hl,hr⟩:=hv
 match vs,hl with
 | [v],_ =>
  have hv0:=((hr 0 _ v rfl rfl).leaf (fun cs e => by cases e)).invV.1
  subst hv0
  have hf : formL xs = true:=by
   cases e : formL xs with
   | true => rfl
   | false => unfold parseE at h0; rw [e] at h0; cases h0
  have e : parseE xs = wrongMsgL (rawM xs).stream (rawM xs).data:=by unfold parseE; rw [if_pos hf]
  have em : parseM xs = rawM xs:=by unfold parseM; rw [if_pos h0]
  rw [em]
  refine (leaf.landParse_good S xs w hxs (by omega) hf _ rfl (by rw [← e,h0]; rfl)).mono fun e w' ⟨v',he,hM,hfr,hb⟩ => ⟨_,he,?_,hb⟩
  exact ⟨[v',.int .i64 0],rfl,Vals.cons (rep_ms hM hfr (fun b j h1 h2 => .inr ⟨h1,h2⟩)) (Vals.cons (.inl (CRep.v rfl)) Vals.nil)⟩
end Go.Proofs.Ytgaofjiidedcbad.ab
