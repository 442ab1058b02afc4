import Derived.Test.YtgfljlmonaifgabReadF
import Derived.Test.YtgfljlmonaifgabM20
import Derived.Test.YtgfljlmonaifgabProg
set_option linter.unusedVariables false
set_option linter.unusedSimpArgs false
namespace Go.Proofs.Ytgfljlmonaifgab.ab
open Go Go.RowKit
open mth
section
variable {I : Still} {w : World}
theorem add_lit (b o i : Nat) : (⟨b,o,none⟩ : Addr).add i = ⟨b,o + i,none⟩:=by
 unfold Addr.add
 split
 ·rename_i h; subst h; rfl
 ·rfl
theorem bs_of {xs : List UInt8} {v : Value} (h : CRep I w (sD 1 (xs.map encB)) v) : leaf.Bs w v xs ∧ xs.length ≤ 9223372036854775807:=by
 obtain ⟨a,cap,rfl,U,h1,h2,h3,h4,h5,h6⟩:=h.invS
 rw [List.length_map] at h1
 refine ⟨⟨a,cap,by rw [List.length_map],h1,h2,fun i hi => ?_⟩,by unfold maxLen at h3; omega⟩
 obtain ⟨b,off,rfl,hc⟩:=h5 (by intro e; rw [List.map_eq_nil_iff] at e; rw [e] at hi; simp at hi)
 refine ⟨_,rfl,?_⟩
 have q:=(hc i 0 (by rw [List.length_map]; exact hi) (by omega)).1
 have r:=h6 i 0 (encB xs[i]) (encB xs[i]) (by simp [hi]) rfl
 rw [(r.invV).1] at q
 rw [add_lit,show off + i = off + i * 1 + 0 by omega,q]
 simp [List.getD,hi]
theorem is_of {xs : List Int} {v : Value} (h : CRep I w (sD 1 (xs.map vI)) v) (hx : ∀ n ∈ xs,leaf.I64 n) : leaf.Is w v xs:=by
 obtain ⟨a,cap,rfl,U,h1,h2,h3,h4,h5,h6⟩:=h.invS
 rw [List.length_map] at h1
 refine ⟨a,cap,by rw [List.length_map],h1,h2,fun i hi => ?_,hx,h3⟩
 obtain ⟨b,off,rfl,hc⟩:=h5 (by intro e; rw [List.map_eq_nil_iff] at e; rw [e] at hi; simp at hi)
 refine ⟨_,rfl,?_⟩
 have q:=(hc i 0 (by rw [List.length_map]; exact hi) (by omega)).1
 have r:=h6 i 0 (vI xs[i]) (vI xs[i]) (by simp [hi]) rfl
 rw [(r.invV).1] at q
 rw [add_lit,show off + i = off + i * 1 + 0 by omega,q]
 simp [List.getD,hi]
theorem chv_of {c : Ch} {v : Value} (h : CVRep I w (aD (encCh c)) v) (h0 : leaf.I64 c.kind ∧ leaf.I64 c.number ∧ leaf.I64 c.stream ∧ leaf.I64 c.place) (he : ∀ n ∈ c.early,leaf.I64 n) : leaf.Cv w v c:=by
 obtain ⟨us,rfl,hl,hr⟩:=h.agg
 have hus : us.length = 6:=by rw [← hl]; rfl
 match us,hus with
 | [u0,u1,u2,u3,u4,u5],_ =>
  have e0:=(hr 0 _ u0 rfl rfl).invV.1
  have e1:=(hr 1 _ u1 rfl rfl).invV.1
  have e2:=(hr 2 _ u2 rfl rfl).invV.1
  have e3:=(hr 3 _ u3 rfl rfl).invV.1
  have e4:=bs_of (hr 4 _ u4 rfl rfl)
  have e5:=is_of (hr 5 _ u5 rfl rfl) he
  subst e0 e1 e2 e3
  exact ⟨u4,u5,rfl,e4.1,e5,by unfold maxLen; omega,h0⟩
theorem right64 {c : Ch} (h : wrongL c = 0) : (leaf.I64 c.kind ∧ leaf.I64 c.number ∧ leaf.I64 c.stream ∧ leaf.I64 c.place) ∧ ∀ n ∈ c.early,leaf.I64 n:=by
 rcases right_cases c h with ⟨h1,h2,h3,h4,h5,h6⟩ | ⟨h1,h2,h3,h4,h5,h6,h7⟩
 ·refine ⟨⟨?_,?_,?_,?_⟩,by rw [h6]; simp⟩ <;> (unfold leaf.I64; omega)
 ·refine ⟨⟨?_,?_,?_,?_⟩,fun n hn => ?_⟩
  ·unfold leaf.I64; omega
  ·unfold leaf.I64; omega
  ·unfold leaf.I64; omega
  ·unfold leaf.I64; omega
  ·have:=rises_mem _ _ h7 n hn
   unfold leaf.I64; omega
theorem rep_owned {base n : Nat} {xs : List UInt8} {v : Value} (h : w.ownsRow base 5 1 v n (xs.map leaf.B)) (hI : ∀ b j,base ≤ b → b < w.heap.size → I b j) : CRep I w (sD 1 (xs.map encB)) v:=by
 obtain ⟨h1,h2⟩:=h
 rw [List.length_map,Nat.mul_one] at h1
 rcases h2 with ⟨rfl,rfl⟩ | ⟨g,cap,cur,rfl,hb,hg,hn,hm,hc,ht⟩
 ·rw [List.length_eq_zero_iff.1 h1]
  exact CRep.s (z:=1) (es:=[]) (a:=none) (cap:=0) ⟨fun _ _ => undef,by simp,fun _ => rfl,by unfold maxLen; omega,by simp,fun e => absurd rfl e,fun i j e l he => by simp at he⟩
 ·have hlt : g < w.heap.size:=(Array.getElem?_eq_some_iff.1 hg).1
  have hx : ∀ i (hi : i < xs.length),w.cell? ⟨g,i,none⟩ = some (leaf.B xs[i]):=fun i hi => by
   have : (cur.toList.take (n * 1))[i]? = some (leaf.B xs[i]):=by rw [ht]; simp [hi]
   rw [List.getElem?_take] at this
   split at this
   ·rw [cell_of_row w g i cur 5 (0,0) hg]; simpa using this
   ·cases this
  have hr:=CRep.s (I:=I) (w:=w) (z:=1) (es:=xs.map encB) (a:=some ⟨g,0,none⟩) (cap:=cap) ⟨fun i _ => leaf.B (xs.getD i 0),(by rw [List.length_map]; omega),(fun e => by cases e),hm,fun e he => ?_,fun _ => ⟨g,0,rfl,fun i j hi hj => ?_⟩,fun i j e l he hl => ?_⟩
  ·rw [List.length_map,h1] at hr; exact hr
  ·obtain ⟨x,_,rfl⟩:=List.mem_map.1 he; rfl
  ·rw [List.length_map] at hi
   obtain rfl : j = 0:=by omega
   refine ⟨?_,hI _ _ hb hlt⟩
   rw [show 0 + i * 1 + 0 = i by omega,hx i hi]
   simp [List.getD,hi]
  ·rw [List.getElem?_map] at he
   obtain ⟨x,hx',rfl⟩:=Option.map_eq_some_iff.1 he
   have : j = 0 ∧ l = encB x:=by
    cases j with
    | zero => simp [cellsD,encB] at hl; exact ⟨rfl,hl.symm⟩
    | succ k => simp [cellsD,encB] at hl
   obtain ⟨rfl,rfl⟩:=this
   show CRep I w (encB x) (leaf.B (xs.getD i 0))
   rw [show leaf.B (xs.getD i 0) = .int .u8 (x.toNat : Int) by simp [List.getD,hx',leaf.B]]
   exact CRep.v rfl
theorem rep_bs {base : Nat} {xs : List UInt8} {a : Option Addr} {n cap : Nat} (h : leaf.Bs w (.slice a n cap) xs) (hf : leaf.FreshS base a cap) (hI : ∀ b j,base ≤ b → b < w.heap.size → I b j) : CRep I w (sD 1 (xs.map encB)) (.slice a n cap):=by
 obtain ⟨a',cap',he,h1,h2,h3⟩:=h
 cases he
 have hr:=CRep.s (I:=I) (w:=w) (z:=1) (es:=xs.map encB) (a:=a) (cap:=cap) ⟨fun i _ => leaf.B (xs.getD i 0),(by rw [List.length_map]; omega),h2,hf.2,fun e he => ?_,fun hne => ?_,fun i j e l he hl => ?_⟩
 ·rw [List.length_map] at hr; exact hr
 ·obtain ⟨x,_,rfl⟩:=List.mem_map.1 he; rfl
 ·have h0 : 0 < xs.length:=by
   cases xs with
   | nil => exact absurd rfl hne
   | cons x r => simp
  obtain ⟨x,rfl,hc0⟩:=h3 0 h0
  obtain ⟨hp,hsp⟩:=hf.1 x rfl
  obtain ⟨b,off,sp⟩:=x
  simp only at hp hsp
  subst hsp
  refine ⟨b,off,rfl,fun i j hi hj => ?_⟩
  rw [List.length_map] at hi
  obtain rfl : j = 0:=by omega
  obtain ⟨x,hx,hc⟩:=h3 i hi
  cases hx
  rw [add_lit] at hc
  have hlt : b < w.heap.size:=by
   unfold World.cell? at hc
   simp only at hc
   cases hg : w.heap[b]? with
   | none => rw [hg] at hc; simp at hc
   | some o => exact (Array.getElem?_eq_some_iff.1 hg).1
  refine ⟨?_,hI _ _ hp hlt⟩
  rw [show off + i * 1 + 0 = off + i by omega,hc]; rfl
 ·rw [List.getElem?_map] at he
  obtain ⟨x,hx',rfl⟩:=Option.map_eq_some_iff.1 he
  have : j = 0 ∧ l = encB x:=by
   cases j with
   | zero => simp [cellsD,encB] at hl; exact ⟨rfl,hl.symm⟩
   | succ k => simp [cellsD,encB] at hl
  obtain ⟨rfl,rfl⟩:=this
  show CRep I w (encB x) (leaf.B (xs.getD i 0))
  rw [show leaf.B (xs.getD i 0) = .int .u8 (x.toNat : Int) by simp [List.getD,hx',leaf.B]]
  exact CRep.v rfl
theorem rep_is {base : Nat} {xs : List Int} {a : Option Addr} {n cap : Nat} (h : leaf.Is w (.slice a n cap) xs) (hf : leaf.FreshS base a cap) (hI : ∀ b j,base ≤ b → b < w.heap.size → I b j) : CRep I w (sD 1 (xs.map vI)) (.slice a n cap):=by
 obtain ⟨a',cap',he,h1,h2,h3,_,_⟩:=h
 cases he
 have hr:=CRep.s (I:=I) (w:=w) (z:=1) (es:=xs.map vI) (a:=a) (cap:=cap) ⟨fun i _ => .int .i64 (xs.getD i 0),(by rw [List.length_map]; omega),h2,hf.2,fun e he => ?_,fun hne => ?_,fun i j e l he hl => ?_⟩
 ·rw [List.length_map] at hr; exact hr
 ·obtain ⟨x,_,rfl⟩:=List.mem_map.1 he; rfl
 ·have h0 : 0 < xs.length:=by
   cases xs with
   | nil => exact absurd rfl hne
   | cons x r => simp
  obtain ⟨x,rfl,hc0⟩:=h3 0 h0
  obtain ⟨hp,hsp⟩:=hf.1 x rfl
  obtain ⟨b,off,sp⟩:=x
  simp only at hp hsp
  subst hsp
  refine ⟨b,off,rfl,fun i j hi hj => ?_⟩
  rw [List.length_map] at hi
  obtain rfl : j = 0:=by omega
  obtain ⟨x,hx,hc⟩:=h3 i hi
  cases hx
  rw [add_lit] at hc
  have hlt : b < w.heap.size:=by
   unfold World.cell? at hc
   simp only at hc
   cases hg : w.heap[b]? with
   | none => rw [hg] at hc; simp at hc
   | some o => exact (Array.getElem?_eq_some_iff.1 hg).1
  refine ⟨?_,hI _ _ hp hlt⟩
  rw [show off + i * 1 + 0 = off + i by omega,hc]
 ·rw [List.getElem?_map] at he
  obtain ⟨x,hx',rfl⟩:=Option.map_eq_some_iff.1 he
  have : j = 0 ∧ l = vI x:=by
   cases j with
   | zero => simp [cellsD] at hl; exact ⟨rfl,hl.symm⟩
   | succ k => simp [cellsD] at hl
  obtain ⟨rfl,rfl⟩:=this
  show CRep I w (vI x) (.int .i64 (xs.getD i 0))
  rw [show xs.getD i 0 = x by simp [List.getD,hx']]
  exact CRep.v rfl
theorem rep_ch {base : Nat} {c : Ch} {v : Value} (h : leaf.Cv w v c) (hf : leaf.Fresh base v) (hI : ∀ b j,base ≤ b → b < w.heap.size → I b j) : CVRep I w (aD (encCh c)) v:=by
 obtain ⟨dv,ev,rfl,h1,h2,_⟩:=h
 obtain ⟨k0,k1,k2,k3,a1,n1,c1,a2,n2,c2,he,hf1,hf2⟩:=hf
 simp only [Value.agg.injEq,Array.mk.injEq,List.cons.injEq] at he
 obtain ⟨_,_,_,_,rfl,rfl,_⟩:=he
 exact .inr ⟨_,[_,_,_,_,_,_],rfl,rfl,(Row.single (CRep.v rfl)).app ((Row.single (CRep.v rfl)).app ((Row.single (CRep.v rfl)).app ((Row.single (CRep.v rfl)).app ((Row.single (rep_bs h1 hf1 hI)).app (Row.single (rep_is h2 hf2 hI))))))⟩
end
theorem refBytes_told (c : Ch) (hc : wrongL c = 0) : Told Try.prog 79 [aD (encCh c)] [sD 1 ((sealL (bodyL c)).map encB)]:=by
 intro w I vs hv hlt
 obtain ⟨hl,hr⟩:=hv
 match vs,hl with
 | [v],_ =>
  have h64:=right64 hc
  refine (leaf.refBytes_any v c w (chv_of (hr 0 _ v rfl rfl) h64.1 h64.2) hc).mono fun e w' ⟨v',he,ho,hb⟩ => ⟨v',he,?_,hb⟩
  exact .inl (rep_owned ho (fun b j h1 h2 => .inr ⟨h1,h2⟩))
theorem bytes_told (c : Ch) (hc : wrongL c = 0) : Told Try.prog 77 [aD (encCh c)] [sD 1 ((sealL (bodyL c)).map encB)]:=by
 intro w I vs hv hlt
 obtain ⟨hl,hr⟩:=hv
 match vs,hl with
 | [v],_ =>
  have h64:=right64 hc
  refine (leaf.landBytes_any v c w (chv_of (hr 0 _ v rfl rfl) h64.1 h64.2) hc).mono fun e w' ⟨v',he,ho,hb⟩ => ⟨v',he,?_,hb⟩
  exact .inl (rep_owned ho (fun b j h1 h2 => .inr ⟨h1,h2⟩))
theorem refRead_told (xs : List UInt8) (hx : xs.length ≤ 1048600) : Told Try.prog 87 [sD 1 (xs.map encB)] [aD (encCh (readC xs)),vI (readE xs)]:=by
 intro w I vs hv hlt
 obtain ⟨hl,hr⟩:=hv
 match vs,hl with
 | [v],_ =>
  have hB:=(bs_of ((hr 0 _ v rfl rfl).leaf (fun cs e => by cases e))).1
  have hB':=hB
  obtain ⟨a,cap,rfl,_⟩:=hB'
  refine (leaf.refRead_anyF a cap xs w hB (by omega) hx).mono fun e w' ⟨v',he,⟨hc,hf⟩,hb⟩ => ⟨_,he,?_,hb⟩
  exact ⟨[v',.int .i64 (readE xs)],rfl,Vals.cons (rep_ch hc hf (fun b j h1 h2 => .inr ⟨h1,h2⟩)) (Vals.cons (.inl (CRep.v rfl)) Vals.nil)⟩
theorem read_told (xs : List UInt8) (hx : xs.length ≤ 1048600) : Told Try.prog 82 [sD 1 (xs.map encB)] [aD (encCh (readC xs)),vI (readE xs)]:=by
 intro w I vs hv hlt
 obtain ⟨hl,hr⟩:=hv
 match vs,hl with
 | [v],_ =>
  have hB:=(bs_of ((hr 0 _ v rfl rfl).leaf (fun cs e => by cases e))).1
  have hB':=hB
  obtain ⟨a,cap,rfl,_⟩:=hB'
  refine (leaf.landRead_anyF a cap xs w hB (by omega) hx).mono fun e w' ⟨v',he,⟨hc,hf⟩,hb⟩ => ⟨_,he,?_,hb⟩
  exact ⟨[v',.int .i64 (readE xs)],rfl,Vals.cons (rep_ch hc hf (fun b j h1 h2 => .inr ⟨h1,h2⟩)) (Vals.cons (.inl (CRep.v rfl)) Vals.nil)⟩
set_option maxRecDepth 100000
end Go.Proofs.Ytgfljlmonaifgab.ab
