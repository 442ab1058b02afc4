import Derived.Test.YtgaofjiidedcbadM20
import Derived.Test.YtgaofjiidedcbadM24
import Derived.Test.YtgaofjiidedcbadM26
import Derived.Test.YtgaofjiidedcbadM19
import Derived.Test.YtgaofjiidedcbadProg
set_option linter.unusedVariables false
set_option linter.unusedSimpArgs false
namespace Go.Proofs.Ytgaofjiidedcbad.ab
open Go Go.RowKit
open mth
def encPk (p : List (List UInt8)) : List D:=p.map fun b => sD 1 (b.map encB)
def encLn (l : Ln) : List D :=
 [sD 2 (encMl l.s.queue),vI l.s.next,vI l.s.p0,vI l.s.p1,vI l.s.p2,sD 6 (encCl l.s.flight),vI l.s.turn,vI l.r.next,sD 1 (l.r.early.map vI),vI l.r.p0,vI l.r.p1,vI l.r.p2,sD 6 (encCl l.r.hold),sD 2 (encMl l.r.told),vB l.r.owes,sD 1 (encPk l.there),sD 1 (encPk l.back)]
theorem len_pk (p : List (List UInt8)) : (encPk p).length = p.length:=by simp [encPk]
theorem at_pk {p : List (List UInt8)} {i : Nat} {b : List UInt8} (h : p[i]? = some b) : (encPk p)[i]? = some (sD 1 (b.map encB)):=by simp [encPk,h]
theorem sayR_wrong {r : Rv} (h : GoodR r) (hs : (sayR r).2.2 = true) : wrongL (sayR r).2.1 = 0:=by
 unfold sayR at hs ⊢
 split at hs
 ·rename_i ho; rw [if_pos ho]; exact sayR_right h
 ·cases hs
set_option maxRecDepth 100000
set_option maxRecDepth 100000
end Go.Proofs.Ytgaofjiidedcbad.ab
namespace Go.Proofs.Ytgaofjiidedcbad.mth
structure Sp where
 kind : Int
 tenant : Int
 n : Int
 m : Int
 back : Bool
 msg : Ms
structure Wd where
 lanes : List Ln
 ticks : Int
def zeroL : Ln:=⟨zeroS,zeroR,[],[]⟩
def whoW (w : Wd) (s : Sp) : Int:=if s.kind = 1 then w.ticks.tmod w.lanes.length else s.tenant
def ticksW (w : Wd) (s : Sp) : Int:=if s.kind = 1 then w.ticks + 1 else w.ticks
def laneW (l : Ln) (s : Sp) : Ln × Int :=
 if s.kind = 1 then (speakL l,0) else if s.kind = 2 then ({ l with s:=putS l.s s.msg },putE l.s s.msg) else packetL l s.kind s.n s.m s.back
def doW (w : Wd) (s : Sp) : Wd × Int :=
 if s.kind < 1 ∨ 6 < s.kind then (w,1) else
 if whoW w s < 0 ∨ (w.lanes.length : Int) ≤ whoW w s then (⟨w.lanes,ticksW w s⟩,6) else
 (⟨w.lanes.set (whoW w s).toNat (laneW (w.lanes.getD (whoW w s).toNat zeroL) s).1,ticksW w s⟩,(laneW (w.lanes.getD (whoW w s).toNat zeroL) s).2)
structure GoodW (w : Wd) : Prop where
 n : 1 ≤ w.lanes.length ∧ w.lanes.length ≤ 3
 t : 0 ≤ w.ticks
 l : ∀ l ∈ w.lanes,GoodL l
theorem good_zeroL : GoodL zeroL:=⟨good_zero,good_zeroR,by simp [zeroL],by simp [zeroL],by simp [zeroL],by simp [zeroL]⟩
theorem GoodL.lane {l : Ln} (h : GoodL l) (s : Sp) : GoodL (laneW l s).1:=by
 unfold laneW
 split
 ·exact h.speak
 split
 ·exact ⟨h.s.put _,h.r,h.t,h.b,h.tn,h.bn⟩
 ·exact h.packet _ _ _ _
theorem GoodW.step {w : Wd} (h : GoodW w) (s : Sp) : GoodW (doW w s).1:=by
 have ht : 0 ≤ ticksW w s:=by have:=h.t; unfold ticksW; split <;> omega
 unfold doW
 split
 ·exact h
 split
 ·exact ⟨h.n,ht,h.l⟩
 ·refine ⟨by simpa using h.n,ht,fun l hl => ?_⟩
  rcases List.mem_or_eq_of_mem_set hl with q | q
  ·exact h.l l q
  ·rw [q]
   refine GoodL.lane ?_ s
   rw [List.getD_eq_getElem?_getD]
   cases hq : w.lanes[(whoW w s).toNat]? with
   | none => exact good_zeroL
   | some y => exact h.l y (List.mem_of_getElem? hq)
def newW (n : Nat) : Wd:=⟨List.replicate n zeroL,0⟩
def runW (w : Wd) (l : List Sp) : Wd × List Int:=l.foldl (fun x s => ((doW x.1 s).1,x.2 ++ [(doW x.1 s).2])) (w,[])
theorem runW_nil (w : Wd) : runW w [] = (w,[]):=rfl
theorem runW_snoc (w : Wd) (l : List Sp) (s : Sp) : runW w (l ++ [s]) = ((doW (runW w l).1 s).1,(runW w l).2 ++ [(doW (runW w l).1 s).2]):=by simp [runW,List.foldl_append]
theorem good_new {n : Nat} (h : 1 ≤ n ∧ n ≤ 3) : GoodW (newW n):=⟨by simpa [newW] using h,by simp [newW],fun l hl => by
 rw [(List.mem_replicate.1 hl).2]; exact good_zeroL⟩
theorem ticks_do (w : Wd) (s : Sp) : (doW w s).1.ticks ≤ w.ticks + 1:=by
 have h : ticksW w s ≤ w.ticks + 1:=by unfold ticksW; split <;> omega
 unfold doW
 split
 ·simp only; omega
 ·split
  ·exact h
  ·exact h
theorem good_run {w : Wd} (h : GoodW w) (l : List Sp) : ∀ k,GoodW (runW w (l.take k)).1 ∧ (runW w (l.take k)).1.ticks ≤ w.ticks + k ∧ (runW w (l.take k)).2.length ≤ k:=by
 intro k
 induction k with
 | zero => simp [runW_nil,h]
 | succ k ih =>
  by_cases hk : k < l.length
  ·rw [List.take_add_one,List.getElem?_eq_getElem hk,Option.toList_some,runW_snoc]
   refine ⟨ih.1.step _,?_,?_⟩
   ·have:=ticks_do (runW w (l.take k)).1 l[k]
    simp only
    omega
   ·simp only [List.length_append,List.length_singleton]
    omega
  ·rw [List.take_of_length_le (by omega)] at ih ⊢
   exact ⟨ih.1,by omega,by omega⟩
end Go.Proofs.Ytgaofjiidedcbad.mth
namespace Go.Proofs.Ytgaofjiidedcbad.ab
set_option maxRecDepth 100000
open Go Go.RowKit
open mth
def encLl (l : List Ln) : List D:=l.map fun x => aD (encLn x)
def encWd (w : Wd) : List D:=[sD 17 (encLl w.lanes),vI w.ticks]
def encSp (s : Sp) : List D:=[vI s.kind,vI s.tenant,vI s.n,vI s.m,vB s.back,vI s.msg.stream,sD 1 (s.msg.data.map encB)]
theorem len_ll (l : List Ln) : (encLl l).length = l.length:=by simp [encLl]
theorem at_ll {l : List Ln} {i : Nat} {x : Ln} (h : l[i]? = some x) : (encLl l)[i]? = some (aD (encLn x)):=by simp [encLl,h]
theorem set_ll (l : List Ln) (j : Nat) (x : Ln) : encLl (l.set j x) = (encLl l).set j (aD (encLn x)):=by simp [encLl,List.map_set]
def encSl (l : List Sp) : List D:=l.map fun s => aD (encSp s)
theorem len_sl (l : List Sp) : (encSl l).length = l.length:=by simp [encSl]
theorem at_sl {l : List Sp} {i : Nat} {s : Sp} (h : l[i]? = some s) : (encSl l)[i]? = some (aD [vI s.kind,vI s.tenant,vI s.n,vI s.m,vB s.back,vI s.msg.stream,sD 1 (s.msg.data.map encB)]):=by simp [encSl,h,encSp]
open Go.ChangeShapes Go.WideShapes
theorem cellsSp : Try.prog.cellsOf 30 = 7:=by kernel_rfl
theorem cells4 : Try.prog.cellsOf 4 = 1:=by kernel_rfl
section
variable {H : Type} {enc : TypeId × Value → H} {W : World}
set_option maxRecDepth 100000 in
theorem in_step {n : Nat} {cs : List Value} {y : DataW H × List MemPlace} (hf : DataW.trod enc Try.prog W 0 (fun _ => true) true n 30 cs = some y) (hl7 : cs.length = 7) :
  ∃ s : Sp,Row (AllOf W) W (encSp s) cs ∧ s.msg.data.length ≤ Rows.uptoBulk y.1:=by
 obtain ⟨v0,v1,v2,v3,v4,v5,v6,rfl⟩ : ∃ v0 v1 v2 v3 v4 v5 v6,cs = [v0,v1,v2,v3,v4,v5,v6]:=by
  match cs,hl7 with
  | [v0,v1,v2,v3,v4,v5,v6],_ => exact ⟨v0,v1,v2,v3,v4,v5,v6,rfl⟩
 obtain ⟨ys,n',_,hx,hl,hlen,hfs⟩:=DataW.trod_struct Try.underlying30 hf
 have f0:=hfs 0 _ rfl
 have f1:=hfs 1 _ rfl
 have f2:=hfs 2 _ rfl
 have f3:=hfs 3 _ rfl
 have f4:=hfs 4 _ rfl
 have f5:=hfs 5 _ rfl
 obtain ⟨y0,y1,y2,y3,y4,y5,rfl⟩ : ∃ y0 y1 y2 y3 y4 y5,ys = [y0,y1,y2,y3,y4,y5]:=by
  match ys,hlen with
  | [y0,y1,y2,y3,y4,y5],_ => exact ⟨y0,y1,y2,y3,y4,y5,rfl⟩
 simp [cells3,cells4,cellsMs] at f0 f1 f2 f3 f4 f5
 obtain ⟨a0,h0,_,k0⟩:=DataW.trod_int Try.underlying3 f0
 obtain ⟨a1,h1,_,k1⟩:=DataW.trod_int Try.underlying3 f1
 obtain ⟨a2,h2,_,k2⟩:=DataW.trod_int Try.underlying3 f2
 obtain ⟨a3,h3,_,k3⟩:=DataW.trod_int Try.underlying3 f3
 obtain ⟨a4,h4,_⟩:=DataW.trod_bool Try.underlying4 f4
 simp at h0 h1 h2 h3 h4
 subst h0 h1 h2 h3 h4
 obtain ⟨m,hm,_,hb⟩:=in_msg f5 rfl
 exact ⟨⟨a0,a1,a2,a3,a4,m⟩,(Row.single (CRep.v rfl)).app ((Row.single (CRep.v rfl)).app ((Row.single (CRep.v rfl)).app ((Row.single (CRep.v rfl)).app ((Row.single (CRep.v rfl)).app hm)))),by
  rw [hx]
  simp only [Rows.uptoBulk,Rows.uptoBulkAll,List.map_cons,List.map_nil]
  omega⟩
theorem in_stepsB {n : Nat} {v : Value} {y : DataW H × List MemPlace} (hf : DataW.trod enc Try.prog W 0 (fun _ => true) true n 22 [v] = some y) :
  ∃ cs : List Sp,CRep (AllOf W) W (sD 7 (encSl cs)) v ∧ cs.length ≤ Rows.uptoBulk y.1 ∧ ∀ c ∈ cs,c.msg.data.length ≤ Rows.uptoBulk y.1 :=
 in_sliceB (α:=Sp) (encA:=fun c => aD (encSp c)) (Pa:=fun c => c.msg.data.length ≤ Rows.uptoBulk y.1) (size:=7) Try.underlying22 cellsSp (by omega) (fun n cs' y' h hl hb => by
  obtain ⟨s,h1,h2⟩:=in_step h hl
  exact ⟨s,h1,by omega⟩) hf
end
end Go.Proofs.Ytgaofjiidedcbad.ab
