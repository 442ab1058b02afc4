import Derived.Test.YtgaofjiidedcbacGreatM19
import Derived.Test.YtgaofjiidedcbacGreatProg
import Derived.Test.YtgaofjiidedcbacGreatRows
import Derived.Deep.Slices
import Derived.OpenShut
import Derived.SizedLaws
import Derived.WalkKit
import Derived.ProofKit
import Derived.JoinedCond
import Derived.Below
set_option linter.unusedVariables false
set_option linter.unusedSimpArgs false
namespace Go.Proofs.YtgaofjiidedcbacGreat.mth
def step (s : Int) (x : UInt8) : Int:=(s * 139 + (x.toNat : Int) + 1) % 65521
def zue (s : Int) (l : List UInt8) : Int:=l.foldl step s
def sumL (l : List UInt8) : Int:=zue 7 l
def hiB (s : Int) : UInt8:=UInt8.ofNat (s / 256).toNat
def loB (s : Int) : UInt8:=UInt8.ofNat (s % 256).toNat
def sealL (l : List UInt8) : List UInt8:=l ++ [hiB (sumL l),loB (sumL l)]
def okL (l : List UInt8) : Bool:=decide (2 ≤ l.length) && (sealL (l.take (l.length - 2)) == l)
def openL (l : List UInt8) : List UInt8:=if okL l = true then l.take (l.length - 2) else []
theorem zzj (s : Int) (x : UInt8) : 0 ≤ step s x ∧ step s x < 65521:=by
 unfold step; omega
theorem z6p (l : List UInt8) : ∀ s,0 ≤ s ∧ s < 65521 → 0 ≤ zue s l ∧ zue s l < 65521:=by
 induction l with
 | nil => intro s h; exact h
 | cons x l ih => intro s _; exact ih _ (zzj s x)
theorem zjd (l : List UInt8) : 0 ≤ sumL l ∧ sumL l < 65521:=z6p l 7 (by omega)
theorem zzn (l : List UInt8) (x : UInt8) : sumL (l ++ [x]) = step (sumL l) x:=by simp [sumL,zue]
theorem zwc (l : List UInt8) : (sealL l).length = l.length + 2:=by simp [sealL]
theorem zbz {s t : Int} {x : UInt8} (hs : 0 ≤ s ∧ s < 65521) (ht : 0 ≤ t ∧ t < 65521) (h : step s x = step t x) : s = t:=by
 unfold step at h; omega
theorem zlu {s : Int} {x y : UInt8} (h : step s x = step s y) : x = y:=by
 have hx:=x.toNat_lt
 have hy:=y.toNat_lt
 unfold step at h
 apply UInt8.toNat_inj.1
 omega
theorem zgo (l : List UInt8) : ∀ {s t : Int},0 ≤ s ∧ s < 65521 → 0 ≤ t ∧ t < 65521 → zue s l = zue t l → s = t:=by
 induction l with
 | nil => intro s t _ _ h; exact h
 | cons x l ih =>
  intro s t hs ht h
  exact zbz hs ht (ih (zzj s x) (zzj t x) h)
theorem z4r (a b : List UInt8) (x y : UInt8) (h : sumL (a ++ x :: b) = sumL (a ++ y :: b)) : x = y:=by
 have h' : zue (step (sumL a) x) b = zue (step (sumL a) y) b:=by
  simpa [sumL,zue] using h
 exact zlu (zgo b (zzj _ _) (zzj _ _) h')
theorem zse {s : Int} (h : 0 ≤ s ∧ s < 65521) : ((hiB s).toNat : Int) = s / 256:=by
 unfold hiB
 rw [UInt8.toNat_ofNat']
 omega
theorem zae {s : Int} (h : 0 ≤ s ∧ s < 65521) : ((loB s).toNat : Int) = s % 256:=by
 unfold loB
 rw [UInt8.toNat_ofNat']
 omega
theorem z6x {s t : Int} (hs : 0 ≤ s ∧ s < 65521) (ht : 0 ≤ t ∧ t < 65521) (h1 : hiB s = hiB t) (h2 : loB s = loB t) : s = t:=by
 have a:=zse hs
 have b:=zse ht
 have c:=zae hs
 have d:=zae ht
 rw [h1] at a
 rw [h2] at c
 omega
theorem zhr (xs : List UInt8) (h2 : 2 ≤ xs.length) : xs = xs.take (xs.length - 2) ++ [xs[xs.length - 2],xs[xs.length - 1]]:=by
 apply List.ext_getElem
 ·simp; omega
 ·intro i h3 h4
  rw [List.getElem_append]
  split
  ·simp
  ·rename_i h5
   simp at h5
   have : i = xs.length - 2 ∨ i = xs.length - 1:=by omega
   rcases this with rfl | rfl
   ·simp [List.length_take,Nat.min_eq_left (Nat.sub_le _ _)]
   ·have e : xs.length - 1 - (xs.length - 2) = 1:=by omega
    simp [e]
theorem ok_iff (xs : List UInt8) (h2 : 2 ≤ xs.length) : okL xs = true ↔ ((xs.getD (xs.length - 2) 0).toNat : Int) * 256 + ((xs.getD (xs.length - 1) 0).toNat : Int) = sumL (xs.take (xs.length - 2)):=by
 have hb:=zjd (xs.take (xs.length - 2))
 obtain ⟨l,x,y,rfl⟩ : ∃ l x y,xs = l ++ [x,y]:=by
  exact ⟨_,_,_,zhr xs h2⟩
 have e1 : (l ++ [x,y]).length - 2 = l.length:=by simp
 have e2 : (l ++ [x,y]).length - 1 = l.length + 1:=by simp
 rw [e1] at hb
 rw [e1,e2]
 simp only [List.take_left'] at hb ⊢
 have g1 : (l ++ [x,y]).getD l.length 0 = x:=by simp [List.getD]
 have g2 : (l ++ [x,y]).getD (l.length + 1) 0 = y:=by simp [List.getD]
 rw [g1,g2]
 have hx:=x.toNat_lt
 have hy:=y.toNat_lt
 have a:=zse hb
 have c:=zae hb
 have hk : okL (l ++ [x,y]) = true ↔ (hiB (sumL l) = x ∧ loB (sumL l) = y):=by
  simp [okL,sealL]
 rw [hk]
 constructor
 ·rintro ⟨rfl,rfl⟩
  omega
 ·intro h
  exact ⟨UInt8.toNat_inj.1 (by omega),UInt8.toNat_inj.1 (by omega)⟩
theorem znx (l : List UInt8) : okL (sealL l) = true:=by
 simp [okL,sealL]
theorem zcn (l : List UInt8) : openL (sealL l) = l:=by
 simp [openL,znx,zwc]
 simp [sealL]
theorem turned (l : List UInt8) (k : Nat) (c : UInt8) (hk : k < (sealL l).length) (hne : (sealL l)[k] ≠ c) : okL ((sealL l).set k c) = false:=by
 rw [Bool.eq_false_iff]
 intro h
 rw [zwc] at hk
 have hl : ((sealL l).set k c).length = l.length + 2:=by simp [zwc]
 simp only [okL,Bool.and_eq_true,decide_eq_true_eq,beq_iff_eq] at h
 obtain ⟨-,h⟩:=h
 rw [hl] at h
 have e0 : l.length + 2 - 2 = l.length:=by omega
 rw [e0] at h
 by_cases hk2 : k < l.length
 ·have e1 : ((sealL l).set k c).take l.length = l.set k c:=by
   rw [List.take_set]; simp [sealL]
  have e2 : (sealL l).set k c = l.set k c ++ [hiB (sumL l),loB (sumL l)]:=by
   unfold sealL; rw [List.set_append_left _ _ hk2]
  rw [e1,e2] at h
  unfold sealL at h
  have h':=List.append_cancel_left h
  simp at h'
  have hs:=z6x (zjd _) (zjd _) h'.1 h'.2
  have hx : (sealL l)[k] = l[k]:=by simp [sealL,List.getElem_append_left hk2]
  rw [hx] at hne
  have d1 : l = l.take k ++ l[k] :: l.drop (k + 1):=by simp
  have d2 : l.set k c = l.take k ++ c :: l.drop (k + 1):=by rw [List.set_eq_take_append_cons_drop]; simp [hk2]
  rw [d2] at hs
  have hs' : sumL (l.take k ++ c :: l.drop (k + 1)) = sumL (l.take k ++ l[k] :: l.drop (k + 1)):=by rw [hs,← d1]
  exact hne (z4r _ _ _ _ hs').symm
 ·have e1 : ((sealL l).set k c).take l.length = l:=by
   rw [List.take_set]
   rw [List.set_eq_of_length_le (by simp [sealL]; omega)]
   simp [sealL]
  rw [e1] at h
  have : ((sealL l).set k c)[k]'(by rw [hl]; exact hk) = (sealL l)[k]:=by
   simp only [← h]
  simp at this
  exact hne this.symm
structure Ch where
 kind : Int
 number : Int
 stream : Int
 place : Int
 data : List UInt8
 early : List Int
def sameC (a b : Ch) : Bool:=a.kind == b.kind && (a.number == b.number && (a.stream == b.stream && (a.place == b.place && (a.data == b.data && a.early == b.early))))
theorem zsw (a b : Ch) : sameC a b = true ↔ a = b:=by
 cases a; cases b
 simp [sameC]
def zi (s : Int) (d : List UInt8) : Int:=if s < 0 ∨ 2 < s then 3 else if 6 < d.length then 4 else 0
def risesL : Int → List Int → Bool
 | _,[] => true
 | low,n :: r => decide (low < n) && (decide (n ≤ 39) && risesL n r)
def wrongL (c : Ch) : Int :=
 if c.kind ≠ 1 ∧ c.kind ≠ 2 then 1
 else if c.number < 0 ∨ 40 < c.number then 3
 else if c.kind = 1 then
  if 39 < c.number ∨ c.place < 0 ∨ c.number < c.place then 3
  else if c.early.length ≠ 0 then 5
  else zi c.stream c.data
 else if c.stream ≠ 0 ∨ c.place ≠ 0 then 3
 else if c.data.length ≠ 0 ∨ 3 < c.early.length then 5
 else if risesL c.number c.early = true then 0 else 3
theorem zik (number stream place : Int) (data : List UInt8) (early : List Int) : wrongL ⟨1,number,stream,place,data,early⟩ =
  if number < 0 ∨ 40 < number then 3 else if 39 < number ∨ place < 0 ∨ number < place then 3 else if early.length ≠ 0 then 5 else zi stream data:=by
 simp [wrongL]
theorem zak (number stream place : Int) (data : List UInt8) (early : List Int) : wrongL ⟨2,number,stream,place,data,early⟩ =
  if number < 0 ∨ 40 < number then 3 else if stream ≠ 0 ∨ place ≠ 0 then 3 else if data.length ≠ 0 ∨ 3 < early.length then 5 else if risesL number early = true then 0 else 3:=by
 simp [wrongL]
theorem zef (c : Ch) (h1 : c.kind ≠ 1) (h2 : c.kind ≠ 2) : wrongL c = 1:=by
 simp [wrongL,h1,h2]
theorem zsk (low : Int) (l : List Int) (k : Nat) (x : Int) (h : l[k]? = some x) : risesL low (l.drop k) = (decide (low < x) && (decide (x ≤ 39) && risesL x (l.drop (k + 1)))):=by
 obtain ⟨hk,hx⟩:=List.getElem?_eq_some_iff.1 h
 rw [List.drop_eq_getElem_cons hk,hx]
 rfl
def b8 (n : Int) : UInt8:=UInt8.ofNat n.toNat
theorem zft {n : Int} (h : 0 ≤ n ∧ n ≤ 255) : ((b8 n).toNat : Int) = n:=by
 unfold b8; rw [UInt8.toNat_ofNat']; omega
def bodyL (c : Ch) : List UInt8:=if c.kind = 1 then [b8 c.kind,b8 c.number,b8 c.stream,b8 c.place] ++ c.data else [b8 c.kind,b8 c.number] ++ c.early.map b8
theorem z1f : ∀ (l : List Int) (low : Int),risesL low l = true → ∀ x ∈ l,low < x ∧ x ≤ 39
 | [],_,_,x,hx => by simp at hx
 | n :: r,low,h,x,hx => by
  simp only [risesL,Bool.and_eq_true,decide_eq_true_eq] at h
  rcases List.mem_cons.1 hx with rfl | hx
  ·exact ⟨h.1,h.2.1⟩
  ·have:=z1f r n h.2.2 x hx
   omega
theorem znc (c : Ch) (h : wrongL c = 0) :
  (c.kind = 1 ∧ (0 ≤ c.number ∧ c.number ≤ 39) ∧ (0 ≤ c.place ∧ c.place ≤ c.number) ∧ (0 ≤ c.stream ∧ c.stream ≤ 2) ∧ c.data.length ≤ 6 ∧ c.early = []) ∨
  (c.kind = 2 ∧ (0 ≤ c.number ∧ c.number ≤ 40) ∧ c.stream = 0 ∧ c.place = 0 ∧ c.data = [] ∧ c.early.length ≤ 3 ∧ risesL c.number c.early = true):=by
 obtain ⟨kind,number,stream,place,data,early⟩:=c
 by_cases h1 : kind = 1
 ·subst h1
  rw [zik] at h
  left
  unfold zi at h
  repeat' split at h
  all_goals first | omega | skip
  rename_i a1 a2 a3 a4 a5
  exact ⟨rfl,by simp only; omega,by simp only; omega,by simp only; omega,by simp only; omega,List.eq_nil_of_length_eq_zero (by simpa using a3)⟩
 ·by_cases h2 : kind = 2
  ·subst h2
   rw [zak] at h
   right
   repeat' split at h
   all_goals first | omega | skip
   rename_i a1 a2 a3 a4
   exact ⟨rfl,by simp only; omega,by simp only; omega,by simp only; omega,List.eq_nil_of_length_eq_zero (by simp only; omega),by simp only; omega,a4⟩
  ·rw [zef _ h1 h2] at h
   omega
def zeroC : Ch:=⟨0,0,0,0,[],[]⟩
def i8 (x : UInt8) : Int:=(x.toNat : Int)
def zcb (x : List UInt8) : Ch :=
 if i8 (x.getD 0 0) = 1 then ⟨1,i8 (x.getD 1 0),i8 (x.getD 2 0),i8 (x.getD 3 0),x.drop 4,[]⟩
 else ⟨i8 (x.getD 0 0),i8 (x.getD 1 0),0,0,[],(x.drop 2).map i8⟩
def shortL (x : List UInt8) : Bool:=decide (x.length < 2) || (decide (i8 (x.getD 0 0) = 1) && decide (x.length < 4))
def readE (b : List UInt8) : Int:=if okL b = false then 7 else if shortL (openL b) = true then 8 else wrongL (zcb (openL b))
def readC (b : List UInt8) : Ch:=if readE b = 0 then zcb (openL b) else zeroC
theorem i8_b8 {n : Int} (h : 0 ≤ n ∧ n ≤ 255) : i8 (b8 n) = n:=zft h
theorem zwu (l : List Int) (h : ∀ x ∈ l,0 ≤ x ∧ x ≤ 255) : (l.map b8).map i8 = l:=by
 rw [List.map_map]
 exact (List.map_congr_left (fun x hx => i8_b8 (h x hx))).trans (List.map_id' l)
theorem zkp (c : Ch) (h : wrongL c = 0) : zcb (bodyL c) = c ∧ shortL (bodyL c) = false:=by
 have hcs:=znc c h
 obtain ⟨kind,number,stream,place,data,early⟩:=c
 simp only at hcs
 rcases hcs with ⟨rfl,h2,h3,h4,h5,rfl⟩ | ⟨rfl,h2,rfl,rfl,rfl,h6,h7⟩
 ·have e : bodyL ⟨1,number,stream,place,data,[]⟩ = [b8 1,b8 number,b8 stream,b8 place] ++ data:=by simp [bodyL]
  rw [e]
  have e1 : i8 (b8 1) = 1:=i8_b8 (by omega)
  constructor
  ·unfold zcb
   simp only [List.cons_append,List.getD_cons_zero,List.getD_cons_succ,e1,if_true,List.drop_succ_cons,List.drop_zero,List.nil_append]
   rw [i8_b8 (by omega),i8_b8 (by omega),i8_b8 (by omega)]
  ·simp [shortL]
 ·have e : bodyL ⟨2,number,0,0,[],early⟩ = [b8 2,b8 number] ++ early.map b8:=by simp [bodyL]
  rw [e]
  have e1 : i8 (b8 2) = 2:=i8_b8 (by omega)
  constructor
  ·unfold zcb
   simp only [List.cons_append,List.getD_cons_zero,List.getD_cons_succ,e1,List.drop_succ_cons,List.drop_zero,List.nil_append]
   rw [if_neg (by omega),i8_b8 (by omega),zwu early (fun x hx => by have:=z1f _ _ h7 x hx; omega)]
  ·simp [shortL,e1]
theorem zub (c : Ch) (h : wrongL c = 0) : readE (sealL (bodyL c)) = 0 ∧ readC (sealL (bodyL c)) = c:=by
 obtain ⟨h1,h2⟩:=zkp c h
 have e : readE (sealL (bodyL c)) = 0:=by
  simp [readE,znx,zcn,h2,h1,h]
 exact ⟨e,by simp [readC,e,zcn,h1]⟩
theorem spoilt (c : Ch) (k : Nat) (y : UInt8) (hk : k < (sealL (bodyL c)).length) (hne : (sealL (bodyL c))[k] ≠ y) : readE ((sealL (bodyL c)).set k y) = 7:=by
 have:=turned (bodyL c) k y hk hne
 simp [readE,this]
theorem zhl (c : Ch) (h : wrongL c = 0) : 2 ≤ (bodyL c).length ∧ (bodyL c).length ≤ 10:=by
 have hcs:=znc c h
 obtain ⟨kind,number,stream,place,data,early⟩:=c
 simp only at hcs
 rcases hcs with ⟨rfl,h2,h3,h4,h5,rfl⟩ | ⟨rfl,h2,rfl,rfl,rfl,h6,h7⟩
 ·simp [bodyL]; omega
 ·simp [bodyL]; omega
structure Ms where
 stream : Int
 data : List UInt8
def sameM (a b : Ms) : Bool:=a.stream == b.stream && a.data == b.data
theorem zgu (a b : Ms) : sameM a b = true ↔ a = b:=by
 cases a; cases b; simp [sameM]
end Go.Proofs.YtgaofjiidedcbacGreat.mth
namespace Go.Proofs.YtgaofjiidedcbacGreat.ab
open Go mth
abbrev vI (n : Int) : D:=vD (.int .i64 n)
def encMs (m : Ms) : List D:=[vI m.stream,sD 1 (m.data.map encB)]
def encCh (c : Ch) : List D:=[vI c.kind,vI c.number,vI c.stream,vI c.place,sD 1 (c.data.map encB),sD 1 (c.early.map vI)]
def encMl (l : List Ms) : List D:=l.map fun m => aD (encMs m)
def encCl (l : List Ch) : List D:=l.map fun c => aD (encCh c)
theorem len_ml (l : List Ms) : (encMl l).length = l.length:=by simp [encMl]
theorem at_ml {l : List Ms} {i : Nat} {m : Ms} (h : l[i]? = some m) : (encMl l)[i]? = some (aD [vI m.stream,sD 1 (m.data.map encB)]):=by
 simp [encMl,h,encMs]
theorem follows : Tryz.prog.follows .mixedOrders = true:=by kernel_rfl
open Go.ChangeShapes Go.WideShapes Go.RowKit
theorem z7h {H : Type} (l : List (DataW H)) : l.length ≤ Rows.uptoBulkAll l:=by
 induction l with
 | nil => simp [Rows.uptoBulkAll]
 | cons x r ih =>
  have : 1 ≤ Rows.uptoBulk x:=by
   cases x with
   | lit l => cases l <;> simp [Rows.uptoBulk]
   | nil => simp [Rows.uptoBulk]
   | ptr d => simp [Rows.uptoBulk]
   | slice elems spare => simp [Rows.uptoBulk]
   | agg parts => simp [Rows.uptoBulk]
   | iface t d => simp [Rows.uptoBulk]
   | map entries => simp [Rows.uptoBulk]
   | held h => simp [Rows.uptoBulk]
  simp only [Rows.uptoBulkAll,List.length_cons]; omega
theorem zhq {H : Type} (elems spare : List (DataW H)) : elems.length + spare.length + 1 ≤ Rows.uptoBulk (.slice elems spare):=by
 have h1:=z7h elems
 have h2:=z7h spare
 simp only [Rows.uptoBulk]
 omega
def AllOf (W : World) : Still:=fun b _ => b < W.heap.size
theorem inR_wf {z : Int} (h : (Lit.int .i64 z).wf = true) : inR .i64 z = true:=by
 refine inR_of ?_
 simpa [Lit.wf,IntKind.min,IntKind.max,IntKind.signed,IntKind.bits] using h
theorem u8_wf {z : Int} (h : (Lit.int .u8 z).wf = true) : (((UInt8.ofNat z.toNat).toNat : Nat) : Int) = z:=by
 have hx : 0 ≤ z ∧ z ≤ 255:=by simpa [Lit.wf,IntKind.min,IntKind.max,IntKind.signed,IntKind.bits] using h
 rw [UInt8.toNat_ofNat']
 omega
section
variable {H : Type} {enc : TypeId × Value → H} {W : World}
theorem z4o (a : Addr) (i j k : Nat) : (a.add (i * k)).add j = a.add (i * k + j):=by
 unfold Addr.add
 by_cases hi : i * k = 0 <;> by_cases hj : j = 0 <;> simp [hi,hj,Nat.add_assoc]
theorem zxp {d : DataW H} : ∀ {l : List (DataW H)},d ∈ l → Rows.uptoBulk d ≤ Rows.uptoBulkAll l
 | [],h => by simp at h
 | x :: l,h => by
  simp only [Rows.uptoBulkAll]
  rcases List.mem_cons.1 h with rfl | h
  ·omega
  ·have:=zxp h; omega
theorem zou {α : Type} {encA : α → D} {Pa : α → Prop} {size : Nat} {n : Nat} {t e : TypeId} {v : Value} {y : DataW H × List MemPlace}
  (ht : Tryz.prog.underlying t = some (.slice e)) (hc : Tryz.prog.cellsOf e = size) (hsz : 0 < size)
  (hopen : ∀ n cs' y',DataW.trod enc Tryz.prog W 0 (fun _ => true) true n e cs' = some y' → cs'.length = size → Rows.uptoBulk y'.1 ≤ Rows.uptoBulk y.1 → ∃ x : α,Row (AllOf W) W (cellsD (encA x)) cs' ∧ Pa x)
  (hf : DataW.trod enc Tryz.prog W 0 (fun _ => true) true n t [v] = some y) :
  ∃ xs : List α,CRep (AllOf W) W (sD size (xs.map encA)) v ∧ xs.length ≤ Rows.uptoBulk y.1 ∧ ∀ x ∈ xs,Pa x:=by
 rcases Go.Deep.open_slice ht hf with ⟨hcs,_⟩ | ⟨a,len,cap,m,n',Dt,Pl,hcs,_,hl,hm,hmm,hx,hall⟩
 ·simp at hcs
  subst hcs
  exact ⟨[],zkf size,by simp,fun x hx => by simp at hx⟩
 ·simp at hcs
  subst hcs
  simp only [if_true] at hmm
  rw [hc] at hall
  have each : ∀ i,i < len → ∃ (x : α) (cs' : List Value),cs'.length = size ∧ Row (AllOf W) W (cellsD (encA x)) cs' ∧ Pa x ∧ ∀ j,j < size → W.cell? (a.add (i * size + j)) = cs'[j]?:=by
   intro i hi
   obtain ⟨cs',h1,h2⟩:=hall i (by omega)
   obtain ⟨_,hlen,hcell⟩:=World.cells?_some h1
   obtain ⟨x,hr,hp⟩:=hopen n' cs' _ h2 hlen (by
    rw [hx]
    have h3:=zxp (List.mem_map_of_mem (f:=Dt) (List.mem_range.2 hi))
    simp only [Rows.uptoBulk]
    omega)
   exact ⟨x,cs',hlen,hr,hp,fun j hj => by rw [← z4o]; exact hcell j hj⟩
  have hbk : len ≤ Rows.uptoBulk y.1:=by
   rw [hx]
   have:=zhq (H:=H) ((List.range len).map Dt) ((List.range (m - len)).map fun j => Dt (len + j))
   simp only [List.length_map,List.length_range] at this
   simp only
   omega
  by_cases h0 : len = 0
  ·subst h0
   exact ⟨[],CRep.s (es:=[]) ⟨fun _ _ => undef,by simp,(fun e => by cases e),hm,(fun e he => by simp at he),(fun h => absurd rfl h),(fun i j e l he => by simp at he)⟩,by simp,fun x hx => by simp at hx⟩
  ·obtain ⟨x0,cs0,q0,r0,_,c0⟩:=each 0 (by omega)
   have hspot : ∃ b off,a = ⟨b,off,none⟩:=by
    obtain ⟨b,off,spot⟩:=a
    have h1:=c0 0 hsz
    rw [List.getElem?_eq_getElem (by omega)] at h1
    have : spot = none:=by simpa [Addr.add] using World.cell?_spot h1
    exact ⟨b,off,by rw [this]⟩
   obtain ⟨b,off,rfl⟩:=hspot
   have hch : ∀ i,∃ p : α × List Value,i < len → p.2.length = size ∧ Row (AllOf W) W (cellsD (encA p.1)) p.2 ∧ Pa p.1 ∧ ∀ j,j < size → W.cell? ⟨b,off + (i * size + j),none⟩ = p.2[j]?:=by
    intro i
    by_cases hi : i < len
    ·obtain ⟨x,cs',h1,h2,h3,h4⟩:=each i hi
     exact ⟨(x,cs'),fun _ => ⟨h1,h2,h3,fun j hj => by have:=h4 j hj; rwa [Addr.add_lit] at this⟩⟩
    ·exact ⟨(x0,cs0),fun h => absurd h hi⟩
   obtain ⟨f,hf'⟩:=Classical.skolem.1 hch
   have hlen : ((List.range len).map fun i => (f i).1).length = len:=by simp
   refine ⟨(List.range len).map fun i => (f i).1,?_,by rw [hlen]; exact hbk,fun x hx' => ?_⟩
   ·have hat : ∀ i e,(((List.range len).map fun i => (f i).1).map encA)[i]? = some e → i < len ∧ e = encA (f i).1:=by
     intro i e he
     rw [List.getElem?_map,List.getElem?_map] at he
     cases hr : (List.range len)[i]? with
     | none => simp [hr] at he
     | some k =>
      obtain ⟨h1,h2⟩:=List.getElem?_eq_some_iff.1 hr
      simp at h1 h2
      subst h2
      simp [hr] at he
      exact ⟨h1,he.symm⟩
    have hl2 : (((List.range len).map fun i => (f i).1).map encA).length = len:=by simp
    have:=CRep.s (I:=AllOf W) (w:=W) (z:=size) (es:=((List.range len).map fun i => (f i).1).map encA) (a:=some ⟨b,off,none⟩) (cap:=cap)
     ⟨fun i j => ((f i).2[j]?).getD undef,by rw [hl2]; exact hl,(fun e => by cases e),hm,fun e he => ?_,fun _ => ⟨b,off,rfl,fun i j hi hj => ?_⟩,fun i j e l he hl' => ?_⟩
    ·rw [hl2] at this; exact this
    ·obtain ⟨i,hi,rfl⟩:=List.mem_iff_getElem.1 he
     obtain ⟨h1,h2⟩:=hat i _ (List.getElem?_eq_getElem hi)
     rw [h2,(hf' i h1).2.1.1,(hf' i h1).1]
    ·rw [hl2] at hi
     obtain ⟨g1,g2,g3,g4⟩:=hf' i hi
     have hjl : j < (f i).2.length:=by omega
     have h5:=g4 j hj
     rw [List.getElem?_eq_getElem hjl] at h5
     rw [Nat.add_assoc]
     refine ⟨?_,?_⟩
     ·show _ = some (((f i).2[j]?).getD undef)
      rw [h5,List.getElem?_eq_getElem hjl]; rfl
     ·exact World.block_lt_of_cell? W _ h5
    ·obtain ⟨h1,rfl⟩:=hat i e he
     obtain ⟨u,q1,q2⟩:=(hf' i h1).2.1.at hl'
     show CRep _ _ l (((f i).2[j]?).getD undef)
     rw [q1]; exact q2
   ·obtain ⟨i,hi,rfl⟩:=List.mem_map.1 hx'
    exact (hf' i (List.mem_range.1 hi)).2.2.1
theorem zit {α : Type} {encA : α → D} {Pa : α → Prop} {size : Nat} {n : Nat} {t e : TypeId} {v : Value} {y : DataW H × List MemPlace}
  (ht : Tryz.prog.underlying t = some (.slice e)) (hc : Tryz.prog.cellsOf e = size) (hsz : 0 < size)
  (hopen : ∀ n cs' y,DataW.trod enc Tryz.prog W 0 (fun _ => true) true n e cs' = some y → cs'.length = size → ∃ x : α,Row (AllOf W) W (cellsD (encA x)) cs' ∧ Pa x)
  (hf : DataW.trod enc Tryz.prog W 0 (fun _ => true) true n t [v] = some y) :
  ∃ xs : List α,CRep (AllOf W) W (sD size (xs.map encA)) v ∧ xs.length ≤ Rows.uptoBulk y.1 ∧ ∀ x ∈ xs,Pa x :=
 zou ht hc hsz (fun n cs' y h hl _ => hopen n cs' y h hl) hf
theorem cells3 : Tryz.prog.cellsOf 3 = 1:=by kernel_rfl
theorem cells5 : Tryz.prog.cellsOf 5 = 1:=by kernel_rfl
theorem zp2 {c : D} {v : Value} (h : CRep (AllOf W) W c v) : Row (AllOf W) W [c] [v]:=Row.single h
theorem zuz {n : Nat} {v : Value} {y : DataW H × List MemPlace} (hf : DataW.trod enc Tryz.prog W 0 (fun _ => true) true n 41 [v] = some y) :
  ∃ xs : List UInt8,CRep (AllOf W) W (sD 1 (xs.map encB)) v ∧ xs.length ≤ Rows.uptoBulk y.1:=by
 obtain ⟨xs,h1,h2,_⟩:=zit (α:=UInt8) (encA:=encB) (Pa:=fun _ => True) (size:=1) Tryz.underlying41 cells5 (by omega) (fun n cs' y h hl => by
  obtain ⟨v,rfl⟩ : ∃ v,cs' = [v]:=by
   match cs',hl with
   | [v],_ => exact ⟨v,rfl⟩
  obtain ⟨a0,h0,_,k0⟩:=DataW.trod_int Tryz.underlying5 h
  simp at h0
  subst h0
  refine ⟨UInt8.ofNat a0.toNat,?_,trivial⟩
  have : encB (UInt8.ofNat a0.toNat) = vD (.int .u8 a0):=by simp only [encB,u8_wf k0]
  rw [this]
  exact zp2 (CRep.v rfl)) hf
 exact ⟨xs,h1,h2⟩
theorem zj2 : Tryz.prog.cellsOf 41 = 1:=by kernel_rfl
theorem zw0 : Tryz.prog.cellsOf 43 = 2:=by kernel_rfl
theorem in_msg {n : Nat} {cs : List Value} {y : DataW H × List MemPlace} (hf : DataW.trod enc Tryz.prog W 0 (fun _ => true) true n 43 cs = some y) (hl : cs.length = 2) :
  ∃ x : Ms,Row (AllOf W) W (encMs x) cs ∧ inR .i64 x.stream = true ∧ x.data.length ≤ Rows.uptoBulk y.1:=by
 obtain ⟨v0,v1,rfl⟩ : ∃ v0 v1,cs = [v0,v1]:=by
  match cs,hl with
  | [v0,v1],_ => exact ⟨v0,v1,rfl⟩
 obtain ⟨ys,n',_,hx,hl',hlen,hfs⟩:=DataW.trod_struct Tryz.underlying43 hf
 have f0:=hfs 0 _ rfl
 have f1:=hfs 1 _ rfl
 obtain ⟨y0,y1,rfl⟩ : ∃ y0 y1,ys = [y0,y1]:=by
  match ys,hlen with
  | [y0,y1],_ => exact ⟨y0,y1,rfl⟩
 simp [cells3,zj2] at f0 f1
 obtain ⟨a0,h0,_,k0⟩:=DataW.trod_int Tryz.underlying3 f0
 simp at h0
 subst h0
 obtain ⟨xs,hB,hb1⟩:=zuz f1
 refine ⟨⟨a0,xs⟩,(Row.single (CRep.v rfl)).app (Row.single hB),inR_wf k0,?_⟩
 rw [hx]
 simp only [Rows.uptoBulk,Rows.uptoBulkAll,List.map_cons,List.map_nil]
 omega
end
theorem own : ownKnob Tryz.prog.godebug = none:=by kernel_rfl
theorem zts : laidOutB Tryz.prog = true:=by kernel_rfl
theorem Told.yes {f : FuncId} {args : List D} (h : Told Tryz.prog f args [vB true]) {W : World} {vs : List Value} (hv : Vals (AllOf W) W args vs) : Calls Tryz.prog f vs.toArray W fun e W' => e = .returned (.bool true) ∧ Below W.heap.size W W':=by
 refine (h W (AllOf W) vs hv (fun b j hb => hb)).mono fun e W' ⟨v,he,hr,hb⟩ => ⟨?_,hb⟩
 have hv : CVRep _ W' (vD (.bool true)) v:=hr
 rw [he,(hv.leaf (fun cs e => by cases e)).invV.1]
theorem CRep.len {I : Still} {w : World} {z : Nat} {es : List D} {u : Value} (h : CRep I w (sD z es) u) : es.length ≤ 9223372036854775807:=by
 obtain ⟨a,cap,_,U,h1,_,h3,_⟩:=h.invS
 have e : maxLen = 9223372036854775807:=by decide
 omega
section
variable {H : Type} {enc : TypeId × Value → H} {W : World} {base : Nat}
end
end Go.Proofs.YtgaofjiidedcbacGreat.ab
