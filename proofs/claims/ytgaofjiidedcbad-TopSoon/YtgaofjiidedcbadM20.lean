import Derived.Test.YtgaofjiidedcbadM19
import Derived.Test.YtgaofjiidedcbadProg
import Derived.Test.YtgaofjiidedcbadRows
import Derived.Deep.Slices
import Derived.OpenShut
import Derived.SizedLaws
set_option linter.unusedVariables false
set_option linter.unusedSimpArgs false
namespace Go.Proofs.Ytgaofjiidedcbad.mth
def step (s : Int) (x : UInt8) : Int:=(s * 139 + (x.toNat : Int) + 1) % 65521
def sumFrom (s : Int) (l : List UInt8) : Int:=l.foldl step s
def sumL (l : List UInt8) : Int:=sumFrom 7 l
def hiB (s : Int) : UInt8:=UInt8.ofNat (s / 256).toNat
def loB (s : Int) : UInt8:=UInt8.ofNat (s % 256).toNat
def sealL (l : List UInt8) : List UInt8:=l ++ [hiB (sumL l),loB (sumL l)]
def okL (l : List UInt8) : Bool:=decide (2 ≤ l.length) && (sealL (l.take (l.length - 2)) == l)
def openL (l : List UInt8) : List UInt8:=if okL l = true then l.take (l.length - 2) else []
theorem step_bd (s : Int) (x : UInt8) : 0 ≤ step s x ∧ step s x < 65521:=by
 unfold step; omega
theorem sumFrom_bd (l : List UInt8) : ∀ s,0 ≤ s ∧ s < 65521 → 0 ≤ sumFrom s l ∧ sumFrom s l < 65521:=by
 induction l with
 | nil => intro s h; exact h
 | cons x l ih => intro s _; exact ih _ (step_bd s x)
theorem sumL_bd (l : List UInt8) : 0 ≤ sumL l ∧ sumL l < 65521:=sumFrom_bd l 7 (by omega)
theorem sumL_snoc (l : List UInt8) (x : UInt8) : sumL (l ++ [x]) = step (sumL l) x:=by simp [sumL,sumFrom]
theorem length_sealL (l : List UInt8) : (sealL l).length = l.length + 2:=by simp [sealL]
theorem step_inj {s t : Int} {x : UInt8} (hs : 0 ≤ s ∧ s < 65521) (ht : 0 ≤ t ∧ t < 65521) (h : step s x = step t x) : s = t:=by
 unfold step at h; omega
theorem step_byte {s : Int} {x y : UInt8} (h : step s x = step s y) : x = y:=by
 have hx:=x.toNat_lt
 have hy:=y.toNat_lt
 unfold step at h
 apply UInt8.toNat_inj.1
 omega
theorem sumFrom_inj (l : List UInt8) : ∀ {s t : Int},0 ≤ s ∧ s < 65521 → 0 ≤ t ∧ t < 65521 → sumFrom s l = sumFrom t l → s = t:=by
 induction l with
 | nil => intro s t _ _ h; exact h
 | cons x l ih =>
  intro s t hs ht h
  exact step_inj hs ht (ih (step_bd s x) (step_bd t x) h)
theorem sum_turned (a b : List UInt8) (x y : UInt8) (h : sumL (a ++ x :: b) = sumL (a ++ y :: b)) : x = y:=by
 have h' : sumFrom (step (sumL a) x) b = sumFrom (step (sumL a) y) b:=by
  simpa [sumL,sumFrom] using h
 exact step_byte (sumFrom_inj b (step_bd _ _) (step_bd _ _) h')
theorem hiB_toNat {s : Int} (h : 0 ≤ s ∧ s < 65521) : ((hiB s).toNat : Int) = s / 256:=by
 unfold hiB
 rw [UInt8.toNat_ofNat']
 omega
theorem loB_toNat {s : Int} (h : 0 ≤ s ∧ s < 65521) : ((loB s).toNat : Int) = s % 256:=by
 unfold loB
 rw [UInt8.toNat_ofNat']
 omega
theorem bytes_of {s t : Int} (hs : 0 ≤ s ∧ s < 65521) (ht : 0 ≤ t ∧ t < 65521) (h1 : hiB s = hiB t) (h2 : loB s = loB t) : s = t:=by
 have a:=hiB_toNat hs
 have b:=hiB_toNat ht
 have c:=loB_toNat hs
 have d:=loB_toNat ht
 rw [h1] at a
 rw [h2] at c
 omega
theorem last_two (xs : List UInt8) (h2 : 2 ≤ xs.length) : xs = xs.take (xs.length - 2) ++ [xs[xs.length - 2],xs[xs.length - 1]]:=by
 apply List.ext_getElem
 ·simp; omega
 ·intro i h3 h4
  rw [List.getElem_append]
  split
  ·simp
  ·rename_i h5
   simp at h5
   have : i = xs.length - 2 ∨ i = xs.length - 1:=by omega
   rcases this with rfl | rfl
   ·simp [List.length_take,Nat.min_eq_left (Nat.sub_le _ _)]
   ·have e : xs.length - 1 - (xs.length - 2) = 1:=by omega
    simp [e]
theorem ok_iff (xs : List UInt8) (h2 : 2 ≤ xs.length) : okL xs = true ↔ ((xs.getD (xs.length - 2) 0).toNat : Int) * 256 + ((xs.getD (xs.length - 1) 0).toNat : Int) = sumL (xs.take (xs.length - 2)):=by
 have hb:=sumL_bd (xs.take (xs.length - 2))
 obtain ⟨l,x,y,rfl⟩ : ∃ l x y,xs = l ++ [x,y]:=by
  exact ⟨_,_,_,last_two xs h2⟩
 have e1 : (l ++ [x,y]).length - 2 = l.length:=by simp
 have e2 : (l ++ [x,y]).length - 1 = l.length + 1:=by simp
 rw [e1] at hb
 rw [e1,e2]
 simp only [List.take_left'] at hb ⊢
 have g1 : (l ++ [x,y]).getD l.length 0 = x:=by simp [List.getD]
 have g2 : (l ++ [x,y]).getD (l.length + 1) 0 = y:=by simp [List.getD]
 rw [g1,g2]
 have hx:=x.toNat_lt
 have hy:=y.toNat_lt
 have a:=hiB_toNat hb
 have c:=loB_toNat hb
 have hk : okL (l ++ [x,y]) = true ↔ (hiB (sumL l) = x ∧ loB (sumL l) = y):=by
  simp [okL,sealL]
 rw [hk]
 constructor
 ·rintro ⟨rfl,rfl⟩
  omega
 ·intro h
  exact ⟨UInt8.toNat_inj.1 (by omega),UInt8.toNat_inj.1 (by omega)⟩
theorem ok_seal (l : List UInt8) : okL (sealL l) = true:=by
 simp [okL,sealL]
theorem open_seal (l : List UInt8) : openL (sealL l) = l:=by
 simp [openL,ok_seal,length_sealL]
 simp [sealL]
theorem turned (l : List UInt8) (k : Nat) (c : UInt8) (hk : k < (sealL l).length) (hne : (sealL l)[k] ≠ c) : okL ((sealL l).set k c) = false:=by
 rw [Bool.eq_false_iff]
 intro h
 rw [length_sealL] at hk
 have hl : ((sealL l).set k c).length = l.length + 2:=by simp [length_sealL]
 simp only [okL,Bool.and_eq_true,decide_eq_true_eq,beq_iff_eq] at h
 obtain ⟨-,h⟩:=h
 rw [hl] at h
 have e0 : l.length + 2 - 2 = l.length:=by omega
 rw [e0] at h
 by_cases hk2 : k < l.length
 ·have e1 : ((sealL l).set k c).take l.length = l.set k c:=by
   rw [List.take_set]; simp [sealL]
  have e2 : (sealL l).set k c = l.set k c ++ [hiB (sumL l),loB (sumL l)]:=by
   unfold sealL; rw [List.set_append_left _ _ hk2]
  rw [e1,e2] at h
  unfold sealL at h
  have h':=List.append_cancel_left h
  simp at h'
  have hs:=bytes_of (sumL_bd _) (sumL_bd _) h'.1 h'.2
  have hx : (sealL l)[k] = l[k]:=by simp [sealL,List.getElem_append_left hk2]
  rw [hx] at hne
  have d1 : l = l.take k ++ l[k] :: l.drop (k + 1):=by simp
  have d2 : l.set k c = l.take k ++ c :: l.drop (k + 1):=by rw [List.set_eq_take_append_cons_drop]; simp [hk2]
  rw [d2] at hs
  have hs' : sumL (l.take k ++ c :: l.drop (k + 1)) = sumL (l.take k ++ l[k] :: l.drop (k + 1)):=by rw [hs,← d1]
  exact hne (sum_turned _ _ _ _ hs').symm
 ·have e1 : ((sealL l).set k c).take l.length = l:=by
   rw [List.take_set]
   rw [List.set_eq_of_length_le (by simp [sealL]; omega)]
   simp [sealL]
  rw [e1] at h
  have : ((sealL l).set k c)[k]'(by rw [hl]; exact hk) = (sealL l)[k]:=by
   simp only [← h]
  simp at this
  exact hne this.symm
structure Ch where
 kind : Int
 number : Int
 stream : Int
 place : Int
 data : List UInt8
 early : List Int
def wrongMsgL (s : Int) (d : List UInt8) : Int:=if s < 0 ∨ 2 < s then 3 else if 6 < d.length then 4 else 0
def risesL : Int → List Int → Bool
 | _,[] => true
 | low,n :: r => decide (low < n) && (decide (n ≤ 39) && risesL n r)
def wrongL (c : Ch) : Int :=
 if c.kind ≠ 1 ∧ c.kind ≠ 2 then 1
 else if c.number < 0 ∨ 40 < c.number then 3
 else if c.kind = 1 then
  if 39 < c.number ∨ c.place < 0 ∨ c.number < c.place then 3
  else if c.early.length ≠ 0 then 5
  else wrongMsgL c.stream c.data
 else if c.stream ≠ 0 ∨ c.place ≠ 0 then 3
 else if c.data.length ≠ 0 ∨ 3 < c.early.length then 5
 else if risesL c.number c.early = true then 0 else 3
theorem wrongL_one (number stream place : Int) (data : List UInt8) (early : List Int) : wrongL ⟨1,number,stream,place,data,early⟩ =
  if number < 0 ∨ 40 < number then 3 else if 39 < number ∨ place < 0 ∨ number < place then 3 else if early.length ≠ 0 then 5 else wrongMsgL stream data:=by
 simp [wrongL]
theorem wrongL_two (number stream place : Int) (data : List UInt8) (early : List Int) : wrongL ⟨2,number,stream,place,data,early⟩ =
  if number < 0 ∨ 40 < number then 3 else if stream ≠ 0 ∨ place ≠ 0 then 3 else if data.length ≠ 0 ∨ 3 < early.length then 5 else if risesL number early = true then 0 else 3:=by
 simp [wrongL]
theorem wrongL_kind (c : Ch) (h1 : c.kind ≠ 1) (h2 : c.kind ≠ 2) : wrongL c = 1:=by
 simp [wrongL,h1,h2]
theorem rises_drop (low : Int) (l : List Int) (k : Nat) (x : Int) (h : l[k]? = some x) : risesL low (l.drop k) = (decide (low < x) && (decide (x ≤ 39) && risesL x (l.drop (k + 1)))):=by
 obtain ⟨hk,hx⟩:=List.getElem?_eq_some_iff.1 h
 rw [List.drop_eq_getElem_cons hk,hx]
 rfl
def b8 (n : Int) : UInt8:=UInt8.ofNat n.toNat
theorem b8_toNat {n : Int} (h : 0 ≤ n ∧ n ≤ 255) : ((b8 n).toNat : Int) = n:=by
 unfold b8; rw [UInt8.toNat_ofNat']; omega
def bodyL (c : Ch) : List UInt8:=if c.kind = 1 then [b8 c.kind,b8 c.number,b8 c.stream,b8 c.place] ++ c.data else [b8 c.kind,b8 c.number] ++ c.early.map b8
theorem rises_mem : ∀ (l : List Int) (low : Int),risesL low l = true → ∀ x ∈ l,low < x ∧ x ≤ 39
 | [],_,_,x,hx => by simp at hx
 | n :: r,low,h,x,hx => by
  simp only [risesL,Bool.and_eq_true,decide_eq_true_eq] at h
  rcases List.mem_cons.1 hx with rfl | hx
  ·exact ⟨h.1,h.2.1⟩
  ·have:=rises_mem r n h.2.2 x hx
   omega
theorem right_cases (c : Ch) (h : wrongL c = 0) :
  (c.kind = 1 ∧ (0 ≤ c.number ∧ c.number ≤ 39) ∧ (0 ≤ c.place ∧ c.place ≤ c.number) ∧ (0 ≤ c.stream ∧ c.stream ≤ 2) ∧ c.data.length ≤ 6 ∧ c.early = []) ∨
  (c.kind = 2 ∧ (0 ≤ c.number ∧ c.number ≤ 40) ∧ c.stream = 0 ∧ c.place = 0 ∧ c.data = [] ∧ c.early.length ≤ 3 ∧ risesL c.number c.early = true):=by
 obtain ⟨kind,number,stream,place,data,early⟩:=c
 by_cases h1 : kind = 1
 ·subst h1
  rw [wrongL_one] at h
  left
  unfold wrongMsgL at h
  repeat' split at h
  all_goals first | omega | skip
  rename_i a1 a2 a3 a4 a5
  exact ⟨rfl,by simp only; omega,by simp only; omega,by simp only; omega,by simp only; omega,List.eq_nil_of_length_eq_zero (by simpa using a3)⟩
 ·by_cases h2 : kind = 2
  ·subst h2
   rw [wrongL_two] at h
   right
   repeat' split at h
   all_goals first | omega | skip
   rename_i a1 a2 a3 a4
   exact ⟨rfl,by simp only; omega,by simp only; omega,by simp only; omega,List.eq_nil_of_length_eq_zero (by simp only; omega),by simp only; omega,a4⟩
  ·rw [wrongL_kind _ h1 h2] at h
   omega
def zeroC : Ch:=⟨0,0,0,0,[],[]⟩
def i8 (x : UInt8) : Int:=(x.toNat : Int)
def fieldsL (x : List UInt8) : Ch :=
 if i8 (x.getD 0 0) = 1 then ⟨1,i8 (x.getD 1 0),i8 (x.getD 2 0),i8 (x.getD 3 0),x.drop 4,[]⟩
 else ⟨i8 (x.getD 0 0),i8 (x.getD 1 0),0,0,[],(x.drop 2).map i8⟩
def shortL (x : List UInt8) : Bool:=decide (x.length < 2) || (decide (i8 (x.getD 0 0) = 1) && decide (x.length < 4))
def readE (b : List UInt8) : Int:=if okL b = false then 7 else if shortL (openL b) = true then 8 else wrongL (fieldsL (openL b))
def readC (b : List UInt8) : Ch:=if readE b = 0 then fieldsL (openL b) else zeroC
theorem i8_b8 {n : Int} (h : 0 ≤ n ∧ n ≤ 255) : i8 (b8 n) = n:=b8_toNat h
theorem map_i8_b8 (l : List Int) (h : ∀ x ∈ l,0 ≤ x ∧ x ≤ 255) : (l.map b8).map i8 = l:=by
 rw [List.map_map]
 exact (List.map_congr_left (fun x hx => i8_b8 (h x hx))).trans (List.map_id' l)
theorem fields_body (c : Ch) (h : wrongL c = 0) : fieldsL (bodyL c) = c ∧ shortL (bodyL c) = false:=by
 have hcs:=right_cases c h
 obtain ⟨kind,number,stream,place,data,early⟩:=c
 simp only at hcs
 rcases hcs with ⟨rfl,h2,h3,h4,h5,rfl⟩ | ⟨rfl,h2,rfl,rfl,rfl,h6,h7⟩
 ·have e : bodyL ⟨1,number,stream,place,data,[]⟩ = [b8 1,b8 number,b8 stream,b8 place] ++ data:=by simp [bodyL]
  rw [e]
  have e1 : i8 (b8 1) = 1:=i8_b8 (by omega)
  constructor
  ·unfold fieldsL
   simp only [List.cons_append,List.getD_cons_zero,List.getD_cons_succ,e1,if_true,List.drop_succ_cons,List.drop_zero,List.nil_append]
   rw [i8_b8 (by omega),i8_b8 (by omega),i8_b8 (by omega)]
  ·simp [shortL]
 ·have e : bodyL ⟨2,number,0,0,[],early⟩ = [b8 2,b8 number] ++ early.map b8:=by simp [bodyL]
  rw [e]
  have e1 : i8 (b8 2) = 2:=i8_b8 (by omega)
  constructor
  ·unfold fieldsL
   simp only [List.cons_append,List.getD_cons_zero,List.getD_cons_succ,e1,List.drop_succ_cons,List.drop_zero,List.nil_append]
   rw [if_neg (by omega),i8_b8 (by omega),map_i8_b8 early (fun x hx => by have:=rises_mem _ _ h7 x hx; omega)]
  ·simp [shortL,e1]
theorem read_bytes (c : Ch) (h : wrongL c = 0) : readE (sealL (bodyL c)) = 0 ∧ readC (sealL (bodyL c)) = c:=by
 obtain ⟨h1,h2⟩:=fields_body c h
 have e : readE (sealL (bodyL c)) = 0:=by
  simp [readE,ok_seal,open_seal,h2,h1,h]
 exact ⟨e,by simp [readC,e,open_seal,h1]⟩
theorem spoilt (c : Ch) (k : Nat) (y : UInt8) (hk : k < (sealL (bodyL c)).length) (hne : (sealL (bodyL c))[k] ≠ y) : readE ((sealL (bodyL c)).set k y) = 7:=by
 have:=turned (bodyL c) k y hk hne
 simp [readE,this]
theorem len_body (c : Ch) (h : wrongL c = 0) : 2 ≤ (bodyL c).length ∧ (bodyL c).length ≤ 10:=by
 have hcs:=right_cases c h
 obtain ⟨kind,number,stream,place,data,early⟩:=c
 simp only at hcs
 rcases hcs with ⟨rfl,h2,h3,h4,h5,rfl⟩ | ⟨rfl,h2,rfl,rfl,rfl,h6,h7⟩
 ·simp [bodyL]; omega
 ·simp [bodyL]; omega
structure Ms where
 stream : Int
 data : List UInt8
def sameM (a b : Ms) : Bool:=a.stream == b.stream && a.data == b.data
theorem sameM_iff (a b : Ms) : sameM a b = true ↔ a = b:=by
 cases a; cases b; simp [sameM]
def valB (x : UInt8) : Int:=if 48 ≤ i8 x ∧ i8 x ≤ 57 then i8 x - 48 else if 97 ≤ i8 x ∧ i8 x ≤ 102 then i8 x - 87 else -1
def digitsL (l : List UInt8) : Bool:=l.all (fun x => decide (0 ≤ valB x))
def pairsL : List UInt8 → List UInt8
 | a :: b :: r => b8 (16 * valB a + valB b) :: pairsL r
 | _ => []
def formL (x : List UInt8) : Bool:=decide (2 ≤ x.length) && (decide (48 ≤ i8 (x.getD 0 0)) && (decide (i8 (x.getD 0 0) ≤ 57) && (decide (i8 (x.getD 1 0) = 58) && (decide (x.length % 2 = 0) && digitsL (x.drop 2)))))
def rawM (x : List UInt8) : Ms:=⟨i8 (x.getD 0 0) - 48,pairsL (x.drop 2)⟩
def parseE (x : List UInt8) : Int:=if formL x = true then wrongMsgL (rawM x).stream (rawM x).data else 2
def parseM (x : List UInt8) : Ms:=if parseE x = 0 then rawM x else ⟨0,[]⟩
theorem val_bd (x : UInt8) : valB x < 16:=by
 unfold valB; split
 ·omega
 ·split <;> omega
end Go.Proofs.Ytgaofjiidedcbad.mth
namespace Go.Proofs.Ytgaofjiidedcbad.ab
open Go mth
abbrev vI (n : Int) : D:=vD (.int .i64 n)
def encMs (m : Ms) : List D:=[vI m.stream,sD 1 (m.data.map encB)]
def encCh (c : Ch) : List D:=[vI c.kind,vI c.number,vI c.stream,vI c.place,sD 1 (c.data.map encB),sD 1 (c.early.map vI)]
def encMl (l : List Ms) : List D:=l.map fun m => aD (encMs m)
def encCl (l : List Ch) : List D:=l.map fun c => aD (encCh c)
theorem len_ml (l : List Ms) : (encMl l).length = l.length:=by simp [encMl]
theorem at_ml {l : List Ms} {i : Nat} {m : Ms} (h : l[i]? = some m) : (encMl l)[i]? = some (aD [vI m.stream,sD 1 (m.data.map encB)]):=by
 simp [encMl,h,encMs]
theorem follows : Try.prog.follows .mixedOrders = true:=by kernel_rfl
open Go.ChangeShapes Go.WideShapes Go.RowKit
def AllOf (W : World) : Still:=fun b _ => b < W.heap.size
section
variable {H : Type} {enc : TypeId × Value → H} {W : World}
end
end Go.Proofs.Ytgaofjiidedcbad.ab
