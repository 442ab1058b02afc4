import Derived.Test.YtgaofjiidedcbadM19
import Derived.Test.YtgaofjiidedcbadProg
set_option linter.unusedVariables false
set_option linter.unusedSimpArgs false
namespace Go.Proofs.Ytgaofjiidedcbad.ab
set_option maxRecDepth 100000
open Go Go.RowKit
set_option maxRecDepth 100000
set_option maxRecDepth 100000
end Go.Proofs.Ytgaofjiidedcbad.ab
namespace Go.Proofs.Ytgaofjiidedcbad.mth
def ofS (l : List Ms) (s : Int) : List Ms:=l.filter (fun m => m.stream == s)
theorem ofS_snoc {l : List Ms} {s : Int} {k : Nat} {m : Ms} (h : l[k]? = some m) : ofS (l.take (k + 1)) s = if m.stream == s then ofS (l.take k) s ++ [m] else ofS (l.take k) s:=by
 rw [List.take_add_one,h]
 simp only [ofS,List.filter_append,Option.toList_some,List.filter_cons,List.filter_nil]
 split <;> simp
theorem ofS_app (a b : List Ms) (s : Int) : ofS (a ++ b) s = ofS a s ++ ofS b s:=List.filter_append ..
def sameL : List Ms → List Ms → Bool
 | [],[] => true
 | a :: r,b :: t => sameM a b && sameL r t
 | _,_ => false
theorem sameL_iff : ∀ (a b : List Ms),sameL a b = true ↔ a = b
 | [],[] => by simp [sameL]
 | [],_ :: _ => by simp [sameL]
 | _ :: _,[] => by simp [sameL]
 | a :: r,b :: t => by simp only [sameL,Bool.and_eq_true,sameM_iff,sameL_iff r t,List.cons.injEq]
def preS (a b : List Ms) : Bool:=decide (a.length ≤ b.length) && sameL a (b.take a.length)
theorem preS_iff (a b : List Ms) : preS a b = true ↔ ∃ c,b = a ++ c:=by
 simp only [preS,Bool.and_eq_true,decide_eq_true_eq,sameL_iff]
 constructor
 ·rintro ⟨h1,h2⟩
  refine ⟨b.drop a.length,?_⟩
  have h3:=List.take_append_drop a.length b
  rw [← h2] at h3
  exact h3.symm
 ·rintro ⟨c,rfl⟩
  simp
def fitsS (told put : List Ms) : Bool:=preS (ofS told 0) (ofS put 0) && (preS (ofS told 1) (ofS put 1) && preS (ofS told 2) (ofS put 2))
theorem fitsS_of {told put : List Ms} (h : ∀ s,preS (ofS told s) (ofS put s) = true) : fitsS told put = true:=by
 simp [fitsS,h]
theorem fitsS_no {told put : List Ms} {s : Int} (hs : 0 ≤ s ∧ s ≤ 2) (h : preS (ofS told s) (ofS put s) = false) : fitsS told put = false:=by
 rcases (by omega : s = 0 ∨ s = 1 ∨ s = 2) with rfl | rfl | rfl <;> simp [fitsS,h]
def fst1 (s : Int) : List Ms → Nat
 | [] => 0
 | m :: r => if m.stream == s then 0 else fst1 s r + 1
def findS (l : List Ms) (s : Int) (a : Nat) : Nat:=a + fst1 s (l.drop a)
theorem fst1_le (s : Int) : ∀ l,fst1 s l ≤ l.length
 | [] => Nat.le_refl _
 | m :: r => by simp only [fst1]; split <;> simp [fst1_le s r]
theorem findS_le {l : List Ms} {s : Int} {a : Nat} (h : a ≤ l.length) : findS l s a ≤ l.length:=by
 have:=fst1_le s (l.drop a)
 simp only [List.length_drop] at this
 unfold findS; omega
theorem findS_step {l : List Ms} {s : Int} {a : Nat} {m : Ms} (h : l[a]? = some m) : findS l s a = if m.stream == s then a else findS l s (a + 1):=by
 obtain ⟨hlt,rfl⟩:=List.getElem?_eq_some_iff.1 h
 unfold findS
 rw [List.drop_eq_getElem_cons hlt,fst1]
 split
 ·rfl
 ·omega
theorem findS_end {l : List Ms} {s : Int} : findS l s l.length = l.length:=by simp [findS,fst1]
theorem ofS_find (s : Int) : ∀ (l : List Ms),ofS (l.take (fst1 s l)) s = [] ∧ ∀ m,l[fst1 s l]? = some m → m.stream = s
 | [] => by simp [fst1,ofS]
 | m :: r => by
  simp only [fst1]
  split
  ·rename_i h; simp only [List.take_zero,List.getElem?_cons_zero,Option.some.injEq]; exact ⟨rfl,fun x hx => by subst hx; simpa using h⟩
  ·rename_i h
   have:=ofS_find s r
   refine ⟨?_,fun x hx => this.2 x (by simpa using hx)⟩
   simp only [List.take_succ_cons,ofS,List.filter_cons]
   rw [if_neg h]
   exact this.1
theorem take_find {l : List Ms} {s : Int} {a : Nat} (h : a ≤ l.length) : ofS (l.take (findS l s a)) s = ofS (l.take a) s ∧ ∀ m,l[findS l s a]? = some m → m.stream = s:=by
 have h1:=ofS_find s (l.drop a)
 have e : l.take (findS l s a) = l.take a ++ (l.drop a).take (fst1 s (l.drop a)):=by
  unfold findS
  rw [List.take_add]
 refine ⟨by rw [e,ofS_app,h1.1,List.append_nil],fun m hm => h1.2 m ?_⟩
 rw [List.getElem?_drop]; exact hm
theorem fit_none {told put : List Ms} {m : Ms} {k a : Nat} (hs : 0 ≤ m.stream ∧ m.stream ≤ 2) (hm : told[k]? = some m) (ha : a ≤ put.length) (h : ofS (told.take k) m.stream = ofS (put.take a) m.stream) (hf : findS put m.stream a = put.length) : fitsS told put = false:=by
 refine fitsS_no hs ?_
 rw [Bool.eq_false_iff]
 intro hp
 obtain ⟨c,hc⟩:=(preS_iff _ _).1 hp
 have h1:=(take_find (s:=m.stream) ha).1
 rw [hf,List.take_length,← h] at h1
 have e : ofS told m.stream = ofS (told.take (k + 1)) m.stream ++ ofS (told.drop (k + 1)) m.stream:=by rw [← ofS_app,List.take_append_drop]
 rw [ofS_snoc hm,if_pos (by simp)] at e
 rw [h1,e] at hc
 have:=congrArg List.length hc
 simp at this
theorem fit_other {told put : List Ms} {m x : Ms} {k a : Nat} (hs : 0 ≤ m.stream ∧ m.stream ≤ 2) (hm : told[k]? = some m) (ha : a ≤ put.length) (h : ofS (told.take k) m.stream = ofS (put.take a) m.stream) (hx : put[findS put m.stream a]? = some x) (hne : sameM m x = false) : fitsS told put = false:=by
 refine fitsS_no hs ?_
 rw [Bool.eq_false_iff]
 intro hp
 obtain ⟨c,hc⟩:=(preS_iff _ _).1 hp
 have h1:=take_find (s:=m.stream) ha
 have e : ofS told m.stream = ofS (told.take (k + 1)) m.stream ++ ofS (told.drop (k + 1)) m.stream:=by rw [← ofS_app,List.take_append_drop]
 rw [ofS_snoc hm,if_pos (by simp)] at e
 have e2 : ofS put m.stream = ofS (put.take (findS put m.stream a + 1)) m.stream ++ ofS (put.drop (findS put m.stream a + 1)) m.stream:=by rw [← ofS_app,List.take_append_drop]
 rw [ofS_snoc hx,if_pos (by simpa using h1.2 x hx),h1.1,← h] at e2
 rw [e,e2] at hc
 simp only [List.append_assoc,List.append_cancel_left_eq,List.cons_append,List.nil_append,List.cons.injEq] at hc
 have:=(sameM_iff m x).2 hc.1.symm
 rw [this] at hne; cases hne
theorem fit_step {told put : List Ms} {m x : Ms} {k a : Nat} (hm : told[k]? = some m) (ha : a ≤ put.length) (h : ofS (told.take k) m.stream = ofS (put.take a) m.stream) (hx : put[findS put m.stream a]? = some x) (he : sameM m x = true) : ofS (told.take (k + 1)) m.stream = ofS (put.take (findS put m.stream a + 1)) m.stream:=by
 have h1:=take_find (s:=m.stream) ha
 rw [ofS_snoc hm,if_pos (by simp),ofS_snoc hx,if_pos (by simpa using h1.2 x hx),h1.1,← h,(sameM_iff m x).1 he]
end Go.Proofs.Ytgaofjiidedcbad.mth
