import Derived.Test.YtgaofjiidedcbadM31
import Derived.Test.YtgaofjiidedcbadM28
import Derived.Test.YtgaofjiidedcbadM32
import Derived.Test.YtgaofjiidedcbadM26
set_option maxHeartbeats 16000000
set_option linter.unusedVariables false
set_option linter.unusedSimpArgs false
namespace Go.Proofs.Ytgaofjiidedcbad.mth
def msL (t i : Nat) : Ms:=⟨((i % 2 : Nat) : Int),[UInt8.ofNat t,UInt8.ofNat i]⟩
def lineR (n i : Nat) : List Sp:=(List.range n).map fun (t : Nat) => putSp (t : Int) (msL t i)
def lineL (n k : Nat) : List Sp:=(List.range k).flatMap (lineR n)
def lineP (t k : Nat) : List Ms:=(List.range k).map (msL t)
theorem lineL_succ (n k : Nat) : lineL n (k + 1) = lineL n k ++ lineR n k:=by
 unfold lineL
 rw [List.range_succ,List.flatMap_append]
 simp
theorem lineP_succ (t k : Nat) : lineP t (k + 1) = lineP t k ++ [msL t k]:=by
 unfold lineP
 rw [List.range_succ,List.map_append]
 rfl
theorem lineP_len (t k : Nat) : (lineP t k).length = k:=by unfold lineP; simp
theorem lineR_succ (n i : Nat) : lineR (n + 1) i = lineR n i ++ [putSp n (msL n i)]:=by
 unfold lineR
 rw [List.range_succ,List.map_append]
 rfl
theorem lineL_len (n k : Nat) : (lineL n k).length = k * n:=by
 induction k with
 | zero => simp [lineL]
 | succ k ih =>
  rw [lineL_succ,List.length_append,ih]
  simp only [lineR,List.length_map,List.length_range]
  rw [Nat.add_mul,Nat.one_mul]
theorem run_more (b : List Sp) : ∀ x : Wd × List Int,∃ es,(b.foldl (fun x s => ((doW x.1 s).1,x.2 ++ [(doW x.1 s).2])) x).2 = x.2 ++ es:=by
 induction b with
 | nil => exact fun x => ⟨[],by simp⟩
 | cons s b ih =>
  intro x
  obtain ⟨es,h⟩:=ih ((doW x.1 s).1,x.2 ++ [(doW x.1 s).2])
  exact ⟨(doW x.1 s).2 :: es,by rw [List.foldl_cons,h]; simp⟩
theorem puts_more (w : Wd) (l b : List Sp) (hb : ∀ s ∈ b,s.kind ≠ 2) (he : (runW w l).2.length = l.length) (t : Int) : putsW (l ++ b) (runW w (l ++ b)).2 t = putsW l (runW w l).2 t:=by
 have e : runW w (l ++ b) = b.foldl (fun x s => ((doW x.1 s).1,x.2 ++ [(doW x.1 s).2])) (runW w l):=by unfold runW; rw [List.foldl_append]
 obtain ⟨es,h⟩:=run_more b (runW w l)
 rw [e,h]
 unfold putsW
 rw [List.zip_append he.symm,List.filter_append,List.map_append]
 have hz : (b.zip es).filter (fun x => x.2 == 0 && (x.1.kind == 2 && x.1.tenant == t)) = []:=by
  rw [List.filter_eq_nil_iff]
  intro x hx
  have h1:=hb x.1 (List.of_mem_zip hx).1
  simp [h1]
 rw [hz]
 simp
theorem ms_inj : ∀ {l m : List Ms},l.map (fun x => (x.stream,x.data)) = m.map (fun x => (x.stream,x.data)) → l = m
 | [],[],_ => rfl
 | [],_ :: _,h => by simp at h
 | _ :: _,[],h => by simp at h
 | ⟨a,b⟩ :: l,⟨c,d⟩ :: m,h => by
  simp only [List.map_cons,List.cons.injEq,Prod.mk.injEq] at h
  obtain ⟨⟨rfl,rfl⟩,h⟩:=h
  rw [ms_inj h]
def lineOk (n k : Nat) : Bool:=(List.range n).all fun t => (putsW (lineL n k) (runW (newW n) (lineL n k)).2 t).map (fun x => (x.stream,x.data)) == (lineP t k).map (fun x => (x.stream,x.data))
theorem line_ok : ((List.range 4).all fun n => (List.range 7).all fun k => lineOk n k) = true:=by decide +kernel
theorem line_puts {n k t : Nat} (hn : n ≤ 3) (hk : k ≤ 6) (ht : t < n) (b : List Sp) (hb : ∀ s ∈ b,s.kind ≠ 2) (hn1 : 1 ≤ n) : putsW (lineL n k ++ b) (runW (newW n) (lineL n k ++ b)).2 t = lineP t k:=by
 have h:=line_ok
 rw [List.all_eq_true] at h
 have h:=h n (List.mem_range.2 (by omega))
 rw [List.all_eq_true] at h
 have h:=h k (List.mem_range.2 (by omega))
 unfold lineOk at h
 rw [List.all_eq_true] at h
 have h:=ms_inj (eq_of_beq (h t (List.mem_range.2 ht)))
 have hlen:=run_len (newW n) (lineL n k) (lineL n k).length (Nat.le_refl _)
 rw [List.take_length] at hlen
 rw [puts_more _ _ _ hb hlen,h]
end Go.Proofs.Ytgaofjiidedcbad.mth
namespace Go.Proofs.Ytgaofjiidedcbad.ab
open Go Go.RowKit
open mth
def CPAll (f : Nat) : Prop:=∀ told put : List Ms,told.length ≤ 1048576 → put.length ≤ 1048576 → (∀ m ∈ told,wrongMsgL m.stream m.data = 0) → Told Try.prog f [sD 2 (encMl told),sD 2 (encMl put)] [vB (fitsS told put && (told.length == put.length))]
theorem encB_of {k : Nat} (h : k ≤ 255) : encB (UInt8.ofNat k) = vD (.int .u8 (k : Int)):=by
 unfold encB
 have e : (UInt8.ofNat k).toNat = k:=by rw [UInt8.toNat_ofNat']; omega
 rw [e]
theorem spl_is (t i : Nat) (ht : t ≤ 2) (hi : i ≤ 5) : aD (encSp (putSp (t : Int) (msL t i))) = splD (t : Int) i:=by
 unfold encSp putSp msL splD
 simp only [List.map_cons,List.map_nil,encB_of (show t ≤ 255 by omega),encB_of (show i ≤ 255 by omega)]
theorem ml_is (t i : Nat) (ht : t ≤ 2) (hi : i ≤ 5) : aD (encMs (msL t i)) = aD (mlD (t : Int) i):=by
 unfold encMs msL mlD
 simp only [List.map_cons,List.map_nil,encB_of (show t ≤ 255 by omega),encB_of (show i ≤ 255 by omega)]
theorem lineP_enc (t i : Nat) (ht : t ≤ 2) (hi : i ≤ 5) : encMl (lineP t (i + 1)) = encMl (lineP t i) ++ [aD (mlD (t : Int) i)]:=by
 rw [lineP_succ,← ml_is t i ht hi]
 simp [encMl]
theorem lineR_enc (n i : Nat) (hn : n ≤ 2) (hi : i ≤ 5) : encSl (lineR (n + 1) i) = encSl (lineR n i) ++ [splD (n : Int) i]:=by
 rw [lineR_succ,← spl_is n i hn hi]
 simp [encSl]
theorem lineL_enc (n i : Nat) : encSl (lineL n (i + 1)) = encSl (lineL n i) ++ encSl (lineR n i):=by rw [lineL_succ,sl_app]
theorem len_lp (t i : Nat) : (encMl (lineP t i)).length = i:=by rw [len_ml,lineP_len]
def tlH1 (b : List D) (many i : Nat) : St:=⟨[(0,vI 1),(2,sD 7 b),(7,sD 7 (encSl (lineL 1 i))),(8,rD 41 0 1 1),(42,vI many),(43,vI i)],[(41,[sD 2 (encMl (lineP 0 i))])],[((41,some 0),(28,2,none)),((7,none),(30,7,none))]⟩
def tlI10 (b : List D) (many i : Nat) : St:=⟨[(0,vI 1),(2,sD 7 b),(7,sD 7 (encSl (lineL 1 i))),(8,rD 41 0 1 1),(9,vI i),(42,vI many),(43,vI i),(46,vI 1),(47,vI 0)],[(41,[sD 2 (encMl (lineP 0 i))])],[((41,some 0),(28,2,none)),((7,none),(30,7,none))]⟩
def tlI11 (b : List D) (many i : Nat) : St:=⟨[(0,vI 1),(2,sD 7 b),(7,sD 7 (encSl (lineL 1 i) ++ [splD 0 i])),(8,rD 41 0 1 1),(9,vI i),(42,vI many),(43,vI i),(46,vI 1),(47,vI 1)],[(41,[sD 2 (encMl (lineP 0 i) ++ [aD (mlD 0 i)])])],[((41,some 0),(28,2,none)),((7,none),(30,7,none))]⟩
def TlK1 (b : List D) (many i : Nat) : Nat → St → Prop:=fun m st => (m = 1 ∧ st = tlI10 b many i) ∨ (m = 0 ∧ st = tlI11 b many i)
theorem tl_outer1 (b : List D) (many : Nat) (hm : many ≤ 6) (Q : AX → St → Prop)
  (hQ : Q none ⟨(tlH1 b many many).tm ++ [(44,vB false)],(tlH1 b many many).bx,(tlH1 b many many).fl⟩) :
  cLoop Q31l4a (tlH1 b many 0) (blk 0 Q):=by
 refine aw_loop (fun m st => ∃ i : Nat,i ≤ many ∧ m = many - i ∧ st = tlH1 b many i) many _ (Le.refl _) ⟨0,by omega,by omega,rfl⟩ ?_
 rintro m st ⟨i,hi,hmi,rfl⟩
 by_cases hlt : i < many
 ·have g1 : (i : Int) < (many : Int):=by omega
  have g4 : inR .i64 ((i : Int) + 1) = true:=inR_of (by omega)
  have hnx : Next (fun m st => ∃ i : Nat,i ≤ many ∧ m = many - i ∧ st = tlH1 b many i) m (tlH1 b many (i + 1)):=⟨many - (i + 1),_,by omega,Le.refl _,i + 1,by omega,rfl,rfl⟩
  generalize (fun m st => ∃ i : Nat,i ≤ many ∧ m = many - i ∧ st = tlH1 b many i) = J at *
  have l0 : (encSl (lineL 1 i)).length = i * 1:=by rw [len_sl,lineL_len]
  have hp : ∀ t,(encMl (lineP t i)).length ≤ 1000:=fun t => by rw [len_lp]; omega
  unfold tlH1 at hnx ⊢
  simp only [lineL_enc,lineR_enc 0 i (by omega) (by omega),lineP_enc 0 i (by omega) (by omega),show lineR 0 i = [] from rfl,show encSl [] = [] from rfl,List.nil_append,← List.append_assoc,Int.cast_ofNat_Int,Int.natCast_zero,Int.natCast_add,Int.natCast_one] at hnx
  refine wk (an2 @g1 @Int.toNat_natCast) ?_
  refine aw_loop (TlK1 b many i) 1 (tlI10 b many i) (Le.refl _) (.inl ⟨rfl,rfl⟩) ?_
  rintro m2 st (⟨rfl,rfl⟩ | ⟨rfl,rfl⟩)
  ·exact tl_step_10 i (by omega) many b _ _ (by simp only [List.length_append,List.length_cons,List.length_nil,l0]; omega) (hp 0) _ _ _ ⟨0,_,by decide,Le.refl _,.inr (⟨rfl,rfl⟩)⟩
  ·have g2 : ¬ (1 : Int) < 1:=by decide
   generalize TlK1 b many i = J2 at *
   unfold tlI11
   refine wk (an2 @g2 @g4) ?_
   exact hnx
 ·have hin : i = many:=by omega
  subst hin
  have g1 : ¬ (i : Int) < (i : Int):=by omega
  generalize (fun m st => ∃ j : Nat,j ≤ i ∧ m = i - j ∧ st = tlH1 b i j) = J at *
  unfold tlH1 at hQ ⊢
  refine wk @g1 ?_
  exact hQ
def tlH2 (b : List D) (many i : Nat) : St:=⟨[(0,vI 2),(2,sD 7 b),(7,sD 7 (encSl (lineL 2 i))),(8,rD 41 0 1 2),(42,vI many),(43,vI i)],[(41,[sD 2 (encMl (lineP 0 i)),sD 2 (encMl (lineP 1 i))])],[((41,some 1),(28,2,none)),((7,none),(30,7,none)),((41,some 0),(28,2,none))]⟩
def tlI20 (b : List D) (many i : Nat) : St:=⟨[(0,vI 2),(2,sD 7 b),(7,sD 7 (encSl (lineL 2 i))),(8,rD 41 0 1 2),(9,vI i),(42,vI many),(43,vI i),(46,vI 2),(47,vI 0)],[(41,[sD 2 (encMl (lineP 0 i)),sD 2 (encMl (lineP 1 i))])],[((41,some 1),(28,2,none)),((7,none),(30,7,none)),((41,some 0),(28,2,none))]⟩
def tlI21 (b : List D) (many i : Nat) : St:=⟨[(0,vI 2),(2,sD 7 b),(7,sD 7 (encSl (lineL 2 i) ++ [splD 0 i])),(8,rD 41 0 1 2),(9,vI i),(42,vI many),(43,vI i),(46,vI 2),(47,vI 1)],[(41,[sD 2 (encMl (lineP 0 i) ++ [aD (mlD 0 i)]),sD 2 (encMl (lineP 1 i))])],[((41,some 0),(28,2,none)),((7,none),(30,7,none)),((41,some 1),(28,2,none))]⟩
def tlI22 (b : List D) (many i : Nat) : St:=⟨[(0,vI 2),(2,sD 7 b),(7,sD 7 ((encSl (lineL 2 i) ++ [splD 0 i]) ++ [splD 1 i])),(8,rD 41 0 1 2),(9,vI i),(42,vI many),(43,vI i),(46,vI 2),(47,vI 2)],[(41,[sD 2 (encMl (lineP 0 i) ++ [aD (mlD 0 i)]),sD 2 (encMl (lineP 1 i) ++ [aD (mlD 1 i)])])],[((41,some 1),(28,2,none)),((7,none),(30,7,none)),((41,some 0),(28,2,none))]⟩
def TlK2 (b : List D) (many i : Nat) : Nat → St → Prop:=fun m st => (m = 2 ∧ st = tlI20 b many i) ∨ (m = 1 ∧ st = tlI21 b many i) ∨ (m = 0 ∧ st = tlI22 b many i)
theorem tl_outer2 (b : List D) (many : Nat) (hm : many ≤ 6) (Q : AX → St → Prop)
  (hQ : Q none ⟨(tlH2 b many many).tm ++ [(44,vB false)],(tlH2 b many many).bx,(tlH2 b many many).fl⟩) :
  cLoop Q31l4a (tlH2 b many 0) (blk 0 Q):=by
 refine aw_loop (fun m st => ∃ i : Nat,i ≤ many ∧ m = many - i ∧ st = tlH2 b many i) many _ (Le.refl _) ⟨0,by omega,by omega,rfl⟩ ?_
 rintro m st ⟨i,hi,hmi,rfl⟩
 by_cases hlt : i < many
 ·have g1 : (i : Int) < (many : Int):=by omega
  have g4 : inR .i64 ((i : Int) + 1) = true:=inR_of (by omega)
  have hnx : Next (fun m st => ∃ i : Nat,i ≤ many ∧ m = many - i ∧ st = tlH2 b many i) m (tlH2 b many (i + 1)):=⟨many - (i + 1),_,by omega,Le.refl _,i + 1,by omega,rfl,rfl⟩
  generalize (fun m st => ∃ i : Nat,i ≤ many ∧ m = many - i ∧ st = tlH2 b many i) = J at *
  have l0 : (encSl (lineL 2 i)).length = i * 2:=by rw [len_sl,lineL_len]
  have hp : ∀ t,(encMl (lineP t i)).length ≤ 1000:=fun t => by rw [len_lp]; omega
  unfold tlH2 at hnx ⊢
  simp only [lineL_enc,lineR_enc 0 i (by omega) (by omega),lineR_enc 1 i (by omega) (by omega),lineP_enc 0 i (by omega) (by omega),lineP_enc 1 i (by omega) (by omega),show lineR 0 i = [] from rfl,show encSl [] = [] from rfl,List.nil_append,← List.append_assoc,Int.cast_ofNat_Int,Int.natCast_zero,Int.natCast_add,Int.natCast_one] at hnx
  refine wk (an2 @g1 @Int.toNat_natCast) ?_
  refine aw_loop (TlK2 b many i) 2 (tlI20 b many i) (Le.refl _) (.inl ⟨rfl,rfl⟩) ?_
  rintro m2 st (⟨rfl,rfl⟩ | ⟨rfl,rfl⟩ | ⟨rfl,rfl⟩)
  ·exact tl_step_20 i (by omega) many b _ _ _ (by simp only [List.length_append,List.length_cons,List.length_nil,l0]; omega) (hp 0) _ _ _ ⟨1,_,by decide,Le.refl _,.inr (.inl ⟨rfl,rfl⟩)⟩
  ·exact tl_step_21 i (by omega) many b _ _ _ (by simp only [List.length_append,List.length_cons,List.length_nil,l0]; omega) (hp 1) _ _ _ ⟨0,_,by decide,Le.refl _,.inr (.inr (⟨rfl,rfl⟩))⟩
  ·have g2 : ¬ (2 : Int) < 2:=by decide
   generalize TlK2 b many i = J2 at *
   unfold tlI22
   refine wk (an2 @g2 @g4) ?_
   exact hnx
 ·have hin : i = many:=by omega
  subst hin
  have g1 : ¬ (i : Int) < (i : Int):=by omega
  generalize (fun m st => ∃ j : Nat,j ≤ i ∧ m = i - j ∧ st = tlH2 b i j) = J at *
  unfold tlH2 at hQ ⊢
  refine wk @g1 ?_
  exact hQ
def tlH3 (b : List D) (many i : Nat) : St:=⟨[(0,vI 3),(2,sD 7 b),(7,sD 7 (encSl (lineL 3 i))),(8,rD 41 0 1 3),(42,vI many),(43,vI i)],[(41,[sD 2 (encMl (lineP 0 i)),sD 2 (encMl (lineP 1 i)),sD 2 (encMl (lineP 2 i))])],[((41,some 2),(28,2,none)),((7,none),(30,7,none)),((41,some 1),(28,2,none)),((41,some 0),(28,2,none))]⟩
def tlI30 (b : List D) (many i : Nat) : St:=⟨[(0,vI 3),(2,sD 7 b),(7,sD 7 (encSl (lineL 3 i))),(8,rD 41 0 1 3),(9,vI i),(42,vI many),(43,vI i),(46,vI 3),(47,vI 0)],[(41,[sD 2 (encMl (lineP 0 i)),sD 2 (encMl (lineP 1 i)),sD 2 (encMl (lineP 2 i))])],[((41,some 2),(28,2,none)),((7,none),(30,7,none)),((41,some 1),(28,2,none)),((41,some 0),(28,2,none))]⟩
def tlI31 (b : List D) (many i : Nat) : St:=⟨[(0,vI 3),(2,sD 7 b),(7,sD 7 (encSl (lineL 3 i) ++ [splD 0 i])),(8,rD 41 0 1 3),(9,vI i),(42,vI many),(43,vI i),(46,vI 3),(47,vI 1)],[(41,[sD 2 (encMl (lineP 0 i) ++ [aD (mlD 0 i)]),sD 2 (encMl (lineP 1 i)),sD 2 (encMl (lineP 2 i))])],[((41,some 0),(28,2,none)),((7,none),(30,7,none)),((41,some 2),(28,2,none)),((41,some 1),(28,2,none))]⟩
def tlI32 (b : List D) (many i : Nat) : St:=⟨[(0,vI 3),(2,sD 7 b),(7,sD 7 ((encSl (lineL 3 i) ++ [splD 0 i]) ++ [splD 1 i])),(8,rD 41 0 1 3),(9,vI i),(42,vI many),(43,vI i),(46,vI 3),(47,vI 2)],[(41,[sD 2 (encMl (lineP 0 i) ++ [aD (mlD 0 i)]),sD 2 (encMl (lineP 1 i) ++ [aD (mlD 1 i)]),sD 2 (encMl (lineP 2 i))])],[((41,some 1),(28,2,none)),((7,none),(30,7,none)),((41,some 0),(28,2,none)),((41,some 2),(28,2,none))]⟩
def tlI33 (b : List D) (many i : Nat) : St:=⟨[(0,vI 3),(2,sD 7 b),(7,sD 7 (((encSl (lineL 3 i) ++ [splD 0 i]) ++ [splD 1 i]) ++ [splD 2 i])),(8,rD 41 0 1 3),(9,vI i),(42,vI many),(43,vI i),(46,vI 3),(47,vI 3)],[(41,[sD 2 (encMl (lineP 0 i) ++ [aD (mlD 0 i)]),sD 2 (encMl (lineP 1 i) ++ [aD (mlD 1 i)]),sD 2 (encMl (lineP 2 i) ++ [aD (mlD 2 i)])])],[((41,some 2),(28,2,none)),((7,none),(30,7,none)),((41,some 1),(28,2,none)),((41,some 0),(28,2,none))]⟩
def TlK3 (b : List D) (many i : Nat) : Nat → St → Prop:=fun m st => (m = 3 ∧ st = tlI30 b many i) ∨ (m = 2 ∧ st = tlI31 b many i) ∨ (m = 1 ∧ st = tlI32 b many i) ∨ (m = 0 ∧ st = tlI33 b many i)
theorem tl_outer3 (b : List D) (many : Nat) (hm : many ≤ 6) (Q : AX → St → Prop)
  (hQ : Q none ⟨(tlH3 b many many).tm ++ [(44,vB false)],(tlH3 b many many).bx,(tlH3 b many many).fl⟩) :
  cLoop Q31l4a (tlH3 b many 0) (blk 0 Q):=by
 refine aw_loop (fun m st => ∃ i : Nat,i ≤ many ∧ m = many - i ∧ st = tlH3 b many i) many _ (Le.refl _) ⟨0,by omega,by omega,rfl⟩ ?_
 rintro m st ⟨i,hi,hmi,rfl⟩
 by_cases hlt : i < many
 ·have g1 : (i : Int) < (many : Int):=by omega
  have g4 : inR .i64 ((i : Int) + 1) = true:=inR_of (by omega)
  have hnx : Next (fun m st => ∃ i : Nat,i ≤ many ∧ m = many - i ∧ st = tlH3 b many i) m (tlH3 b many (i + 1)):=⟨many - (i + 1),_,by omega,Le.refl _,i + 1,by omega,rfl,rfl⟩
  generalize (fun m st => ∃ i : Nat,i ≤ many ∧ m = many - i ∧ st = tlH3 b many i) = J at *
  have l0 : (encSl (lineL 3 i)).length = i * 3:=by rw [len_sl,lineL_len]
  have hp : ∀ t,(encMl (lineP t i)).length ≤ 1000:=fun t => by rw [len_lp]; omega
  unfold tlH3 at hnx ⊢
  simp only [lineL_enc,lineR_enc 0 i (by omega) (by omega),lineR_enc 1 i (by omega) (by omega),lineR_enc 2 i (by omega) (by omega),lineP_enc 0 i (by omega) (by omega),lineP_enc 1 i (by omega) (by omega),lineP_enc 2 i (by omega) (by omega),show lineR 0 i = [] from rfl,show encSl [] = [] from rfl,List.nil_append,← List.append_assoc,Int.cast_ofNat_Int,Int.natCast_zero,Int.natCast_add,Int.natCast_one] at hnx
  refine wk (an2 @g1 @Int.toNat_natCast) ?_
  refine aw_loop (TlK3 b many i) 3 (tlI30 b many i) (Le.refl _) (.inl ⟨rfl,rfl⟩) ?_
  rintro m2 st (⟨rfl,rfl⟩ | ⟨rfl,rfl⟩ | ⟨rfl,rfl⟩ | ⟨rfl,rfl⟩)
  ·exact tl_step_30 i (by omega) many b _ _ _ _ (by simp only [List.length_append,List.length_cons,List.length_nil,l0]; omega) (hp 0) _ _ _ ⟨2,_,by decide,Le.refl _,.inr (.inl ⟨rfl,rfl⟩)⟩
  ·exact tl_step_31 i (by omega) many b _ _ _ _ (by simp only [List.length_append,List.length_cons,List.length_nil,l0]; omega) (hp 1) _ _ _ ⟨1,_,by decide,Le.refl _,.inr (.inr (.inl ⟨rfl,rfl⟩))⟩
  ·exact tl_step_32 i (by omega) many b _ _ _ _ (by simp only [List.length_append,List.length_cons,List.length_nil,l0]; omega) (hp 2) _ _ _ ⟨0,_,by decide,Le.refl _,.inr (.inr (.inr (⟨rfl,rfl⟩)))⟩
  ·have g2 : ¬ (3 : Int) < 3:=by decide
   generalize TlK3 b many i = J2 at *
   unfold tlI33
   refine wk (an2 @g2 @g4) ?_
   exact hnx
 ·have hin : i = many:=by omega
  subst hin
  have g1 : ¬ (i : Int) < (i : Int):=by omega
  generalize (fun m st => ∃ j : Nat,j ≤ i ∧ m = i - j ∧ st = tlH3 b i j) = J at *
  unfold tlH3 at hQ ⊢
  refine wk @g1 ?_
  exact hQ
theorem calm_no {l : List Sp} (h : calmB l = true) : l.length ≤ 100 ∧ ∀ s ∈ l,s.kind ≠ 2 ∧ s.kind ≠ 6:=by
 unfold calmB at h
 simp only [Bool.and_eq_true,decide_eq_true_eq,Bool.not_eq_true',List.any_eq_false] at h
 refine ⟨h.2,fun s hs => ?_⟩
 have:=h.1 s hs
 unfold loudB at this
 simpa using this
theorem line_kind {n k : Nat} : ∀ s ∈ lineL n k,s.kind = 2:=by
 intro s hs
 unfold lineL at hs
 obtain ⟨i,_,hs⟩:=List.mem_flatMap.1 hs
 unfold lineR at hs
 obtain ⟨t,_,rfl⟩:=List.mem_map.1 hs
 rfl
def tlE1 (ll : List D) (many k : Nat) (c : Int) : St:=⟨[(8,rD 41 0 1 1),(105,sD 17 ll),(106,vI 1),(107,vI c)],[(41,[sD 2 (encMl (lineP 0 many))])],[((41,some 0),(28,2,none))]⟩
def TlE1 (ll : List D) (many : Nat) : Nat → St → Prop:=fun m st => (m = 1 ∧ st = tlE1 ll many 0 0) ∨ (m = 0 ∧ st = tlE1 ll many 0 1)
theorem topLine_good1 (hT : CTParse 22) (hP : CFPlay 9) (hS : CFSettle 10) (hK : CKStill 11) (hF : CPAll 12) (many : Nat) (hm : many ≤ 6) (B : List Sp) (hb : calmB B = true) : Told Try.prog 3 [vI 1,vI many,sD 7 (encSl B)] [vB true]:=by
 refine told_lktop_TopLine rfl ?_
 have hA:=aliveTop_told hT hP hS hK
 obtain ⟨hb1,hno⟩:=calm_no hb
 have hC:=calm_told B (by omega)
 rw [hb] at hC
 have n1 : ¬ (1 : Int) < 1:=by decide
 have n2 : ¬ (3 : Int) < 1:=by decide
 have n3 : ¬ (many : Int) < 0:=by omega
 have n4 : ¬ 6 < (many : Int):=by omega
 have c1 : (0 : Int) ≤ 1:=by decide
 have c2 : (1 : Int) ≤ 1000000:=by decide
 have c3 : (1 : Int).toNat = 1:=rfl
 refine wk0 ?_
 refine cg [[vB true]] Bool.not_true ?_ ?_
 ·exact obl_cons hA obl_nil
 refine wk (an4 @n1 @n2 @n3 @n4) ?_
 refine cg [[vB true]] (an5 @n1 @n2 @n3 @n4 Bool.not_true) ?_ ?_
 ·exact obl_cons hC obl_nil
 refine wk (an5 @c1 @c2 @c3 @zrs @zr0) ?_
 refine le_loop (st':=tlH1 (encSl B) many 0) (((Le.nilS 7 30 7 rfl).trans (Le.nilB 41 0 28 2 (by decide) rfl rfl)).trans (Le.keep (lv:=[0,2,7,8,42,43]) (lb:=[41]) (by simp only [ev0,ev1,ev2,look,lookF,cellsFrom,offT,offP,List.tail_nil,List.length_nil,Int.cast_ofNat_Int,Nat.reduceEqDiff,Nat.reduceAdd,Nat.reduceMul,Nat.reduceLeDiff,Nat.reduceLT,↓reduceIte,reduceCtorEq,Int.reduceBEq,Int.reduceBNe,Int.reduceLT,Int.reduceLE,Int.reduceToNat]; rfl))) (tl_outer1 (encSl B) many hm _ ?_)
 have l0 : (lineL 1 many).length ≤ 18:=by rw [lineL_len]; omega
 have l1 : (lineL 1 many ++ B).length ≤ 160:=by rw [List.length_append]; omega
 have b1 : ((lineL 1 many).length + B.length) * 72 ≤ 140737488355328:=by omega
 have p1:=hP.2.2 1 (lineL 1 many ++ B) (by decide) l1
 rw [sl_app] at p1
 obtain ⟨hw,hwt,_⟩:=good_run (good_new (by decide : 1 ≤ 1 ∧ 1 ≤ 3)) (lineL 1 many ++ B) 160
 rw [List.take_of_length_le l1] at hw hwt
 have ht0 : (newW 1).ticks = 0:=rfl
 rw [ht0] at hwt
 have hwn : (runW (newW 1) (lineL 1 many ++ B)).1.lanes.length = 1:=by rw [lenW_run]; rfl
 have c4 : ((1 : Nat) : Int) = 1:=rfl
 rw [c4] at p1
 have hk:=wknow_run 1 (lineL 1 many ++ B) (fun s hs => by
  rcases List.mem_append.1 hs with q | q
  ·rw [line_kind s q]; decide
  ·exact (hno s q).2) (lineL 1 many ++ B).length (Nat.le_refl _)
 rw [List.take_length] at hk
 have hpt : ∀ t : Nat,t < 1 → putsW (lineL 1 many ++ B) (runW (newW 1) (lineL 1 many ++ B)).2 t = lineP t many:=fun t ht => line_puts (by decide) hm ht B (fun s hs => (hno s hs).1) (by decide)
 generalize (runW (newW 1) (lineL 1 many ++ B)).2 = es at *
 generalize (runW (newW 1) (lineL 1 many ++ B)).1 = w at *
 have hx:=hw.rounds (settleK 200 w)
 have hxk:=hk.rounds (settleK 200 w)
 have hend:=settle_ends hw hk
 have hxl:=roundN_len (settleK 200 w) w
 have h2:=hS w hw (by omega)
 have h3:=hK _ (by have:=hx.n; omega) (fun l hl => good_smallN (hx.l l hl))
 rw [hend] at h3
 generalize settleK 200 w = K at *
 generalize roundN K w = x at *
 have key : ∀ t : Nat,t < 1 → ∃ y,x.lanes[t]? = some y ∧ Told Try.prog 12 [sD 2 (encMl y.r.told),sD 2 (encMl (lineP t many))] [vB true]:=by
  intro t ht
  obtain ⟨y,hy⟩ : ∃ y,x.lanes[t]? = some y:=⟨x.lanes[t]'(by omega),List.getElem?_eq_getElem (by omega)⟩
  have hg:=hx.l y (List.mem_of_getElem? hy)
  have hid : idleL y = true:=by unfold stillW at hend; exact List.all_eq_true.1 hend y (List.mem_of_getElem? hy)
  obtain ⟨f1,f2⟩:=(hxk t y hy).ends hid
  simp only at f1 f2
  rw [hpt t ht] at f1 f2
  have q:=hF y.r.told (lineP t many) (by have:=(good_sizes hg.r).2.2; omega) (by rw [lineP_len]; omega) hg.r.m
  rw [f2,f1,beq_self_eq_true] at q
  exact ⟨y,hy,q⟩
 obtain ⟨y0,v0,q0⟩:=key 0 (by decide)
 have w0:=at_ll v0
 have z1 : ((x.lanes.length : Int) != 1) = false:=by rw [hxl,hwn]; rfl
 have z2 : (x.lanes.length : Int) = 1:=by rw [hxl,hwn]; rfl
 clear hk hx hxk hend key hpt hwt hno hb hC hA
 unfold tlH1
 simp only [List.cons_append,List.nil_append,encWd] at p1 h2 h3 ⊢
 refine wk0 ?_
 refine cg [[aD (encWd w),sD 1 (es.map vI),vI 0]] (an3 @encWd.eq_1 @b1 @len_sl) ?_ ?_
 ·exact obl_cons p1 obl_nil
 refine wk0 ?_
 refine cg [[aD (encWd x),vI K]] @encWd.eq_1 ?_ ?_
 ·exact obl_cons h2 obl_nil
 refine wk (an3 @zbne @z1 @len_ll) ?_
 refine cg [[vB true]] (an4 @zbne @z1 @len_ll Bool.not_true) ?_ ?_
 ·exact obl_cons h3 obl_nil
 refine wk (an2 @z2 @len_ll) ?_
 refine aw_loop (TlE1 (encLl x.lanes) many) 1 (tlE1 (encLl x.lanes) many 0 0) (Le.refl _) (.inl ⟨rfl,rfl⟩) ?_
 rintro m st (⟨rfl,rfl⟩ | ⟨rfl,rfl⟩)
 ·have g1 : (0 : Int) < 1:=by decide
  have g2 : (0 : Int) ≤ 0:=by decide
  have g3 : (0 : Int).toNat = 0:=rfl
  have g4 : (0 : Int) + 1 = 1:=by decide
  have g5 : inR .i64 1 = true:=by decide
  have hnx : Next (TlE1 (encLl x.lanes) many) 1 (tlE1 (encLl x.lanes) many 0 1):=⟨0,_,by decide,Le.refl _,.inr (⟨rfl,rfl⟩)⟩
  generalize TlE1 (encLl x.lanes) many = J at *
  unfold tlE1 at hnx ⊢
  simp only [encLn] at w0
  refine wk (an5 @g1 @g2 @g3 @w0 @Int.cast_ofNat_Int) ?_
  refine cd [[vB true]] (an4 @g1 @g2 @g3 @Int.cast_ofNat_Int) ?_ ?_
  ·exact obl_cons q0 obl_nil
  refine wk (an3 Bool.not_true @g4 @g5) ?_
  exact hnx
 ·have g1 : ¬ (1 : Int) < 1:=by decide
  generalize TlE1 (encLl x.lanes) many = J at *
  unfold tlE1
  refine wk @g1 ?_
  exact ValsLe.refl _
def tlE2 (ll : List D) (many k : Nat) (c : Int) : St:=⟨[(8,rD 41 0 1 2),(105,sD 17 ll),(106,vI 2),(107,vI c)],[(41,[sD 2 (encMl (lineP 0 many)),sD 2 (encMl (lineP 1 many))])],[((41,some 1),(28,2,none)),((41,some 0),(28,2,none))]⟩
def TlE2 (ll : List D) (many : Nat) : Nat → St → Prop:=fun m st => (m = 2 ∧ st = tlE2 ll many 0 0) ∨ (m = 1 ∧ st = tlE2 ll many 0 1) ∨ (m = 0 ∧ st = tlE2 ll many 0 2)
theorem topLine_good2 (hT : CTParse 22) (hP : CFPlay 9) (hS : CFSettle 10) (hK : CKStill 11) (hF : CPAll 12) (many : Nat) (hm : many ≤ 6) (B : List Sp) (hb : calmB B = true) : Told Try.prog 3 [vI 2,vI many,sD 7 (encSl B)] [vB true]:=by
 refine told_lktop_TopLine rfl ?_
 have hA:=aliveTop_told hT hP hS hK
 obtain ⟨hb1,hno⟩:=calm_no hb
 have hC:=calm_told B (by omega)
 rw [hb] at hC
 have n1 : ¬ (2 : Int) < 1:=by decide
 have n2 : ¬ (3 : Int) < 2:=by decide
 have n3 : ¬ (many : Int) < 0:=by omega
 have n4 : ¬ 6 < (many : Int):=by omega
 have c1 : (0 : Int) ≤ 2:=by decide
 have c2 : (2 : Int) ≤ 1000000:=by decide
 have c3 : (2 : Int).toNat = 2:=rfl
 refine wk0 ?_
 refine cg [[vB true]] Bool.not_true ?_ ?_
 ·exact obl_cons hA obl_nil
 refine wk (an4 @n1 @n2 @n3 @n4) ?_
 refine cg [[vB true]] (an5 @n1 @n2 @n3 @n4 Bool.not_true) ?_ ?_
 ·exact obl_cons hC obl_nil
 refine wk (an5 @c1 @c2 @c3 @zrs @zr0) ?_
 refine le_loop (st':=tlH2 (encSl B) many 0) ((((Le.nilB 41 0 28 2 (by decide) rfl rfl).trans (Le.nilS 7 30 7 rfl)).trans (Le.nilB 41 1 28 2 (by decide) rfl rfl)).trans (Le.keep (lv:=[0,2,7,8,42,43]) (lb:=[41]) (by simp only [ev0,ev1,ev2,look,lookF,cellsFrom,offT,offP,List.tail_nil,List.length_nil,Int.cast_ofNat_Int,Nat.reduceEqDiff,Nat.reduceAdd,Nat.reduceMul,Nat.reduceLeDiff,Nat.reduceLT,↓reduceIte,reduceCtorEq,Int.reduceBEq,Int.reduceBNe,Int.reduceLT,Int.reduceLE,Int.reduceToNat]; rfl))) (tl_outer2 (encSl B) many hm _ ?_)
 have l0 : (lineL 2 many).length ≤ 18:=by rw [lineL_len]; omega
 have l1 : (lineL 2 many ++ B).length ≤ 160:=by rw [List.length_append]; omega
 have b1 : ((lineL 2 many).length + B.length) * 72 ≤ 140737488355328:=by omega
 have p1:=hP.2.2 2 (lineL 2 many ++ B) (by decide) l1
 rw [sl_app] at p1
 obtain ⟨hw,hwt,_⟩:=good_run (good_new (by decide : 1 ≤ 2 ∧ 2 ≤ 3)) (lineL 2 many ++ B) 160
 rw [List.take_of_length_le l1] at hw hwt
 have ht0 : (newW 2).ticks = 0:=rfl
 rw [ht0] at hwt
 have hwn : (runW (newW 2) (lineL 2 many ++ B)).1.lanes.length = 2:=by rw [lenW_run]; rfl
 have c4 : ((2 : Nat) : Int) = 2:=rfl
 rw [c4] at p1
 have hk:=wknow_run 2 (lineL 2 many ++ B) (fun s hs => by
  rcases List.mem_append.1 hs with q | q
  ·rw [line_kind s q]; decide
  ·exact (hno s q).2) (lineL 2 many ++ B).length (Nat.le_refl _)
 rw [List.take_length] at hk
 have hpt : ∀ t : Nat,t < 2 → putsW (lineL 2 many ++ B) (runW (newW 2) (lineL 2 many ++ B)).2 t = lineP t many:=fun t ht => line_puts (by decide) hm ht B (fun s hs => (hno s hs).1) (by decide)
 generalize (runW (newW 2) (lineL 2 many ++ B)).2 = es at *
 generalize (runW (newW 2) (lineL 2 many ++ B)).1 = w at *
 have hx:=hw.rounds (settleK 200 w)
 have hxk:=hk.rounds (settleK 200 w)
 have hend:=settle_ends hw hk
 have hxl:=roundN_len (settleK 200 w) w
 have h2:=hS w hw (by omega)
 have h3:=hK _ (by have:=hx.n; omega) (fun l hl => good_smallN (hx.l l hl))
 rw [hend] at h3
 generalize settleK 200 w = K at *
 generalize roundN K w = x at *
 have key : ∀ t : Nat,t < 2 → ∃ y,x.lanes[t]? = some y ∧ Told Try.prog 12 [sD 2 (encMl y.r.told),sD 2 (encMl (lineP t many))] [vB true]:=by
  intro t ht
  obtain ⟨y,hy⟩ : ∃ y,x.lanes[t]? = some y:=⟨x.lanes[t]'(by omega),List.getElem?_eq_getElem (by omega)⟩
  have hg:=hx.l y (List.mem_of_getElem? hy)
  have hid : idleL y = true:=by unfold stillW at hend; exact List.all_eq_true.1 hend y (List.mem_of_getElem? hy)
  obtain ⟨f1,f2⟩:=(hxk t y hy).ends hid
  simp only at f1 f2
  rw [hpt t ht] at f1 f2
  have q:=hF y.r.told (lineP t many) (by have:=(good_sizes hg.r).2.2; omega) (by rw [lineP_len]; omega) hg.r.m
  rw [f2,f1,beq_self_eq_true] at q
  exact ⟨y,hy,q⟩
 obtain ⟨y0,v0,q0⟩:=key 0 (by decide)
 have w0:=at_ll v0
 obtain ⟨y1,v1,q1⟩:=key 1 (by decide)
 have w1:=at_ll v1
 have z1 : ((x.lanes.length : Int) != 2) = false:=by rw [hxl,hwn]; rfl
 have z2 : (x.lanes.length : Int) = 2:=by rw [hxl,hwn]; rfl
 clear hk hx hxk hend key hpt hwt hno hb hC hA
 unfold tlH2
 simp only [List.cons_append,List.nil_append,encWd] at p1 h2 h3 ⊢
 refine wk0 ?_
 refine cg [[aD (encWd w),sD 1 (es.map vI),vI 0]] (an3 @encWd.eq_1 @b1 @len_sl) ?_ ?_
 ·exact obl_cons p1 obl_nil
 refine wk0 ?_
 refine cg [[aD (encWd x),vI K]] @encWd.eq_1 ?_ ?_
 ·exact obl_cons h2 obl_nil
 refine wk (an3 @zbne @z1 @len_ll) ?_
 refine cg [[vB true]] (an4 @zbne @z1 @len_ll Bool.not_true) ?_ ?_
 ·exact obl_cons h3 obl_nil
 refine wk (an2 @z2 @len_ll) ?_
 refine aw_loop (TlE2 (encLl x.lanes) many) 2 (tlE2 (encLl x.lanes) many 0 0) (Le.refl _) (.inl ⟨rfl,rfl⟩) ?_
 rintro m st (⟨rfl,rfl⟩ | ⟨rfl,rfl⟩ | ⟨rfl,rfl⟩)
 ·have g1 : (0 : Int) < 2:=by decide
  have g2 : (0 : Int) ≤ 0:=by decide
  have g3 : (0 : Int).toNat = 0:=rfl
  have g4 : (0 : Int) + 1 = 1:=by decide
  have g5 : inR .i64 1 = true:=by decide
  have hnx : Next (TlE2 (encLl x.lanes) many) 2 (tlE2 (encLl x.lanes) many 0 1):=⟨1,_,by decide,Le.refl _,.inr (.inl ⟨rfl,rfl⟩)⟩
  generalize TlE2 (encLl x.lanes) many = J at *
  unfold tlE2 at hnx ⊢
  simp only [encLn] at w0
  refine wk (an5 @g1 @g2 @g3 @w0 @Int.cast_ofNat_Int) ?_
  refine cd [[vB true]] (an4 @g1 @g2 @g3 @Int.cast_ofNat_Int) ?_ ?_
  ·exact obl_cons q0 obl_nil
  refine wk (an3 Bool.not_true @g4 @g5) ?_
  exact hnx
 ·have g1 : (1 : Int) < 2:=by decide
  have g2 : (0 : Int) ≤ 1:=by decide
  have g3 : (1 : Int).toNat = 1:=rfl
  have g4 : (1 : Int) + 1 = 2:=by decide
  have g5 : inR .i64 2 = true:=by decide
  have hnx : Next (TlE2 (encLl x.lanes) many) 1 (tlE2 (encLl x.lanes) many 0 2):=⟨0,_,by decide,Le.refl _,.inr (.inr (⟨rfl,rfl⟩))⟩
  generalize TlE2 (encLl x.lanes) many = J at *
  unfold tlE2 at hnx ⊢
  simp only [encLn] at w1
  refine wk (an5 @g1 @g2 @g3 @w1 @Int.cast_ofNat_Int) ?_
  refine cd [[vB true]] (an4 @g1 @g2 @g3 @Int.cast_ofNat_Int) ?_ ?_
  ·exact obl_cons q1 obl_nil
  refine wk (an3 Bool.not_true @g4 @g5) ?_
  exact hnx
 ·have g1 : ¬ (2 : Int) < 2:=by decide
  generalize TlE2 (encLl x.lanes) many = J at *
  unfold tlE2
  refine wk @g1 ?_
  exact ValsLe.refl _
def tlE3 (ll : List D) (many k : Nat) (c : Int) : St:=⟨[(8,rD 41 0 1 3),(105,sD 17 ll),(106,vI 3),(107,vI c)],[(41,[sD 2 (encMl (lineP 0 many)),sD 2 (encMl (lineP 1 many)),sD 2 (encMl (lineP 2 many))])],[((41,some 2),(28,2,none)),((41,some 1),(28,2,none)),((41,some 0),(28,2,none))]⟩
def TlE3 (ll : List D) (many : Nat) : Nat → St → Prop:=fun m st => (m = 3 ∧ st = tlE3 ll many 0 0) ∨ (m = 2 ∧ st = tlE3 ll many 0 1) ∨ (m = 1 ∧ st = tlE3 ll many 0 2) ∨ (m = 0 ∧ st = tlE3 ll many 0 3)
theorem topLine_good3 (hT : CTParse 22) (hP : CFPlay 9) (hS : CFSettle 10) (hK : CKStill 11) (hF : CPAll 12) (many : Nat) (hm : many ≤ 6) (B : List Sp) (hb : calmB B = true) : Told Try.prog 3 [vI 3,vI many,sD 7 (encSl B)] [vB true]:=by
 refine told_lktop_TopLine rfl ?_
 have hA:=aliveTop_told hT hP hS hK
 obtain ⟨hb1,hno⟩:=calm_no hb
 have hC:=calm_told B (by omega)
 rw [hb] at hC
 have n1 : ¬ (3 : Int) < 1:=by decide
 have n2 : ¬ (3 : Int) < 3:=by decide
 have n3 : ¬ (many : Int) < 0:=by omega
 have n4 : ¬ 6 < (many : Int):=by omega
 have c1 : (0 : Int) ≤ 3:=by decide
 have c2 : (3 : Int) ≤ 1000000:=by decide
 have c3 : (3 : Int).toNat = 3:=rfl
 refine wk0 ?_
 refine cg [[vB true]] Bool.not_true ?_ ?_
 ·exact obl_cons hA obl_nil
 refine wk (an4 @n1 @n2 @n3 @n4) ?_
 refine cg [[vB true]] (an5 @n1 @n2 @n3 @n4 Bool.not_true) ?_ ?_
 ·exact obl_cons hC obl_nil
 refine wk (an5 @c1 @c2 @c3 @zrs @zr0) ?_
 refine le_loop (st':=tlH3 (encSl B) many 0) (((((Le.nilB 41 0 28 2 (by decide) rfl rfl).trans (Le.nilB 41 1 28 2 (by decide) rfl rfl)).trans (Le.nilS 7 30 7 rfl)).trans (Le.nilB 41 2 28 2 (by decide) rfl rfl)).trans (Le.keep (lv:=[0,2,7,8,42,43]) (lb:=[41]) (by simp only [ev0,ev1,ev2,look,lookF,cellsFrom,offT,offP,List.tail_nil,List.length_nil,Int.cast_ofNat_Int,Nat.reduceEqDiff,Nat.reduceAdd,Nat.reduceMul,Nat.reduceLeDiff,Nat.reduceLT,↓reduceIte,reduceCtorEq,Int.reduceBEq,Int.reduceBNe,Int.reduceLT,Int.reduceLE,Int.reduceToNat]; rfl))) (tl_outer3 (encSl B) many hm _ ?_)
 have l0 : (lineL 3 many).length ≤ 18:=by rw [lineL_len]; omega
 have l1 : (lineL 3 many ++ B).length ≤ 160:=by rw [List.length_append]; omega
 have b1 : ((lineL 3 many).length + B.length) * 72 ≤ 140737488355328:=by omega
 have p1:=hP.2.2 3 (lineL 3 many ++ B) (by decide) l1
 rw [sl_app] at p1
 obtain ⟨hw,hwt,_⟩:=good_run (good_new (by decide : 1 ≤ 3 ∧ 3 ≤ 3)) (lineL 3 many ++ B) 160
 rw [List.take_of_length_le l1] at hw hwt
 have ht0 : (newW 3).ticks = 0:=rfl
 rw [ht0] at hwt
 have hwn : (runW (newW 3) (lineL 3 many ++ B)).1.lanes.length = 3:=by rw [lenW_run]; rfl
 have c4 : ((3 : Nat) : Int) = 3:=rfl
 rw [c4] at p1
 have hk:=wknow_run 3 (lineL 3 many ++ B) (fun s hs => by
  rcases List.mem_append.1 hs with q | q
  ·rw [line_kind s q]; decide
  ·exact (hno s q).2) (lineL 3 many ++ B).length (Nat.le_refl _)
 rw [List.take_length] at hk
 have hpt : ∀ t : Nat,t < 3 → putsW (lineL 3 many ++ B) (runW (newW 3) (lineL 3 many ++ B)).2 t = lineP t many:=fun t ht => line_puts (by decide) hm ht B (fun s hs => (hno s hs).1) (by decide)
 generalize (runW (newW 3) (lineL 3 many ++ B)).2 = es at *
 generalize (runW (newW 3) (lineL 3 many ++ B)).1 = w at *
 have hx:=hw.rounds (settleK 200 w)
 have hxk:=hk.rounds (settleK 200 w)
 have hend:=settle_ends hw hk
 have hxl:=roundN_len (settleK 200 w) w
 have h2:=hS w hw (by omega)
 have h3:=hK _ (by have:=hx.n; omega) (fun l hl => good_smallN (hx.l l hl))
 rw [hend] at h3
 generalize settleK 200 w = K at *
 generalize roundN K w = x at *
 have key : ∀ t : Nat,t < 3 → ∃ y,x.lanes[t]? = some y ∧ Told Try.prog 12 [sD 2 (encMl y.r.told),sD 2 (encMl (lineP t many))] [vB true]:=by
  intro t ht
  obtain ⟨y,hy⟩ : ∃ y,x.lanes[t]? = some y:=⟨x.lanes[t]'(by omega),List.getElem?_eq_getElem (by omega)⟩
  have hg:=hx.l y (List.mem_of_getElem? hy)
  have hid : idleL y = true:=by unfold stillW at hend; exact List.all_eq_true.1 hend y (List.mem_of_getElem? hy)
  obtain ⟨f1,f2⟩:=(hxk t y hy).ends hid
  simp only at f1 f2
  rw [hpt t ht] at f1 f2
  have q:=hF y.r.told (lineP t many) (by have:=(good_sizes hg.r).2.2; omega) (by rw [lineP_len]; omega) hg.r.m
  rw [f2,f1,beq_self_eq_true] at q
  exact ⟨y,hy,q⟩
 obtain ⟨y0,v0,q0⟩:=key 0 (by decide)
 have w0:=at_ll v0
 obtain ⟨y1,v1,q1⟩:=key 1 (by decide)
 have w1:=at_ll v1
 obtain ⟨y2,v2,q2⟩:=key 2 (by decide)
 have w2:=at_ll v2
 have z1 : ((x.lanes.length : Int) != 3) = false:=by rw [hxl,hwn]; rfl
 have z2 : (x.lanes.length : Int) = 3:=by rw [hxl,hwn]; rfl
 clear hk hx hxk hend key hpt hwt hno hb hC hA
 unfold tlH3
 simp only [List.cons_append,List.nil_append,encWd] at p1 h2 h3 ⊢
 refine wk0 ?_
 refine cg [[aD (encWd w),sD 1 (es.map vI),vI 0]] (an3 @encWd.eq_1 @b1 @len_sl) ?_ ?_
 ·exact obl_cons p1 obl_nil
 refine wk0 ?_
 refine cg [[aD (encWd x),vI K]] @encWd.eq_1 ?_ ?_
 ·exact obl_cons h2 obl_nil
 refine wk (an3 @zbne @z1 @len_ll) ?_
 refine cg [[vB true]] (an4 @zbne @z1 @len_ll Bool.not_true) ?_ ?_
 ·exact obl_cons h3 obl_nil
 refine wk (an2 @z2 @len_ll) ?_
 refine aw_loop (TlE3 (encLl x.lanes) many) 3 (tlE3 (encLl x.lanes) many 0 0) (Le.refl _) (.inl ⟨rfl,rfl⟩) ?_
 rintro m st (⟨rfl,rfl⟩ | ⟨rfl,rfl⟩ | ⟨rfl,rfl⟩ | ⟨rfl,rfl⟩)
 ·have g1 : (0 : Int) < 3:=by decide
  have g2 : (0 : Int) ≤ 0:=by decide
  have g3 : (0 : Int).toNat = 0:=rfl
  have g4 : (0 : Int) + 1 = 1:=by decide
  have g5 : inR .i64 1 = true:=by decide
  have hnx : Next (TlE3 (encLl x.lanes) many) 3 (tlE3 (encLl x.lanes) many 0 1):=⟨2,_,by decide,Le.refl _,.inr (.inl ⟨rfl,rfl⟩)⟩
  generalize TlE3 (encLl x.lanes) many = J at *
  unfold tlE3 at hnx ⊢
  simp only [encLn] at w0
  refine wk (an5 @g1 @g2 @g3 @w0 @Int.cast_ofNat_Int) ?_
  refine cd [[vB true]] (an4 @g1 @g2 @g3 @Int.cast_ofNat_Int) ?_ ?_
  ·exact obl_cons q0 obl_nil
  refine wk (an3 Bool.not_true @g4 @g5) ?_
  exact hnx
 ·have g1 : (1 : Int) < 3:=by decide
  have g2 : (0 : Int) ≤ 1:=by decide
  have g3 : (1 : Int).toNat = 1:=rfl
  have g4 : (1 : Int) + 1 = 2:=by decide
  have g5 : inR .i64 2 = true:=by decide
  have hnx : Next (TlE3 (encLl x.lanes) many) 2 (tlE3 (encLl x.lanes) many 0 2):=⟨1,_,by decide,Le.refl _,.inr (.inr (.inl ⟨rfl,rfl⟩))⟩
  generalize TlE3 (encLl x.lanes) many = J at *
  unfold tlE3 at hnx ⊢
  simp only [encLn] at w1
  refine wk (an5 @g1 @g2 @g3 @w1 @Int.cast_ofNat_Int) ?_
  refine cd [[vB true]] (an4 @g1 @g2 @g3 @Int.cast_ofNat_Int) ?_ ?_
  ·exact obl_cons q1 obl_nil
  refine wk (an3 Bool.not_true @g4 @g5) ?_
  exact hnx
 ·have g1 : (2 : Int) < 3:=by decide
  have g2 : (0 : Int) ≤ 2:=by decide
  have g3 : (2 : Int).toNat = 2:=rfl
  have g4 : (2 : Int) + 1 = 3:=by decide
  have g5 : inR .i64 3 = true:=by decide
  have hnx : Next (TlE3 (encLl x.lanes) many) 1 (tlE3 (encLl x.lanes) many 0 3):=⟨0,_,by decide,Le.refl _,.inr (.inr (.inr (⟨rfl,rfl⟩)))⟩
  generalize TlE3 (encLl x.lanes) many = J at *
  unfold tlE3 at hnx ⊢
  simp only [encLn] at w2
  refine wk (an5 @g1 @g2 @g3 @w2 @Int.cast_ofNat_Int) ?_
  refine cd [[vB true]] (an4 @g1 @g2 @g3 @Int.cast_ofNat_Int) ?_ ?_
  ·exact obl_cons q2 obl_nil
  refine wk (an3 Bool.not_true @g4 @g5) ?_
  exact hnx
 ·have g1 : ¬ (3 : Int) < 3:=by decide
  generalize TlE3 (encLl x.lanes) many = J at *
  unfold tlE3
  refine wk @g1 ?_
  exact ValsLe.refl _
theorem topLine_told (hT : CTParse 22) (hP : CFPlay 9) (hS : CFSettle 10) (hK : CKStill 11) (hF : CPAll 12) (n k : Int) (B : List Sp) (hB : B.length ≤ 9223372036854775807) : Told Try.prog 3 [vI n,vI k,sD 7 (encSl B)] [vB true]:=by
 by_cases h : n < 1 ∨ 3 < n ∨ k < 0 ∨ 6 < k ∨ calmB B = false
 ·refine told_lktop_TopLine rfl ?_
  have hA:=aliveTop_told hT hP hS hK
  refine wk0 ?_
  refine cg [[vB true]] Bool.not_true ?_ ?_
  ·exact obl_cons hA obl_nil
  by_cases n1 : n < 1
  ·refine wk @n1 ?_
   exact ValsLe.refl _
  by_cases n2 : 3 < n
  ·refine wk (an2 @n1 @n2) ?_
   exact ValsLe.refl _
  by_cases n3 : k < 0
  ·refine wk (an3 @n1 @n2 @n3) ?_
   exact ValsLe.refl _
  by_cases n4 : 6 < k
  ·refine wk (an4 @n1 @n2 @n3 @n4) ?_
   exact ValsLe.refl _
  have n5 : calmB B = false:=by
   rcases h with h | h | h | h | h
   ·exact absurd h n1
   ·exact absurd h n2
   ·exact absurd h n3
   ·exact absurd h n4
   ·exact h
  have hC:=calm_told B hB
  rw [n5] at hC
  refine wk (an4 @n1 @n2 @n3 @n4) ?_
  refine cg [[vB false]] (an5 @n1 @n2 @n3 @n4 Bool.not_false) ?_ ?_
  ·exact obl_cons hC obl_nil
  refine wk0 ?_
  exact ValsLe.refl _
 ·have hc : calmB B = true:=by
   cases e : calmB B with
   | true => rfl
   | false => exact absurd (.inr (.inr (.inr (.inr e)))) h
  obtain ⟨q,rfl⟩ : ∃ q : Nat,k = q:=⟨k.toNat,by omega⟩
  have hn : n = 1 ∨ n = 2 ∨ n = 3:=by omega
  rcases hn with rfl | rfl | rfl
  ·exact topLine_good1 hT hP hS hK hF q (by omega) B hc
  ·exact topLine_good2 hT hP hS hK hF q (by omega) B hc
  ·exact topLine_good3 hT hP hS hK hF q (by omega) B hc
end Go.Proofs.Ytgaofjiidedcbad.ab
