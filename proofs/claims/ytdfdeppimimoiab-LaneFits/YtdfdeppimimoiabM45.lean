import Derived.Test.YtdfdeppimimoiabM41
import Derived.Test.YtdfdeppimimoiabM27
import Derived.Test.YtdfdeppimimoiabM44
import Derived.Deep.RegionHeld
import Derived.Below
import Derived.WalkKit
namespace Go.Proofs.Ytdfdeppimimoiab.ab
set_option maxRecDepth 10000
set_option linter.unusedVariables false
set_option linter.unusedSimpArgs false
open Go Go.RowKit
open mth leaf
set_option maxHeartbeats 1000000 in
theorem cloneO_n (a : List D) (ha : a.length ≤ 140737488355328) : ToldO Try.prog 68 [nD 1 a] [sD 1 a] none 5 (1,none):=by
 refine toldO_bytes_CloneO rfl ?_
 have h1 : a.length * 1 ≤ 140737488355328:=by omega
 have h2 : (0 + a.length) * 1 ≤ 140737488355328:=by omega
 refine wk (an2 @h1 @h2) ?_
 exact fin1_ret ⟨_,rfl,rfl,CVLe.refl _,rfl⟩
set_option maxHeartbeats 1000000 in
theorem clone_nil : Told Try.prog 68 [vD (.slice none 0 0)] [vD (.slice none 0 0)]:=by
 refine told_bytes_CloneL rfl ?_
 refine wk0 ?_
 exact ValsLe.refl _
theorem own_bytes {I : Still} {w : World} {base n : Nat} {u : Value} {xs : List Value} {b : List UInt8} (h : w.ownsRow base 5 1 u n xs) (hr : CRep I w (sD 1 (b.map encB)) u) : n = b.length ∧ xs = b.map B:=by
 obtain ⟨a,cap,hu,U,q1,q2,q3,q4,q5,q6⟩:=hr.invS
 rw [List.length_map] at hu q1
 obtain ⟨hl,h⟩:=h
 rw [Nat.mul_one] at hl
 rcases h with ⟨rfl,rfl⟩ | ⟨g,cap',cur,rfl,_,hg,hn,hm,hs,ht⟩
 ·injection hu with e1 e2 e3
  have : b = []:=List.eq_nil_of_length_eq_zero e2.symm
  subst this
  exact ⟨rfl,List.eq_nil_of_length_eq_zero hl⟩
 ·injection hu with e1 e2 e3
  subst e2
  refine ⟨rfl,List.ext_getElem? fun j => ?_⟩
  by_cases hj : j < b.length
  ·obtain ⟨c,hc⟩ : ∃ c,b[j]? = some c:=⟨_,List.getElem?_eq_getElem hj⟩
   have hne : b.map encB ≠ []:=by intro e; have:=congrArg List.length e; simp at this; subst this; simp at hj
   obtain ⟨bb,off,ha,hcell⟩:=q5 hne
   rw [ha] at e1
   cases e1
   have h1:=(hcell j 0 (by simpa using hj) (by omega)).1
   rw [show 0 + j * 1 + 0 = j by omega,cell_of_row w g j cur 5 (0,0) hg] at h1
   have h2:=q6 j 0 (encB c) (encB c) (by rw [List.getElem?_map,hc]; rfl) rfl
   have h3:=CRep.invV h2
   rw [List.getElem?_map,hc,← ht,Nat.mul_one,List.getElem?_take,if_pos hj,Array.getElem?_toList,h1,h3.1]
   rfl
  ·rw [List.getElem?_eq_none (by rw [hl]; omega),List.getElem?_eq_none (by rw [List.length_map]; omega)]
theorem clone_deep (b : List UInt8) (hb : b.length ≤ 140737488355328) (w : World) (I : Still) (v : Value) (h : CRep I w (sD 1 (b.map encB)) v) (hlt : ∀ b j,I b j → b < w.heap.size) :
  Calls Try.prog 68 #[v] w fun e w' => ∃ u,e = .returned u ∧ w'.ownsRow w.heap.size 5 1 u b.length (b.map B) ∧ Below w.heap.size w w':=by
 have hn : CRep I w (nD 1 (b.map encB)) v → Calls Try.prog 68 #[v] w fun e w' => ∃ u,e = .returned u ∧ w'.ownsRow w.heap.size 5 1 u b.length (b.map B) ∧ Below w.heap.size w w':=fun q => by
  refine (cloneO_n (b.map encB) (by simpa using hb) w I [v] (Vals.cons (.inl q) Vals.nil) hlt).mono fun x w' ⟨v',I',u,hx,h1,h2,h3,h4,h5,h6⟩ => ?_
  have e : v' = u:=by simpa [cellAt] using h4
  subst e
  obtain ⟨n,xs,k1,k2,k3⟩:=h5
  have hr : CRep I' w' (sD 1 (b.map encB)) v':=CVRep.leaf h3 (fun cs e => by cases e)
  obtain ⟨rfl,rfl⟩:=own_bytes k1 hr
  refine ⟨v',hx,⟨k1.1,k1.2.imp id fun ⟨g,cap,cur,r1,r2,r3⟩ => ⟨g,cap,cur,r1,Nat.le_of_not_lt (k2 g (by rw [r1]; rfl)).1,r3⟩⟩,h6⟩
 cases b with
 | nil =>
  rcases nil_or (.inl (by simpa using h) : CVRep I w (sD 1 []) v) with q | q
  ·refine (clone_nil w I [v] (Vals.cons q Vals.nil) hlt).mono fun x w' ⟨u,hx,h1,h2⟩ => ?_
   have h1' : CVRep _ w' (vD (.slice none 0 0)) u:=h1
   have e:=(CRep.invV (h1'.leaf (fun cs e => by cases e))).1
   subst e
   exact ⟨_,hx,World.ownsRow_nil _ _ _ _,h2⟩
  ·exact hn (q.leaf (fun cs e => by cases e))
 | cons c r => exact hn ((LfLe.sn 1 _ _).rep h)
structure Deep (w : World) (base : Nat) (u : Value) (k : Nat) (xs : List Value) (p : List (List UInt8)) : Prop where
 own : w.ownsRow base 30 1 u k xs
 el : ∀ (j : Nat) b,j < k → p[j]? = some b → ∃ x,xs[j]? = some x ∧ w.ownsRow base 5 1 x b.length (b.map B)
 apart : ∀ (i j : Nat) x y g,xs[i]? = some x → xs[j]? = some y → x.ownBlock = some g → y.ownBlock = some g → i = j
theorem owns_type {w : World} {base base' e e' n n' : Nat} {u x : Value} {xs ys : List Value} (h : w.ownsRow base e 1 u n xs) (h' : w.ownsRow base' e' 1 x n' ys) (hne : e ≠ e') {g : Nat} (hg : x.ownBlock = some g) : u.ownBlock ≠ some g:=by
 intro hu
 obtain ⟨_,⟨rfl,_⟩ | ⟨g1,cap,cur,rfl,_,k1,_⟩⟩:=h
 ·simp [Value.ownBlock] at hu
 ·obtain ⟨_,⟨rfl,_⟩ | ⟨g2,cap',cur',rfl,_,k2,_⟩⟩:=h'
  ·simp [Value.ownBlock] at hg
  ·simp [Value.ownBlock] at hu hg
   subst hu hg
   rw [k1] at k2
   injection k2 with k2
   injection k2 with _ e3
   exact hne e3
theorem owns_grown {w w' : World} {base e n : Nat} {x : Value} {ys : List Value} {r : Option Nat} (h : w.ownsRow base e 1 x n ys) (hg : w.grownBy w' r) (hr : ∀ g,x.ownBlock = some g → r ≠ some g) : w'.ownsRow base e 1 x n ys:=by
 obtain ⟨h1,h2⟩:=h
 refine ⟨h1,h2.imp id fun ⟨g,cap,cur,k1,k2,k3,k4⟩ => ⟨g,cap,cur,k1,k2,?_,k4⟩⟩
 rw [hg.block g (Array.getElem?_eq_some_iff.1 k3).1 (fun e => hr g (by rw [k1]; rfl) e.symm)]
 exact k3
theorem infoPk : (Try.prog.info? 30).map (fun i => (i.zero,i.size,i.bytes)) = some (some (.slice none 0 0),1,24):=by kernel_rfl
theorem one_newO (w : World) (v : Value) : ∀ (j : Nat) (u : Value),[v][j]? = some u → (w.alloc (.cells #[v] 30)).cell? ((⟨w.heap.size,0,none⟩ : Addr).add j) = some u:=by
 intro j u hj
 rw [Addr.add_lit,Nat.zero_add,World.cell?_alloc_mark]
 simpa using hj
theorem one_oneO {w : World} {base e n : Nat} {v : Value} {xs : List Value} (h : w.ownsRow base e 1 v n xs) : ∀ u ∈ [v],u.oneCell' = true:=by
 intro u hu
 simp at hu
 subst hu
 obtain ⟨a,c,rfl⟩:=owns_form h
 rfl
theorem deep_step {wr w1 w2 : World} {B0 k : Nat} {u x v2 : Value} {xs : List Value} {p : List (List UInt8)} {b : List UInt8} {o : Obj} (hD : Deep wr B0 u k xs p) (hb1 : Below wr.heap.size wr w1) (hx1 : w1.ownsRow wr.heap.size 5 1 x b.length (b.map B)) (ho1 : w1.ownsRow B0 30 1 u k xs)
  (ho2 : w2.ownsRow B0 30 1 v2 (k + 1) (xs ++ [x])) (hg : (w1.alloc o).grownBy w2 u.ownBlock) (hB : B0 ≤ wr.heap.size) (hb : p[k]? = some b) : Deep w2 B0 v2 (k + 1) (xs ++ [x]) p:=by
 have hxl : xs.length = k:=by have:=hD.own.1; omega
 have hal : ∀ {e n : Nat} {y : Value} {ys : List Value},w1.ownsRow B0 e 1 y n ys → (∀ g,y.ownBlock = some g → u.ownBlock ≠ some g) → w2.ownsRow B0 e 1 y n ys:=fun h hne => owns_grown (h.alloc _) hg hne
 have hold : ∀ (j : Nat) y,xs[j]? = some y → ∃ bj,p[j]? = some bj ∧ j < k ∧ wr.ownsRow B0 5 1 y bj.length (bj.map B):=fun j y hy => by
  have hj : j < k:=by rw [← hxl]; exact (List.getElem?_eq_some_iff.1 hy).1
  have hkp : k < p.length:=(List.getElem?_eq_some_iff.1 hb).1
  obtain ⟨x',q1,q2⟩:=hD.el j p[j] hj (List.getElem?_eq_getElem (by omega))
  rw [hy] at q1; cases q1
  exact ⟨_,List.getElem?_eq_getElem (by omega),hj,q2⟩
 have hx1' : w1.ownsRow B0 5 1 x b.length (b.map B):=⟨hx1.1,hx1.2.imp id fun ⟨g,cap,cur,k1,k2,k3⟩ => ⟨g,cap,cur,k1,Nat.le_trans hB k2,k3⟩⟩
 have hnew : ∀ g,x.ownBlock = some g → wr.heap.size ≤ g:=fun g hg' => (hx1.lt g hg').1
 refine ⟨ho2,fun j bj hj hbj => ?_,fun i j y z g hi hj hy hz => ?_⟩
 ·by_cases hjk : j < k
  ·obtain ⟨y,q1,q2⟩:=hD.el j bj hjk hbj
   refine ⟨y,by rw [List.getElem?_append_left (by omega)]; exact q1,hal (ownsI_later q2 hb1) (fun g hg' => owns_type ho1 (ownsI_later q2 hb1) (by decide) hg')⟩
  ·have : j = k:=by omega
   subst this
   rw [hb] at hbj; cases hbj
   exact ⟨x,by rw [List.getElem?_append_right (by omega),hxl,Nat.sub_self]; rfl,hal hx1' (fun g hg' => owns_type ho1 hx1' (by decide) hg')⟩
 ·have hcase : ∀ (i : Nat) y,(xs ++ [x])[i]? = some y → (i < k ∧ xs[i]? = some y) ∨ (i = k ∧ y = x):=fun i y hi => by
   by_cases hik : i < k
   ·exact .inl ⟨hik,by rw [← hi,List.getElem?_append_left (by omega)]⟩
   ·have : i < k + 1:=by have:=(List.getElem?_eq_some_iff.1 hi).1; simp at this; omega
    have : i = k:=by omega
    subst this
    rw [List.getElem?_append_right (by omega),hxl,Nat.sub_self] at hi
    simp at hi
    exact .inr ⟨rfl,hi.symm⟩
  rcases hcase i y hi with ⟨i1,i2⟩ | ⟨i1,rfl⟩
  ·rcases hcase j z hj with ⟨j1,j2⟩ | ⟨j1,rfl⟩
   ·exact hD.apart i j y z g i2 j2 hy hz
   ·obtain ⟨bi,_,_,q⟩:=hold i y i2
    have:=(q.lt g hy).2
    have:=hnew g hz
    omega
  ·rcases hcase j z hj with ⟨j1,j2⟩ | ⟨j1,rfl⟩
   ·obtain ⟨bi,_,_,q⟩:=hold j z j2
    have:=(q.lt g hz).2
    have:=hnew g hy
    omega
   ·omega
set_option maxHeartbeats 8000000 in
theorem listOwn_deep (p : List (List UInt8)) (hp : p.length ≤ 1000) (hx : ∀ x ∈ p,x.length ≤ 1000) (w : World) (I : Still) (v : Value) (h : CRep I w (sD 1 (encPk p)) v) (hlt : ∀ b j,I b j → b < w.heap.size) :
  Calls Try.prog 67 #[v,.func (.func 68) #[] #[]] w fun e w' => ∃ u xs,e = .returned u ∧ Deep w' w.heap.size u p.length xs p ∧ Below w.heap.size w w':=by
 obtain ⟨a,cap,rfl,U,q1,q2,q3,q4,q5,q6⟩:=h.invS
 rw [len_pk] at q1 q5 ⊢
 have HQ5:=hide q5
 have HQ6:=hide q6
 have HLT:=hide hlt
 clear h q4 q5 q6 hlt
 go_enter Try.func67,Try.ntmps67
 go_wp2_with fail
 go_loopw [5,10] (fun s i wr => ∃ (k : Nat) (xs : List Value),k ≤ p.length ∧ i = .int .i64 k ∧ Deep wr w.heap.size s k xs p ∧ Below w.heap.size w wr) (fun _ i _ => p.length - (intOf i).toNat)
 case atStart => exact ⟨0,[],Nat.zero_le _,rfl,⟨World.ownsRow_nil _ _ _ _,(fun j b hj => by omega),(fun i j x y g hi => by simp at hi)⟩,Below.refl _ _⟩
 case round =>
  obtain ⟨k,xs,hk,rfl,hD,hbr⟩:=hrel
  by_cases hlt : k < p.length
  ·obtain ⟨b,hb⟩ : ∃ b,p[k]? = some b:=⟨_,List.getElem?_eq_getElem hlt⟩
   have hbl:=hx b (List.mem_of_getElem? hb)
   obtain ⟨bb,off,rfl,hcell⟩:=HQ5.out (by intro e; have:=congrArg List.length e; simp [encPk] at this; subst this; simp at hlt)
   have hc1:=hcell k 0 hlt (by omega)
   have hc2:=HQ6.out k 0 _ _ (at_pk hb) rfl
   have hcb : bb < w.heap.size:=HLT.out _ _ hc1.2
   have hcr : wr.cell? ⟨bb,off + k,none⟩ = some (U k 0):=by
    rw [hbr.cell (p:=⟨bb,off + k,none⟩) hcb,← hc1.1,Nat.mul_one,Nat.add_zero]
   have hCl : CRep I wr (sD 1 (b.map encB)) (U k 0):=hc2.keep (fun _ _ h => h) (fun b j hi => hbr.cell (p:=⟨b,j,none⟩) (HLT.out b j hi))
   have HCL:=hide (clone_deep b (by omega) wr I (U k 0) hCl (fun b j hi => Nat.lt_of_lt_of_le (HLT.out b j hi) hbr.size))
   have hlt' : (k : Int) < (p.length : Int):=by omega
   obtain ⟨i0,hi,hz0,hz1',hz2⟩:=info_parts infoPk
   generalize U k 0 = uk at *
   have HD:=hide hD
   have HBR:=hide hbr
   have HB:=hide hb
   clear hc1 hc2 hCl hD hbr hb hcell
   go_wp2_with fail
   refine HCL.out.mono ?_
   rintro e w1 ⟨x,rfl,hx1,hb1⟩
   obtain ⟨ax,cx,rfl⟩:=owns_form hx1
   have HX1:=hide hx1
   have HB1:=hide hb1
   clear HCL hx1 hb1
   have HO1:=hide (ownsI_later HD.out.own HB1.out)
   go_wp2_with (at_builtin; go_must (refine wpList_append_own _ rfl (.tmp 14) (.tmp 18) 59 rfl w.heap.size 30 i0 (.slice none 0 0) 1 24 Try.underlying59 hi hz0 hz1' hz2 rfl (by decide) u5 k xs rfl (HO1.out.alloc _) ⟨w1.heap.size,0,none⟩ 1 1 [.slice ax b.length cx] rfl rfl (one_newO w1 (.slice ax b.length cx)) (one_oneO HX1.out) (by unfold maxLen; omega) (by omega) (by have:=HBR.out.size; have:=HB1.out.size; simp; omega) ?_; intro v2 w2 hown2 hgrow2 hnil2; clear hnil2; have HO2:=hide hown2; have HG2:=hide hgrow2; clear hown2 hgrow2))
   go_roundw
   case rel =>
    have hb2 : Below w.heap.size w w2:=((HBR.out.trans (HB1.out.mono HBR.out.size)).alloc (Nat.le_trans HBR.out.size HB1.out.size) _).grown HG2.out (by have:=HBR.out.size; have:=HB1.out.size; simp; omega) (fun q hq => (HO1.out.lt q hq).1)
    refine ⟨k + 1,xs ++ [.slice ax b.length cx],by omega,by go_num,?_,hb2⟩
    exact deep_step HD.out HB1.out HX1.out HO1.out HO2.out HG2.out HBR.out.size HB.out
   case measure => simp [intOf]; omega
  ·have hke : k = p.length:=by omega
   subst hke
   have HD:=hide hD
   have HBR:=hide hbr
   clear hD hbr
   go_wp2_with fail
   go_ret
   exact ⟨_,_,rfl,HD.out,HBR.out⟩
end Go.Proofs.Ytdfdeppimimoiab.ab
namespace Go.Proofs.Ytdfdeppimimoiab.regs
set_option linter.unusedSimpArgs false
set_option linter.unusedVariables false
open Go Go.RowKit
section
variable {P : Program} {ops : Array Oper} {Q : Exit → Act → World → Prop} {md : Region.Mode} {S : World → Prop}
def HeldS (S : World → Prop) (P : Program) (md : Region.Mode) (ops : Array Oper) (Q : Exit → Act → World → Prop) (fuel : Nat) (listed : Array Bool) (a : Act) (w : World) : Prop:=wpAnyH P md ops Q S fuel listed a w
theorem heldS_begin {id : Nat} {a : Act} {w : World} (hm : P.follows .mixedOrders = true) (h : HeldS S P .any ops Q ops.size (Array.replicate ops.size false) a w.drew) : (Code.region id ops true).wp P Q a w:=wp_region_held hm h
theorem heldS_take {i : Nat} {oi : Oper} {v : Value} {fuel : Nat} {listed : Array Bool} {a : Act} {w : World} (hi : ops[i]? = some oi)
  (hs : Region.noSelect ops = true) (hf : Region.free md ops listed i = true) (hr : (Region.ready md ops listed).contains i = true)
  (hQ : ∀ c a w,Q (.panic c) (a.put oi.dst v) w → Q (.panic c) a w) (hw : Region.wanted oi (yielded ops a.tmps) = true)
  (hy : ∀ w',S w' → (execOp a.eval oi).run P w' = .ok (.value v) w') (hS : S w)
  (h : HeldS S P md ops Q fuel (listed.setIfInBounds i true) (a.put oi.dst v) w) : HeldS S P md ops Q (fuel + 1) listed a w :=
 wpAnyH_take hi hs hf hr hQ (.inl ⟨hw,hy⟩) hS h
def Comes (S : World → Prop) (P : Program) (md : Region.Mode) (ops : Array Oper) (Q : Exit → Act → World → Prop) (fuel : Nat) (listed : Array Bool) (a : Act) (w : World) (i : Nat) : Prop :=
 ∃ o,ops[i]? = some o ∧ ∀ K' : Act → World → Prop,Shut (∀ a w',S w' → HeldS S P md ops Q fuel (listed.setIfInBounds i true) a w' → K' a w') → if Region.wanted o (yielded ops a.tmps) = true then Oper.wp P o a w K' Q else K' (a.put o.dst undef) w
theorem heldS_ready {rs : List Nat} {fuel : Nat} {listed : Array Bool} {a : Act} {w : World} (hr : Region.ready md ops listed = rs) (hne : rs ≠ []) (h : ∀ i ∈ rs,Comes S P md ops Q fuel listed a w i) : HeldS S P md ops Q (fuel + 1) listed a w:=by
 have all : ∀ l : List Nat,(∀ i ∈ l,Comes S P md ops Q fuel listed a w i) → AllReadyH P md ops Q S fuel listed a w l:=by
  intro l
  induction l with
  | nil => exact fun _ => AllReadyH.nil
  | cons i r ih =>
   intro h
   obtain ⟨o,ho,hK⟩:=h i (by simp)
   exact AllReadyH.cons ho (fun K' hs => hK K' (fun a' w' hb hH => hs a' w' hb fun _ => hH)) (ih (fun j hj => h j (by simp [hj])))
 exact wpAnyH_ready hr hne (all rs h)
theorem heldS_done {listed : Array Bool} {a : Act} {w : World} (hr : Region.ready md ops listed = []) (h : Q .normal a w) (fuel : Nat) : HeldS S P md ops Q fuel listed a w:=wpAnyH_done hr h fuel
theorem comes1 {p : Nat → Prop} {i : Nat} (h : p i) : ∀ x ∈ [i],p x:=by simpa using h
end
end Go.Proofs.Ytdfdeppimimoiab.regs
namespace Go.Proofs.Ytdfdeppimimoiab.ab
set_option maxRecDepth 10000
set_option linter.unusedVariables false
set_option linter.unusedSimpArgs false
open Go Go.RowKit
open mth leaf
theorem box17 {w : World} {g : Nat} {t : TypeId} {a0 a1 a2 a3 a4 a5 a6 a7 a8 a9 a10 a11 a12 a13 a14 a15 a16 : Value} (h : w.heap[g]? = some (.cells #[a0,a1,a2,a3,a4,a5,a6,a7,a8,a9,a10,a11,a12,a13,a14,a15,a16] t (0,0))) :
  (w.cell? ⟨g,0,none⟩ = some a0 ∧ w.cell? ⟨g,1,none⟩ = some a1 ∧ w.cell? ⟨g,2,none⟩ = some a2 ∧ w.cell? ⟨g,3,none⟩ = some a3 ∧ w.cell? ⟨g,4,none⟩ = some a4 ∧ w.cell? ⟨g,5,none⟩ = some a5 ∧ w.cell? ⟨g,6,none⟩ = some a6) ∧
  (w.cell? ⟨g,7,none⟩ = some a7 ∧ w.cell? ⟨g,8,none⟩ = some a8 ∧ w.cell? ⟨g,9,none⟩ = some a9 ∧ w.cell? ⟨g,10,none⟩ = some a10 ∧ w.cell? ⟨g,11,none⟩ = some a11 ∧ w.cell? ⟨g,12,none⟩ = some a12 ∧ w.cell? ⟨g,13,none⟩ = some a13 ∧ w.cell? ⟨g,14,none⟩ = some a14) ∧
  w.cell? ⟨g,15,none⟩ = some a15 ∧ w.cell? ⟨g,16,none⟩ = some a16:=by
 have e : ∀ j,w.cell? ⟨g,j,none⟩ = (#[a0,a1,a2,a3,a4,a5,a6,a7,a8,a9,a10,a11,a12,a13,a14,a15,a16] : Array Value)[j]?:=fun j => cell_of_row w g j _ t (0,0) h
 refine ⟨⟨e 0,e 1,e 2,e 3,e 4,e 5,e 6⟩,⟨e 7,e 8,e 9,e 10,e 11,e 12,e 13,e 14⟩,e 15,e 16⟩
theorem list7 {α : Type} {l : List α} (h : l.length = 7) : ∃ s0 s1 s2 s3 s4 s5 s6,l = [s0,s1,s2,s3,s4,s5,s6]:=by
 match l,h with
 | [s0,s1,s2,s3,s4,s5,s6],_ => exact ⟨s0,s1,s2,s3,s4,s5,s6,rfl⟩
theorem list8 {α : Type} {l : List α} (h : l.length = 8) : ∃ s0 s1 s2 s3 s4 s5 s6 s7,l = [s0,s1,s2,s3,s4,s5,s6,s7]:=by
 match l,h with
 | [s0,s1,s2,s3,s4,s5,s6,s7],_ => exact ⟨s0,s1,s2,s3,s4,s5,s6,s7,rfl⟩
def zeroLn : List Value:=[.slice none 0 0,.int .i64 0,.int .i64 0,.int .i64 0,.int .i64 0,.slice none 0 0,.int .i64 0,.int .i64 0,.slice none 0 0,.int .i64 0,.int .i64 0,.int .i64 0,.slice none 0 0,.slice none 0 0,.bool false,.slice none 0 0,.slice none 0 0]
theorem wp_store17 {P : Program} {o : Oper} {a : Act} {w : World} {K : Act → World → Prop} {Q : Exit → Act → World → Prop} {t ty : TypeId} {n s d g : Nat} {cs us : List Value} (ho : o.op = .store t (.tmp s) (.tmp d)) (hd : o.dst = none) (hn : sizeT P t = some n)
  (e1 : a.eval (.tmp s) = .pointer (some ⟨g,0,none⟩)) (e2 : a.eval (.tmp d) = .agg us.toArray) (hul : us.length = n) (hone : ∀ x ∈ us,x.oneCell' = true) (hblk : w.heap[g]? = some (.cells cs.toArray ty (0,0))) (hcl : cs.length = n)
  (h : K (a.put none undef) (w.setRow g us.toArray)) : Oper.wp P o a w K Q:=by
 have hst:=run_storeP (P:=P) hn hblk (u:=.agg us.toArray) (off:=0) (by simpa [Value.cells] using hul) (by intro x hx; exact hone x (by simpa [Value.cells] using hx)) (by omega)
 have e3 : over cs 0 us = us:=by simp [over]; omega
 simp only [Value.cells,List.toList_toArray,e3] at hst
 unfold Oper.wp
 rw [show (execOp a.eval o).run P w = .ok .skip (w.setRow g us.toArray) by
  simp only [execOp,ho,e1,e2,Sem.run_bind,hst,Result.andThen_ok,Sem.run_pure]]
 show K (a.put o.dst undef) _
 rw [hd]
 exact h
theorem results_cell {P : Program} {fn : Func} {s T n g : Nat} {us : List Value} {ty : TypeId} {tmps : Array Value} {w : World} (hres : fn.results = #[.cell s T]) (hn : sizeT P T = some n) (ha : aggT P T = some true) (e1 : tmps.getD s undef = .pointer (some ⟨g,0,none⟩)) (hblk : w.heap[g]? = some (.cells us.toArray ty (0,0))) (hul : us.length = n) :
  (results fn tmps).run P w = .ok (.agg us.toArray) w:=by
 have hload:=run_loadA (P:=P) hn ha hblk hul
 have hld : (loadVar T ⟨g,0,none⟩).run P w = .ok (.agg us.toArray) w:=by simpa [Instr.loadAt,Instr.sureAddr] using hload
 have e2 : (asAddr (.pointer (some ⟨g,0,none⟩))).run P w = .ok ⟨g,0,none⟩ w:=rfl
 simp only [results,hres,Array.mapM_eq_mapM_toList,List.mapM_cons,List.mapM_nil]
 simp [e1,e2,hld]
theorem deep_keep {w w' : World} {base k : Nat} {u : Value} {xs : List Value} {p : List (List UInt8)} (h : Deep w base u k xs p) (hb : ∀ g,base ≤ g → g < w.heap.size → w'.heap[g]? = w.heap[g]?) : Deep w' base u k xs p:=by
 have hk : ∀ {e n : Nat} {y : Value} {ys : List Value},w.ownsRow base e 1 y n ys → w'.ownsRow base e 1 y n ys:=fun h => ⟨h.1,h.2.imp id fun ⟨g,cap,cur,k1,k2,k3,k4⟩ => ⟨g,cap,cur,k1,k2,(hb g k2 (Array.getElem?_eq_some_iff.1 k3).1).trans k3,k4⟩⟩
 exact ⟨hk h.own,fun j b hj hp => by obtain ⟨x,q1,q2⟩:=h.el j b hj hp; exact ⟨x,q1,hk q2⟩,h.apart⟩
def Under (top : Nat) (u : Value) (xs : List Value) : Prop:=(∀ g,u.ownBlock = some g → g < top) ∧ ∀ x ∈ xs,∀ g,x.ownBlock = some g → g < top
theorem deep_under {w : World} {base k : Nat} {u : Value} {xs : List Value} {p : List (List UInt8)} (h : Deep w base u k xs p) (hk : k ≤ p.length) : Under w.heap.size u xs:=by
 refine ⟨fun g hg => (h.own.lt g hg).2,fun x hx g hg => ?_⟩
 obtain ⟨j,hj,rfl⟩:=List.mem_iff_getElem.1 hx
 have hjk : j < k:=by have:=h.own.1; omega
 obtain ⟨x',q1,q2⟩:=h.el j p[j] hjk (List.getElem?_eq_getElem (by omega))
 rw [List.getElem?_eq_getElem hj] at q1; cases q1
 exact (q2.lt g hg).2
theorem deep_later {w w' : World} {base k : Nat} {u : Value} {xs : List Value} {p : List (List UInt8)} (h : Deep w base u k xs p) (hb : Below w.heap.size w w') : Deep w' base u k xs p :=
 ⟨ownsI_later h.own hb,fun j b hj hp => by obtain ⟨x,q1,q2⟩:=h.el j b hj hp; exact ⟨x,q1,ownsI_later q2 hb⟩,h.apart⟩
set_option maxHeartbeats 16000000 in
theorem laneOwn_walk (l : Ln) (hg : GoodL l) (a0 a1 a2 a3 a4 a5 a6 a7 a8 a9 a10 a11 a12 a13 a14 a15 a16 : Value) (w : World) (I : Still) (h : Row I w (encLn l) [a0,a1,a2,a3,a4,a5,a6,a7,a8,a9,a10,a11,a12,a13,a14,a15,a16]) (hlt : ∀ b j,I b j → b < w.heap.size) :
  Calls Try.prog 33 #[.agg #[a0,a1,a2,a3,a4,a5,a6,a7,a8,a9,a10,a11,a12,a13,a14,a15,a16]] w fun e w' => ∃ (s r : List Value) (u v : Value) (xs ys : List Value) (top mid : Nat),e = .returned (.agg (s ++ r ++ [u,v]).toArray) ∧ s.length = 7 ∧ r.length = 8 ∧ w.heap.size ≤ top ∧ top ≤ mid ∧ mid ≤ w'.heap.size ∧
   Row (fun b j => I b j ∨ (w.heap.size ≤ b ∧ b < top)) w' (encSd l.s ++ encRv l.r) (s ++ r) ∧ Deep w' top u l.there.length xs l.there ∧ Under mid u xs ∧ Deep w' mid v l.back.length ys l.back ∧ Below w.heap.size w w':=by
 have hs : Row I w (encSd l.s) [a0,a1,a2,a3,a4,a5,a6]:=h.take 7
 have hr : Row I w (encRv l.r) [a7,a8,a9,a10,a11,a12,a13,a14]:=(h.drop 7).take 8
 have ht : CRep I w (sD 1 (encPk l.there)) a15:=h.2 15 _ _ rfl rfl
 have hbk : CRep I w (sD 1 (encPk l.back)) a16:=h.2 16 _ _ rfl rfl
 have o1:=hide (ownS_told l.s (good_small hg.s))
 have o2:=hide (ownR_told l.r (good_smallR hg.r))
 have o3:=hide (listOwn_deep l.there (by have:=hg.t; omega) (fun m hm => by have:=hg.tn m hm; omega))
 have o4:=hide (listOwn_deep l.back (by have:=hg.b; omega) (fun m hm => by have:=hg.bn m hm; omega))
 have HS:=hide hs
 have HR:=hide hr
 have HT:=hide ht
 have HB:=hide hbk
 have HLT:=hide hlt
 clear h hs hr ht hbk hlt
 go_enter Try.func33,Try.ntmps33
 go_wp2_with fail
 obtain ⟨u,hu⟩ : ∃ u,u = ((w.alloc (Obj.cells #[a0,a1,a2,a3,a4,a5,a6,a7,a8,a9,a10,a11,a12,a13,a14,a15,a16] 61)).alloc (Obj.cells #[.slice none 0 0,.int .i64 0,.int .i64 0,.int .i64 0,.int .i64 0,.slice none 0 0,.int .i64 0,.int .i64 0,.slice none 0 0,.int .i64 0,.int .i64 0,.int .i64 0,.slice none 0 0,.slice none 0 0,.bool false,.slice none 0 0,.slice none 0 0] 61)):=⟨_,rfl⟩
 have hb0 : Below w.heap.size w u:=by rw [hu]; exact ((Below.refl _ _).alloc (Nat.le_refl _) _).alloc (by simp) _
 have hg1 : u.heap[w.heap.size]? = some (.cells #[a0,a1,a2,a3,a4,a5,a6,a7,a8,a9,a10,a11,a12,a13,a14,a15,a16] 61 (0,0)):=by rw [hu]; exact (Below.heap_alloc _ _ _ (by simp)).trans (heap_alloc_new _ _)
 have hg2 : u.heap[w.heap.size + 1]? = some (.cells #[.slice none 0 0,.int .i64 0,.int .i64 0,.int .i64 0,.int .i64 0,.slice none 0 0,.int .i64 0,.int .i64 0,.slice none 0 0,.int .i64 0,.int .i64 0,.int .i64 0,.slice none 0 0,.slice none 0 0,.bool false,.slice none 0 0,.slice none 0 0] 61 (0,0)):=by
  rw [hu]
  have:=heap_alloc_new (w.alloc (Obj.cells #[a0,a1,a2,a3,a4,a5,a6,a7,a8,a9,a10,a11,a12,a13,a14,a15,a16] 61)) (Obj.cells #[.slice none 0 0,.int .i64 0,.int .i64 0,.int .i64 0,.int .i64 0,.slice none 0 0,.int .i64 0,.int .i64 0,.slice none 0 0,.int .i64 0,.int .i64 0,.int .i64 0,.slice none 0 0,.slice none 0 0,.bool false,.slice none 0 0,.slice none 0 0] 61)
  simpa using this
 have hz : u.heap.size = w.heap.size + 2:=by rw [hu]; simp
 obtain ⟨⟨c0,c1,c2,c3,c4,c5,c6⟩,⟨c7,c8,c9,c10,c11,c12,c13,c14⟩,c15,c16⟩:=box17 hg1
 rw [← hu]
 clear hu
 have HB0:=hide hb0
 have HG2:=hide hg2
 have HZ:=hide hz
 have hz0 : w.heap.size < u.heap.size:=by omega
 have HK1 : Hid (Below u.heap.size u u.drew):=Below.drew (Below.refl _ _)
 clear hb0 hg2 hg1
 have HS0 : Hid (Below (w.heap.size + 1) u u.drew):=Below.drew (Below.refl _ _)
 refine regs.heldS_begin (S:=fun w' => Below (w.heap.size + 1) u w') (by kernel_rfl) ?_
 refine regs.heldS_take (i:=0) (v:=.pointer (some ⟨w.heap.size,0,none⟩)) rfl (by kernel_rfl) (by kernel_rfl) (by kernel_rfl) (fun _ _ _ h => h) (by rfl) (fun w' hb => by go_simp) HS0.out ?_
 simp only [Act.put,List.setIfInBounds_toArray,List.set_cons_zero,List.set_cons_succ,List.getElem_toArray,List.getElem_cons_zero]
 refine regs.heldS_take (i:=1) (v:=.agg #[a0,a1,a2,a3,a4,a5,a6]) rfl (by kernel_rfl) (by kernel_rfl) (by kernel_rfl) (fun _ _ _ h => h) (by rfl) (fun w' hb => by have d0:=(hb.cell (p:=⟨w.heap.size,0,none⟩) (Nat.lt_succ_self _)).trans c0; have d1:=(hb.cell (p:=⟨w.heap.size,1,none⟩) (Nat.lt_succ_self _)).trans c1; have d2:=(hb.cell (p:=⟨w.heap.size,2,none⟩) (Nat.lt_succ_self _)).trans c2; have d3:=(hb.cell (p:=⟨w.heap.size,3,none⟩) (Nat.lt_succ_self _)).trans c3; have d4:=(hb.cell (p:=⟨w.heap.size,4,none⟩) (Nat.lt_succ_self _)).trans c4; have d5:=(hb.cell (p:=⟨w.heap.size,5,none⟩) (Nat.lt_succ_self _)).trans c5; have d6:=(hb.cell (p:=⟨w.heap.size,6,none⟩) (Nat.lt_succ_self _)).trans c6; go_simp) HS0.out ?_
 simp only [Act.put,List.setIfInBounds_toArray,List.set_cons_zero,List.set_cons_succ,List.getElem_toArray,List.getElem_cons_zero,List.getElem_cons_succ]
 refine regs.heldS_take (i:=3) (v:=.pointer (some ⟨w.heap.size,7,none⟩)) rfl (by kernel_rfl) (by kernel_rfl) (by kernel_rfl) (fun _ _ _ h => h) (by rfl) (fun w' hb => by go_simp) HS0.out ?_
 simp only [Act.put,List.setIfInBounds_toArray,List.set_cons_zero,List.set_cons_succ,List.getElem_toArray,List.getElem_cons_zero,List.getElem_cons_succ]
 refine regs.heldS_take (i:=4) (v:=.agg #[a7,a8,a9,a10,a11,a12,a13,a14]) rfl (by kernel_rfl) (by kernel_rfl) (by kernel_rfl) (fun _ _ _ h => h) (by rfl) (fun w' hb => by have d7:=(hb.cell (p:=⟨w.heap.size,7,none⟩) (Nat.lt_succ_self _)).trans c7; have d8:=(hb.cell (p:=⟨w.heap.size,8,none⟩) (Nat.lt_succ_self _)).trans c8; have d9:=(hb.cell (p:=⟨w.heap.size,9,none⟩) (Nat.lt_succ_self _)).trans c9; have d10:=(hb.cell (p:=⟨w.heap.size,10,none⟩) (Nat.lt_succ_self _)).trans c10; have d11:=(hb.cell (p:=⟨w.heap.size,11,none⟩) (Nat.lt_succ_self _)).trans c11; have d12:=(hb.cell (p:=⟨w.heap.size,12,none⟩) (Nat.lt_succ_self _)).trans c12; have d13:=(hb.cell (p:=⟨w.heap.size,13,none⟩) (Nat.lt_succ_self _)).trans c13; have d14:=(hb.cell (p:=⟨w.heap.size,14,none⟩) (Nat.lt_succ_self _)).trans c14; go_simp) HS0.out ?_
 simp only [Act.put,List.setIfInBounds_toArray,List.set_cons_zero,List.set_cons_succ,List.getElem_toArray,List.getElem_cons_zero,List.getElem_cons_succ]
 refine regs.heldS_take (i:=6) (v:=.pointer (some ⟨w.heap.size,15,none⟩)) rfl (by kernel_rfl) (by kernel_rfl) (by kernel_rfl) (fun _ _ _ h => h) (by rfl) (fun w' hb => by go_simp) HS0.out ?_
 simp only [Act.put,List.setIfInBounds_toArray,List.set_cons_zero,List.set_cons_succ,List.getElem_toArray,List.getElem_cons_zero,List.getElem_cons_succ]
 refine regs.heldS_take (i:=7) (v:=a15) rfl (by kernel_rfl) (by kernel_rfl) (by kernel_rfl) (fun _ _ _ h => h) (by rfl) (fun w' hb => by have d15:=(hb.cell (p:=⟨w.heap.size,15,none⟩) (Nat.lt_succ_self _)).trans c15; go_simp) HS0.out ?_
 simp only [Act.put,List.setIfInBounds_toArray,List.set_cons_zero,List.set_cons_succ,List.getElem_toArray,List.getElem_cons_zero,List.getElem_cons_succ]
 refine regs.heldS_take (i:=9) (v:=.pointer (some ⟨w.heap.size,16,none⟩)) rfl (by kernel_rfl) (by kernel_rfl) (by kernel_rfl) (fun _ _ _ h => h) (by rfl) (fun w' hb => by go_simp) HS0.out ?_
 simp only [Act.put,List.setIfInBounds_toArray,List.set_cons_zero,List.set_cons_succ,List.getElem_toArray,List.getElem_cons_zero,List.getElem_cons_succ]
 refine regs.heldS_take (i:=10) (v:=a16) rfl (by kernel_rfl) (by kernel_rfl) (by kernel_rfl) (fun _ _ _ h => h) (by rfl) (fun w' hb => by have d16:=(hb.cell (p:=⟨w.heap.size,16,none⟩) (Nat.lt_succ_self _)).trans c16; go_simp) HS0.out ?_
 simp only [Act.put,List.setIfInBounds_toArray,List.set_cons_zero,List.set_cons_succ,List.getElem_toArray,List.getElem_cons_zero,List.getElem_cons_succ]
 have HW : Hid (Below w.heap.size w u.drew):=HB0.out.trans (HK1.out.mono HB0.out.size)
 have hlW : ∀ b j,I b j → b < u.drew.heap.size:=fun b j hi => Nat.lt_of_lt_of_le (HLT.out b j hi) HW.out.size
 have hcW : ∀ b j,I b j → u.drew.cell? ⟨b,j,none⟩ = w.cell? ⟨b,j,none⟩:=fun b j hi => HW.out.cell (p:=⟨b,j,none⟩) (HLT.out b j hi)
 have q1:=hide (o1.out u.drew I [.agg #[a0,a1,a2,a3,a4,a5,a6]] (Vals.cons (.inr ⟨_,_,rfl,rfl,HS.out.keep (fun _ _ h => h) hcW⟩) Vals.nil) hlW)
 refine regs.heldS_ready (rs:=[2]) (by kernel_rfl) (by simp) (regs.comes1 ⟨_,rfl,fun K hK => ?_⟩)
 go_simp
 go_wp2_with ((go_at_call 50; refine (q1.out).mono ?_; rintro e W1 ⟨v1,rfl,hv1,hb1⟩; obtain ⟨ss,rfl,hS1⟩:=CVRep.agg hv1; obtain ⟨s0,s1,s2,s3,s4,s5,s6,rfl⟩ : ∃ s0 s1 s2 s3 s4 s5 s6,ss = [s0,s1,s2,s3,s4,s5,s6]:=list7 (by rw [← hS1.1]; rfl); have HS1R:=hide hS1; clear hv1 hS1; have HT1:=hide hb1; have HW1 : Hid (Below w.heap.size w W1):=HW.out.trans (hb1.mono HW.out.size); have HS1 : Hid (Below (w.heap.size + 1) u W1):=HS0.out.trans (hb1.mono (by have:=HS0.out.size; omega)); clear hb1))
 refine hK.out _ _ HS1.out ?_
 clear hK K
 have q2:=hide (o2.out W1 I [.agg #[a7,a8,a9,a10,a11,a12,a13,a14]] (Vals.cons (.inr ⟨_,_,rfl,rfl,HR.out.keep (fun _ _ h => h) (fun b j hi => HW1.out.cell (p:=⟨b,j,none⟩) (HLT.out b j hi))⟩) Vals.nil) (fun b j hi => Nat.lt_of_lt_of_le (HLT.out b j hi) HW1.out.size))
 refine regs.heldS_ready (rs:=[5]) (by kernel_rfl) (by simp) (regs.comes1 ⟨_,rfl,fun K hK => ?_⟩)
 go_simp
 go_wp2_with ((go_at_call 24; refine (q2.out).mono ?_; rintro e W2 ⟨v2,rfl,hv2,hb2⟩; obtain ⟨rr,rfl,hR2⟩:=CVRep.agg hv2; obtain ⟨r0,r1,r2,r3,r4,r5,r6,r7,rfl⟩ : ∃ r0 r1 r2 r3 r4 r5 r6 r7,rr = [r0,r1,r2,r3,r4,r5,r6,r7]:=list8 (by rw [← hR2.1]; rfl); have HR2R:=hide hR2; clear hv2 hR2; have HT2:=hide hb2; have HW2 : Hid (Below w.heap.size w W2):=HW1.out.trans (hb2.mono HW1.out.size); have HS2 : Hid (Below (w.heap.size + 1) u W2):=HS1.out.trans (hb2.mono (by have:=HS1.out.size; omega)); clear hb2))
 refine hK.out _ _ HS2.out ?_
 clear hK K
 have q3:=hide (o3.out W2 I a15 (HT.out.keep (fun _ _ h => h) (fun b j hi => HW2.out.cell (p:=⟨b,j,none⟩) (HLT.out b j hi))) (fun b j hi => Nat.lt_of_lt_of_le (HLT.out b j hi) HW2.out.size))
 refine regs.heldS_ready (rs:=[8]) (by kernel_rfl) (by simp) (regs.comes1 ⟨_,rfl,fun K hK => ?_⟩)
 go_simp
 go_wp2_with ((go_at_call 67; refine (q3.out).mono ?_; rintro e W3 ⟨u3,xs3,rfl,hD3,hb3⟩; have HD3:=hide hD3; clear hD3; have HT3:=hide hb3; have HW3 : Hid (Below w.heap.size w W3):=HW2.out.trans (hb3.mono HW2.out.size); have HS3 : Hid (Below (w.heap.size + 1) u W3):=HS2.out.trans (hb3.mono (by have:=HS2.out.size; omega)); clear hb3))
 refine hK.out _ _ HS3.out ?_
 clear hK K
 have q4:=hide (o4.out W3 I a16 (HB.out.keep (fun _ _ h => h) (fun b j hi => HW3.out.cell (p:=⟨b,j,none⟩) (HLT.out b j hi))) (fun b j hi => Nat.lt_of_lt_of_le (HLT.out b j hi) HW3.out.size))
 refine regs.heldS_ready (rs:=[11]) (by kernel_rfl) (by simp) (regs.comes1 ⟨_,rfl,fun K hK => ?_⟩)
 go_simp
 go_wp2_with ((go_at_call 67; refine (q4.out).mono ?_; rintro e W4 ⟨u4,xs4,rfl,hD4,hb4⟩; have HD4:=hide hD4; clear hD4; have HT4:=hide hb4; have HW4 : Hid (Below w.heap.size w W4):=HW3.out.trans (hb4.mono HW3.out.size); have HS4 : Hid (Below (w.heap.size + 1) u W4):=HS3.out.trans (hb4.mono (by have:=HS3.out.size; omega)); clear hb4))
 refine hK.out _ _ HS4.out ?_
 clear hK K
 obtain ⟨x3,y3,e3⟩:=owns_form HD3.out.own
 obtain ⟨x4,y4,e4⟩:=owns_form HD4.out.own
 subst e3 e4
 refine regs.heldS_take (i:=12) (v:=.agg #[s0,s1,s2,s3,s4,s5,s6,r0,r1,r2,r3,r4,r5,r6,r7,.slice x3 l.there.length y3,.slice x4 l.back.length y4]) rfl (by kernel_rfl) (by kernel_rfl) (by kernel_rfl) (fun _ _ _ h => h) (by rfl) (fun w' hb => by go_simp) HS4.out ?_
 simp only [Act.put,List.setIfInBounds_toArray,List.set_cons_zero,List.set_cons_succ,List.getElem_toArray,List.getElem_cons_zero,List.getElem_cons_succ]
 have hne : 0 < 1:=by decide
 have hG2 : W4.heap[w.heap.size + 1]? = some (.cells (zeroLn.toArray) 61 (0,0)):=by
  have h1 : u.drew.heap[w.heap.size + 1]? = u.heap[w.heap.size + 1]?:=HK1.out.block _ (by rw [HZ.out]; omega)
  have hz4 : u.drew.heap.size = w.heap.size + 2:=HZ.out
  have b1:=HT1.out.block (w.heap.size + 1) (by omega)
  have b2:=HT2.out.block (w.heap.size + 1) (by have:=HT1.out.size; omega)
  have b3:=HT3.out.block (w.heap.size + 1) (by have:=HT1.out.size; have:=HT2.out.size; omega)
  have b4:=HT4.out.block (w.heap.size + 1) (by have:=HT1.out.size; have:=HT2.out.size; have:=HT3.out.size; omega)
  rw [b4,b3,b2,b1,h1]; exact HG2.out
 have hz4 : u.drew.heap.size = w.heap.size + 2:=HZ.out
 have z1:=HT1.out.size
 have z2:=HT2.out.size
 have z3:=HT3.out.size
 have z4:=HT4.out.size
 have hone : ∀ x ∈ [s0,s1,s2,s3,s4,s5,s6,r0,r1,r2,r3,r4,r5,r6,r7,.slice x3 l.there.length y3,.slice x4 l.back.length y4],x.oneCell' = true:=by
  intro x hx
  rw [show [s0,s1,s2,s3,s4,s5,s6,r0,r1,r2,r3,r4,r5,r6,r7,.slice x3 l.there.length y3,.slice x4 l.back.length y4] = ([s0,s1,s2,s3,s4,s5,s6] ++ [r0,r1,r2,r3,r4,r5,r6,r7]) ++ [.slice x3 l.there.length y3,.slice x4 l.back.length y4] from rfl] at hx
  rcases List.mem_append.1 hx with hx | hx
  ·rcases List.mem_append.1 hx with hx | hx
   ·exact HS1R.out.one x hx
   ·exact HR2R.out.one x hx
  ·simp only [List.mem_cons,List.not_mem_nil,or_false] at hx
   rcases hx with rfl | rfl <;> rfl
 refine regs.heldS_ready (rs:=[13]) (by kernel_rfl) (by simp) (regs.comes1 ⟨_,rfl,fun K hK => ?_⟩)
 rw [if_pos (by rfl)]
 refine wp_store17 (t:=61) (n:=17) (s:=2) (d:=15) (g:=w.heap.size + 1) (us:=[s0,s1,s2,s3,s4,s5,s6,r0,r1,r2,r3,r4,r5,r6,r7,.slice x3 l.there.length y3,.slice x4 l.back.length y4]) (cs:=zeroLn) rfl rfl (by kernel_rfl) rfl rfl rfl hone hG2 rfl ?_
 have hgr : W4.grownBy (W4.setRow (w.heap.size + 1) [s0,s1,s2,s3,s4,s5,s6,r0,r1,r2,r3,r4,r5,r6,r7,.slice x3 l.there.length y3,.slice x4 l.back.length y4].toArray) (some (w.heap.size + 1)):=⟨rfl,rfl,rfl,by simp,fun k _ hk => setRow_other W4 _ k _ (fun e => hk (by rw [e]))⟩
 refine hK.out _ _ ?_ ?_
 ·exact HS4.out.grown hgr (by omega) (fun k hk => by cases hk; omega)
 clear hK K
 refine regs.heldS_done (by kernel_rfl) ?_ _
 go_wp2_with fail
 have hFar : ∀ g,g ≠ w.heap.size + 1 → (W4.setRow (w.heap.size + 1) [s0,s1,s2,s3,s4,s5,s6,r0,r1,r2,r3,r4,r5,r6,r7,.slice x3 l.there.length y3,.slice x4 l.back.length y4].toArray).heap[g]? = W4.heap[g]?:=fun g hne => setRow_other W4 _ g _ hne
 have hFw : ∀ g,w.heap.size + 2 ≤ g → (W4.setRow (w.heap.size + 1) [s0,s1,s2,s3,s4,s5,s6,r0,r1,r2,r3,r4,r5,r6,r7,.slice x3 l.there.length y3,.slice x4 l.back.length y4].toArray).heap[g]? = W4.heap[g]?:=fun g hg => hFar g (by omega)
 refine bodyPost_ret (v:=.agg [s0,s1,s2,s3,s4,s5,s6,r0,r1,r2,r3,r4,r5,r6,r7,.slice x3 l.there.length y3,.slice x4 l.back.length y4].toArray) (results_cell (s:=2) (T:=61) (n:=17) (g:=w.heap.size + 1) (ty:=61) rfl (by kernel_rfl) (by kernel_rfl) rfl (setRow_heap W4 _ _ _ 61 (0,0) hG2) rfl) rfl ?_
 refine ⟨[s0,s1,s2,s3,s4,s5,s6],[r0,r1,r2,r3,r4,r5,r6,r7],.slice x3 l.there.length y3,.slice x4 l.back.length y4,xs3,xs4,W2.heap.size,W3.heap.size,rfl,rfl,rfl,by omega,by omega,by simp; omega,?_,?_,?_,?_,?_⟩
 ·have hin : ∀ b j,(I b j ∨ (u.drew.heap.size ≤ b ∧ b < W2.heap.size)) → I b j ∨ (w.heap.size ≤ b ∧ b < W2.heap.size):=fun b j hi => hi.imp id (fun q => ⟨by omega,q.2⟩)
  have hcl2 : ∀ b j,(I b j ∨ (u.drew.heap.size ≤ b ∧ b < W2.heap.size)) → (W4.setRow (w.heap.size + 1) [s0,s1,s2,s3,s4,s5,s6,r0,r1,r2,r3,r4,r5,r6,r7,.slice x3 l.there.length y3,.slice x4 l.back.length y4].toArray).cell? ⟨b,j,none⟩ = W2.cell? ⟨b,j,none⟩:=fun b j hi => by
   have hb : b < W2.heap.size:=hi.elim (fun q => Nat.lt_of_lt_of_le (HLT.out b j q) (by omega)) (fun q => q.2)
   have hne2 : b ≠ w.heap.size + 1:=hi.elim (fun q => by have:=HLT.out b j q; omega) (fun q => by omega)
   have h1 : (W4.setRow (w.heap.size + 1) [s0,s1,s2,s3,s4,s5,s6,r0,r1,r2,r3,r4,r5,r6,r7,.slice x3 l.there.length y3,.slice x4 l.back.length y4].toArray).heap[b]? = W2.heap[b]?:=by
    rw [hFar b hne2,HT4.out.block b (by omega),HT3.out.block b (by omega)]
   exact World.cell?_of_block (a:=⟨b,j,none⟩) h1
  have row1:=HS1R.out.keep (I':=fun b j => I b j ∨ (w.heap.size ≤ b ∧ b < W2.heap.size)) (w':=W4.setRow (w.heap.size + 1) [s0,s1,s2,s3,s4,s5,s6,r0,r1,r2,r3,r4,r5,r6,r7,.slice x3 l.there.length y3,.slice x4 l.back.length y4].toArray) (fun b j hi => hi.imp id (fun q => ⟨by omega,by omega⟩)) (fun b j hi => by
   have hb : b < W1.heap.size:=hi.elim (fun q => Nat.lt_of_lt_of_le (HLT.out b j q) (by omega)) (fun q => q.2)
   rw [hcl2 b j (hi.imp id (fun q => ⟨q.1,by omega⟩))]
   exact World.cell?_of_block (a:=⟨b,j,none⟩) (HT2.out.block b hb))
  have row2:=HR2R.out.keep (I':=fun b j => I b j ∨ (w.heap.size ≤ b ∧ b < W2.heap.size)) (w':=W4.setRow (w.heap.size + 1) [s0,s1,s2,s3,s4,s5,s6,r0,r1,r2,r3,r4,r5,r6,r7,.slice x3 l.there.length y3,.slice x4 l.back.length y4].toArray) (fun b j hi => hi.imp id (fun q => ⟨by omega,q.2⟩)) (fun b j hi => hcl2 b j (hi.imp id (fun q => ⟨by omega,q.2⟩)))
  exact row1.app row2
 ·exact deep_keep (deep_later HD3.out HT4.out) (fun g hg _ => hFw g (by omega))
 ·exact deep_under HD3.out (Nat.le_refl _)
 ·exact deep_keep HD4.out (fun g hg _ => hFw g (by omega))
 ·exact HW4.out.grown hgr (by omega) (fun k hk => by cases hk; omega)
end Go.Proofs.Ytdfdeppimimoiab.ab
