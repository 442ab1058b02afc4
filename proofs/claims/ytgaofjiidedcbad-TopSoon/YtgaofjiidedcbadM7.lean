import Derived.Test.YtgaofjiidedcbadM6
import Derived.Laws.IdiomStrings
import Derived.Laws.StructEq
import Derived.Maps.Own
import Derived.Laws.Cover3
set_option linter.unusedVariables false
set_option linter.unusedSimpArgs false
namespace Go.Proofs.Ytgaofjiidedcbad.ab
open Go Go.RowKit
section
variable {P : Program} {o : Oper} {st : St}
def appEv (d s : Nat) (rs : List (Nat × D)) (e z : Nat) (es : List D) : Ev :=
 { rs:=rs,rf:=[((s,none),(e,z,none))],ws:=some (d,some (sD z es)),cf:=[(s,none),(d,none)],sf:=some ((d,none),(e,z,none)) }
def app0Ev (d : Nat) (rs : List (Nat × D)) (e z : Nat) (es : List D) : Ev :=
 { rs:=rs,ws:=some (d,some (sD z es)),cf:=[(d,none)],sf:=some ((d,none),(e,z,none)) }
def apHEv (d s : Nat) (rs : List (Nat × D)) (e z : Nat) (es fs : List D) : Ev :=
 { rs:=rs,rf:=[((s,none),(e,z,some es))],ws:=some (d,some xD),cf:=[(s,none),(d,none)],sf:=some ((d,none),(e,z,some (es ++ fs))) }
theorem ok_apH {t e : TypeId} {z bytes s : Nat} {i : TypeInfo} {zv : Value} {y : Operand} (ho : o.op = .call { callee:=.builtin .append,args:=#[.tmp s,y],argTypes:=#[t,t] }) (ht : P.underlying t = some (.slice e)) (hi : P.info? e = some i) (hzv : i.zero = some zv)
  (hsize : i.size = z) (hby : i.bytes = bytes) (hzs : zv.cells.size = z) (hz : 0 < z) (hb0 : 0 < bytes) {d : Nat} (hd : o.dst = some d) (hne : s ≠ d) {l l' : D} {es fs : List D} (hx : rd st (.tmp s) = some l) (hy : rd st y = some l') (hl' : asS z l' = some fs) (hf : lookF st.fl (s,none) = some (e,z,some es))
  (hbytes : (es.length + fs.length) * bytes ≤ 140737488355328) :
  (apHEv d s (rds (.tmp s) l ++ rds y l') e z es fs).ok st.F ∧ Sound P o (apHEv d s (rds (.tmp s) l ++ rds y l') e z es fs):=by
 have h63 : es.length + fs.length ≤ maxLen:=by
  have : es.length + fs.length ≤ (es.length + fs.length) * bytes:=Nat.le_mul_of_pos_right _ hb0
  unfold maxLen; omega
 refine ⟨⟨app_rs (rd_ok hx) (rd_ok hy),fun x hx => by simp [apHEv] at hx,fun x hx => by simp [apHEv] at hx,fun x hx => by simp [apHEv] at hx; subst hx; exact hf⟩,sound_appH hd ht hi hzv hsize hby hzs hz h63 hbytes hne fun I ρ ac w hr u hu => ?_⟩
 have h2:=asS_av hl' (rd_rep hy (fun y hy => hr y (List.mem_append_right _ hy)))
 have h3 : ac.eval (.tmp s) = u:=by simp [Act.eval,Array.getD_eq_getD_getElem?,hu]
 refine ⟨ac.eval y,h2,fun w v' hv => ?_⟩
 simp [execOp,ho,resolve,invoke,builtin,h3,hv]
theorem ok_app {t e : TypeId} {z bytes s : Nat} {i : TypeInfo} {zv : Value} {y : Operand} (ho : o.op = .call { callee:=.builtin .append,args:=#[.tmp s,y],argTypes:=#[t,t] }) (ht : P.underlying t = some (.slice e)) (hi : P.info? e = some i) (hzv : i.zero = some zv)
  (hsize : i.size = z) (hby : i.bytes = bytes) (hzs : zv.cells.size = z) (hz : 0 < z) (hb0 : 0 < bytes) {d : Nat} (hd : o.dst = some d) (hne : s ≠ d) {l l' : D} {es fs : List D} (hx : rd st (.tmp s) = some l) (hl : asS z l = some es) (hy : rd st y = some l') (hl' : asS z l' = some fs) (hf : lookF st.fl (s,none) = some (e,z,none))
  (hbytes : (es.length + fs.length) * bytes ≤ 140737488355328) :
  (appEv d s (rds (.tmp s) l ++ rds y l') e z (es ++ fs)).ok st.F ∧ Sound P o (appEv d s (rds (.tmp s) l ++ rds y l') e z (es ++ fs)):=by
 have h63 : es.length + fs.length ≤ maxLen:=by
  have : es.length + fs.length ≤ (es.length + fs.length) * bytes:=Nat.le_mul_of_pos_right _ hb0
  unfold maxLen; omega
 refine ⟨⟨app_rs (rd_ok hx) (rd_ok hy),fun x hx => by simp [appEv] at hx,fun x hx => by simp [appEv] at hx,fun x hx => by simp [appEv] at hx; subst hx; exact hf⟩,sound_app hd ht hi hzv hsize hby hzs hz h63 hbytes hne fun I ρ ac w hr u hu => ?_⟩
 have h1:=asS_av hl (rd_rep hx (fun y hy => hr y (List.mem_append_left _ hy)))
 have h2:=asS_av hl' (rd_rep hy (fun y hy => hr y (List.mem_append_right _ hy)))
 have h3 : ac.eval (.tmp s) = u:=by simp [Act.eval,Array.getD_eq_getD_getElem?,hu]
 refine ⟨h3 ▸ h1,ac.eval y,h2,fun w v' hv => ?_⟩
 simp [execOp,ho,resolve,invoke,builtin,h3,hv]
theorem ok_app0 {t e : TypeId} {z bytes : Nat} {i : TypeInfo} {zv : Value} {x y : Operand} (ho : o.op = .call { callee:=.builtin .append,args:=#[x,y],argTypes:=#[t,t] }) (ht : P.underlying t = some (.slice e)) (hi : P.info? e = some i) (hzv : i.zero = some zv)
  (hsize : i.size = z) (hby : i.bytes = bytes) (hzs : zv.cells.size = z) (hz : 0 < z) (hb0 : 0 < bytes) {d : Nat} (hd : o.dst = some d) {l' : D} {fs : List D} (hx : rd st x = some (vD (.slice none 0 0))) (hy : rd st y = some l') (hl' : asS z l' = some fs)
  (hbytes : fs.length * bytes ≤ 140737488355328) :
  (app0Ev d (rds x (vD (.slice none 0 0)) ++ rds y l') e z fs).ok st.F ∧ Sound P o (app0Ev d (rds x (vD (.slice none 0 0)) ++ rds y l') e z fs):=by
 have h63 : fs.length ≤ maxLen:=by
  have : fs.length ≤ fs.length * bytes:=Nat.le_mul_of_pos_right _ hb0
  unfold maxLen; omega
 refine ⟨⟨app_rs (rd_ok hx) (rd_ok hy),fun x hx => by simp [app0Ev] at hx,fun x hx => by simp [app0Ev] at hx,fun x hx => by simp [app0Ev] at hx⟩,sound_app0 hd ht hi hzv hsize hby hzs hz h63 hbytes fun I ρ ac w hr => ?_⟩
 have h1:=plain_of (rd_rep hx (fun y hy => hr y (List.mem_append_left _ hy)))
 have h2:=asS_av hl' (rd_rep hy (fun y hy => hr y (List.mem_append_right _ hy)))
 refine ⟨ac.eval y,h2,fun w v' hv => ?_⟩
 simp [execOp,ho,resolve,invoke,builtin,h1,hv]
def encB (x : UInt8) : D:=vD (.int .u8 x.toNat)
def byteOf : D → Option UInt8
 | .held (.inl (.int .u8 n)) => if 0 ≤ n ∧ n ≤ 255 then some (UInt8.ofNat n.toNat) else none
 | _ => none
theorem byteOf_eq {e : D} {b : UInt8} (h : byteOf e = some b) : e = encB b:=by
 unfold byteOf at h
 split at h
 ·rename_i n
  split at h
  ·rename_i hn
   cases h
   have : ((UInt8.ofNat n.toNat).toNat : Int) = n:=by
    rw [UInt8.toNat_ofNat']
    omega
   simp only [encB,this]
  ·cases h
 ·cases h
def bytesOf : List D → Option (List UInt8)
 | [] => some []
 | e :: r => match byteOf e with
  | some b => (bytesOf r).map (b :: ·)
  | none => none
theorem bytesOf_eq : ∀ {es : List D} {bs : List UInt8},bytesOf es = some bs → es = bs.map encB
 | [],bs,h => by simp [bytesOf] at h; subst h; rfl
 | e :: r,bs,h => by
  simp only [bytesOf] at h
  split at h
  ·rename_i b hb
   obtain ⟨bs',h1,rfl⟩:=Option.map_eq_some_iff.1 h
   rw [List.map_cons,← bytesOf_eq h1,byteOf_eq hb]
  ·cases h
theorem ok_str {s t e : TypeId} {x : Operand} (ho : o.op = .convert s t x) (hs : P.underlying s = some (.slice e)) (he : P.underlying e = some (.int .u8)) (ht : P.underlying t = some .string) {d : Nat} (hd : o.dst = some d) {l : D} {es : List D} {bs : List UInt8} (hx : rd st x = some l) (hl : asS 1 l = some es) (hb : bytesOf es = some bs) :
  (vEv d (rds x l) (vD (.string ⟨bs.toArray⟩))).ok st.F ∧ Sound P o (vEv d (rds x l) (vD (.string ⟨bs.toArray⟩))):=by
 refine ⟨vEv_ok (rd_ok hx),sound_val hd (rb:=[]) fun I ρ ac w hr _ => ⟨_,?_,AVRep.v rfl⟩⟩
 have h1:=asS_av hl (rd_rep hx hr)
 rw [bytesOf_eq hb] at h1
 obtain ⟨ad,cap,hu,U,hle,hno,hm,hsz,hc,hcr⟩:=h1.invS
 ·have hlen : (bs.map encB).length = bs.length:=by simp
  have hrun : (convert s t (.slice ad (bs.map encB).length cap)).run P w = .ok (.string ⟨bs.toArray⟩) w:=by
   rw [hlen]
   cases ad with
   | none =>
    have h0:=hno rfl
    have : bs = []:=List.eq_nil_of_length_eq_zero (by rw [hlen] at hle; omega)
    subst this
    rw [run_convert_bytes_string w s t e none _ cap hs he ht]
    simp [Conv.bytesToString]
    rfl
   | some a =>
    refine run_convert_bytes_back w s t e a cap bs hs he ht fun j hj => ?_
    obtain ⟨b,off,hb,hcell⟩:=hc (by intro q; have:=congrArg List.length q; rw [hlen] at this; simp at this; subst this; simp at hj)
    cases hb
    have h2:=(hcell j 0 (by rw [hlen]; exact hj) (by omega)).1
    have h3:=hcr j 0 (encB bs[j]) (encB bs[j]) (by rw [List.getElem?_map,List.getElem?_eq_getElem hj]; rfl) rfl
    generalize hU : U j 0 = y at h2 h3
    rw [h3.invV.1] at h2
    rw [Addr.add_lit]; simpa using h2
  rw [hlen] at hrun
  simp [execOp,ho,hu,hrun]
theorem run_eq3 {t e : TypeId} (ht : P.underlying t = some (.array 3 e)) (he : P.underlying e = some (.int .i64)) (hz : sizeT P e = some 1) (d : Nat) (a0 a1 a2 b0 b1 b2 : Int) (w : World) :
  (Op.equalIn (d + 2) t (.agg #[.int .i64 a0,.int .i64 a1,.int .i64 a2]) (.agg #[.int .i64 b0,.int .i64 b1,.int .i64 b2])).run P w = .ok (a0 == b0 && (a1 == b1 && a2 == b2)) w:=by
 have ha : aggT P e = some false:=by simp [aggT,he]
 have p : ∀ (xs : Array Value) (off : Nat) (v : Value),xs[off]? = some v → (part e xs off).run P w = .ok v w:=fun xs off v hx => by simp [part,run_isAgg ha,hx]
 have hq : ∀ a b : Int,(Op.equalIn (d + 1) e (.int .i64 a) (.int .i64 b)).run P w = .ok (a == b) w:=fun a b => run_equalIn_int w d e .i64 .i64 a b he
 rw [Op.equalIn]
 simp only [Sem.run_bind,run_underlying ht,Result.andThen_ok,run_sizeOf hz]
 simp only [Std.Legacy.Range.forIn_eq_forIn_range',Std.Legacy.Range.size,List.range',List.forIn_cons,List.forIn_nil]
 have pa0:=p #[.int .i64 a0,.int .i64 a1,.int .i64 a2] (0 * 1) (.int .i64 a0) rfl
 have pa1:=p #[.int .i64 a0,.int .i64 a1,.int .i64 a2] ((0 + 1) * 1) (.int .i64 a1) rfl
 have pa2:=p #[.int .i64 a0,.int .i64 a1,.int .i64 a2] ((0 + 1 + 1) * 1) (.int .i64 a2) rfl
 have pb0:=p #[.int .i64 b0,.int .i64 b1,.int .i64 b2] (0 * 1) (.int .i64 b0) rfl
 have pb1:=p #[.int .i64 b0,.int .i64 b1,.int .i64 b2] ((0 + 1) * 1) (.int .i64 b1) rfl
 have pb2:=p #[.int .i64 b0,.int .i64 b1,.int .i64 b2] ((0 + 1 + 1) * 1) (.int .i64 b2) rfl
 simp only [Sem.run_bind,pa0,pb0,hq,Result.andThen_ok]
 by_cases e0 : a0 = b0 <;> by_cases e1 : a1 = b1 <;> by_cases e2 : a2 = b2 <;> simp_all
def ints3 : List D → Option (Int × Int × Int)
 | [.held (.inl (.int .i64 a)),.held (.inl (.int .i64 b)),.held (.inl (.int .i64 c))] => some (a,b,c)
 | _ => none
theorem ints3_of {I : Still} {ρ : Nat → Option Nat} {w : World} {cs : List D} {a b c : Int} {u : Value} (h : ints3 cs = some (a,b,c)) (hr : AVRep I ρ w (aD cs) u) : u = .agg #[.int .i64 a,.int .i64 b,.int .i64 c]:=by
 obtain ⟨us,rfl,hrow⟩:=agg_of hr
 unfold ints3 at h
 split at h
 ·cases h
  match us,hrow with
  | [u0,u1,u2],hrow =>
   have q0:=hrow.2 0 _ u0 rfl rfl
   have q1:=hrow.2 1 _ u1 rfl rfl
   have q2:=hrow.2 2 _ u2 rfl rfl
   rw [q0.invV.1,q1.invV.1,q2.invV.1]
  | [],hrow => exact absurd hrow.1 (by simp)
  | [_],hrow => exact absurd hrow.1 (by simp)
  | [_,_],hrow => exact absurd hrow.1 (by simp)
  | _ :: _ :: _ :: _ :: _,hrow => exact absurd hrow.1 (by simp)
 ·cases h
theorem ok_eqA {eq : Bool} {t e t' : TypeId} {x y : Operand} (ho : o.op = .binOp (if eq = true then .eql else .neq) t x y t') (ht : P.underlying t = some (.array 3 e)) (he : P.underlying e = some (.int .i64)) (hz : sizeT P e = some 1) (hg : P.eqGuardType P.depth t = false) {d : Nat} (hd : o.dst = some d) {cs ds : List D} {a b c a' b' c' : Int} (hx : rd st x = some (aD cs)) (hy : rd st y = some (aD ds)) (h1 : ints3 cs = some (a,b,c)) (h2 : ints3 ds = some (a',b',c')) :
  (vEv d (rds x (aD cs) ++ rds y (aD ds)) (vD (.bool ((a == a' && (b == b' && c == c')) == eq)))).ok st.F ∧ Sound P o (vEv d (rds x (aD cs) ++ rds y (aD ds)) (vD (.bool ((a == a' && (b == b' && c == c')) == eq)))):=by
 refine ⟨vEv_ok (app_rs (rd_ok hx) (rd_ok hy)),sound_val hd (rb:=[]) fun I ρ ac w hr _ => ⟨_,?_,AVRep.v rfl⟩⟩
 have q1:=ints3_of h1 (rd_rep hx (fun y hy => hr y (List.mem_append_left _ hy)))
 have q2:=ints3_of h2 (rd_rep hy (fun y hy => hr y (List.mem_append_right _ hy)))
 have q3:=run_eq3 (P:=P) ht he hz 9998 a b c a' b' c' w
 cases eq
 ·simp [execOp,ho,q1,q2,eqGuard,hg,run_neq_struct,q3]
 ·simp [execOp,ho,q1,q2,eqGuard,hg,run_eql_struct,q3]
end
section
variable {P : Program} {o : Oper} {st : St}
def nilL : D → Option Bool
 | .held (.inl (.slice none 0 0)) => some true
 | .slice _ [.held (.inr (_,1))] => some false
 | .slice (_ :: _) [.held (.inr (_,0))] => some false
 | _ => none
theorem nilL_rep {l : D} {q : Bool} (h : nilL l = some q) {I : Still} {ρ : Nat → Option Nat} {w : World} {u : Value} (hr : AVRep I ρ w l u) : ∃ a n c,u = .slice a n c ∧ a.isNone = q:=by
 unfold nilL at h
 split at h
 ·cases h
  exact ⟨none,0,0,plain_of hr,rfl⟩
 ·cases h
  obtain ⟨a,cap,hu,_⟩:=(leaf_of rfl hr).invN
  exact ⟨_,_,_,hu,rfl⟩
 ·cases h
  obtain ⟨a,cap,hu,U,_,_,_,_,h5,_⟩:=(leaf_of rfl hr).invS
  obtain ⟨b,off,rfl,_⟩:=h5 (by simp)
  exact ⟨_,_,_,hu,rfl⟩
 ·cases h
theorem ok_nil {eq : Bool} {t e t' : TypeId} {x : Operand} (ho : o.op = .binOp (if eq = true then .eql else .neq) t x (.const (.slice none 0 0)) t') (ht : P.underlying t = some (.slice e)) {d : Nat} (hd : o.dst = some d) {l : D} {q : Bool} (hx : rd st x = some l) (h : nilL l = some q) :
  (vEv d (rds x l) (vD (.bool (q == eq)))).ok st.F ∧ Sound P o (vEv d (rds x l) (vD (.bool (q == eq)))):=by
 refine ⟨vEv_ok (rd_ok hx),sound_val hd (rb:=[]) fun I ρ ac w hr _ => ⟨.bool (q == eq),?_,AVRep.v rfl⟩⟩
 obtain ⟨a,n,c,hu,hq⟩:=nilL_rep h (rd_rep hx hr)
 have h3:=run_equal_slice_nil (P:=P) w t e a n c ht
 rw [hq] at h3
 have hc : ac.eval (.const (.slice none 0 0)) = .slice none 0 0:=rfl
 cases eq <;> simp [execOp,ho,hu,hc,eqGuard,binOp,h3]
def asIs (v : Value) : Option (DataW Value × List MemPlace):=some (.held v,[])
theorem mget_mem {l : List (Int × Value)} {k : Int} {v : Value} (h : mget l k = some v) : (k,v) ∈ l:=by
 induction l with
 | nil => simp [mget] at h
 | cons x r ih =>
  obtain ⟨k',v'⟩:=x
  simp only [mget] at h
  split at h
  ·rename_i e; cases h; subst e; simp
  ·exact List.mem_cons_of_mem _ (ih h)
theorem MapIs.fit {k : TypeId} (hk : P.underlying k = some (.int .i64)) {es : Array MapEntry} {clock : Nat} {l : List (Int × Value)} (h : MapIs es clock l) : WideElems.Fit P k asIs es clock:=by
 refine ⟨Nat.le_trans h.2.1 h.2.2.1,h.1,fun x hx => ?_⟩
 obtain ⟨n,h1,h2⟩:=h.2.2.2.1 x hx
 exact ⟨(.int .i64 n,.held x.val),by simp [WideElems.rd,h1,Maps.keyOf_int_mk hk h2,asIs]⟩
theorem run_lookup {t k e : TypeId} (ht : P.underlying t = some (.map k e)) (hk : P.underlying k = some (.int .i64)) {z : Value} {w : World} (hz : (zeroValue e).run P w = .ok z w) {g : Nat} {es : Array MapEntry} {clock : Nat} {l : List (Int × Value)}
  (hb : w.heap[g]? = some (.map es clock)) (h : MapIs es clock l) {n : Int} (hn : (Lit.int .i64 n).wf = true) : (Instr.lookup t (.map (some g)) (.int .i64 n) false).run P w = .ok ((mget l n).getD z) w:=by
 rcases Maps.fit_look false (Maps.int_keyed hk) ht hz hb (h.fit hk) (Maps.keyOf_int_mk hk hn) with ⟨h1,h2,_⟩ | ⟨e0,y,h1,h2,h3,_⟩
 ·have : mget l n = none:=by
   cases hm : mget l n with
   | none => rfl
   | some v =>
    obtain ⟨x,hx,hk',_⟩:=(h.2.2.2.2.2 n v).2 hm
    exact absurd hk' (h2 x hx)
  rw [this]; simpa using h1
 ·have : mget l n = some e0.val:=(h.2.2.2.2.2 n e0.val).1 ⟨e0,h1,h2,rfl⟩
  rw [this]; simpa using h3
theorem run_update {t k e : TypeId} (ht : P.underlying t = some (.map k e)) (hk : P.underlying k = some (.int .i64)) {w : World} {g : Nat} {es : Array MapEntry} {clock : Nat} {l : List (Int × Value)}
  (hb : w.heap[g]? = some (.map es clock)) (h : MapIs es clock l) {n : Int} (hn : (Lit.int .i64 n).wf = true) {v : Value} (hv : plainV v = true) (hroom : l.length < maxLen) :
  ∃ w' es' clock',(Instr.mapUpdate t (.map (some g)) (.int .i64 n) v).run P w = .ok () w' ∧ w.grownBy w' (some g) ∧ w'.heap[g]? = some (.map es' clock') ∧ MapIs es' clock' ((n,v) :: l):=by
 have hkey:=Maps.keyOf_int_mk hk hn
 have F:=h.fit hk
 obtain ⟨es',clock',hrun,F',hput,_,_,hall⟩:=Maps.fit_store (R:=asIs) (R':=asIs) (Maps.int_keyed hk) ht hb F (Nat.lt_of_le_of_lt h.2.1 hroom) (fun _ _ _ _ hz => hz) hkey (rfl : asIs v = some _)
 refine ⟨_,es',clock',hrun,⟨rfl,rfl,rfl,by simp [ChangeMaps.setBlock],fun i _ hi => ChangeMaps.heap_setBlock_other hb _ (fun e => hi (by rw [e]))⟩,ChangeMaps.heap_setBlock_same hb _,F'.stamped,?_,by simp; omega,?_,?_,?_⟩
 ·have e1 : es'.size = ((es'.toList.map (WideElems.rg P k asIs)).foldr DataW.insert []).length:=by rw [length_sorted]; simp
  rw [e1,hput]
  unfold ChangeMaps.putKey
  rw [length_insert]
  have e2:=List.length_filter_le (ChangeMaps.notKey (Lit.int .i64 n)) ((es.toList.map (WideElems.rg P k asIs)).foldr DataW.insert [])
  rw [length_sorted] at e2
  simp at e2
  have:=h.2.1
  simp
  omega
 ·intro x hx
  rcases hall x hx with ⟨h1,_⟩ | ⟨h1,_⟩
  ·exact h.2.2.2.1 x h1
  ·exact ⟨n,h1,hn⟩
 ·intro p hp
  rcases List.mem_cons.1 hp with rfl | hp
  ·exact hv
  ·exact h.2.2.2.2.1 p hp
 ·-- what is in it
  have hrg : ∀ (x : MapEntry) (m : Int),x.key = .int .i64 m → (Lit.int .i64 m).wf = true → WideElems.rg P k asIs x = (.int .i64 m,.held x.val):=by
   intro x m h1 h2
   exact WideElems.rg_of (by simp [WideElems.rd,h1,Maps.keyOf_int_mk hk h2,asIs])
  have hmem : ∀ p : Lit × DataW Value,p ∈ es'.toList.map (WideElems.rg P k asIs) ↔ p = (Lit.int .i64 n,.held v) ∨ (p ∈ es.toList.map (WideElems.rg P k asIs) ∧ ChangeMaps.notKey (Lit.int .i64 n) p = true):=by
   intro p
   rw [← (WideShapes.sorted_perm (es'.toList.map (WideElems.rg P k asIs))).mem_iff,hput]
   unfold ChangeMaps.putKey
   rw [ChangeMaps.mem_insert_iff,List.mem_filter,(WideShapes.sorted_perm (es.toList.map (WideElems.rg P k asIs))).mem_iff]
  have hkl : WideAt.IsKeyLit (Lit.int .i64 n):=(Maps.int_keyed hk).key hkey
  have hkeys' : ∀ x ∈ es'.toList,∃ m,x.key = .int .i64 m ∧ (Lit.int .i64 m).wf = true:=by
   intro x hx
   rcases hall x hx with ⟨h1,_⟩ | ⟨h1,_⟩
   ·exact h.2.2.2.1 x h1
   ·exact ⟨n,h1,hn⟩
  intro m y
  simp only [mget]
  constructor
  ·rintro ⟨x,hx,h1,rfl⟩
   rcases hall x hx with ⟨h2,h3⟩ | ⟨h2,h3⟩
   ·have hne : ¬ n = m:=by intro e; subst e; exact h3 h1
    rw [if_neg hne]
    exact (h.2.2.2.2.2 m x.val).1 ⟨x,h2,h1,rfl⟩
   ·have : n = m:=by rw [h2] at h1; injection h1
    rw [if_pos this,h3]
  ·intro hm
   split at hm
   ·rename_i e
    subst e
    cases hm
    obtain ⟨x,hx,hx2⟩:=List.mem_map.1 ((hmem (Lit.int .i64 n,.held v)).2 (.inl rfl))
    obtain ⟨m',h1,h2⟩:=hkeys' x hx
    rw [hrg x m' h1 h2] at hx2
    injection hx2 with q1 q2
    injection q1 with _ q1
    injection q2 with q2
    subst q1
    exact ⟨x,hx,h1,q2⟩
   ·rename_i hne
    obtain ⟨x,hx,h1,rfl⟩:=(h.2.2.2.2.2 m y).2 hm
    obtain ⟨m0,h2,h3⟩:=h.2.2.2.1 x hx
    have : m0 = m:=by rw [h1] at h2; injection h2 with _ h2; exact h2.symm
    subst this
    have hin : (Lit.int .i64 m0,DataW.held x.val) ∈ es.toList.map (WideElems.rg P k asIs):=List.mem_map.2 ⟨x,hx,hrg x m0 h1 h3⟩
    obtain ⟨x',hx',hx2⟩:=List.mem_map.1 ((hmem (Lit.int .i64 m0,.held x.val)).2 (.inr ⟨hin,(Maps.notKey_iff hkl).2 (fun e => hne (by injection e with _ e; exact e.symm))⟩))
    obtain ⟨m',q1,q2⟩:=hkeys' x' hx'
    rw [hrg x' m' q1 q2] at hx2
    injection hx2 with r1 r2
    injection r1 with _ r1
    injection r2 with r2
    subst r1
    exact ⟨x',hx',q1,r2⟩
def mlk : List D → Int → Option Value
 | [],_ => none
 | (.agg [.held (.inl (.int .i64 k)),.held (.inl v)]) :: r,x => if k = x then some v else mlk r x
 | _ :: r,x => mlk r x
theorem mlk_enc (l : List (Int × Value)) (n : Int) : mlk (l.map encE) n = mget l n:=by
 induction l with
 | nil => rfl
 | cons x r ih =>
  simp only [List.map_cons,encE,mlk,mget]
  split
  ·rfl
  ·exact ih
theorem wf_i64 {n : Int} (h : inR .i64 n = true) : (Lit.int .i64 n).wf = true:=by
 have hm : IntKind.i64.min = -9223372036854775808:=by decide
 have hM : IntKind.i64.max = 9223372036854775807:=by decide
 have h:=inR_iff.1 h
 simp only [Lit.wf,hm,hM]
 simpa using h
def mkmEv (d : Nat) : Ev:={ rs:=[],nb:=[200000 + d],ws:=some (d,some (hD (200000 + d))),wb:=some (200000 + d,[]),cf:=[(d,none)] }
theorem ok_mkM {t : TypeId} (ho : o.op = .makeMap t none) {d : Nat} (hd : o.dst = some d) (hb : look st.bx (200000 + d) = none) : (mkmEv d).ok st.F ∧ Sound P o (mkmEv d):=by
 refine ⟨⟨fun x hx => by simp [mkmEv] at hx,fun x hx => by simp [mkmEv] at hx,fun x hx => by simp [mkmEv] at hx; subst hx; exact hb,fun x hx => by simp [mkmEv] at hx⟩,sound_new hd (by omega) fun I ρ ac w hr _ => ?_⟩
 refine ⟨.map (some w.heap.size),.map #[] 0,by simp [execOp,ho,run_makeMap],fun ρ' hρ => ⟨.inr (.inr (.inl ⟨by omega,[],#[],0,rfl,heap_alloc_new _ _,MapKept.stamped_empty 0,Nat.le_refl _,Nat.zero_le _,(fun x hx => by simp at hx),(fun p hp => by simp at hp),(fun k v => by simp [mget])⟩)),.inr (.inr (.inl ⟨_,_,rfl,by omega,hρ,rfl⟩))⟩⟩
theorem ok_lku {t k e : TypeId} {z : Value} {x y : Operand} (ho : o.op = .lookup t x y false) (ht : P.underlying t = some (.map k e)) (hk : P.underlying k = some (.int .i64)) (hz : (P.info? e).bind (·.zero) = some z) (hzp : plainV z = true) {d : Nat} (hd : o.dst = some d) {b : Nat} {cs : List D} {n : Int} (hx : rd st x = some (hD b)) (hb : look st.bx b = some cs) (hy : rd st y = some (vD (.int .i64 n))) (hn : inR .i64 n = true) :
  (bEv d (rds x (hD b) ++ rds y (vD (.int .i64 n))) [(b,cs)] (vD ((mlk cs n).getD z))).ok st.F ∧ Sound P o (bEv d (rds x (hD b) ++ rds y (vD (.int .i64 n))) [(b,cs)] (vD ((mlk cs n).getD z))):=by
 refine ⟨bEv_ok (app_rs (rd_ok hx) (rd_ok hy)) (fun y hy => by simp at hy; subst hy; exact hb),sound_val hd fun I ρ ac w hr hbx => ?_⟩
 obtain ⟨g,hlt,hp,hu⟩:=(rd_rep hx (fun y hy => hr y (List.mem_append_left _ hy))).invH
 have hv:=plain_of (rd_rep hy (fun y hy => hr y (List.mem_append_right _ hy)))
 obtain ⟨g',q1,q2⟩:=hbx (b,cs) (by simp)
 simp only at q1 q2; rw [hp] at q1; cases q1
 obtain ⟨l,es,clock,rfl,h1,h2⟩:=q2.map hlt
 have hzr : (zeroValue e).run P w = .ok z w:=by
  cases hi : P.info? e with
  | none => simp [hi] at hz
  | some i => simp only [hi,Option.bind_some] at hz; simp [zeroValue,typeInfo,hi,hz]
 have hrun:=run_lookup ht hk hzr h1 h2 (wf_i64 hn)
 rw [mlk_enc]
 refine ⟨(mget l n).getD z,by simp [execOp,ho,hu,hv,hrun],AVRep.v ?_⟩
 cases hm : mget l n with
 | none => exact hzp
 | some v => exact h2.2.2.2.2.1 _ (mget_mem hm)
def updEv (rs : List (Nat × D)) (b : Nat) (cs cs' : List D) : Ev:={ rs:=rs,rb:=[(b,cs)],wb:=some (b,cs') }
theorem ok_upd {t k e : TypeId} {x y v : Operand} (ho : o.op = .mapUpdate t x y v ∨ o.op = .insert t x y v) (ht : P.underlying t = some (.map k e)) (hk : P.underlying k = some (.int .i64)) (hd : o.dst = none) {b : Nat} (hbk : 200000 ≤ b) {cs : List D} {n : Int} {c : Value} (hx : rd st x = some (hD b)) (hb : look st.bx b = some cs) (hy : rd st y = some (vD (.int .i64 n))) (hn : inR .i64 n = true) (hv : rd st v = some (vD c)) (hl : cs.length < 9223372036854775807) :
  (updEv (rds x (hD b) ++ (rds y (vD (.int .i64 n)) ++ rds v (vD c))) b cs (aD [vD (.int .i64 n),vD c] :: cs)).ok st.F ∧ Sound P o (updEv (rds x (hD b) ++ (rds y (vD (.int .i64 n)) ++ rds v (vD c))) b cs (aD [vD (.int .i64 n),vD c] :: cs)):=by
 refine ⟨⟨app_rs (rd_ok hx) (app_rs (rd_ok hy) (rd_ok hv)),(fun y hy => by simp [updEv] at hy; subst hy; exact hb),fun x hx => by simp [updEv] at hx,fun x hx => by simp [updEv] at hx⟩,sound_chg hd (by omega) fun I ρ ac w hr _ g hg _ hbx => ?_⟩
 have hr0 : ∀ z ∈ rds y (vD (.int .i64 n)) ++ rds v (vD c),∃ u,ac.tmps[z.1]? = some u ∧ AVRep I ρ w z.2 u:=fun z hz => hr z (List.mem_append_right _ hz)
 obtain ⟨g',hlt,hp,hu⟩:=(rd_rep hx (fun y hy => hr y (List.mem_append_left _ hy))).invH
 have hyv:=plain_of (rd_rep hy (fun y hy => hr0 y (List.mem_append_left _ hy)))
 have hcv:=rd_rep hv (fun y hy => hr0 y (List.mem_append_right _ hy))
 have hcp:=(leaf_of rfl hcv).invV
 rw [hg] at hp; cases hp
 obtain ⟨l,es,clock,rfl,h1,h2⟩:=hbx.map hlt
 obtain ⟨w',es',clock',hrun,hgr,h3,h4⟩:=run_update ht hk h1 h2 (wf_i64 hn) hcp.2 (by simp at hl; unfold maxLen; omega)
 refine ⟨w',?_,hgr,.inr (.inr (.inl ⟨hlt,(n,c) :: l,es',clock',rfl,h3,h4⟩))⟩
 rcases ho with ho | ho <;> simp [execOp,ho,hu,hyv,hcp.1,hrun]
end
end Go.Proofs.Ytgaofjiidedcbad.ab
