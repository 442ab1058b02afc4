import Derived.Test.YtgaofjiidedcbadM7
import Derived.Laws.MakeOwn
set_option linter.unusedVariables false
set_option linter.unusedSimpArgs false
namespace Go.Proofs.Ytgaofjiidedcbad.ab
open Go Go.RowKit
section
variable {P : Program} {o : Oper} {st : St}
theorem ok_iaO {t e : TypeId} {z : Nat} {x i : Operand} (ho : o.op = .indexAddr t x i) (ht : P.underlying t = some (.slice e)) (hz : sizeT P e = some z) {d : Nat} (hd : o.dst = some d) {b m : Nat} {k : IntKind} {n : Int} (hx : rd st x = some (oD b m)) (hi : rd st i = some (vD (.int k n))) (hn : 0 ≤ n ∧ n < m) :
  (vEv d (rds x (oD b m) ++ rds i (vD (.int k n))) (qD b n.toNat z 0)).ok st.F ∧ Sound P o (vEv d (rds x (oD b m) ++ rds i (vD (.int k n))) (qD b n.toNat z 0)):=by
 refine ⟨vEv_ok (app_rs (rd_ok hx) (rd_ok hi)),sound_val hd (rb:=[]) fun I ρ ac w hr _ => ?_⟩
 obtain ⟨g,cap,h1,h2,hu,h3,h4⟩:=(rd_rep hx (fun y hy => hr y (List.mem_append_left _ hy))).invO
 have hv:=plain_of (rd_rep hi (fun y hy => hr y (List.mem_append_right _ hy)))
 refine ⟨.pointer (some ⟨g,n.toNat * z + 0,none⟩),?_,.inr (.inr (.inl (.inr (.inr (.inr (.inl ⟨b,n.toNat,z,0,g,rfl,h1,h2,rfl⟩))))))⟩
 simp [execOp,ho,hu,hv,Instr.indexAt,asIntOf,run_underlying ht,run_sizeOf hz,hn.1,hn.2,Addr.add_lit]
theorem ElemsAt.cell {I : Still} {w : World} {z : Nat} {es : List D} {us : List Value} (h : ElemsAt I w z es us) {i : Nat} {e : D} (he : es[i]? = some e) : Row I w (cellsD e) ((us.drop (i * z)).take z):=by
 have hz:=h.1 e (List.mem_of_getElem? he)
 have hi : i < es.length:=(List.getElem?_eq_some_iff.1 he).1
 have hle : i * z + z ≤ us.length:=by
  have h1 : (i + 1) * z ≤ es.length * z:=Nat.mul_le_mul_right _ hi
  rw [Nat.add_mul] at h1
  have:=h.2.1
  omega
 refine ⟨by simp [hz]; omega,fun j c u hc hu => ?_⟩
 obtain ⟨u',q1,q2⟩:=h.2.2 i j e c he hc
 rw [List.getElem?_take] at hu
 split at hu
 ·rw [List.getElem?_drop,q1] at hu; cases hu; exact q2
 ·cases hu
theorem ok_loadQ {t : TypeId} {n : Nat} {ag : Bool} {x : Operand} (ho : o.op = .load t x) (hn : sizeT P t = some n) (ha : aggT P t = some ag) {d : Nat} (hd : o.dst = some d) {b i z off : Nat} {es : List D} {e : D} (hx : rd st x = some (qD b i z off)) (hb : look st.bx b = some [sD z es]) (he : es[i]? = some e) {r : D} (h : sub n ag off (cellsD e) = some r) :
  (bEv d (rds x (qD b i z off)) [(b,[sD z es])] r).ok st.F ∧ Sound P o (bEv d (rds x (qD b i z off)) [(b,[sD z es])] r):=by
 refine ⟨bEv_ok (rd_ok hx) (fun y hy => by simp at hy; subst hy; exact hb),sound_val hd fun I ρ ac w hr hbx => ?_⟩
 obtain ⟨g,hlt,hp,hu⟩:=(rd_rep hx hr).invQ
 obtain ⟨g',q1,q2⟩:=hbx (b,[sD z es]) (by simp)
 simp only at q1 q2; rw [hp] at q1; cases q1
 obtain ⟨z',es',us,t',h1,h2,h3⟩:=q2.row hlt
 cases h1
 have hrow:=h3.cell he
 have hz:=h3.1 e (List.mem_of_getElem? he)
 have hcell : ∀ j,w.cell? ⟨g,j,none⟩ = us[j]?:=fun j => by rw [cell_of_row w g j us.toArray t' (0,0) h2]; simp
 unfold sub at h
 split at h
 ·rename_i hle
  split at h
  ·rename_i hag; subst hag
   cases h
   have hrow':=(hrow.drop off).take n
   have hl : ((((us.drop (i * z)).take z).drop off).take n).length = n:=by rw [← hrow'.1]; simp; omega
   have:=run_loadCells_list (P:=P) w ⟨g,i * z + off,none⟩ ((((us.drop (i * z)).take z).drop off).take n) (fun j y hy => by
    rw [Addr.add_lit,hcell]
    rw [List.getElem?_take] at hy
    split at hy
    ·rw [List.getElem?_drop,List.getElem?_take] at hy
     split at hy
     ·rw [List.getElem?_drop] at hy; rw [← hy]; congr 1; omega
     ·cases hy
    ·cases hy)
   rw [hl] at this
   exact ⟨.agg ((((us.drop (i * z)).take z).drop off).take n).toArray,by simp [execOp,ho,hu,Instr.loadAt,Instr.sureAddr,loadVar,run_isAgg ha,run_sizeOf hn,this],.inl (.inr ⟨_,_,rfl,rfl,hrow'⟩)⟩
  ·rename_i hag
   split at h
   ·obtain ⟨y,q1,q2⟩:=hrow.at h
    have : ag = false:=by simpa using hag
    subst this
    rw [List.getElem?_take] at q1
    split at q1
    ·rw [List.getElem?_drop] at q1
     exact ⟨y,by simp [execOp,ho,hu,Instr.loadAt,Instr.sureAddr,loadVar,run_isAgg ha,load,Sem.run,hcell,q1],.inl (.inl q2)⟩
    ·cases q1
   ·cases h
 ·cases h
def setE (z : Nat) (e : D) (off : Nat) (c : D) : D:=if off = 0 ∧ (cellsD c).length = z then c else aD (over (cellsD e) off (cellsD c))
theorem setE_cells {z : Nat} {e c : D} {off : Nat} (he : (cellsD e).length = z) (hl : off + (cellsD c).length ≤ z) : cellsD (setE z e off c) = over (cellsD e) off (cellsD c):=by
 unfold setE
 split
 ·rename_i h
  obtain ⟨rfl,h⟩:=h
  simp only [over,List.take_zero,List.nil_append,Nat.zero_add,h]
  rw [List.drop_of_length_le (by omega),List.append_nil]
 ·rfl
theorem ok_storQ {t : TypeId} {n : Nat} {x y : Operand} (ho : o.op = .store t x y) (hn : sizeT P t = some n) (hd : o.dst = none) {b i z off : Nat} (hbk : 100000 ≤ b) {es : List D} {e c : D} (hx : rd st x = some (qD b i z off)) (hb : look st.bx b = some [sD z es]) (he : es[i]? = some e) (hy : rd st y = some c) (hcc : isC c = true) (hc : (cellsD c).length = n) (hl : off + n ≤ z) :
  (updEv (rds x (qD b i z off) ++ rds y c) b [sD z es] [sD z (es.set i (setE z e off c))]).ok st.F ∧ Sound P o (updEv (rds x (qD b i z off) ++ rds y c) b [sD z es] [sD z (es.set i (setE z e off c))]):=by
 refine ⟨⟨app_rs (rd_ok hx) (rd_ok hy),(fun y hy => by simp [updEv] at hy; subst hy; exact hb),fun x hx => by simp [updEv] at hx,fun x hx => by simp [updEv] at hx⟩,sound_chg hd hbk fun I ρ ac w hr hIlt g hg hnI hbx => ?_⟩
 obtain ⟨g',hlt,hp,hu⟩:=(rd_rep hx (fun y hy => hr y (List.mem_append_left _ hy))).invQ
 rw [hg] at hp; cases hp
 have h2:=cv_of hcc (rd_rep hy (fun y hy => hr y (List.mem_append_right _ hy)))
 have hrow:=h2.row
 obtain ⟨z',es',us,t',h1,hgg,h3⟩:=hbx.row hlt
 cases h1
 have hi : i < es.length:=(List.getElem?_eq_some_iff.1 he).1
 have hez:=h3.1 e (List.mem_of_getElem? he)
 have hsz : (ac.eval y).cells.size = n:=by rw [← Array.length_toList,← hrow.1]; exact hc
 have hle : i * z + off + n ≤ us.length:=by
  have h1 : (i + 1) * z ≤ es.length * z:=Nat.mul_le_mul_right _ hi
  rw [Nat.add_mul] at h1
  have:=h3.2.1
  omega
 have hrun:=run_storeP (P:=P) hn hgg (u:=ac.eval y) (off:=i * z + off) hsz hrow.one hle
 have hvl : (ac.eval y).cells.toList.length = n:=by simpa using hsz
 have hcell : ∀ c j,I c j → (w.setRow g (over us (i * z + off) (ac.eval y).cells.toList).toArray).cell? ⟨c,j,none⟩ = w.cell? ⟨c,j,none⟩:=fun c j hi =>
  cell_setRow_other w g _ ⟨c,j,none⟩ (fun e => hnI j (by rw [← e]; exact hi))
 refine ⟨w.setRow g (over us (i * z + off) (ac.eval y).cells.toList).toArray,by simp [execOp,ho,hu,hrun],⟨rfl,rfl,rfl,by simp,fun k _ hk => setRow_other w g k _ (fun e => hk (by rw [e]))⟩,.inr (.inl ⟨hlt,z,_,over us (i * z + off) (ac.eval y).cells.toList,t',rfl,setRow_heap w g us.toArray _ t' (0,0) hgg,fun x hx => ?_,?_,fun i' j x l hx hl' => ?_⟩)⟩
 ·rcases List.mem_or_eq_of_mem_set hx with hx | rfl
  ·exact h3.1 x hx
  ·rw [setE_cells hez (by omega),over_len (by omega),hez]
 ·rw [over_len (by omega),List.length_set]; exact h3.2.1
 ·by_cases hii : i' = i
  ·subst hii
   rw [List.getElem?_set_self hi] at hx
   cases hx
   rw [setE_cells hez (by omega)] at hl'
   have hj : j < z:=by have:=(List.getElem?_eq_some_iff.1 hl').1; rw [over_len (by omega)] at this; omega
   by_cases hin : off ≤ j ∧ j < off + n
   ·obtain ⟨k,rfl⟩ : ∃ k,j = off + k:=⟨j - off,by omega⟩
    rw [over_in (by omega) (by omega)] at hl'
    obtain ⟨u,q1,q2⟩:=hrow.at hl'
    refine ⟨u,?_,q2.keep (fun _ _ h => h) hcell⟩
    rw [← Nat.add_assoc,over_in (by omega) (by omega)]; exact q1
   ·rw [over_out (by omega) (by omega)] at hl'
    obtain ⟨u,q1,q2⟩:=h3.2.2 i' j e l he hl'
    exact ⟨u,by rw [over_out (by omega) (by omega)]; exact q1,q2.keep (fun _ _ h => h) hcell⟩
  ·rw [List.getElem?_set_ne (fun e => hii e.symm)] at hx
   obtain ⟨u,q1,q2⟩:=h3.2.2 i' j x l hx hl'
   have hxz:=h3.1 x (List.mem_of_getElem? hx)
   have hj : j < z:=by have:=(List.getElem?_eq_some_iff.1 hl').1; omega
   refine ⟨u,?_,q2.keep (fun _ _ h => h) hcell⟩
   rw [over_out (by omega) ?_]
   ·exact q1
   ·rcases Nat.lt_or_gt_of_ne hii with h | h
    ·have : (i' + 1) * z ≤ i * z:=Nat.mul_le_mul_right _ h
     rw [Nat.add_mul] at this
     omega
    ·have : (i + 1) * z ≤ i' * z:=Nat.mul_le_mul_right _ h
     rw [Nat.add_mul] at this
     omega
theorem one_cell {zv : Value} (h : zv.cells.size = 1) : ∃ v,zv.cells.toList = [v]:=by
 match hc : zv.cells.toList with
 | [v] => exact ⟨v,rfl⟩
 | [] => rw [← Array.length_toList,hc] at h; cases h
 | _ :: _ :: _ => rw [← Array.length_toList,hc] at h; simp at h
def elD (ag : Bool) (zs : List D) : D:=if ag = true then aD zs else zs.headD (vD undef)
def mksEv (d z n : Nat) (rs : List (Nat × D)) (e : D) : Ev:={ rs:=rs,nb:=[100000 + d],ws:=some (d,some (oD (100000 + d) n)),wb:=some (100000 + d,[sD z (List.replicate n e)]),cf:=[(d,none)] }
theorem ok_mkS {t e : TypeId} {z bytes : Nat} {i : TypeInfo} {zv : Value} {ag : Bool} {x y : Operand} (ho : o.op = .makeSlice t x y) (ht : P.underlying t = some (.slice e)) (hi : P.info? e = some i) (hzv : i.zero = some zv) (hsize : i.size = z) (hby : i.bytes = bytes) (hzs : zv.cells.size = z) (hz0 : 0 < z) (hpz : zv.cells.all plainV = true) (hag : ag = true ∨ z = 1)
  {d : Nat} (hdl : d < 100000) (hd : o.dst = some d) {k k' : IntKind} {n c : Int} (hx : rd st x = some (vD (.int k n))) (hy : rd st y = some (vD (.int k' c))) (hn : 0 ≤ n ∧ n ≤ c) (hc : c ≤ 1000000000) (hbc : bytes ≤ 1000) (hb : look st.bx (100000 + d) = none) :
  (mksEv d z n.toNat (rds x (vD (.int k n)) ++ rds y (vD (.int k' c))) (elD ag (zv.cells.toList.map vD))).ok st.F ∧ Sound P o (mksEv d z n.toNat (rds x (vD (.int k n)) ++ rds y (vD (.int k' c))) (elD ag (zv.cells.toList.map vD))):=by
 refine ⟨⟨app_rs (rd_ok hx) (rd_ok hy),fun x hx => by simp [mksEv] at hx,fun x hx => by simp [mksEv] at hx; subst hx; exact hb,fun x hx => by simp [mksEv] at hx⟩,sound_new hd (by omega) fun I ρ ac w hr _ => ?_⟩
 have h1:=plain_of (rd_rep hx (fun y hy => hr y (List.mem_append_left _ hy)))
 have h2:=plain_of (rd_rep hy (fun y hy => hr y (List.mem_append_right _ hy)))
 have hb' : (i.bytes : Int) * c ≤ 281474976710656:=by
  rw [hby]
  have : (bytes : Int) * c ≤ 1000 * 1000000000:=Int.mul_le_mul (by omega) hc (by omega) (by omega)
  omega
 have hrun:=run_make (P:=P) w t e i zv ht hi hzv k k' n c hn.1 hn.2 hb' (by omega)
 refine ⟨.slice (some ⟨w.heap.size,0,none⟩) n.toNat c.toNat,.cells (madeCells zv.cells (c.toNat * i.size)) e,by simp [execOp,ho,h1,h2,hrun],fun ρ' hρ => ⟨.inr (.inl ⟨by omega,z,_,(madeCells zv.cells (c.toNat * i.size)).toList,e,rfl,?_,fun x hx => ?_,?_,fun i' j x l hx hl => ?_⟩),.inr (.inl ⟨_,_,rfl,_,c.toNat,by omega,hρ,rfl,by omega,by unfold maxLen; omega⟩)⟩⟩
 ·rw [Array.toArray_toList]; exact heap_alloc_new _ _
 ·obtain rfl:=(List.mem_replicate.1 hx).2
  unfold elD
  split
  ·simp [cellsD,hzs]
  ·rename_i h
   have : z = 1:=hag.resolve_left h
   obtain ⟨v,hv⟩:=one_cell (hzs.trans this)
   rw [hv]; simp [cellsD,this]
 ·rw [List.length_replicate,Array.length_toList,size_madeCells,hsize]; exact Nat.mul_le_mul_right _ (by omega)
 ·obtain ⟨hlt,rfl⟩:=List.getElem?_eq_some_iff.1 hx
  rw [List.length_replicate] at hlt
  rw [List.getElem_replicate] at hl
  have hcs : cellsD (elD ag (zv.cells.toList.map vD)) = zv.cells.toList.map vD:=by
   unfold elD
   split
   ·rfl
   ·rename_i h
    have : z = 1:=hag.resolve_left h
    obtain ⟨v,hv⟩:=one_cell (hzs.trans this)
    rw [hv]; rfl
  rw [hcs] at hl
  rw [List.getElem?_map] at hl
  obtain ⟨v,q1,rfl⟩:=Option.map_eq_some_iff.1 hl
  have hj : j < z:=by have:=(List.getElem?_eq_some_iff.1 q1).1; simp at this; omega
  have hin : i' * z + j < c.toNat * z:=cell_in (by omega) hj
  have hvm : v ∈ zv.cells:=by rw [← Array.mem_toList_iff]; exact List.mem_of_getElem? q1
  refine ⟨v,?_,CRep.v (Array.all_eq_true'.1 hpz v hvm)⟩
  rw [Array.getElem?_toList,hsize]
  unfold madeCells
  rw [Array.getElem?_map]
  simp only [Array.getElem?_range,hin,if_true,Option.map_some,hzs]
  rw [(cell_flat (n:=0) hj).2]
  rw [Array.getElem?_toList] at q1
  obtain ⟨q2,rfl⟩:=Array.getElem?_eq_some_iff.1 q1
  rw [getElem!_pos zv.cells j q2]
def aprEv (d s z : Nat) (rs : List (Nat × D)) (f : Option (Nat × Pay)) (fs : List D) : Ev :=
 { rs:=rs,nb:=[100000 + d],rf:=(match f with | some f => [((s,none),f)] | none => []),ws:=some (d,some (oD (100000 + d) fs.length)),wb:=some (100000 + d,[sD z fs]),cf:=(match f with | some _ => [(s,none),(d,none)] | none => [(d,none)]) }
theorem ok_apr {t e : TypeId} {z bytes s : Nat} {i : TypeInfo} {zv : Value} {y : Operand} (ho : o.op = .call { callee:=.builtin .append,args:=#[.tmp s,y],argTypes:=#[t,t] }) (ht : P.underlying t = some (.slice e)) (hi : P.info? e = some i) (hzv : i.zero = some zv)
  (hsize : i.size = z) (hby : i.bytes = bytes) (hzs : zv.cells.size = z) (hz : 0 < z) (hb0 : 0 < bytes) {d : Nat} (hdl : d < 100000) (hd : o.dst = some d) {l l' : D} {fs : List D} (hx : rd st (.tmp s) = some l) (hl : asS z l = some []) (hy : rd st y = some l') (hl' : asS z l' = some fs) (hf : lookF st.fl (s,none) = some (e,z,none))
  (hne : 0 < fs.length) (hbytes : fs.length * bytes ≤ 140737488355328) (hb : look st.bx (100000 + d) = none) :
  (aprEv d s z (rds (.tmp s) l ++ rds y l') (some (e,z,none)) fs).ok st.F ∧ Sound P o (aprEv d s z (rds (.tmp s) l ++ rds y l') (some (e,z,none)) fs):=by
 refine ⟨⟨app_rs (rd_ok hx) (rd_ok hy),fun x hx => by simp [aprEv] at hx,fun x hx => by simp [aprEv] at hx; subst hx; exact hb,fun x hx => by simp [aprEv] at hx; subst hx; exact hf⟩,?_⟩
 intro base w0 I0 N st' a w K Q hN ⟨I,ρ,h⟩ hok hK
 have hxf : st'.fl s none = some (e,z,none):=hok.rf ((s,none),(e,z,none)) (by simp [aprEv])
 have hbx : st'.bx (100000 + d) = none:=hok.nb (100000 + d) (by simp [aprEv])
 obtain ⟨u,hat,hown⟩:=h.fl s none e (z,none) hxf
 have hr : ∀ y' ∈ rds (.tmp s) l ++ rds y l',∃ u,a.tmps[y'.1]? = some u ∧ AVRep I ρ w y'.2 u:=fun x hx => h.tm x.1 x.2 (hok.rs x hx)
 have h1:=asS_av hl (rd_rep hx (fun y hy => hr y (List.mem_append_left _ hy)))
 have h2:=asS_av hl' (rd_rep hy (fun y hy => hr y (List.mem_append_right _ hy)))
 have h3 : a.eval (.tmp s) = u:=by simp only [At] at hat; simp [Act.eval,Array.getD_eq_getD_getElem?,hat]
 rw [h3] at h1
 obtain ⟨ad,cap,hu,_⟩:=h1.invS
 obtain ⟨bd,cap',ys,hyu,hnil',hyl,hyc,hy1,hyr⟩:=h2.cells hz
 obtain ⟨n,xs,hrow,hsp,_⟩:=hown
 simp only at hrow hsp
 have hn : n = 0:=by
  rcases hrow.2 with ⟨q,q'⟩ | ⟨g,c,cur,q,_⟩
  ·exact q'
  ·rw [hu] at q; injection q with _ q2 _; exact q2.symm
 subst hn
 have hxs : xs = []:=List.eq_nil_of_length_eq_zero (by rw [hrow.1,Nat.zero_mul])
 subst hxs
 cases bd with
 | none => have:=(hnil' rfl).1; subst this; simp at hne
 | some da =>
  obtain ⟨v',w',hrun,hrow',hgr,hwh⟩:=run_append_where (P:=P) w 0 t o.type e i zv z bytes ht hi hzv hsize hby hzs hz _ _ _ hrow da fs.length cap' ys hyl (hyc da rfl) hy1 (by
   have : fs.length ≤ fs.length * bytes:=Nat.le_mul_of_pos_right _ hb0
   unfold maxLen; omega) (by simpa using hbytes) (Nat.zero_le _)
  simp only [Nat.zero_add,List.nil_append] at hrow'
  -- where the new row lies
  obtain ⟨g',c',cur',hv',hbg',hg',hnc',hcm',hcs',htk'⟩ : ∃ g cap cur,v' = .slice (some ⟨g,0,none⟩) fs.length cap ∧ 0 ≤ g ∧ w'.heap[g]? = some (.cells cur e (0,0)) ∧ fs.length ≤ cap ∧ cap ≤ maxLen ∧ cur.size = cap * z ∧ cur.toList.take (fs.length * z) = ys:=by
   rcases hrow'.2 with ⟨_,q⟩ | q
   ·omega
   ·exact q
  have hownB : v'.ownBlock = some g':=by rw [hv']; rfl
  have hold : ∀ b j,I b j → w'.cell? ⟨b,j,none⟩ = w.cell? ⟨b,j,none⟩:=by
   intro b j hI
   refine World.cell?_of_block (hgr.block b (h.lt b j hI) (fun q => ?_))
   exact (hsp b q.symm).2.1 j (by simp) hI
  have hρ' : ∀ b,ρ b ≠ some g':=by
   intro b hb
   rcases hwh with hsame | ⟨hnew,_⟩
   ·exact (hsp g' (hsame ▸ hownB)).2.2 b hb
   ·rw [hnew] at hownB; cases hownB; have:=(h.boxLt hb).2; omega
  have hnb' : ¬ base g':=by
   intro hb
   rcases hwh with hsame | ⟨hnew,_⟩
   ·exact (hsp g' (hsame ▸ hownB)).1 hb
   ·rw [hnew] at hownB; cases hownB; have:=h.room _ hb; omega
  have hnI : ∀ j,¬ I g' j:=by
   intro j hI
   rcases hwh with hsame | ⟨hnew,_⟩
   ·exact (hsp g' (hsame ▸ hownB)).2.1 j (by simp) hI
   ·rw [hnew] at hownB; cases hownB; have:=h.lt _ j hI; omega
  have h0:=h.offF s none
  have hblk : ∀ g,g < w.heap.size → u.ownBlock ≠ some g → w'.heap[g]? = w.heap[g]?:=fun g hg hu' => hgr.block g hg (fun q => hu' q.symm)
  have hatk : ∀ s' p x,(st'.offF s none).fl s' p = some x → At ρ a.tmps w' s' p = At ρ a.tmps w s' p:=by
   intro s' p x hx'
   cases p with
   | none => rfl
   | some off =>
    simp only [At]
    cases hs : ρ s' with
    | none => rfl
    | some g => exact World.cell?_of_block (a:=⟨g,off,none⟩) (hblk g (h.boxLt hs).2 (fun q => (hsp g q).2.2 s' hs))
  have hap : ∀ s' p x v g,(st'.offF s none).fl s' p = some x → At ρ a.tmps w s' p = some v → v.ownBlock = some g → u.ownBlock ≠ some g:=by
   intro s' p x v g hx' hv hg hu'
   simp only [FS.offF] at hx'
   split at hx'
   ·cases hx'
   ·rename_i hne'
    exact hne' (h.apart s' p s none x (e,z,none) v u g hx' hxf hv hat hg hu')
  have hrel : RelI base w0 I0 N I ρ (st'.offF s none) a w':=by
   refine ⟨h0.defers,h0.size,fun s' v hv => ?_,h0.cap,h0.flc,fun b cs hc => ?_,h0.inj,h0.nob,fun s' p e' z' hx' => ?_,fun s' p s'' p'' x x' y y' g q1 q2 q3 q4 q5 q6 => ?_,fun b j hI => ?_,h0.sub,?_,fun b hb' => Nat.lt_of_lt_of_le (h.room b hb') hgr.size,fun b j hi => ⟨(h.mon b j hi).1,(hold b j (h.mon b j hi).1).trans (h.mon b j hi).2⟩⟩
   ·obtain ⟨u',q1,q2⟩:=h0.tm s' v hv
    exact ⟨u',q1,q2.keep (fun _ _ h => h) (fun _ _ _ h => h) hold⟩
   ·obtain ⟨g,q1,q2,q3,q5⟩:=h0.bx b cs hc
    exact ⟨g,q1,q2,q3.keep (fun _ _ h => h) (fun _ _ _ h => h) hold (hblk g (h.boxLt q1).2 (fun q => (hsp g q).2.2 b q1)),q5⟩
   ·obtain ⟨u',q1,q2⟩:=h0.fl s' p e' z' hx'
    exact ⟨u',by rw [hatk s' p _ hx']; exact q1,own_keep q2 (fun g hg => hblk g (own_lt q2 g hg).2 (hap s' p _ u' g hx' q1 hg)) (fun _ _ _ h => h) (fun _ _ _ h => h) (fun _ _ h => h) hold⟩
   ·rw [hatk s' p _ q1] at q3
    rw [hatk s'' p'' _ q2] at q4
    exact h0.apart s' p s'' p'' x x' y y' g q1 q2 q3 q4 q5 q6
   ·have:=h.lt b j hI; have:=hgr.size; omega
   ·exact h.below.trans ⟨hgr.os,hgr.tape,hgr.output,hgr.size,fun k hk => hgr.block k (h.room k hk) (fun q => (hsp k q.symm).1 hk)⟩
  -- the box
  have helems : ElemsAt I w' z fs cur'.toList:=by
   refine ⟨h2.sizes,by rw [show cur'.toList.length = c' * z by rw [Array.length_toList]; exact hcs']; exact Nat.mul_le_mul_right _ hnc',fun i' j x l'' hx' hl'' => ?_⟩
   obtain ⟨y0,r1,r2⟩:=hyr i' j x l'' hx' hl''
   refine ⟨y0,?_,r2.keep (fun _ _ h => h) hold⟩
   rw [← htk',List.getElem?_take] at r1
   split at r1
   ·exact r1
   ·cases r1
  have hbox : RelI base w0 I0 N I (fun c => if c = 100000 + d then some g' else ρ c) ((st'.offF s none).setB (100000 + d) [sD z fs]) a w':=by
   have hρb : ρ (100000 + d) = none:=h.nob _ hbx
   have hmono : ∀ c g,ρ c = some g → (if c = 100000 + d then some g' else ρ c) = some g:=by
    intro c g hg
    rw [if_neg (by intro e; subst e; rw [hρb] at hg; cases hg)]; exact hg
   have hat2 : ∀ s' p x,(st'.offF s none).fl s' p = some x → At (fun c => if c = 100000 + d then some g' else ρ c) a.tmps w' s' p = At ρ a.tmps w' s' p:=by
    intro s' p x hx'
    cases p with
    | none => rfl
    | some off =>
     have:=hrel.flc s' off x hx'
     have : s' ≠ 100000 + d:=by omega
     simp [At,this]
   refine ⟨hrel.defers,hrel.size,fun s' v hv => ?_,hrel.cap,hrel.flc,fun c ds hc => ?_,fun c c' g q1 q2 => ?_,fun c hc => ?_,fun s' p e' z' hx' => ?_,fun s' p s'' p'' x x' y y' g q1 q2 q3 q4 q5 q6 => ?_,hrel.lt,hrel.sub,hrel.below,hrel.room,hrel.mon⟩
   ·obtain ⟨u',q1,q2⟩:=hrel.tm s' v hv
    exact ⟨u',q1,q2.keep (fun _ _ h => h) (fun c g _ h => hmono c g h) (fun _ _ _ => rfl)⟩
   ·simp only [FS.setB] at hc
    split at hc
    ·rename_i ec; subst ec; cases hc
     exact ⟨g',by simp,hnb',.inr (.inl ⟨by omega,z,fs,cur'.toList,e,rfl,by rw [Array.toArray_toList]; exact hg',helems⟩),hnI⟩
    ·obtain ⟨g,q1,q2,q3,q4⟩:=hrel.bx c ds hc
     exact ⟨g,hmono c g q1,q2,q3.keep (fun _ _ h => h) (fun c g _ h => hmono c g h) (fun _ _ _ => rfl) rfl,q4⟩
   ·split at q1
    ·rename_i e1
     split at q2
     ·rename_i e2; rw [e1,e2]
     ·cases q1; exact absurd q2 (hρ' c')
    ·split at q2
     ·cases q2; exact absurd q1 (hρ' c)
     ·exact h.inj c c' g q1 q2
   ·simp only [FS.setB] at hc
    split at hc
    ·cases hc
    ·rename_i hne'; rw [if_neg hne']; exact hrel.nob c hc
   ·obtain ⟨u',q1,q2⟩:=hrel.fl s' p e' z' hx'
    refine ⟨u',by rw [hat2 s' p _ hx']; exact q1,own_keep q2 (fun _ _ => rfl) (fun _ _ _ h => h) (fun g c hg hc => ?_) (fun _ _ h => h) (fun _ _ _ => rfl)⟩
    split at hc
    ·cases hc
     rw [hatk s' p _ hx'] at q1
     rcases hwh with hsame | ⟨hnew,_⟩
     ·exact absurd (hsame ▸ hownB) (hap s' p _ u' g' hx' q1 hg)
     ·rw [hnew] at hownB; cases hownB
      obtain ⟨u2,r1,r2⟩:=h0.fl s' p e' z' hx'
      rw [q1] at r1; cases r1
      have:=(own_lt r2 _ hg).2; omega
    ·exact hc
   ·rw [hat2 s' p _ q1] at q3
    rw [hat2 s'' p'' _ q2] at q4
    exact hrel.apart s' p s'' p'' x x' y y' g q1 q2 q3 q4 q5 q6
  have hexec : (execOp a.eval o).run P w = .ok (.value v') w':=by
   simp [execOp,ho,resolve,invoke,builtin,h3,hyu,hrun]
  unfold Oper.wp
  rw [hexec]
  show K (a.put o.dst v') w'
  rw [hd]
  have h5:=hbox.put (hN d hd) (v:=some (oD (100000 + d) fs.length)) (u:=v') (fun x hx => by cases hx; exact .inr (.inr (.inl (.inr (.inl ⟨_,_,rfl,g',c',by omega,by simp,hv',hnc',hcm'⟩)))))
  refine hK _ _ ⟨I,_,h5.less (fun s' x hx => ?_) rfl (fun s' p x hx => ?_)⟩
  ·simpa [aprEv,Ev.app,FS.setT,FS.setB,FS.offF] using hx
  ·simp only [aprEv,Ev.app,List.mem_cons,List.not_mem_nil,or_false,Prod.mk.injEq] at hx
   simp only [FS.setT,FS.setB,FS.offF]
   by_cases e1 : s' = d ∧ p = none
   ·simp [e1] at hx
   ·by_cases e2 : s' = s ∧ p = none
    ·simp [e2] at hx
    ·simpa [e1,e2] using hx
end
section
variable {P : Program} {o : Oper} {st : St}
theorem sound_fresh {d : Nat} (hd : o.dst = some d) {rs : List (Nat × D)} {v : D}
  (H : ∀ (I : Still) (ρ : Nat → Option Nat) (a : Act) (w : World),(∀ x ∈ rs,∃ u,a.tmps[x.1]? = some u ∧ AVRep I ρ w x.2 u) → (∀ c j,I c j → c < w.heap.size) →
   ∃ u w',(execOp a.eval o).run P w = .ok (.value u) w' ∧ Below w.heap.size w w' ∧ CVRep (fun b j => I b j ∨ (w.heap.size ≤ b ∧ b < w'.heap.size)) w' v u) :
  Sound P o { rs:=rs,rb:=[],ws:=some (d,some v),cf:=[(d,none)] }:=by
 intro base w0 I0 N st a w K Q hN ⟨I,ρ,h⟩ hok hK
 obtain ⟨u,w',hrun,hb,hv⟩:=H I ρ a w (fun x hx => h.tm x.1 x.2 (hok.rs x hx)) h.lt
 unfold Oper.wp
 rw [hrun]
 show K (a.put o.dst u) w'
 rw [hd]
 have h1:=(h.later hb).put (hN d hd) (v:=some v) (u:=u) (fun x hx => by cases hx; exact .inl hv)
 refine hK _ _ ⟨_,ρ,h1.less (fun s x hx => ?_) rfl (fun s p x hx => ?_)⟩
 ·simpa [Ev.app,FS.setT] using hx
 ·simp only [Ev.app,List.mem_singleton,Prod.mk.injEq] at hx
  simpa [FS.setT] using hx
theorem ok_bts {s t e : TypeId} {x : Operand} (ho : o.op = .convert s t x) (hs : P.underlying s = some .string) (ht : P.underlying t = some (.slice e)) (he : P.underlying e = some (.int .u8)) {d : Nat} (hd : o.dst = some d) {b : ByteArray} (hx : rd st x = some (vD (.string b))) (hl : b.size ≤ 140737488355328) :
  (vEv d (rds x (vD (.string b))) (sD 1 (b.data.toList.map encB))).ok st.F ∧ Sound P o (vEv d (rds x (vD (.string b))) (sD 1 (b.data.toList.map encB))):=by
 refine ⟨vEv_ok (rd_ok hx),sound_fresh hd fun I ρ ac w hr hlt => ?_⟩
 have hv:=plain_of (rd_rep hx hr)
 have hrun:=run_bytes_of_string (P:=P) w s t e b hs ht he
 have hbel : Below w.heap.size w (w.drew.alloc (.cells (bytesRow b (grownCap w b.size 0 e)) e ((bytesRow b (grownCap w b.size 0 e)).size,(bytesRow b (grownCap w b.size 0 e)).size + 1))):=(Below.drew (Below.refl _ _)).alloc (Nat.le_refl _) _
 refine ⟨.slice (some ⟨w.heap.size,0,none⟩) b.size (grownCap w b.size 0 e),_,by simp [execOp,ho,hv,hrun],hbel,.inl ?_⟩
 have hlen : (b.data.toList.map encB).length = b.size:=by simp
 have hcell : ∀ j,(w.drew.alloc (.cells (bytesRow b (grownCap w b.size 0 e)) e ((bytesRow b (grownCap w b.size 0 e)).size,(bytesRow b (grownCap w b.size 0 e)).size + 1))).cell? ⟨w.heap.size,j,none⟩ = (bytesRow b (grownCap w b.size 0 e))[j]?:=fun j => World.cell?_alloc_mark w.drew _ e _ j
 have hrow : ∀ j (hj : j < b.size),(bytesRow b (grownCap w b.size 0 e))[j]? = some (.int .u8 (b.data[j]'hj).toNat):=by
  intro j hj
  unfold bytesRow
  rw [Array.getElem?_append_left (by simpa using hj)]
  rw [Array.getElem?_map,Array.getElem?_eq_getElem (show j < b.data.size from hj)]; rfl
 have:=CRep.s (I:=fun c j => I c j ∨ (w.heap.size ≤ c ∧ c < (w.drew.alloc (.cells (bytesRow b (grownCap w b.size 0 e)) e ((bytesRow b (grownCap w b.size 0 e)).size,(bytesRow b (grownCap w b.size 0 e)).size + 1))).heap.size)) (w:=(w.drew.alloc (.cells (bytesRow b (grownCap w b.size 0 e)) e ((bytesRow b (grownCap w b.size 0 e)).size,(bytesRow b (grownCap w b.size 0 e)).size + 1)))) (z:=1) (es:=b.data.toList.map encB) (a:=some ⟨w.heap.size,0,none⟩) (cap:=grownCap w b.size 0 e)
  ⟨fun i _ => .int .u8 ((b.data[i]?).getD 0).toNat,by rw [hlen]; exact grownCap_ge _ _ _ _,(fun e => by cases e),grownCap_le_maxLen w b.size 0 e (by unfold maxLen; omega),(fun x hx => by obtain ⟨y,_,rfl⟩:=List.mem_map.1 hx; rfl),fun _ => ⟨w.heap.size,0,rfl,fun i j hi hj => ?_⟩,fun i j x l hx' hl' => ?_⟩
 ·rw [hlen] at this; exact this
 ·rw [hlen] at hi
  have : j = 0:=by omega
  subst this
  rw [show 0 + i * 1 + 0 = i by omega]
  refine ⟨?_,.inr ⟨Nat.le_refl _,by simp⟩⟩
  show _ = some (Value.int .u8 (((b.data[i]?).getD 0).toNat : Int))
  rw [hcell,hrow i hi,Array.getElem?_eq_getElem (show i < b.data.size from hi)]; rfl
 ·rw [List.getElem?_map] at hx'
  obtain ⟨y,hy,rfl⟩:=Option.map_eq_some_iff.1 hx'
  have hj : j = 0:=by have:=(List.getElem?_eq_some_iff.1 hl').1; simp [cellsD,encB] at this; omega
  subst hj
  simp only [encB,cellsD,List.getElem?_cons_zero,Option.some.injEq] at hl'
  subst hl'
  rw [Array.getElem?_toList] at hy
  show CRep _ _ (vD (.int .u8 (y.toNat : Int))) (.int .u8 (((b.data[i]?).getD 0).toNat : Int))
  rw [hy]
  exact CRep.v rfl
theorem RelI.mark {base : Nat → Prop} {w0 : World} {I0 : Still} {N : Nat} {I : Still} {ρ : Nat → Option Nat} {fs : FS} {a : Act} {w : World} (h : RelI base w0 I0 N I ρ fs a w) {g : Nat} {C : Array Value} {e : TypeId} (hg : w.heap[g]? = some (.cells C e (0,0))) (hb : ¬ base g) (hρ : ∀ b,ρ b ≠ some g)
  (hf : ∀ s p x u,fs.fl s p = some x → At ρ a.tmps w s p = some u → u.ownBlock ≠ some g) {w' : World} (hgr : w.grownBy w' (some g)) (hcell : ∀ b j,w'.cell? ⟨b,j,none⟩ = w.cell? ⟨b,j,none⟩) : RelI base w0 I0 N I ρ fs a w':=by
 have hat : ∀ s p,At ρ a.tmps w' s p = At ρ a.tmps w s p:=by
  intro s p
  cases p with
  | none => rfl
  | some off =>
   simp only [At]
   cases hr : ρ s with
   | none => rfl
   | some g' => exact hcell g' off
 refine ⟨h.defers,h.size,fun s v hv => ?_,h.cap,h.flc,fun c ds hc => ?_,h.inj,h.nob,fun s p e' z hx => ?_,fun s p s' p' x x' y y' k h1 h2 h3 h4 h5 h6 => ?_,fun c j hi => by have:=h.lt c j hi; have:=hgr.size; omega,h.sub,?_,fun b hb' => Nat.lt_of_lt_of_le (h.room b hb') hgr.size,fun b j hi => ⟨(h.mon b j hi).1,(hcell b j).trans (h.mon b j hi).2⟩⟩
 ·obtain ⟨u,q1,q2⟩:=h.tm s v hv
  exact ⟨u,q1,q2.keep (fun _ _ h => h) (fun _ _ _ h => h) (fun b j _ => hcell b j)⟩
 ·obtain ⟨g',q1,q2,q3,q5⟩:=h.bx c ds hc
  exact ⟨g',q1,q2,q3.keep (fun _ _ h => h) (fun _ _ _ h => h) (fun b j _ => hcell b j) (hgr.block g' (h.boxLt q1).2 (fun e => by cases e; exact hρ c q1)),q5⟩
 ·obtain ⟨u,q1,q2⟩:=h.fl s p e' z hx
  exact ⟨u,by rw [hat]; exact q1,own_keep q2 (fun k hk => hgr.block k (own_lt q2 k hk).2 (fun e => by cases e; exact hf s p _ u hx q1 hk)) (fun _ _ _ h => h) (fun _ _ _ h => h) (fun _ _ h => h) (fun b j _ => hcell b j)⟩
 ·rw [hat] at h3 h4
  exact h.apart s p s' p' x x' y y' k h1 h2 h3 h4 h5 h6
 ·exact h.below.trans ⟨hgr.os,hgr.tape,hgr.output,hgr.size,fun k hk => hgr.block k (h.room k hk) (fun e => by cases e; exact hb hk)⟩
def cstEv (d s : Nat) (l : D) (f : Nat × Pay) (es : List D) : Ev:={ rs:=[(s,l)],rf:=[((s,none),f)],ws:=some (d,some (sD 1 es)),cf:=[(s,none),(d,none)] }
theorem ok_cst {t e : TypeId} {s : Nat} (ho : o.op = .convert t t (.tmp s)) (ht : P.underlying t = some (.slice e)) (he : P.underlying e = some (.int .u8)) {d : Nat} (hd : o.dst = some d) {l : D} {es : List D} {f : Nat × Pay} (hx : rd st (.tmp s) = some l) (hl : asS 1 l = some es) (hne : 0 < es.length) (hf : lookF st.fl (s,none) = some f) :
  (cstEv d s l f es).ok st.F ∧ Sound P o (cstEv d s l f es):=by
 refine ⟨⟨fun x hx' => by simp [cstEv] at hx'; subst hx'; exact hx,fun x hx => by simp [cstEv] at hx,fun x hx => by simp [cstEv] at hx,fun x hx => by simp [cstEv] at hx; subst hx; exact hf⟩,?_⟩
 intro base w0 I0 N fs a w K Q hN ⟨I,ρ,h⟩ hok hK
 have hxf : fs.fl s none = some f:=hok.rf ((s,none),f) (by simp [cstEv])
 obtain ⟨u,hat,n,xs,hrow,hsp,_⟩:=h.fl s none f.1 f.2 hxf
 obtain ⟨u',hu',hrep⟩:=h.tm s l (hok.rs (s,l) (by simp [cstEv]))
 simp only [At] at hat
 rw [hat] at hu'; cases hu'
 have h1:=asS_av hl hrep
 have heval : a.eval (.tmp s) = u:=by simp [Act.eval,Array.getD_eq_getD_getElem?,hat]
 obtain ⟨g,cap,cur,hv,hbg,hg,_,_,_,_⟩ : ∃ g cap cur,u = .slice (some ⟨g,0,none⟩) n cap ∧ 0 ≤ g ∧ w.heap[g]? = some (.cells cur f.1 (0,0)) ∧ n ≤ cap ∧ cap ≤ maxLen ∧ cur.size = cap * f.2.1 ∧ cur.toList.take (n * f.2.1) = xs:=by
  rcases hrow.2 with ⟨q,q'⟩ | q
  ·obtain ⟨ad,c,hu,_⟩:=h1.invS
   rw [hu] at q; injection q with _ q2 _; omega
  ·exact q
 have hown : u.ownBlock = some g:=by rw [hv]; rfl
 have hlt : g < w.heap.size:=(Array.getElem?_eq_some_iff.1 hg).1
 have hfr : (w.freeze ⟨g,cur.size,none⟩ 1).heap[g]? = some (.cells cur f.1 (cur.size,cur.size + 1)):=by
  unfold World.freeze
  rw [if_neg (by decide)]
  simp [Array.getElem?_modify,hg]
 have hoth : ∀ k,k ≠ g → (w.freeze ⟨g,cur.size,none⟩ 1).heap[k]? = w.heap[k]?:=by
  intro k hk
  unfold World.freeze
  rw [if_neg (by decide)]
  simp [Array.getElem?_modify,Ne.symm hk]
 have hsz : (w.freeze ⟨g,cur.size,none⟩ 1).heap.size = w.heap.size:=by
  unfold World.freeze
  rw [if_neg (by decide)]
  simp
 have hcell : ∀ b j,(w.freeze ⟨g,cur.size,none⟩ 1).cell? ⟨b,j,none⟩ = w.cell? ⟨b,j,none⟩:=by
  intro b j
  unfold World.cell?
  by_cases e1 : b = g
  ·subst e1; simp only [hfr,hg]
  ·simp only [hoth b e1]
 have hgr : w.grownBy (w.freeze ⟨g,cur.size,none⟩ 1) (some g):=⟨by unfold World.freeze; rw [if_neg (by decide)],by unfold World.freeze; rw [if_neg (by decide)],by unfold World.freeze; rw [if_neg (by decide)],by rw [hsz]; exact Nat.le_refl _,fun k _ hk => hoth k (fun e => hk (by rw [e]))⟩
 have hsh : w.shape? g = some (f.1,cur.size):=by unfold World.shape?; rw [hg]
 have hrun : (execOp a.eval o).run P w = .ok (.value u) (w.freeze ⟨g,cur.size,none⟩ 1):=by
  simp [execOp,ho,heval,hv,convert,run_underlying ht,run_underlying he,markStringish,hsh]
 unfold Oper.wp
 rw [hrun]
 show K (a.put o.dst u) _
 rw [hd]
 have h0:=h.offF s none
 have h2:=h0.mark hg (hsp g hown).1 (fun b hb => (hsp g hown).2.2 b hb) (fun s' p x v hx' hv' hg' => by
  simp only [FS.offF] at hx'
  split at hx'
  ·cases hx'
  ·rename_i hne'
   exact hne' (h.apart s' p s none x f v u g hx' hxf hv' hat hg' hown)) hgr hcell
 have h3:=h2.put (hN d hd) (v:=some (sD 1 es)) (u:=u) (fun x hx => by cases hx; exact .inl (.inl (h1.keep (fun _ _ h => h) (fun b j _ => hcell b j))))
 refine hK _ _ ⟨I,_,h3.less (fun s' x hx => ?_) rfl (fun s' p x hx => ?_)⟩
 ·simpa [cstEv,Ev.app,FS.setT,FS.offF] using hx
 ·simp only [cstEv,Ev.app,List.mem_cons,List.not_mem_nil,or_false,Prod.mk.injEq] at hx
  simp only [FS.setT,FS.offF]
  by_cases e1 : s' = d ∧ p = none
  ·simp [e1] at hx
  ·by_cases e2 : s' = s ∧ p = none
   ·simp [e2] at hx
   ·simpa [e1,e2] using hx
end
end Go.Proofs.Ytgaofjiidedcbad.ab
