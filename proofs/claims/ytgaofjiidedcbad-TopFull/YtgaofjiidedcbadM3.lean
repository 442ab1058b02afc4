import Derived.Test.YtgaofjiidedcbadM2
set_option maxHeartbeats 1000000
set_option linter.unusedVariables false
set_option linter.unusedSimpArgs false
namespace Go.Proofs.Ytgaofjiidedcbad.ab
open Go Go.RowKit
section
variable {P : Program}
theorem run_append_where (w : World) (base : Nat) (t ty e : TypeId) (i : TypeInfo) (z : Value) (size bytes : Nat) (ht : P.underlying t = some (.slice e)) (hi : P.info? e = some i) (hz : i.zero = some z)
  (hsize : i.size = size) (hby : i.bytes = bytes) (hzs : z.cells.size = size) (hsz : 0 < size)
  (v : Value) (n : Nat) (xs : List Value) (hown : w.ownsRow base e size v n xs)
  (a : Addr) (m c : Nat) (news : List Value) (hl : news.length = m * size) (hnews : ∀ j u,news[j]? = some u → w.cell? (a.add j) = some u) (h1 : ∀ u ∈ news,u.oneCell' = true)
  (h63 : n + m ≤ maxLen) (hbytes : (n + m) * bytes ≤ 140737488355328) (hbase : base ≤ w.heap.size) :
  ∃ v' w',(Builtin.append_ #[t,t] ty #[v,.slice (some a) m c]).run P w = .ok v' w' ∧ w'.ownsRow base e size v' (n + m) (xs ++ news) ∧ w.grownBy w' v.ownBlock ∧
   ((v'.ownBlock = v.ownBlock) ∨ (v'.ownBlock = some w.heap.size ∧ Below w.heap.size w w')):=by
 subst hsize
 subst hby
 have hlen : (xs ++ news).length = (n + m) * i.size:=by rw [List.length_append,hown.1,hl,Nat.add_mul]
 have hsmall : n + m ≤ 9223372036854775807:=by simp only [maxLen] at h63; omega
 have made : ∀ (old : Nat),old < n + m →
   (w.drew.alloc (.cells (xs.toArray ++ news.toArray ++ Builtin.zeroCells z.cells (grownCap w (n + m) old e - (n + m))) e)).ownsRow base e i.size
    (.slice (some ⟨w.heap.size,0,none⟩) (n + m) (grownCap w (n + m) old e)) (n + m) (xs ++ news) ∧
   Below w.heap.size w (w.drew.alloc (.cells (xs.toArray ++ news.toArray ++ Builtin.zeroCells z.cells (grownCap w (n + m) old e - (n + m))) e)):=by
  intro old ho
  refine ⟨⟨hlen,.inr ⟨w.heap.size,_,_,rfl,hbase,heap_alloc_new w.drew _,grownCap_ge w (n + m) old e,grownCap_le_maxLen w (n + m) old e h63,?_,?_⟩⟩,(Below.drew (Below.refl _ _)).alloc (Nat.le_refl _) _⟩
  ·have:=grownCap_ge w (n + m) old e
   simp only [Array.size_append,List.size_toArray,size_zeroCells,hzs,hown.1,hl,← Nat.add_mul]
   congr 1
   omega
  ·simp only [Array.toList_append,List.append_assoc]
   rw [← List.append_assoc,← hlen]
   exact List.take_left
 have grown : ∀ {w' : World},Below w.heap.size w w' → ∀ row,w.grownBy w' row:=fun hb row => ⟨hb.os,hb.tape,hb.output,hb.size,fun k hk _ => hb.block k hk⟩
 rcases hown.2 with ⟨rfl,rfl⟩ | ⟨g,cap,cur,rfl,hbg,hg,hnc,hcm,hcs,htake⟩
 ·have hx : xs = []:=List.eq_nil_of_length_eq_zero (by simpa using hown.1)
  subst hx
  by_cases hm : m = 0
  ·subst hm
   have hn : news = []:=List.eq_nil_of_length_eq_zero (by simpa using hl)
   subst hn
   refine ⟨.slice none 0 0,w,?_,World.ownsRow_nil w base e i.size,grown (Below.refl _ _) _,.inl rfl⟩
   simp [Builtin.append_,run_underlying ht,sizeOf,typeInfo,hi,Builtin.lenOf,Builtin.firstCells,loadCells,loadCellsFrom]
  ·have hr:=run_append_nil (P:=P) w t ty e i z ht hi hz a m c news hl hnews (by omega) (by omega) (by have hb:=hbytes; simp only [Nat.zero_add] at hb; omega)
   have hgr:=made 0 (by omega)
   simp only [Nat.zero_add,List.nil_append,Array.empty_append] at hgr ⊢
   exact ⟨_,_,hr,hgr.1,grown hgr.2 _,.inr ⟨rfl,hgr.2⟩⟩
 ·by_cases hroom : n + m ≤ cap
  ·have hfit : n * i.size + news.length ≤ cur.size:=by rw [hl,hcs,← Nat.add_mul]; exact Nat.mul_le_mul_right _ hroom
   have hr:=run_append_room (P:=P) w t ty e i ht hi g n cap cur hg a m c news hl hnews h1 hroom hfit
   refine ⟨_,_,hr,⟨hlen,.inr ⟨g,cap,_,rfl,hbg,setRow_heap w g cur _ e _ hg,hroom,hcm,?_,?_⟩⟩,⟨rfl,rfl,rfl,by simp,fun k _ hk => setRow_other w g k _ (fun e => hk (by simp [Value.ownBlock,e]))⟩,.inl rfl⟩
   ·simp only [List.size_toArray,List.length_append,List.length_take,List.length_drop,Array.length_toList]
    omega
   ·rw [htake,← hlen]
    exact List.take_left
  ·have hr:=run_append_grow (P:=P) w t ty e i z ht hi hz ⟨g,0,none⟩ n cap xs hown.1 (hown.cells (g:=g) rfl) a m c news hl hnews (by omega) (by omega) (growslice_fits (by omega) hbytes)
   have hgr:=made cap (by omega)
   exact ⟨_,_,hr,hgr.1,grown hgr.2 _,.inr ⟨rfl,hgr.2⟩⟩
variable {base : Nat → Prop} {w0 : World} {I0 : Still} {N : Nat} {I : Still} {ρ : Nat → Option Nat} {st : FS} {a : Act} {w : World}
theorem cell_flat {z i j n : Nat} (hj : j < z) : (i * z + j) / z = i ∧ (i * z + j) % z = j:=by
 constructor
 ·rw [Nat.mul_comm,Nat.mul_add_div (by omega),Nat.div_eq_of_lt hj,Nat.add_zero]
 ·rw [Nat.mul_comm,Nat.mul_add_mod,Nat.mod_eq_of_lt hj]
theorem cell_in {z i j n : Nat} (hi : i < n) (hj : j < z) : i * z + j < n * z:=by
 have : (i + 1) * z ≤ n * z:=Nat.mul_le_mul_right _ hi
 rw [Nat.add_mul] at this
 omega
theorem CRep.cells {z : Nat} {es : List D} {u : Value} (h : CRep I w (sD z es) u) (hz : 0 < z) : ∃ (ad : Option Addr) (cap : Nat) (xs : List Value),u = .slice ad es.length cap ∧ (ad = none → es = [] ∧ cap = 0) ∧ xs.length = es.length * z ∧ (∀ d,ad = some d → ∀ j y,xs[j]? = some y → w.cell? (d.add j) = some y) ∧
  (∀ y ∈ xs,y.oneCell' = true) ∧ (∀ (i j : Nat) e l,es[i]? = some e → (cellsD e)[j]? = some l → ∃ y,xs[i * z + j]? = some y ∧ CRep I w l y):=by
 obtain ⟨ad,cap,rfl,U,hl,hn,hm,hsz,hc,hr⟩:=h.invS
 ·refine ⟨ad,cap,(List.range (es.length * z)).map (fun k => U (k / z) (k % z)),rfl,fun e => ?_,by simp,fun d hd j y hy => ?_,fun y hy => ?_,fun i j e l he hl' => ?_⟩
  ·have:=hn e
   exact ⟨List.eq_nil_of_length_eq_zero (by omega),this⟩
  ·subst hd
   have hj : j < es.length * z:=by
    have:=(List.getElem?_eq_some_iff.1 hy).1
    simpa using this
   rw [List.getElem?_map,List.getElem?_range hj,Option.map_some] at hy
   cases hy
   have hne : es ≠ []:=by intro e; subst e; simp at hj
   obtain ⟨b,off,hb,hcell⟩:=hc hne
   cases hb
   have h1 : j / z < es.length:=Nat.div_lt_of_lt_mul (by rw [Nat.mul_comm]; exact hj)
   have h2 : j % z < z:=Nat.mod_lt _ hz
   have h3:=(hcell (j / z) (j % z) h1 h2).1
   rw [Addr.add_lit]
   have : off + j / z * z + j % z = off + j:=by have:=Nat.div_add_mod j z; rw [Nat.mul_comm] at this; omega
   rw [← this]; exact h3
  ·obtain ⟨k,hk,rfl⟩:=List.mem_map.1 hy
   have hk' : k < es.length * z:=by simpa using hk
   have h1 : k / z < es.length:=Nat.div_lt_of_lt_mul (by rw [Nat.mul_comm]; exact hk')
   have h2 : k % z < z:=Nat.mod_lt _ hz
   have he : es[k / z]? = some es[k / z]:=List.getElem?_eq_getElem h1
   have hle : (cellsD es[k / z]).length = z:=hsz _ (List.getElem_mem h1)
   exact (hr (k / z) (k % z) es[k / z] ((cellsD es[k / z])[k % z]) he (List.getElem?_eq_getElem (by omega))).one.1
  ·have hi : i < es.length:=(List.getElem?_eq_some_iff.1 he).1
   have hj : j < z:=by
    have:=hsz e (List.mem_of_getElem? he)
    have:=(List.getElem?_eq_some_iff.1 hl').1
    omega
   refine ⟨U i j,?_,hr i j e l he hl'⟩
   rw [List.getElem?_map,List.getElem?_range (cell_in hi hj),Option.map_some,(cell_flat (n:=0) hj).1,(cell_flat (n:=0) hj).2]
theorem CRep.sizes {z : Nat} {es : List D} {u : Value} (h : CRep I w (sD z es) u) : ∀ e ∈ es,(cellsD e).length = z:=by
 obtain ⟨ad,cap,rfl,U,hl,hn,hm,hsz,hc,hr⟩:=h.invS
 exact hsz
theorem RelI.app (h : RelI base w0 I0 N I ρ st a w) {t ty e : TypeId} {i : TypeInfo} {zv : Value} {z bytes : Nat} (ht : P.underlying t = some (.slice e)) (hi : P.info? e = some i) (hzv : i.zero = some zv)
  (hsize : i.size = z) (hby : i.bytes = bytes) (hzs : zv.cells.size = z) (hz : 0 < z) {u y : Value} {es fs : List D}
  (hown : Own I ρ base w e (z,none) u) (hap : ∀ s o x v g,st.fl s o = some x → At ρ a.tmps w s o = some v → v.ownBlock = some g → u.ownBlock ≠ some g)
  (hu : CRep I w (sD z es) u) (hy : CRep I w (sD z fs) y) (h63 : es.length + fs.length ≤ maxLen) (hbytes : (es.length + fs.length) * bytes ≤ 140737488355328) :
  ∃ v' w' I',(Builtin.append_ #[t,t] ty #[u,y]).run P w = .ok v' w' ∧ RelI base w0 I0 N I' ρ st a w' ∧ CRep I' w' (sD z (es ++ fs)) v' ∧ Own I' ρ base w' e (z,none) v' ∧
   (∀ s o x v g,st.fl s o = some x → At ρ a.tmps w' s o = some v → v.ownBlock = some g → v'.ownBlock ≠ some g) ∧ (∀ b j,I b j → I' b j) ∧ (∀ b j,I b j → w'.cell? ⟨b,j,none⟩ = w.cell? ⟨b,j,none⟩):=by
 obtain ⟨ad,cap,xs0,rfl,hnil,hxl,hxc,hx1,hxr⟩:=hu.cells hz
 obtain ⟨bd,cap',ys,rfl,hnil',hyl,hyc,hy1,hyr⟩:=hy.cells hz
 have hown':=hown
 obtain ⟨n,xs,hrow,hsp,hheld⟩:=hown
 simp only at hrow hsp
 have hn : n = es.length:=by
  rcases hrow.2 with ⟨q,q'⟩ | ⟨g,c,cur,q,_⟩
  ·injection q with _ q2 _; omega
  ·injection q with _ q2 _; exact q2.symm
 subst hn
 have hxs : xs = xs0:=by
  rcases hrow.2 with ⟨q,q'⟩ | ⟨g,c,cur,q,hbg,hg,hnc,hcm,hcs,htake⟩
  ·have e1 : xs = []:=List.eq_nil_of_length_eq_zero (by rw [hrow.1,q',Nat.zero_mul])
   have e2 : xs0 = []:=List.eq_nil_of_length_eq_zero (by rw [hxl,q',Nat.zero_mul])
   rw [e1,e2]
  ·injection q with q1 _ q2
   apply List.ext_getElem?
   intro j
   by_cases hj : j < xs.length
   ·obtain ⟨y0,hy0⟩ : ∃ y0,xs0[j]? = some y0:=⟨_,List.getElem?_eq_getElem (by rw [hxl,← hrow.1]; exact hj)⟩
    have h2:=hxc _ q1 j y0 hy0
    have h3:=hrow.cells (g:=g) (by rw [q1]; rfl) j xs[j] (List.getElem?_eq_getElem hj)
    rw [h2] at h3
    rw [hy0,List.getElem?_eq_getElem hj,Option.some.inj h3]
   ·rw [List.getElem?_eq_none (by omega),List.getElem?_eq_none (by rw [hxl,← hrow.1]; omega)]
 subst hxs
 cases bd with
 | none =>
  obtain ⟨rfl,rfl⟩:=hnil' rfl
  have hr:=run_append_owned_none (P:=P) w 0 t ty e i z ht hi _ _ _ hrow
  refine ⟨_,w,I,hr,h,by rw [List.append_nil]; exact hu,hown',hap,fun _ _ h => h,fun _ _ _ => rfl⟩
 | some d =>
  obtain ⟨v',w',hr,hrow',hgr,hwh⟩:=run_append_where (P:=P) w 0 t ty e i zv z bytes ht hi hzv hsize hby hzs hz _ _ _ hrow d fs.length cap' ys hyl (hyc d rfl) hy1 h63 hbytes (Nat.zero_le _)
  -- what was only read is as it was
  have hold : ∀ b j,I b j → w'.cell? ⟨b,j,none⟩ = w.cell? ⟨b,j,none⟩:=by
   intro b j hi
   by_cases hb : (Value.slice ad es.length cap).ownBlock = some b
   ·rcases hwh with hsame | ⟨_,hbel⟩
    ·have hjlt : j < es.length * z:=Nat.lt_of_not_le fun hge => (hsp b hb).2.1 j (fun _ => hge) hi
     have hjx : j < xs.length:=by rw [hrow.1]; exact hjlt
     have q1:=hrow.cells hb j xs[j] (List.getElem?_eq_getElem hjx)
     have q2:=hrow'.cells (hsame.trans hb) j xs[j] (by rw [List.getElem?_append_left hjx]; exact List.getElem?_eq_getElem hjx)
     rw [Addr.add_lit,Nat.zero_add] at q1 q2
     rw [q1,q2]
    ·exact hbel.cell (p:=⟨b,j,none⟩) (h.lt b j hi)
   ·exact World.cell?_of_block (hgr.block b (h.lt b j hi) (fun q => hb q.symm))
  have hat : ∀ s o x,st.fl s o = some x → At ρ a.tmps w' s o = At ρ a.tmps w s o:=by
   intro s o x hx
   cases o with
   | none => rfl
   | some off =>
    simp only [At]
    cases hs : ρ s with
    | none => rfl
    | some g => exact World.cell?_of_block (a:=⟨g,off,none⟩) (hgr.block g (h.boxLt hs).2 (fun q => (hsp g q.symm).2.2 s hs))
  have hnewlt : ∀ g,v'.ownBlock = some g → ¬ base g ∧ g < w'.heap.size:=fun g hg => ⟨by
   rcases hwh with hsame | ⟨hnew,_⟩
   ·exact (hsp g (hsame ▸ hg)).1
   ·rw [hnew] at hg; cases hg; exact fun hb => by have:=h.room _ hb; omega,(hrow'.lt g hg).2⟩
  let I' : Still:=fun b j => I b j ∨ (v'.ownBlock = some b ∧ j < (es.length + fs.length) * z)
  have hρ' : ∀ b g,ρ b = some g → v'.ownBlock ≠ some g:=by
   intro b g hb hv
   rcases hwh with hsame | ⟨hnew,_⟩
   ·exact (hsp g (hsame ▸ hv)).2.2 b hb
   ·rw [hnew] at hv; cases hv; have:=(h.boxLt hb).2; omega
  have hfl' : ∀ s o x v g,st.fl s o = some x → At ρ a.tmps w s o = some v → v.ownBlock = some g → v'.ownBlock ≠ some g:=by
   intro s o x v g hx hv hg hv'
   rcases hwh with hsame | ⟨hnew,_⟩
   ·exact hap s o x v g hx hv hg (hsame ▸ hv')
   ·rw [hnew] at hv'; cases hv'
    obtain ⟨v2,q1,q2⟩:=h.fl s o x.1 x.2 hx
    rw [hv] at q1; cases q1
    have:=(own_lt q2 _ hg).2; omega
  refine ⟨v',w',I',hr,?_,?_,⟨_,_,hrow',fun g hg => ⟨(hnewlt g hg).1,fun j hj hi => ?_,fun b hb => hρ' b g hb hg⟩,(fun es he => by cases he)⟩,fun s o x v g hx hv hg => ?_,fun b j => .inl,hold⟩
  ·refine ⟨h.defers,h.size,fun s v hv => ?_,h.cap,h.flc,fun b cs hc => ?_,h.inj,h.nob,fun s o e' z' hx => ?_,fun s o s' o' x x' y y' g h1 h2 h3 h4 h5 h6 => ?_,fun b j hi => ?_,fun b j hi => ?_,?_,fun b hb' => Nat.lt_of_lt_of_le (h.room b hb') hgr.size,fun b j hi => ⟨.inl (h.mon b j hi).1,(hold b j (h.mon b j hi).1).trans (h.mon b j hi).2⟩⟩
   ·obtain ⟨u',q1,q2⟩:=h.tm s v hv
    exact ⟨u',q1,q2.keep (fun _ _ => .inl) (fun _ _ _ h => h) hold⟩
   ·obtain ⟨g,q1,q2,q3,q5⟩:=h.bx b cs hc
    exact ⟨g,q1,q2,q3.keep (fun _ _ => .inl) (fun _ _ _ h => h) hold (hgr.block g (h.boxLt q1).2 (fun q => (hsp g q.symm).2.2 b q1)),fun j hj => hj.elim (q5 j) (fun q => hρ' b g q1 q.1)⟩
   ·obtain ⟨u',q1,q2⟩:=h.fl s o e' z' hx
    refine ⟨u',by rw [hat s o _ hx]; exact q1,own_keep q2 (fun g hg => hgr.block g (own_lt q2 g hg).2 (fun q => hap s o _ u' g hx q1 hg q.symm)) (fun g j hg hi => hi.elim id (fun q => absurd q.1 (hfl' s o _ u' g hx q1 hg))) (fun _ _ _ h => h) (fun _ _ => .inl) hold⟩
   ·rw [hat s o _ h1] at h3
    rw [hat s' o' _ h2] at h4
    exact h.apart s o s' o' x x' y y' g h1 h2 h3 h4 h5 h6
   ·rcases hi with hi | hi
    ·have:=h.lt b j hi; have:=hgr.size; omega
    ·exact (hnewlt b hi.1).2
   ·rcases hi with hi | hi
    ·exact h.sub b j hi
    ·exact .inr (hnewlt b hi.1).1
   ·exact h.below.trans ⟨hgr.os,hgr.tape,hgr.output,hgr.size,fun k hk => hgr.block k (h.room k hk) (fun q => (hsp k q.symm).1 hk)⟩
  ·have hform : ∃ ad' c',v' = .slice ad' (es ++ fs).length c' ∧ (es ++ fs).length ≤ c' ∧ c' ≤ maxLen ∧ (ad' = none → c' = 0) ∧ (es ++ fs ≠ [] → ∃ g,ad' = some ⟨g,0,none⟩):=by
    rcases hrow'.2 with ⟨q,q'⟩ | ⟨g,c,cur,q,_,_,q3,q4,_⟩
    ·have : (es ++ fs).length = 0:=by rw [List.length_append]; exact q'
     exact ⟨none,0,by rw [q,this],by omega,Nat.zero_le _,fun _ => rfl,fun hne => absurd (List.eq_nil_of_length_eq_zero this) hne⟩
    ·exact ⟨some ⟨g,0,none⟩,c,by rw [q,List.length_append],by rw [List.length_append]; exact q3,q4,(fun e => by cases e),fun _ => ⟨g,rfl⟩⟩
   obtain ⟨ad',c',rfl,q1,q2,q3,q4⟩:=hform
   refine CRep.s ⟨fun i j => ((xs ++ ys)[i * z + j]?).getD undef,q1,q3,q2,fun e he => ?_,fun hne => ?_,fun i j e l he hl => ?_⟩
   ·rcases List.mem_append.1 he with he | he
    ·exact hu.sizes e he
    ·exact hy.sizes e he
   ·obtain ⟨g,rfl⟩:=q4 hne
    refine ⟨g,0,rfl,fun i j hi hj => ?_⟩
    have hlt : i * z + j < (xs ++ ys).length:=by rw [hrow'.1,← List.length_append]; exact cell_in hi hj
    have:=hrow'.cells (g:=g) rfl (i * z + j) _ (List.getElem?_eq_getElem hlt)
    rw [Addr.add_lit] at this
    refine ⟨?_,.inr ⟨rfl,?_⟩⟩
    ·show _ = some (((xs ++ ys)[i * z + j]?).getD undef)
     rw [show 0 + i * z + j = 0 + (i * z + j) by omega,this,List.getElem?_eq_getElem hlt]; rfl
    ·rw [← List.length_append,show 0 + i * z + j = i * z + j by omega]; exact cell_in hi hj
   ·have hj : j < z:=by
     have h1 : e ∈ es ++ fs:=List.mem_of_getElem? he
     have h2 : (cellsD e).length = z:=by
      rcases List.mem_append.1 h1 with h1 | h1
      ·exact hu.sizes e h1
      ·exact hy.sizes e h1
     have:=(List.getElem?_eq_some_iff.1 hl).1
     omega
    by_cases hi : i < es.length
    ·rw [List.getElem?_append_left hi] at he
     obtain ⟨y0,r1,r2⟩:=hxr i j e l he hl
     have : (xs ++ ys)[i * z + j]? = some y0:=by rw [List.getElem?_append_left (by rw [hxl]; exact cell_in hi hj)]; exact r1
     show CRep _ _ l (((xs ++ ys)[i * z + j]?).getD undef)
     rw [this]
     exact r2.keep (fun _ _ => .inl) hold
    ·rw [List.getElem?_append_right (by omega)] at he
     obtain ⟨y0,r1,r2⟩:=hyr _ j e l he hl
     have hge : es.length * z ≤ i * z:=Nat.mul_le_mul_right _ (by omega)
     have : (xs ++ ys)[i * z + j]? = some y0:=by
      rw [List.getElem?_append_right (by rw [hxl]; omega),hxl]
      rw [show i * z + j - es.length * z = (i - es.length) * z + j by rw [Nat.sub_mul]; omega]
      exact r1
     show CRep _ _ l (((xs ++ ys)[i * z + j]?).getD undef)
     rw [this]
     exact r2.keep (fun _ _ => .inl) hold
  ·rcases hi with hi | hi
   ·rcases hwh with hsame | ⟨hnew,_⟩
    ·refine (hsp g (hsame ▸ hg)).2.1 j (fun _ => ?_) hi
     have hj : (es.length + fs.length) * z ≤ j:=hj rfl
     have : es.length * z ≤ (es.length + fs.length) * z:=Nat.mul_le_mul_right _ (by omega)
     omega
    ·rw [hnew] at hg; cases hg; have:=h.lt _ j hi; omega
   ·have hj:=hj rfl; simp only at hj; omega
  ·rw [hat s o _ hx] at hv
   exact hfl' s o x v g hx hv hg
theorem RelI.appH (h : RelI base w0 I0 N I ρ st a w) {t ty e : TypeId} {i : TypeInfo} {zv : Value} {z bytes : Nat} (ht : P.underlying t = some (.slice e)) (hi : P.info? e = some i) (hzv : i.zero = some zv)
  (hsize : i.size = z) (hby : i.bytes = bytes) (hzs : zv.cells.size = z) (hz : 0 < z) {u y : Value} {es fs : List D}
  (hown : Own I ρ base w e (z,some es) u) (hap : ∀ s o x v g,st.fl s o = some x → At ρ a.tmps w s o = some v → v.ownBlock = some g → u.ownBlock ≠ some g)
  (hy : CRep I w (sD z fs) y) (h63 : es.length + fs.length ≤ maxLen) (hbytes : (es.length + fs.length) * bytes ≤ 140737488355328) :
  ∃ v' w',(Builtin.append_ #[t,t] ty #[u,y]).run P w = .ok v' w' ∧ RelI base w0 I0 N I ρ st a w' ∧ v'.oneCell' = true ∧ Own I ρ base w' e (z,some (es ++ fs)) v' ∧
   (∀ s o x v g,st.fl s o = some x → At ρ a.tmps w' s o = some v → v.ownBlock = some g → v'.ownBlock ≠ some g):=by
 obtain ⟨bd,cap',ys,rfl,hnil',hyl,hyc,hy1,hyr⟩:=hy.cells hz
 have hown':=hown
 obtain ⟨n,xs,hrow,hsp,hheld⟩:=hown
 simp only at hrow hsp
 obtain ⟨hn,hel⟩:=hheld es rfl
 simp only at hel
 subst hn
 have hone : ∀ {w : World} {v : Value} {n : Nat} {xs : List Value},w.ownsRow 0 e z v n xs → v.oneCell' = true:=by
  intro w v n xs q
  rcases q.2 with ⟨rfl,_⟩ | ⟨g,c,cur,rfl,_⟩ <;> rfl
 cases bd with
 | none =>
  obtain ⟨rfl,rfl⟩:=hnil' rfl
  have hr:=run_append_owned_none (P:=P) w 0 t ty e i z ht hi _ _ _ hrow
  exact ⟨_,w,hr,h,hone hrow,by rw [List.append_nil]; exact hown',hap⟩
 | some d =>
  obtain ⟨v',w',hr,hrow',hgr,hwh⟩:=run_append_where (P:=P) w 0 t ty e i zv z bytes ht hi hzv hsize hby hzs hz _ _ _ hrow d fs.length cap' ys hyl (hyc d rfl) hy1 h63 hbytes (Nat.zero_le _)
  have hold : ∀ b j,I b j → w'.cell? ⟨b,j,none⟩ = w.cell? ⟨b,j,none⟩:=fun b j hi =>
   World.cell?_of_block (hgr.block b (h.lt b j hi) (fun q => (hsp b q.symm).2.1 j (fun e => by cases e) hi))
  have hat : ∀ s o x,st.fl s o = some x → At ρ a.tmps w' s o = At ρ a.tmps w s o:=by
   intro s o x hx
   cases o with
   | none => rfl
   | some off =>
    simp only [At]
    cases hs : ρ s with
    | none => rfl
    | some g => exact World.cell?_of_block (a:=⟨g,off,none⟩) (hgr.block g (h.boxLt hs).2 (fun q => (hsp g q.symm).2.2 s hs))
  have hnewlt : ∀ g,v'.ownBlock = some g → ¬ base g ∧ g < w'.heap.size:=fun g hg => ⟨by
   rcases hwh with hsame | ⟨hnew,_⟩
   ·exact (hsp g (hsame ▸ hg)).1
   ·rw [hnew] at hg; cases hg; exact fun hb => by have:=h.room _ hb; omega,(hrow'.lt g hg).2⟩
  have hρ' : ∀ b g,ρ b = some g → v'.ownBlock ≠ some g:=by
   intro b g hb hv
   rcases hwh with hsame | ⟨hnew,_⟩
   ·exact (hsp g (hsame ▸ hv)).2.2 b hb
   ·rw [hnew] at hv; cases hv; have:=(h.boxLt hb).2; omega
  have hfl' : ∀ s o x v g,st.fl s o = some x → At ρ a.tmps w s o = some v → v.ownBlock = some g → v'.ownBlock ≠ some g:=by
   intro s o x v g hx hv hg hv'
   rcases hwh with hsame | ⟨hnew,_⟩
   ·exact hap s o x v g hx hv hg (hsame ▸ hv')
   ·rw [hnew] at hv'; cases hv'
    obtain ⟨v2,q1,q2⟩:=h.fl s o x.1 x.2 hx
    rw [hv] at q1; cases q1
    have:=(own_lt q2 _ hg).2; omega
  have hnI : ∀ g j,v'.ownBlock = some g → ¬ I g j:=by
   intro g j hg hi
   rcases hwh with hsame | ⟨hnew,_⟩
   ·exact (hsp g (hsame ▸ hg)).2.1 j (fun e => by cases e) hi
   ·rw [hnew] at hg; cases hg; have:=h.lt _ j hi; omega
  refine ⟨v',w',hr,?_,hone hrow',⟨_,_,hrow',fun g hg => ⟨(hnewlt g hg).1,fun j hj hi => hnI g j hg hi,fun b hb => hρ' b g hb hg⟩,fun es' he => ?_⟩,fun s o x v g hx hv hg => ?_⟩
  ·refine ⟨h.defers,h.size,fun s v hv => ?_,h.cap,h.flc,fun b cs hc => ?_,h.inj,h.nob,fun s o e' z' hx => ?_,fun s o s' o' x x' y y' g h1 h2 h3 h4 h5 h6 => ?_,fun b j hi => ?_,h.sub,?_,fun b hb' => Nat.lt_of_lt_of_le (h.room b hb') hgr.size,fun b j hi => ⟨(h.mon b j hi).1,(hold b j (h.mon b j hi).1).trans (h.mon b j hi).2⟩⟩
   ·obtain ⟨u',q1,q2⟩:=h.tm s v hv
    exact ⟨u',q1,q2.keep (fun _ _ h => h) (fun _ _ _ h => h) hold⟩
   ·obtain ⟨g,q1,q2,q3,q5⟩:=h.bx b cs hc
    exact ⟨g,q1,q2,q3.keep (fun _ _ h => h) (fun _ _ _ h => h) hold (hgr.block g (h.boxLt q1).2 (fun q => (hsp g q.symm).2.2 b q1)),q5⟩
   ·obtain ⟨u',q1,q2⟩:=h.fl s o e' z' hx
    refine ⟨u',by rw [hat s o _ hx]; exact q1,own_keep q2 (fun g hg => hgr.block g (own_lt q2 g hg).2 (fun q => hap s o _ u' g hx q1 hg q.symm)) (fun _ _ _ h => h) (fun _ _ _ h => h) (fun _ _ h => h) hold⟩
   ·rw [hat s o _ h1] at h3
    rw [hat s' o' _ h2] at h4
    exact h.apart s o s' o' x x' y y' g h1 h2 h3 h4 h5 h6
   ·have:=h.lt b j hi; have:=hgr.size; omega
   ·exact h.below.trans ⟨hgr.os,hgr.tape,hgr.output,hgr.size,fun k hk => hgr.block k (h.room k hk) (fun q => (hsp k q.symm).1 hk)⟩
  ·cases he
   refine ⟨by rw [List.length_append],fun e he => ?_,by rw [hrow'.1,List.length_append]; exact Nat.le_refl _,fun i j e l he hl => ?_⟩
   ·rcases List.mem_append.1 he with he | he
    ·exact hel.1 e he
    ·exact hy.sizes e he
   ·have hj : j < z:=by
     have h1 : e ∈ es ++ fs:=List.mem_of_getElem? he
     have h2 : (cellsD e).length = z:=by
      rcases List.mem_append.1 h1 with h1 | h1
      ·exact hel.1 e h1
      ·exact hy.sizes e h1
     have:=(List.getElem?_eq_some_iff.1 hl).1
     omega
    show ∃ u,(xs ++ ys)[i * z + j]? = some u ∧ _
    by_cases hi : i < es.length
    ·rw [List.getElem?_append_left hi] at he
     obtain ⟨y0,r1,r2⟩:=hel.2.2 i j e l he hl
     exact ⟨y0,by rw [List.getElem?_append_left (by rw [hrow.1]; exact cell_in hi hj)]; exact r1,r2.keep (fun _ _ h => h) hold⟩
    ·rw [List.getElem?_append_right (by omega)] at he
     obtain ⟨y0,r1,r2⟩:=hyr _ j e l he hl
     have hge : es.length * z ≤ i * z:=Nat.mul_le_mul_right _ (by omega)
     refine ⟨y0,?_,r2.keep (fun _ _ h => h) hold⟩
     rw [List.getElem?_append_right (by rw [hrow.1]; omega),hrow.1]
     rw [show i * z + j - es.length * z = (i - es.length) * z + j by rw [Nat.sub_mul]; omega]
     exact r1
  ·rw [hat s o _ hx] at hv
   exact hfl' s o x v g hx hv hg
end
structure Ev where
 rs : List (Nat × D):=[]
 rb : List (Nat × List D):=[]
 nb : List Nat:=[]
 rf : List ((Nat × Option Nat) × (Nat × Pay)):=[]
 ws : Option (Nat × Option D):=none
 wb : Option (Nat × List D):=none
 cf : List (Nat × Option Nat):=[]
 sf : Option ((Nat × Option Nat) × (Nat × Pay)):=none
structure Ev.ok (ev : Ev) (st : FS) : Prop where
 rs : ∀ x ∈ ev.rs,st.tm x.1 = some x.2
 rb : ∀ x ∈ ev.rb,st.bx x.1 = some x.2
 nb : ∀ b ∈ ev.nb,st.bx b = none
 rf : ∀ x ∈ ev.rf,st.fl x.1.1 x.1.2 = some x.2
def Ev.app (ev : Ev) (st : FS) : FS where
 tm:=fun s => match ev.ws with | some (d,v) => if s = d then v else st.tm s | none => st.tm s
 bx:=fun b => match ev.wb with | some (d,cs) => if b = d then some cs else st.bx b | none => st.bx b
 fl:=fun s o => match ev.sf with
  | some (p,x) => if (s,o) = p then some x else if (s,o) ∈ ev.cf then none else st.fl s o
  | none => if (s,o) ∈ ev.cf then none else st.fl s o
def RRep (I : Still) (w : World) (r : List D) (v : Value) : Prop :=
 match r with
 | [c] => CVRep I w c v
 | cs => ∃ us,v = .tuple us.toArray ∧ Vals I w cs us
def Told (P : Program) (f : FuncId) (args : List D) (r : List D) : Prop :=
 ∀ (w : World) (I : Still) (vs : List Value),Vals I w args vs → (∀ b j,I b j → b < w.heap.size) →
  Calls P f vs.toArray w fun e w' => ∃ v,e = .returned v ∧ RRep (fun b j => I b j ∨ (w.heap.size ≤ b ∧ b < w'.heap.size)) w' r v ∧ Below w.heap.size w w'
def cellAt (v : Value) : Option Nat → Option Value
 | none => some v
 | some k => match v with
  | .agg cs => cs[k]?
  | _ => none
def ToldO (P : Program) (f : FuncId) (args r : List D) (o : Option Nat) (e : Nat) (z : Pay) : Prop :=
 ∀ (w : World) (I : Still) (vs : List Value),Vals I w args vs → (∀ b j,I b j → b < w.heap.size) →
  Calls P f vs.toArray w fun x w' => ∃ v I' u,x = .returned v ∧ (∀ b j,I b j → I' b j) ∧ (∀ b j,I' b j → I b j ∨ (w.heap.size ≤ b ∧ b < w'.heap.size)) ∧ RRep I' w' r v ∧ cellAt v o = some u ∧
   Own I' (fun _ => none) (fun b => b < w.heap.size) w' e z u ∧ Below w.heap.size w w'
def ToldI (P : Program) (f : FuncId) (args : List D) (i : Nat) (o : Option Nat) (e : Nat) (z : Pay) (r : List D) : Prop :=
 ∀ (w : World) (I : Still) (vs : List Value) (v u : Value),Vals I w args vs → (∀ b j,I b j → b < w.heap.size) → vs[i]? = some v → cellAt v o = some u → Own I (fun _ => none) (fun _ => False) w e z u →
  Calls P f vs.toArray w fun x w' => ∃ v',x = .returned v' ∧ RRep (fun b j => I b j ∨ ((w.heap.size ≤ b ∨ u.ownBlock = some b) ∧ b < w'.heap.size)) w' r v' ∧
   Kept (fun b => b < w.heap.size ∧ u.ownBlock ≠ some b) w w' ∧ ∀ b j,I b j → w'.cell? ⟨b,j,none⟩ = w.cell? ⟨b,j,none⟩
def ToldU (P : Program) (f : FuncId) (args : List D) (z : Nat) (es es' : List D) : Prop :=
 ∀ (w : World) (I : Still) (vs : List Value) (g : Nat) (us : List Value) (t : TypeId) (cap : Nat),Vals I w args vs → (∀ b j,I b j → b < w.heap.size) → w.heap[g]? = some (.cells us.toArray t (0,0)) → ElemsAt I w z es us → (∀ j,¬ I g j) → es.length ≤ cap → cap ≤ maxLen →
  Calls P f (.slice (some ⟨g,0,none⟩) es.length cap :: vs).toArray w fun x w' => x = .returned (.slice (some ⟨g,0,none⟩) es'.length cap) ∧ w.grownBy w' (some g) ∧ ∃ us',w'.heap[g]? = some (.cells us'.toArray t (0,0)) ∧ ElemsAt I w' z es' us' ∧ es'.length ≤ es.length
def ToldP (P : Program) (f : FuncId) (args : List D) (off off' : Nat) : Prop :=
 ∀ (w : World) (I : Still) (vs : List Value) (g : Nat),Vals I w args vs → (∀ b j,I b j → b < w.heap.size) →
  Calls P f (.pointer (some ⟨g,off,none⟩) :: vs).toArray w fun x w' => x = .returned (.pointer (some ⟨g,off',none⟩)) ∧ Below w.heap.size w w'
def Sound (P : Program) (o : Oper) (ev : Ev) : Prop :=
 ∀ (base : Nat → Prop) (w0 : World) (I0 : Still) (N : Nat) (st : FS) (a : Act) (w : World) (K : Act → World → Prop) (Q : Exit → Act → World → Prop),
  (∀ d,o.dst = some d → d < N) → Rel base w0 I0 N st a w → ev.ok st → (∀ a' w',Rel base w0 I0 N (ev.app st) a' w' → K a' w') → Oper.wp P o a w K Q
section
variable {P : Program} {o : Oper}
theorem sound_val {d : Nat} (hd : o.dst = some d) {rs : List (Nat × D)} {rb : List (Nat × List D)} {v : D}
  (H : ∀ (I : Still) (ρ : Nat → Option Nat) (a : Act) (w : World),(∀ x ∈ rs,∃ u,a.tmps[x.1]? = some u ∧ AVRep I ρ w x.2 u) →
   (∀ x ∈ rb,∃ g,ρ x.1 = some g ∧ BoxAt I ρ w x.1 g x.2) →
   ∃ u,(execOp a.eval o).run P w = .ok (.value u) w ∧ AVRep I ρ w v u) :
  Sound P o { rs:=rs,rb:=rb,ws:=some (d,some v),cf:=[(d,none)] }:=by
 intro base w0 I0 N st a w K Q hN ⟨I,ρ,h⟩ hok hK
 obtain ⟨u,hr,hu⟩:=H I ρ a w (fun x hx => h.tm x.1 x.2 (hok.rs x hx)) (fun x hx => by
  obtain ⟨g,h1,_,h3,_⟩:=h.bx x.1 x.2 (hok.rb x hx)
  exact ⟨g,h1,h3⟩)
 unfold Oper.wp
 rw [hr]
 show K (a.put o.dst u) w
 rw [hd]
 refine hK _ _ ⟨I,ρ,?_⟩
 have:=h.put (hN d hd) (v:=some v) (u:=u) (fun x hx => by cases hx; exact hu)
 refine this.less (fun s x hx => ?_) rfl (fun s o x hx => ?_)
 ·simpa [Ev.app,FS.setT] using hx
 ·simp only [Ev.app,List.mem_singleton,Prod.mk.injEq] at hx
  simpa [FS.setT] using hx
theorem sound_hand {d : Nat} (hd : o.dst = some d) {rs : List (Nat × D)} {rb : List (Nat × List D)} {v : D} {s : Nat} {p : Option Nat} {x : Nat × Pay} (hne : (s,p) ≠ (d,none))
  (H : ∀ (I : Still) (ρ : Nat → Option Nat) (a : Act) (w : World) (st : FS),(∀ b j,I b j → b < w.heap.size) → (∀ x ∈ rs,∃ u,a.tmps[x.1]? = some u ∧ AVRep I ρ w x.2 u) →
   (∀ x ∈ rb,∃ g,ρ x.1 = some g ∧ BoxAt I ρ w x.1 g x.2) → ∀ u0,At ρ a.tmps w s p = some u0 →
   (execOp a.eval o).run P w = .ok (.value u0) w ∧ AVRep I ρ w v u0) :
  Sound P o { rs:=rs,rb:=rb,rf:=[((s,p),x)],ws:=some (d,some v),cf:=[(s,p),(d,none)],sf:=some ((d,none),x) }:=by
 intro base w0 I0 N st a w K Q hN ⟨I,ρ,h⟩ hok hK
 have hx : st.fl s p = some x:=hok.rf ((s,p),x) (by simp)
 obtain ⟨u,hat,_⟩:=h.fl s p x.1 x.2 hx
 obtain ⟨hr,hu⟩:=H I ρ a w st h.lt (fun x hx => h.tm x.1 x.2 (hok.rs x hx)) (fun x hx => by
  obtain ⟨g,h1,_,h3,_⟩:=h.bx x.1 x.2 (hok.rb x hx)
  exact ⟨g,h1,h3⟩) u hat
 unfold Oper.wp
 rw [hr]
 show K (a.put o.dst u) w
 rw [hd]
 refine hK _ _ ⟨I,ρ,?_⟩
 have hsz : d < a.tmps.size:=by rw [h.size]; exact hN d hd
 have h1:=h.put (hN d hd) (v:=some v) (u:=u) (fun y hy => by cases hy; exact hu)
 have hne' : ¬ (s = d ∧ p = none):=fun e => hne (by rw [e.1,e.2])
 have h2:=h1.moveF (s:=s) (o:=p) (s':=d) (o':=none) (x:=x) (u:=u) (fun k hk => by cases hk) (by simp only [FS.setT,if_neg hne']; exact hx) (by rw [at_put d u s p hne']; exact hat) (by simp [At,Act.put,hsz])
 refine h2.less (fun t y hy => ?_) rfl (fun t q y hy => ?_)
 ·simpa [Ev.app,FS.setT,FS.onF,FS.offF] using hy
 ·simp only [Ev.app,List.mem_cons,List.not_mem_nil,or_false,Prod.mk.injEq] at hy
  simp only [FS.setT,FS.onF,FS.offF]
  by_cases e1 : t = d ∧ q = none
  ·simpa [e1] using hy
  ·by_cases e2 : t = s ∧ q = p
   ·simp [e2,hne'] at hy
   ·simpa [e1,e2] using hy
def skipEv (d : Option Nat) (rs : List (Nat × D)) : Ev:=match d with
 | some d => { rs:=rs,ws:=some (d,some (tD [])),cf:=[(d,none)] }
 | none => { rs:=rs }
theorem skip_rel {base : Nat → Prop} {w0 : World} {I0 : Still} {N : Nat} {st : FS} {a : Act} {w : World} {d : Option Nat} {rs : List (Nat × D)} (hN : ∀ e,d = some e → e < N) (h : Rel base w0 I0 N st a w) : Rel base w0 I0 N ((skipEv d rs).app st) (a.put d undef) w:=by
 obtain ⟨I,ρ,h⟩:=h
 cases d with
 | none => exact ⟨I,ρ,h.less (fun _ _ h => h) rfl (fun _ _ _ h => by simpa [skipEv,Ev.app] using h)⟩
 | some d =>
  refine ⟨I,ρ,(h.put (hN d rfl) (v:=some (tD [])) (u:=undef) (fun x hx => by cases hx; exact .inr (.inl ⟨[],[],rfl,rfl,Vals.nil⟩))).less (fun s x hx => ?_) rfl (fun s o x hx => ?_)⟩
  ·simpa [skipEv,Ev.app,FS.setT] using hx
  ·simp only [skipEv,Ev.app,List.mem_singleton,Prod.mk.injEq] at hx
   simpa [FS.setT] using hx
end
end Go.Proofs.Ytgaofjiidedcbad.ab
