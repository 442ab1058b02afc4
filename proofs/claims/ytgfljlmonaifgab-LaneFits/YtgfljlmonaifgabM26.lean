import Derived.Test.YtgfljlmonaifgabM25
set_option maxHeartbeats 4000000
set_option linter.unusedVariables false
set_option linter.unusedSimpArgs false
namespace Go.Proofs.Ytgfljlmonaifgab.leaf
set_option maxRecDepth 10000
open Go.RowKit
open mth
theorem Bs_some {w : World} {v : Value} {x : List UInt8} (h : Bs w v x) (hl : 0 < x.length) : ∃ b o c,v = .slice (some ⟨b,o,none⟩) x.length c ∧ x.length ≤ c ∧ b < w.heap.size:=by
 obtain ⟨a1,c1,rfl,hlc,hno,hc⟩:=h
 obtain ⟨z,rfl,hz⟩:=hc 0 hl
 obtain ⟨b1,o1,spot⟩:=z
 have hspot : spot = none:=by simpa [Addr.add] using World.cell?_spot hz
 subst hspot
 refine ⟨b1,o1,c1,rfl,hlc,?_⟩
 have:=World.block_lt_of_cell? w _ hz
 rw [Addr.add_lit] at this
 exact this
theorem endsTooSoon_any (v : Value) (x : List UInt8) (w : World) (h : Bs w v x) (hm : x.length ≤ 140737488355328) :
  Calls Try.prog 106 #[v] w fun e w' => e = .returned (.bool (shortL x)) ∧ w = w':=by
 obtain ⟨r,hr⟩ : ∃ r,r = shortL x:=⟨_,rfl⟩
 rw [← hr]
 by_cases hl : x.length < 2
 ·obtain ⟨a,c,rfl,-⟩:=h
  have : r = true:=by rw [hr]; simp [shortL,hl]
  subst this
  clear hr
  have hl' : (x.length : Int) < 2:=by omega
  go_enter Try.func106,Try.ntmps106
  go_wp2
  go_ret
  exact ⟨rfl,rfl⟩
 ·obtain ⟨b,o,c,rfl,hc,hb⟩:=Bs_some h (by omega)
  obtain ⟨x0,hx0⟩:=some_at (xs:=x) (k:=0) (by omega)
  have hc0 : w.cell? ⟨b,o,none⟩ = some (.int .u8 (i8 x0)):=by simpa using Bs_byte h 0 x0 hx0
  have hg : x.getD 0 0 = x0:=by simp [List.getD,hx0]
  clear h hx0
  have d2 : decide ((x.length : Int) < 2) = false:=decide_eq_false (by omega)
  by_cases h1 : i8 x0 = 1
  ·have h1' : (i8 x0 == 1) = true:=by simpa using h1
   by_cases h4 : x.length < 4
   ·have : r = true:=by rw [hr]; unfold shortL; rw [hg]; simp [h1,h4]
    subst this
    clear hr hg h1
    have d4 : decide ((x.length : Int) < 4) = true:=decide_eq_true (by omega)
    go_enter Try.func106,Try.ntmps106
    go_wp2
    go_ret
    exact ⟨rfl,rfl⟩
   ·have : r = false:=by rw [hr]; unfold shortL; rw [hg]; simp [h4]; omega
    subst this
    clear hr hg h1
    have d4 : decide ((x.length : Int) < 4) = false:=decide_eq_false (by omega)
    go_enter Try.func106,Try.ntmps106
    go_wp2
    go_ret
    exact ⟨rfl,rfl⟩
  ·have h1' : (i8 x0 == 1) = false:=by simpa using h1
   have : r = false:=by rw [hr]; unfold shortL; rw [hg]; simp [h1]; omega
   subst this
   clear hr hg h1
   go_enter Try.func106,Try.ntmps106
   go_wp2
   go_ret
   exact ⟨rfl,rfl⟩
def fromL (x : List UInt8) : Ch :=
 if i8 (x.getD 0 0) = 1 then ⟨1,i8 (x.getD 1 0),i8 (x.getD 2 0),i8 (x.getD 3 0),x.drop 4,[]⟩
 else if i8 (x.getD 0 0) = 2 then ⟨2,i8 (x.getD 1 0),0,0,[],(x.drop 2).map i8⟩
 else ⟨i8 (x.getD 0 0),i8 (x.getD 1 0),0,0,[],[]⟩
theorem fromL_fields (x : List UInt8) : wrongL (fromL x) = wrongL (fieldsL x) ∧ (wrongL (fieldsL x) = 0 → fromL x = fieldsL x):=by
 unfold fromL fieldsL
 by_cases h1 : i8 (x.getD 0 0) = 1
 ·rw [if_pos h1,if_pos h1]; exact ⟨rfl,fun _ => rfl⟩
 ·rw [if_neg h1,if_neg h1]
  by_cases h2 : i8 (x.getD 0 0) = 2
  ·rw [if_pos h2,h2]; exact ⟨rfl,fun _ => rfl⟩
  ·rw [if_neg h2,wrongL_kind _ h1 h2,wrongL_kind _ h1 h2]
   exact ⟨rfl,fun h => by simp at h⟩
def FreshS (base : Nat) (a : Option Addr) (c : Nat) : Prop:=(∀ p,a = some p → base ≤ p.block ∧ p.spot = none) ∧ c ≤ maxLen
def Fresh (base : Nat) (v : Value) : Prop:=∃ k0 k1 k2 k3 a1 n1 c1 a2 n2 c2,v = .agg #[k0,k1,k2,k3,.slice a1 n1 c1,.slice a2 n2 c2] ∧ FreshS base a1 c1 ∧ FreshS base a2 c2
theorem fresh_none (base : Nat) : FreshS base none 0:=⟨fun p h => (by cases h),Nat.zero_le _⟩
theorem fresh_owns {w : World} {base base' e n m c : Nat} {a : Option Addr} {L : List Value} (h : w.ownsRow base e 1 (.slice a m c) n L) (hb : base' ≤ base) : FreshS base' a c:=by
 obtain ⟨h1,⟨h2,h0⟩ | ⟨g,cap,cur,h2,hg,_,_,hm,_⟩⟩:=h
 ·injection h2 with h3 _ h4
  subst h3 h4
  exact fresh_none _
 ·injection h2 with h3 _ h4
  subst h3 h4
  exact ⟨fun p hp => (by cases hp; exact ⟨Nat.le_trans hb hg,rfl⟩),hm⟩
theorem add_block (x : Addr) (i : Nat) : (x.add i).block = x.block:=by
 unfold Addr.add
 split <;> rfl
theorem Cv_setCell {w : World} {v u : Value} {c : Ch} {base : Nat} {r : Addr} (h : Cv w v c) (hf : Fresh base v) (hr : r.block < base) : Cv (w.setCell r u) v c:=by
 obtain ⟨dv,ev,rfl,⟨b1,d1,rfl,hb2,hb3,hb4⟩,⟨b5,d5,rfl,hb6,hb7,hb8,hb9⟩,k⟩:=h
 obtain ⟨k0,k1,k2,k3,a1,n1,c1,a2,n2,c2,he,hf1,hf2⟩:=hf
 simp only [Value.agg.injEq,Array.mk.injEq,List.cons.injEq,Value.slice.injEq] at he
 have kept : ∀ p : Addr,base ≤ p.block → (w.setCell r u).cell? p = w.cell? p:=fun p hp => World.cell?_of_block (w:=w) (Below.heap_setCell _ _ _ _ (by omega))
 refine ⟨_,_,rfl,⟨b1,d1,rfl,hb2,hb3,fun i hi => ?_⟩,⟨b5,d5,rfl,hb6,hb7,fun i hi => ?_,hb9⟩,k⟩
 ·obtain ⟨x,hx,hc⟩:=hb4 i hi
  have hp:=(hf1.1 x (by rw [← hx]; simp [he])).1
  exact ⟨_,hx,(kept _ (by rw [add_block]; exact hp)).trans hc⟩
 ·obtain ⟨x,hx,hc⟩:=hb8 i hi
  have hp:=(hf2.1 x (by rw [← hx]; simp [he])).1
  exact ⟨_,hx,(kept _ (by rw [add_block]; exact hp)).trans hc⟩
theorem from_kind (b o c : Nat) (x : List UInt8) (w : World) (h : Bs w (.slice (some ⟨b,o,none⟩) x.length c) x) (hm : x.length ≤ 140737488355328) (x0 x1 : UInt8) (hx0 : x[0]? = some x0) (hx1 : x[1]? = some x1) (h1 : i8 x0 ≠ 1) (h2 : i8 x0 ≠ 2) :
  Calls Try.prog 107 #[.slice (some ⟨b,o,none⟩) x.length c] w fun e w' => ∃ v',e = .returned v' ∧ Cv w' v' ⟨i8 x0,i8 x1,0,0,[],[]⟩ ∧ Fresh w.heap.size v' ∧ Below w.heap.size w w':=by
 have hl2 : 2 ≤ x.length:=by have:=(List.getElem?_eq_some_iff.1 hx1).1; omega
 have hc0 : w.cell? ⟨b,o,none⟩ = some (.int .u8 (i8 x0)):=by simpa using Bs_byte h 0 x0 hx0
 have hc1 : w.cell? ⟨b,o + 1,none⟩ = some (.int .u8 (i8 x1)):=Bs_byte h 1 x1 hx1
 have hb : b < w.heap.size:=World.block_lt_of_cell? w _ hc0
 have h1' : (i8 x0 == 1) = false:=by simpa using h1
 have h2' : (i8 x0 == 2) = false:=by simpa using h2
 have hi0 : 0 ≤ i8 x0 ∧ i8 x0 ≤ 255:=by have:=x0.toNat_lt; unfold i8; omega
 have hi1 : 0 ≤ i8 x1 ∧ i8 x1 ≤ 255:=by have:=x1.toNat_lt; unfold i8; omega
 clear h hx0 hx1 h1 h2
 go_enter Try.func107,Try.ntmps107
 go_wp2_with fail
 go_region
 go_wp2_with fail
 refine bodyPost_ret (v:=.agg #[.int .i64 (i8 x0),.int .i64 (i8 x1),.int .i64 0,.int .i64 0,.slice none 0 0,.slice none 0 0]) (by simp [results,Try.results107,go_sem]) rfl ⟨_,rfl,⟨_,_,rfl,Bs_nil _,Is_nil _,Nat.zero_le _,by simp only [I64]; omega,by simp only [I64]; omega,by simp [I64],by simp [I64]⟩,⟨_,_,_,_,_,_,_,_,_,_,rfl,fresh_none _,fresh_none _⟩,?_⟩
 exact Below.drew (((Below.refl _ _).alloc (Nat.le_refl _) _).alloc (by simp) _)
theorem Bs_dropped {w : World} {b o n c : Nat} {x : List UInt8} (h : Bs w (.slice (some ⟨b,o,none⟩) n c) x) (k : Nat) (hk : k ≤ x.length) : ∀ j u,((x.drop k).map B)[j]? = some u → w.cell? ((⟨b,o + k,none⟩ : Addr).add j) = some u:=by
 intro j u hj
 have hj' : j < x.length - k:=by
  have:=(List.getElem?_eq_some_iff.1 hj).1
  simpa using this
 obtain ⟨y,hy⟩:=some_at (xs:=x) (k:=k + j) (by omega)
 have h1:=Bs_byte h (k + j) y hy
 rw [Addr.add_lit]
 rw [show o + k + j = o + (k + j) by omega,h1]
 simp only [List.getElem?_map,List.getElem?_drop,hy,Option.map_some] at hj
 rw [← hj]
 rfl
theorem nothing_dropped {w : World} {b o k : Nat} {x : List UInt8} (hk : x.length ≤ k) : ∀ j u,((x.drop k).map B)[j]? = some u → w.cell? ((⟨b,o,none⟩ : Addr).add j) = some u:=by
 intro j u hj
 rw [List.drop_eq_nil_of_le hk] at hj
 simp at hj
theorem step_append_own {P : Program} {w : World} {ops : Array Oper} {o : Oper} {a : Act} {K : Act → World → Prop} {Q : Exit → Act → World → Prop} {E : Prop} (hgd : o.guard = none) (s x : Operand) (t : TypeId)
  (ho : o.op = .call { callee:=.builtin .append,args:=#[s,x],argTypes:=#[t,t] })
  (base : Nat) (e : TypeId) (i : TypeInfo) (z : Value) (bytes : Nat) (ht : P.underlying t = some (.slice e)) (hi : P.info? e = some i) (hz : i.zero = some z)
  (hsize : i.size = 1) (hby : i.bytes = bytes) (hzs : z.cells.size = 1)
  (v : Value) (n : Nat) (xs : List Value) (hs : a.eval s = v) (hown : w.ownsRow base e 1 v n xs)
  (ad : Addr) (m c : Nat) (news : List Value) (hx : a.eval x = .slice (some ad) m c) (hl : news.length = m) (hnews : ∀ j u,news[j]? = some u → w.cell? (ad.add j) = some u) (h1 : ∀ u ∈ news,u.oneCell' = true)
  (h63 : n + m ≤ maxLen) (hbytes : (n + m) * bytes ≤ 140737488355328) (hbase : base ≤ w.heap.size)
  (h : ∀ a' c' w',w'.ownsRow base e 1 (.slice a' (n + m) c') (n + m) (xs ++ news) → w.grownBy w' v.ownBlock → K (a.put o.dst (.slice a' (n + m) c')) w') :
  if Region.wanted o (yielded ops a.tmps) = true then Oper.wp P o a w K Q else E:=by
 have hw : Region.wanted o (yielded ops a.tmps) = true:=by simp [Region.wanted,hgd]
 rw [if_pos hw]
 refine wp_append_own w s x t ho base e i z 1 bytes ht hi hz hsize hby hzs (by omega) v n xs hs hown ad m c news hx (by omega) hnews h1 h63 hbytes hbase (fun v' w' h2 h3 _ => ?_)
 obtain ⟨a',c',rfl⟩:=owns_form h2
 exact h a' c' w' h2 h3
theorem row_cells {u : World} {g : Nat} {y0 y1 y2 y3 y4 y5 : Value} {t : TypeId} (h : u.heap[g]? = some (.cells #[y0,y1,y2,y3,y4,y5] t (0,0))) :
  u.cell? ⟨g,0,none⟩ = some y0 ∧ u.cell? ⟨g,1,none⟩ = some y1 ∧ u.cell? ⟨g,2,none⟩ = some y2 ∧ u.cell? ⟨g,3,none⟩ = some y3 ∧ u.cell? ⟨g,4,none⟩ = some y4 ∧ u.cell? ⟨g,5,none⟩ = some y5:=by
 refine ⟨?_,?_,?_,?_,?_,?_⟩
 all_goals
  rw [cell_of_row u g _ _ t (0,0) h]
  rfl
theorem six_owns {V : World} {base e n r : Nat} {v y0 y1 y2 y3 y4 y5 : Value} {L : List Value} (h : V.ownsRow base e 1 v n L) (hr : r < base) : ((((((V.setCell ⟨r,0,none⟩ y0).setCell ⟨r,1,none⟩ y1).setCell ⟨r,2,none⟩ y2).setCell ⟨r,3,none⟩ y3).setCell ⟨r,4,none⟩ y4).setCell ⟨r,5,none⟩ y5).ownsRow base e 1 v n L :=
 ownsRow_setCell_below (ownsRow_setCell_below (ownsRow_setCell_below (ownsRow_setCell_below (ownsRow_setCell_below (ownsRow_setCell_below h (a:=⟨r,0,none⟩) hr y0) (a:=⟨r,1,none⟩) hr y1) (a:=⟨r,2,none⟩) hr y2) (a:=⟨r,3,none⟩) hr y3) (a:=⟨r,4,none⟩) hr y4) (a:=⟨r,5,none⟩) hr y5
theorem six_below {w V : World} {n r : Nat} {y0 y1 y2 y3 y4 y5 : Value} (h : Below n w V) (hr : n ≤ r) : Below n w ((((((V.setCell ⟨r,0,none⟩ y0).setCell ⟨r,1,none⟩ y1).setCell ⟨r,2,none⟩ y2).setCell ⟨r,3,none⟩ y3).setCell ⟨r,4,none⟩ y4).setCell ⟨r,5,none⟩ y5) :=
 (((((h.setCell hr y0).setCell hr y1).setCell hr y2).setCell hr y3).setCell hr y4).setCell hr y5
theorem from_data (b o c : Nat) (x : List UInt8) (w : World) (h : Bs w (.slice (some ⟨b,o,none⟩) x.length c) x) (hm : x.length ≤ 140737488355328) (x0 x1 x2 x3 : UInt8) (hx0 : x[0]? = some x0) (hx1 : x[1]? = some x1) (hx2 : x[2]? = some x2) (hx3 : x[3]? = some x3) (h1 : i8 x0 = 1) :
  Calls Try.prog 107 #[.slice (some ⟨b,o,none⟩) x.length c] w fun e w' => ∃ v',e = .returned v' ∧ Cv w' v' ⟨1,i8 x1,i8 x2,i8 x3,x.drop 4,[]⟩ ∧ Fresh w.heap.size v' ∧ Below w.heap.size w w':=by
 have hl2 : 4 ≤ x.length:=by have:=(List.getElem?_eq_some_iff.1 hx3).1; omega
 have hlc : x.length ≤ c:=(Bs_news h).2.2.1
 have hc0 : w.cell? ⟨b,o,none⟩ = some (.int .u8 1):=by rw [← h1]; simpa using Bs_byte h 0 x0 hx0
 have hc1 : w.cell? ⟨b,o + 1,none⟩ = some (.int .u8 (i8 x1)):=Bs_byte h 1 x1 hx1
 have hc2 : w.cell? ⟨b,o + 2,none⟩ = some (.int .u8 (i8 x2)):=Bs_byte h 2 x2 hx2
 have hc3 : w.cell? ⟨b,o + 3,none⟩ = some (.int .u8 (i8 x3)):=Bs_byte h 3 x3 hx3
 have hb : b < w.heap.size:=World.block_lt_of_cell? w _ hc0
 have hi1 : 0 ≤ i8 x1 ∧ i8 x1 ≤ 255:=by have:=x1.toNat_lt; unfold i8; omega
 have hi2 : 0 ≤ i8 x2 ∧ i8 x2 ≤ 255:=by have:=x2.toNat_lt; unfold i8; omega
 have hi3 : 0 ≤ i8 x3 ∧ i8 x3 ≤ 255:=by have:=x3.toNat_lt; unfold i8; omega
 have H:=hide h
 clear h hx0 hx1 hx2 hx3 h1
 go_enter Try.func107,Try.ntmps107
 go_wp2_with fail
 go_region
 go_wp2_with fail
 go_region
 go_wp2_with fail
 obtain ⟨W,hW⟩ : ∃ W,W = ((w.alloc (.cells #[.int .i64 0,.int .i64 0,.int .i64 0,.int .i64 0,.slice none 0 0,.slice none 0 0] 32)).alloc (.cells #[.int .i64 1,.int .i64 (i8 x1),.int .i64 (i8 x2),.int .i64 (i8 x3),.slice none 0 0,.slice none 0 0] 32)).drew.drew:=⟨_,rfl⟩
 have hWb : Below w.heap.size w W:=by rw [hW]; exact Below.drew (Below.drew (((Below.refl _ _).alloc (Nat.le_refl _) _).alloc (by simp) _))
 have hWg : W.heap[w.heap.size + 1]? = some (.cells #[.int .i64 1,.int .i64 (i8 x1),.int .i64 (i8 x2),.int .i64 (i8 x3),.slice none 0 0,.slice none 0 0] 32 (0,0)):=by
  rw [hW]
  have h:=heap_alloc_new (w.alloc (.cells #[.int .i64 0,.int .i64 0,.int .i64 0,.int .i64 0,.slice none 0 0,.slice none 0 0] 32)) (.cells #[.int .i64 1,.int .i64 (i8 x1),.int .i64 (i8 x2),.int .i64 (i8 x3),.slice none 0 0,.slice none 0 0] 32)
  rw [show (w.alloc (.cells #[.int .i64 0,.int .i64 0,.int .i64 0,.int .i64 0,.slice none 0 0,.slice none 0 0] 32)).heap.size = w.heap.size + 1 by simp] at h
  exact h
 have hWr : W.heap[w.heap.size]? = some (.cells #[.int .i64 0,.int .i64 0,.int .i64 0,.int .i64 0,.slice none 0 0,.slice none 0 0] 32 (0,0)):=by
  rw [hW]
  exact (Below.heap_alloc _ _ _ (by simp)).trans (heap_alloc_new w _)
 have hWz : W.heap.size = w.heap.size + 2:=by rw [hW]; simp
 have hg4 : W.cell? ⟨w.heap.size + 1,4,none⟩ = some (.slice none 0 0):=by rw [cell_of_row W _ 4 _ 32 (0,0) hWg]; rfl
 have hf4 : W.frozen? ⟨w.heap.size + 1,4,none⟩ = false:=by simp [World.frozen?,hWg]
 rw [← hW]
 have HS:=hide (Bs_dropped (H.out.later hWb) 4 (by omega))
 have HWG:=hide hWg
 have HWR:=hide hWr
 have HWB:=hide hWb
 obtain ⟨i0,hi,hz0,hz1,hz2⟩:=info_parts info5
 clear hW hWb hWg hWr
 have hl4 : (4 : Int) ≤ (x.length : Int):=by omega
 rcases (show c = 4 ∨ ¬ c = 4 by omega) with hc4 | hc4
 ·subst hc4
  have HS':=hide (nothing_dropped (w:=W) (b:=b) (o:=o) (x:=x) (k:=4) (by omega))
  go_region_law ((refine step_append_own (by rfl) (.tmp 30) (.tmp 32) 30 (by rfl) (w.heap.size + 2) 5 i0 (.int .u8 0) 1 Try.underlying30 hi hz0 hz1 hz2 rfl (.slice none 0 0) 0 [] (by rfl) (World.ownsRow_nil _ _ _ _) ⟨b,o,none⟩ 0 0 ((x.drop 4).map B) (by rfl) (by simp; omega) HS'.out (B_one _) (by unfold maxLen; omega) (by omega) (by simp; omega) ?_; intro a2 c2 w2 hown2 hgrow2; obtain ⟨hb2,hcc2,hff2,hz2'⟩:=fresh_far (n:=w.heap.size + 2) hgrow2 (by simp; omega); simp only [Nat.zero_add,List.nil_append] at hown2 ⊢; have hs4 : w2.cell? ⟨w.heap.size + 1,4,none⟩ = some (.slice none 0 0):=(hcc2 (w.heap.size + 1) 4 (by omega)).trans hg4; have hs4f : w2.frozen? ⟨w.heap.size + 1,4,none⟩ = false:=(hff2 (w.heap.size + 1) 4 (by omega)).trans hf4; have HO2:=hide hown2; have HB2:=hide hb2; clear hown2 hgrow2 hb2 hcc2 hff2))
  obtain ⟨V,hV⟩ : ∃ V,V = w2.setCell ⟨w.heap.size + 1,4,none⟩ (.slice a2 0 c2):=⟨_,rfl⟩
  rw [← hV]
  have hVg : V.heap[w.heap.size + 1]? = some (.cells #[.int .i64 1,.int .i64 (i8 x1),.int .i64 (i8 x2),.int .i64 (i8 x3),.slice a2 0 c2,.slice none 0 0] 32 (0,0)):=by
   rw [hV]
   exact (heap_setCell_same w2 (w.heap.size + 1) 4 _ 32 (.slice a2 0 c2) (((HB2.out.block _ (by omega)).trans HWG.out))).trans (by simp)
  have hVr : V.heap[w.heap.size]? = some (.cells #[.int .i64 0,.int .i64 0,.int .i64 0,.int .i64 0,.slice none 0 0,.slice none 0 0] 32 (0,0)):=by
   rw [hV]
   exact (Below.heap_setCell _ _ _ _ (by simp)).trans ((HB2.out.block _ (by omega)).trans HWR.out)
  have hVb : Below w.heap.size w V:=by
   rw [hV]
   exact ((Below.drew HWB.out).trans (HB2.out.mono (by omega))).setCell (by simp) _
  have hVo : V.ownsRow (w.heap.size + 2) 5 1 (.slice a2 0 c2) 0 ((x.drop 4).map B):=by
   rw [hV]
   exact ownsRow_setCell_below HO2.out (by simp) _
  obtain ⟨hq0,hq1,hq2,hq3,hq4,hq5⟩:=row_cells hVg
  obtain ⟨hr0,hr1,hr2,hr3,hr4,hr5⟩:=row_cells hVr
  have hrf : ∀ o,V.frozen? ⟨w.heap.size,o,none⟩ = false:=fun o => by simp [World.frozen?,hVr]
  have HVB:=hide hVb
  have HVO:=hide hVo
  clear hV hVg hVr hVb hVo
  go_wp2_with fail
  refine bodyPost_ret (v:=.agg #[.int .i64 1,.int .i64 (i8 x1),.int .i64 (i8 x2),.int .i64 (i8 x3),.slice a2 0 c2,.slice none 0 0]) (by simp [results,Try.results107,go_sem,hr0,hr1,hr2,hr3,hr4,hr5]) rfl ⟨_,rfl,⟨_,_,rfl,owns_Bs (six_owns HVO.out (by omega)),Is_nil _,by unfold maxLen; simp; omega,by simp [I64],by simp only [I64]; omega,by simp only [I64]; omega,by simp only [I64]; omega⟩,⟨_,_,_,_,_,_,_,_,_,_,rfl,fresh_owns HVO.out (by omega),fresh_none _⟩,six_below HVB.out (Nat.le_refl _)⟩
 ·go_region_law ((refine step_append_own (by rfl) (.tmp 30) (.tmp 32) 30 (by rfl) (w.heap.size + 2) 5 i0 (.int .u8 0) 1 Try.underlying30 hi hz0 hz1 hz2 rfl (.slice none 0 0) 0 [] (by rfl) (World.ownsRow_nil _ _ _ _) ⟨b,o + 4,none⟩ (x.length - 4) (c - 4) ((x.drop 4).map B) (by rfl) (by simp) HS.out (B_one _) (by unfold maxLen; omega) (by omega) (by simp; omega) ?_; intro a2 c2 w2 hown2 hgrow2; obtain ⟨hb2,hcc2,hff2,hz2'⟩:=fresh_far (n:=w.heap.size + 2) hgrow2 (by simp; omega); simp only [Nat.zero_add,List.nil_append] at hown2 ⊢; have hs4 : w2.cell? ⟨w.heap.size + 1,4,none⟩ = some (.slice none 0 0):=(hcc2 (w.heap.size + 1) 4 (by omega)).trans hg4; have hs4f : w2.frozen? ⟨w.heap.size + 1,4,none⟩ = false:=(hff2 (w.heap.size + 1) 4 (by omega)).trans hf4; have HO2:=hide hown2; have HB2:=hide hb2; clear hown2 hgrow2 hb2 hcc2 hff2))
  obtain ⟨V,hV⟩ : ∃ V,V = w2.setCell ⟨w.heap.size + 1,4,none⟩ (.slice a2 (x.length - 4) c2):=⟨_,rfl⟩
  rw [← hV]
  have hVg : V.heap[w.heap.size + 1]? = some (.cells #[.int .i64 1,.int .i64 (i8 x1),.int .i64 (i8 x2),.int .i64 (i8 x3),.slice a2 (x.length - 4) c2,.slice none 0 0] 32 (0,0)):=by
   rw [hV]
   exact (heap_setCell_same w2 (w.heap.size + 1) 4 _ 32 (.slice a2 (x.length - 4) c2) (((HB2.out.block _ (by omega)).trans HWG.out))).trans (by simp)
  have hVr : V.heap[w.heap.size]? = some (.cells #[.int .i64 0,.int .i64 0,.int .i64 0,.int .i64 0,.slice none 0 0,.slice none 0 0] 32 (0,0)):=by
   rw [hV]
   exact (Below.heap_setCell _ _ _ _ (by simp)).trans ((HB2.out.block _ (by omega)).trans HWR.out)
  have hVb : Below w.heap.size w V:=by
   rw [hV]
   exact ((Below.drew HWB.out).trans (HB2.out.mono (by omega))).setCell (by simp) _
  have hVo : V.ownsRow (w.heap.size + 2) 5 1 (.slice a2 (x.length - 4) c2) (x.length - 4) ((x.drop 4).map B):=by
   rw [hV]
   exact ownsRow_setCell_below HO2.out (by simp) _
  obtain ⟨hq0,hq1,hq2,hq3,hq4,hq5⟩:=row_cells hVg
  obtain ⟨hr0,hr1,hr2,hr3,hr4,hr5⟩:=row_cells hVr
  have hrf : ∀ o,V.frozen? ⟨w.heap.size,o,none⟩ = false:=fun o => by simp [World.frozen?,hVr]
  have HVB:=hide hVb
  have HVO:=hide hVo
  clear hV hVg hVr hVb hVo
  go_wp2_with fail
  refine bodyPost_ret (v:=.agg #[.int .i64 1,.int .i64 (i8 x1),.int .i64 (i8 x2),.int .i64 (i8 x3),.slice a2 (x.length - 4) c2,.slice none 0 0]) (by simp [results,Try.results107,go_sem,hr0,hr1,hr2,hr3,hr4,hr5]) rfl ⟨_,rfl,⟨_,_,rfl,owns_Bs (six_owns HVO.out (by omega)),Is_nil _,by unfold maxLen; simp; omega,by simp [I64],by simp only [I64]; omega,by simp only [I64]; omega,by simp only [I64]; omega⟩,⟨_,_,_,_,_,_,_,_,_,_,rfl,fresh_owns HVO.out (by omega),fresh_none _⟩,six_below HVB.out (Nat.le_refl _)⟩
theorem drop_snoc' (x : List UInt8) (k : Nat) (y : UInt8) (hy : x[2 + k]? = some y) : ((x.drop 2).take (k + 1)).map V64 = ((x.drop 2).take k).map V64 ++ [V64 y]:=by
 rw [List.take_add_one,List.getElem?_drop,hy]
 simp
theorem many_kept {w wr w2 : World} {ev v : Value} {n m : Nat} {o : Obj} {cs rs : Array Value} {t t' : TypeId} {L L' : List Value} (hown : wr.ownsRow (w.heap.size + 2) 3 1 ev n L) (hgr : wr.heap[w.heap.size + 1]? = some (.cells cs t (0,0))) (hrr : wr.heap[w.heap.size]? = some (.cells rs t' (0,0)))
  (hbr : Below w.heap.size w wr) (hown2 : w2.ownsRow (w.heap.size + 2) 3 1 v m L') (hgrow : (wr.alloc o).grownBy w2 ev.ownBlock) :
  w2.heap[w.heap.size + 1]? = some (.cells cs t (0,0)) ∧ w2.heap[w.heap.size]? = some (.cells rs t' (0,0)) ∧ Below w.heap.size w w2:=by
 have hz : w.heap.size + 1 < wr.heap.size:=(Array.getElem?_eq_some_iff.1 hgr).1
 refine ⟨?_,?_,?_⟩
 ·rw [hgrow.block _ (by simp; omega) (fun e => by have:=(hown.lt _ e.symm).1; omega)]
  exact (Below.heap_alloc wr o _ hz).trans hgr
 ·rw [hgrow.block _ (by simp; omega) (fun e => by have:=(hown.lt _ e.symm).1; omega)]
  exact (Below.heap_alloc wr o _ (by omega)).trans hrr
 ·exact (hbr.alloc hbr.size o).grown hgrow (by simp; omega) (fun q hq => by have:=(hown.lt q hq).1; omega)
theorem from_ack (b o c : Nat) (x : List UInt8) (w : World) (h : Bs w (.slice (some ⟨b,o,none⟩) x.length c) x) (hm : x.length ≤ 1048600) (x0 x1 : UInt8) (hx0 : x[0]? = some x0) (hx1 : x[1]? = some x1) (h1 : i8 x0 = 2) :
  Calls Try.prog 107 #[.slice (some ⟨b,o,none⟩) x.length c] w fun e w' => ∃ v',e = .returned v' ∧ Cv w' v' ⟨2,i8 x1,0,0,[],(x.drop 2).map i8⟩ ∧ Fresh w.heap.size v' ∧ Below w.heap.size w w':=by
 have hl2 : 2 ≤ x.length:=by have:=(List.getElem?_eq_some_iff.1 hx1).1; omega
 have hlc : x.length ≤ c:=(Bs_news h).2.2.1
 have hc0 : w.cell? ⟨b,o,none⟩ = some (.int .u8 2):=by rw [← h1]; simpa using Bs_byte h 0 x0 hx0
 have hc1 : w.cell? ⟨b,o + 1,none⟩ = some (.int .u8 (i8 x1)):=Bs_byte h 1 x1 hx1
 have hb : b < w.heap.size:=World.block_lt_of_cell? w _ hc0
 have hi1 : 0 ≤ i8 x1 ∧ i8 x1 ≤ 255:=by have:=x1.toNat_lt; unfold i8; omega
 have H:=hide h
 clear h hx0 hx1 h1
 have hl2' : (2 : Int) ≤ (x.length : Int):=by omega
 go_enter Try.func107,Try.ntmps107
 go_wp2_with fail
 go_region
 obtain ⟨W,hW⟩ : ∃ W,W = ((w.alloc (.cells #[.int .i64 0,.int .i64 0,.int .i64 0,.int .i64 0,.slice none 0 0,.slice none 0 0] 32)).alloc (.cells #[.int .i64 2,.int .i64 (i8 x1),.int .i64 0,.int .i64 0,.slice none 0 0,.slice none 0 0] 32)).drew:=⟨_,rfl⟩
 have hWb : Below w.heap.size w W:=by rw [hW]; exact Below.drew (((Below.refl _ _).alloc (Nat.le_refl _) _).alloc (by simp) _)
 have hWg : W.heap[w.heap.size + 1]? = some (.cells #[.int .i64 2,.int .i64 (i8 x1),.int .i64 0,.int .i64 0,.slice none 0 0,.slice none 0 0] 32 (0,0)):=by
  rw [hW]
  have h:=heap_alloc_new (w.alloc (.cells #[.int .i64 0,.int .i64 0,.int .i64 0,.int .i64 0,.slice none 0 0,.slice none 0 0] 32)) (.cells #[.int .i64 2,.int .i64 (i8 x1),.int .i64 0,.int .i64 0,.slice none 0 0,.slice none 0 0] 32)
  rw [show (w.alloc (.cells #[.int .i64 0,.int .i64 0,.int .i64 0,.int .i64 0,.slice none 0 0,.slice none 0 0] 32)).heap.size = w.heap.size + 1 by simp] at h
  exact h
 have hWr : W.heap[w.heap.size]? = some (.cells #[.int .i64 0,.int .i64 0,.int .i64 0,.int .i64 0,.slice none 0 0,.slice none 0 0] 32 (0,0)):=by
  rw [hW]
  exact (Below.heap_alloc _ _ _ (by simp)).trans (heap_alloc_new w _)
 rw [← hW]
 obtain ⟨hq0,hq1,hq2,hq3,hq4,hq5⟩:=row_cells hWg
 obtain ⟨i0,hi,hz0,hz1,hz2⟩:=info_parts info3
 have HWG:=hide hWg
 have HWR:=hide hWr
 have HWB:=hide hWb
 clear hW hWb hWg hWr
 rcases (show c = 2 ∨ ¬ c = 2 by omega) with hc2 | hc2
 ·subst hc2
  obtain ⟨hr0,hr1,hr2,hr3,hr4,hr5⟩:=row_cells HWR.out
  have hrf : ∀ o,W.frozen? ⟨w.heap.size,o,none⟩ = false:=fun o => by simp [World.frozen?,HWR.out]
  go_wp2_with fail
  refine wp_loop_rounds 1 ?_
  rw [rounds_succ]
  go_wp2_with fail
  refine bodyPost_ret (v:=.agg #[.int .i64 2,.int .i64 (i8 x1),.int .i64 0,.int .i64 0,.slice none 0 0,.slice none 0 0]) (by simp [results,Try.results107,go_sem,hr0,hr1,hr2,hr3,hr4,hr5]) rfl ⟨_,rfl,⟨_,_,rfl,Bs_nil _,?_,by simp,by simp [I64],by simp only [I64]; omega,by simp [I64],by simp [I64]⟩,⟨_,_,_,_,_,_,_,_,_,_,rfl,fresh_none _,fresh_none _⟩,six_below HWB.out (Nat.le_refl _)⟩
  rw [List.drop_eq_nil_of_le (by omega)]
  exact Is_nil _
 ·go_wp2_with fail
  obtain ⟨L,hL⟩ : ∃ L,L = x.length - 2:=⟨_,rfl⟩
  rw [← hL]
  have hLm : L ≤ 1048600:=by omega
  go_loopw [40] (fun i wr => ∃ (k : Nat) (ev : Value),k ≤ L ∧ i = .int .i64 k ∧ wr.heap[w.heap.size + 1]? = some (.cells #[.int .i64 2,.int .i64 (i8 x1),.int .i64 0,.int .i64 0,.slice none 0 0,ev] 32 (0,0)) ∧ wr.heap[w.heap.size]? = some (.cells #[.int .i64 0,.int .i64 0,.int .i64 0,.int .i64 0,.slice none 0 0,.slice none 0 0] 32 (0,0)) ∧
    wr.ownsRow (w.heap.size + 2) 3 1 ev k (((x.drop 2).take k).map V64) ∧ Below w.heap.size w wr) (fun i _ => L - (intOf i).toNat)
  case atStart => exact ⟨0,.slice none 0 0,Nat.zero_le _,rfl,HWG.out,HWR.out,World.ownsRow_nil _ _ _ _,HWB.out⟩
  case round =>
   obtain ⟨k,ev,hkl,rfl,hgr,hrr,hown,hbr⟩:=hrel
   have hgz : w.heap.size + 1 < wr.heap.size:=(Array.getElem?_eq_some_iff.1 hgr).1
   clear hq0 hq1 hq2 hq3 hq4 hq5
   by_cases hlt : k < L
   ·obtain ⟨y,hy⟩:=some_at (xs:=x) (k:=2 + k) (by omega)
    have hcy:=Bs_byte (H.out.later hbr) (2 + k) y hy
    rw [show o + (2 + k) = o + 2 + k by omega] at hcy
    have hiy : 0 ≤ i8 y ∧ i8 y ≤ 255:=by have:=y.toNat_lt; unfold i8; omega
    have hlt' : (k : Int) < (L : Int):=by omega
    have hg5 : wr.cell? ⟨w.heap.size + 1,5,none⟩ = some ev:=by rw [cell_of_row wr _ 5 _ 32 (0,0) hgr]; rfl
    have HSN:=hide (drop_snoc' x k y hy)
    have HO:=hide hown
    have HG:=hide hgr
    have HR:=hide hrr
    have HBR:=hide hbr
    have HL:=hide hL
    clear hy hown hgr hrr hbr hL
    go_wp2_with (at_builtin; go_must (refine wpList_append_own _ rfl (.tmp 45) (.tmp 48) 23 rfl (w.heap.size + 2) 3 i0 (.int .i64 0) 1 8 Try.underlying23 hi hz0 hz1 hz2 rfl (by decide) ev k (((x.drop 2).take k).map V64) rfl (HO.out.alloc _) ⟨wr.heap.size,0,none⟩ 1 1 [V64 y] rfl rfl (one_new wr (V64 y)) (one_one _) (by unfold maxLen; omega) (by omega) (by simp; omega) ?_; intro v2 w2 hown2 hgrow2 hnil2; clear hnil2; obtain ⟨a2,c2,rfl⟩:=owns_form hown2; have hk5:=many_kept HO.out HG.out HR.out HBR.out hown2 hgrow2; obtain ⟨hk1,hk2,hk3⟩:=hk5; have hs5 : w2.cell? ⟨w.heap.size + 1,5,none⟩ = some ev:=(row_cells hk1).2.2.2.2.2; have hf5 : w2.frozen? ⟨w.heap.size + 1,5,none⟩ = false:=(by simp [World.frozen?,hk1]); have HK1:=hide hk1; have HK2:=hide hk2; have HK3:=hide hk3; have HO2:=hide hown2; clear hk1 hk2 hk3 hown2 hgrow2))
    go_roundw
    case rel =>
     refine ⟨k + 1,.slice a2 (k + 1) c2,by omega,by go_num,(heap_setCell_same w2 (w.heap.size + 1) 5 _ 32 (.slice a2 (k + 1) c2) HK1.out).trans (by simp),(Below.heap_setCell _ _ _ _ (by simp)).trans HK2.out,?_,HK3.out.setCell (by simp) _⟩
     rw [HSN.out]
     exact ownsRow_setCell_below HO2.out (by simp) _
    case measure => simp [intOf]; omega
   ·have hX : (x.drop 2).take k = x.drop 2:=List.take_of_length_le (by simp; omega)
    rw [hX] at hown
    obtain ⟨ae,ce,rfl⟩:=owns_form hown
    obtain ⟨hs0,hs1,hs2,hs3,hs4,hs5⟩:=row_cells hgr
    obtain ⟨hr0,hr1,hr2,hr3,hr4,hr5⟩:=row_cells hrr
    have hrf : ∀ o,wr.frozen? ⟨w.heap.size,o,none⟩ = false:=fun o => by simp [World.frozen?,hrr]
    have HO:=hide hown
    have HBR:=hide hbr
    have HL:=hide hL
    clear hX hown hgr hrr hbr hL
    go_wp2_with fail
    refine bodyPost_ret (v:=.agg #[.int .i64 2,.int .i64 (i8 x1),.int .i64 0,.int .i64 0,.slice none 0 0,.slice ae k ce]) (by simp [results,Try.results107,go_sem,hr0,hr1,hr2,hr3,hr4,hr5]) rfl ⟨_,rfl,⟨_,_,rfl,Bs_nil _,owns_Is (six_owns HO.out (by omega)),by simp,by simp [I64],by simp only [I64]; omega,by simp [I64],by simp [I64]⟩,⟨_,_,_,_,_,_,_,_,_,_,rfl,fresh_none _,fresh_owns HO.out (by omega)⟩,six_below HBR.out (Nat.le_refl _)⟩
set_option maxRecDepth 10000
theorem from_any (v : Value) (x : List UInt8) (w : World) (h : Bs w v x) (hm : x.length ≤ 1048600) (hs : shortL x = false) :
  Calls Try.prog 107 #[v] w fun e w' => ∃ v',e = .returned v' ∧ Cv w' v' (fromL x) ∧ Fresh w.heap.size v' ∧ Below w.heap.size w w':=by
 simp only [shortL,Bool.or_eq_false_iff,decide_eq_false_iff_not,Bool.and_eq_false_iff] at hs
 obtain ⟨b,o,c,rfl,hlc,hb⟩:=Bs_some h (by omega)
 obtain ⟨x0,hx0⟩:=some_at (xs:=x) (k:=0) (by omega)
 obtain ⟨x1,hx1⟩:=some_at (xs:=x) (k:=1) (by omega)
 have g0 : x.getD 0 0 = x0:=by simp [List.getD,hx0]
 have g1 : x.getD 1 0 = x1:=by simp [List.getD,hx1]
 rw [g0] at hs
 unfold fromL
 rw [g0,g1]
 by_cases h1 : i8 x0 = 1
 ·obtain ⟨x2,hx2⟩:=some_at (xs:=x) (k:=2) (by omega)
  obtain ⟨x3,hx3⟩:=some_at (xs:=x) (k:=3) (by omega)
  have g2 : x.getD 2 0 = x2:=by simp [List.getD,hx2]
  have g3 : x.getD 3 0 = x3:=by simp [List.getD,hx3]
  rw [if_pos h1,g2,g3]
  exact from_data b o c x w h (by omega) x0 x1 x2 x3 hx0 hx1 hx2 hx3 h1
 ·rw [if_neg h1]
  by_cases h2 : i8 x0 = 2
  ·rw [if_pos h2]
   exact from_ack b o c x w h hm x0 x1 hx0 hx1 h2
  ·rw [if_neg h2]
   exact from_kind b o c x w h (by omega) x0 x1 hx0 hx1 h1 h2
theorem Cv.parts {w : World} {v : Value} {c : Ch} (h : Cv w v c) : ∃ a1 n1 c1 a2 n2 c2,v = .agg #[.int .i64 c.kind,.int .i64 c.number,.int .i64 c.stream,.int .i64 c.place,.slice a1 n1 c1,.slice a2 n2 c2]:=by
 obtain ⟨dv,ev,rfl,⟨a1,c1,rfl,-⟩,⟨a2,c2,rfl,-⟩,-⟩:=h
 exact ⟨_,_,_,_,_,_,rfl⟩
end Go.Proofs.Ytgfljlmonaifgab.leaf
