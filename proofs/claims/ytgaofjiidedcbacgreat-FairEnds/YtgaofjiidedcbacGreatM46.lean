import Derived.Test.YtgaofjiidedcbacGreatM45
import Derived.WalkKit
import Derived.Deep.LoopGhost
import Derived.Deep.RegionLaw
import Derived.Shelf.RegionOpenPlain
import Derived.Lib.Walk
import Derived.Sort.WalkB12
import Derived.Lib.SliceRun
import Derived.Test.YtgaofjiidedcbacGreatM41
set_option maxHeartbeats 8000000
set_option linter.unusedVariables false
set_option linter.unusedSimpArgs false
namespace Go.Proofs.YtgaofjiidedcbacGreat.ab
open Go Go.RowKit Go.Lib Go.Sort Go.Shelf
theorem infoC : (Tryz.prog.info? 85).map (fun i => i.size) = some 6:=by kernel_rfl
theorem run_clearC (w : World) (ty : TypeId) (z : Value) (hv : ∀ w,(zeroValue 85).run Tryz.prog w = .ok z w) (b o n c : Nat) (hn : 0 < n) (h1 : ∀ v ∈ (Builtin.zeroCells z.cells n).toList,v.oneCell' = true)
  (hc : ∀ j,j < (Builtin.zeroCells z.cells n).toList.length → (w.cell? ⟨b,o + j,none⟩).isSome = true) (hf : ∀ j,w.frozen? ⟨b,o + j,none⟩ = false) :
  (Builtin.clear_ #[48] ty #[.slice (some ⟨b,o,none⟩) n c]).run Tryz.prog w = .ok (.tuple #[]) (w.setCells b o (Builtin.zeroCells z.cells n).toList):=by
 have hst:=run_storeCells_cells (P:=Tryz.prog) b o (Builtin.zeroCells z.cells n).toList 0 w (by simpa using hc) (fun j _ => by simpa using hf j) h1
 simp only [Nat.add_zero] at hst
 obtain ⟨m,rfl⟩ : ∃ m,n = m + 1:=⟨n - 1,by omega⟩
 simp [Builtin.clear_,run_underlying Tryz.underlying48,hv,hst]
set_option maxRecDepth 1000000 in
theorem delete_walk (g n cap i j : Nat) (us : List Value) (t : TypeId) (w : World) (zv : Value) (zc : List Value) (hv : ∀ w,(zeroValue 85).run Tryz.prog w = .ok zv w) (hzc : (Builtin.zeroCells zv.cells (n - (i + (n - j)))).toList = zc) (hzl : zc.length = (j - i) * 6) (hz1 : ∀ v ∈ zc,v.oneCell' = true)
  (hg : w.heap[g]? = some (.cells us.toArray t (0,0))) (hl : n * 6 ≤ us.length) (hcap : n ≤ cap) (hm : cap ≤ 9223372036854775807) (hij : i < j) (hj : j ≤ n) (h1 : ∀ v ∈ us.take (n * 6),v.oneCell' = true) :
  Calls Tryz.prog 107 #[.slice (some ⟨g,0,none⟩) n cap,.int .i64 i,.int .i64 j] w fun e w' =>
   e = .returned (.slice (some ⟨g,0,none⟩) (n - (j - i)) cap) ∧ w' = ((w.drew.setCells g (0 + i * 6) ((us.take (n * 6)).drop (j * 6))).setCells g ((i + (n - j)) * 6) zc):=by
 have mixed : Tryz.prog.follows .mixedOrders = true:=by kernel_rfl
 obtain ⟨i0,hi0,hz⟩:=Option.map_eq_some_iff.1 infoC
 have hne : ¬ (i = j):=by omega
 obtain ⟨news,hnews⟩ : ∃ news,news = (us.take (n * 6)).drop (j * 6):=⟨_,rfl⟩
 have hlen : news.length = (n - j) * 6:=by rw [hnews,List.length_drop,List.length_take]; omega
 have hcell : ∀ k,w.cell? ⟨g,k,none⟩ = us[k]?:=fun k => by rw [cell_of_row w g k us.toArray t (0,0) hg]; simp
 have hget : ∀ k u,news[k]? = some u → us[j * 6 + k]? = some u:=fun k u hu => by
  rw [hnews,List.getElem?_drop,List.getElem?_take] at hu
  split at hu
  ·exact hu
  ·cases hu
 obtain ⟨A,hA,hsrc⟩ : ∃ A : Addr,(if cap = j then (some (⟨g,0,none⟩ : Addr)) else some ⟨g,j * 6,none⟩) = some A ∧ Hid (∀ k u,news[k]? = some u → w.drew.cell? (A.add k) = some u):=by
  by_cases h : cap = j
  ·refine ⟨⟨g,0,none⟩,by simp [h],fun k u hu => ?_⟩
   have h0 : news.length = 0:=by rw [hlen]; omega
   rw [List.length_eq_zero_iff.1 h0] at hu
   simp at hu
  ·refine ⟨⟨g,j * 6,none⟩,by simp [h],fun k u hu => ?_⟩
   rw [Addr.add_lit]
   exact (hcell _).trans (hget k u hu)
 have s1 : Hid (news.length = (n - j) * 6):=hlen
 have s2 : Hid (∀ u ∈ news,u.oneCell' = true):=fun u hu => h1 u (List.mem_of_mem_drop (hnews ▸ hu))
 have s3 : Hid (∀ k,k < news.length → (w.drew.cell? ⟨g,0 + i * 6 + k,none⟩).isSome = true ∧ w.drew.frozen? ⟨g,0 + i * 6 + k,none⟩ = false):=fun k hk => by
  rw [hlen] at hk
  refine ⟨?_,frozen_of_row w g _ us.toArray t hg⟩
  show (w.cell? _).isSome = true
  rw [hcell,List.getElem?_eq_getElem (by omega)]; rfl
 obtain ⟨W1,hW1⟩ : ∃ W1,W1 = w.drew.setCells g (0 + i * 6) news:=⟨_,rfl⟩
 have hcl : ∀ ty,(Builtin.clear_ #[48] ty #[.slice (some ⟨g,(i + (n - j)) * 6,none⟩) (n - (i + (n - j))) (cap - (i + (n - j)))]).run Tryz.prog W1 = .ok (.tuple #[]) (W1.setCells g ((i + (n - j)) * 6) zc):=fun ty => by
  have:=run_clearC W1 ty zv hv g ((i + (n - j)) * 6) (n - (i + (n - j))) (cap - (i + (n - j))) (by omega) (by rw [hzc]; exact hz1) (fun k hk => by
   rw [hzc,hzl] at hk
   rw [hW1]
   refine isSome_setCells g news (0 + i * 6) w.drew (fun k hk => (s3 k hk).1) _ ?_
   show (w.cell? _).isSome = true
   rw [hcell,List.getElem?_eq_getElem (by omega)]; rfl) (fun k => by
   rw [hW1,World.frozen?_setCells]
   exact frozen_of_row w g _ us.toArray t hg)
  rw [hzc] at this
  exact this
 have hW : Hid (W1 = w.drew.setCells g (0 + i * 6) news):=hW1
 have hic : i ≤ cap:=by omega
 have hjc : j ≤ cap:=by omega
 have hin : i ≤ n:=by omega
 rw [← hnews,← hW1]
 clear hW1 hget hnews hlen hcell hg hl h1 hzc hzl hz1
 go_enter Tryz.func107,Tryz.ntmps107
 go_wp2_with fail
 go_region_law_o (refine step_append_room rfl (.tmp 22) (.tmp 25) 48 rfl 85 i0 6 Tryz.underlying48 hi0 hz g 0 i cap (by simp [Act.eval,Act.put]) A (n - j) (cap - j) news (by simp [Act.eval,Act.put,hA]) s1.out hsrc.out s2.out (by omega) s3.out ?_; rw [← hW.out])
 go_wp2
 go_ret
 exact ⟨by rw [show n - (j - i) = i + (n - j) by omega]; rfl,rfl⟩
theorem setCells_row {w : World} {g o : Nat} {us vs : List Value} {t : TypeId} (hg : w.heap[g]? = some (.cells us.toArray t (0,0))) (hl : o + vs.length ≤ us.length) (h1 : ∀ v ∈ vs,v.oneCell' = true) : w.setCells g o vs = w.setRow g (over us o vs).toArray:=by
 have e1:=run_storeCells_at (P:=Tryz.prog) g o t vs 0 us.toArray w hg (by simpa using hl) h1
 have e2:=run_storeCells_cells (P:=Tryz.prog) g o vs 0 w (fun j hj => by
  rw [cell_of_row w g _ us.toArray t (0,0) hg,List.getElem?_toArray,List.getElem?_eq_getElem (by omega)]; rfl) (fun j hj => frozen_of_row w g _ us.toArray t hg) h1
 rw [e2] at e1
 have e3:=(Result.ok.injEq .. ▸ e1 : _ ∧ _).2
 rw [Nat.add_zero] at e3
 rw [e3]
 simp [over]
theorem zeroCC : ∃ zv : Value,(∀ w,(zeroValue 85).run Tryz.prog w = .ok zv w) ∧ (Builtin.zeroCells zv.cells 1).toList.length = 6 ∧ ∀ v ∈ (Builtin.zeroCells zv.cells 1).toList,v.oneCell' = true:=by
 refine ⟨_,Tryz.zeroValue85,by decide +kernel,?_⟩
 intro v hv
 have : (Builtin.zeroCells (Value.agg #[.int .i64 0,.int .i64 0,.int .i64 0,.int .i64 0,.slice none 0 0,.slice none 0 0]).cells 1).toList.all (fun v => v.oneCell') = true:=by decide +kernel
 exact List.all_eq_true.1 this v hv
theorem delete_told (es : List D) (i : Nat) (hi : i < es.length) : ToldU Tryz.prog 107 [vI i,vI ((i : Int) + 1)] 6 es (es.take i ++ es.drop (i + 1)):=by
 intro w I vs g us t cap hv hlt hg hel hnI hcap hm
 obtain ⟨x,y,rfl⟩ : ∃ x y,vs = [x,y]:=by
  match vs,hv.1 with
  | [x,y],_ => exact ⟨x,y,rfl⟩
  | [],q => simp at q
  | [_],q => simp at q
  | _ :: _ :: _ :: _,q => simp at q
 have hx : x = .int .i64 i:=((hv.2 0 _ _ rfl rfl).leaf (fun cs e => by cases e)).invV.1
 have hy : y = .int .i64 ((i : Int) + 1):=((hv.2 1 _ _ rfl rfl).leaf (fun cs e => by cases e)).invV.1
 subst hx hy
 obtain ⟨zv,hzv,hz6,hz1⟩:=zeroCC
 have hn:=hel.2.1
 have hcell : ∀ k,k < es.length * 6 → ∃ l u,us[k]? = some u ∧ CRep I w l u:=fun k hk => by
  have h1 : k / 6 < es.length:=by omega
  have h2 : k % 6 < 6:=Nat.mod_lt _ (by omega)
  have h3 : (cellsD es[k / 6]).length = 6:=hel.1 _ (List.getElem_mem h1)
  obtain ⟨u,q1,q2⟩:=hel.2.2 (k / 6) (k % 6) es[k / 6] (cellsD es[k / 6])[k % 6] (List.getElem?_eq_getElem h1) (List.getElem?_eq_getElem (by omega))
  exact ⟨_,u,by rw [show k / 6 * 6 + k % 6 = k by omega] at q1; exact q1,q2⟩
 have h1 : ∀ v ∈ us.take (es.length * 6),v.oneCell' = true:=fun v hv => by
  obtain ⟨k,hk,rfl⟩:=List.mem_iff_getElem.1 hv
  rw [List.length_take] at hk
  obtain ⟨l,u,q1,q2⟩:=hcell k (by omega)
  rw [List.getElem_take]
  rw [List.getElem?_eq_getElem (by omega)] at q1
  rw [Option.some.inj q1]
  exact q2.one.1
 have e1 : es.length - (i + (es.length - (i + 1))) = 1:=by omega
 refine (delete_walk g es.length cap i (i + 1) us t w zv _ hzv (by rw [e1]) (by rw [hz6]; omega) hz1 hg hn hcap (by unfold maxLen at hm; omega) (by omega) (by omega) h1).mono fun e w' ⟨he,hw⟩ => ?_
 obtain ⟨zc,hzc⟩ : ∃ zc,zc = (Builtin.zeroCells zv.cells 1).toList:=⟨_,rfl⟩
 rw [← hzc] at hw hz6 hz1
 obtain ⟨news,hnews⟩ : ∃ news,news = (us.take (es.length * 6)).drop ((i + 1) * 6):=⟨_,rfl⟩
 rw [← hnews] at hw
 have hnl : news.length = (es.length - (i + 1)) * 6:=by rw [hnews,List.length_drop,List.length_take]; omega
 have hg' : w.drew.heap[g]? = some (.cells us.toArray t (0,0)):=hg
 have r1:=setCells_row (o:=0 + i * 6) (vs:=news) hg' (by omega) (fun v hv => h1 v (List.mem_of_mem_drop (hnews ▸ hv)))
 rw [r1] at hw
 have hg1:=setRow_heap w.drew g us.toArray (over us (0 + i * 6) news).toArray t (0,0) hg'
 have hol : (over us (0 + i * 6) news).length = us.length:=over_len (by omega)
 have r2:=setCells_row (o:=(i + (es.length - (i + 1))) * 6) (vs:=zc) hg1 (by omega) hz1
 rw [r2] at hw
 have hg2:=setRow_heap (w.drew.setRow g (over us (0 + i * 6) news).toArray) g _ (over (over us (0 + i * 6) news) ((i + (es.length - (i + 1))) * 6) zc).toArray t (0,0) hg1
 rw [← hw] at hg2
 have hel' : (es.take i ++ es.drop (i + 1)).length = es.length - 1:=by simp; omega
 have hblk : ∀ k,k ≠ g → w'.heap[k]? = w.heap[k]?:=fun k hk => by
  rw [hw,setRow_other _ _ _ _ hk,setRow_other _ _ _ _ hk]; rfl
 have hsz : w'.heap.size = w.heap.size:=by rw [hw,setRow_size,setRow_size]; rfl
 refine ⟨by rw [he,hel']; congr 2; omega,⟨by rw [hw]; rfl,by rw [hw]; rfl,by rw [hw]; rfl,by omega,fun k _ hk => hblk k (fun e => hk (by rw [e]))⟩,_,hg2,?_,by omega⟩
 have hcl : ∀ b j,I b j → w'.cell? ⟨b,j,none⟩ = w.cell? ⟨b,j,none⟩:=fun b j hj => World.cell?_of_block (a:=⟨b,j,none⟩) (hblk b (fun e => hnI j (e ▸ hj)))
 refine ⟨fun e he => ?_,?_,fun k j e l hk hj => ?_⟩
 ·rcases List.mem_append.1 he with q | q
  ·exact hel.1 e (List.mem_of_mem_take q)
  ·exact hel.1 e (List.mem_of_mem_drop q)
 ·rw [over_len (by omega),hol,hel']; omega
 ·have hj6 : j < 6:=by
   have h2 : (cellsD e).length = 6:=by
    rcases List.mem_append.1 (List.mem_of_getElem? hk) with q | q
    ·exact hel.1 e (List.mem_of_mem_take q)
    ·exact hel.1 e (List.mem_of_mem_drop q)
   have:=(List.getElem?_eq_some_iff.1 hj).1
   omega
  have hkl : k < es.length - 1:=by have:=(List.getElem?_eq_some_iff.1 hk).1; omega
  rw [over_out (by omega) (.inl (by omega))]
  by_cases hki : k < i
  ·rw [List.getElem?_append_left (by rw [List.length_take]; omega),List.getElem?_take,if_pos hki] at hk
   obtain ⟨u,q1,q2⟩:=hel.2.2 k j e l hk hj
   exact ⟨u,by rw [over_out (by omega) (.inl (by omega))]; exact q1,q2.keep (fun _ _ h => h) hcl⟩
  ·rw [List.getElem?_append_right (by rw [List.length_take]; omega),List.length_take,Nat.min_eq_left (by omega),List.getElem?_drop] at hk
   obtain ⟨u,q1,q2⟩:=hel.2.2 (i + 1 + (k - i)) j e l hk hj
   refine ⟨u,?_,q2.keep (fun _ _ h => h) hcl⟩
   have hin : k * 6 + j - i * 6 < news.length:=by omega
   have h4:=over_in (cs:=us) (ds:=news) (off:=0 + i * 6) (j:=k * 6 + j - i * 6) (by omega) hin
   rw [show 0 + i * 6 + (k * 6 + j - i * 6) = k * 6 + j by omega] at h4
   rw [h4,hnews,List.getElem?_drop,List.getElem?_take,if_pos (by omega),← q1]
   congr 1
   omega
theorem infoCP : (Tryz.prog.info? 41).map (fun i => i.size) = some 1:=by kernel_rfl
theorem run_clearCP (w : World) (ty : TypeId) (z : Value) (hv : ∀ w,(zeroValue 41).run Tryz.prog w = .ok z w) (b o n c : Nat) (hn : 0 < n) (h1 : ∀ v ∈ (Builtin.zeroCells z.cells n).toList,v.oneCell' = true)
  (hc : ∀ j,j < (Builtin.zeroCells z.cells n).toList.length → (w.cell? ⟨b,o + j,none⟩).isSome = true) (hf : ∀ j,w.frozen? ⟨b,o + j,none⟩ = false) :
  (Builtin.clear_ #[54] ty #[.slice (some ⟨b,o,none⟩) n c]).run Tryz.prog w = .ok (.tuple #[]) (w.setCells b o (Builtin.zeroCells z.cells n).toList):=by
 have hst:=run_storeCells_cells (P:=Tryz.prog) b o (Builtin.zeroCells z.cells n).toList 0 w (by simpa using hc) (fun j _ => by simpa using hf j) h1
 simp only [Nat.add_zero] at hst
 obtain ⟨m,rfl⟩ : ∃ m,n = m + 1:=⟨n - 1,by omega⟩
 simp [Builtin.clear_,run_underlying Tryz.underlying54,hv,hst]
set_option maxRecDepth 1000000 in
theorem delete_walkP (g n cap i j : Nat) (us : List Value) (t : TypeId) (w : World) (zv : Value) (zc : List Value) (hv : ∀ w,(zeroValue 41).run Tryz.prog w = .ok zv w) (hzc : (Builtin.zeroCells zv.cells (n - (i + (n - j)))).toList = zc) (hzl : zc.length = (j - i) * 1) (hz1 : ∀ v ∈ zc,v.oneCell' = true)
  (hg : w.heap[g]? = some (.cells us.toArray t (0,0))) (hl : n * 1 ≤ us.length) (hcap : n ≤ cap) (hm : cap ≤ 9223372036854775807) (hij : i < j) (hj : j ≤ n) (h1 : ∀ v ∈ us.take (n * 1),v.oneCell' = true) :
  Calls Tryz.prog 66 #[.slice (some ⟨g,0,none⟩) n cap,.int .i64 i,.int .i64 j] w fun e w' =>
   e = .returned (.slice (some ⟨g,0,none⟩) (n - (j - i)) cap) ∧ w' = ((w.drew.setCells g (0 + i * 1) ((us.take (n * 1)).drop (j * 1))).setCells g ((i + (n - j))) zc):=by
 have mixed : Tryz.prog.follows .mixedOrders = true:=by kernel_rfl
 obtain ⟨i0,hi0,hz⟩:=Option.map_eq_some_iff.1 infoCP
 have hne : ¬ (i = j):=by omega
 obtain ⟨news,hnews⟩ : ∃ news,news = (us.take (n * 1)).drop (j * 1):=⟨_,rfl⟩
 have hlen : news.length = (n - j) * 1:=by rw [hnews,List.length_drop,List.length_take]; omega
 have hcell : ∀ k,w.cell? ⟨g,k,none⟩ = us[k]?:=fun k => by rw [cell_of_row w g k us.toArray t (0,0) hg]; simp
 have hget : ∀ k u,news[k]? = some u → us[j * 1 + k]? = some u:=fun k u hu => by
  rw [hnews,List.getElem?_drop,List.getElem?_take] at hu
  split at hu
  ·exact hu
  ·cases hu
 obtain ⟨A,hA,hsrc⟩ : ∃ A : Addr,(if cap = j then (some (⟨g,0,none⟩ : Addr)) else some ⟨g,j,none⟩) = some A ∧ Hid (∀ k u,news[k]? = some u → w.drew.cell? (A.add k) = some u):=by
  by_cases h : cap = j
  ·refine ⟨⟨g,0,none⟩,by simp [h],fun k u hu => ?_⟩
   have h0 : news.length = 0:=by rw [hlen]; omega
   rw [List.length_eq_zero_iff.1 h0] at hu
   simp at hu
  ·refine ⟨⟨g,j,none⟩,by simp [h],fun k u hu => ?_⟩
   rw [Addr.add_lit]
   exact (hcell _).trans (by rw [← hget k u hu,Nat.mul_one])
 have s1 : Hid (news.length = (n - j) * 1):=hlen
 have s2 : Hid (∀ u ∈ news,u.oneCell' = true):=fun u hu => h1 u (List.mem_of_mem_drop (hnews ▸ hu))
 have s3 : Hid (∀ k,k < news.length → (w.drew.cell? ⟨g,0 + i * 1 + k,none⟩).isSome = true ∧ w.drew.frozen? ⟨g,0 + i * 1 + k,none⟩ = false):=fun k hk => by
  rw [hlen] at hk
  refine ⟨?_,frozen_of_row w g _ us.toArray t hg⟩
  show (w.cell? _).isSome = true
  rw [hcell,List.getElem?_eq_getElem (by omega)]; rfl
 obtain ⟨W1,hW1⟩ : ∃ W1,W1 = w.drew.setCells g (0 + i * 1) news:=⟨_,rfl⟩
 have hcl : ∀ ty,(Builtin.clear_ #[54] ty #[.slice (some ⟨g,(i + (n - j)),none⟩) (n - (i + (n - j))) (cap - (i + (n - j)))]).run Tryz.prog W1 = .ok (.tuple #[]) (W1.setCells g ((i + (n - j))) zc):=fun ty => by
  have:=run_clearCP W1 ty zv hv g ((i + (n - j))) (n - (i + (n - j))) (cap - (i + (n - j))) (by omega) (by rw [hzc]; exact hz1) (fun k hk => by
   rw [hzc,hzl] at hk
   rw [hW1]
   refine isSome_setCells g news (0 + i * 1) w.drew (fun k hk => (s3 k hk).1) _ ?_
   show (w.cell? _).isSome = true
   rw [hcell,List.getElem?_eq_getElem (by omega)]; rfl) (fun k => by
   rw [hW1,World.frozen?_setCells]
   exact frozen_of_row w g _ us.toArray t hg)
  rw [hzc] at this
  exact this
 have hW : Hid (W1 = w.drew.setCells g (0 + i * 1) news):=hW1
 have hic : i ≤ cap:=by omega
 have hjc : j ≤ cap:=by omega
 have hin : i ≤ n:=by omega
 rw [← hnews,← hW1]
 clear hW1 hget hnews hlen hcell hg hl h1 hzc hzl hz1
 go_enter Tryz.func66,Tryz.ntmps66
 go_wp2_with fail
 go_region_law_o (refine step_append_room rfl (.tmp 22) (.tmp 25) 54 rfl 41 i0 1 Tryz.underlying54 hi0 hz g 0 i cap (by simp [Act.eval,Act.put]) A (n - j) (cap - j) news (by simp [Act.eval,Act.put,hA]) s1.out hsrc.out s2.out (by omega) s3.out ?_; rw [← hW.out])
 go_wp2
 go_ret
 exact ⟨by rw [show n - (j - i) = i + (n - j) by omega]; rfl,rfl⟩
theorem zeroCP : ∃ zv : Value,(∀ w,(zeroValue 41).run Tryz.prog w = .ok zv w) ∧ (Builtin.zeroCells zv.cells 1).toList.length = 1 ∧ ∀ v ∈ (Builtin.zeroCells zv.cells 1).toList,v.oneCell' = true:=by
 refine ⟨_,Tryz.zeroValue41,by decide +kernel,?_⟩
 intro v hv
 have : (Builtin.zeroCells (Value.slice none 0 0).cells 1).toList.all (fun v => v.oneCell') = true:=by decide +kernel
 exact List.all_eq_true.1 this v hv
theorem delete_toldP (es : List D) (i : Nat) (hi : i < es.length) : ToldU Tryz.prog 66 [vI i,vI ((i : Int) + 1)] 1 es (es.take i ++ es.drop (i + 1)):=by
 intro w I vs g us t cap hv hlt hg hel hnI hcap hm
 obtain ⟨x,y,rfl⟩ : ∃ x y,vs = [x,y]:=by
  match vs,hv.1 with
  | [x,y],_ => exact ⟨x,y,rfl⟩
  | [],q => simp at q
  | [_],q => simp at q
  | _ :: _ :: _ :: _,q => simp at q
 have hx : x = .int .i64 i:=((hv.2 0 _ _ rfl rfl).leaf (fun cs e => by cases e)).invV.1
 have hy : y = .int .i64 ((i : Int) + 1):=((hv.2 1 _ _ rfl rfl).leaf (fun cs e => by cases e)).invV.1
 subst hx hy
 obtain ⟨zv,hzv,hz6,hz1⟩:=zeroCP
 have hn:=hel.2.1
 have hcell : ∀ k,k < es.length * 1 → ∃ l u,us[k]? = some u ∧ CRep I w l u:=fun k hk => by
  have h1 : k / 1 < es.length:=by omega
  have h2 : k % 1 < 1:=Nat.mod_lt _ (by omega)
  have h3 : (cellsD es[k / 1]).length = 1:=hel.1 _ (List.getElem_mem h1)
  obtain ⟨u,q1,q2⟩:=hel.2.2 (k / 1) (k % 1) es[k / 1] (cellsD es[k / 1])[k % 1] (List.getElem?_eq_getElem h1) (List.getElem?_eq_getElem (by omega))
  exact ⟨_,u,by rw [show k / 1 * 1 + k % 1 = k by omega] at q1; exact q1,q2⟩
 have h1 : ∀ v ∈ us.take (es.length * 1),v.oneCell' = true:=fun v hv => by
  obtain ⟨k,hk,rfl⟩:=List.mem_iff_getElem.1 hv
  rw [List.length_take] at hk
  obtain ⟨l,u,q1,q2⟩:=hcell k (by omega)
  rw [List.getElem_take]
  rw [List.getElem?_eq_getElem (by omega)] at q1
  rw [Option.some.inj q1]
  exact q2.one.1
 have e1 : es.length - (i + (es.length - (i + 1))) = 1:=by omega
 refine (delete_walkP g es.length cap i (i + 1) us t w zv _ hzv (by rw [e1]) (by rw [hz6]; omega) hz1 hg hn hcap (by unfold maxLen at hm; omega) (by omega) (by omega) h1).mono fun e w' ⟨he,hw⟩ => ?_
 obtain ⟨zc,hzc⟩ : ∃ zc,zc = (Builtin.zeroCells zv.cells 1).toList:=⟨_,rfl⟩
 rw [← hzc] at hw hz6 hz1
 obtain ⟨news,hnews⟩ : ∃ news,news = (us.take (es.length * 1)).drop ((i + 1) * 1):=⟨_,rfl⟩
 rw [← hnews] at hw
 have hnl : news.length = (es.length - (i + 1)) * 1:=by rw [hnews,List.length_drop,List.length_take]; omega
 have hg' : w.drew.heap[g]? = some (.cells us.toArray t (0,0)):=hg
 have r1:=setCells_row (o:=0 + i * 1) (vs:=news) hg' (by omega) (fun v hv => h1 v (List.mem_of_mem_drop (hnews ▸ hv)))
 rw [r1] at hw
 have hg1:=setRow_heap w.drew g us.toArray (over us (0 + i * 1) news).toArray t (0,0) hg'
 have hol : (over us (0 + i * 1) news).length = us.length:=over_len (by omega)
 have r2:=setCells_row (o:=(i + (es.length - (i + 1)))) (vs:=zc) hg1 (by omega) hz1
 rw [r2] at hw
 have hg2:=setRow_heap (w.drew.setRow g (over us (0 + i * 1) news).toArray) g _ (over (over us (0 + i * 1) news) ((i + (es.length - (i + 1)))) zc).toArray t (0,0) hg1
 rw [← hw] at hg2
 have hel' : (es.take i ++ es.drop (i + 1)).length = es.length - 1:=by simp; omega
 have hblk : ∀ k,k ≠ g → w'.heap[k]? = w.heap[k]?:=fun k hk => by
  rw [hw,setRow_other _ _ _ _ hk,setRow_other _ _ _ _ hk]; rfl
 have hsz : w'.heap.size = w.heap.size:=by rw [hw,setRow_size,setRow_size]; rfl
 refine ⟨by rw [he,hel']; congr 2; omega,⟨by rw [hw]; rfl,by rw [hw]; rfl,by rw [hw]; rfl,by omega,fun k _ hk => hblk k (fun e => hk (by rw [e]))⟩,_,hg2,?_,by omega⟩
 have hcl : ∀ b j,I b j → w'.cell? ⟨b,j,none⟩ = w.cell? ⟨b,j,none⟩:=fun b j hj => World.cell?_of_block (a:=⟨b,j,none⟩) (hblk b (fun e => hnI j (e ▸ hj)))
 refine ⟨fun e he => ?_,?_,fun k j e l hk hj => ?_⟩
 ·rcases List.mem_append.1 he with q | q
  ·exact hel.1 e (List.mem_of_mem_take q)
  ·exact hel.1 e (List.mem_of_mem_drop q)
 ·rw [over_len (by omega),hol,hel']; omega
 ·have hj6 : j < 1:=by
   have h2 : (cellsD e).length = 1:=by
    rcases List.mem_append.1 (List.mem_of_getElem? hk) with q | q
    ·exact hel.1 e (List.mem_of_mem_take q)
    ·exact hel.1 e (List.mem_of_mem_drop q)
   have:=(List.getElem?_eq_some_iff.1 hj).1
   omega
  have hkl : k < es.length - 1:=by have:=(List.getElem?_eq_some_iff.1 hk).1; omega
  rw [over_out (by omega) (.inl (by omega))]
  by_cases hki : k < i
  ·rw [List.getElem?_append_left (by rw [List.length_take]; omega),List.getElem?_take,if_pos hki] at hk
   obtain ⟨u,q1,q2⟩:=hel.2.2 k j e l hk hj
   exact ⟨u,by rw [over_out (by omega) (.inl (by omega))]; exact q1,q2.keep (fun _ _ h => h) hcl⟩
  ·rw [List.getElem?_append_right (by rw [List.length_take]; omega),List.length_take,Nat.min_eq_left (by omega),List.getElem?_drop] at hk
   obtain ⟨u,q1,q2⟩:=hel.2.2 (i + 1 + (k - i)) j e l hk hj
   refine ⟨u,?_,q2.keep (fun _ _ h => h) hcl⟩
   have hin : k * 1 + j - i * 1 < news.length:=by omega
   have h4:=over_in (cs:=us) (ds:=news) (off:=0 + i * 1) (j:=k * 1 + j - i * 1) (by omega) hin
   rw [show 0 + i * 1 + (k * 1 + j - i * 1) = k * 1 + j by omega] at h4
   rw [h4,hnews,List.getElem?_drop,List.getElem?_take,if_pos (by omega),← q1]
   congr 1
   omega
open mth
theorem pk_ne {p : List (List UInt8)} {n : Nat} (h : n < p.length) : encPk p ≠ []:=by
 intro e; have:=congrArg List.length e; simp [encPk] at this; subst this; simp at h
theorem cut_pk (p : List (List UInt8)) (n : Nat) : (encPk p).take n ++ (encPk p).drop (n + 1) = encPk (cutP p n):=by
 simp [encPk,cutP,List.map_take,List.map_drop]
theorem no_has {p : List (List UInt8)} {n : Int} (h : n < 0 ∨ (p.length : Int) ≤ n) : decide (0 ≤ n ∧ n < ((encPk p).length : Int)) = false:=by
 rw [len_pk]; exact decide_eq_false (by omega)
theorem yes_has {p : List (List UInt8)} {n : Nat} (h : n < p.length) : decide (0 ≤ (n : Int) ∧ (n : Int) < ((encPk p).length : Int)) = true:=by
 rw [len_pk]; exact decide_eq_true (by omega)
theorem lose_none (l : Ln) (n : Int) (back : Bool) (hg : GoodL l) (hn : n < 0 ∨ ((wayP l back).length : Int) ≤ n) : Told Tryz.prog 45 [aD (encLn l),vI n,vB back] [aD (encLn l),vI 6]:=by
 refine told_lane_Lose rfl ?_
 have h1:=ToldX.of (landL_own l hg)
 have h2:=way_toldP back
 have h3:=hasP_told (encPk (wayP l back)) n
 rw [no_has hn] at h3
 simp only [encLn] at h1 ⊢
 refine wk0 ?_
 refine ⟨3,_,_,[],[],_,[],⟨rfl,rfl,rfl,rfl,row_refl _,fun x hx => by cases hx⟩,rfl,h1,rfl,List.nodup_nil,?_⟩
 simp only [preP,preOff,flOf,List.map_nil,List.nil_append]
 refine wk0 ?_
 refine ⟨_,fun _ _ _ _ _ _ h => h,?_⟩
 cases back with
 | true =>
  simp only [wayP,if_true] at h2 h3
  refine cg0 [[mP 0 16]] ?_ ?_
  ·exact obl_adr h2 obl_nil
  refine wk0 ?_
  refine cg [[vB false]] Bool.not_false ?_ ?_
  ·exact obl_cons h3 obl_nil
  refine wk Bool.not_false ?_
  exact ValsLe.refl _
 | false =>
  simp only [wayP,Bool.false_eq_true,if_false] at h2 h3
  refine cg0 [[mP 0 15]] ?_ ?_
  ·exact obl_adr h2 obl_nil
  refine wk0 ?_
  refine cg [[vB false]] Bool.not_false ?_ ?_
  ·exact obl_cons h3 obl_nil
  refine wk Bool.not_false ?_
  exact ValsLe.refl _
theorem lose_one (l : Ln) (n : Nat) (back : Bool) (hg : GoodL l) (hn : n < (wayP l back).length) : Told Tryz.prog 45 [aD (encLn l),vI n,vB back] [aD (encLn (withP l back (cutP (wayP l back) n))),vI 0]:=by
 refine told_lane_Lose rfl ?_
 have h1:=landL_ownX l hg
 have h2:=way_toldP back
 have h3:=hasP_told (encPk (wayP l back)) n
 rw [yes_has hn] at h3
 have h4:=delete_toldP (encPk (wayP l back)) n (by rw [len_pk]; exact hn)
 rw [cut_pk] at h4
 have hw:=(hg.way back).1
 have k1 : inR .i64 ((n : Int) + 1) = true:=inR_of (by omega)
 simp only [encLn,ownLn,rowsL] at h1 ⊢
 refine wk0 ?_
 refine ⟨3,_,_,[],[],_,_,⟨rfl,rfl,rfl,rfl,row_refl _,fun x hx => by cases hx⟩,rfl,h1,rfl,by show [15,16].Nodup; decide,?_⟩
 simp only [preP,preOff,flOf,List.map_cons,List.map_nil,List.cons_append,List.nil_append]
 refine wk0 ?_
 cases back with
 | true =>
  simp only [wayP,withP,if_true] at h2 h3 h4 hn hw ⊢
  refine ⟨_,fun b0 w0 I0 N a w hr => le_lane16 (b:=3) (by decide) (pk_ne hn) rfl b0 w0 I0 N a w hr,?_⟩
  refine cg [[mP 0 16]] @len_pk ?_ ?_
  ·exact obl_adr h2 obl_nil
  refine wk0 ?_
  refine cg [[vB true]] (an2 Bool.not_true @len_pk) ?_ ?_
  ·exact obl_cons h3 obl_nil
  refine wk (an3 Bool.not_true @k1 @len_pk) ?_
  refine cg [[sD 1 (encPk (cutP l.back n))]] (an2 @k1 @len_pk) ?_ ?_
  ·exact obl_updL h4 obl_nil
  refine wk0 ?_
  exact ValsLe.refl _
 | false =>
  simp only [wayP,withP,Bool.false_eq_true,if_false] at h2 h3 h4 hn hw ⊢
  refine ⟨_,fun b0 w0 I0 N a w hr => le_lane15 (b:=3) (by decide) (pk_ne hn) rfl b0 w0 I0 N a w hr,?_⟩
  refine cg [[mP 0 15]] @len_pk ?_ ?_
  ·exact obl_adr h2 obl_nil
  refine wk0 ?_
  refine cg [[vB true]] (an2 Bool.not_true @len_pk) ?_ ?_
  ·exact obl_cons h3 obl_nil
  refine wk (an3 Bool.not_true @k1 @len_pk) ?_
  refine cg [[sD 1 (encPk (cutP l.there n))]] (an2 @k1 @len_pk) ?_ ?_
  ·exact obl_updL h4 obl_nil
  refine wk0 ?_
  exact ValsLe.refl _
theorem landL_lose : CLStep 45 4:=by
 intro l n back hg
 unfold packetL
 by_cases hn : n < 0 ∨ ((wayP l back).length : Int) ≤ n
 ·rw [if_pos hn]
  exact lose_none l n back hg hn
 ·rw [if_neg hn,if_pos rfl]
  obtain ⟨m,rfl⟩ : ∃ m : Nat,n = m:=⟨n.toNat,by omega⟩
  rw [Int.toNat_natCast]
  exact lose_one l m back hg (by omega)
theorem obl_innL {P : Program} {f i e z : Nat} {cs r : List D} {c : D} {l : List (Nat × List D × List D)} (h : ToldI P f cs i none e (z,unC c) r) (hl : Obl P l) : Obl P ((f,cs,mI i e z c :: r) :: l):=⟨⟨cs,ValsLe.refl _,h⟩,hl⟩
theorem twice_none (l : Ln) (n : Int) (back : Bool) (hg : GoodL l) (hn : n < 0 ∨ ((wayP l back).length : Int) ≤ n) : Told Tryz.prog 46 [aD (encLn l),vI n,vB back] [aD (encLn l),vI 6]:=by
 refine told_lane_Twice rfl ?_
 have h1:=ToldX.of (landL_own l hg)
 have h2:=way_toldP back
 have h3:=hasP_told (encPk (wayP l back)) n
 rw [no_has hn] at h3
 simp only [encLn] at h1 ⊢
 refine wk0 ?_
 refine ⟨3,_,_,[],[],_,[],⟨rfl,rfl,rfl,rfl,row_refl _,fun x hx => by cases hx⟩,rfl,h1,rfl,List.nodup_nil,?_⟩
 simp only [preP,preOff,flOf,List.map_nil,List.nil_append]
 refine wk0 ?_
 refine ⟨_,fun _ _ _ _ _ _ h => h,?_⟩
 cases back with
 | true =>
  simp only [wayP,if_true] at h2 h3
  refine cg0 [[mP 0 16]] ?_ ?_
  ·exact obl_adr h2 obl_nil
  refine wk0 ?_
  refine cg [[vB false]] Bool.not_false ?_ ?_
  ·exact obl_cons h3 obl_nil
  refine wk Bool.not_false ?_
  exact ValsLe.refl _
 | false =>
  simp only [wayP,Bool.false_eq_true,if_false] at h2 h3
  refine cg0 [[mP 0 15]] ?_ ?_
  ·exact obl_adr h2 obl_nil
  refine wk0 ?_
  refine cg [[vB false]] Bool.not_false ?_ ?_
  ·exact obl_cons h3 obl_nil
  refine wk Bool.not_false ?_
  exact ValsLe.refl _
theorem twice_one (l : Ln) (n : Nat) (back : Bool) (hg : GoodL l) (x : List UInt8) (hx : (wayP l back)[n]? = some x) : Told Tryz.prog 46 [aD (encLn l),vI n,vB back] [aD (encLn (withP l back (joinP (wayP l back) x))),vI 0]:=by
 refine told_lane_Twice rfl ?_
 have hn : n < (wayP l back).length:=(List.getElem?_eq_some_iff.1 hx).1
 have h1:=landL_ownX l hg
 have h2:=way_toldP back
 have h3:=hasP_told (encPk (wayP l back)) n
 rw [yes_has hn] at h3
 have h4:=join_toldI (wayP l back) x
 have hxl:=(hg.way back).2 x (List.mem_of_getElem? hx)
 have h5:=cloneL_told x (by omega)
 have g4:=at_pk hx
 have k2 : (0 : Int) ≤ (n : Int):=by omega
 have k3 : (n : Int) < (((wayP l back).length : Nat) : Int):=by omega
 simp only [encLn,ownLn,rowsL] at h1 ⊢
 refine wk0 ?_
 refine ⟨3,_,_,[],[],_,_,⟨rfl,rfl,rfl,rfl,row_refl _,fun x hx => by cases hx⟩,rfl,h1,rfl,by show [15,16].Nodup; decide,?_⟩
 simp only [preP,preOff,flOf,List.map_cons,List.map_nil,List.cons_append,List.nil_append]
 refine wk0 ?_
 refine ⟨_,fun b0 w0 I0 N a w hr => le_laneN (b:=3) (by decide) b0 w0 I0 N a w hr,?_⟩
 cases back with
 | true =>
  simp only [wayP,withP,if_true] at h2 h3 h4 hn g4 k3 ⊢
  refine cg [[mP 0 16]] @len_pk ?_ ?_
  ·exact obl_adr h2 obl_nil
  refine wk0 ?_
  refine cg [[vB true]] (an2 Bool.not_true @len_pk) ?_ ?_
  ·exact obl_cons h3 obl_nil
  refine wk (an2 Bool.not_true @len_pk) ?_
  refine cd [[sD 1 (x.map encB)],[mI 0 41 1 xD,sD 1 (encPk (joinP l.back x))]] (an5 @g4 @k2 @k3 @len_pk @Int.toNat_natCast) ?_ ?_
  ·exact obl_cons h5 (obl_innL h4 obl_nil)
  refine wk0 ?_
  exact ValsLe.refl _
 | false =>
  simp only [wayP,withP,Bool.false_eq_true,if_false] at h2 h3 h4 hn g4 k3 ⊢
  refine cg [[mP 0 15]] @len_pk ?_ ?_
  ·exact obl_adr h2 obl_nil
  refine wk0 ?_
  refine cg [[vB true]] (an2 Bool.not_true @len_pk) ?_ ?_
  ·exact obl_cons h3 obl_nil
  refine wk (an2 Bool.not_true @len_pk) ?_
  refine cd [[sD 1 (x.map encB)],[mI 0 41 1 xD,sD 1 (encPk (joinP l.there x))]] (an5 @g4 @k2 @k3 @len_pk @Int.toNat_natCast) ?_ ?_
  ·exact obl_cons h5 (obl_innL h4 obl_nil)
  refine wk0 ?_
  exact ValsLe.refl _
theorem landL_twice : CLStep 46 5:=by
 intro l n back hg
 unfold packetL
 by_cases hn : n < 0 ∨ ((wayP l back).length : Int) ≤ n
 ·rw [if_pos hn]
  exact twice_none l n back hg hn
 ·rw [if_neg hn,if_neg (by decide),if_pos rfl]
  obtain ⟨m,rfl⟩ : ∃ m : Nat,n = m:=⟨n.toNat,by omega⟩
  obtain ⟨x,hx⟩ : ∃ x,(wayP l back)[m]? = some x:=⟨_,List.getElem?_eq_getElem (by omega)⟩
  have e0 : (wayP l back).getD m [] = x:=by rw [List.getD_eq_getElem?_getD,hx]; rfl
  rw [Int.toNat_natCast,e0]
  exact twice_one l m back hg x hx
end Go.Proofs.YtgaofjiidedcbacGreat.ab
