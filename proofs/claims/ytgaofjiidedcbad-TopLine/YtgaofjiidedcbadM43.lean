import Derived.Test.YtgaofjiidedcbadM42
import Derived.WalkKit
import Derived.Deep.LoopGhost
import Derived.Deep.RegionLaw
import Derived.Shelf.RegionOpenPlain
import Derived.Lib.Walk
import Derived.Sort.WalkB12
import Derived.Lib.SliceRun
import Derived.Test.YtgaofjiidedcbadM38
import Derived.Test.YtgaofjiidedcbadM40
set_option maxHeartbeats 8000000
set_option linter.unusedVariables false
set_option linter.unusedSimpArgs false
namespace Go.Proofs.Ytgaofjiidedcbad.ab
open Go Go.RowKit Go.Lib Go.Sort Go.Shelf
theorem infoC : (Try.prog.info? 97).map (fun i => i.size) = some 6:=by kernel_rfl
theorem run_clearC (w : World) (ty : TypeId) (z : Value) (hv : ∀ w,(zeroValue 97).run Try.prog w = .ok z w) (b o n c : Nat) (hn : 0 < n) (h1 : ∀ v ∈ (Builtin.zeroCells z.cells n).toList,v.oneCell' = true)
  (hc : ∀ j,j < (Builtin.zeroCells z.cells n).toList.length → (w.cell? ⟨b,o + j,none⟩).isSome = true) (hf : ∀ j,w.frozen? ⟨b,o + j,none⟩ = false) :
  (Builtin.clear_ #[43] ty #[.slice (some ⟨b,o,none⟩) n c]).run Try.prog w = .ok (.tuple #[]) (w.setCells b o (Builtin.zeroCells z.cells n).toList):=by
 have hst:=run_storeCells_cells (P:=Try.prog) b o (Builtin.zeroCells z.cells n).toList 0 w (by simpa using hc) (fun j _ => by simpa using hf j) h1
 simp only [Nat.add_zero] at hst
 obtain ⟨m,rfl⟩ : ∃ m,n = m + 1:=⟨n - 1,by omega⟩
 simp [Builtin.clear_,run_underlying Try.underlying43,hv,hst]
set_option maxRecDepth 1000000 in
theorem delete_walk (g n cap i j : Nat) (us : List Value) (t : TypeId) (w : World) (zv : Value) (zc : List Value) (hv : ∀ w,(zeroValue 97).run Try.prog w = .ok zv w) (hzc : (Builtin.zeroCells zv.cells (n - (i + (n - j)))).toList = zc) (hzl : zc.length = (j - i) * 6) (hz1 : ∀ v ∈ zc,v.oneCell' = true)
  (hg : w.heap[g]? = some (.cells us.toArray t (0,0))) (hl : n * 6 ≤ us.length) (hcap : n ≤ cap) (hm : cap ≤ 9223372036854775807) (hij : i < j) (hj : j ≤ n) (h1 : ∀ v ∈ us.take (n * 6),v.oneCell' = true) :
  Calls Try.prog 84 #[.slice (some ⟨g,0,none⟩) n cap,.int .i64 i,.int .i64 j] w fun e w' =>
   e = .returned (.slice (some ⟨g,0,none⟩) (n - (j - i)) cap) ∧ w' = ((w.drew.setCells g (0 + i * 6) ((us.take (n * 6)).drop (j * 6))).setCells g ((i + (n - j)) * 6) zc):=by
 have mixed : Try.prog.follows .mixedOrders = true:=by kernel_rfl
 obtain ⟨i0,hi0,hz⟩:=Option.map_eq_some_iff.1 infoC
 have hne : ¬ (i = j):=by omega
 obtain ⟨news,hnews⟩ : ∃ news,news = (us.take (n * 6)).drop (j * 6):=⟨_,rfl⟩
 have hlen : news.length = (n - j) * 6:=by rw [hnews,List.length_drop,List.length_take]; omega
 have hcell : ∀ k,w.cell? ⟨g,k,none⟩ = us[k]?:=fun k => by rw [cell_of_row w g k us.toArray t (0,0) hg]; simp
 have hget : ∀ k u,news[k]? = some u → us[j * 6 + k]? = some u:=fun k u hu => by
  rw [hnews,List.getElem?_drop,List.getElem?_take] at hu
  split at hu
  ·exact hu
  ·cases hu
 obtain ⟨A,hA,hsrc⟩ : ∃ A : Addr,(if cap = j then (some (⟨g,0,none⟩ : Addr)) else some ⟨g,j * 6,none⟩) = some A ∧ Hid (∀ k u,news[k]? = some u → w.drew.cell? (A.add k) = some u):=by
  by_cases h : cap = j
  ·refine ⟨⟨g,0,none⟩,by simp [h],fun k u hu => ?_⟩
   have h0 : news.length = 0:=by rw [hlen]; omega
   rw [List.length_eq_zero_iff.1 h0] at hu
   simp at hu
  ·refine ⟨⟨g,j * 6,none⟩,by simp [h],fun k u hu => ?_⟩
   rw [Addr.add_lit]
   exact (hcell _).trans (hget k u hu)
 have s1 : Hid (news.length = (n - j) * 6):=hlen
 have s2 : Hid (∀ u ∈ news,u.oneCell' = true):=fun u hu => h1 u (List.mem_of_mem_drop (hnews ▸ hu))
 have s3 : Hid (∀ k,k < news.length → (w.drew.cell? ⟨g,0 + i * 6 + k,none⟩).isSome = true ∧ w.drew.frozen? ⟨g,0 + i * 6 + k,none⟩ = false):=fun k hk => by
  rw [hlen] at hk
  refine ⟨?_,frozen_of_row w g _ us.toArray t hg⟩
  show (w.cell? _).isSome = true
  rw [hcell,List.getElem?_eq_getElem (by omega)]; rfl
 obtain ⟨W1,hW1⟩ : ∃ W1,W1 = w.drew.setCells g (0 + i * 6) news:=⟨_,rfl⟩
 have hcl : ∀ ty,(Builtin.clear_ #[43] ty #[.slice (some ⟨g,(i + (n - j)) * 6,none⟩) (n - (i + (n - j))) (cap - (i + (n - j)))]).run Try.prog W1 = .ok (.tuple #[]) (W1.setCells g ((i + (n - j)) * 6) zc):=fun ty => by
  have:=run_clearC W1 ty zv hv g ((i + (n - j)) * 6) (n - (i + (n - j))) (cap - (i + (n - j))) (by omega) (by rw [hzc]; exact hz1) (fun k hk => by
   rw [hzc,hzl] at hk
   rw [hW1]
   refine isSome_setCells g news (0 + i * 6) w.drew (fun k hk => (s3 k hk).1) _ ?_
   show (w.cell? _).isSome = true
   rw [hcell,List.getElem?_eq_getElem (by omega)]; rfl) (fun k => by
   rw [hW1,World.frozen?_setCells]
   exact frozen_of_row w g _ us.toArray t hg)
  rw [hzc] at this
  exact this
 have hW : Hid (W1 = w.drew.setCells g (0 + i * 6) news):=hW1
 have hic : i ≤ cap:=by omega
 have hjc : j ≤ cap:=by omega
 have hin : i ≤ n:=by omega
 rw [← hnews,← hW1]
 clear hW1 hget hnews hlen hcell hg hl h1 hzc hzl hz1
 go_enter Try.func84,Try.ntmps84
 go_wp2_with fail
 go_region_law_o (refine step_append_room rfl (.tmp 22) (.tmp 25) 43 rfl 97 i0 6 Try.underlying43 hi0 hz g 0 i cap (by simp [Act.eval,Act.put]) A (n - j) (cap - j) news (by simp [Act.eval,Act.put,hA]) s1.out hsrc.out s2.out (by omega) s3.out ?_; rw [← hW.out])
 go_wp2
 go_ret
 exact ⟨by rw [show n - (j - i) = i + (n - j) by omega]; rfl,rfl⟩
theorem setCells_row {w : World} {g o : Nat} {us vs : List Value} {t : TypeId} (hg : w.heap[g]? = some (.cells us.toArray t (0,0))) (hl : o + vs.length ≤ us.length) (h1 : ∀ v ∈ vs,v.oneCell' = true) : w.setCells g o vs = w.setRow g (over us o vs).toArray:=by
 have e1:=run_storeCells_at (P:=Try.prog) g o t vs 0 us.toArray w hg (by simpa using hl) h1
 have e2:=run_storeCells_cells (P:=Try.prog) g o vs 0 w (fun j hj => by
  rw [cell_of_row w g _ us.toArray t (0,0) hg,List.getElem?_toArray,List.getElem?_eq_getElem (by omega)]; rfl) (fun j hj => frozen_of_row w g _ us.toArray t hg) h1
 rw [e2] at e1
 have e3:=(Result.ok.injEq .. ▸ e1 : _ ∧ _).2
 rw [Nat.add_zero] at e3
 rw [e3]
 simp [over]
theorem zeroCC : ∃ zv : Value,(∀ w,(zeroValue 97).run Try.prog w = .ok zv w) ∧ (Builtin.zeroCells zv.cells 1).toList.length = 6 ∧ ∀ v ∈ (Builtin.zeroCells zv.cells 1).toList,v.oneCell' = true:=by
 refine ⟨_,Try.zeroValue97,by decide +kernel,?_⟩
 intro v hv
 have : (Builtin.zeroCells (Value.agg #[.int .i64 0,.int .i64 0,.int .i64 0,.int .i64 0,.slice none 0 0,.slice none 0 0]).cells 1).toList.all (fun v => v.oneCell') = true:=by decide +kernel
 exact List.all_eq_true.1 this v hv
theorem delete_told (es : List D) (i : Nat) (hi : i < es.length) : ToldU Try.prog 84 [vI i,vI ((i : Int) + 1)] 6 es (es.take i ++ es.drop (i + 1)):=by
 intro w I vs g us t cap hv hlt hg hel hnI hcap hm
 obtain ⟨x,y,rfl⟩ : ∃ x y,vs = [x,y]:=by
  match vs,hv.1 with
  | [x,y],_ => exact ⟨x,y,rfl⟩
  | [],q => simp at q
  | [_],q => simp at q
  | _ :: _ :: _ :: _,q => simp at q
 have hx : x = .int .i64 i:=((hv.2 0 _ _ rfl rfl).leaf (fun cs e => by cases e)).invV.1
 have hy : y = .int .i64 ((i : Int) + 1):=((hv.2 1 _ _ rfl rfl).leaf (fun cs e => by cases e)).invV.1
 subst hx hy
 obtain ⟨zv,hzv,hz6,hz1⟩:=zeroCC
 have hn:=hel.2.1
 have hcell : ∀ k,k < es.length * 6 → ∃ l u,us[k]? = some u ∧ CRep I w l u:=fun k hk => by
  have h1 : k / 6 < es.length:=by omega
  have h2 : k % 6 < 6:=Nat.mod_lt _ (by omega)
  have h3 : (cellsD es[k / 6]).length = 6:=hel.1 _ (List.getElem_mem h1)
  obtain ⟨u,q1,q2⟩:=hel.2.2 (k / 6) (k % 6) es[k / 6] (cellsD es[k / 6])[k % 6] (List.getElem?_eq_getElem h1) (List.getElem?_eq_getElem (by omega))
  exact ⟨_,u,by rw [show k / 6 * 6 + k % 6 = k by omega] at q1; exact q1,q2⟩
 have h1 : ∀ v ∈ us.take (es.length * 6),v.oneCell' = true:=fun v hv => by
  obtain ⟨k,hk,rfl⟩:=List.mem_iff_getElem.1 hv
  rw [List.length_take] at hk
  obtain ⟨l,u,q1,q2⟩:=hcell k (by omega)
  rw [List.getElem_take]
  rw [List.getElem?_eq_getElem (by omega)] at q1
  rw [Option.some.inj q1]
  exact q2.one.1
 have e1 : es.length - (i + (es.length - (i + 1))) = 1:=by omega
 refine (delete_walk g es.length cap i (i + 1) us t w zv _ hzv (by rw [e1]) (by rw [hz6]; omega) hz1 hg hn hcap (by unfold maxLen at hm; omega) (by omega) (by omega) h1).mono fun e w' ⟨he,hw⟩ => ?_
 obtain ⟨zc,hzc⟩ : ∃ zc,zc = (Builtin.zeroCells zv.cells 1).toList:=⟨_,rfl⟩
 rw [← hzc] at hw hz6 hz1
 obtain ⟨news,hnews⟩ : ∃ news,news = (us.take (es.length * 6)).drop ((i + 1) * 6):=⟨_,rfl⟩
 rw [← hnews] at hw
 have hnl : news.length = (es.length - (i + 1)) * 6:=by rw [hnews,List.length_drop,List.length_take]; omega
 have hg' : w.drew.heap[g]? = some (.cells us.toArray t (0,0)):=hg
 have r1:=setCells_row (o:=0 + i * 6) (vs:=news) hg' (by omega) (fun v hv => h1 v (List.mem_of_mem_drop (hnews ▸ hv)))
 rw [r1] at hw
 have hg1:=setRow_heap w.drew g us.toArray (over us (0 + i * 6) news).toArray t (0,0) hg'
 have hol : (over us (0 + i * 6) news).length = us.length:=over_len (by omega)
 have r2:=setCells_row (o:=(i + (es.length - (i + 1))) * 6) (vs:=zc) hg1 (by omega) hz1
 rw [r2] at hw
 have hg2:=setRow_heap (w.drew.setRow g (over us (0 + i * 6) news).toArray) g _ (over (over us (0 + i * 6) news) ((i + (es.length - (i + 1))) * 6) zc).toArray t (0,0) hg1
 rw [← hw] at hg2
 have hel' : (es.take i ++ es.drop (i + 1)).length = es.length - 1:=by simp; omega
 have hblk : ∀ k,k ≠ g → w'.heap[k]? = w.heap[k]?:=fun k hk => by
  rw [hw,setRow_other _ _ _ _ hk,setRow_other _ _ _ _ hk]; rfl
 have hsz : w'.heap.size = w.heap.size:=by rw [hw,setRow_size,setRow_size]; rfl
 refine ⟨by rw [he,hel']; congr 2; omega,⟨by rw [hw]; rfl,by rw [hw]; rfl,by rw [hw]; rfl,by omega,fun k _ hk => hblk k (fun e => hk (by rw [e]))⟩,_,hg2,?_,by omega⟩
 have hcl : ∀ b j,I b j → w'.cell? ⟨b,j,none⟩ = w.cell? ⟨b,j,none⟩:=fun b j hj => World.cell?_of_block (a:=⟨b,j,none⟩) (hblk b (fun e => hnI j (e ▸ hj)))
 refine ⟨fun e he => ?_,?_,fun k j e l hk hj => ?_⟩
 ·rcases List.mem_append.1 he with q | q
  ·exact hel.1 e (List.mem_of_mem_take q)
  ·exact hel.1 e (List.mem_of_mem_drop q)
 ·rw [over_len (by omega),hol,hel']; omega
 ·have hj6 : j < 6:=by
   have h2 : (cellsD e).length = 6:=by
    rcases List.mem_append.1 (List.mem_of_getElem? hk) with q | q
    ·exact hel.1 e (List.mem_of_mem_take q)
    ·exact hel.1 e (List.mem_of_mem_drop q)
   have:=(List.getElem?_eq_some_iff.1 hj).1
   omega
  have hkl : k < es.length - 1:=by have:=(List.getElem?_eq_some_iff.1 hk).1; omega
  rw [over_out (by omega) (.inl (by omega))]
  by_cases hki : k < i
  ·rw [List.getElem?_append_left (by rw [List.length_take]; omega),List.getElem?_take,if_pos hki] at hk
   obtain ⟨u,q1,q2⟩:=hel.2.2 k j e l hk hj
   exact ⟨u,by rw [over_out (by omega) (.inl (by omega))]; exact q1,q2.keep (fun _ _ h => h) hcl⟩
  ·rw [List.getElem?_append_right (by rw [List.length_take]; omega),List.length_take,Nat.min_eq_left (by omega),List.getElem?_drop] at hk
   obtain ⟨u,q1,q2⟩:=hel.2.2 (i + 1 + (k - i)) j e l hk hj
   refine ⟨u,?_,q2.keep (fun _ _ h => h) hcl⟩
   have hin : k * 6 + j - i * 6 < news.length:=by omega
   have h4:=over_in (cs:=us) (ds:=news) (off:=0 + i * 6) (j:=k * 6 + j - i * 6) (by omega) hin
   rw [show 0 + i * 6 + (k * 6 + j - i * 6) = k * 6 + j by omega] at h4
   rw [h4,hnews,List.getElem?_drop,List.getElem?_take,if_pos (by omega),← q1]
   congr 1
   omega
theorem infoCP : (Try.prog.info? 26).map (fun i => i.size) = some 1:=by kernel_rfl
theorem run_clearCP (w : World) (ty : TypeId) (z : Value) (hv : ∀ w,(zeroValue 26).run Try.prog w = .ok z w) (b o n c : Nat) (hn : 0 < n) (h1 : ∀ v ∈ (Builtin.zeroCells z.cells n).toList,v.oneCell' = true)
  (hc : ∀ j,j < (Builtin.zeroCells z.cells n).toList.length → (w.cell? ⟨b,o + j,none⟩).isSome = true) (hf : ∀ j,w.frozen? ⟨b,o + j,none⟩ = false) :
  (Builtin.clear_ #[49] ty #[.slice (some ⟨b,o,none⟩) n c]).run Try.prog w = .ok (.tuple #[]) (w.setCells b o (Builtin.zeroCells z.cells n).toList):=by
 have hst:=run_storeCells_cells (P:=Try.prog) b o (Builtin.zeroCells z.cells n).toList 0 w (by simpa using hc) (fun j _ => by simpa using hf j) h1
 simp only [Nat.add_zero] at hst
 obtain ⟨m,rfl⟩ : ∃ m,n = m + 1:=⟨n - 1,by omega⟩
 simp [Builtin.clear_,run_underlying Try.underlying49,hv,hst]
set_option maxRecDepth 1000000 in
theorem delete_walkP (g n cap i j : Nat) (us : List Value) (t : TypeId) (w : World) (zv : Value) (zc : List Value) (hv : ∀ w,(zeroValue 26).run Try.prog w = .ok zv w) (hzc : (Builtin.zeroCells zv.cells (n - (i + (n - j)))).toList = zc) (hzl : zc.length = (j - i) * 1) (hz1 : ∀ v ∈ zc,v.oneCell' = true)
  (hg : w.heap[g]? = some (.cells us.toArray t (0,0))) (hl : n * 1 ≤ us.length) (hcap : n ≤ cap) (hm : cap ≤ 9223372036854775807) (hij : i < j) (hj : j ≤ n) (h1 : ∀ v ∈ us.take (n * 1),v.oneCell' = true) :
  Calls Try.prog 52 #[.slice (some ⟨g,0,none⟩) n cap,.int .i64 i,.int .i64 j] w fun e w' =>
   e = .returned (.slice (some ⟨g,0,none⟩) (n - (j - i)) cap) ∧ w' = ((w.drew.setCells g (0 + i * 1) ((us.take (n * 1)).drop (j * 1))).setCells g ((i + (n - j))) zc):=by
 have mixed : Try.prog.follows .mixedOrders = true:=by kernel_rfl
 obtain ⟨i0,hi0,hz⟩:=Option.map_eq_some_iff.1 infoCP
 have hne : ¬ (i = j):=by omega
 obtain ⟨news,hnews⟩ : ∃ news,news = (us.take (n * 1)).drop (j * 1):=⟨_,rfl⟩
 have hlen : news.length = (n - j) * 1:=by rw [hnews,List.length_drop,List.length_take]; omega
 have hcell : ∀ k,w.cell? ⟨g,k,none⟩ = us[k]?:=fun k => by rw [cell_of_row w g k us.toArray t (0,0) hg]; simp
 have hget : ∀ k u,news[k]? = some u → us[j * 1 + k]? = some u:=fun k u hu => by
  rw [hnews,List.getElem?_drop,List.getElem?_take] at hu
  split at hu
  ·exact hu
  ·cases hu
 obtain ⟨A,hA,hsrc⟩ : ∃ A : Addr,(if cap = j then (some (⟨g,0,none⟩ : Addr)) else some ⟨g,j,none⟩) = some A ∧ Hid (∀ k u,news[k]? = some u → w.drew.cell? (A.add k) = some u):=by
  by_cases h : cap = j
  ·refine ⟨⟨g,0,none⟩,by simp [h],fun k u hu => ?_⟩
   have h0 : news.length = 0:=by rw [hlen]; omega
   rw [List.length_eq_zero_iff.1 h0] at hu
   simp at hu
  ·refine ⟨⟨g,j,none⟩,by simp [h],fun k u hu => ?_⟩
   rw [Addr.add_lit]
   exact (hcell _).trans (by rw [← hget k u hu,Nat.mul_one])
 have s1 : Hid (news.length = (n - j) * 1):=hlen
 have s2 : Hid (∀ u ∈ news,u.oneCell' = true):=fun u hu => h1 u (List.mem_of_mem_drop (hnews ▸ hu))
 have s3 : Hid (∀ k,k < news.length → (w.drew.cell? ⟨g,0 + i * 1 + k,none⟩).isSome = true ∧ w.drew.frozen? ⟨g,0 + i * 1 + k,none⟩ = false):=fun k hk => by
  rw [hlen] at hk
  refine ⟨?_,frozen_of_row w g _ us.toArray t hg⟩
  show (w.cell? _).isSome = true
  rw [hcell,List.getElem?_eq_getElem (by omega)]; rfl
 obtain ⟨W1,hW1⟩ : ∃ W1,W1 = w.drew.setCells g (0 + i * 1) news:=⟨_,rfl⟩
 have hcl : ∀ ty,(Builtin.clear_ #[49] ty #[.slice (some ⟨g,(i + (n - j)),none⟩) (n - (i + (n - j))) (cap - (i + (n - j)))]).run Try.prog W1 = .ok (.tuple #[]) (W1.setCells g ((i + (n - j))) zc):=fun ty => by
  have:=run_clearCP W1 ty zv hv g ((i + (n - j))) (n - (i + (n - j))) (cap - (i + (n - j))) (by omega) (by rw [hzc]; exact hz1) (fun k hk => by
   rw [hzc,hzl] at hk
   rw [hW1]
   refine isSome_setCells g news (0 + i * 1) w.drew (fun k hk => (s3 k hk).1) _ ?_
   show (w.cell? _).isSome = true
   rw [hcell,List.getElem?_eq_getElem (by omega)]; rfl) (fun k => by
   rw [hW1,World.frozen?_setCells]
   exact frozen_of_row w g _ us.toArray t hg)
  rw [hzc] at this
  exact this
 have hW : Hid (W1 = w.drew.setCells g (0 + i * 1) news):=hW1
 have hic : i ≤ cap:=by omega
 have hjc : j ≤ cap:=by omega
 have hin : i ≤ n:=by omega
 rw [← hnews,← hW1]
 clear hW1 hget hnews hlen hcell hg hl h1 hzc hzl hz1
 go_enter Try.func52,Try.ntmps52
 go_wp2_with fail
 go_region_law_o (refine step_append_room rfl (.tmp 22) (.tmp 25) 49 rfl 26 i0 1 Try.underlying49 hi0 hz g 0 i cap (by simp [Act.eval,Act.put]) A (n - j) (cap - j) news (by simp [Act.eval,Act.put,hA]) s1.out hsrc.out s2.out (by omega) s3.out ?_; rw [← hW.out])
 go_wp2
 go_ret
 exact ⟨by rw [show n - (j - i) = i + (n - j) by omega]; rfl,rfl⟩
theorem zeroCP : ∃ zv : Value,(∀ w,(zeroValue 26).run Try.prog w = .ok zv w) ∧ (Builtin.zeroCells zv.cells 1).toList.length = 1 ∧ ∀ v ∈ (Builtin.zeroCells zv.cells 1).toList,v.oneCell' = true:=by
 refine ⟨_,Try.zeroValue26,by decide +kernel,?_⟩
 intro v hv
 have : (Builtin.zeroCells (Value.slice none 0 0).cells 1).toList.all (fun v => v.oneCell') = true:=by decide +kernel
 exact List.all_eq_true.1 this v hv
theorem delete_toldP (es : List D) (i : Nat) (hi : i < es.length) : ToldU Try.prog 52 [vI i,vI ((i : Int) + 1)] 1 es (es.take i ++ es.drop (i + 1)):=by
 intro w I vs g us t cap hv hlt hg hel hnI hcap hm
 obtain ⟨x,y,rfl⟩ : ∃ x y,vs = [x,y]:=by
  match vs,hv.1 with
  | [x,y],_ => exact ⟨x,y,rfl⟩
  | [],q => simp at q
  | [_],q => simp at q
  | _ :: _ :: _ :: _,q => simp at q
 have hx : x = .int .i64 i:=((hv.2 0 _ _ rfl rfl).leaf (fun cs e => by cases e)).invV.1
 have hy : y = .int .i64 ((i : Int) + 1):=((hv.2 1 _ _ rfl rfl).leaf (fun cs e => by cases e)).invV.1
 subst hx hy
 obtain ⟨zv,hzv,hz6,hz1⟩:=zeroCP
 have hn:=hel.2.1
 have hcell : ∀ k,k < es.length * 1 → ∃ l u,us[k]? = some u ∧ CRep I w l u:=fun k hk => by
  have h1 : k / 1 < es.length:=by omega
  have h2 : k % 1 < 1:=Nat.mod_lt _ (by omega)
  have h3 : (cellsD es[k / 1]).length = 1:=hel.1 _ (List.getElem_mem h1)
  obtain ⟨u,q1,q2⟩:=hel.2.2 (k / 1) (k % 1) es[k / 1] (cellsD es[k / 1])[k % 1] (List.getElem?_eq_getElem h1) (List.getElem?_eq_getElem (by omega))
  exact ⟨_,u,by rw [show k / 1 * 1 + k % 1 = k by omega] at q1; exact q1,q2⟩
 have h1 : ∀ v ∈ us.take (es.length * 1),v.oneCell' = true:=fun v hv => by
  obtain ⟨k,hk,rfl⟩:=List.mem_iff_getElem.1 hv
  rw [List.length_take] at hk
  obtain ⟨l,u,q1,q2⟩:=hcell k (by omega)
  rw [List.getElem_take]
  rw [List.getElem?_eq_getElem (by omega)] at q1
  rw [Option.some.inj q1]
  exact q2.one.1
 have e1 : es.length - (i + (es.length - (i + 1))) = 1:=by omega
 refine (delete_walkP g es.length cap i (i + 1) us t w zv _ hzv (by rw [e1]) (by rw [hz6]; omega) hz1 hg hn hcap (by unfold maxLen at hm; omega) (by omega) (by omega) h1).mono fun e w' ⟨he,hw⟩ => ?_
 obtain ⟨zc,hzc⟩ : ∃ zc,zc = (Builtin.zeroCells zv.cells 1).toList:=⟨_,rfl⟩
 rw [← hzc] at hw hz6 hz1
 obtain ⟨news,hnews⟩ : ∃ news,news = (us.take (es.length * 1)).drop ((i + 1) * 1):=⟨_,rfl⟩
 rw [← hnews] at hw
 have hnl : news.length = (es.length - (i + 1)) * 1:=by rw [hnews,List.length_drop,List.length_take]; omega
 have hg' : w.drew.heap[g]? = some (.cells us.toArray t (0,0)):=hg
 have r1:=setCells_row (o:=0 + i * 1) (vs:=news) hg' (by omega) (fun v hv => h1 v (List.mem_of_mem_drop (hnews ▸ hv)))
 rw [r1] at hw
 have hg1:=setRow_heap w.drew g us.toArray (over us (0 + i * 1) news).toArray t (0,0) hg'
 have hol : (over us (0 + i * 1) news).length = us.length:=over_len (by omega)
 have r2:=setCells_row (o:=(i + (es.length - (i + 1)))) (vs:=zc) hg1 (by omega) hz1
 rw [r2] at hw
 have hg2:=setRow_heap (w.drew.setRow g (over us (0 + i * 1) news).toArray) g _ (over (over us (0 + i * 1) news) ((i + (es.length - (i + 1)))) zc).toArray t (0,0) hg1
 rw [← hw] at hg2
 have hel' : (es.take i ++ es.drop (i + 1)).length = es.length - 1:=by simp; omega
 have hblk : ∀ k,k ≠ g → w'.heap[k]? = w.heap[k]?:=fun k hk => by
  rw [hw,setRow_other _ _ _ _ hk,setRow_other _ _ _ _ hk]; rfl
 have hsz : w'.heap.size = w.heap.size:=by rw [hw,setRow_size,setRow_size]; rfl
 refine ⟨by rw [he,hel']; congr 2; omega,⟨by rw [hw]; rfl,by rw [hw]; rfl,by rw [hw]; rfl,by omega,fun k _ hk => hblk k (fun e => hk (by rw [e]))⟩,_,hg2,?_,by omega⟩
 have hcl : ∀ b j,I b j → w'.cell? ⟨b,j,none⟩ = w.cell? ⟨b,j,none⟩:=fun b j hj => World.cell?_of_block (a:=⟨b,j,none⟩) (hblk b (fun e => hnI j (e ▸ hj)))
 refine ⟨fun e he => ?_,?_,fun k j e l hk hj => ?_⟩
 ·rcases List.mem_append.1 he with q | q
  ·exact hel.1 e (List.mem_of_mem_take q)
  ·exact hel.1 e (List.mem_of_mem_drop q)
 ·rw [over_len (by omega),hol,hel']; omega
 ·have hj6 : j < 1:=by
   have h2 : (cellsD e).length = 1:=by
    rcases List.mem_append.1 (List.mem_of_getElem? hk) with q | q
    ·exact hel.1 e (List.mem_of_mem_take q)
    ·exact hel.1 e (List.mem_of_mem_drop q)
   have:=(List.getElem?_eq_some_iff.1 hj).1
   omega
  have hkl : k < es.length - 1:=by have:=(List.getElem?_eq_some_iff.1 hk).1; omega
  rw [over_out (by omega) (.inl (by omega))]
  by_cases hki : k < i
  ·rw [List.getElem?_append_left (by rw [List.length_take]; omega),List.getElem?_take,if_pos hki] at hk
   obtain ⟨u,q1,q2⟩:=hel.2.2 k j e l hk hj
   exact ⟨u,by rw [over_out (by omega) (.inl (by omega))]; exact q1,q2.keep (fun _ _ h => h) hcl⟩
  ·rw [List.getElem?_append_right (by rw [List.length_take]; omega),List.length_take,Nat.min_eq_left (by omega),List.getElem?_drop] at hk
   obtain ⟨u,q1,q2⟩:=hel.2.2 (i + 1 + (k - i)) j e l hk hj
   refine ⟨u,?_,q2.keep (fun _ _ h => h) hcl⟩
   have hin : k * 1 + j - i * 1 < news.length:=by omega
   have h4:=over_in (cs:=us) (ds:=news) (off:=0 + i * 1) (j:=k * 1 + j - i * 1) (by omega) hin
   rw [show 0 + i * 1 + (k * 1 + j - i * 1) = k * 1 + j by omega] at h4
   rw [h4,hnews,List.getElem?_drop,List.getElem?_take,if_pos (by omega),← q1]
   congr 1
   omega
open mth
theorem pk_ne {p : List (List UInt8)} {n : Nat} (h : n < p.length) : encPk p ≠ []:=by
 intro e; have:=congrArg List.length e; simp [encPk] at this; subst this; simp at h
theorem cut_pk (p : List (List UInt8)) (n : Nat) : (encPk p).take n ++ (encPk p).drop (n + 1) = encPk (cutP p n):=by
 simp [encPk,cutP,List.map_take,List.map_drop]
theorem no_has {p : List (List UInt8)} {n : Int} (h : n < 0 ∨ (p.length : Int) ≤ n) : decide (0 ≤ n ∧ n < ((encPk p).length : Int)) = false:=by
 rw [len_pk]; exact decide_eq_false (by omega)
theorem yes_has {p : List (List UInt8)} {n : Nat} (h : n < p.length) : decide (0 ≤ (n : Int) ∧ (n : Int) < ((encPk p).length : Int)) = true:=by
 rw [len_pk]; exact decide_eq_true (by omega)
theorem lose_none (l : Ln) (n : Int) (back : Bool) (hg : GoodL l) (hn : n < 0 ∨ ((wayP l back).length : Int) ≤ n) : Told Try.prog 42 [aD (encLn l),vI n,vB back] [aD (encLn l),vI 6]:=by
 refine told_lane_Lose rfl ?_
 have h1:=ToldX.of (landL_own l hg)
 have h2:=way_toldP back
 have h3:=hasP_told (encPk (wayP l back)) n
 rw [no_has hn] at h3
 simp only [encLn] at h1 ⊢
 refine wk0 ?_
 refine ⟨3,_,_,[],[],_,[],⟨rfl,rfl,rfl,rfl,row_refl _,fun x hx => by cases hx⟩,rfl,h1,rfl,List.nodup_nil,?_⟩
 simp only [preP,preOff,flOf,List.map_nil,List.nil_append]
 refine wk0 ?_
 refine ⟨_,fun _ _ _ _ _ _ h => h,?_⟩
 cases back with
 | true =>
  simp only [wayP,if_true] at h2 h3
  refine cg0 [[mP 0 16]] ?_ ?_
  ·exact obl_adr h2 obl_nil
  refine wk0 ?_
  refine cg [[vB false]] Bool.not_false ?_ ?_
  ·exact obl_cons h3 obl_nil
  refine wk Bool.not_false ?_
  exact ValsLe.refl _
 | false =>
  simp only [wayP,Bool.false_eq_true,if_false] at h2 h3
  refine cg0 [[mP 0 15]] ?_ ?_
  ·exact obl_adr h2 obl_nil
  refine wk0 ?_
  refine cg [[vB false]] Bool.not_false ?_ ?_
  ·exact obl_cons h3 obl_nil
  refine wk Bool.not_false ?_
  exact ValsLe.refl _
theorem lose_one (l : Ln) (n : Nat) (back : Bool) (hg : GoodL l) (hn : n < (wayP l back).length) : Told Try.prog 42 [aD (encLn l),vI n,vB back] [aD (encLn (withP l back (cutP (wayP l back) n))),vI 0]:=by
 refine told_lane_Lose rfl ?_
 have h1:=landL_ownX l hg
 have h2:=way_toldP back
 have h3:=hasP_told (encPk (wayP l back)) n
 rw [yes_has hn] at h3
 have h4:=delete_toldP (encPk (wayP l back)) n (by rw [len_pk]; exact hn)
 rw [cut_pk] at h4
 have hw:=(hg.way back).1
 have k1 : inR .i64 ((n : Int) + 1) = true:=inR_of (by omega)
 simp only [encLn,ownLn,rowsL] at h1 ⊢
 refine wk0 ?_
 refine ⟨3,_,_,[],[],_,_,⟨rfl,rfl,rfl,rfl,row_refl _,fun x hx => by cases hx⟩,rfl,h1,rfl,by show [15,16].Nodup; decide,?_⟩
 simp only [preP,preOff,flOf,List.map_cons,List.map_nil,List.cons_append,List.nil_append]
 refine wk0 ?_
 cases back with
 | true =>
  simp only [wayP,withP,if_true] at h2 h3 h4 hn hw ⊢
  refine ⟨_,fun b0 w0 I0 N a w hr => le_lane16 (b:=3) (by decide) (pk_ne hn) rfl b0 w0 I0 N a w hr,?_⟩
  refine cg [[mP 0 16]] @len_pk ?_ ?_
  ·exact obl_adr h2 obl_nil
  refine wk0 ?_
  refine cg [[vB true]] (an2 Bool.not_true @len_pk) ?_ ?_
  ·exact obl_cons h3 obl_nil
  refine wk (an3 Bool.not_true @k1 @len_pk) ?_
  refine cg [[sD 1 (encPk (cutP l.back n))]] (an2 @k1 @len_pk) ?_ ?_
  ·exact obl_updL h4 obl_nil
  refine wk0 ?_
  exact ValsLe.refl _
 | false =>
  simp only [wayP,withP,Bool.false_eq_true,if_false] at h2 h3 h4 hn hw ⊢
  refine ⟨_,fun b0 w0 I0 N a w hr => le_lane15 (b:=3) (by decide) (pk_ne hn) rfl b0 w0 I0 N a w hr,?_⟩
  refine cg [[mP 0 15]] @len_pk ?_ ?_
  ·exact obl_adr h2 obl_nil
  refine wk0 ?_
  refine cg [[vB true]] (an2 Bool.not_true @len_pk) ?_ ?_
  ·exact obl_cons h3 obl_nil
  refine wk (an3 Bool.not_true @k1 @len_pk) ?_
  refine cg [[sD 1 (encPk (cutP l.there n))]] (an2 @k1 @len_pk) ?_ ?_
  ·exact obl_updL h4 obl_nil
  refine wk0 ?_
  exact ValsLe.refl _
theorem landL_lose : CLStep 42 4:=by
 intro l n back hg
 unfold packetL
 by_cases hn : n < 0 ∨ ((wayP l back).length : Int) ≤ n
 ·rw [if_pos hn]
  exact lose_none l n back hg hn
 ·rw [if_neg hn,if_pos rfl]
  obtain ⟨m,rfl⟩ : ∃ m : Nat,n = m:=⟨n.toNat,by omega⟩
  rw [Int.toNat_natCast]
  exact lose_one l m back hg (by omega)
theorem obl_innL {P : Program} {f i e z : Nat} {cs r : List D} {c : D} {l : List (Nat × List D × List D)} (h : ToldI P f cs i none e (z,unC c) r) (hl : Obl P l) : Obl P ((f,cs,mI i e z c :: r) :: l):=⟨⟨cs,ValsLe.refl _,h⟩,hl⟩
theorem twice_none (l : Ln) (n : Int) (back : Bool) (hg : GoodL l) (hn : n < 0 ∨ ((wayP l back).length : Int) ≤ n) : Told Try.prog 43 [aD (encLn l),vI n,vB back] [aD (encLn l),vI 6]:=by
 refine told_lane_Twice rfl ?_
 have h1:=ToldX.of (landL_own l hg)
 have h2:=way_toldP back
 have h3:=hasP_told (encPk (wayP l back)) n
 rw [no_has hn] at h3
 simp only [encLn] at h1 ⊢
 refine wk0 ?_
 refine ⟨3,_,_,[],[],_,[],⟨rfl,rfl,rfl,rfl,row_refl _,fun x hx => by cases hx⟩,rfl,h1,rfl,List.nodup_nil,?_⟩
 simp only [preP,preOff,flOf,List.map_nil,List.nil_append]
 refine wk0 ?_
 refine ⟨_,fun _ _ _ _ _ _ h => h,?_⟩
 cases back with
 | true =>
  simp only [wayP,if_true] at h2 h3
  refine cg0 [[mP 0 16]] ?_ ?_
  ·exact obl_adr h2 obl_nil
  refine wk0 ?_
  refine cg [[vB false]] Bool.not_false ?_ ?_
  ·exact obl_cons h3 obl_nil
  refine wk Bool.not_false ?_
  exact ValsLe.refl _
 | false =>
  simp only [wayP,Bool.false_eq_true,if_false] at h2 h3
  refine cg0 [[mP 0 15]] ?_ ?_
  ·exact obl_adr h2 obl_nil
  refine wk0 ?_
  refine cg [[vB false]] Bool.not_false ?_ ?_
  ·exact obl_cons h3 obl_nil
  refine wk Bool.not_false ?_
  exact ValsLe.refl _
theorem twice_one (l : Ln) (n : Nat) (back : Bool) (hg : GoodL l) (x : List UInt8) (hx : (wayP l back)[n]? = some x) : Told Try.prog 43 [aD (encLn l),vI n,vB back] [aD (encLn (withP l back (joinP (wayP l back) x))),vI 0]:=by
 refine told_lane_Twice rfl ?_
 have hn : n < (wayP l back).length:=(List.getElem?_eq_some_iff.1 hx).1
 have h1:=landL_ownX l hg
 have h2:=way_toldP back
 have h3:=hasP_told (encPk (wayP l back)) n
 rw [yes_has hn] at h3
 have h4:=join_toldI (wayP l back) x
 have hxl:=(hg.way back).2 x (List.mem_of_getElem? hx)
 have h5:=cloneL_told x (by omega)
 have g4:=at_pk hx
 have k2 : (0 : Int) ≤ (n : Int):=by omega
 have k3 : (n : Int) < (((wayP l back).length : Nat) : Int):=by omega
 simp only [encLn,ownLn,rowsL] at h1 ⊢
 refine wk0 ?_
 refine ⟨3,_,_,[],[],_,_,⟨rfl,rfl,rfl,rfl,row_refl _,fun x hx => by cases hx⟩,rfl,h1,rfl,by show [15,16].Nodup; decide,?_⟩
 simp only [preP,preOff,flOf,List.map_cons,List.map_nil,List.cons_append,List.nil_append]
 refine wk0 ?_
 refine ⟨_,fun b0 w0 I0 N a w hr => le_laneN (b:=3) (by decide) b0 w0 I0 N a w hr,?_⟩
 cases back with
 | true =>
  simp only [wayP,withP,if_true] at h2 h3 h4 hn g4 k3 ⊢
  refine cg [[mP 0 16]] @len_pk ?_ ?_
  ·exact obl_adr h2 obl_nil
  refine wk0 ?_
  refine cg [[vB true]] (an2 Bool.not_true @len_pk) ?_ ?_
  ·exact obl_cons h3 obl_nil
  refine wk (an2 Bool.not_true @len_pk) ?_
  refine cd [[sD 1 (x.map encB)],[mI 0 26 1 xD,sD 1 (encPk (joinP l.back x))]] (an5 @g4 @k2 @k3 @len_pk @Int.toNat_natCast) ?_ ?_
  ·exact obl_cons h5 (obl_innL h4 obl_nil)
  refine wk0 ?_
  exact ValsLe.refl _
 | false =>
  simp only [wayP,withP,Bool.false_eq_true,if_false] at h2 h3 h4 hn g4 k3 ⊢
  refine cg [[mP 0 15]] @len_pk ?_ ?_
  ·exact obl_adr h2 obl_nil
  refine wk0 ?_
  refine cg [[vB true]] (an2 Bool.not_true @len_pk) ?_ ?_
  ·exact obl_cons h3 obl_nil
  refine wk (an2 Bool.not_true @len_pk) ?_
  refine cd [[sD 1 (x.map encB)],[mI 0 26 1 xD,sD 1 (encPk (joinP l.there x))]] (an5 @g4 @k2 @k3 @len_pk @Int.toNat_natCast) ?_ ?_
  ·exact obl_cons h5 (obl_innL h4 obl_nil)
  refine wk0 ?_
  exact ValsLe.refl _
theorem landL_twice : CLStep 43 5:=by
 intro l n back hg
 unfold packetL
 by_cases hn : n < 0 ∨ ((wayP l back).length : Int) ≤ n
 ·rw [if_pos hn]
  exact twice_none l n back hg hn
 ·rw [if_neg hn,if_neg (by decide),if_pos rfl]
  obtain ⟨m,rfl⟩ : ∃ m : Nat,n = m:=⟨n.toNat,by omega⟩
  obtain ⟨x,hx⟩ : ∃ x,(wayP l back)[m]? = some x:=⟨_,List.getElem?_eq_getElem (by omega)⟩
  have e0 : (wayP l back).getD m [] = x:=by rw [List.getD_eq_getElem?_getD,hx]; rfl
  rw [Int.toNat_natCast,e0]
  exact twice_one l m back hg x hx
theorem sayNew_told (m : Ms) (r : List Ms) (next p0 p1 p2 turn : Int) (flight : List Ch) (hn : 0 ≤ next ∧ next ≤ 40) (h0 : 0 ≤ p0 ∧ p0 ≤ 40) (h1 : 0 ≤ p1 ∧ p1 ≤ 40) (h2 : 0 ≤ p2 ∧ p2 ≤ 40) (hf : flight.length ≤ 3) (hr : r.length ≤ 1000) (hm : 0 ≤ m.stream ∧ m.stream ≤ 2) :
  ToldI Try.prog 71 [aD (encSd ⟨m :: r,next,p0,p1,p2,flight,turn⟩)] 0 (some 5) 97 (6,none) [aD (encSd (newS ⟨m :: r,next,p0,p1,p2,flight,turn⟩ m r)),aD (encCh (newC ⟨m :: r,next,p0,p1,p2,flight,turn⟩ m))]:=by
 refine toldI_send_sayNew ?_
 have q3 : inR .i64 (next + 1) = true:=inR_of (by omega)
 have q4 : inR .i64 (p0 + 1) = true:=inR_of (by omega)
 have q5 : inR .i64 (p1 + 1) = true:=inR_of (by omega)
 have q6 : inR .i64 (p2 + 1) = true:=inR_of (by omega)
 have q8 : (flight.length + 1) * 80 ≤ 140737488355328:=by omega
 have q9 : (0 : Int) ≤ 1 ∧ (1 : Int) ≤ ((r.length + 1 : Nat) : Int) ∧ ((r.length + 1 : Nat) : Int) ≤ ((r.length + 1 : Nat) : Int):=by omega
 have q10 : (encMl r).take r.length = encMl r:=List.take_of_length_le (by rw [len_ml]; exact Nat.le_refl _)
 obtain ⟨ms,md⟩:=m
 simp only at hm
 rcases (by omega : ms = 0 ∨ ms = 1 ∨ ms = 2) with hs | hs | hs
 ·subst hs
  simp only [encSd,newS,newC,placeOf,encCh,ml_cons,cl_snoc,List.map_nil,if_true,Int.reduceEq,if_false]
  refine wk (an10 @len_ml @len_cl @zapp @q3 @q4 @q5 @q6 @q8 @q9 @q10) ?_
  repeat' (first | exact vals_nil | exact row_nil | exact es_nil | exact CVLe.refl _ | exact LfLe.refl _ | exact LfLe.nil _ | exact EsLe.refl _ | refine vals_cons ?_ ?_ | refine row_cons ?_ ?_ | refine es_cons ?_ ?_ | refine EsLe.app ?_ ?_ | refine CVLe.row ?_ | refine CVLe.leafV ?_ | refine CVLe.leafS ?_ | refine LfLe.s ?_)
 ·subst hs
  simp only [encSd,newS,newC,placeOf,encCh,ml_cons,cl_snoc,List.map_nil,if_true,Int.reduceEq,if_false]
  refine wk (an10 @len_ml @len_cl @zapp @q3 @q4 @q5 @q6 @q8 @q9 @q10) ?_
  repeat' (first | exact vals_nil | exact row_nil | exact es_nil | exact CVLe.refl _ | exact LfLe.refl _ | exact LfLe.nil _ | exact EsLe.refl _ | refine vals_cons ?_ ?_ | refine row_cons ?_ ?_ | refine es_cons ?_ ?_ | refine EsLe.app ?_ ?_ | refine CVLe.row ?_ | refine CVLe.leafV ?_ | refine CVLe.leafS ?_ | refine LfLe.s ?_)
 ·subst hs
  simp only [encSd,newS,newC,placeOf,encCh,ml_cons,cl_snoc,List.map_nil,if_true,Int.reduceEq,if_false]
  refine wk (an10 @len_ml @len_cl @zapp @q3 @q4 @q5 @q6 @q8 @q9 @q10) ?_
  repeat' (first | exact vals_nil | exact row_nil | exact es_nil | exact CVLe.refl _ | exact LfLe.refl _ | exact LfLe.nil _ | exact EsLe.refl _ | refine vals_cons ?_ ?_ | refine row_cons ?_ ?_ | refine es_cons ?_ ?_ | refine EsLe.app ?_ ?_ | refine CVLe.row ?_ | refine CVLe.leafV ?_ | refine CVLe.leafS ?_ | refine LfLe.s ?_)
theorem tmod_eq {t : Int} {n : Nat} (ht : 0 ≤ t) : t.tmod (n : Int) = t % (n : Int):=Int.tmod_eq_emod_of_nonneg ht
theorem sayAgain_told (queue : List Ms) (next p0 p1 p2 turn : Int) (flight : List Ch) (ht : 0 ≤ turn ∧ turn ≤ 1000) (hf0 : 0 < flight.length) (hf : flight.length ≤ 4) :
  Told Try.prog 72 [aD (encSd ⟨queue,next,p0,p1,p2,flight,turn⟩)] [aD (encSd ⟨queue,next,p0,p1,p2,flight,turn % (flight.length : Int) + 1⟩),aD (encCh (flight.getD (turn % (flight.length : Int)).toNat zeroC))]:=by
 refine told_send_sayAgain rfl ?_
 have hn0 : ¬ (flight.length : Int) = 0:=by omega
 have hae:=tmod_eq (t:=turn) (n:=flight.length) ht.1
 have hm0 : 0 ≤ turn % (flight.length : Int):=Int.emod_nonneg _ hn0
 have hm1 : turn % (flight.length : Int) < flight.length:=Int.emod_lt_of_pos _ (by omega)
 generalize hk : turn % (flight.length : Int) = k at *
 have r4 : inR .i64 (k + 1) = true:=inR_of (by omega)
 have hlt : k.toNat < flight.length:=by omega
 have hget : (encCl flight)[k.toNat]? = some (aD (encCh (flight.getD k.toNat zeroC))):=by
  rw [encCl,List.getElem?_map,List.getElem?_eq_getElem hlt,List.getD_eq_getElem?_getD,List.getElem?_eq_getElem hlt]; rfl
 obtain ⟨c0,hc0⟩ : ∃ c0,c0 = flight.getD k.toNat zeroC:=⟨_,rfl⟩
 rw [← hc0] at hget ⊢
 simp only [encSd,encCh] at hget ⊢
 refine wk (an6 @len_cl @hn0 @hae @r4 @hm0 @hget) ?_
 repeat' (first | exact vals_nil | exact row_nil | exact es_nil | exact CVLe.refl _ | exact LfLe.refl _ | exact LfLe.nil _ | exact EsLe.refl _ | refine vals_cons ?_ ?_ | refine row_cons ?_ ?_ | refine es_cons ?_ ?_ | refine EsLe.app ?_ ?_ | refine CVLe.row ?_ | refine CVLe.leafV ?_ | refine CVLe.leafS ?_ | refine LfLe.s ?_)
theorem lsay_told (s : Sd) (h : GoodS s) : Told Try.prog 55 [aD (encSd s)] [aD (encSd (sayL s).1),aD (encCh (sayL s).2.1),vB (sayL s).2.2]:=by
 refine told_send_Say rfl ?_
 have hown:=ownS_toldF s (good_small h)
 have hsm:=good_small h
 have hdat:=say_early h
 have hgd : (sayL s).2.1.data.length ≤ 1048576 ∧ (sayL s).2.1.early.length ≤ 1048576:=by
  refine ⟨?_,by omega⟩
  unfold sayL
  split
  ·split
   ·simp [zeroC]
   ·rename_i hf
    have hk:=againK_lt h (by omega)
    have hlt : (againK s).toNat < s.flight.length:=by omega
    simp only [List.getD_eq_getElem?_getD,List.getElem?_eq_getElem hlt,Option.getD_some]
    exact (hsm.c _ (List.getElem_mem hlt)).1
  ·rename_i m r hq
   split
   ·rename_i hf
    have hk:=againK_lt h (by omega)
    have hlt : (againK s).toNat < s.flight.length:=by omega
    simp only [List.getD_eq_getElem?_getD,List.getElem?_eq_getElem hlt,Option.getD_some]
    exact (hsm.c _ (List.getElem_mem hlt)).1
   ·exact hsm.m m (by rw [hq]; simp)
 have hn:=h.n
 have hp:=h.p
 have ht:=h.t
 have hf:=h.f
 have hq:=h.q
 have hms:=h.m
 obtain ⟨queue,next,p0,p1,p2,flight,turn⟩:=s
 simp only at hn hp ht hf hq hms
 have hown':=ownCh_told _ hgd.1 hgd.2
 by_cases hnew : queue = [] ∨ 3 < flight.length
 ·by_cases hf0 : flight.length = 0
  ·have hqn : queue = []:=by rcases hnew with q | q <;> first | exact q | omega
   subst hqn
   have hfn : flight = []:=List.eq_nil_of_length_eq_zero hf0
   subst hfn
   simp only [sayL,List.length_nil,if_true]
   simp only [encSd,encCh,zeroC,List.map_nil,ml_nil,cl_nil] at hown ⊢
   refine wk0 ?_
   refine ⟨1,_,_,_,5,_,_,rfl,rfl,rfl,rfl,row_refl _,hown,rfl,?_⟩
   refine wk (an3 @znil @Int.natCast_zero @Int.lt_irrefl) ?_
   repeat' (first | exact vals_nil | exact row_nil | exact es_nil | exact CVLe.refl _ | exact LfLe.refl _ | exact LfLe.nil _ | exact EsLe.refl _ | refine vals_cons ?_ ?_ | refine row_cons ?_ ?_ | refine es_cons ?_ ?_ | refine EsLe.app ?_ ?_ | refine CVLe.row ?_ | refine CVLe.leafV ?_ | refine CVLe.leafS ?_ | refine LfLe.s ?_)
  ·have hsay : sayL ⟨queue,next,p0,p1,p2,flight,turn⟩ = (⟨queue,next,p0,p1,p2,flight,turn % (flight.length : Int) + 1⟩,flight.getD (turn % (flight.length : Int)).toNat zeroC,true):=by
    unfold sayL
    simp only
    split
    ·rw [if_neg hf0]; rfl
    ·rcases hnew with q | q
     ·cases q
     ·rw [if_pos q]; rfl
   rw [hsay] at hown' ⊢
   have hag:=sayAgain_told queue next p0 p1 p2 turn flight ⟨ht.1,by omega⟩ (by omega) hf
   generalize turn % (flight.length : Int) + 1 = t' at *
   generalize flight.getD (turn % (flight.length : Int)).toNat zeroC = c0 at *
   have g1 : 0 < (flight.length : Int):=by omega
   simp only [encSd,encCh] at hown hown' hag ⊢
   have fin2 : ∀ st,st = (⟨[(1,pD 1 0),(2,pD 2 0),(3,pD 3 0),(5,pD 5 0)],[(1,[sD 2 (encMl queue),vI next,vI p0,vI p1,vI p2,sD 6 (encCl flight),vI t']),(2,[vD (.slice none 0 0),vI 0,vI 0,vI 0,vI 0,vD (.slice none 0 0),vI 0]),(3,[vI 0,vI 0,vI 0,vI 0,vD (.slice none 0 0),vD (.slice none 0 0)]),(5,[vI c0.kind,vI c0.number,vI c0.stream,vI c0.place,sD 1 (c0.data.map encB),sD 1 (c0.early.map vI)])],[]⟩ : St) →
     cSeq Q53r8 cRet st (fin [(2,some (7,true)),(3,some (6,true)),(4,none)] [aD [sD 2 (encMl queue),vI next,vI p0,vI p1,vI p2,sD 6 (encCl flight),vI t'],aD [vI c0.kind,vI c0.number,vI c0.stream,vI c0.place,sD 1 (c0.data.map encB),sD 1 (c0.early.map vI)],vB true]):=by
    rintro st rfl
    refine wk0 ?_
    refine cd0 [[aD [vI c0.kind,vI c0.number,vI c0.stream,vI c0.place,sD 1 (c0.data.map encB),sD 1 (c0.early.map vI)]]] ?_ ?_
    ·exact obl_cons hown' obl_nil
    refine wk0 ?_
    exact ValsLe.refl _
   by_cases hqn : queue = []
   ·subst hqn
    simp only [ml_nil] at *
    refine wk0 ?_
    refine ⟨1,_,_,_,5,_,_,rfl,rfl,rfl,rfl,row_refl _,hown,rfl,?_⟩
    refine wk (an5 @znil @Int.natCast_zero @Int.lt_irrefl @g1 @len_cl) ?_
    refine cg0 [[aD [sD 2 [],vI next,vI p0,vI p1,vI p2,sD 6 (encCl flight),vI t'],aD [vI c0.kind,vI c0.number,vI c0.stream,vI c0.place,sD 1 (c0.data.map encB),sD 1 (c0.early.map vI)]]] ?_ ?_
    ·exact obl_cons hag obl_nil
    refine blk_normal ?_
    refine thn_normal ?_
    exact fin2 _ rfl
   ·have hq3 : 0 < (queue.length : Int):=by
     have : queue.length ≠ 0:=fun h => hqn (List.eq_nil_of_length_eq_zero h)
     omega
    have hf3 : ¬ (flight.length : Int) < 4:=by
     rcases hnew with q | q
     ·exact absurd q hqn
     ·omega
    refine wk0 ?_
    refine ⟨1,_,_,_,5,_,_,rfl,rfl,rfl,rfl,row_refl _,hown,rfl,?_⟩
    refine wk (an5 @hq3 @hf3 @g1 @len_cl @len_ml) ?_
    refine cg0 [[aD [sD 2 (encMl queue),vI next,vI p0,vI p1,vI p2,sD 6 (encCl flight),vI t'],aD [vI c0.kind,vI c0.number,vI c0.stream,vI c0.place,sD 1 (c0.data.map encB),sD 1 (c0.early.map vI)]]] ?_ ?_
    ·exact obl_cons hag obl_nil
    refine blk_normal ?_
    refine thn_normal ?_
    exact fin2 _ rfl
 ·obtain ⟨m,r,rfl⟩ : ∃ m r,queue = m :: r:=by
   cases queue with
   | nil => exact absurd (Or.inl rfl) hnew
   | cons m r => exact ⟨m,r,rfl⟩
  have hf3 : flight.length ≤ 3:=by
   have : ¬ 3 < flight.length:=fun q => hnew (Or.inr q)
   omega
  have hsay : sayL ⟨m :: r,next,p0,p1,p2,flight,turn⟩ = (newS ⟨m :: r,next,p0,p1,p2,flight,turn⟩ m r,newC ⟨m :: r,next,p0,p1,p2,flight,turn⟩ m,true):=by
   unfold sayL
   simp only
   rw [if_neg (by omega)]
  have hm : 0 ≤ m.stream ∧ m.stream ≤ 2:=by
   have:=hms m (by simp)
   unfold wrongMsgL at this
   split at this
   ·cases this
   ·omega
  have hnw:=sayNew_told m r next p0 p1 p2 turn flight (by omega) (by omega) (by omega) (by omega) hf3 (by simp only [List.length_cons] at hq; omega) hm
  rw [hsay] at hown' ⊢
  simp only at hown' ⊢
  generalize newS ⟨m :: r,next,p0,p1,p2,flight,turn⟩ m r = s' at *
  generalize newC ⟨m :: r,next,p0,p1,p2,flight,turn⟩ m = c0 at *
  have g1 : 0 < (((r.length + 1 : Nat)) : Int):=by omega
  have g2 : (flight.length : Int) < 4:=by omega
  simp only [encSd,encCh,ml_cons] at hown hown' hnw ⊢
  refine wk0 ?_
  refine ⟨1,_,_,_,5,_,_,rfl,rfl,rfl,rfl,row_refl _,hown,rfl,?_⟩
  refine wk (an4 @g1 @g2 @len_cl @len_ml) ?_
  refine ⟨1,_,_,5,_,_,_,rfl,rfl,rfl,rfl,row_refl _,by decide,rfl,hnw,?_⟩
  refine wk0 ?_
  refine cd0 [[aD [vI c0.kind,vI c0.number,vI c0.stream,vI c0.place,sD 1 (c0.data.map encB),sD 1 (c0.early.map vI)]]] ?_ ?_
  ·exact obl_cons hown' obl_nil
  refine wk0 ?_
  exact ValsLe.refl _
def idxG {α : Type} (p : α → Bool) (l : List α) : Int:=if l.findIdx p < l.length then (l.findIdx p : Int) else -1
theorem idxG_at {α : Type} {p : α → Bool} {l : List α} {j : Nat} {x : α} (hx : l[j]? = some x) (hp : p x = true) (hb : ∀ i y,i < j → l[i]? = some y → p y = false) : idxG p l = j:=by
 have hj : j < l.length:=(List.getElem?_eq_some_iff.1 hx).1
 have hxe : l[j] = x:=(List.getElem?_eq_some_iff.1 hx).2
 have : l.findIdx p = j:=(List.findIdx_eq hj).2 ⟨by rw [hxe]; exact hp,fun i hi => hb i _ hi (List.getElem?_eq_getElem (by omega))⟩
 unfold idxG
 rw [this,if_pos hj]
theorem idxG_no {α : Type} {p : α → Bool} {l : List α} (hb : ∀ (i : Nat) y,l[i]? = some y → p y = false) : idxG p l = -1:=by
 have : l.findIdx p = l.length:=List.findIdx_eq_length.2 (fun x hx => by
  obtain ⟨i,hi,rfl⟩:=List.mem_iff_getElem.1 hx
  exact hb i _ (List.getElem?_eq_getElem hi))
 unfold idxG
 rw [this,if_neg (Nat.lt_irrefl _)]
theorem idxG_contains (l : List Int) (n : Int) : decide (0 ≤ idxG (fun y => n == y) l) = l.contains n:=by
 unfold idxG
 by_cases h : l.findIdx (fun y => n == y) < l.length
 ·rw [if_pos h]
  have hc : l.contains n = true:=by
   have:=List.findIdx_getElem (w:=h)
   rw [List.contains_iff_mem]
   have e : n = l[l.findIdx (fun y => n == y)]:=by simpa using this
   rw [e]
   exact List.getElem_mem _
  rw [hc]
  simp
 ·rw [if_neg h]
  have hc : l.contains n = false:=by
   have h' : l.findIdx (fun y => n == y) = l.length:=by have:=List.findIdx_le_length (p:=fun y => n == y) (xs:=l); omega
   have:=List.findIdx_eq_length.1 h'
   cases hcc : l.contains n with
   | false => rfl
   | true =>
    have hm:=List.contains_iff_mem.1 hcc
    have:=this n hm
    simp at this
  rw [hc]
  simp
def ixSt (l : List Int) (n : Int) (k : Nat) : St:=⟨[(0,sD 1 (l.map vI)),(1,vI n),(7,vI l.length),(8,vI k)],[],[]⟩
theorem index_told (l : List Int) (n : Int) (hl : l.length ≤ 9223372036854775807) : Told Try.prog 87 [sD 1 (l.map vI),vI n] [vI (idxG (fun y => n == y) l)]:=by
 refine told_slices_Index rfl ?_
 refine wk @zmap ?_
 refine aw_loop (fun m st => ∃ k : Nat,k ≤ l.length ∧ m = l.length - k ∧ (∀ i y,i < k → l[i]? = some y → (n == y) = false) ∧ st = ixSt l n k) l.length (ixSt l n 0) (Le.keep (lv:=[0,1,7,8]) (lb:=[]) (by simp only [ev0,ev1,ev2,look,lookF,cellsFrom,offT,offP,List.tail_nil,List.length_nil,Int.cast_ofNat_Int,Nat.reduceEqDiff,Nat.reduceAdd,Nat.reduceMul,Nat.reduceLeDiff,Nat.reduceLT,↓reduceIte,reduceCtorEq,Int.reduceBEq,Int.reduceBNe,Int.reduceLT,Int.reduceLE,Int.reduceToNat]; rfl)) ⟨0,by omega,by omega,(fun i y hi => by omega),rfl⟩ ?_
 rintro m st ⟨k,hk,hm,hb,rfl⟩
 by_cases hlt : k < l.length
 ·obtain ⟨x,hx⟩ : ∃ m,l[k]? = some m:=⟨l[k],List.getElem?_eq_getElem hlt⟩
  have g1 : (k : Int) < (l.length : Int):=by omega
  have g2 : (0 : Int) ≤ (k : Int):=by omega
  have g3:=at_il hx
  have g4 : inR .i64 ((k : Int) + 1) = true:=inR_of (by omega)
  cases hp : (n == x) with
  | true =>
   rw [idxG_at (p:=fun y => n == y) hx hp hb]
   generalize (fun m st => ∃ k : Nat,k ≤ l.length ∧ m = l.length - k ∧ (∀ i y,i < k → l[i]? = some y → (n == y) = false) ∧ st = ixSt l n k) = J at *
   simp only [ixSt]
   refine wk (an4 @g1 @g2 @g3 @hp) ?_
   exact ValsLe.refl _
  | false =>
   have hnx : Next (fun m st => ∃ k : Nat,k ≤ l.length ∧ m = l.length - k ∧ (∀ i y,i < k → l[i]? = some y → (n == y) = false) ∧ st = ixSt l n k) m ⟨[(0,sD 1 (l.map vI)),(1,vI n),(7,vI l.length),(8,vI ((k : Int) + 1))],[],[]⟩:=by
    refine ⟨l.length - (k + 1),_,by omega,Le.refl _,k + 1,by omega,rfl,fun i y hi hy => ?_,by simp only [ixSt,Int.natCast_add,Int.cast_ofNat_Int]⟩
    by_cases hik : i = k
    ·subst hik; rw [hx] at hy; cases hy; exact hp
    ·exact hb i y (by omega) hy
   generalize (fun m st => ∃ k : Nat,k ≤ l.length ∧ m = l.length - k ∧ (∀ i y,i < k → l[i]? = some y → (n == y) = false) ∧ st = ixSt l n k) = J at *
   simp only [ixSt]
   refine wk (an5 @g1 @g2 @g3 @g4 @hp) ?_
   exact hnx
 ·have hk' : k = l.length:=by omega
  subst hk'
  have g1 : ¬ (l.length : Int) < (l.length : Int):=by omega
  rw [idxG_no (fun i y hy => hb i y (List.getElem?_eq_some_iff.1 hy).1 hy)]
  simp only [ixSt]
  refine wk @g1 ?_
  exact ValsLe.refl _
theorem contains_told (l : List Int) (n : Int) (hl : l.length ≤ 9223372036854775807) : Told Try.prog 80 [sD 1 (l.map vI),vI n] [vB (l.contains n)]:=by
 refine told_slices_Contains rfl ?_
 rw [← idxG_contains]
 refine wk0 ?_
 refine cg0 [[vI (idxG (fun y => n == y) l)]] ?_ ?_
 ·exact obl_cons (index_told l n hl) obl_nil
 refine wk0 ?_
 exact ValsLe.refl _
def goneP (c x : Ch) : Bool:=c.kind == 2 && cameL c x.number
theorem cameS_told (c x : Ch) (he : c.early.length ≤ 9223372036854775807) : Told Try.prog 79 [aD (encCh x),jD 0 0 (encCh c)] [vB (goneP c x)]:=by
 refine told_send_cameByS1 rfl ?_
 simp only [encCh]
 unfold goneP
 cases hk : (c.kind == 2) with
 | false =>
  refine wk @hk ?_
  exact ValsLe.refl _
 | true =>
  unfold cameL
  by_cases hn : x.number < c.number
  ·rw [decide_eq_true hn]
   refine wk (an2 @hk @hn) ?_
   exact ValsLe.refl _
  ·rw [decide_eq_false hn]
   refine wk (an2 @hk @hn) ?_
   refine cg0 [[vB (c.early.contains x.number)]] ?_ ?_
   ·exact obl_cons (contains_told c.early x.number he) obl_nil
   refine wk0 ?_
   exact ValsLe.refl _
theorem cameBy_told (c : Ch) : Told Try.prog 67 [aD (encCh c)] [jD 1 79 (encCh c)]:=by
 refine told_send_cameBy rfl ?_
 simp only [encCh]
 refine wk0 ?_
 exact ValsLe.refl _
theorem callS : callableB Try.prog 79 = true:=by kernel_rfl
end Go.Proofs.Ytgaofjiidedcbad.ab
