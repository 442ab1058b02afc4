import Derived.Test.YtgfljlmonaifgabM24
import Derived.Test.YtgfljlmonaifgabM23
set_option maxHeartbeats 4000000
set_option linter.unusedVariables false
set_option linter.unusedSimpArgs false
namespace Go.Proofs.Ytgfljlmonaifgab.leaf
set_option maxRecDepth 10000
open Go.RowKit
open mth
theorem owns_two (u : World) (x y : Int) (n : Nat) (hn : u.heap.size = n) : (u.alloc (.cells #[.int .u8 x,.int .u8 y] 5)).ownsRow n 5 1 (.slice (some ⟨n,0,none⟩) 2 2) 2 [.int .u8 x,.int .u8 y]:=by
 subst hn
 exact owns_made (cur:=[.int .u8 x,.int .u8 y]) (heap_alloc_new u _) (Nat.le_refl _) (Nat.le_refl _) (by unfold maxLen; omega) rfl rfl
theorem far_cell {U w1 : World} {row : Option Nat} {g o : Nat} {u : Value} (hg : U.grownBy w1 row) (hr : row ≠ some g) (h : U.cell? ⟨g,o,none⟩ = some u) : w1.cell? ⟨g,o,none⟩ = some u :=
 (hg.cell_far ⟨g,o,none⟩ (World.block_lt_of_cell? U _ h) (fun e => hr e.symm)).trans h
theorem box_two (w : World) (cs : Array Value) (t : TypeId) (o1 o2 : Obj) (j : Nat) : (((w.alloc (.cells cs t)).alloc o1).alloc o2).cell? ⟨w.heap.size,j,none⟩ = cs[j]?:=by
 refine cell_of_row _ w.heap.size j cs t (0,0) ?_
 rw [Below.heap_alloc _ _ _ (by simp; omega),Below.heap_alloc _ _ _ (by simp)]
 exact heap_alloc_new w _
theorem two_B (x y : Int) (hx : 0 ≤ x ∧ x ≤ 255) (hy : 0 ≤ y ∧ y ≤ 255) : [Value.int .u8 x,Value.int .u8 y] = [b8 x,b8 y].map B:=by
 simp [B,b8_toNat hx,b8_toNat hy]
theorem seal_at (a : Option Addr) (n cap : Nat) (xs : List UInt8) (w : World) (h : Bs w (.slice a n cap) xs) (hr : n + 2 ≤ 140737488355328) :
  Calls Try.prog 103 #[.slice a n cap] w fun e w' => ∃ v',e = .returned v' ∧ w'.ownsRow w.heap.size 5 1 v' (n + 2) ((sealL xs).map B) ∧ Below w.heap.size w w':=by
 obtain rfl : xs.length = n:=(Bs_news h).1
 exact (seal_any a cap xs w h hr).mono fun e w' ⟨h1,h2,h3⟩ => ⟨_,h1,h2,h3⟩
theorem landBytes_one (number stream place : Int) (b : Option Addr) (lb cb : Nat) (data : List UInt8) (a : Option Addr) (ca : Nat) (w : World) (hd : Bs w (.slice b lb cb) data) (h6 : lb ≤ 6)
  (hn : 0 ≤ number ∧ number ≤ 40) (hs : 0 ≤ stream ∧ stream ≤ 2) (hp : 0 ≤ place ∧ place ≤ 40) (X : List UInt8) (hX : Hid (X = [b8 1,b8 number,b8 stream,b8 place] ++ data)) :
  Calls Try.prog 77 #[.agg #[.int .i64 1,.int .i64 number,.int .i64 stream,.int .i64 place,.slice b lb cb,.slice a 0 ca]] w fun e w' => ∃ v',e = .returned v' ∧ w'.ownsRow w.heap.size 5 1 v' (lb + 6) ((sealL X).map B) ∧ Below w.heap.size w w':=by
 obtain ⟨i5,hi5,hz50,hz51,hz52⟩:=info_parts info5
 have hl : lb = data.length:=(Bs_news hd).1.symm
 have HL:=hide hl
 have HD:=hide hd
 have hbU : Below w.heap.size w (((w.alloc (.cells #[.int .i64 1,.int .i64 number,.int .i64 stream,.int .i64 place,.slice b lb cb,.slice a 0 ca] 32)).alloc (.cells #[.int .u8 1,.int .u8 number] 5)).alloc (.cells #[.int .u8 stream,.int .u8 place] 5)) :=
  (((Below.refl _ _).alloc (Nat.le_refl _) _).alloc (by simp) _).alloc (by simp; omega) _
 have HBU:=hide hbU
 clear hd hl hbU
 go_enter Try.func77,Try.ntmps77
 go_wp2_with (first
  | (at_builtin; refine wpList_append_own _ rfl (.tmp 17) (.tmp 24) 30 rfl (w.heap.size + 1) 5 i5 (.int .u8 0) 1 1 Try.underlying30 hi5 hz50 hz51 hz52 rfl (by decide) (.slice (some ⟨w.heap.size + 1,0,none⟩) 2 2) 2 [.int .u8 1,.int .u8 number] rfl ((owns_two _ 1 number (w.heap.size + 1) (by simp)).alloc _) ⟨w.heap.size + 2,0,none⟩ 2 2 [.int .u8 stream,.int .u8 place] rfl rfl (two_new' _ _ _ _ (by simp)) (two_one _ _) (by unfold maxLen; omega) (by omega) (by simp) ?_; go_must (intro v1 w1 hown1 hgrow1 hnil1; clear hnil1; have hc1 : w1.cell? ⟨w.heap.size,4,none⟩ = some (.slice b lb cb):=far_cell hgrow1 (by simp [Value.ownBlock]) (by rw [box_two]; rfl); have HB1:=hide (HBU.out.grown hgrow1 (by simp; omega) (fun k hk => by simp [Value.ownBlock] at hk; omega)); have hz1 : w.heap.size + 3 ≤ w1.heap.size:=(by have:=hgrow1.size; simpa using this); have HO1:=hide hown1; clear hown1 hgrow1))
  | (at_builtin; go_must (have HS:=hide (Bs_news (HD.out.later HB1.out)); refine wpList_append_opt rfl (.tmp 26) (.tmp 28) 30 rfl (w.heap.size + 1) 5 i5 (.int .u8 0) 1 Try.underlying30 hi5 hz50 hz51 hz52 rfl v1 (2 + 2) ([.int .u8 1,.int .u8 number] ++ [.int .u8 stream,.int .u8 place]) rfl HO1.out b lb cb (data.map B) rfl (by rw [List.length_map]; exact HS.out.1) HS.out.2.1 HS.out.2.2.1 HS.out.2.2.2 (B_one data) (by unfold maxLen; omega) (by omega) (by omega) ?_; intro a2 c2 w2 hown2 hgrow2; have HO2:=hide hown2; have HG2:=hide hgrow2; clear hown2 hgrow2 HS))
  | (go_at_call 103; go_must (have hv : Bs w2 (.slice a2 (4 + lb) c2) X:=owns_Bs (base:=w.heap.size + 1) (n:=4 + lb) (by have h:=HO2.out; rw [two_B 1 number (by omega) (by omega),two_B stream place (by omega) (by omega),← List.map_append,← List.map_append] at h; rw [hX.out]; exact h); refine (seal_at a2 (4 + lb) c2 X w2 hv (by omega)).mono ?_; rintro e w3 ⟨v3,rfl,hown3,hb3⟩; have HO3:=hide hown3; have HB3:=hide hb3; clear hv hown3 hb3)))
 go_ret
 have h2 : Below w.heap.size w w2:=HB1.out.grown HG2.out (by omega) (fun k hk => by have:=(HO1.out.lt k hk).1; omega)
 refine ⟨_,rfl,?_,h2.trans (HB3.out.mono h2.size)⟩
 have h3:=owns_base HO3.out h2.size
 rw [show 4 + lb + 2 = lb + 6 by omega] at h3
 exact h3
theorem owns_form {w : World} {base e n : Nat} {v : Value} {xs : List Value} (h : w.ownsRow base e 1 v n xs) : ∃ a c,v = .slice a n c:=by
 obtain ⟨h1,⟨rfl,h0⟩ | ⟨g,cap,cur,rfl,_⟩⟩:=h
 ·subst h0; exact ⟨none,0,rfl⟩
 ·exact ⟨_,_,rfl⟩
theorem one_newB' (w : World) (v : Value) : ∀ (j : Nat) (u : Value),[v][j]? = some u → (w.alloc (.cells #[v] 5)).cell? ((⟨w.heap.size,0,none⟩ : Addr).add j) = some u:=by
 intro j u hj
 rw [Addr.add_lit,Nat.zero_add,World.cell?_alloc_mark]
 simpa using hj
theorem one_oneB' (n : Int) : ∀ u ∈ [Value.int .u8 n],u.oneCell' = true:=by
 intro u hu
 simp at hu
 subst hu
 rfl
theorem snoc_B (L : List UInt8) (x : Int) (hx : 0 ≤ x ∧ x ≤ 255) : L.map B ++ [Value.int .u8 x] = (L ++ [b8 x]).map B:=by
 simp [B,b8_toNat hx]
theorem landBytes_two (number : Int) (b : Option Addr) (cb : Nat) (a : Option Addr) (ca : Nat) (early : List Int) (w : World) (he : Is w (.slice a early.length ca) early) (h3 : early.length ≤ 3)
  (hn : 0 ≤ number ∧ number ≤ 40) (hr : ∀ x ∈ early,0 ≤ x ∧ x ≤ 39) (X : List UInt8) (hX : Hid (X = [b8 2,b8 number] ++ early.map b8)) :
  Calls Try.prog 77 #[.agg #[.int .i64 2,.int .i64 number,.int .i64 0,.int .i64 0,.slice b 0 cb,.slice a early.length ca]] w fun e w' => ∃ v',e = .returned v' ∧ w'.ownsRow w.heap.size 5 1 v' (early.length + 4) ((sealL X).map B) ∧ Below w.heap.size w w':=by
 obtain ⟨i5,hi5,hz50,hz51,hz52⟩:=info_parts info5
 have HE:=hide he
 have HR:=hide hr
 clear he hr
 go_enter Try.func77,Try.ntmps77
 go_wp2_with fail
 have hbs : Below w.heap.size w ((w.alloc (.cells #[.int .i64 2,.int .i64 number,.int .i64 0,.int .i64 0,.slice b 0 cb,.slice a early.length ca] 32)).alloc (.cells #[.int .u8 2,.int .u8 number] 5)) :=
  ((Below.refl _ _).alloc (Nat.le_refl _) _).alloc (by simp) _
 go_loopw [3,35] (fun s i wr => ∃ (k : Nat) (a1 : Option Addr) (c1 : Nat),k ≤ early.length ∧ i = .int .i64 k ∧ s = .slice a1 (2 + k) c1 ∧ wr.ownsRow (w.heap.size + 1) 5 1 s (2 + k) (([b8 2,b8 number] ++ (early.take k).map b8).map B) ∧ w.heap.size + 1 ≤ wr.heap.size ∧ Below w.heap.size w wr) (fun _ i _ => early.length - (intOf i).toNat)
 case atStart =>
  refine ⟨0,_,_,Nat.zero_le _,rfl,rfl,?_,by simp,hbs⟩
  have e : (([b8 2,b8 number] ++ (early.take 0).map b8).map B) = [Value.int .u8 2,Value.int .u8 number]:=(two_B 2 number (by omega) (by omega)).symm
  rw [e]
  exact owns_two _ 2 number (w.heap.size + 1) (by simp)
 case round =>
  obtain ⟨k,a1,c1,hk,rfl,rfl,hown,hz,hbr⟩:=hrel
  clear hbs
  by_cases hlt : k < early.length
  ·obtain ⟨x,hx⟩:=some_at hlt
   obtain ⟨ba,oa,rfl,hca⟩:=(HE.out.later hbr).at (by omega)
   have h1:=hca k x hx
   have hx9:=HR.out x (List.mem_of_getElem? hx)
   have hlt' : (k : Int) < (early.length : Int):=by omega
   have HX:=hide (map_snoc early k x hx [b8 2,b8 number])
   have HBR:=hide hbr
   have HO:=hide hown
   clear hca hx hbr hown
   generalize ([b8 2,b8 number] ++ (early.take k).map b8) = L at *
   go_wp2_with (at_builtin; go_must (refine wpList_append_own _ rfl (.tmp 39) (.tmp 42) 30 rfl (w.heap.size + 1) 5 i5 (.int .u8 0) 1 1 Try.underlying30 hi5 hz50 hz51 hz52 rfl (by decide) (.slice a1 (2 + k) c1) (2 + k) (L.map B) rfl (HO.out.alloc _) ⟨wr.heap.size,0,none⟩ 1 1 [.int .u8 x] rfl rfl (one_newB' wr (.int .u8 x)) (one_oneB' x) (by unfold maxLen; omega) (by omega) (by simp; omega) ?_; intro v2 w2 hown2 hgrow2 hnil2; clear hnil2; have HO2:=hide hown2; have HG2:=hide hgrow2; clear hown2 hgrow2))
   go_roundw
   case rel =>
    obtain ⟨a2,c2,rfl⟩:=owns_form HO2.out
    have hb2 : Below w.heap.size w w2:=(HBR.out.alloc HBR.out.size _).grown HG2.out (by simp; omega) (fun q hq => by have:=(HO.out.lt q hq).1; omega)
    refine ⟨k + 1,a2,c2,by omega,by go_num,rfl,?_,by have:=HG2.out.size; simp at this; omega,hb2⟩
    rw [HX.out,← snoc_B L x (by omega)]
    exact HO2.out
   case measure => simp [intOf]; omega
  ·have hke : k = early.length:=by omega
   subst hke
   rw [List.take_of_length_le (Nat.le_refl _),← hX.out] at hown
   have HV:=hide (owns_Bs hown)
   have HBR:=hide hbr
   clear hown hbr
   go_wp2_with (go_at_call 103; go_must (refine (seal_at a1 (2 + early.length) c1 X wr HV.out (by omega)).mono ?_; rintro e w3 ⟨v3,rfl,hown3,hb3⟩; have HO3:=hide hown3; have HB3:=hide hb3; clear hown3 hb3))
   go_ret
   refine ⟨_,rfl,?_,HBR.out.trans (HB3.out.mono HBR.out.size)⟩
   have h3:=owns_base HO3.out HBR.out.size
   rw [show 2 + early.length + 2 = early.length + 4 by omega] at h3
   exact h3
theorem landBytes_any : ∀ v c w,Cv w v c → wrongL c = 0 → Calls Try.prog 77 #[v] w fun e w' => ∃ v',e = .returned v' ∧ w'.ownsRow w.heap.size 5 1 v' ((bodyL c).length + 2) ((sealL (bodyL c)).map B) ∧ Below w.heap.size w w':=by
 intro v c w h hc
 obtain ⟨dv,ev,rfl,hd,he,hm,k1,k2,k3,k4⟩:=h
 have hcs:=right_cases c hc
 obtain ⟨kind,number,stream,place,data,early⟩:=c
 simp only at *
 rcases hcs with ⟨rfl,h2,h3,h4,h5,rfl⟩ | ⟨rfl,h2,rfl,rfl,rfl,h6,h7⟩
 ·obtain ⟨a,ca,rfl,hla,hma⟩:=he.shape
  have hd':=hd
  obtain ⟨b,cb,rfl,-⟩:=hd'
  have:=landBytes_one number stream place b data.length cb data a ca w hd h5 (by omega) (by omega) (by omega) _ rfl
  simpa [bodyL,Nat.add_assoc] using this
 ·obtain ⟨a,ca,rfl,hla,hma⟩:=he.shape
  obtain ⟨b,cb,rfl,-⟩:=hd
  have:=landBytes_two number b cb a ca early w he h6 (by omega) (fun x hx => by have:=rises_mem _ _ h7 x hx; omega) _ rfl
  simpa [bodyL,Nat.add_assoc] using this
set_option maxRecDepth 10000
theorem landWrongMsg_any (s : Int) (dv : Value) (d : List UInt8) (w : World) (hd : Bs w dv d) (hm : d.length ≤ maxLen) :
    Calls Try.prog 111 #[.agg #[.int .i64 s, dv]] w fun e w' => e = .returned (.int .i64 (wrongMsgL s d)) ∧ Below w.heap.size w w' := by
  obtain ⟨a, cap, rfl, -⟩ := hd
  unfold maxLen at hm
  go_enter Try.func111, Try.ntmps111
  go_wp2
  all_goals
    go_ret
    exact ⟨ite3 s d _ (by repeat' split
                          all_goals omega), (Below.refl _ _).alloc (Nat.le_refl _) _⟩
theorem landWrongData (kind number stream place : Int) (b : Option Addr) (cb : Nat) (data : List UInt8) (a : Option Addr) (ca : Nat) (early : List Int) (w : World) (hd : Bs w (.slice b data.length cb) data) (hm : data.length ≤ maxLen) (hma : early.length ≤ maxLen) (hn : number ≤ 40)
  (r : Int) (hr : Hid (r = if 39 < number ∨ place < 0 ∨ number < place then 3 else if early.length ≠ 0 then 5 else wrongMsgL stream data)) :
  Calls Try.prog 120 #[.agg #[.int .i64 kind,.int .i64 number,.int .i64 stream,.int .i64 place,.slice b data.length cb,.slice a early.length ca]] w fun e w' => e = .returned (.int .i64 r) ∧ Below w.heap.size w w':=by
 have hb0 : Below w.heap.size w (w.alloc (.cells #[.int .i64 kind,.int .i64 number,.int .i64 stream,.int .i64 place,.slice b data.length cb,.slice a early.length ca] 32)):=(Below.refl _ _).alloc (Nat.le_refl _) _
 have HB0:=hide hb0
 have HM:=hide hm
 have HD:=hide hd
 clear hb0 hd
 unfold maxLen at hm hma
 by_cases h40 : number = 40
 ·subst h40
  have h3 : r = 3:=by rw [hr.out,if_pos (by omega)]
  subst h3
  clear hr
  go_enter Try.func120,Try.ntmps120
  go_wp2
  go_ret
  exact ⟨rfl,HB0.out⟩
 ·have h40' : (number == 40) = false:=by simpa using h40
  have H40:=hide h40
  clear h40
  go_enter Try.func120,Try.ntmps120
  go_wp2_with (go_at_call 111; refine (landWrongMsg_any stream (.slice b data.length cb) data _ (HD.out.later HB0.out) HM.out).mono ?_; rintro e w1 ⟨rfl,hb1⟩)
  all_goals
   go_ret
   refine ⟨ret_eq ?_,by first | exact HB0.out | exact HB0.out.trans (hb1.mono HB0.out.size)⟩
   rw [hr.out]
   clear hr
   have h40:=H40.out
   repeat' split
   all_goals first | rfl | omega
theorem rises_any (a : Option Addr) (ca : Nat) (l : List Int) (low : Int) (w : World) (he : Is w (.slice a l.length ca) l) :
  Calls Try.prog 124 #[.slice a l.length ca,.int .i64 low] w fun e w' => e = .returned (.bool (risesL low l)) ∧ w = w':=by
 obtain ⟨r,hr⟩ : ∃ r,r = risesL low l:=⟨_,rfl⟩
 rw [← hr]
 have hml : l.length ≤ maxLen:=by obtain ⟨a',c',-,h1,h2⟩:=he.shape; omega
 unfold maxLen at hml
 by_cases h0 : l.length = 0
 ·obtain rfl : l = []:=List.eq_nil_of_length_eq_zero h0
  have hr0 : r = true:=hr
  subst hr0
  clear he hr h0
  go_enter Try.func124,Try.ntmps124
  go_wp2
  refine wp_loop_rounds 1 ?_
  rw [rounds_succ]
  go_wp2
  go_ret
  exact ⟨rfl,rfl⟩
 ·obtain ⟨ba,oa,rfl,hca⟩:=he.at h0
  have HA:=hide hca
  have HI:=hide he.num
  have HR:=hide hr
  clear he hca hr
  go_enter Try.func124,Try.ntmps124
  go_wp2
  go_loop [1,9] (fun lo i => ∃ (k : Nat) (low' : Int),k ≤ l.length ∧ i = .int .i64 k ∧ lo = .int .i64 low' ∧ risesL low l = risesL low' (l.drop k)) (fun _ i => l.length - (intOf i).toNat)
  case atStart => exact ⟨0,low,Nat.zero_le _,rfl,rfl,rfl⟩
  case round =>
   obtain ⟨k,low',hk,rfl,rfl,hrs⟩:=hrel
   have HRS:=hide hrs
   clear hrs
   by_cases hlt : k < l.length
   ·obtain ⟨x,hx⟩:=some_at hlt
    have h1:=HA.out k x hx
    have hlt' : (k : Int) < (l.length : Int):=by omega
    have HD:=hide (rises_drop low' l k x hx)
    have hxi:=HI.out x (List.mem_of_getElem? hx)
    unfold I64 at hxi
    clear hx
    by_cases hbad : x ≤ low' ∨ 40 ≤ x
    ·have hf : risesL low l = false:=by
      rw [HRS.out,HD.out]
      simp only [Bool.and_eq_false_iff,decide_eq_false_iff_not]
      omega
     have hr3 : r = false:=by rw [HR.out,hf]
     subst hr3
     clear HR HRS HD hf
     by_cases hxl : x ≤ low'
     ·go_wp2
      go_ret
      exact ⟨rfl,rfl⟩
     ·have hx4 : 40 ≤ x:=by omega
      clear hbad
      go_wp2
      go_ret
      exact ⟨rfl,rfl⟩
    ·have hg1 : low' < x:=by omega
     have hg2 : x < 40:=by omega
     clear hbad
     go_wp2
     go_round
     case rel => exact ⟨k + 1,x,by omega,by go_num,rfl,by rw [HRS.out,HD.out]; simp [hg1]; omega⟩
     case measure => simp [intOf]; omega
   ·have ht : risesL low l = true:=by
     rw [HRS.out,List.drop_eq_nil_of_le (by omega)]; rfl
    have hr0 : r = true:=by rw [HR.out,ht]
    subst hr0
    clear HR HRS ht
    go_wp2
    go_ret
    exact ⟨rfl,rfl⟩
theorem landWrongAck (kind number stream place : Int) (b : Option Addr) (cb : Nat) (data : List UInt8) (a : Option Addr) (ca : Nat) (early : List Int) (w : World) (he : Is w (.slice a early.length ca) early) (hm : data.length ≤ maxLen) (hma : early.length ≤ maxLen)
  (r : Int) (hr : Hid (r = if stream ≠ 0 ∨ place ≠ 0 then 3 else if data.length ≠ 0 ∨ 3 < early.length then 5 else if risesL number early = true then 0 else 3)) :
  Calls Try.prog 121 #[.agg #[.int .i64 kind,.int .i64 number,.int .i64 stream,.int .i64 place,.slice b data.length cb,.slice a early.length ca]] w fun e w' => e = .returned (.int .i64 r) ∧ Below w.heap.size w w':=by
 have hb0 : Below w.heap.size w (w.alloc (.cells #[.int .i64 kind,.int .i64 number,.int .i64 stream,.int .i64 place,.slice b data.length cb,.slice a early.length ca] 32)):=(Below.refl _ _).alloc (Nat.le_refl _) _
 have HB0:=hide hb0
 have HE:=hide (he.later hb0)
 clear hb0 he
 unfold maxLen at hm hma
 by_cases hs : stream = 0
 ·have hs' : (stream != 0) = false:=by simpa using hs
  have HS:=hide hs
  clear hs
  by_cases hp : place = 0
  ·have hp' : (place != 0) = false:=by simpa using hp
   have HP:=hide hp
   clear hp
   by_cases hd : 0 < data.length ∨ 3 < early.length
   ·have h5 : r = 5:=by
     have h1:=HS.out
     have h2:=HP.out
     rw [hr.out,if_neg (by omega),if_pos (by omega)]
    subst h5
    clear hr
    by_cases hd1 : data.length = 0
    ·have hd2 : 3 < early.length:=by omega
     clear hd
     rw [hd1] at HB0 ⊢
     go_enter Try.func121,Try.ntmps121
     go_wp2
     go_ret
     exact ⟨rfl,HB0.out⟩
    ·have hd2 : 0 < data.length:=by omega
     clear hd hd1
     go_enter Try.func121,Try.ntmps121
     go_wp2
     go_ret
     exact ⟨rfl,HB0.out⟩
   ·have hd1 : data.length = 0:=by omega
    have hd2 : early.length ≤ 3:=by omega
    have h5 : r = if risesL number early = true then 0 else 3:=by
     have h1:=HS.out
     have h2:=HP.out
     rw [hr.out,if_neg (by omega),if_neg (by omega)]
    clear hr hd
    rw [hd1]
    cases ht : risesL number early with
    | true =>
     rw [ht,if_pos rfl] at h5
     subst h5
     have HT:=hide ht
     clear ht
     go_enter Try.func121,Try.ntmps121
     go_wp2_with (go_at_call 124; refine (rises_any a ca early number _ (by have h:=HE.out; rw [hd1] at h; exact h)).mono ?_; rintro e w1 ⟨rfl,rfl⟩; rw [HT.out])
     go_ret
     exact ⟨rfl,by have h:=HB0.out; rw [hd1] at h; exact h⟩
    | false =>
     rw [ht,if_neg (by simp)] at h5
     subst h5
     have HT:=hide ht
     clear ht
     go_enter Try.func121,Try.ntmps121
     go_wp2_with (go_at_call 124; refine (rises_any a ca early number _ (by have h:=HE.out; rw [hd1] at h; exact h)).mono ?_; rintro e w1 ⟨rfl,rfl⟩; rw [HT.out])
     go_ret
     exact ⟨rfl,by have h:=HB0.out; rw [hd1] at h; exact h⟩
  ·have hp' : (place != 0) = true:=by simpa using hp
   have h3 : r = 3:=by rw [hr.out,if_pos (.inr hp)]
   subst h3
   clear hr hp
   go_enter Try.func121,Try.ntmps121
   go_wp2
   go_ret
   exact ⟨rfl,HB0.out⟩
 ·have hs' : (stream != 0) = true:=by simpa using hs
  have h3 : r = 3:=by rw [hr.out,if_pos (.inl hs)]
  subst h3
  clear hr hs
  go_enter Try.func121,Try.ntmps121
  go_wp2
  go_ret
  exact ⟨rfl,HB0.out⟩
theorem landWrong_kind (kind number stream place : Int) (dv ev : Value) (w : World) (h1 : (kind != 1) = true) (h2 : (kind != 2) = true) :
  Calls Try.prog 108 #[.agg #[.int .i64 kind,.int .i64 number,.int .i64 stream,.int .i64 place,dv,ev]] w fun e w' => e = .returned (.int .i64 1) ∧ Below w.heap.size w w':=by
 go_enter Try.func108,Try.ntmps108
 go_wp2
 go_ret
 exact ⟨rfl,(Below.refl _ _).alloc (Nat.le_refl _) _⟩
theorem landWrong_one (number stream place : Int) (b : Option Addr) (cb : Nat) (data : List UInt8) (a : Option Addr) (ca : Nat) (early : List Int) (w : World) (hd : Bs w (.slice b data.length cb) data) (hm : data.length ≤ maxLen) (hma : early.length ≤ maxLen)
    (r : Int) (hr : Hid (r = wrongL ⟨1, number, stream, place, data, early⟩)) :
    Calls Try.prog 108 #[.agg #[.int .i64 1, .int .i64 number, .int .i64 stream, .int .i64 place, .slice b data.length cb, .slice a early.length ca]] w fun e w' => e = .returned (.int .i64 r) ∧ Below w.heap.size w w' := by
  have hb0 : Below w.heap.size w (w.alloc (.cells #[.int .i64 1, .int .i64 number, .int .i64 stream, .int .i64 place, .slice b data.length cb, .slice a early.length ca] 32)) := (Below.refl _ _).alloc (Nat.le_refl _) _
  have HB0 := hide hb0
  have HM := hide hm
  have HMA := hide hma
  have HD := hide hd
  clear hb0 hd hm hma
  have HR : Hid (r = _) := hr.out.trans (wrongL_one number stream place data early)
  clear hr
  by_cases hn : number < 0 ∨ 40 < number
  · have h3 : r = 3 := by rw [HR.out, if_pos hn]
    subst h3
    clear HR
    go_enter Try.func108, Try.ntmps108
    go_wp2
    all_goals first
      | omega
      | (go_ret
         exact ⟨rfl, HB0.out⟩)
  · have h1 : 0 ≤ number := by omega
    have h2 : number ≤ 40 := by omega
    have HR2 : Hid (r = _) := HR.out.trans (if_neg hn)
    clear hn HR
    go_enter Try.func108, Try.ntmps108
    go_wp2_with (go_at_call 120; refine (landWrongData 1 number stream place b cb data a ca early _ (HD.out.later HB0.out) HM.out HMA.out h2 r HR2).mono ?_; rintro e w1 ⟨rfl, hb1⟩)
    go_ret
    exact ⟨rfl, HB0.out.trans (hb1.mono HB0.out.size)⟩
theorem landWrong_two (number stream place : Int) (b : Option Addr) (cb : Nat) (data : List UInt8) (a : Option Addr) (ca : Nat) (early : List Int) (w : World) (he : Is w (.slice a early.length ca) early) (hm : data.length ≤ maxLen) (hma : early.length ≤ maxLen)
    (r : Int) (hr : Hid (r = wrongL ⟨2, number, stream, place, data, early⟩)) :
    Calls Try.prog 108 #[.agg #[.int .i64 2, .int .i64 number, .int .i64 stream, .int .i64 place, .slice b data.length cb, .slice a early.length ca]] w fun e w' => e = .returned (.int .i64 r) ∧ Below w.heap.size w w' := by
  have hb0 : Below w.heap.size w (w.alloc (.cells #[.int .i64 2, .int .i64 number, .int .i64 stream, .int .i64 place, .slice b data.length cb, .slice a early.length ca] 32)) := (Below.refl _ _).alloc (Nat.le_refl _) _
  have HB0 := hide hb0
  have HM := hide hm
  have HMA := hide hma
  have HE := hide he
  clear hb0 he hm hma
  have HR : Hid (r = _) := hr.out.trans (wrongL_two number stream place data early)
  clear hr
  by_cases hn : number < 0 ∨ 40 < number
  · have h3 : r = 3 := by rw [HR.out, if_pos hn]
    subst h3
    clear HR
    go_enter Try.func108, Try.ntmps108
    go_wp2
    all_goals first
      | omega
      | (go_ret
         exact ⟨rfl, HB0.out⟩)
  · have h1 : 0 ≤ number := by omega
    have h2 : number ≤ 40 := by omega
    have HR2 : Hid (r = _) := HR.out.trans (if_neg hn)
    clear hn HR
    go_enter Try.func108, Try.ntmps108
    go_wp2_with (go_at_call 121; refine (landWrongAck 2 number stream place b cb data a ca early _ (HE.out.later HB0.out) HM.out HMA.out r HR2).mono ?_; rintro e w1 ⟨rfl, hb1⟩)
    go_ret
    exact ⟨rfl, HB0.out.trans (hb1.mono HB0.out.size)⟩
theorem landWrong_any (v : Value) (c : Ch) (w : World) (h : Cv w v c) :
  Calls Try.prog 108 #[v] w fun e w' => e = .returned (.int .i64 (wrongL c)) ∧ Below w.heap.size w w':=by
 obtain ⟨dv,ev,rfl,hd,he,hm,k1,k2,k3,k4⟩:=h
 obtain ⟨kind,number,stream,place,data,early⟩:=c
 simp only at *
 by_cases h1 : kind = 1
 ·subst h1
  obtain ⟨a,ca,rfl,hla,hma⟩:=he.shape
  have hd':=hd
  obtain ⟨b,cb,rfl,-⟩:=hd'
  exact landWrong_one number stream place b cb data a ca early w hd hm (by omega) _ rfl
 ·by_cases h2 : kind = 2
  ·subst h2
   obtain ⟨a,ca,rfl,hla,hma⟩:=he.shape
   obtain ⟨b,cb,rfl,-⟩:=hd
   exact landWrong_two number stream place b cb data a ca early w he hm (by omega) _ rfl
  ·rw [wrongL_kind _ h1 h2]
   exact landWrong_kind kind number stream place dv ev w (by simpa using h1) (by simpa using h2)
set_option maxRecDepth 10000
theorem one_newB (w : World) (v : Value) : ∀ (j : Nat) (u : Value),[v][j]? = some u → (w.alloc (.cells #[v] 5)).cell? ((⟨w.heap.size,0,none⟩ : Addr).add j) = some u:=by
 intro j u hj
 rw [Addr.add_lit,Nat.zero_add,World.cell?_alloc_mark]
 simpa using hj
theorem one_oneB (y : UInt8) : ∀ u ∈ [B y],u.oneCell' = true:=by
 intro u hu
 simp at hu
 subst hu
 rfl
theorem drop_snocB (x : List UInt8) (k : Nat) (y : UInt8) (hy : x[k]? = some y) (h4 : 4 ≤ k) : ((x.drop 4).take (k + 1 - 4)).map B = ((x.drop 4).take (k - 4)).map B ++ [B y]:=by
 have e : k + 1 - 4 = (k - 4) + 1:=by omega
 rw [e,List.take_add_one,List.getElem?_drop]
 have : 4 + (k - 4) = k:=by omega
 rw [this,hy]
 simp
theorem store_cell' {wr w2 : World} {ev : Value} {g : Nat} {o : Obj} {u : Value} {j : Nat} (hne : ∀ (q : Nat),ev.ownBlock = some q → g < q) (hg : ((wr.alloc o).drew).grownBy w2 ev.ownBlock) (hz : g < wr.heap.size) (h : wr.cell? ⟨g,j,none⟩ = some u) : w2.cell? ⟨g,j,none⟩ = some u:=by
 have h1:=hg.cell_far ⟨g,j,none⟩ (by simp; omega) (fun e => by have:=hne g e.symm; omega)
 rw [h1]
 have h2 : (wr.alloc o).drew.cell? ⟨g,j,none⟩ = wr.cell? ⟨g,j,none⟩:=World.cell?_of_block (w:=wr) (Below.heap_alloc wr o g hz)
 rw [h2,h]
theorem store_free' {wr w2 : World} {ev : Value} {g : Nat} {o : Obj} {j : Nat} (hne : ∀ (q : Nat),ev.ownBlock = some q → g < q) (hg : ((wr.alloc o).drew).grownBy w2 ev.ownBlock) (hz : g < wr.heap.size) (h : wr.frozen? ⟨g,j,none⟩ = false) : w2.frozen? ⟨g,j,none⟩ = false:=by
 have h1:=hg.frozen_far ⟨g,j,none⟩ (by simp; omega) (fun e => by have:=hne g e.symm; omega)
 rw [h1]
 have h2 : (wr.alloc o).drew.frozen? ⟨g,j,none⟩ = wr.frozen? ⟨g,j,none⟩:=World.frozen?_of_block (w:=wr) (Below.heap_alloc wr o g hz)
 rw [h2,h]
theorem len_openL (xs : List UInt8) : (openL xs).length ≤ xs.length:=by
 unfold openL; split <;> simp
end Go.Proofs.Ytgfljlmonaifgab.leaf
