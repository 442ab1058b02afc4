/-
  The contract of the program's bytes of a right chunk.
-/
import Derived.Test.YtlomffhofionnaaLandOwn
import Derived.Test.YtlomffhofionnaaBytes
namespace Go.Proofs.Ytlomffhofionnaa.leaf
set_option linter.unusedVariables false
open Go.RowKit
open mth

theorem owns_two (u : World) (x y : Int) (n : Nat) (hn : u.heap.size = n) : (u.alloc (.cells #[.int .u8 x, .int .u8 y] 5)).ownsRow n 5 1 (.slice (some ⟨n, 0, none⟩) 2 2) 2 [.int .u8 x, .int .u8 y] := by
  subst hn
  exact owns_made (cur := [.int .u8 x, .int .u8 y]) (heap_alloc_new u _) (Nat.le_refl _) (Nat.le_refl _) (by unfold maxLen; omega) rfl rfl
/-- An append leaves the other blocks as they were. -/
theorem far_cell {U w1 : World} {row : Option Nat} {g o : Nat} {u : Value} (hg : U.grownBy w1 row) (hr : row ≠ some g) (h : U.cell? ⟨g, o, none⟩ = some u) : w1.cell? ⟨g, o, none⟩ = some u :=
  (hg.cell_far ⟨g, o, none⟩ (World.block_lt_of_cell? U _ h) (fun e => hr e.symm)).trans h
theorem box_two (w : World) (cs : Array Value) (t : TypeId) (o1 o2 : Obj) (j : Nat) : (((w.alloc (.cells cs t)).alloc o1).alloc o2).cell? ⟨w.heap.size, j, none⟩ = cs[j]? := by
  refine cell_of_row _ w.heap.size j cs t (0, 0) ?_
  rw [Below.heap_alloc _ _ _ (by simp; omega), Below.heap_alloc _ _ _ (by simp)]
  exact heap_alloc_new w _
theorem two_B (x y : Int) (hx : 0 ≤ x ∧ x ≤ 255) (hy : 0 ≤ y ∧ y ≤ 255) : [Value.int .u8 x, Value.int .u8 y] = [b8 x, b8 y].map B := by
  simp [B, b8_toNat hx, b8_toNat hy]

theorem seal_at (a : Option Addr) (n cap : Nat) (xs : List UInt8) (w : World) (h : Bs w (.slice a n cap) xs) (hr : n + 2 ≤ 140737488355328) :
    Calls Try.prog 13 #[.slice a n cap] w fun e w' => ∃ v', e = .returned v' ∧ w'.ownsRow w.heap.size 5 1 v' (n + 2) ((sealL xs).map B) ∧ Below w.heap.size w w' := by
  obtain rfl : xs.length = n := (Bs_news h).1
  exact (seal_any a cap xs w h hr).mono fun e w' ⟨h1, h2, h3⟩ => ⟨_, h1, h2, h3⟩

set_option maxHeartbeats 4000000 in
theorem landBytes_one (number stream place : Int) (b : Option Addr) (lb cb : Nat) (data : List UInt8) (a : Option Addr) (ca : Nat) (w : World) (hd : Bs w (.slice b lb cb) data) (h6 : lb ≤ 6)
    (hn : 0 ≤ number ∧ number ≤ 40) (hs : 0 ≤ stream ∧ stream ≤ 2) (hp : 0 ≤ place ∧ place ≤ 40) (X : List UInt8) (hX : Hid (X = [b8 1, b8 number, b8 stream, b8 place] ++ data)) :
    Calls Try.prog 24 #[.agg #[.int .i64 1, .int .i64 number, .int .i64 stream, .int .i64 place, .slice b lb cb, .slice a 0 ca]] w fun e w' => ∃ v', e = .returned v' ∧ w'.ownsRow w.heap.size 5 1 v' (lb + 6) ((sealL X).map B) ∧ Below w.heap.size w w' := by
  obtain ⟨i5, hi5, hz50, hz51, hz52⟩ := info_parts info5
  have hl : lb = data.length := (Bs_news hd).1.symm
  have HL := hide hl
  have HD := hide hd
  have hbU : Below w.heap.size w (((w.alloc (.cells #[.int .i64 1, .int .i64 number, .int .i64 stream, .int .i64 place, .slice b lb cb, .slice a 0 ca] 32)).alloc (.cells #[.int .u8 1, .int .u8 number] 5)).alloc (.cells #[.int .u8 stream, .int .u8 place] 5)) :=
    (((Below.refl _ _).alloc (Nat.le_refl _) _).alloc (by simp) _).alloc (by simp; omega) _
  have HBU := hide hbU
  clear hd hl hbU
  go_enter Try.func24, Try.ntmps24
  go_wp2_with (first
    | (at_builtin; refine wpList_append_own _ rfl (.tmp 17) (.tmp 24) 22 rfl (w.heap.size + 1) 5 i5 (.int .u8 0) 1 1 Try.underlying22 hi5 hz50 hz51 hz52 rfl (by decide) (.slice (some ⟨w.heap.size + 1, 0, none⟩) 2 2) 2 [.int .u8 1, .int .u8 number] rfl ((owns_two _ 1 number (w.heap.size + 1) (by simp)).alloc _) ⟨w.heap.size + 2, 0, none⟩ 2 2 [.int .u8 stream, .int .u8 place] rfl rfl (two_new' _ _ _ _ (by simp)) (two_one _ _) (by unfold maxLen; omega) (by omega) (by simp) ?_; go_must (intro v1 w1 hown1 hgrow1 hnil1; clear hnil1; have hc1 : w1.cell? ⟨w.heap.size, 4, none⟩ = some (.slice b lb cb) := far_cell hgrow1 (by simp [Value.ownBlock]) (by rw [box_two]; rfl); have HB1 := hide (HBU.out.grown hgrow1 (by simp; omega) (fun k hk => by simp [Value.ownBlock] at hk; omega)); have hz1 : w.heap.size + 3 ≤ w1.heap.size := (by have := hgrow1.size; simpa using this); have HO1 := hide hown1; clear hown1 hgrow1))
    | (at_builtin; go_must (have HS := hide (Bs_news (HD.out.later HB1.out)); refine wpList_append_opt rfl (.tmp 26) (.tmp 28) 22 rfl (w.heap.size + 1) 5 i5 (.int .u8 0) 1 Try.underlying22 hi5 hz50 hz51 hz52 rfl v1 (2 + 2) ([.int .u8 1, .int .u8 number] ++ [.int .u8 stream, .int .u8 place]) rfl HO1.out b lb cb (data.map B) rfl (by rw [List.length_map]; exact HS.out.1) HS.out.2.1 HS.out.2.2.1 HS.out.2.2.2 (B_one data) (by unfold maxLen; omega) (by omega) (by omega) ?_; intro a2 c2 w2 hown2 hgrow2; have HO2 := hide hown2; have HG2 := hide hgrow2; clear hown2 hgrow2 HS))
    | (go_at_call 13; go_must (have hv : Bs w2 (.slice a2 (4 + lb) c2) X := owns_Bs (base := w.heap.size + 1) (n := 4 + lb) (by have h := HO2.out; rw [two_B 1 number (by omega) (by omega), two_B stream place (by omega) (by omega), ← List.map_append, ← List.map_append] at h; rw [hX.out]; exact h); refine (seal_at a2 (4 + lb) c2 X w2 hv (by omega)).mono ?_; rintro e w3 ⟨v3, rfl, hown3, hb3⟩; have HO3 := hide hown3; have HB3 := hide hb3; clear hv hown3 hb3)))
  go_ret
  have h2 : Below w.heap.size w w2 := HB1.out.grown HG2.out (by omega) (fun k hk => by have := (HO1.out.lt k hk).1; omega)
  refine ⟨_, rfl, ?_, h2.trans (HB3.out.mono h2.size)⟩
  have h3 := owns_base HO3.out h2.size
  rw [show 4 + lb + 2 = lb + 6 by omega] at h3
  exact h3

theorem owns_form {w : World} {base e n : Nat} {v : Value} {xs : List Value} (h : w.ownsRow base e 1 v n xs) : ∃ a c, v = .slice a n c := by
  obtain ⟨h1, ⟨rfl, h0⟩ | ⟨g, cap, cur, rfl, _⟩⟩ := h
  · subst h0; exact ⟨none, 0, rfl⟩
  · exact ⟨_, _, rfl⟩
theorem one_newB' (w : World) (v : Value) : ∀ (j : Nat) (u : Value), [v][j]? = some u → (w.alloc (.cells #[v] 5)).cell? ((⟨w.heap.size, 0, none⟩ : Addr).add j) = some u := by
  intro j u hj
  rw [Addr.add_lit, Nat.zero_add, World.cell?_alloc_mark]
  simpa using hj
theorem one_oneB' (n : Int) : ∀ u ∈ [Value.int .u8 n], u.oneCell' = true := by
  intro u hu
  simp at hu
  subst hu
  rfl
theorem snoc_B (L : List UInt8) (x : Int) (hx : 0 ≤ x ∧ x ≤ 255) : L.map B ++ [Value.int .u8 x] = (L ++ [b8 x]).map B := by
  simp [B, b8_toNat hx]

set_option maxHeartbeats 4000000 in
theorem landBytes_two (number : Int) (b : Option Addr) (cb : Nat) (a : Option Addr) (ca : Nat) (early : List Int) (w : World) (he : Is w (.slice a early.length ca) early) (h3 : early.length ≤ 3)
    (hn : 0 ≤ number ∧ number ≤ 40) (hr : ∀ x ∈ early, 0 ≤ x ∧ x ≤ 39) (X : List UInt8) (hX : Hid (X = [b8 2, b8 number] ++ early.map b8)) :
    Calls Try.prog 24 #[.agg #[.int .i64 2, .int .i64 number, .int .i64 0, .int .i64 0, .slice b 0 cb, .slice a early.length ca]] w fun e w' => ∃ v', e = .returned v' ∧ w'.ownsRow w.heap.size 5 1 v' (early.length + 4) ((sealL X).map B) ∧ Below w.heap.size w w' := by
  obtain ⟨i5, hi5, hz50, hz51, hz52⟩ := info_parts info5
  have HE := hide he
  have HR := hide hr
  clear he hr
  go_enter Try.func24, Try.ntmps24
  go_wp2_with fail
  have hbs : Below w.heap.size w ((w.alloc (.cells #[.int .i64 2, .int .i64 number, .int .i64 0, .int .i64 0, .slice b 0 cb, .slice a early.length ca] 32)).alloc (.cells #[.int .u8 2, .int .u8 number] 5)) :=
    ((Below.refl _ _).alloc (Nat.le_refl _) _).alloc (by simp) _
  go_loopw [3, 35] (fun s i wr => ∃ (k : Nat) (a1 : Option Addr) (c1 : Nat), k ≤ early.length ∧ i = .int .i64 k ∧ s = .slice a1 (2 + k) c1 ∧ wr.ownsRow (w.heap.size + 1) 5 1 s (2 + k) (([b8 2, b8 number] ++ (early.take k).map b8).map B) ∧ w.heap.size + 1 ≤ wr.heap.size ∧ Below w.heap.size w wr) (fun _ i _ => early.length - (intOf i).toNat)
  case atStart =>
    refine ⟨0, _, _, Nat.zero_le _, rfl, rfl, ?_, by simp, hbs⟩
    have e : (([b8 2, b8 number] ++ (early.take 0).map b8).map B) = [Value.int .u8 2, Value.int .u8 number] := (two_B 2 number (by omega) (by omega)).symm
    rw [e]
    exact owns_two _ 2 number (w.heap.size + 1) (by simp)
  case round =>
    obtain ⟨k, a1, c1, hk, rfl, rfl, hown, hz, hbr⟩ := hrel
    clear hbs
    by_cases hlt : k < early.length
    · obtain ⟨x, hx⟩ := some_at hlt
      obtain ⟨ba, oa, rfl, hca⟩ := (HE.out.later hbr).at (by omega)
      have h1 := hca k x hx
      have hx9 := HR.out x (List.mem_of_getElem? hx)
      have hlt' : (k : Int) < (early.length : Int) := by omega
      have HX := hide (map_snoc early k x hx [b8 2, b8 number])
      have HBR := hide hbr
      have HO := hide hown
      clear hca hx hbr hown
      generalize ([b8 2, b8 number] ++ (early.take k).map b8) = L at *
      go_wp2_with (at_builtin; go_must (refine wpList_append_own _ rfl (.tmp 39) (.tmp 42) 22 rfl (w.heap.size + 1) 5 i5 (.int .u8 0) 1 1 Try.underlying22 hi5 hz50 hz51 hz52 rfl (by decide) (.slice a1 (2 + k) c1) (2 + k) (L.map B) rfl (HO.out.alloc _) ⟨wr.heap.size, 0, none⟩ 1 1 [.int .u8 x] rfl rfl (one_newB' wr (.int .u8 x)) (one_oneB' x) (by unfold maxLen; omega) (by omega) (by simp; omega) ?_; intro v2 w2 hown2 hgrow2 hnil2; clear hnil2; have HO2 := hide hown2; have HG2 := hide hgrow2; clear hown2 hgrow2))
      go_roundw
      case rel =>
        obtain ⟨a2, c2, rfl⟩ := owns_form HO2.out
        have hb2 : Below w.heap.size w w2 := (HBR.out.alloc HBR.out.size _).grown HG2.out (by simp; omega) (fun q hq => by have := (HO.out.lt q hq).1; omega)
        refine ⟨k + 1, a2, c2, by omega, by go_num, rfl, ?_, by have := HG2.out.size; simp at this; omega, hb2⟩
        rw [HX.out, ← snoc_B L x (by omega)]
        exact HO2.out
      case measure => simp [intOf]; omega
    · have hke : k = early.length := by omega
      subst hke
      rw [List.take_of_length_le (Nat.le_refl _), ← hX.out] at hown
      have HV := hide (owns_Bs hown)
      have HBR := hide hbr
      clear hown hbr
      go_wp2_with (go_at_call 13; go_must (refine (seal_at a1 (2 + early.length) c1 X wr HV.out (by omega)).mono ?_; rintro e w3 ⟨v3, rfl, hown3, hb3⟩; have HO3 := hide hown3; have HB3 := hide hb3; clear hown3 hb3))
      go_ret
      refine ⟨_, rfl, ?_, HBR.out.trans (HB3.out.mono HBR.out.size)⟩
      have h3 := owns_base HO3.out HBR.out.size
      rw [show 2 + early.length + 2 = early.length + 4 by omega] at h3
      exact h3

theorem landBytes_any : ∀ v c w, Cv w v c → wrongL c = 0 → Calls Try.prog 24 #[v] w fun e w' => ∃ v', e = .returned v' ∧ w'.ownsRow w.heap.size 5 1 v' ((bodyL c).length + 2) ((sealL (bodyL c)).map B) ∧ Below w.heap.size w w' := by
  intro v c w h hc
  obtain ⟨dv, ev, rfl, hd, he, hm, k1, k2, k3, k4⟩ := h
  have hcs := right_cases c hc
  obtain ⟨kind, number, stream, place, data, early⟩ := c
  simp only at *
  rcases hcs with ⟨rfl, h2, h3, h4, h5, rfl⟩ | ⟨rfl, h2, rfl, rfl, rfl, h6, h7⟩
  · obtain ⟨a, ca, rfl, hla, hma⟩ := he.shape
    have hd' := hd
    obtain ⟨b, cb, rfl, -⟩ := hd'
    have := landBytes_one number stream place b data.length cb data a ca w hd h5 (by omega) (by omega) (by omega) _ rfl
    simpa [bodyL, Nat.add_assoc] using this
  · obtain ⟨a, ca, rfl, hla, hma⟩ := he.shape
    obtain ⟨b, cb, rfl, -⟩ := hd
    have := landBytes_two number b cb a ca early w he h6 (by omega) (fun x hx => by have := rises_mem _ _ h7 x hx; omega) _ rfl
    simpa [bodyL, Nat.add_assoc] using this
end Go.Proofs.Ytlomffhofionnaa.leaf
