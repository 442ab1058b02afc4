/-
  The contracts of what the program tells to be wrong with a message or a chunk.
-/
import Derived.Test.YtlomffhofionnaaWrong
namespace Go.Proofs.Ytlomffhofionnaa.leaf
set_option linter.unusedVariables false
open Go.RowKit
open mth

set_option maxHeartbeats 1000000 in
theorem landWrongMsg_any (s : Int) (dv : Value) (d : List UInt8) (w : World) (hd : Bs w dv d) (hm : d.length ≤ maxLen) :
    Calls Try.prog 18 #[.agg #[.int .i64 s, dv]] w fun e w' => e = .returned (.int .i64 (wrongMsgL s d)) ∧ Below w.heap.size w w' := by
  obtain ⟨a, cap, rfl, -⟩ := hd
  unfold maxLen at hm
  go_enter Try.func18, Try.ntmps18
  go_wp2
  all_goals
    go_ret
    exact ⟨ite3 s d _ (by repeat' split
                          all_goals omega), (Below.refl _ _).alloc (Nat.le_refl _) _⟩

set_option maxHeartbeats 4000000 in
theorem landWrongData (kind number stream place : Int) (b : Option Addr) (cb : Nat) (data : List UInt8) (a : Option Addr) (ca : Nat) (early : List Int) (w : World) (hd : Bs w (.slice b data.length cb) data) (hm : data.length ≤ maxLen) (hma : early.length ≤ maxLen) (hn : number ≤ 40)
    (r : Int) (hr : Hid (r = if 39 < number ∨ place < 0 ∨ number < place then 3 else if early.length ≠ 0 then 5 else wrongMsgL stream data)) :
    Calls Try.prog 27 #[.agg #[.int .i64 kind, .int .i64 number, .int .i64 stream, .int .i64 place, .slice b data.length cb, .slice a early.length ca]] w fun e w' => e = .returned (.int .i64 r) ∧ Below w.heap.size w w' := by
  have hb0 : Below w.heap.size w (w.alloc (.cells #[.int .i64 kind, .int .i64 number, .int .i64 stream, .int .i64 place, .slice b data.length cb, .slice a early.length ca] 32)) := (Below.refl _ _).alloc (Nat.le_refl _) _
  have HB0 := hide hb0
  have HM := hide hm
  have HD := hide hd
  clear hb0 hd
  unfold maxLen at hm hma
  by_cases h40 : number = 40
  · subst h40
    have h3 : r = 3 := by rw [hr.out, if_pos (by omega)]
    subst h3
    clear hr
    go_enter Try.func27, Try.ntmps27
    go_wp2
    go_ret
    exact ⟨rfl, HB0.out⟩
  · have h40' : (number == 40) = false := by simpa using h40
    have H40 := hide h40
    clear h40
    go_enter Try.func27, Try.ntmps27
    go_wp2_with (go_at_call 18; refine (landWrongMsg_any stream (.slice b data.length cb) data _ (HD.out.later HB0.out) HM.out).mono ?_; rintro e w1 ⟨rfl, hb1⟩)
    all_goals
      go_ret
      refine ⟨ret_eq ?_, by first | exact HB0.out | exact HB0.out.trans (hb1.mono HB0.out.size)⟩
      rw [hr.out]
      clear hr
      have h40 := H40.out
      repeat' split
      all_goals first | rfl | omega

set_option maxHeartbeats 4000000 in
theorem rises_any (a : Option Addr) (ca : Nat) (l : List Int) (low : Int) (w : World) (he : Is w (.slice a l.length ca) l) :
    Calls Try.prog 33 #[.slice a l.length ca, .int .i64 low] w fun e w' => e = .returned (.bool (risesL low l)) ∧ w = w' := by
  obtain ⟨r, hr⟩ : ∃ r, r = risesL low l := ⟨_, rfl⟩
  rw [← hr]
  have hml : l.length ≤ maxLen := by obtain ⟨a', c', -, h1, h2⟩ := he.shape; omega
  unfold maxLen at hml
  by_cases h0 : l.length = 0
  · obtain rfl : l = [] := List.eq_nil_of_length_eq_zero h0
    have hr0 : r = true := hr
    subst hr0
    clear he hr h0
    go_enter Try.func33, Try.ntmps33
    go_wp2
    refine wp_loop_rounds 1 ?_
    rw [rounds_succ]
    go_wp2
    go_ret
    exact ⟨rfl, rfl⟩
  · obtain ⟨ba, oa, rfl, hca⟩ := he.at h0
    have HA := hide hca
    have HI := hide he.num
    have HR := hide hr
    clear he hca hr
    go_enter Try.func33, Try.ntmps33
    go_wp2
    go_loop [1, 9] (fun lo i => ∃ (k : Nat) (low' : Int), k ≤ l.length ∧ i = .int .i64 k ∧ lo = .int .i64 low' ∧ risesL low l = risesL low' (l.drop k)) (fun _ i => l.length - (intOf i).toNat)
    case atStart => exact ⟨0, low, Nat.zero_le _, rfl, rfl, rfl⟩
    case round =>
      obtain ⟨k, low', hk, rfl, rfl, hrs⟩ := hrel
      have HRS := hide hrs
      clear hrs
      by_cases hlt : k < l.length
      · obtain ⟨x, hx⟩ := some_at hlt
        have h1 := HA.out k x hx
        have hlt' : (k : Int) < (l.length : Int) := by omega
        have HD := hide (rises_drop low' l k x hx)
        have hxi := HI.out x (List.mem_of_getElem? hx)
        unfold I64 at hxi
        clear hx
        by_cases hbad : x ≤ low' ∨ 40 ≤ x
        · have hf : risesL low l = false := by
            rw [HRS.out, HD.out]
            simp only [Bool.and_eq_false_iff, decide_eq_false_iff_not]
            omega
          have hr3 : r = false := by rw [HR.out, hf]
          subst hr3
          clear HR HRS HD hf
          by_cases hxl : x ≤ low'
          · go_wp2
            go_ret
            exact ⟨rfl, rfl⟩
          · have hx4 : 40 ≤ x := by omega
            clear hbad
            go_wp2
            go_ret
            exact ⟨rfl, rfl⟩
        · have hg1 : low' < x := by omega
          have hg2 : x < 40 := by omega
          clear hbad
          go_wp2
          go_round
          case rel => exact ⟨k + 1, x, by omega, by go_num, rfl, by rw [HRS.out, HD.out]; simp [hg1]; omega⟩
          case measure => simp [intOf]; omega
      · have ht : risesL low l = true := by
          rw [HRS.out, List.drop_eq_nil_of_le (by omega)]; rfl
        have hr0 : r = true := by rw [HR.out, ht]
        subst hr0
        clear HR HRS ht
        go_wp2
        go_ret
        exact ⟨rfl, rfl⟩

set_option maxHeartbeats 4000000 in
theorem landWrongAck (kind number stream place : Int) (b : Option Addr) (cb : Nat) (data : List UInt8) (a : Option Addr) (ca : Nat) (early : List Int) (w : World) (he : Is w (.slice a early.length ca) early) (hm : data.length ≤ maxLen) (hma : early.length ≤ maxLen)
    (r : Int) (hr : Hid (r = if stream ≠ 0 ∨ place ≠ 0 then 3 else if data.length ≠ 0 ∨ 3 < early.length then 5 else if risesL number early = true then 0 else 3)) :
    Calls Try.prog 28 #[.agg #[.int .i64 kind, .int .i64 number, .int .i64 stream, .int .i64 place, .slice b data.length cb, .slice a early.length ca]] w fun e w' => e = .returned (.int .i64 r) ∧ Below w.heap.size w w' := by
  have hb0 : Below w.heap.size w (w.alloc (.cells #[.int .i64 kind, .int .i64 number, .int .i64 stream, .int .i64 place, .slice b data.length cb, .slice a early.length ca] 32)) := (Below.refl _ _).alloc (Nat.le_refl _) _
  have HB0 := hide hb0
  have HE := hide (he.later hb0)
  clear hb0 he
  unfold maxLen at hm hma
  by_cases hs : stream = 0
  · have hs' : (stream != 0) = false := by simpa using hs
    have HS := hide hs
    clear hs
    by_cases hp : place = 0
    · have hp' : (place != 0) = false := by simpa using hp
      have HP := hide hp
      clear hp
      by_cases hd : 0 < data.length ∨ 3 < early.length
      · have h5 : r = 5 := by
          have h1 := HS.out
          have h2 := HP.out
          rw [hr.out, if_neg (by omega), if_pos (by omega)]
        subst h5
        clear hr
        by_cases hd1 : data.length = 0
        · have hd2 : 3 < early.length := by omega
          clear hd
          rw [hd1] at HB0 ⊢
          go_enter Try.func28, Try.ntmps28
          go_wp2
          go_ret
          exact ⟨rfl, HB0.out⟩
        · have hd2 : 0 < data.length := by omega
          clear hd hd1
          go_enter Try.func28, Try.ntmps28
          go_wp2
          go_ret
          exact ⟨rfl, HB0.out⟩
      · have hd1 : data.length = 0 := by omega
        have hd2 : early.length ≤ 3 := by omega
        have h5 : r = if risesL number early = true then 0 else 3 := by
          have h1 := HS.out
          have h2 := HP.out
          rw [hr.out, if_neg (by omega), if_neg (by omega)]
        clear hr hd
        rw [hd1]
        cases ht : risesL number early with
        | true =>
          rw [ht, if_pos rfl] at h5
          subst h5
          have HT := hide ht
          clear ht
          go_enter Try.func28, Try.ntmps28
          go_wp2_with (go_at_call 33; refine (rises_any a ca early number _ (by have h := HE.out; rw [hd1] at h; exact h)).mono ?_; rintro e w1 ⟨rfl, rfl⟩; rw [HT.out])
          go_ret
          exact ⟨rfl, by have h := HB0.out; rw [hd1] at h; exact h⟩
        | false =>
          rw [ht, if_neg (by simp)] at h5
          subst h5
          have HT := hide ht
          clear ht
          go_enter Try.func28, Try.ntmps28
          go_wp2_with (go_at_call 33; refine (rises_any a ca early number _ (by have h := HE.out; rw [hd1] at h; exact h)).mono ?_; rintro e w1 ⟨rfl, rfl⟩; rw [HT.out])
          go_ret
          exact ⟨rfl, by have h := HB0.out; rw [hd1] at h; exact h⟩
    · have hp' : (place != 0) = true := by simpa using hp
      have h3 : r = 3 := by rw [hr.out, if_pos (.inr hp)]
      subst h3
      clear hr hp
      go_enter Try.func28, Try.ntmps28
      go_wp2
      go_ret
      exact ⟨rfl, HB0.out⟩
  · have hs' : (stream != 0) = true := by simpa using hs
    have h3 : r = 3 := by rw [hr.out, if_pos (.inl hs)]
    subst h3
    clear hr hs
    go_enter Try.func28, Try.ntmps28
    go_wp2
    go_ret
    exact ⟨rfl, HB0.out⟩

set_option maxHeartbeats 4000000 in
theorem landWrong_kind (kind number stream place : Int) (dv ev : Value) (w : World) (h1 : (kind != 1) = true) (h2 : (kind != 2) = true) :
    Calls Try.prog 16 #[.agg #[.int .i64 kind, .int .i64 number, .int .i64 stream, .int .i64 place, dv, ev]] w fun e w' => e = .returned (.int .i64 1) ∧ Below w.heap.size w w' := by
  go_enter Try.func16, Try.ntmps16
  go_wp2
  go_ret
  exact ⟨rfl, (Below.refl _ _).alloc (Nat.le_refl _) _⟩

set_option maxHeartbeats 4000000 in
theorem landWrong_one (number stream place : Int) (b : Option Addr) (cb : Nat) (data : List UInt8) (a : Option Addr) (ca : Nat) (early : List Int) (w : World) (hd : Bs w (.slice b data.length cb) data) (hm : data.length ≤ maxLen) (hma : early.length ≤ maxLen)
    (r : Int) (hr : Hid (r = wrongL ⟨1, number, stream, place, data, early⟩)) :
    Calls Try.prog 16 #[.agg #[.int .i64 1, .int .i64 number, .int .i64 stream, .int .i64 place, .slice b data.length cb, .slice a early.length ca]] w fun e w' => e = .returned (.int .i64 r) ∧ Below w.heap.size w w' := by
  have hb0 : Below w.heap.size w (w.alloc (.cells #[.int .i64 1, .int .i64 number, .int .i64 stream, .int .i64 place, .slice b data.length cb, .slice a early.length ca] 32)) := (Below.refl _ _).alloc (Nat.le_refl _) _
  have HB0 := hide hb0
  have HM := hide hm
  have HMA := hide hma
  have HD := hide hd
  clear hb0 hd hm hma
  have HR : Hid (r = _) := hr.out.trans (wrongL_one number stream place data early)
  clear hr
  by_cases hn : number < 0 ∨ 40 < number
  · have h3 : r = 3 := by rw [HR.out, if_pos hn]
    subst h3
    clear HR
    go_enter Try.func16, Try.ntmps16
    go_wp2
    all_goals first
      | omega
      | (go_ret
         exact ⟨rfl, HB0.out⟩)
  · have h1 : 0 ≤ number := by omega
    have h2 : number ≤ 40 := by omega
    have HR2 : Hid (r = _) := HR.out.trans (if_neg hn)
    clear hn HR
    go_enter Try.func16, Try.ntmps16
    go_wp2_with (go_at_call 27; refine (landWrongData 1 number stream place b cb data a ca early _ (HD.out.later HB0.out) HM.out HMA.out h2 r HR2).mono ?_; rintro e w1 ⟨rfl, hb1⟩)
    go_ret
    exact ⟨rfl, HB0.out.trans (hb1.mono HB0.out.size)⟩

set_option maxHeartbeats 4000000 in
theorem landWrong_two (number stream place : Int) (b : Option Addr) (cb : Nat) (data : List UInt8) (a : Option Addr) (ca : Nat) (early : List Int) (w : World) (he : Is w (.slice a early.length ca) early) (hm : data.length ≤ maxLen) (hma : early.length ≤ maxLen)
    (r : Int) (hr : Hid (r = wrongL ⟨2, number, stream, place, data, early⟩)) :
    Calls Try.prog 16 #[.agg #[.int .i64 2, .int .i64 number, .int .i64 stream, .int .i64 place, .slice b data.length cb, .slice a early.length ca]] w fun e w' => e = .returned (.int .i64 r) ∧ Below w.heap.size w w' := by
  have hb0 : Below w.heap.size w (w.alloc (.cells #[.int .i64 2, .int .i64 number, .int .i64 stream, .int .i64 place, .slice b data.length cb, .slice a early.length ca] 32)) := (Below.refl _ _).alloc (Nat.le_refl _) _
  have HB0 := hide hb0
  have HM := hide hm
  have HMA := hide hma
  have HE := hide he
  clear hb0 he hm hma
  have HR : Hid (r = _) := hr.out.trans (wrongL_two number stream place data early)
  clear hr
  by_cases hn : number < 0 ∨ 40 < number
  · have h3 : r = 3 := by rw [HR.out, if_pos hn]
    subst h3
    clear HR
    go_enter Try.func16, Try.ntmps16
    go_wp2
    all_goals first
      | omega
      | (go_ret
         exact ⟨rfl, HB0.out⟩)
  · have h1 : 0 ≤ number := by omega
    have h2 : number ≤ 40 := by omega
    have HR2 : Hid (r = _) := HR.out.trans (if_neg hn)
    clear hn HR
    go_enter Try.func16, Try.ntmps16
    go_wp2_with (go_at_call 28; refine (landWrongAck 2 number stream place b cb data a ca early _ (HE.out.later HB0.out) HM.out HMA.out r HR2).mono ?_; rintro e w1 ⟨rfl, hb1⟩)
    go_ret
    exact ⟨rfl, HB0.out.trans (hb1.mono HB0.out.size)⟩

theorem landWrong_any (v : Value) (c : Ch) (w : World) (h : Cv w v c) :
    Calls Try.prog 16 #[v] w fun e w' => e = .returned (.int .i64 (wrongL c)) ∧ Below w.heap.size w w' := by
  obtain ⟨dv, ev, rfl, hd, he, hm, k1, k2, k3, k4⟩ := h
  obtain ⟨kind, number, stream, place, data, early⟩ := c
  simp only at *
  by_cases h1 : kind = 1
  · subst h1
    obtain ⟨a, ca, rfl, hla, hma⟩ := he.shape
    have hd' := hd
    obtain ⟨b, cb, rfl, -⟩ := hd'
    exact landWrong_one number stream place b cb data a ca early w hd hm (by omega) _ rfl
  · by_cases h2 : kind = 2
    · subst h2
      obtain ⟨a, ca, rfl, hla, hma⟩ := he.shape
      obtain ⟨b, cb, rfl, -⟩ := hd
      exact landWrong_two number stream place b cb data a ca early w he hm (by omega) _ rfl
    · rw [wrongL_kind _ h1 h2]
      exact landWrong_kind kind number stream place dv ev w (by simpa using h1) (by simpa using h2)
end Go.Proofs.Ytlomffhofionnaa.leaf
