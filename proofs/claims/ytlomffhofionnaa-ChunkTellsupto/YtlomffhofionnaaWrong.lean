/-
  The contracts of what tells what is wrong with a message or a chunk.
-/
import Derived.Test.YtlomffhofionnaaData
import Derived.Test.YtlomffhofionnaaPure
namespace Go.Proofs.Ytlomffhofionnaa.leaf
set_option linter.unusedVariables false
open Go.RowKit
open mth

theorem ite3 (s : Int) (d : List UInt8) (n : Int) (h : n = if s < 0 ∨ 2 < s then 3 else if 6 < d.length then 4 else 0) : Ending.returned (.int .i64 n) = .returned (.int .i64 (wrongMsgL s d)) := by
  rw [h]; rfl

set_option maxHeartbeats 1000000 in
theorem refWrongMsg_any (s : Int) (dv : Value) (d : List UInt8) (w : World) (hd : Bs w dv d) (hm : d.length ≤ maxLen) :
    Calls Try.prog 19 #[.agg #[.int .i64 s, dv]] w fun e w' => e = .returned (.int .i64 (wrongMsgL s d)) ∧ Below w.heap.size w w' := by
  obtain ⟨a, cap, rfl, -⟩ := hd
  unfold maxLen at hm
  go_enter Try.func19, Try.ntmps19
  go_wp2
  all_goals
    go_ret
    exact ⟨ite3 s d _ (by repeat' split
                          all_goals omega), (Below.refl _ _).alloc (Nat.le_refl _) _⟩

/-- The chunk value v holds c. -/
def Cv (w : World) (v : Value) (c : Ch) : Prop :=
  ∃ dv ev, v = .agg #[.int .i64 c.kind, .int .i64 c.number, .int .i64 c.stream, .int .i64 c.place, dv, ev] ∧ Bs w dv c.data ∧ Is w ev c.early ∧ c.data.length ≤ maxLen ∧ I64 c.kind ∧ I64 c.number ∧ I64 c.stream ∧ I64 c.place

theorem Cv.later {w w' : World} {v : Value} {c : Ch} (h : Cv w v c) (hb : Below w.heap.size w w') : Cv w' v c := by
  obtain ⟨dv, ev, rfl, h1, h2, r⟩ := h
  exact ⟨dv, ev, rfl, h1.later hb, h2.later hb, r⟩

theorem ret_eq {r n : Int} (h : n = r) : Ending.returned (.int .i64 n) = .returned (.int .i64 r) := by rw [h]

set_option maxHeartbeats 4000000 in
theorem refWrong_kind (kind number stream place : Int) (dv ev : Value) (w : World) (h1 : (kind != 1) = true) (h2 : (kind != 2) = true) :
    Calls Try.prog 17 #[.agg #[.int .i64 kind, .int .i64 number, .int .i64 stream, .int .i64 place, dv, ev]] w fun e w' => e = .returned (.int .i64 1) ∧ Below w.heap.size w w' := by
  go_enter Try.func17, Try.ntmps17
  go_wp2
  go_ret
  exact ⟨rfl, (Below.refl _ _).alloc (Nat.le_refl _) _⟩

set_option maxHeartbeats 4000000 in
theorem refWrong_one (number stream place : Int) (b : Option Addr) (cb : Nat) (data : List UInt8) (a : Option Addr) (ca : Nat) (early : List Int) (w : World) (hd : Bs w (.slice b data.length cb) data) (hm : data.length ≤ maxLen) (hma : early.length ≤ maxLen)
    (r : Int) (hr : Hid (r = wrongL ⟨1, number, stream, place, data, early⟩)) :
    Calls Try.prog 17 #[.agg #[.int .i64 1, .int .i64 number, .int .i64 stream, .int .i64 place, .slice b data.length cb, .slice a early.length ca]] w fun e w' => e = .returned (.int .i64 r) ∧ Below w.heap.size w w' := by
  have hb0 : Below w.heap.size w (w.alloc (.cells #[.int .i64 1, .int .i64 number, .int .i64 stream, .int .i64 place, .slice b data.length cb, .slice a early.length ca] 32)) := (Below.refl _ _).alloc (Nat.le_refl _) _
  have HB0 := hide hb0
  have HM := hide hm
  have HD := hide hd
  clear hb0 hd
  unfold maxLen at hm hma
  have HR : Hid (r = _) := hr.out.trans (wrongL_one number stream place data early)
  clear hr
  by_cases hle : early.length = 0
  · have hle' : ((early.length : Int) != 0) = false := by simp only [bne_eq_false_iff_eq]; omega
    have HLE := hide hle
    clear hle
    go_enter Try.func17, Try.ntmps17
    go_wp2_with (go_at_call 19; refine (refWrongMsg_any stream (.slice b data.length cb) data _ (HD.out.later HB0.out) HM.out).mono ?_; rintro e w1 ⟨rfl, hb1⟩)
    all_goals
      go_ret
      refine ⟨ret_eq ?_, by first | exact HB0.out | exact HB0.out.trans (hb1.mono HB0.out.size)⟩
      rw [HR.out]
      clear HR
      have hle := HLE.out
      repeat' split
      all_goals first | rfl | omega
  · have hle' : ((early.length : Int) != 0) = true := by simp only [bne_iff_ne, ne_eq]; omega
    have HLE := hide hle
    clear hle
    go_enter Try.func17, Try.ntmps17
    go_wp2
    all_goals
      go_ret
      refine ⟨ret_eq ?_, HB0.out⟩
      rw [HR.out]
      clear HR
      have hle := HLE.out
      repeat' split
      all_goals first | rfl | omega

set_option maxHeartbeats 4000000 in
theorem refWrong_loop (number stream place : Int) (b : Option Addr) (cb : Nat) (dl : Nat) (a : Option Addr) (ca : Nat) (early : List Int) (w : World) (he : Is w (.slice a early.length ca) early) (hm : dl ≤ maxLen) (hn0 : 0 ≤ number) (hn1 : number ≤ 40)
    (hs' : (stream != 0) = false) (hp' : (place != 0) = false) (hd' : ((dl : Int) != 0) = false) (hl : early.length ≤ 3) (r : Int) (hr : Hid (r = if risesL number early = true then 0 else 3)) :
    Calls Try.prog 17 #[.agg #[.int .i64 2, .int .i64 number, .int .i64 stream, .int .i64 place, .slice b dl cb, .slice a early.length ca]] w fun e w' => e = .returned (.int .i64 r) ∧ Below w.heap.size w w' := by
  have hb0 : Below w.heap.size w (w.alloc (.cells #[.int .i64 2, .int .i64 number, .int .i64 stream, .int .i64 place, .slice b dl cb, .slice a early.length ca] 32)) := (Below.refl _ _).alloc (Nat.le_refl _) _
  have hei := he.num
  have he2 := he.later hb0
  have HB0 := hide hb0
  clear hb0 he
  unfold maxLen at hm
  by_cases h0 : early.length = 0
  · obtain rfl : early = [] := List.eq_nil_of_length_eq_zero h0
    have hr0 : r = 0 := hr.out
    subst hr0
    clear he2 hei hr h0
    go_enter Try.func17, Try.ntmps17
    go_wp2
    refine wp_loop_rounds 1 ?_
    rw [rounds_succ]
    go_wp2
    go_ret
    exact ⟨rfl, HB0.out⟩
  · obtain ⟨ba, oa, rfl, hca⟩ := he2.at h0
    have HA := hide hca
    have HI := hide hei
    clear he2 hca hei
    go_enter Try.func17, Try.ntmps17
    go_wp2
    go_loop [3, 73] (fun lo i => ∃ (k : Nat) (l : Int), k ≤ early.length ∧ i = .int .i64 k ∧ lo = .int .i64 l ∧ risesL number early = risesL l (early.drop k)) (fun _ i => early.length - (intOf i).toNat)
    case atStart => exact ⟨0, number, Nat.zero_le _, rfl, rfl, rfl⟩
    case round =>
      obtain ⟨k, l, hk, rfl, rfl, hrs⟩ := hrel
      have HRS := hide hrs
      clear hrs
      by_cases hlt : k < early.length
      · obtain ⟨x, hx⟩ := some_at hlt
        have h1 := HA.out k x hx
        have hlt' : (k : Int) < (early.length : Int) := by omega
        have HX := hide hx
        have HD := hide (rises_drop l early k x hx)
        have hxi := HI.out x (List.mem_of_getElem? hx)
        unfold I64 at hxi
        clear hx
        by_cases hbad : x ≤ l ∨ 39 < x
        · have hf : risesL number early = false := by
            rw [HRS.out, HD.out]
            simp only [Bool.and_eq_false_iff, decide_eq_false_iff_not]
            omega
          have hr3 : r = 3 := by rw [hr.out, hf]; rfl
          subst hr3
          rcases hbad with hbad | hbad
          · clear hr HRS HD hf
            go_wp2
            go_ret
            exact ⟨rfl, HB0.out⟩
          · clear hr HRS HD hf
            by_cases hxl : x ≤ l
            · go_wp2
              go_ret
              exact ⟨rfl, HB0.out⟩
            · go_wp2
              go_ret
              exact ⟨rfl, HB0.out⟩
        · have hg1 : l < x := by omega
          have hg2 : x ≤ 39 := by omega
          clear hbad
          go_wp2
          go_round
          case rel => exact ⟨k + 1, x, by omega, by go_num, rfl, by rw [HRS.out, HD.out]; simp [hg1, hg2]⟩
          case measure => simp [intOf]; omega
      · have ht : risesL number early = true := by
          rw [HRS.out, List.drop_eq_nil_of_le (by omega)]; rfl
        have hr0 : r = 0 := by rw [hr.out, ht]; rfl
        subst hr0
        clear hr HRS ht
        go_wp2
        go_ret
        exact ⟨rfl, HB0.out⟩

set_option maxHeartbeats 4000000 in
theorem refWrong_two (number stream place : Int) (b : Option Addr) (cb : Nat) (data : List UInt8) (a : Option Addr) (ca : Nat) (early : List Int) (w : World) (he : Is w (.slice a early.length ca) early) (hm : data.length ≤ maxLen) (hma : early.length ≤ maxLen) (k2 : I64 number)
    (r : Int) (hr : Hid (r = wrongL ⟨2, number, stream, place, data, early⟩)) :
    Calls Try.prog 17 #[.agg #[.int .i64 2, .int .i64 number, .int .i64 stream, .int .i64 place, .slice b data.length cb, .slice a early.length ca]] w fun e w' => e = .returned (.int .i64 r) ∧ Below w.heap.size w w' := by
  have hb0 : Below w.heap.size w (w.alloc (.cells #[.int .i64 2, .int .i64 number, .int .i64 stream, .int .i64 place, .slice b data.length cb, .slice a early.length ca] 32)) := (Below.refl _ _).alloc (Nat.le_refl _) _
  have HB0 := hide hb0
  have HE := hide he
  clear hb0 he
  unfold maxLen at hm hma
  unfold I64 at k2
  have HR : Hid (r = _) := hr.out.trans (wrongL_two number stream place data early)
  clear hr
  by_cases hs : stream = 0
  · have hs' : (stream != 0) = false := by simpa using hs
    have HS := hide hs
    clear hs
    by_cases hp : place = 0
    · have hp' : (place != 0) = false := by simpa using hp
      have HP := hide hp
      clear hp
      by_cases hd : data.length = 0
      · have hd' : ((data.length : Int) != 0) = false := by simp only [bne_eq_false_iff_eq]; omega
        have HD := hide hd
        clear hd
        by_cases hl : 3 < early.length
        · go_enter Try.func17, Try.ntmps17
          go_wp2
          all_goals
            go_ret
            refine ⟨ret_eq ?_, HB0.out⟩
            rw [HR.out]
            clear HR
            have h1 := HS.out
            have h2 := HP.out
            have h3 := HD.out
            repeat' split
            all_goals first | rfl | omega
        · by_cases hn : number < 0 ∨ 40 < number
          · have hl' : early.length ≤ 3 := by omega
            have : r = 3 := by rw [HR.out, if_pos hn]
            subst this
            clear hl HR
            rcases hn with hn | hn
            · go_enter Try.func17, Try.ntmps17
              go_wp2
              go_ret
              exact ⟨rfl, HB0.out⟩
            · have hn' : ¬ number < 0 := by omega
              go_enter Try.func17, Try.ntmps17
              go_wp2
              go_ret
              exact ⟨rfl, HB0.out⟩
          · refine refWrong_loop number stream place b cb data.length a ca early w HE.out (by unfold maxLen; omega) (by omega) (by omega) hs' hp' hd' (by omega) r ?_
            show r = _
            have h1 := HS.out
            have h2 := HP.out
            have h3 := HD.out
            rw [HR.out, if_neg hn, if_neg (by omega), if_neg (by omega)]
      · have hd' : ((data.length : Int) != 0) = true := by simp only [bne_iff_ne, ne_eq]; omega
        have HD := hide hd
        clear hd
        go_enter Try.func17, Try.ntmps17
        go_wp2
        all_goals
          go_ret
          refine ⟨ret_eq ?_, HB0.out⟩
          rw [HR.out]
          clear HR
          have h1 := HS.out
          have h2 := HP.out
          have h3 := HD.out
          repeat' split
          all_goals first | rfl | omega
    · have hp' : (place != 0) = true := by simpa using hp
      have HP := hide hp
      clear hp
      go_enter Try.func17, Try.ntmps17
      go_wp2
      all_goals
        go_ret
        refine ⟨ret_eq ?_, HB0.out⟩
        rw [HR.out]
        clear HR
        have h1 := HS.out
        have h2 := HP.out
        repeat' split
        all_goals first | rfl | omega
  · have hs' : (stream != 0) = true := by simpa using hs
    have HS := hide hs
    clear hs
    go_enter Try.func17, Try.ntmps17
    go_wp2
    all_goals
      go_ret
      refine ⟨ret_eq ?_, HB0.out⟩
      rw [HR.out]
      clear HR
      have h1 := HS.out
      repeat' split
      all_goals first | rfl | omega

theorem refWrong_any (v : Value) (c : Ch) (w : World) (h : Cv w v c) :
    Calls Try.prog 17 #[v] w fun e w' => e = .returned (.int .i64 (wrongL c)) ∧ Below w.heap.size w w' := by
  obtain ⟨dv, ev, rfl, hd, he, hm, k1, k2, k3, k4⟩ := h
  obtain ⟨kind, number, stream, place, data, early⟩ := c
  simp only at *
  by_cases h1 : kind = 1
  · subst h1
    obtain ⟨a, ca, rfl, hla, hma⟩ := he.shape
    have hd' := hd
    obtain ⟨b, cb, rfl, -⟩ := hd'
    exact refWrong_one number stream place b cb data a ca early w hd hm (by omega) _ rfl
  · by_cases h2 : kind = 2
    · subst h2
      obtain ⟨a, ca, rfl, hla, hma⟩ := he.shape
      obtain ⟨b, cb, rfl, -⟩ := hd
      exact refWrong_two number stream place b cb data a ca early w he hm (by omega) k2 _ rfl
    · rw [wrongL_kind _ h1 h2]
      exact refWrong_kind kind number stream place dv ev w (by simpa using h1) (by simpa using h2)
end Go.Proofs.Ytlomffhofionnaa.leaf
