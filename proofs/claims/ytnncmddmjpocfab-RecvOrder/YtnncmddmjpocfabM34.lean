/-
  Several texts in one.
-/
import Derived.Test.YtnncmddmjpocfabM33
import Derived.Test.YtnncmddmjpocfabM21
import Derived.Test.YtnncmddmjpocfabProg

/-
  Plain mathematics for receivers: in whatever order they come, the receiver. Nothing of the program.
-/
namespace Go.Proofs.Ytnncmddmjpocfab.mth
set_option linter.unusedSimpArgs false
set_option linter.unusedVariables false
def drR (r : Rv) : Dr := ⟨r.p0, r.p1, r.p2, r.hold, r.told⟩
def Came (r : Rv) (z : Ch) : Prop := z.number < r.next ∨ r.early.contains z.number = true
structure OInv (l : List Ms) (cs : List Ch) (r : Rv) : Prop where
  g : GoodR r
  d : DInv l cs (Came r) (drR r)
  z : ∀ y ∈ r.hold, readyD (drR r) y = false
  n : r.next ≤ l.length
  e : ∀ m ∈ r.early, m < (l.length : Int)
theorem oinv_zero {l : List Ms} {cs : List Ch} (hm : Made l cs) : OInv l cs zeroR := by
  refine ⟨good_zeroR, ⟨by simp [drR, zeroR], by simp [drR, zeroR], by simp [drR, zeroR], fun s h0 h2 => ?_, fun x hx => ?_⟩, by simp [zeroR], by simp [zeroR], by simp [zeroR]⟩
  · have : plD (drR zeroR) s = 0 := by simp [plD, drR, zeroR, plc]
    rw [this]; rfl
  · have hp : plD (drR zeroR) x.stream = 0 := by simp [plD, drR, zeroR, plc]
    have hn := hm.num x hx
    have hr := hm.right x hx
    have := (wrong_one hr.1 hr.2).2.1
    rw [hp]
    simp only [Came, drR, zeroR, List.contains_nil, List.not_mem_nil, or_false, Bool.false_eq_true]
    omega
theorem OInv.fits {l : List Ms} {cs : List Ch} {r : Rv} (h : OInv l cs r) : fitsS r.told l = true := by
  have key : ∀ s : Int, 0 ≤ s → s ≤ 2 → preS (ofS r.told s) (ofS l s) = true := by
    intro s h0 h2
    have := h.d.t s h0 h2
    have : ofS r.told s = (ofS l s).take (plD (drR r) s).toNat := this
    rw [preS_iff, this]
    exact ⟨_, (List.take_append_drop _ _).symm⟩
  rw [fitsS, key 0 (by omega) (by omega), key 1 (by omega) (by omega), key 2 (by omega) (by omega)]
  rfl
theorem OInv.all {l : List Ms} {cs : List Ch} {r : Rv} (hm : Made l cs) (h : OInv l cs r) (hc : ∀ z ∈ cs, Came r z) : r.told.length = l.length ∧ r.next = l.length ∧ r.early = [] ∧ r.hold = [] := by
  have h0 := h.g.n
  have hx := h.g.x
  have hn : r.next = l.length := by
    have := h.n
    by_cases q : r.next = l.length
    · exact q
    · obtain ⟨z, hz, he⟩ := hm.all r.next h0.1 (by omega)
      rcases hc z hz with w | w
      · omega
      · rw [he, hx] at w; cases w
  have he : r.early = [] := by
    apply List.eq_nil_iff_forall_not_mem.2
    intro m hmm
    have := h.e m hmm
    have := (h.g.in40 m hmm).1
    omega
  have hh : r.hold = [] := by
    apply List.eq_nil_iff_forall_not_mem.2
    intro y hy
    obtain ⟨a1, a2⟩ := h.d.a y hy
    have hz := h.z y hy
    have hne : y.place ≠ plD (drR r) y.stream := by simpa [readyD, plD] using hz
    have hp0 : 0 ≤ plD (drR r) y.stream := by
      have := h.d.p
      unfold plD plc
      split
      · exact this.1
      · split
        · exact this.2.1
        · exact this.2.2
    obtain ⟨b, hb, b1, b2⟩ := hm.low y a1 (plD (drR r) y.stream) hp0 (by omega)
    rcases (h.d.e b hb).1 (hc b hb) with w | w
    · rw [b1, b2] at w; omega
    · have := h.z b w
      simp [readyD, plD, b1, b2] at this
  have ht := h.g.t
  rw [he, hh] at ht
  simp at ht
  exact ⟨by omega, hn, he, hh⟩
theorem four_two (f : Int → Bool) (h0 : f 0 = false) (h : f 1 = false ∨ f 2 = false ∨ f 3 = false) : ([0, 1, 2, 3].filter f).length ≤ 2 := by
  cases f1 : f 1 <;> cases f2 : f 2 <;> cases f3 : f 3 <;> simp_all [List.filter_cons]
/-- There is room. -/
theorem OInv.room {l : List Ms} {cs : List Ch} {r : Rv} (hm : Made l cs) (h : OInv l cs r) {n : Int} (h1 : r.next < n) (h2 : n < l.length) (h3 : r.early.contains n = false) : r.early.length ≤ 2 := by
  have hx := h.g.x
  have h0 := h.g.n
  have hf := hm.few
  have hout : ∀ m, 4 ≤ m → r.early.contains m = false := by
    intro m hm4
    cases q : r.early.contains m with
    | false => rfl
    | true =>
      have := h.e m (List.contains_iff_mem.1 q)
      omega
  rw [h.g.e, earlyR, rangeI_app (b := 4) (by omega) (by omega), List.filter_append, List.length_append]
  have e2 : (rangeI 4 40).filter (fun m => r.early.contains m) = [] := by
    apply List.filter_eq_nil_iff.2
    intro m hmm
    rw [hout m (mem_rangeI.1 hmm).1]; simp
  rw [e2, List.length_nil, Nat.add_zero]
  by_cases q : 1 ≤ r.next
  · rw [rangeI_cons (by omega), List.filter_cons_of_neg (by rw [hx]; simp)]
    refine Nat.le_trans (List.length_filter_le _ _) ?_
    rw [rangeI_len]; omega
  · have hz : r.next = 0 := by omega
    have hx0 : r.early.contains 0 = false := by rw [← hz]; exact hx
    rw [hz]
    have e4 : rangeI 0 4 = [0, 1, 2, 3] := rfl
    rw [e4]
    refine four_two (fun m => r.early.contains m) hx0 ?_
    rcases (by omega : n = 1 ∨ n = 2 ∨ n = 3) with rfl | rfl | rfl
    · exact .inl h3
    · exact .inr (.inl h3)
    · exact .inr (.inr h3)
theorem OInv.hear {l : List Ms} {cs : List Ch} {r : Rv} (hm : Made l cs) (h : OInv l cs r) {c : Ch} (hc : c ∈ cs) : OInv l cs (hearR r c) ∧ Came (hearR r c) c ∧ ∀ z ∈ cs, Came r z → Came (hearR r c) z := by
  obtain ⟨hk, hw⟩ := hm.right c hc
  obtain ⟨hn40, hpl, _, hms⟩ := wrong_one hk hw
  have hn := hm.num c hc
  have hg := h.g.hear hw
  have e : hearR r c = if seenR r c.number = true then { r with owes := true } else takeR r c := by unfold hearR; rw [if_pos hk]
  cases hs : seenR r c.number with
  | true =>
    rw [hs, if_pos rfl] at e
    rw [e] at hg ⊢
    refine ⟨⟨hg, h.d, h.z, h.n, h.e⟩, ?_, fun z _ q => q⟩
    show c.number < r.next ∨ r.early.contains c.number = true
    cases q : r.early.contains c.number with
    | true => exact .inr rfl
    | false =>
      left
      unfold seenR at hs
      rw [q, Bool.false_or, Bool.or_eq_true, Bool.and_eq_true, decide_eq_true_eq, decide_eq_true_eq, decide_eq_true_eq] at hs
      rcases hs with w | w
      · exact w
      · have := h.room hm w.1 hn.2 q
        omega
  | false =>
    rw [hs, if_neg (by simp)] at e
    rw [e] at hg ⊢
    obtain ⟨t1, t2, t3, t4, t5⟩ := take_numbers h.g hn40 hs
    have hS : ∀ m ∈ c.number :: r.early, m < 40 := by
      intro m hm
      rcases List.mem_cons.1 hm with rfl | hm
      · exact hn40.2
      · exact (h.g.in40 m hm).2
    have t6 := (climb_ok (c.number :: r.early) hS 41 r.next h.g.n.2 (by have := h.g.n; omega)).2.2.2
    have hS' : ∀ m, (c.number :: r.early).contains m = true → m < (l.length : Int) := by
      intro m hmm
      rcases List.mem_cons.1 (List.contains_iff_mem.1 hmm) with rfl | q
      · exact hn.2
      · exact h.e m q
    have hCame : ∀ z ∈ cs, Came (takeR r c) z ↔ (Came r z ∨ z = c) := by
      intro z hz
      have hz40 : z.number < 40 := by
        have := hm.num z hz
        have := hm.few
        omega
      have hzc : z = c ↔ z.number = c.number := ⟨fun q => by rw [q], fun q => hm.one z hz c hc q⟩
      show (z.number < climb 41 (c.number :: r.early) r.next ∨ (earlyR (c.number :: r.early) (climb 41 (c.number :: r.early) r.next)).contains z.number = true) ↔ _
      unfold Came
      rw [hzc]
      by_cases q : z.number < climb 41 (c.number :: r.early) r.next
      · constructor
        · intro _
          by_cases q2 : z.number < r.next
          · exact .inl (.inl q2)
          · have := t6 z.number (by omega) q
            rw [contains_eq, Bool.or_eq_true, beq_iff_eq] at this
            rcases this with w | w
            · exact .inl (.inr w)
            · exact .inr w
        · intro _; exact .inl q
      · rw [earlyR_has (by omega) hz40, contains_eq, Bool.or_eq_true, beq_iff_eq]
        constructor
        · rintro (w | w | w)
          · omega
          · exact .inl (.inr w)
          · exact .inr w
        · rintro ((w | w) | w)
          · omega
          · exact .inr (.inl w)
          · exact .inr (.inr w)
    have hnc : ¬ Came r c := by
      unfold seenR at hs
      simp only [Bool.or_eq_false_iff, decide_eq_false_iff_not] at hs
      rintro (w | w)
      · exact hs.2.1 w
      · rw [hs.1] at w; cases w
    have hnc' := fun q => hnc ((h.d.e c hc).2 q)
    have hD : DInv l cs (Came (takeR r c)) ⟨r.p0, r.p1, r.p2, r.hold ++ [c], r.told⟩ := by
      refine ⟨h.d.p, fun y hy => ?_, ?_, h.d.t, fun z hz => ?_⟩
      · rcases List.mem_append.1 hy with q | q
        · exact h.d.a y q
        · rw [List.mem_singleton.1 q]
          refine ⟨hc, ?_⟩
          have : ¬ c.place < plD (drR r) c.stream := fun w => hnc' (.inl w)
          exact Int.not_lt.1 this
      · refine List.nodup_append.2 ⟨h.d.b, by simp, fun a ha b hb => ?_⟩
        rw [List.mem_singleton.1 hb]
        intro q
        exact hnc' (.inr (q ▸ ha))
      · rw [hCame z hz, h.d.e z hz]
        show _ ↔ z.place < plD (drR r) z.stream ∨ z ∈ r.hold ++ [c]
        rw [List.mem_append, List.mem_singleton, or_assoc]
        rfl
    obtain ⟨d1, d2⟩ := hD.drain hm (r.hold.length + 1) (by simp)
    refine ⟨⟨hg, d1, d2, ?_, fun m hmm => ?_⟩, ?_, fun z hz q => (hCame z hz).2 (.inl q)⟩
    · show climb 41 (c.number :: r.early) r.next ≤ _
      have := h.n
      by_cases q : climb 41 (c.number :: r.early) r.next = r.next
      · omega
      · have := hS' _ (t6 (climb 41 (c.number :: r.early) r.next - 1) (by omega) (by omega))
        omega
    · have hmm : m ∈ earlyR (c.number :: r.early) (climb 41 (c.number :: r.early) r.next) := hmm
      exact hS' m (List.mem_filter.1 hmm).2
    · exact (hCame c hc).2 (.inr rfl)
end Go.Proofs.Ytnncmddmjpocfab.mth

/-
  Plain mathematics for receivers: the chunks that a sender makes of messages. Nothing of the program.
-/
namespace Go.Proofs.Ytnncmddmjpocfab.mth
set_option linter.unusedSimpArgs false
set_option linter.unusedVariables false
/-- A sender that has said each message as it was put. -/
structure MadeS (l : List Ms) (s : Sd) : Prop where
  g : GoodS s
  q : s.queue = []
  n : s.next = l.length
  len : s.flight.length = l.length
  few : l.length ≤ 4
  pl : ∀ k : Int, 0 ≤ k → k ≤ 2 → placeOf s k = (ofS l k).length
  right : ∀ c ∈ s.flight, c.kind = 1 ∧ wrongL c = 0
  num : ∀ c ∈ s.flight, 0 ≤ c.number ∧ c.number < l.length
  one : ∀ a ∈ s.flight, ∀ b ∈ s.flight, a.number = b.number → a = b
  all : ∀ n : Int, 0 ≤ n → n < l.length → ∃ c ∈ s.flight, c.number = n
  two : ∀ a ∈ s.flight, ∀ b ∈ s.flight, a.stream = b.stream → a.place = b.place → a = b
  full : ∀ k p : Int, 0 ≤ p → p < (ofS l k).length → ∃ b ∈ s.flight, b.stream = k ∧ b.place = p
  put : ∀ a ∈ s.flight, (ofS l a.stream)[a.place.toNat]? = some ⟨a.stream, a.data⟩
theorem madeS_zero : MadeS [] zeroS :=
  ⟨good_zero, rfl, rfl, rfl, by simp, fun k _ _ => by simp [placeOf, zeroS, ofS], by simp [zeroS], by simp [zeroS], by simp [zeroS], fun n h0 h1 => by simp at h1; omega, by simp [zeroS], fun k p h0 h1 => by simp [ofS] at h1; omega, by simp [zeroS]⟩
theorem MadeS.in {l : List Ms} {s : Sd} (h : MadeS l s) : ∀ a ∈ s.flight, 0 ≤ a.place ∧ a.place < (ofS l a.stream).length := by
  intro a ha
  have h1 := h.right a ha
  have h2 := (wrong_one h1.1 h1.2).2.1
  have h3 := (List.getElem?_eq_some_iff.1 (h.put a ha)).1
  omega
theorem MadeS.made {l : List Ms} {s : Sd} (h : MadeS l s) : Made l s.flight :=
  ⟨h.len, h.few, h.right, h.num, h.one, h.all, h.two, fun a ha p h0 hp => by
    have := h.in a ha
    exact h.full a.stream p h0 (by omega), h.put⟩
theorem say_put {s : Sd} {m : Ms} (hq : s.queue = []) (hf : s.flight.length ≤ 3) (he : putE s m = 0) : sayL (putS s m) = (newS s m [], newC s m, true) := by
  obtain ⟨queue, next, p0, p1, p2, flight, turn⟩ := s
  simp only at hq hf
  subst hq
  rw [putS, if_pos he]
  show (if 3 < flight.length then _ else _) = _
  rw [if_neg (by omega)]
  rfl
theorem MadeS.more {l : List Ms} {s : Sd} (h : MadeS l s) {m : Ms} (hl : l.length < 4) (he : putE s m = 0) : MadeS (l ++ [m]) (newS s m []) := by
  have hw : wrongMsgL m.stream m.data = 0 := by
    unfold putE at he
    split at he
    · rename_i q; exact absurd he q
    · rename_i q; simpa using q
  have hs := stream3 hw
  have hlen := h.len
  have hsay := say_put h.q (by omega) he
  have hg := (h.g.put m).say
  rw [hsay] at hg
  have hpl := h.pl m.stream (by omega) (by omega)
  have hofs : ∀ k, ofS (l ++ [m]) k = if m.stream == k then ofS l k ++ [m] else ofS l k := by
    intro k
    rw [ofS_app]
    by_cases q : m.stream == k
    · rw [if_pos q]; simp [ofS, q]
    · rw [if_neg q]; simp [ofS, q]
  have hmem : ∀ c, c ∈ (newS s m []).flight ↔ c ∈ s.flight ∨ c = newC s m := by
    intro c
    show c ∈ s.flight ++ [newC s m] ↔ _
    rw [List.mem_append, List.mem_singleton]
  have hnew : (newC s m).number = l.length ∧ (newC s m).stream = m.stream ∧ (newC s m).place = (ofS l m.stream).length ∧ (newC s m).data = m.data := ⟨h.n, rfl, hpl, rfl⟩
  obtain ⟨n1, n2, n3, n4⟩ := hnew
  have hle := ofS_len l m.stream
  have hlen1 : ((l ++ [m]).length : Int) = l.length + 1 := by simp
  refine ⟨hg, rfl, ?_, ?_, ?_, fun k k0 k2 => ?_, fun c hc => ?_, fun c hc => ?_, fun a ha b hb e => ?_, fun n h0 h1 => ?_, fun a ha b hb e1 e2 => ?_, fun k p h0 h1 => ?_, fun a ha => ?_⟩
  · show s.next + 1 = _
    rw [h.n, hlen1]
  · show (s.flight ++ [newC s m]).length = _
    simp [hlen]
  · simp; omega
  · have := h.pl k k0 k2
    rw [hofs]
    unfold placeOf newS
    unfold placeOf at this
    simp only
    rcases hs with e | e | e <;> rw [e] <;> rcases (by omega : k = 0 ∨ k = 1 ∨ k = 2) with rfl | rfl | rfl <;> simp at this ⊢ <;> omega
  · rcases (hmem c).1 hc with q | rfl
    · exact h.right c q
    · refine ⟨rfl, ?_⟩
      unfold wrongL
      rw [if_neg (by simp [newC]), if_neg (by omega), if_pos (show (newC s m).kind = 1 from rfl), if_neg (by omega), if_neg (by simp [newC])]
      exact hw
  · rcases (hmem c).1 hc with q | rfl
    · have := h.num c q; omega
    · omega
  · rcases (hmem a).1 ha with q | rfl <;> rcases (hmem b).1 hb with w | rfl
    · exact h.one a q b w e
    · have := h.num a q; omega
    · have := h.num b w; omega
    · rfl
  · by_cases q : n < l.length
    · obtain ⟨c, c1, c2⟩ := h.all n h0 q
      exact ⟨c, (hmem c).2 (.inl c1), c2⟩
    · exact ⟨newC s m, (hmem _).2 (.inr rfl), by omega⟩
  · rcases (hmem a).1 ha with q | rfl <;> rcases (hmem b).1 hb with w | rfl
    · exact h.two a q b w e1 e2
    · have := h.in a q
      rw [e1, n2] at this; omega
    · have := h.in b w
      rw [← e1, n2] at this; omega
    · rfl
  · rw [hofs] at h1
    by_cases q : p < (ofS l k).length
    · obtain ⟨b, b1, b2⟩ := h.full k p h0 q
      exact ⟨b, (hmem b).2 (.inl b1), b2⟩
    · by_cases w : m.stream == k
      · rw [if_pos w] at h1
        have w : m.stream = k := by simpa using w
        subst w
        refine ⟨newC s m, (hmem _).2 (.inr rfl), rfl, ?_⟩
        rw [n3]
        simp at h1
        omega
      · rw [if_neg w] at h1
        omega
  · rcases (hmem a).1 ha with q | rfl
    · have := h.put a q
      have hi := (List.getElem?_eq_some_iff.1 this).1
      rw [hofs]
      split
      · rw [List.getElem?_append_left hi]; exact this
      · exact this
    · rw [hofs, n2, n3, n4, if_pos (by simp)]
      simp
end Go.Proofs.Ytnncmddmjpocfab.mth

/-
  Functions as plain code (written by wip/abs/ir.py): lklaw6.RecvOrder.
-/
namespace Go.Proofs.Ytnncmddmjpocfab.ab
set_option linter.unusedSimpArgs false
set_option linter.unusedVariables false
set_option maxRecDepth 100000
open Go Go.RowKit

def w6_RecvOrder_r0 : IC := cReg Try.prog [
    ⟨some 4, none, iMov 4 (.const (.bool false)) true⟩] [0, 1] []
def w6_RecvOrder_r1 : IC := cReg Try.prog [
    ⟨some 19, none, iCall 19 24 []⟩,
    ⟨some 20, none, iNot 20 (.tmp 19)⟩] [0, 1, 20] []
def w6_RecvOrder_r2 : IC := cReg Try.prog [
    ⟨some 4, none, iMov 4 (.const (.bool false)) true⟩] [4] []
def w6_RecvOrder_c1a : IC := (cSeq w6_RecvOrder_r2 cRet)
def w6_RecvOrder_c1 : IC := cCond (.tmp 20) w6_RecvOrder_c1a cSkip
def w6_RecvOrder_r3 : IC := cReg Try.prog [
    ⟨some 21, none, iMov 21 (.tmp 0) false⟩,
    ⟨some 22, none, iLen 22 false (.tmp 21)⟩,
    ⟨some 23, none, iBin 23 .gtr (.tmp 22) (.const (.int .i64 4))⟩] [0, 1, 23] []
def w6_RecvOrder_r4 : IC := cReg Try.prog [
    ⟨some 4, none, iMov 4 (.const (.bool true)) true⟩] [4] []
def w6_RecvOrder_c2a : IC := (cSeq w6_RecvOrder_r4 cRet)
def w6_RecvOrder_c2 : IC := cCond (.tmp 23) w6_RecvOrder_c2a cSkip
def w6_RecvOrder_r5 : IC := cReg Try.prog [
    ⟨some 5, none, iAlo 5 [vD (.slice none 0 0), vD (.int .i64 0), vD (.int .i64 0), vD (.int .i64 0), vD (.int .i64 0), vD (.slice none 0 0), vD (.int .i64 0)]⟩] [0, 1, 5] [5]
def w6_RecvOrder_r6 : IC := cReg Try.prog [
    ⟨some 6, none, iMov 6 (.const (.slice none 0 0)) true⟩] [0, 1, 5, 6] [5]
def w6_RecvOrder_r7 : IC := cReg Try.prog [
    ⟨some 24, none, iMov 24 (.tmp 0) false⟩,
    ⟨some 25, none, iLen 25 false (.tmp 24)⟩,
    ⟨some 26, none, iMov 26 (.const (.int .i64 0)) false⟩] [0, 1, 5, 6, 24, 25, 26] [5]
def w6_RecvOrder_r8 : IC := cReg Try.prog [
    ⟨some 27, none, iBin 27 .lss (.tmp 26) (.tmp 25)⟩] [0, 1, 5, 6, 24, 25, 26, 27] [5]
def w6_RecvOrder_c5 : IC := cCond (.tmp 27) cSkip (cExit 0)
def w6_RecvOrder_r9 : IC := cReg Try.prog [
    ⟨some 28, none, iIaS 28 2 (.tmp 24) (.tmp 26)⟩,
    ⟨some 29, none, iLoad 29 2 true (.tmp 28) false⟩,
    ⟨some 8, none, iAlo 8 [vD (.int .i64 0), vD (.slice none 0 0)]⟩,
    ⟨none, none, iStor 2 (.tmp 8) (.tmp 29)⟩] [0, 1, 5, 6, 8, 24, 25, 26] [5, 8]
def w6_RecvOrder_r10 : IC := cReg Try.prog [
    ⟨some 31, none, iLoad 31 7 true (.tmp 5) false⟩,
    ⟨some 32, none, iLoad 32 2 true (.tmp 8) false⟩,
    ⟨some 33, none, iCall 33 25 [(.tmp 31), (.tmp 32)]⟩,
    ⟨some 30, none, iMov 30 (.tmp 33) false⟩,
    ⟨some 34, none, iExt 34 (.tmp 30) 0⟩,
    ⟨some 35, none, iExt 35 (.tmp 30) 1⟩,
    ⟨some 9, none, iAlo 9 [vD (.slice none 0 0), vD (.int .i64 0), vD (.int .i64 0), vD (.int .i64 0), vD (.int .i64 0), vD (.slice none 0 0), vD (.int .i64 0)]⟩,
    ⟨none, none, iStor 7 (.tmp 9) (.tmp 34)⟩,
    ⟨some 10, none, iMov 10 (.tmp 35) true⟩] [0, 1, 5, 6, 9, 10, 24, 25, 26] [5, 9]
def w6_RecvOrder_r11 : IC := cReg Try.prog [
    ⟨some 36, none, iMov 36 (.tmp 10) false⟩,
    ⟨some 37, none, iBin 37 .neq (.tmp 36) (.const (.int .i64 0))⟩] [0, 1, 5, 6, 9, 24, 25, 26, 37] [5, 9]
def w6_RecvOrder_r12 : IC := cReg Try.prog [
    ⟨some 4, none, iMov 4 (.const (.bool true)) true⟩] [4] []
def w6_RecvOrder_c7a : IC := (cSeq w6_RecvOrder_r12 cRet)
def w6_RecvOrder_c7 : IC := cCond (.tmp 37) w6_RecvOrder_c7a cSkip
def w6_RecvOrder_r13 : IC := cReg Try.prog [
    ⟨some 39, none, iLoad 39 7 true (.tmp 9) false⟩,
    ⟨some 40, none, iCall 40 26 [(.tmp 39)]⟩,
    ⟨some 38, none, iMov 38 (.tmp 40) false⟩,
    ⟨some 41, none, iExt 41 (.tmp 38) 0⟩,
    ⟨some 42, none, iExt 42 (.tmp 38) 1⟩,
    ⟨some 43, none, iExt 43 (.tmp 38) 2⟩,
    ⟨some 11, none, iAlo 11 [vD (.slice none 0 0), vD (.int .i64 0), vD (.int .i64 0), vD (.int .i64 0), vD (.int .i64 0), vD (.slice none 0 0), vD (.int .i64 0)]⟩,
    ⟨some 12, none, iAlo 12 [vD (.int .i64 0), vD (.int .i64 0), vD (.int .i64 0), vD (.int .i64 0), vD (.slice none 0 0), vD (.slice none 0 0)]⟩,
    ⟨none, none, iStor 7 (.tmp 11) (.tmp 41)⟩,
    ⟨none, none, iStor 6 (.tmp 12) (.tmp 42)⟩,
    ⟨some 13, none, iMov 13 (.tmp 43) true⟩] [0, 1, 5, 6, 11, 12, 24, 25, 26] [5, 11, 12]
def w6_RecvOrder_r14 : IC := cReg Try.prog [
    ⟨some 44, none, iLoad 44 7 true (.tmp 11) false⟩,
    ⟨none, none, iStor 7 (.tmp 5) (.tmp 44)⟩] [0, 1, 5, 6, 12, 24, 25, 26] [5, 12]
def w6_RecvOrder_r15 : IC := cReg Try.prog [
    ⟨some 45, none, iMov 45 (.tmp 6) true⟩,
    ⟨some 46, none, iLoad 46 6 true (.tmp 12) false⟩,
    ⟨some 47, none, iRow 47 32 6 [(.tmp 46)]⟩,
    ⟨some 48, none, iApp 48 32 6 80 (.tmp 45) (.tmp 47)⟩,
    ⟨some 6, none, iMov 6 (.tmp 48) true⟩] [0, 1, 5, 6, 24, 25, 26] [5]
def w6_RecvOrder_b6 : IC := cBlock 1 (cSeq w6_RecvOrder_r9 (cSeq w6_RecvOrder_r10 (cSeq (cSeq w6_RecvOrder_r11 w6_RecvOrder_c7) (cSeq w6_RecvOrder_r13 (cSeq w6_RecvOrder_r14 w6_RecvOrder_r15)))))
def w6_RecvOrder_r16 : IC := cReg Try.prog [
    ⟨some 49, none, iBin 49 .add (.tmp 26) (.const (.int .i64 1))⟩,
    ⟨some 26, none, iMov 26 (.tmp 49) false⟩] [0, 1, 5, 6, 24, 25, 26] [5]
def w6_RecvOrder_l4a : IC := (cSeq w6_RecvOrder_r8 (cSeq w6_RecvOrder_c5 (cSeq w6_RecvOrder_b6 w6_RecvOrder_r16)))
def w6_RecvOrder_l4 : IC := cLoop w6_RecvOrder_l4a
def w6_RecvOrder_b3 : IC := cBlock 0 w6_RecvOrder_l4
def w6_RecvOrder_r17 : IC := cReg Try.prog [
    ⟨some 14, none, iAlo 14 [vD (.int .i64 0), vD (.slice none 0 0), vD (.int .i64 0), vD (.int .i64 0), vD (.int .i64 0), vD (.slice none 0 0), vD (.slice none 0 0), vD (.bool false)]⟩] [0, 1, 6, 14] [14]
def w6_RecvOrder_r18 : IC := cReg Try.prog [
    ⟨some 50, none, iMov 50 (.tmp 1) false⟩,
    ⟨some 51, none, iLen 51 false (.tmp 50)⟩,
    ⟨some 52, none, iMov 52 (.const (.int .i64 0)) false⟩] [0, 6, 14, 50, 51, 52] [14]
def w6_RecvOrder_r19 : IC := cReg Try.prog [
    ⟨some 53, none, iBin 53 .lss (.tmp 52) (.tmp 51)⟩] [0, 6, 14, 50, 51, 52, 53] [14]
def w6_RecvOrder_c10 : IC := cCond (.tmp 53) cSkip (cExit 2)
def w6_RecvOrder_r20 : IC := cReg Try.prog [
    ⟨some 54, none, iIaS 54 1 (.tmp 50) (.tmp 52)⟩,
    ⟨some 55, none, iLoad 55 1 false (.tmp 54) false⟩,
    ⟨some 16, none, iMov 16 (.tmp 55) true⟩] [0, 6, 14, 16, 50, 51, 52] [14]
def w6_RecvOrder_r21 : IC := cReg Try.prog [
    ⟨some 56, none, iMov 56 (.tmp 16) false⟩,
    ⟨some 57, none, iBin 57 .geq (.tmp 56) (.const (.int .i64 0))⟩,
    ⟨some 58, none, iMov 58 (.tmp 57) false⟩,
    ⟨some 59, some (58, true), iMov 59 (.tmp 16) false⟩,
    ⟨some 60, some (58, true), iMov 60 (.tmp 6) false⟩,
    ⟨some 61, some (58, true), iLen 61 false (.tmp 60)⟩,
    ⟨some 62, some (58, true), iBin 62 .lss (.tmp 59) (.tmp 61)⟩,
    ⟨some 63, none, iPick 63 (.tmp 58) (.tmp 62) (.const (.bool false))⟩] [0, 6, 14, 16, 50, 51, 52, 63] [14]
def w6_RecvOrder_r22 : IC := cRegD Try.prog [
    ⟨some 64, none, iLoad 64 8 true (.tmp 14) false⟩,
    ⟨some 65, none, iMov 65 (.tmp 6) false⟩,
    ⟨some 66, none, iMov 66 (.tmp 16) false⟩,
    ⟨some 67, none, iIaS 67 6 (.tmp 65) (.tmp 66)⟩,
    ⟨some 68, none, iLoad 68 6 true (.tmp 67) false⟩,
    ⟨some 69, none, iCall 69 22 [(.tmp 64), (.tmp 68)]⟩,
    ⟨none, none, iStor 8 (.tmp 14) (.tmp 69)⟩] [[], [], [], [1, 2], [3, 1, 2], [0, 4, 3, 1, 2], [5, 0, 1, 2, 3, 4]] [0, 6, 14, 50, 51, 52] [14]
def w6_RecvOrder_c12 : IC := cCond (.tmp 63) w6_RecvOrder_r22 cSkip
def w6_RecvOrder_r23 : IC := cReg Try.prog [
    ⟨some 70, none, iFad 70 6 (.tmp 14)⟩,
    ⟨some 71, none, iLoad 71 1 false (.tmp 70) false⟩,
    ⟨some 72, none, iMov 72 (.tmp 0) false⟩,
    ⟨some 73, none, iCall 73 27 [(.tmp 71), (.tmp 72)]⟩,
    ⟨some 74, none, iNot 74 (.tmp 73)⟩] [0, 6, 14, 50, 51, 52, 74] [14]
def w6_RecvOrder_r24 : IC := cReg Try.prog [
    ⟨some 4, none, iMov 4 (.const (.bool false)) true⟩] [4] []
def w6_RecvOrder_c13a : IC := (cSeq w6_RecvOrder_r24 cRet)
def w6_RecvOrder_c13 : IC := cCond (.tmp 74) w6_RecvOrder_c13a cSkip
def w6_RecvOrder_b11 : IC := cBlock 3 (cSeq w6_RecvOrder_r20 (cSeq (cSeq w6_RecvOrder_r21 w6_RecvOrder_c12) (cSeq w6_RecvOrder_r23 w6_RecvOrder_c13)))
def w6_RecvOrder_r25 : IC := cReg Try.prog [
    ⟨some 75, none, iBin 75 .add (.tmp 52) (.const (.int .i64 1))⟩,
    ⟨some 52, none, iMov 52 (.tmp 75) false⟩] [0, 6, 14, 50, 51, 52] [14]
def w6_RecvOrder_l9a : IC := (cSeq w6_RecvOrder_r19 (cSeq w6_RecvOrder_c10 (cSeq w6_RecvOrder_b11 w6_RecvOrder_r25)))
def w6_RecvOrder_l9 : IC := cLoop w6_RecvOrder_l9a
def w6_RecvOrder_b8 : IC := cBlock 2 w6_RecvOrder_l9
def w6_RecvOrder_r26 : IC := cReg Try.prog [
    ⟨some 76, none, iMov 76 (.tmp 6) false⟩,
    ⟨some 77, none, iLen 77 false (.tmp 76)⟩,
    ⟨some 78, none, iMov 78 (.const (.int .i64 0)) false⟩] [0, 14, 76, 77, 78] [14]
def w6_RecvOrder_r27 : IC := cReg Try.prog [
    ⟨some 79, none, iBin 79 .lss (.tmp 78) (.tmp 77)⟩] [0, 14, 76, 77, 78, 79] [14]
def w6_RecvOrder_c16 : IC := cCond (.tmp 79) cSkip (cExit 4)
def w6_RecvOrder_r28 : IC := cReg Try.prog [
    ⟨some 80, none, iIaS 80 6 (.tmp 76) (.tmp 78)⟩,
    ⟨some 81, none, iLoad 81 6 true (.tmp 80) false⟩,
    ⟨some 18, none, iAlo 18 [vD (.int .i64 0), vD (.int .i64 0), vD (.int .i64 0), vD (.int .i64 0), vD (.slice none 0 0), vD (.slice none 0 0)]⟩,
    ⟨none, none, iStor 6 (.tmp 18) (.tmp 81)⟩] [0, 14, 18, 76, 77, 78] [14, 18]
def w6_RecvOrder_r29 : IC := cReg Try.prog [
    ⟨some 82, none, iLoad 82 8 true (.tmp 14) false⟩,
    ⟨some 83, none, iLoad 83 6 true (.tmp 18) false⟩,
    ⟨some 84, none, iCall 84 22 [(.tmp 82), (.tmp 83)]⟩,
    ⟨none, none, iStor 8 (.tmp 14) (.tmp 84)⟩] [0, 14, 76, 77, 78] [14]
def w6_RecvOrder_b17 : IC := cBlock 5 (cSeq w6_RecvOrder_r28 w6_RecvOrder_r29)
def w6_RecvOrder_r30 : IC := cReg Try.prog [
    ⟨some 85, none, iBin 85 .add (.tmp 78) (.const (.int .i64 1))⟩,
    ⟨some 78, none, iMov 78 (.tmp 85) false⟩] [0, 14, 76, 77, 78] [14]
def w6_RecvOrder_l15a : IC := (cSeq w6_RecvOrder_r27 (cSeq w6_RecvOrder_c16 (cSeq w6_RecvOrder_b17 w6_RecvOrder_r30)))
def w6_RecvOrder_l15 : IC := cLoop w6_RecvOrder_l15a
def w6_RecvOrder_b14 : IC := cBlock 4 w6_RecvOrder_l15
def w6_RecvOrder_r31_0 : IC := cReg Try.prog [
    ⟨some 86, none, iFad 86 6 (.tmp 14)⟩,
    ⟨some 87, none, iLoad 87 1 false (.tmp 86) false⟩,
    ⟨some 88, none, iMov 88 (.tmp 0) false⟩,
    ⟨some 89, none, iCall 89 27 [(.tmp 87), (.tmp 88)]⟩,
    ⟨some 90, none, iMov 90 (.tmp 89) false⟩,
    ⟨some 91, some (90, true), iFad 91 6 (.tmp 14)⟩,
    ⟨some 92, some (90, true), iLoad 92 1 false (.tmp 91) false⟩,
    ⟨some 93, some (90, true), iLen 93 false (.tmp 92)⟩,
    ⟨some 94, some (90, true), iMov 94 (.tmp 0) false⟩,
    ⟨some 95, some (90, true), iLen 95 false (.tmp 94)⟩] [0, 14, 90, 93, 95] [14]
def w6_RecvOrder_r31_1 : IC := cReg Try.prog [
    ⟨some 96, some (90, true), iBin 96 .eql (.tmp 93) (.tmp 95)⟩,
    ⟨some 97, none, iPick 97 (.tmp 90) (.tmp 96) (.const (.bool false))⟩,
    ⟨some 98, none, iMov 98 (.tmp 97) false⟩,
    ⟨some 99, some (98, true), iFad 99 0 (.tmp 14)⟩,
    ⟨some 100, some (98, true), iLoad 100 1 false (.tmp 99) false⟩,
    ⟨some 101, some (98, true), iMov 101 (.tmp 0) false⟩,
    ⟨some 102, some (98, true), iLen 102 false (.tmp 101)⟩,
    ⟨some 103, some (98, true), iBin 103 .eql (.tmp 100) (.tmp 102)⟩,
    ⟨some 104, none, iPick 104 (.tmp 98) (.tmp 103) (.const (.bool false))⟩,
    ⟨some 105, none, iMov 105 (.tmp 104) false⟩] [14, 105] [14]
def w6_RecvOrder_r31_2 : IC := cReg Try.prog [
    ⟨some 106, some (105, true), iFad 106 1 (.tmp 14)⟩,
    ⟨some 107, some (105, true), iLoad 107 1 false (.tmp 106) false⟩,
    ⟨some 108, some (105, true), iLen 108 false (.tmp 107)⟩,
    ⟨some 109, some (105, true), iFad 109 5 (.tmp 14)⟩,
    ⟨some 110, some (105, true), iLoad 110 1 false (.tmp 109) false⟩,
    ⟨some 111, some (105, true), iLen 111 false (.tmp 110)⟩,
    ⟨some 112, some (105, true), iBin 112 .add (.tmp 108) (.tmp 111)⟩,
    ⟨some 113, some (105, true), iBin 113 .eql (.tmp 112) (.const (.int .i64 0))⟩,
    ⟨some 114, none, iPick 114 (.tmp 105) (.tmp 113) (.const (.bool false))⟩,
    ⟨some 4, none, iMov 4 (.tmp 114) true⟩] [4] []
def w6_RecvOrder_r31 : IC := (cSeq w6_RecvOrder_r31_0 (cSeq w6_RecvOrder_r31_1 w6_RecvOrder_r31_2))
def w6_RecvOrder : IC := (cSeq w6_RecvOrder_r0 (cSeq (cSeq w6_RecvOrder_r1 w6_RecvOrder_c1) (cSeq (cSeq w6_RecvOrder_r3 w6_RecvOrder_c2) (cSeq w6_RecvOrder_r5 (cSeq w6_RecvOrder_r6 (cSeq (cSeq w6_RecvOrder_r7 w6_RecvOrder_b3) (cSeq w6_RecvOrder_r17 (cSeq (cSeq w6_RecvOrder_r18 w6_RecvOrder_b8) (cSeq (cSeq w6_RecvOrder_r26 w6_RecvOrder_b14) (cSeq w6_RecvOrder_r31 cRet))))))))))
theorem told_w6_RecvOrder {args r : List D} (hl : args.length = 2) (h : w6_RecvOrder (start args) (fin [(4, none)] r)) : Told Try.prog 7 args r :=
  told_of follows Try.func7 rfl (an := [([], [0, 1], [], []), ([], [0, 1, 20], [], []), ([], [4], [], []), ([], [0, 1, 23], [], []), ([], [4], [], []), ([], [0, 1, 5], [5], []), ([], [0, 1, 5, 6], [5], []), ([], [0, 1, 5, 6, 24, 25, 26], [5], []), ([], [0, 1, 5, 6, 24, 25, 26, 27], [5], []), ([], [0, 1, 5, 6, 8, 24, 25, 26], [5, 8], []), ([], [0, 1, 5, 6, 9, 10, 24, 25, 26], [5, 9], []), ([], [0, 1, 5, 6, 9, 24, 25, 26, 37], [5, 9], []), ([], [4], [], []), ([], [0, 1, 5, 6, 11, 12, 24, 25, 26], [5, 11, 12], []), ([], [0, 1, 5, 6, 12, 24, 25, 26], [5, 12], []), ([], [0, 1, 5, 6, 24, 25, 26], [5], []), ([], [0, 1, 5, 6, 24, 25, 26], [5], []), ([], [0, 1, 6, 14], [14], []), ([], [0, 6, 14, 50, 51, 52], [14], []), ([], [0, 6, 14, 50, 51, 52, 53], [14], []), ([], [0, 6, 14, 16, 50, 51, 52], [14], []), ([], [0, 6, 14, 16, 50, 51, 52, 63], [14], []), ([], [0, 6, 14, 50, 51, 52], [14], []), ([], [0, 6, 14, 50, 51, 52, 74], [14], []), ([], [4], [], []), ([], [0, 6, 14, 50, 51, 52], [14], []), ([], [0, 14, 76, 77, 78], [14], []), ([], [0, 14, 76, 77, 78, 79], [14], []), ([], [0, 14, 18, 76, 77, 78], [14, 18], []), ([], [0, 14, 76, 77, 78], [14], []), ([], [0, 14, 76, 77, 78], [14], []), ([(10, [0, 14, 90, 93, 95], [14]), (10, [14, 105], [14])], [4], [], [])]) (by kernel_rfl) (by kernel_rfl) (by rw [hl]; decide +kernel) h

end Go.Proofs.Ytnncmddmjpocfab.ab
