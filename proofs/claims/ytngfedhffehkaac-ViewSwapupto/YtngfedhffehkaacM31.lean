/-
  Several texts in one.
-/
import Derived.Test.YtngfedhffehkaacReadF
import Derived.Test.YtngfedhffehkaacM23
import Derived.Test.YtngfedhffehkaacProg

/-
  What the functions tell that make bytes of chunks, and read them (proved in the older style: LandBytes, Bytes, ReadF), as plain data.
-/
namespace Go.Proofs.Ytngfedhffehkaac.ab
set_option linter.unusedVariables false
set_option linter.unusedSimpArgs false
open Go Go.RowKit
open mth

section
variable {I : Still} {w : World}
theorem add_lit (b o i : Nat) : (⟨b, o, none⟩ : Addr).add i = ⟨b, o + i, none⟩ := by
  unfold Addr.add
  split
  · rename_i h; subst h; rfl
  · rfl
/-- Bytes that are only read. -/
theorem bs_of {xs : List UInt8} {v : Value} (h : CRep I w (sD 1 (xs.map encB)) v) : leaf.Bs w v xs ∧ xs.length ≤ 9223372036854775807 := by
  obtain ⟨a, cap, rfl, U, h1, h2, h3, h4, h5, h6⟩ := h.invS
  rw [List.length_map] at h1
  refine ⟨⟨a, cap, by rw [List.length_map], h1, h2, fun i hi => ?_⟩, by unfold maxLen at h3; omega⟩
  obtain ⟨b, off, rfl, hc⟩ := h5 (by intro e; rw [List.map_eq_nil_iff] at e; rw [e] at hi; simp at hi)
  refine ⟨_, rfl, ?_⟩
  have q := (hc i 0 (by rw [List.length_map]; exact hi) (by omega)).1
  have r := h6 i 0 (encB xs[i]) (encB xs[i]) (by simp [hi]) rfl
  rw [(r.invV).1] at q
  rw [add_lit, show off + i = off + i * 1 + 0 by omega, q]
  simp [List.getD, hi]
/-- Numbers that are only read. -/
theorem is_of {xs : List Int} {v : Value} (h : CRep I w (sD 1 (xs.map vI)) v) (hx : ∀ n ∈ xs, leaf.I64 n) : leaf.Is w v xs := by
  obtain ⟨a, cap, rfl, U, h1, h2, h3, h4, h5, h6⟩ := h.invS
  rw [List.length_map] at h1
  refine ⟨a, cap, by rw [List.length_map], h1, h2, fun i hi => ?_, hx, h3⟩
  obtain ⟨b, off, rfl, hc⟩ := h5 (by intro e; rw [List.map_eq_nil_iff] at e; rw [e] at hi; simp at hi)
  refine ⟨_, rfl, ?_⟩
  have q := (hc i 0 (by rw [List.length_map]; exact hi) (by omega)).1
  have r := h6 i 0 (vI xs[i]) (vI xs[i]) (by simp [hi]) rfl
  rw [(r.invV).1] at q
  rw [add_lit, show off + i = off + i * 1 + 0 by omega, q]
  simp [List.getD, hi]
/-- A chunk that is only read. -/
theorem chv_of {c : Ch} {v : Value} (h : CVRep I w (aD (encCh c)) v) (h0 : leaf.I64 c.kind ∧ leaf.I64 c.number ∧ leaf.I64 c.stream ∧ leaf.I64 c.place) (he : ∀ n ∈ c.early, leaf.I64 n) : leaf.Cv w v c := by
  obtain ⟨us, rfl, hl, hr⟩ := h.agg
  have hus : us.length = 6 := by rw [← hl]; rfl
  match us, hus with
  | [u0, u1, u2, u3, u4, u5], _ =>
    have e0 := (hr 0 _ u0 rfl rfl).invV.1
    have e1 := (hr 1 _ u1 rfl rfl).invV.1
    have e2 := (hr 2 _ u2 rfl rfl).invV.1
    have e3 := (hr 3 _ u3 rfl rfl).invV.1
    have e4 := bs_of (hr 4 _ u4 rfl rfl)
    have e5 := is_of (hr 5 _ u5 rfl rfl) he
    subst e0 e1 e2 e3
    exact ⟨u4, u5, rfl, e4.1, e5, by unfold maxLen; omega, h0⟩
theorem right64 {c : Ch} (h : wrongL c = 0) : (leaf.I64 c.kind ∧ leaf.I64 c.number ∧ leaf.I64 c.stream ∧ leaf.I64 c.place) ∧ ∀ n ∈ c.early, leaf.I64 n := by
  rcases right_cases c h with ⟨h1, h2, h3, h4, h5, h6⟩ | ⟨h1, h2, h3, h4, h5, h6, h7⟩
  · refine ⟨⟨?_, ?_, ?_, ?_⟩, by rw [h6]; simp⟩ <;> (unfold leaf.I64; omega)
  · refine ⟨⟨?_, ?_, ?_, ?_⟩, fun n hn => ?_⟩
    · unfold leaf.I64; omega
    · unfold leaf.I64; omega
    · unfold leaf.I64; omega
    · unfold leaf.I64; omega
    · have := rises_mem _ _ h7 n hn
      unfold leaf.I64; omega
/-- A row of one's own, as bytes. -/
theorem rep_owned {base n : Nat} {xs : List UInt8} {v : Value} (h : w.ownsRow base 5 1 v n (xs.map leaf.B)) (hI : ∀ b j, base ≤ b → b < w.heap.size → I b j) : CRep I w (sD 1 (xs.map encB)) v := by
  obtain ⟨h1, h2⟩ := h
  rw [List.length_map, Nat.mul_one] at h1
  rcases h2 with ⟨rfl, rfl⟩ | ⟨g, cap, cur, rfl, hb, hg, hn, hm, hc, ht⟩
  · rw [List.length_eq_zero_iff.1 h1]
    exact CRep.s (z := 1) (es := []) (a := none) (cap := 0) ⟨fun _ _ => undef, by simp, fun _ => rfl, by unfold maxLen; omega, by simp, fun e => absurd rfl e, fun i j e l he => by simp at he⟩
  · have hlt : g < w.heap.size := (Array.getElem?_eq_some_iff.1 hg).1
    have hx : ∀ i (hi : i < xs.length), w.cell? ⟨g, i, none⟩ = some (leaf.B xs[i]) := fun i hi => by
      have : (cur.toList.take (n * 1))[i]? = some (leaf.B xs[i]) := by rw [ht]; simp [hi]
      rw [List.getElem?_take] at this
      split at this
      · rw [cell_of_row w g i cur 5 (0, 0) hg]; simpa using this
      · cases this
    have hr := CRep.s (I := I) (w := w) (z := 1) (es := xs.map encB) (a := some ⟨g, 0, none⟩) (cap := cap) ⟨fun i _ => leaf.B (xs.getD i 0), (by rw [List.length_map]; omega), (fun e => by cases e), hm, fun e he => ?_, fun _ => ⟨g, 0, rfl, fun i j hi hj => ?_⟩, fun i j e l he hl => ?_⟩
    · rw [List.length_map, h1] at hr; exact hr
    · obtain ⟨x, _, rfl⟩ := List.mem_map.1 he; rfl
    · rw [List.length_map] at hi
      obtain rfl : j = 0 := by omega
      refine ⟨?_, hI _ _ hb hlt⟩
      rw [show 0 + i * 1 + 0 = i by omega, hx i hi]
      simp [List.getD, hi]
    · rw [List.getElem?_map] at he
      obtain ⟨x, hx', rfl⟩ := Option.map_eq_some_iff.1 he
      have : j = 0 ∧ l = encB x := by
        cases j with
        | zero => simp [cellsD, encB] at hl; exact ⟨rfl, hl.symm⟩
        | succ k => simp [cellsD, encB] at hl
      obtain ⟨rfl, rfl⟩ := this
      show CRep I w (encB x) (leaf.B (xs.getD i 0))
      rw [show leaf.B (xs.getD i 0) = .int .u8 (x.toNat : Int) by simp [List.getD, hx', leaf.B]]
      exact CRep.v rfl
/-- Bytes in a block of one's own. -/
theorem rep_bs {base : Nat} {xs : List UInt8} {a : Option Addr} {n cap : Nat} (h : leaf.Bs w (.slice a n cap) xs) (hf : leaf.FreshS base a cap) (hI : ∀ b j, base ≤ b → b < w.heap.size → I b j) : CRep I w (sD 1 (xs.map encB)) (.slice a n cap) := by
  obtain ⟨a', cap', he, h1, h2, h3⟩ := h
  cases he
  have hr := CRep.s (I := I) (w := w) (z := 1) (es := xs.map encB) (a := a) (cap := cap) ⟨fun i _ => leaf.B (xs.getD i 0), (by rw [List.length_map]; omega), h2, hf.2, fun e he => ?_, fun hne => ?_, fun i j e l he hl => ?_⟩
  · rw [List.length_map] at hr; exact hr
  · obtain ⟨x, _, rfl⟩ := List.mem_map.1 he; rfl
  · have h0 : 0 < xs.length := by
      cases xs with
      | nil => exact absurd rfl hne
      | cons x r => simp
    obtain ⟨x, rfl, hc0⟩ := h3 0 h0
    obtain ⟨hp, hsp⟩ := hf.1 x rfl
    obtain ⟨b, off, sp⟩ := x
    simp only at hp hsp
    subst hsp
    refine ⟨b, off, rfl, fun i j hi hj => ?_⟩
    rw [List.length_map] at hi
    obtain rfl : j = 0 := by omega
    obtain ⟨x, hx, hc⟩ := h3 i hi
    cases hx
    rw [add_lit] at hc
    have hlt : b < w.heap.size := by
      unfold World.cell? at hc
      simp only at hc
      cases hg : w.heap[b]? with
      | none => rw [hg] at hc; simp at hc
      | some o => exact (Array.getElem?_eq_some_iff.1 hg).1
    refine ⟨?_, hI _ _ hp hlt⟩
    rw [show off + i * 1 + 0 = off + i by omega, hc]; rfl
  · rw [List.getElem?_map] at he
    obtain ⟨x, hx', rfl⟩ := Option.map_eq_some_iff.1 he
    have : j = 0 ∧ l = encB x := by
      cases j with
      | zero => simp [cellsD, encB] at hl; exact ⟨rfl, hl.symm⟩
      | succ k => simp [cellsD, encB] at hl
    obtain ⟨rfl, rfl⟩ := this
    show CRep I w (encB x) (leaf.B (xs.getD i 0))
    rw [show leaf.B (xs.getD i 0) = .int .u8 (x.toNat : Int) by simp [List.getD, hx', leaf.B]]
    exact CRep.v rfl
/-- Numbers in a block of one's own. -/
theorem rep_is {base : Nat} {xs : List Int} {a : Option Addr} {n cap : Nat} (h : leaf.Is w (.slice a n cap) xs) (hf : leaf.FreshS base a cap) (hI : ∀ b j, base ≤ b → b < w.heap.size → I b j) : CRep I w (sD 1 (xs.map vI)) (.slice a n cap) := by
  obtain ⟨a', cap', he, h1, h2, h3, _, _⟩ := h
  cases he
  have hr := CRep.s (I := I) (w := w) (z := 1) (es := xs.map vI) (a := a) (cap := cap) ⟨fun i _ => .int .i64 (xs.getD i 0), (by rw [List.length_map]; omega), h2, hf.2, fun e he => ?_, fun hne => ?_, fun i j e l he hl => ?_⟩
  · rw [List.length_map] at hr; exact hr
  · obtain ⟨x, _, rfl⟩ := List.mem_map.1 he; rfl
  · have h0 : 0 < xs.length := by
      cases xs with
      | nil => exact absurd rfl hne
      | cons x r => simp
    obtain ⟨x, rfl, hc0⟩ := h3 0 h0
    obtain ⟨hp, hsp⟩ := hf.1 x rfl
    obtain ⟨b, off, sp⟩ := x
    simp only at hp hsp
    subst hsp
    refine ⟨b, off, rfl, fun i j hi hj => ?_⟩
    rw [List.length_map] at hi
    obtain rfl : j = 0 := by omega
    obtain ⟨x, hx, hc⟩ := h3 i hi
    cases hx
    rw [add_lit] at hc
    have hlt : b < w.heap.size := by
      unfold World.cell? at hc
      simp only at hc
      cases hg : w.heap[b]? with
      | none => rw [hg] at hc; simp at hc
      | some o => exact (Array.getElem?_eq_some_iff.1 hg).1
    refine ⟨?_, hI _ _ hp hlt⟩
    rw [show off + i * 1 + 0 = off + i by omega, hc]
  · rw [List.getElem?_map] at he
    obtain ⟨x, hx', rfl⟩ := Option.map_eq_some_iff.1 he
    have : j = 0 ∧ l = vI x := by
      cases j with
      | zero => simp [cellsD] at hl; exact ⟨rfl, hl.symm⟩
      | succ k => simp [cellsD] at hl
    obtain ⟨rfl, rfl⟩ := this
    show CRep I w (vI x) (.int .i64 (xs.getD i 0))
    rw [show xs.getD i 0 = x by simp [List.getD, hx']]
    exact CRep.v rfl
/-- A chunk of one's own. -/
theorem rep_ch {base : Nat} {c : Ch} {v : Value} (h : leaf.Cv w v c) (hf : leaf.Fresh base v) (hI : ∀ b j, base ≤ b → b < w.heap.size → I b j) : CVRep I w (aD (encCh c)) v := by
  obtain ⟨dv, ev, rfl, h1, h2, _⟩ := h
  obtain ⟨k0, k1, k2, k3, a1, n1, c1, a2, n2, c2, he, hf1, hf2⟩ := hf
  simp only [Value.agg.injEq, Array.mk.injEq, List.cons.injEq] at he
  obtain ⟨_, _, _, _, rfl, rfl, _⟩ := he
  exact .inr ⟨_, [_, _, _, _, _, _], rfl, rfl, (Row.single (CRep.v rfl)).app ((Row.single (CRep.v rfl)).app ((Row.single (CRep.v rfl)).app ((Row.single (CRep.v rfl)).app ((Row.single (rep_bs h1 hf1 hI)).app (Row.single (rep_is h2 hf2 hI))))))⟩
end
/-- The answer's Bytes. -/
theorem refBytes_told (c : Ch) (hc : wrongL c = 0) : Told Try.prog 50 [aD (encCh c)] [sD 1 ((sealL (bodyL c)).map encB)] := by
  intro w I vs hv hlt
  obtain ⟨hl, hr⟩ := hv
  match vs, hl with
  | [v], _ =>
    have h64 := right64 hc
    refine (leaf.refBytes_any v c w (chv_of (hr 0 _ v rfl rfl) h64.1 h64.2) hc).mono fun e w' ⟨v', he, ho, hb⟩ => ⟨v', he, ?_, hb⟩
    exact .inl (rep_owned ho (fun b j h1 h2 => .inr ⟨h1, h2⟩))
/-- The answer's Read. -/
theorem refRead_told (xs : List UInt8) (hx : xs.length ≤ 1048600) : Told Try.prog 56 [sD 1 (xs.map encB)] [aD (encCh (readC xs)), vI (readE xs)] := by
  intro w I vs hv hlt
  obtain ⟨hl, hr⟩ := hv
  match vs, hl with
  | [v], _ =>
    have hB := (bs_of ((hr 0 _ v rfl rfl).leaf (fun cs e => by cases e))).1
    have hB' := hB
    obtain ⟨a, cap, rfl, _⟩ := hB'
    refine (leaf.refRead_anyF a cap xs w hB (by omega) hx).mono fun e w' ⟨v', he, ⟨hc, hf⟩, hb⟩ => ⟨_, he, ?_, hb⟩
    exact ⟨[v', .int .i64 (readE xs)], rfl, Vals.cons (rep_ch hc hf (fun b j h1 h2 => .inr ⟨h1, h2⟩)) (Vals.cons (.inl (CRep.v rfl)) Vals.nil)⟩
end Go.Proofs.Ytngfedhffehkaac.ab

/-
  Functions as plain code (written by wip/abs/ir.py): lkref1.SameInts, lkref1.Same, lkref1.SameAll, lkref1.Wrong.
-/
namespace Go.Proofs.Ytngfedhffehkaac.ab
set_option linter.unusedSimpArgs false
set_option linter.unusedVariables false
set_option maxRecDepth 100000
open Go Go.RowKit

def r1_SameInts_r0 : IC := cReg Try.prog [
    ⟨some 4, none, iMov 4 (.const (.bool false)) true⟩] [0, 1] []
def r1_SameInts_r1 : IC := cReg Try.prog [
    ⟨some 6, none, iMov 6 (.tmp 0) false⟩,
    ⟨some 7, none, iLen 7 false (.tmp 6)⟩,
    ⟨some 8, none, iMov 8 (.tmp 1) false⟩,
    ⟨some 9, none, iLen 9 false (.tmp 8)⟩,
    ⟨some 10, none, iBin 10 .neq (.tmp 7) (.tmp 9)⟩] [0, 1, 10] []
def r1_SameInts_r2 : IC := cReg Try.prog [
    ⟨some 4, none, iMov 4 (.const (.bool false)) true⟩] [4] []
def r1_SameInts_c1a : IC := (cSeq r1_SameInts_r2 cRet)
def r1_SameInts_c1 : IC := cCond (.tmp 10) r1_SameInts_c1a cSkip
def r1_SameInts_r3 : IC := cReg Try.prog [
    ⟨some 11, none, iMov 11 (.tmp 0) false⟩,
    ⟨some 12, none, iLen 12 false (.tmp 11)⟩,
    ⟨some 13, none, iMov 13 (.const (.int .i64 0)) false⟩] [0, 1, 12, 13] []
def r1_SameInts_r4 : IC := cReg Try.prog [
    ⟨some 14, none, iBin 14 .lss (.tmp 13) (.tmp 12)⟩] [0, 1, 12, 13, 14] []
def r1_SameInts_c4 : IC := cCond (.tmp 14) cSkip (cExit 0)
def r1_SameInts_r5 : IC := cReg Try.prog [
    ⟨some 15, none, iMov 15 (.tmp 13) false⟩,
    ⟨some 5, none, iMov 5 (.tmp 15) true⟩] [0, 1, 5, 12, 13] []
def r1_SameInts_r6 : IC := cRegD Try.prog [
    ⟨some 16, none, iMov 16 (.tmp 0) false⟩,
    ⟨some 17, none, iMov 17 (.tmp 5) false⟩,
    ⟨some 18, none, iIaS 18 1 (.tmp 16) (.tmp 17)⟩,
    ⟨some 19, none, iLoad 19 1 false (.tmp 18) false⟩,
    ⟨some 20, none, iMov 20 (.tmp 1) false⟩,
    ⟨some 21, none, iMov 21 (.tmp 5) false⟩,
    ⟨some 22, none, iIaS 22 1 (.tmp 20) (.tmp 21)⟩,
    ⟨some 23, none, iLoad 23 1 false (.tmp 22) false⟩,
    ⟨some 24, none, iBin 24 .neq (.tmp 19) (.tmp 23)⟩] [[], [], [0, 1], [2, 0, 1], [], [], [4, 5], [6, 4, 5], [3, 7, 2, 0, 1, 6, 4, 5]] [0, 1, 12, 13, 24] []
def r1_SameInts_r7 : IC := cReg Try.prog [
    ⟨some 4, none, iMov 4 (.const (.bool false)) true⟩] [4] []
def r1_SameInts_c6a : IC := (cSeq r1_SameInts_r7 cRet)
def r1_SameInts_c6 : IC := cCond (.tmp 24) r1_SameInts_c6a cSkip
def r1_SameInts_b5 : IC := cBlock 1 (cSeq r1_SameInts_r5 (cSeq r1_SameInts_r6 r1_SameInts_c6))
def r1_SameInts_r8 : IC := cReg Try.prog [
    ⟨some 25, none, iBin 25 .add (.tmp 13) (.const (.int .i64 1))⟩,
    ⟨some 13, none, iMov 13 (.tmp 25) false⟩] [0, 1, 12, 13] []
def r1_SameInts_l3a : IC := (cSeq r1_SameInts_r4 (cSeq r1_SameInts_c4 (cSeq r1_SameInts_b5 r1_SameInts_r8)))
def r1_SameInts_l3 : IC := cLoop r1_SameInts_l3a
def r1_SameInts_b2 : IC := cBlock 0 r1_SameInts_l3
def r1_SameInts_r9 : IC := cReg Try.prog [
    ⟨some 4, none, iMov 4 (.const (.bool true)) true⟩] [4] []
def r1_SameInts : IC := (cSeq r1_SameInts_r0 (cSeq (cSeq r1_SameInts_r1 r1_SameInts_c1) (cSeq (cSeq r1_SameInts_r3 r1_SameInts_b2) (cSeq r1_SameInts_r9 cRet))))
theorem told_r1_SameInts {args r : List D} (hl : args.length = 2) (h : r1_SameInts (start args) (fin [(4, none)] r)) : Told Try.prog 43 args r :=
  told_of follows Try.func43 rfl (an := [([], [0, 1], [], []), ([], [0, 1, 10], [], []), ([], [4], [], []), ([], [0, 1, 12, 13], [], []), ([], [0, 1, 12, 13, 14], [], []), ([], [0, 1, 5, 12, 13], [], []), ([], [0, 1, 12, 13, 24], [], []), ([], [4], [], []), ([], [0, 1, 12, 13], [], []), ([], [4], [], [])]) (by kernel_rfl) (by kernel_rfl) (by rw [hl]; decide +kernel) h

def r1_Same_r0 : IC := cReg Try.prog [
    ⟨some 2, none, iBox 2 (.tmp 0)⟩,
    ⟨some 3, none, iBox 3 (.tmp 1)⟩,
    ⟨some 4, none, iMov 4 (.const (.bool false)) true⟩] [2, 3] [2, 3]
def r1_Same_r1_0 : IC := cReg Try.prog [
    ⟨some 5, none, iFad 5 0 (.tmp 2)⟩,
    ⟨some 6, none, iLoad 6 1 false (.tmp 5) false⟩,
    ⟨some 7, none, iFad 7 0 (.tmp 3)⟩,
    ⟨some 8, none, iLoad 8 1 false (.tmp 7) false⟩,
    ⟨some 9, none, iBin 9 .eql (.tmp 6) (.tmp 8)⟩,
    ⟨some 10, none, iMov 10 (.tmp 9) false⟩,
    ⟨some 11, some (10, true), iFad 11 1 (.tmp 2)⟩,
    ⟨some 12, some (10, true), iLoad 12 1 false (.tmp 11) false⟩,
    ⟨some 13, some (10, true), iFad 13 1 (.tmp 3)⟩,
    ⟨some 14, some (10, true), iLoad 14 1 false (.tmp 13) false⟩] [2, 3, 10, 12, 14] [2, 3]
def r1_Same_r1_1 : IC := cReg Try.prog [
    ⟨some 15, some (10, true), iBin 15 .eql (.tmp 12) (.tmp 14)⟩,
    ⟨some 16, none, iPick 16 (.tmp 10) (.tmp 15) (.const (.bool false))⟩,
    ⟨some 17, none, iMov 17 (.tmp 16) false⟩,
    ⟨some 18, some (17, true), iFad 18 2 (.tmp 2)⟩,
    ⟨some 19, some (17, true), iLoad 19 1 false (.tmp 18) false⟩,
    ⟨some 20, some (17, true), iFad 20 2 (.tmp 3)⟩,
    ⟨some 21, some (17, true), iLoad 21 1 false (.tmp 20) false⟩,
    ⟨some 22, some (17, true), iBin 22 .eql (.tmp 19) (.tmp 21)⟩,
    ⟨some 23, none, iPick 23 (.tmp 17) (.tmp 22) (.const (.bool false))⟩,
    ⟨some 24, none, iMov 24 (.tmp 23) false⟩] [2, 3, 24] [2, 3]
def r1_Same_r1_2 : IC := cReg Try.prog [
    ⟨some 25, some (24, true), iFad 25 3 (.tmp 2)⟩,
    ⟨some 26, some (24, true), iLoad 26 1 false (.tmp 25) false⟩,
    ⟨some 27, some (24, true), iFad 27 3 (.tmp 3)⟩,
    ⟨some 28, some (24, true), iLoad 28 1 false (.tmp 27) false⟩,
    ⟨some 29, some (24, true), iBin 29 .eql (.tmp 26) (.tmp 28)⟩,
    ⟨some 30, none, iPick 30 (.tmp 24) (.tmp 29) (.const (.bool false))⟩,
    ⟨some 31, none, iMov 31 (.tmp 30) false⟩,
    ⟨some 32, some (31, true), iFad 32 4 (.tmp 2)⟩,
    ⟨some 33, some (31, true), iLoad 33 1 false (.tmp 32) false⟩,
    ⟨some 34, some (31, true), iStr 34 (.tmp 33)⟩] [2, 3, 31, 34] [2, 3]
def r1_Same_r1_3 : IC := cReg Try.prog [
    ⟨some 35, some (31, true), iFad 35 4 (.tmp 3)⟩,
    ⟨some 36, some (31, true), iLoad 36 1 false (.tmp 35) false⟩,
    ⟨some 37, some (31, true), iStr 37 (.tmp 36)⟩,
    ⟨some 38, some (31, true), iBin 38 .eql (.tmp 34) (.tmp 37)⟩,
    ⟨some 39, none, iPick 39 (.tmp 31) (.tmp 38) (.const (.bool false))⟩,
    ⟨some 40, none, iMov 40 (.tmp 39) false⟩,
    ⟨some 41, some (40, true), iFad 41 5 (.tmp 2)⟩,
    ⟨some 42, some (40, true), iLoad 42 1 false (.tmp 41) false⟩,
    ⟨some 43, some (40, true), iFad 43 5 (.tmp 3)⟩,
    ⟨some 44, some (40, true), iLoad 44 1 false (.tmp 43) false⟩,
    ⟨some 45, some (40, true), iCall 45 43 [(.tmp 42), (.tmp 44)]⟩,
    ⟨some 46, none, iPick 46 (.tmp 40) (.tmp 45) (.const (.bool false))⟩,
    ⟨some 4, none, iMov 4 (.tmp 46) true⟩] [4] []
def r1_Same_r1 : IC := (cSeq r1_Same_r1_0 (cSeq r1_Same_r1_1 (cSeq r1_Same_r1_2 r1_Same_r1_3)))
def r1_Same : IC := (cSeq r1_Same_r0 (cSeq r1_Same_r1 cRet))
theorem told_r1_Same {args r : List D} (hl : args.length = 2) (h : r1_Same (start args) (fin [(4, none)] r)) : Told Try.prog 71 args r :=
  told_of follows Try.func71 rfl (an := [([], [2, 3], [2, 3], []), ([(10, [2, 3, 10, 12, 14], [2, 3]), (10, [2, 3, 24], [2, 3]), (10, [2, 3, 31, 34], [2, 3])], [4], [], [])]) (by kernel_rfl) (by kernel_rfl) (by rw [hl]; decide +kernel) h

def r1_SameAll_r0 : IC := cReg Try.prog [
    ⟨some 4, none, iMov 4 (.const (.bool false)) true⟩] [0, 1] []
def r1_SameAll_r1 : IC := cReg Try.prog [
    ⟨some 6, none, iMov 6 (.tmp 0) false⟩,
    ⟨some 7, none, iLen 7 false (.tmp 6)⟩,
    ⟨some 8, none, iMov 8 (.tmp 1) false⟩,
    ⟨some 9, none, iLen 9 false (.tmp 8)⟩,
    ⟨some 10, none, iBin 10 .neq (.tmp 7) (.tmp 9)⟩] [0, 1, 10] []
def r1_SameAll_r2 : IC := cReg Try.prog [
    ⟨some 4, none, iMov 4 (.const (.bool false)) true⟩] [4] []
def r1_SameAll_c1a : IC := (cSeq r1_SameAll_r2 cRet)
def r1_SameAll_c1 : IC := cCond (.tmp 10) r1_SameAll_c1a cSkip
def r1_SameAll_r3 : IC := cReg Try.prog [
    ⟨some 11, none, iMov 11 (.tmp 0) false⟩,
    ⟨some 12, none, iLen 12 false (.tmp 11)⟩,
    ⟨some 13, none, iMov 13 (.const (.int .i64 0)) false⟩] [0, 1, 12, 13] []
def r1_SameAll_r4 : IC := cReg Try.prog [
    ⟨some 14, none, iBin 14 .lss (.tmp 13) (.tmp 12)⟩] [0, 1, 12, 13, 14] []
def r1_SameAll_c4 : IC := cCond (.tmp 14) cSkip (cExit 0)
def r1_SameAll_r5 : IC := cReg Try.prog [
    ⟨some 15, none, iMov 15 (.tmp 13) false⟩,
    ⟨some 5, none, iMov 5 (.tmp 15) true⟩] [0, 1, 5, 12, 13] []
def r1_SameAll_r6 : IC := cRegD Try.prog [
    ⟨some 16, none, iMov 16 (.tmp 0) false⟩,
    ⟨some 17, none, iMov 17 (.tmp 5) false⟩,
    ⟨some 18, none, iIaS 18 6 (.tmp 16) (.tmp 17)⟩,
    ⟨some 19, none, iLoad 19 6 true (.tmp 18) false⟩,
    ⟨some 20, none, iMov 20 (.tmp 1) false⟩,
    ⟨some 21, none, iMov 21 (.tmp 5) false⟩,
    ⟨some 22, none, iIaS 22 6 (.tmp 20) (.tmp 21)⟩,
    ⟨some 23, none, iLoad 23 6 true (.tmp 22) false⟩,
    ⟨some 24, none, iCall 24 71 [(.tmp 19), (.tmp 23)]⟩,
    ⟨some 25, none, iNot 25 (.tmp 24)⟩] [[], [], [0, 1], [2, 0, 1], [], [], [4, 5], [6, 4, 5], [3, 7, 2, 0, 1, 6, 4, 5], [8, 3, 7, 2, 0, 1, 6, 4, 5]] [0, 1, 12, 13, 25] []
def r1_SameAll_r7 : IC := cReg Try.prog [
    ⟨some 4, none, iMov 4 (.const (.bool false)) true⟩] [4] []
def r1_SameAll_c6a : IC := (cSeq r1_SameAll_r7 cRet)
def r1_SameAll_c6 : IC := cCond (.tmp 25) r1_SameAll_c6a cSkip
def r1_SameAll_b5 : IC := cBlock 1 (cSeq r1_SameAll_r5 (cSeq r1_SameAll_r6 r1_SameAll_c6))
def r1_SameAll_r8 : IC := cReg Try.prog [
    ⟨some 26, none, iBin 26 .add (.tmp 13) (.const (.int .i64 1))⟩,
    ⟨some 13, none, iMov 13 (.tmp 26) false⟩] [0, 1, 12, 13] []
def r1_SameAll_l3a : IC := (cSeq r1_SameAll_r4 (cSeq r1_SameAll_c4 (cSeq r1_SameAll_b5 r1_SameAll_r8)))
def r1_SameAll_l3 : IC := cLoop r1_SameAll_l3a
def r1_SameAll_b2 : IC := cBlock 0 r1_SameAll_l3
def r1_SameAll_r9 : IC := cReg Try.prog [
    ⟨some 4, none, iMov 4 (.const (.bool true)) true⟩] [4] []
def r1_SameAll : IC := (cSeq r1_SameAll_r0 (cSeq (cSeq r1_SameAll_r1 r1_SameAll_c1) (cSeq (cSeq r1_SameAll_r3 r1_SameAll_b2) (cSeq r1_SameAll_r9 cRet))))
theorem told_r1_SameAll {args r : List D} (hl : args.length = 2) (h : r1_SameAll (start args) (fin [(4, none)] r)) : Told Try.prog 42 args r :=
  told_of follows Try.func42 rfl (an := [([], [0, 1], [], []), ([], [0, 1, 10], [], []), ([], [4], [], []), ([], [0, 1, 12, 13], [], []), ([], [0, 1, 12, 13, 14], [], []), ([], [0, 1, 5, 12, 13], [], []), ([], [0, 1, 12, 13, 25], [], []), ([], [4], [], []), ([], [0, 1, 12, 13], [], []), ([], [4], [], [])]) (by kernel_rfl) (by kernel_rfl) (by rw [hl]; decide +kernel) h

end Go.Proofs.Ytngfedhffehkaac.ab
