/-
  The contracts of what tells whether two messages are the same, and of the answer's text of a message.
-/
import Derived.Test.YtlomffhofionnaaDoorBytes
import Derived.Test.YtlomffhofionnaaDoorPureText
namespace Go.Proofs.YtlomffhofionnaaDoor.leaf
set_option linter.unusedVariables false
open Go.RowKit
open mth

/-- The message value v holds m. -/
def Mv (w : World) (v : Value) (m : Ms) : Prop := ∃ dv, v = .agg #[.int .i64 m.stream, dv] ∧ Bs w dv m.data ∧ m.data.length ≤ maxLen ∧ I64 m.stream
theorem Mv.later {w w' : World} {v : Value} {m : Ms} (h : Mv w v m) (hb : Below w.heap.size w w') : Mv w' v m := by
  obtain ⟨dv, rfl, h1, r⟩ := h
  exact ⟨dv, rfl, h1.later hb, r⟩
theorem Mv.form {w : World} {v : Value} {m : Ms} (h : Mv w v m) : ∃ a c, v = .agg #[.int .i64 m.stream, .slice a m.data.length c] := by
  obtain ⟨dv, rfl, ⟨a, c, rfl, -⟩, -⟩ := h
  exact ⟨a, c, rfl⟩

theorem Bs.at {w : World} {a : Option Addr} {n cap : Nat} {xs : List UInt8} (h : Bs w (.slice a n cap) xs) (hp : xs.length ≠ 0) : ∃ b off, a = some ⟨b, off, none⟩ ∧ ∀ j x, xs[j]? = some x → w.cell? ⟨b, off + j, none⟩ = some (.int .u8 (x.toNat : Int)) := by
  obtain ⟨a', cap', he, hlc, hno, hc⟩ := h
  injection he with h1 _ h2
  subst h1 h2
  obtain ⟨x, rfl, hc0⟩ := hc 0 (by omega)
  obtain ⟨b, off, spot⟩ := x
  have hspot : spot = none := by simpa [Addr.add] using World.cell?_spot hc0
  subst hspot
  refine ⟨b, off, rfl, fun j y hy => ?_⟩
  have hj : j < xs.length := (List.getElem?_eq_some_iff.1 hy).1
  obtain ⟨x', hx', hcc⟩ := hc j hj
  simp at hx'
  subst hx'
  rw [Addr.add_lit] at hcc
  rw [hcc]
  simp [List.getD, hy]

set_option maxHeartbeats 2000000 in
theorem refSameMsg_any (va vb : Value) (a b : Ms) (w : World) (ha : Mv w va a) (hb : Mv w vb b) :
    Calls Tryd.prog 7 #[va, vb] w fun e w' => e = .returned (.bool (sameM a b)) ∧ Below w.heap.size w w' := by
  obtain ⟨dva, rfl, hda, -⟩ := ha
  obtain ⟨dvb, rfl, hdb, -⟩ := hb
  obtain ⟨s1, d1⟩ := a
  obtain ⟨s2, d2⟩ := b
  simp only at *
  by_cases hs : s1 = s2
  · subst hs
    have hb0 : Below w.heap.size w ((w.alloc (.cells #[.int .i64 s1, dva] 24)).alloc (.cells #[.int .i64 s1, dvb] 24)) := ((Below.refl _ _).alloc (Nat.le_refl _) _).alloc (by simp) _
    have hc1 := conv_run (hda.later hb0)
    have hc2 := conv_run (hdb.later hb0)
    have HB0 := hide hb0
    have hr : sameM ⟨s1, d1⟩ ⟨s1, d2⟩ = (d1 == d2) := by simp [sameM]
    rw [hr]
    clear hb0 hda hdb hr
    go_enter Tryd.func7, Tryd.ntmps7
    go_wp2
    go_ret
    exact ⟨rfl, HB0.out⟩
  · have hs' : (s1 == s2) = false := by simpa using hs
    have hr : sameM ⟨s1, d1⟩ ⟨s2, d2⟩ = false := by simp [sameM, hs']
    rw [hr]
    clear hda hdb hr hs
    go_enter Tryd.func7, Tryd.ntmps7
    go_wp2
    go_ret
    exact ⟨rfl, ((Below.refl _ _).alloc (Nat.le_refl _) _).alloc (by simp) _⟩

/-- A digit. -/
theorem hex_at (w : World) : ∀ (k : Nat), k < 16 → (Instr.index 9 (.string ⟨#[48, 49, 50, 51, 52, 53, 54, 55, 56, 57, 97, 98, 99, 100, 101, 102]⟩) (.int .u8 (k : Int))).run Tryd.prog w = .ok (.int .u8 (i8 (hexB k))) w := fun k h => match k, h with
  | 0, _ => by kernel_rfl
  | 1, _ => by kernel_rfl
  | 2, _ => by kernel_rfl
  | 3, _ => by kernel_rfl
  | 4, _ => by kernel_rfl
  | 5, _ => by kernel_rfl
  | 6, _ => by kernel_rfl
  | 7, _ => by kernel_rfl
  | 8, _ => by kernel_rfl
  | 9, _ => by kernel_rfl
  | 10, _ => by kernel_rfl
  | 11, _ => by kernel_rfl
  | 12, _ => by kernel_rfl
  | 13, _ => by kernel_rfl
  | 14, _ => by kernel_rfl
  | 15, _ => by kernel_rfl
  | n + 16, h => absurd h (by omega)
theorem hex_str (w : World) : ∀ (k : Nat), k < 16 → (convert 5 9 (.int .u8 (i8 (hexB k)))).run Tryd.prog w = .ok (.string ⟨#[hexB k]⟩) w := fun k h => match k, h with
  | 0, _ => by kernel_rfl
  | 1, _ => by kernel_rfl
  | 2, _ => by kernel_rfl
  | 3, _ => by kernel_rfl
  | 4, _ => by kernel_rfl
  | 5, _ => by kernel_rfl
  | 6, _ => by kernel_rfl
  | 7, _ => by kernel_rfl
  | 8, _ => by kernel_rfl
  | 9, _ => by kernel_rfl
  | 10, _ => by kernel_rfl
  | 11, _ => by kernel_rfl
  | 12, _ => by kernel_rfl
  | 13, _ => by kernel_rfl
  | 14, _ => by kernel_rfl
  | 15, _ => by kernel_rfl
  | n + 16, h => absurd h (by omega)

theorem hex_snoc (d : List UInt8) (k : Nat) (y : UInt8) (hy : d[k]? = some y) : hexL (d.take (k + 1)) = hexL (d.take k) ++ [hexB (y.toNat / 16), hexB (y.toNat % 16)] := by
  rw [List.take_add_one, hy]
  have : ∀ (a : List UInt8), hexL (a ++ [y]) = hexL a ++ [hexB (y.toNat / 16), hexB (y.toNat % 16)] := by
    intro a
    induction a with
    | nil => rfl
    | cons c r ih => simp [hexL, ih]
  exact this _

set_option maxHeartbeats 4000000 in
theorem refPrint_at (st : Nat) (hst : st < 3) (dv : Value) (d : List UInt8) (w : World) (hd : Bs w dv d) (h6 : d.length ≤ 6) :
    Calls Tryd.prog 10 #[.agg #[.int .i64 (st : Int), dv]] w fun e w' => e = .returned (.string ⟨(printL ⟨st, d⟩).toArray⟩) ∧ Below w.heap.size w w' := by
  obtain ⟨a, cap, rfl, -⟩ := id hd
  obtain ⟨P, hP⟩ : ∃ P : List UInt8, P = [b8 (48 + (st : Int)), 58] := ⟨_, rfl⟩
  have hpr : printL ⟨st, d⟩ = P ++ hexL d := by rw [hP]; rfl
  have hPl : P.length = 2 := by rw [hP]; rfl
  rw [hpr]
  have HD := hide hd
  clear hd
  have hS : (st = 0 ∧ P = [48, 58]) ∨ (st = 1 ∧ P = [49, 58]) ∨ (st = 2 ∧ P = [50, 58]) := by
    rw [hP]
    rcases (show st = 0 ∨ st = 1 ∨ st = 2 by omega) with rfl | rfl | rfl
    · left; exact ⟨rfl, by decide⟩
    · right; left; exact ⟨rfl, by decide⟩
    · right; right; exact ⟨rfl, by decide⟩
  clear hP hpr
  rcases hS with ⟨rfl, hP⟩ | ⟨rfl, hP⟩ | ⟨rfl, hP⟩
  all_goals
    have HP := hide hP
    clear hP
    go_enter Tryd.func10, Tryd.ntmps10
    go_wp2
    go_loopw [3, 14] (fun s i wr => ∃ k : Nat, k ≤ d.length ∧ i = .int .i64 k ∧ s = .string ⟨(P ++ hexL (d.take k)).toArray⟩ ∧ Below w.heap.size w wr) (fun _ i _ => d.length - (intOf i).toNat)
    case atStart => exact ⟨0, Nat.zero_le _, rfl, by rw [HP.out]; rfl, ((Below.refl _ _).alloc (Nat.le_refl _) _).alloc (by simp) _⟩
    case round =>
      obtain ⟨k, hk, rfl, rfl, hbr⟩ := hrel
      by_cases hlt : k < d.length
      · obtain ⟨y, hy⟩ := some_at hlt
        have hyb := y.toNat_lt
        obtain ⟨b1, o1, hac, hcs⟩ := (HD.out.later hbr).at (by omega)
        have hcy := hcs k y hy
        clear hcs
        subst hac
        have e1 : ((y.toNat / 16 : Nat) : Int) = (y.toNat : Int) / 16 := by omega
        have e2 : ((y.toNat % 16 : Nat) : Int) = (y.toNat : Int) % 16 := by omega
        have f1 := fun w => hex_at w (y.toNat / 16) (by omega)
        have f2 := fun w => hex_at w (y.toNat % 16) (by omega)
        rw [e1] at f1
        rw [e2] at f2
        have f3 := fun w => hex_str w (y.toNat / 16) (by omega)
        have f4 := fun w => hex_str w (y.toNat % 16) (by omega)
        have HX := hide (hex_snoc d k y hy)
        have hlen : (P ++ hexL (d.take k)).length ≤ 14 := by rw [List.length_append, hPl, len_hex, List.length_take]; omega
        have HBR := hide hbr
        clear hbr hy e1 e2
        obtain ⟨X, hX⟩ : ∃ X, X = P ++ hexL (d.take k) := ⟨_, rfl⟩
        rw [← hX] at hlen ⊢
        have HX2 := hide hX
        clear hX
        have hlt' : (k : Int) < (d.length : Int) := by omega
        go_wp2
        go_quiet (fail)
        go_wp2
        go_roundw
        case rel => exact ⟨k + 1, by omega, by go_num, by rw [HX.out, HX2.out, append_one, append_one, List.append_assoc, List.append_assoc]; rfl, below_drewN HBR.out _⟩
        case measure => simp [intOf]; omega
      · go_wp2
        go_ret
        refine ⟨?_, hbr⟩
        rw [List.take_of_length_le (by omega)]
        rfl

theorem refPrint_any (v : Value) (m : Ms) (w : World) (h : Mv w v m) (hr : wrongMsgL m.stream m.data = 0) :
    Calls Tryd.prog 10 #[v] w fun e w' => e = .returned (.string ⟨(printL m).toArray⟩) ∧ Below w.heap.size w w' := by
  obtain ⟨dv, rfl, hd, -⟩ := h
  have hm := right_msg hr
  obtain ⟨s, d⟩ := m
  simp only at *
  obtain ⟨st, rfl⟩ := Int.eq_ofNat_of_zero_le hm.1
  exact refPrint_at st (by omega) dv d w hd hm.2.2
end Go.Proofs.YtlomffhofionnaaDoor.leaf
