/-
  What each operation of the language does, as plain data: reading. Nothing of the program.
-/
import Derived.Test.YtdfdeppimimoiabAbsOp
namespace Go.Proofs.Ytdfdeppimimoiab.ab
set_option linter.unusedSimpArgs false
set_option linter.unusedVariables false
open Go Go.RowKit

def vEv (d : Nat) (rs : List (Nat × D)) (v : D) : Ev := { rs := rs, rb := [], ws := some (d, some v), cf := [(d, none)] }
def bEv (d : Nat) (rs : List (Nat × D)) (rb : List (Nat × List D)) (v : D) : Ev := { rs := rs, rb := rb, ws := some (d, some v), cf := [(d, none)] }
def hEv (d : Nat) (rs : List (Nat × D)) (rb : List (Nat × List D)) (s : Nat) (p : Option Nat) (x : Nat × Pay) (v : D) : Ev :=
  { rs := rs, rb := rb, rf := [((s, p), x)], ws := some (d, some v), cf := [(s, p), (d, none)], sf := some ((d, none), x) }
def movEv (st : St) (d : Nat) (x : Operand) (tr : Bool) (v : D) : Ev :=
  match x with
  | .tmp t => if tr = true ∧ t ≠ d then (match lookF st.fl (t, none) with | some f => hEv d [(t, v)] [] t none f v | none => vEv d [(t, v)] v) else vEv d [(t, v)] v
  | _ => vEv d [] v

section
variable {P : Program} {o : Oper} {st : St}

theorem vEv_ok {d : Nat} {rs : List (Nat × D)} {v : D} (h : ∀ y ∈ rs, st.F.tm y.1 = some y.2) : (vEv d rs v).ok st.F :=
  ⟨h, fun x hx => by simp [vEv] at hx, fun x hx => by simp [vEv] at hx, fun x hx => by simp [vEv] at hx⟩
theorem bEv_ok {d : Nat} {rs : List (Nat × D)} {rb : List (Nat × List D)} {v : D} (h : ∀ y ∈ rs, st.F.tm y.1 = some y.2) (hb : ∀ y ∈ rb, st.F.bx y.1 = some y.2) : (bEv d rs rb v).ok st.F :=
  ⟨h, hb, fun x hx => by simp [bEv] at hx, fun x hx => by simp [bEv] at hx⟩
theorem app_rs {rs rs' : List (Nat × D)} {p : Nat × D → Prop} (h : ∀ y ∈ rs, p y) (h' : ∀ y ∈ rs', p y) : ∀ y ∈ rs ++ rs', p y := fun y hy => by
  rcases List.mem_append.1 hy with hy | hy
  · exact h y hy
  · exact h' y hy

theorem ok_mov {x : Operand} {tr : Bool} (ho : o.op = .move x ∨ o.op = .assign x) {d : Nat} (hd : o.dst = some d) {v : D} (h : rd st x = some v) : (movEv st d x tr v).ok st.F ∧ Sound P o (movEv st d x tr v) := by
  have hrun : ∀ (a : Act) (w : World), (execOp a.eval o).run P w = .ok (.value (a.eval x)) w := by
    intro a w
    rcases ho with ho | ho <;> simp [execOp, ho]
  have hval : ∀ rs : List (Nat × D), rs = rds x v → (vEv d rs v).ok st.F ∧ Sound P o (vEv d rs v) := by
    rintro rs rfl
    exact ⟨vEv_ok (rd_ok h), sound_val hd (rb := []) fun I ρ a w hr _ => ⟨_, hrun a w, rd_rep h hr⟩⟩
  cases x with
  | tmp t =>
    simp only [movEv]
    split
    · rename_i ht
      split
      · rename_i f hf
        refine ⟨⟨rd_ok (x := .tmp t) h, fun x hx => by simp [hEv] at hx, fun x hx => by simp [hEv] at hx, fun x hx => ?_⟩, ?_⟩
        · simp [hEv] at hx; subst hx; exact hf
        · refine sound_hand hd (by simp; exact ht.2) fun I ρ a w _ _ hr _ u hu => ?_
          have h1 : AVRep I ρ w v (a.eval (.tmp t)) := rd_rep (x := .tmp t) h hr
          have h2 : a.eval (.tmp t) = u := by simp only [At] at hu; simp [Act.eval, Array.getD_eq_getD_getElem?, hu]
          exact ⟨by rw [hrun, h2], h2 ▸ h1⟩
      · exact hval _ rfl
    · exact hval _ rfl
  | const c => exact hval _ rfl
  | global g => simp [rd] at h
  | func f => exact hval _ rfl

/-- What one cell holds. -/
def isL : D → Bool
  | .held (.inl _) => true
  | .slice _ _ => true
  | .nil => true
  | .iface _ _ => true
  | _ => false
theorem leaf_of {I : Still} {ρ : Nat → Option Nat} {w : World} {l : D} {u : Value} (hl : isL l = true) (h : AVRep I ρ w l u) : CRep I w l u := by
  rcases h with h | ⟨xs, us, h1, h2, h⟩ | (⟨b, off, g, h1, _⟩ | ⟨b, n, h1, _⟩ | ⟨b, g, h1, _⟩ | ⟨b, i, z, off, g, h1, _⟩ | ⟨b, lo, z, m, g, cap, h1, _⟩ | ⟨b, f, g, h1, _⟩) | ⟨cs, off, b, o, h1, h2, h⟩
  · exact h.leaf (fun cs e => by subst e; simp [isL] at hl)
  all_goals subst h1; simp [isL] at hl
theorem plain_of {I : Still} {ρ : Nat → Option Nat} {w : World} {x u : Value} (h : AVRep I ρ w (vD x) u) : u = x := (leaf_of rfl h).invV.1
theorem agg_of {I : Still} {ρ : Nat → Option Nat} {w : World} {cs : List D} {u : Value} (h : AVRep I ρ w (aD cs) u) : ∃ us, u = .agg us.toArray ∧ Row I w cs us := (cv_of rfl h).agg
theorem asS_av {z : Nat} {l : D} {es : List D} (h : asS z l = some es) {I : Still} {ρ : Nat → Option Nat} {w : World} {u : Value} (hr : AVRep I ρ w l u) : CRep I w (sD z es) u := by
  refine asS_rep h (leaf_of ?_ hr)
  unfold asS at h
  split at h
  · rfl
  · rfl
  · rfl
  · cases h
theorem LRep.av {I : Still} {ρ : Nat → Option Nat} {w : World} {l : D} {u : Value} (h : LRep I ρ w l u) : AVRep I ρ w l u := by
  rcases h with h | ⟨b, n, h1, h2⟩
  · exact .inl (.inl h)
  · exact .inr (.inr (.inl (.inr (.inl ⟨b, n, h1, h2⟩))))
theorem LRep.leaf {I : Still} {ρ : Nat → Option Nat} {w : World} {l : D} {u : Value} (h : LRep I ρ w l u) (hl : isL l = true) : CRep I w l u := by
  rcases h with h | ⟨b, n, rfl, _⟩
  · exact h
  · simp [isL] at hl
/-- What is read whole is closed. -/
def clR : D → Bool
  | .agg cs => cs.all isL
  | _ => true
theorem AVRep.v {I : Still} {ρ : Nat → Option Nat} {w : World} {x : Value} (h : plainV x = true) : AVRep I ρ w (vD x) x := .inl (.inl (CRep.v h))

theorem ok_pick {c x y : Operand} (ho : o.op = .pick c x y) {d : Nat} (hd : o.dst = some d) {q : Bool} (hc : rd st c = some (vD (.bool q))) {v : D} (h : rd st (if q = true then x else y) = some v) :
    (vEv d (rds c (vD (.bool q)) ++ rds (if q = true then x else y) v) v).ok st.F ∧ Sound P o (vEv d (rds c (vD (.bool q)) ++ rds (if q = true then x else y) v) v) := by
  refine ⟨vEv_ok (app_rs (rd_ok hc) (rd_ok h)), sound_val hd (rb := []) fun I ρ a w hr _ => ?_⟩
  have h1 := rd_rep hc (fun y hy => hr y (List.mem_append_left _ hy))
  have h2 := rd_rep h (fun y hy => hr y (List.mem_append_right _ hy))
  refine ⟨_, ?_, h2⟩
  have h1 := plain_of h1
  cases q <;> simp [execOp, ho, h1, asBool]

theorem ok_bin {op : BinOp} {t t' : TypeId} {x y : Operand} (ho : o.op = .binOp op t x y t') {d : Nat} (hd : o.dst = some d) {a b r : Value} (hx : rd st x = some (vD a)) (hy : rd st y = some (vD b)) (h : lbin op a b = some r) :
    (vEv d (rds x (vD a) ++ rds y (vD b)) (vD r)).ok st.F ∧ Sound P o (vEv d (rds x (vD a) ++ rds y (vD b)) (vD r)) := by
  refine ⟨vEv_ok (app_rs (rd_ok hx) (rd_ok hy)), sound_val hd (rb := []) fun I ρ ac w hr _ => ⟨r, ?_, AVRep.v (lbin_plain h)⟩⟩
  have h1 := plain_of (rd_rep hx (fun y hy => hr y (List.mem_append_left _ hy)))
  have h2 := plain_of (rd_rep hy (fun y hy => hr y (List.mem_append_right _ hy)))
  unfold lbin at h
  split at h
  · rename_i k m k' n
    split at h
    · rename_i hk; subst hk
      split at h <;> (try split at h) <;> (first | cases h | skip)
      all_goals simp_all [execOp, eqGuard, binOp, Op.intArith, Op.intDiv, Op.intCmp, inR_wrap]
    · cases h
  · rename_i p q
    split at h <;> (first | cases h | skip)
    all_goals simp [execOp, ho, h1, h2, eqGuard, binOp, Op.stringOp]
  · cases h

theorem ok_binB {eq : Bool} {t t' : TypeId} {x y : Operand} (ho : o.op = .binOp (if eq = true then .eql else .neq) t x y t') (ht : P.underlying t = some .bool) {d : Nat} (hd : o.dst = some d) {a b : Bool} (hx : rd st x = some (vD (.bool a))) (hy : rd st y = some (vD (.bool b))) :
    (vEv d (rds x (vD (.bool a)) ++ rds y (vD (.bool b))) (vD (.bool ((a == b) == eq)))).ok st.F ∧ Sound P o (vEv d (rds x (vD (.bool a)) ++ rds y (vD (.bool b))) (vD (.bool ((a == b) == eq)))) := by
  refine ⟨vEv_ok (app_rs (rd_ok hx) (rd_ok hy)), sound_val hd (rb := []) fun I ρ ac w hr _ => ⟨.bool ((a == b) == eq), ?_, AVRep.v rfl⟩⟩
  have h1 := plain_of (rd_rep hx (fun y hy => hr y (List.mem_append_left _ hy)))
  have h2 := plain_of (rd_rep hy (fun y hy => hr y (List.mem_append_right _ hy)))
  have h3 := run_equal_bool (P := P) w t a b ht
  cases eq <;> simp [execOp, ho, h1, h2, eqGuard, binOp, h3]

theorem ok_not {t : TypeId} {x : Operand} (ho : o.op = .unOp .not t x) {d : Nat} (hd : o.dst = some d) {a : Bool} (hx : rd st x = some (vD (.bool a))) :
    (vEv d (rds x (vD (.bool a))) (vD (.bool (!a)))).ok st.F ∧ Sound P o (vEv d (rds x (vD (.bool a))) (vD (.bool (!a)))) := by
  refine ⟨vEv_ok (rd_ok hx), sound_val hd (rb := []) fun I ρ ac w hr _ => ⟨.bool (!a), ?_, AVRep.v rfl⟩⟩
  have h1 := plain_of (rd_rep hx hr)
  simp [execOp, ho, h1, Op.unary]

theorem ok_cvi {s t : TypeId} {td : TypeDesc} {k k' : IntKind} {x : Operand} (ho : o.op = .convert s t x) (hs : P.underlying s = some td) (ht : P.underlying t = some (.int k)) {d : Nat} (hd : o.dst = some d) {n : Int} (hx : rd st x = some (vD (.int k' n))) :
    (vEv d (rds x (vD (.int k' n))) (vD (.int k (k.wrap n)))).ok st.F ∧ Sound P o (vEv d (rds x (vD (.int k' n))) (vD (.int k (k.wrap n)))) := by
  refine ⟨vEv_ok (rd_ok hx), sound_val hd (rb := []) fun I ρ ac w hr _ => ⟨.int k (k.wrap n), ?_, AVRep.v rfl⟩⟩
  have h1 := plain_of (rd_rep hx hr)
  simp [execOp, ho, h1, convert, run_underlying hs, run_underlying ht, Conv.intToInt]

/-- A part of cells. -/
def sub (n : Nat) (ag : Bool) (off : Nat) (cs : List D) : Option D :=
  if off + n ≤ cs.length then (if ag = true then some (aD ((cs.drop off).take n)) else if n = 1 then cs[off]? else none) else none

theorem run_isAgg {t : TypeId} {ag : Bool} (h : aggT P t = some ag) (w : World) : (isAgg t).run P w = .ok ag w := by
  unfold aggT at h
  cases hu : P.underlying t with
  | none => simp [hu] at h
  | some d => rw [hu] at h; cases d <;> simp at h <;> subst h <;> simp [isAgg, run_underlying hu]
theorem run_sizeOf {t : TypeId} {n : Nat} (h : sizeT P t = some n) (w : World) : (sizeOf t).run P w = .ok n w := by
  unfold sizeT at h
  obtain ⟨i, hi, rfl⟩ := Option.map_eq_some_iff.1 h
  simp [sizeOf, typeInfo, hi]

theorem ok_fld {t : TypeId} {fs : Array Field} {f : Nat} {fd : Field} {n : Nat} {ag : Bool} {x : Operand} (ho : o.op = .field t x f) (ht : P.underlying t = some (.struct fs)) (hf : fs[f]? = some fd) (hn : sizeT P fd.type = some n) (ha : aggT P fd.type = some ag) {d : Nat} (hd : o.dst = some d) {cs : List D} (hx : rd st x = some (aD cs)) {r : D} (h : sub n ag fd.offset cs = some r) :
    (vEv d (rds x (aD cs)) r).ok st.F ∧ Sound P o (vEv d (rds x (aD cs)) r) := by
  refine ⟨vEv_ok (rd_ok hx), sound_val hd (rb := []) fun I ρ ac w hr _ => ?_⟩
  obtain ⟨us, h1, hrow⟩ := agg_of (rd_rep hx hr)
  unfold sub at h
  split at h
  · rename_i hle
    split at h
    · rename_i hag; subst hag
      cases h
      refine ⟨.agg ((us.drop fd.offset).take n).toArray, ?_, .inl (.inr ⟨_, _, rfl, rfl, (hrow.drop _).take n⟩)⟩
      have e : us.toArray.extract fd.offset (fd.offset + n) = ((us.drop fd.offset).take n).toArray := by
        rw [List.extract_toArray, List.extract_eq_take_drop]; congr 2; omega
      simp [execOp, ho, h1, Instr.field, run_underlying ht, hf, asAgg, part, run_isAgg ha, run_sizeOf hn]
    · rename_i hag
      split at h
      · obtain ⟨u, h2, h3⟩ := hrow.at h
        refine ⟨u, ?_, .inl (.inl h3)⟩
        have : ag = false := by simpa using hag
        subst this
        simp [execOp, ho, h1, Instr.field, run_underlying ht, hf, asAgg, part, run_isAgg ha, h2]
      · cases h
  · cases h

theorem ok_ext {x : Operand} {k : Nat} (ho : o.op = .extract x k) {d : Nat} (hd : o.dst = some d) {xs : List D} (hx : rd st x = some (tD xs)) {c : D} (h : xs[k]? = some c) :
    (vEv d (rds x (tD xs)) c).ok st.F ∧ Sound P o (vEv d (rds x (tD xs)) c) := by
  refine ⟨vEv_ok (rd_ok hx), sound_val hd (rb := []) fun I ρ ac w hr _ => ?_⟩
  obtain ⟨us, hu, hv⟩ := (rd_rep hx hr).invT
  obtain ⟨v, h2, h3⟩ := hv.at h
  exact ⟨v, by simp [execOp, ho, hu, Instr.extract, h2], .inl h3⟩
end
end Go.Proofs.Ytdfdeppimimoiab.ab
