/-
  What each operation of the language does, as plain data: addresses, slices, memory. Nothing of the program.
-/
import Derived.Test.YtgechpchbenanacM5
import Derived.Laws.BytesString
namespace Go.Proofs.Ytgechpchbenanac.ab
set_option linter.unusedSimpArgs false
set_option linter.unusedVariables false
open Go Go.RowKit

section
variable {P : Program} {o : Oper} {st : St}

/-- An address, further on. -/
def moveA (n : Nat) : D → Option D
  | .held (.inr (b, off)) => some (pD b (off + n))
  | .ptr (.slice cs [.held (.inr (off, 0))]) => some (eD cs (off + n))
  | .ptr (.slice [] [.held (.inr (b, i)), .held (.inr (z, off))]) => some (qD b i z (off + n))
  | .iface _ (.slice cs [.held (.inr (0, _))]) => some (eD cs n)
  | _ => none
theorem moveA_rep {n : Nat} {v v' : D} (h : moveA n v = some v') {I : Still} {ρ : Nat → Option Nat} {w : World} {u : Value} (hr : AVRep I ρ w v u) : ∃ g off, u = .pointer (some ⟨g, off, none⟩) ∧ AVRep I ρ w v' (.pointer (some ⟨g, off + n, none⟩)) := by
  unfold moveA at h
  split at h
  · cases h
    obtain ⟨g, hb, h1, rfl⟩ := hr.invP
    exact ⟨g, _, rfl, AVRep.p hb h1⟩
  · cases h
    rename_i cs off
    obtain ⟨b, o, rfl, he⟩ := hr.invE
    exact ⟨b, _, rfl, .inr (.inr (.inr ⟨cs, off + n, b, o, rfl, by rw [Nat.add_assoc], he⟩))⟩
  · cases h
    rename_i b i z off
    obtain ⟨g, h1, h2, rfl⟩ := hr.invQ
    exact ⟨g, _, rfl, .inr (.inr (.inl (.inr (.inr (.inr (.inl ⟨b, i, z, off + n, g, rfl, h1, h2, by rw [Nat.add_assoc]⟩))))))⟩
  · cases h
    obtain ⟨p, rfl, b, o, rfl, he⟩ := hr.invJ
    exact ⟨b, _, rfl, .inr (.inr (.inr ⟨_, n, b, o, rfl, rfl, he⟩))⟩
  · cases h

theorem ok_fad {t : TypeId} {fs : Array Field} {f : Nat} {fd : Field} {n : Nat} {x : Operand} (ho : o.op = .fieldAddr t x f) (ht : P.underlying t = some (.struct fs)) (hf : fs[f]? = some fd) (hn : sizeT P fd.type = some n) (hn0 : n ≠ 0) {d : Nat} (hd : o.dst = some d) {v v' : D} (hx : rd st x = some v) (h : moveA fd.offset v = some v') :
    (vEv d (rds x v) v').ok st.F ∧ Sound P o (vEv d (rds x v) v') := by
  refine ⟨vEv_ok (rd_ok hx), sound_val hd (rb := []) fun I ρ ac w hr _ => ?_⟩
  obtain ⟨g, off, h1, h2⟩ := moveA_rep h (rd_rep hx hr)
  exact ⟨_, by simp [execOp, ho, h1, Instr.fieldAt, run_underlying ht, hf, Instr.sureAddr, fieldPlace, run_sizeOf hn, hn0, Addr.add_lit], h2⟩

theorem ok_iaA {t e : TypeId} {len z : Nat} {x i : Operand} (ho : o.op = .indexAddr t x i) (ht : P.underlying t = some (.array len e)) (hz : sizeT P e = some z) {d : Nat} (hd : o.dst = some d) {v v' : D} {k : IntKind} {n : Int} (hx : rd st x = some v) (hi : rd st i = some (vD (.int k n))) (hn : 0 ≤ n ∧ n < len) (h : moveA (n.toNat * z) v = some v') :
    (vEv d (rds x v ++ rds i (vD (.int k n))) v').ok st.F ∧ Sound P o (vEv d (rds x v ++ rds i (vD (.int k n))) v') := by
  refine ⟨vEv_ok (app_rs (rd_ok hx) (rd_ok hi)), sound_val hd (rb := []) fun I ρ ac w hr _ => ?_⟩
  obtain ⟨g, off, h1, h2⟩ := moveA_rep h (rd_rep hx (fun y hy => hr y (List.mem_append_left _ hy)))
  have h3 := plain_of (rd_rep hi (fun y hy => hr y (List.mem_append_right _ hy)))
  exact ⟨_, by simp [execOp, ho, h1, h3, Instr.indexAt, asIntOf, run_underlying ht, Instr.sureAddr, run_sizeOf hz, hn, Addr.add_lit], h2⟩

theorem ok_iaS {t e : TypeId} {z : Nat} {x i : Operand} (ho : o.op = .indexAddr t x i) (ht : P.underlying t = some (.slice e)) (hz : sizeT P e = some z) {d : Nat} (hd : o.dst = some d) {l : D} {es : List D} {k : IntKind} {n : Int} (hx : rd st x = some l) (hl : asS z l = some es) (hi : rd st i = some (vD (.int k n))) {c : D} (hn : 0 ≤ n) (h : es[n.toNat]? = some c) :
    (vEv d (rds x l ++ rds i (vD (.int k n))) (eD (cellsD c) 0)).ok st.F ∧ Sound P o (vEv d (rds x l ++ rds i (vD (.int k n))) (eD (cellsD c) 0)) := by
  refine ⟨vEv_ok (app_rs (rd_ok hx) (rd_ok hi)), sound_val hd (rb := []) fun I ρ ac w hr _ => ?_⟩
  have h1 := asS_av hl (rd_rep hx (fun y hy => hr y (List.mem_append_left _ hy)))
  have h3 := plain_of (rd_rep hi (fun y hy => hr y (List.mem_append_right _ hy)))
  generalize hu : ac.eval x = u at h1
  have hlt : n.toNat < es.length := (List.getElem?_eq_some_iff.1 h).1
  · obtain ⟨ad, cap, rfl, U, hle, hno, hm, hsz, hc, hcr⟩ := h1.invS
    obtain ⟨b, off, rfl, hcell⟩ := hc (by intro e; subst e; simp at hlt)
    have hcz : (cellsD c).length = z := hsz c (List.mem_of_getElem? h)
    refine ⟨.pointer (some ⟨b, off + n.toNat * z + 0, none⟩), ?_, .inr (.inr (.inr ⟨_, _, b, off + n.toNat * z, rfl, rfl, fun j l' hj => ?_⟩))⟩
    · have : n < (es.length : Int) := by omega
      simp [execOp, ho, hu, h3, Instr.indexAt, asIntOf, run_underlying ht, run_sizeOf hz, hn, this, Addr.add_lit]
    · have hjz : j < z := by have := (List.getElem?_eq_some_iff.1 hj).1; omega
      have := hcell n.toNat j hlt hjz
      exact ⟨U n.toNat j, this.1, this.2, hcr n.toNat j c l' h hj⟩

/-- A length. -/
def lenL : D → Option Nat
  | .slice es [.held (.inr (_, 0))] => some es.length
  | .slice es [.held (.inr (_, 1))] => some es.length
  | .ptr (.held (.inr (_, n))) => some n
  | .held (.inl (.slice none 0 0)) => some 0
  | .held (.inl (.string s)) => some s.size
  | _ => none
def strL : D → Bool
  | .held (.inl (.string _)) => true
  | _ => false
theorem ok_len {t : TypeId} {x : Operand} (ho : o.op = .call { callee := .builtin .len, args := #[x], argTypes := #[t] }) {d : Nat} (hd : o.dst = some d) {l : D} {n : Nat} (hx : rd st x = some l) (hty : strL l = true → P.underlying t = some .string) (hty' : strL l = false → ∃ e, P.underlying t = some (.slice e)) (h : lenL l = some n) :
    (vEv d (rds x l) (vD (.int .i64 n))).ok st.F ∧ Sound P o (vEv d (rds x l) (vD (.int .i64 n))) := by
  refine ⟨vEv_ok (rd_ok hx), sound_val hd (rb := []) fun I ρ ac w hr _ => ⟨.int .i64 n, ?_, AVRep.v rfl⟩⟩
  have h1 := rd_rep hx hr
  unfold lenL at h
  split at h
  · cases h
    obtain ⟨e, he⟩ := hty' rfl
    obtain ⟨a, cap, hu, _⟩ := (leaf_of rfl h1).invS
    simp [execOp, ho, hu, resolve, invoke, builtin, Builtin.len_, run_underlying he, goInt]
  · cases h
    obtain ⟨e, he⟩ := hty' rfl
    obtain ⟨a, cap, hu, _⟩ := (leaf_of rfl h1).invN
    simp [execOp, ho, hu, resolve, invoke, builtin, Builtin.len_, run_underlying he, goInt]
  · cases h
    obtain ⟨e, he⟩ := hty' rfl
    obtain ⟨g, cap, _, _, hu, _⟩ := h1.invO
    simp [execOp, ho, hu, resolve, invoke, builtin, Builtin.len_, run_underlying he, goInt]
  · cases h
    obtain ⟨e, he⟩ := hty' rfl
    have hu := plain_of h1
    simp [execOp, ho, hu, resolve, invoke, builtin, Builtin.len_, run_underlying he, goInt]
  · cases h
    have he := hty rfl
    have hu := plain_of h1
    simp [execOp, ho, hu, resolve, invoke, builtin, Builtin.len_, run_underlying he, goInt]
  · cases h

/-- A load. -/
theorem ok_loadE {t : TypeId} {n : Nat} {ag : Bool} {x : Operand} (ho : o.op = .load t x) (hn : sizeT P t = some n) (ha : aggT P t = some ag) {d : Nat} (hd : o.dst = some d) {cs : List D} {off : Nat} (hx : rd st x = some (eD cs off)) {r : D} (h : sub n ag off cs = some r) :
    (vEv d (rds x (eD cs off)) r).ok st.F ∧ Sound P o (vEv d (rds x (eD cs off)) r) := by
  refine ⟨vEv_ok (rd_ok hx), sound_val hd (rb := []) fun I ρ ac w hr _ => ?_⟩
  obtain ⟨b, o', hu, he⟩ := (rd_rep hx hr).invE
  · unfold sub at h
    split at h
    · rename_i hle
      split at h
      · rename_i hag; subst hag
        cases h
        -- the cells
        let us : List Value := (List.range n).map fun j => (w.cell? ⟨b, o' + (off + j), none⟩).getD undef
        have hat : ∀ j, j < n → ∃ y, w.cell? ⟨b, o' + (off + j), none⟩ = some y ∧ ∀ c, cs[off + j]? = some c → CRep I w c y := by
          intro j hj
          obtain ⟨y, q1, _, q2⟩ := he (off + j) cs[off + j] (List.getElem?_eq_getElem (by omega))
          exact ⟨y, q1, fun c hc => by rw [List.getElem?_eq_getElem (by omega)] at hc; cases hc; exact q2⟩
        have hus : us.length = n := by simp [us]
        have huat : ∀ (j : Nat) y, us[j]? = some y → w.cell? ((⟨b, o' + off, none⟩ : Addr).add j) = some y := by
          intro j y hy
          have hj : j < n := by rw [← hus]; exact (List.getElem?_eq_some_iff.1 hy).1
          obtain ⟨y', q1, _⟩ := hat j hj
          simp only [us, List.getElem?_map, List.getElem?_range hj, Option.map_some, q1, Option.getD_some] at hy
          cases hy
          rw [Addr.add_lit, Nat.add_assoc]; exact q1
        refine ⟨.agg us.toArray, ?_, .inl (.inr ⟨_, us, rfl, rfl, by simp [hus]; omega, fun j c y hc hy => ?_⟩)⟩
        · have := run_loadCells_list (P := P) w ⟨b, o' + off, none⟩ us huat
          rw [hus] at this
          simp [execOp, ho, hu, Instr.loadAt, Instr.sureAddr, loadVar, run_isAgg ha, run_sizeOf hn, this]
        · have hj : j < n := by rw [← hus]; exact (List.getElem?_eq_some_iff.1 hy).1
          obtain ⟨y', q1, q2⟩ := hat j hj
          simp only [us, List.getElem?_map, List.getElem?_range hj, Option.map_some, q1, Option.getD_some] at hy
          cases hy
          rw [List.getElem?_take, if_pos hj, List.getElem?_drop] at hc
          exact q2 c hc
      · rename_i hag
        split at h
        · obtain ⟨y, q1, _, q2⟩ := he off r h
          have : ag = false := by simpa using hag
          subst this
          exact ⟨y, by simp [execOp, ho, hu, Instr.loadAt, Instr.sureAddr, loadVar, run_isAgg ha, load, Sem.run, q1], .inl (.inl q2)⟩
        · cases h
    · cases h

theorem run_loadP {t : TypeId} {n : Nat} {ag : Bool} (hn : sizeT P t = some n) (ha : aggT P t = some ag) {cs : List D} {off : Nat} {r : D} (h : sub n ag off cs = some r) (hcl : clR r = true) {I : Still} {ρ : Nat → Option Nat} {w : World} {g : Nat} {us : List Value} {t' : TypeId} (hg : w.heap[g]? = some (.cells us.toArray t' (0, 0))) (hrow : RowL I ρ w cs us) :
    ∃ u, (Instr.loadAt t (.pointer (some ⟨g, off, none⟩))).run P w = .ok u w ∧ AVRep I ρ w r u ∧ (isL r = true → w.cell? ⟨g, off, none⟩ = some u) := by
  have hcell : ∀ j, w.cell? ⟨g, j, none⟩ = us[j]? := fun j => by rw [cell_of_row w g j us.toArray t' (0, 0) hg]; simp
  unfold sub at h
  split at h
  · rename_i hle
    split at h
    · rename_i hag; subst hag
      cases h
      have hl : ((us.drop off).take n).length = n := by simp; rw [← hrow.1]; omega
      have := run_loadCells_list (P := P) w ⟨g, off, none⟩ ((us.drop off).take n) (fun j y hy => by
        rw [Addr.add_lit, hcell]
        rw [List.getElem?_take] at hy
        split at hy
        · rw [List.getElem?_drop] at hy; exact hy
        · cases hy)
      rw [hl] at this
      have hrow' := (hrow.drop off).take n
      have hcl' : Row I w ((cs.drop off).take n) ((us.drop off).take n) := ⟨hrow'.1, fun j c u hc hu => (hrow'.2 j c u hc hu).leaf (List.all_eq_true.1 hcl c (List.mem_of_getElem? hc))⟩
      exact ⟨.agg ((us.drop off).take n).toArray, by simp [Instr.loadAt, Instr.sureAddr, loadVar, run_isAgg ha, run_sizeOf hn, this], .inl (.inr ⟨_, _, rfl, rfl, hcl'⟩), fun e => by cases e⟩
    · rename_i hag
      split at h
      · obtain ⟨y, q1, q2⟩ := hrow.at h
        have : ag = false := by simpa using hag
        subst this
        exact ⟨y, by simp [Instr.loadAt, Instr.sureAddr, loadVar, run_isAgg ha, load, Sem.run, hcell, q1], q2.av, fun e => by rw [hcell]; exact q1⟩
      · cases h
  · cases h
/-- Out of an own box. -/
def loadEv (st : St) (d : Nat) (x : Operand) (b off : Nat) (cs : List D) (tr : Bool) (r : D) : Ev :=
  if tr = true ∧ isL r = true then (match lookF st.fl (b, some off) with | some f => hEv d (rds x (pD b off)) [(b, cs)] b (some off) f r | none => bEv d (rds x (pD b off)) [(b, cs)] r) else bEv d (rds x (pD b off)) [(b, cs)] r
theorem ok_loadP {t : TypeId} {n : Nat} {ag tr : Bool} {x : Operand} (ho : o.op = .load t x) (hn : sizeT P t = some n) (ha : aggT P t = some ag) {d : Nat} (hd : o.dst = some d) {b off : Nat} {cs : List D} (hx : rd st x = some (pD b off)) (hb : look st.bx b = some cs) {r : D} (h : sub n ag off cs = some r) (hcl : clR r = true) :
    (loadEv st d x b off cs tr r).ok st.F ∧ Sound P o (loadEv st d x b off cs tr r) := by
  have hrs := rd_ok (st := st) hx
  have hrb : ∀ y ∈ [(b, cs)], st.F.bx y.1 = some y.2 := fun y hy => by simp at hy; subst hy; exact hb
  have plain : (bEv d (rds x (pD b off)) [(b, cs)] r).ok st.F ∧ Sound P o (bEv d (rds x (pD b off)) [(b, cs)] r) := by
    refine ⟨bEv_ok hrs hrb, sound_val hd fun I ρ ac w hr hbx => ?_⟩
    obtain ⟨g, hlt, hp, hu⟩ := (rd_rep hx hr).invP
    obtain ⟨g', q1, q23⟩ := hbx (b, cs) (by simp)
    simp only at q1; rw [hp] at q1; cases q1
    obtain ⟨us, t', q2, q3⟩ := q23.cells hlt
    obtain ⟨v, r1, r2, _⟩ := run_loadP hn ha h hcl q2 q3
    exact ⟨v, by simp [execOp, ho, hu, r1], r2⟩
  unfold loadEv
  split
  · rename_i htr
    split
    · rename_i f hf
      refine ⟨⟨hrs, hrb, fun x hx => by simp [hEv] at hx, fun x hx => ?_⟩, ?_⟩
      · simp [hEv] at hx; subst hx; exact hf
      · refine sound_hand hd (by simp) fun I ρ ac w _ _ hr hbx u0 hu0 => ?_
        obtain ⟨g, hlt, hp, hu⟩ := (rd_rep hx hr).invP
        obtain ⟨g', q1, q23⟩ := hbx (b, cs) (by simp)
        simp only at q1; rw [hp] at q1; cases q1
        obtain ⟨us, t', q2, q3⟩ := q23.cells hlt
        obtain ⟨v, r1, r2, r3⟩ := run_loadP hn ha h hcl q2 q3
        have := r3 htr.2
        simp only [At, hp, Option.bind_some, this] at hu0
        cases hu0
        exact ⟨by simp [execOp, ho, hu, r1], r2⟩
    · exact plain
  · exact plain

theorem run_storeP {t : TypeId} {n : Nat} (hn : sizeT P t = some n) {w : World} {g off : Nat} {us : List Value} {t' : TypeId} (hg : w.heap[g]? = some (.cells us.toArray t' (0, 0))) {u : Value} (hu : u.cells.size = n) (h1 : ∀ v ∈ u.cells.toList, v.oneCell' = true) (hl : off + n ≤ us.length) :
    (Instr.storeAt t (.pointer (some ⟨g, off, none⟩)) u).run P w = .ok () (w.setRow g (over us off u.cells.toList).toArray) := by
  have := run_storeCells_at (P := P) g off t' u.cells.toList 0 us.toArray w hg (by simp [hu]; omega) h1
  simp only [Instr.storeAt, Instr.sureAddr, storeVar, Sem.run_bind, Sem.run_pure, Result.andThen_ok, run_sizeOf hn, hu]
  simp only [ne_eq, not_true, if_false]
  simp only [Nat.add_zero] at this
  simpa [over] using this
/-- What may be stored into an own box. -/
def isCO : D → Bool
  | .ptr (.held (.inr _)) => true
  | d => isC d
theorem co_row {I : Still} {ρ : Nat → Option Nat} {w : World} {c : D} {u : Value} (hc : isCO c = true) (h : AVRep I ρ w c u) : RowL I ρ w (cellsD c) u.cells.toList := by
  unfold isCO at hc
  split at hc
  · rename_i x
    obtain ⟨b, n⟩ := x
    have h1 : LRep I ρ w (oD b n) u := .inr ⟨b, n, rfl, h.invO⟩
    rw [h1.one.2.1, h1.one.2.2]
    exact RowL.single h1
  · exact (cv_of hc h).row.L
/-- A store into an own box. -/
def storEv (st : St) (x y : Operand) (b off : Nat) (cs : List D) (c : D) : Ev :=
  match y, isL c with
  | .tmp s, true => (match lookF st.fl (s, none) with
    | some f => { rs := rds x (pD b off) ++ rds y c, rb := [(b, cs)], wb := some (b, over cs off [c]), rf := [((s, none), f)], cf := [(s, none), (b, some off)], sf := some ((b, some off), f) }
    | none => { rs := rds x (pD b off) ++ rds y c, rb := [(b, cs)], wb := some (b, over cs off (cellsD c)), cf := cellsFrom b off (cellsD c) })
  | _, _ => { rs := rds x (pD b off) ++ rds y c, rb := [(b, cs)], wb := some (b, over cs off (cellsD c)), cf := cellsFrom b off (cellsD c) }
theorem ok_stor {t : TypeId} {n : Nat} {x y : Operand} (ho : o.op = .store t x y) (hn : sizeT P t = some n) (hd : o.dst = none) {b off : Nat} {cs : List D} {c : D} (hx : rd st x = some (pD b off)) (hb : look st.bx b = some cs) (hy : rd st y = some c) (hcc : isCO c = true) (hc : (cellsD c).length = n) (hl : off + n ≤ cs.length) :
    (storEv st x y b off cs c).ok st.F ∧ Sound P o (storEv st x y b off cs c) := by
  have hrs : ∀ z ∈ rds x (pD b off) ++ rds y c, st.F.tm z.1 = some z.2 := app_rs (rd_ok hx) (rd_ok hy)
  have hrb : ∀ y ∈ [(b, cs)], st.F.bx y.1 = some y.2 := fun y hy => by simp at hy; subst hy; exact hb
  have plain : Ev.ok { rs := rds x (pD b off) ++ rds y c, rb := [(b, cs)], wb := some (b, over cs off (cellsD c)), cf := cellsFrom b off (cellsD c) } st.F ∧ Sound P o { rs := rds x (pD b off) ++ rds y c, rb := [(b, cs)], wb := some (b, over cs off (cellsD c)), cf := cellsFrom b off (cellsD c) } := by
    refine ⟨⟨hrs, hrb, fun x hx => by simp at hx, fun x hx => by simp at hx⟩, sound_store hd (by omega) fun I ρ ac w hr g hg => ?_⟩
    have h1 := rd_rep hx (fun y hy => hr y (List.mem_append_left _ hy))
    have h3 := co_row hcc (rd_rep hy (fun y hy => hr y (List.mem_append_right _ hy)))
    obtain ⟨g', hlt, hp, hu⟩ := h1.invP
    · rw [hg] at hp; cases hp
      refine ⟨hlt, _, h3, fun us t' hgg hle => ?_⟩
      have hsz : (ac.eval y).cells.size = n := by rw [← Array.length_toList, ← h3.1]; exact hc
      have := run_storeP (P := P) hn hgg (u := ac.eval y) (off := off) hsz h3.one (by rw [Array.length_toList, hsz] at hle; exact hle)
      simp [execOp, ho, hu, this]
  unfold storEv
  split
  · rename_i s hlf
    have hcl : cellsD c = [c] := by
      unfold isL at hlf
      split at hlf <;> first | rfl | cases hlf
    split
    · rename_i f hf
      refine ⟨⟨hrs, hrb, fun x hx => by simp at hx, fun x hx => by simp at hx; subst hx; exact hf⟩, sound_storeT hd (by simp [hcl] at hc; omega) fun I ρ ac w hr g hg u hus => ?_⟩
      have h1 := rd_rep hx (fun y hy => hr y (List.mem_append_left _ hy))
      have h2 := leaf_of hlf (rd_rep hy (fun y hy => hr y (List.mem_append_right _ hy)))
      have h4 : ac.eval (.tmp s) = u := by simp [Act.eval, Array.getD_eq_getD_getElem?, hus]
      rw [h4] at h2
      obtain ⟨g', hlt, hp, hu⟩ := h1.invP
      · rw [hg] at hp; cases hp
        refine ⟨hlt, h2, fun us t' hgg hle => ?_⟩
        have h5 := h2.one
        have := run_storeP (P := P) hn hgg (u := u) (off := off) (by rw [h5.2.1]; simp [hcl] at hc; simp [hc]) (fun v hv => by rw [h5.2.1] at hv; simp at hv; subst hv; exact h5.1) (by simp [hcl] at hc; omega)
        rw [h5.2.1] at this
        simp [execOp, ho, hu, h4, this]
    · exact plain
  · exact plain

theorem ok_box {e : TypeId} {x : Operand} (ho : o.op = .box e x) {d : Nat} (hd : o.dst = some d) {c : D} (hx : rd st x = some c) (hcc : isC c = true) (hb : look st.bx d = none) :
    Ev.ok { rs := rds x c, nb := [d], ws := some (d, some (pD d 0)), wb := some (d, (cellsD c)), cf := [(d, none)] } st.F ∧ Sound P o { rs := rds x c, nb := [d], ws := some (d, some (pD d 0)), wb := some (d, (cellsD c)), cf := [(d, none)] } := by
  refine ⟨⟨rd_ok hx, fun x hx => by simp at hx, fun x hx => by simp at hx; subst hx; exact hb, fun x hx => by simp at hx⟩, sound_box hd fun I ρ ac w hr => ?_⟩
  have h2 := cv_of hcc (rd_rep hx hr)
  exact ⟨_, e, h2.row.L, by simp [execOp, ho, Instr.box, newVar, newRow, newObj, Sem.run]⟩

theorem zeroT_rep {t : TypeId} {zs : List D} (h : zeroT P t = some zs) (I : Still) (w : World) : ∃ z, (zeroValue t).run P w = .ok z w ∧ Row I w zs z.cells.toList := by
  unfold zeroT at h
  cases hi : P.info? t with
  | none => simp [hi] at h
  | some i =>
    cases hz : i.zero with
    | none => simp [hi, hz] at h
    | some z =>
      simp only [hi, hz, Option.bind_eq_bind, Option.bind_some] at h
      split at h
      · rename_i hall
        cases h
        refine ⟨z, by simp [zeroValue, typeInfo, hi, hz], by simp, fun j c u hc hu => ?_⟩
        rw [List.getElem?_map, hu] at hc
        cases hc
        exact CRep.v (Array.all_eq_true'.1 hall u (by rw [← Array.mem_toList_iff]; exact List.mem_of_getElem? hu))
      · cases h
theorem ok_alo {e : TypeId} {zs : List D} (ho : o.op = .alloc e) (hz : zeroT P e = some zs) {d : Nat} (hd : o.dst = some d) (hb : look st.bx d = none) :
    Ev.ok { nb := [d], ws := some (d, some (pD d 0)), wb := some (d, zs), cf := [(d, none)] } st.F ∧ Sound P o { rs := [], nb := [d], ws := some (d, some (pD d 0)), wb := some (d, zs), cf := [(d, none)] } := by
  refine ⟨⟨fun x hx => by simp at hx, fun x hx => by simp at hx, fun x hx => by simp at hx; subst hx; exact hb, fun x hx => by simp at hx⟩, sound_box hd fun I ρ ac w hr => ?_⟩
  obtain ⟨z, h1, h2⟩ := zeroT_rep hz I w
  exact ⟨_, e, h2.L, by simp [execOp, ho, Instr.alloc, h1, newVar, newRow, newObj, Sem.run]⟩
end
end Go.Proofs.Ytgechpchbenanac.ab
