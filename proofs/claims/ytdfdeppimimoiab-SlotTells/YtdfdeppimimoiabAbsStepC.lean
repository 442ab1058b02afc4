/-
  What each operation of the language does, as plain data: appending; bytes as strings; three integers. Nothing of the program.
-/
import Derived.Test.YtdfdeppimimoiabAbsStepB
import Derived.Laws.IdiomStrings
import Derived.Laws.StructEq
namespace Go.Proofs.Ytdfdeppimimoiab.ab
set_option linter.unusedSimpArgs false
set_option linter.unusedVariables false
open Go Go.RowKit

section
variable {P : Program} {o : Oper} {st : St}

def appEv (d s : Nat) (rs : List (Nat × D)) (e z : Nat) (es : List D) : Ev :=
  { rs := rs, rf := [((s, none), (e, z, none))], ws := some (d, some (sD z es)), cf := [(s, none), (d, none)], sf := some ((d, none), (e, z, none)) }
def app0Ev (d : Nat) (rs : List (Nat × D)) (e z : Nat) (es : List D) : Ev :=
  { rs := rs, ws := some (d, some (sD z es)), cf := [(d, none)], sf := some ((d, none), (e, z, none)) }

def apHEv (d s : Nat) (rs : List (Nat × D)) (e z : Nat) (es fs : List D) : Ev :=
  { rs := rs, rf := [((s, none), (e, z, some es))], ws := some (d, some xD), cf := [(s, none), (d, none)], sf := some ((d, none), (e, z, some (es ++ fs))) }
theorem ok_apH {t e : TypeId} {z bytes s : Nat} {i : TypeInfo} {zv : Value} {y : Operand} (ho : o.op = .call { callee := .builtin .append, args := #[.tmp s, y], argTypes := #[t, t] }) (ht : P.underlying t = some (.slice e)) (hi : P.info? e = some i) (hzv : i.zero = some zv)
    (hsize : i.size = z) (hby : i.bytes = bytes) (hzs : zv.cells.size = z) (hz : 0 < z) (hb0 : 0 < bytes) {d : Nat} (hd : o.dst = some d) (hne : s ≠ d) {l l' : D} {es fs : List D} (hx : rd st (.tmp s) = some l) (hy : rd st y = some l') (hl' : asS z l' = some fs) (hf : lookF st.fl (s, none) = some (e, z, some es))
    (hbytes : (es.length + fs.length) * bytes ≤ 140737488355328) :
    (apHEv d s (rds (.tmp s) l ++ rds y l') e z es fs).ok st.F ∧ Sound P o (apHEv d s (rds (.tmp s) l ++ rds y l') e z es fs) := by
  have h63 : es.length + fs.length ≤ maxLen := by
    have : es.length + fs.length ≤ (es.length + fs.length) * bytes := Nat.le_mul_of_pos_right _ hb0
    unfold maxLen; omega
  refine ⟨⟨app_rs (rd_ok hx) (rd_ok hy), fun x hx => by simp [apHEv] at hx, fun x hx => by simp [apHEv] at hx, fun x hx => by simp [apHEv] at hx; subst hx; exact hf⟩, sound_appH hd ht hi hzv hsize hby hzs hz h63 hbytes hne fun I ρ ac w hr u hu => ?_⟩
  have h2 := asS_av hl' (rd_rep hy (fun y hy => hr y (List.mem_append_right _ hy)))
  have h3 : ac.eval (.tmp s) = u := by simp [Act.eval, Array.getD_eq_getD_getElem?, hu]
  refine ⟨ac.eval y, h2, fun w v' hv => ?_⟩
  simp [execOp, ho, resolve, invoke, builtin, h3, hv]

theorem ok_app {t e : TypeId} {z bytes s : Nat} {i : TypeInfo} {zv : Value} {y : Operand} (ho : o.op = .call { callee := .builtin .append, args := #[.tmp s, y], argTypes := #[t, t] }) (ht : P.underlying t = some (.slice e)) (hi : P.info? e = some i) (hzv : i.zero = some zv)
    (hsize : i.size = z) (hby : i.bytes = bytes) (hzs : zv.cells.size = z) (hz : 0 < z) (hb0 : 0 < bytes) {d : Nat} (hd : o.dst = some d) (hne : s ≠ d) {l l' : D} {es fs : List D} (hx : rd st (.tmp s) = some l) (hl : asS z l = some es) (hy : rd st y = some l') (hl' : asS z l' = some fs) (hf : lookF st.fl (s, none) = some (e, z, none))
    (hbytes : (es.length + fs.length) * bytes ≤ 140737488355328) :
    (appEv d s (rds (.tmp s) l ++ rds y l') e z (es ++ fs)).ok st.F ∧ Sound P o (appEv d s (rds (.tmp s) l ++ rds y l') e z (es ++ fs)) := by
  have h63 : es.length + fs.length ≤ maxLen := by
    have : es.length + fs.length ≤ (es.length + fs.length) * bytes := Nat.le_mul_of_pos_right _ hb0
    unfold maxLen; omega
  refine ⟨⟨app_rs (rd_ok hx) (rd_ok hy), fun x hx => by simp [appEv] at hx, fun x hx => by simp [appEv] at hx, fun x hx => by simp [appEv] at hx; subst hx; exact hf⟩, sound_app hd ht hi hzv hsize hby hzs hz h63 hbytes hne fun I ρ ac w hr u hu => ?_⟩
  have h1 := asS_av hl (rd_rep hx (fun y hy => hr y (List.mem_append_left _ hy)))
  have h2 := asS_av hl' (rd_rep hy (fun y hy => hr y (List.mem_append_right _ hy)))
  have h3 : ac.eval (.tmp s) = u := by simp [Act.eval, Array.getD_eq_getD_getElem?, hu]
  refine ⟨h3 ▸ h1, ac.eval y, h2, fun w v' hv => ?_⟩
  simp [execOp, ho, resolve, invoke, builtin, h3, hv]

theorem ok_app0 {t e : TypeId} {z bytes : Nat} {i : TypeInfo} {zv : Value} {x y : Operand} (ho : o.op = .call { callee := .builtin .append, args := #[x, y], argTypes := #[t, t] }) (ht : P.underlying t = some (.slice e)) (hi : P.info? e = some i) (hzv : i.zero = some zv)
    (hsize : i.size = z) (hby : i.bytes = bytes) (hzs : zv.cells.size = z) (hz : 0 < z) (hb0 : 0 < bytes) {d : Nat} (hd : o.dst = some d) {l' : D} {fs : List D} (hx : rd st x = some (vD (.slice none 0 0))) (hy : rd st y = some l') (hl' : asS z l' = some fs)
    (hbytes : fs.length * bytes ≤ 140737488355328) :
    (app0Ev d (rds x (vD (.slice none 0 0)) ++ rds y l') e z fs).ok st.F ∧ Sound P o (app0Ev d (rds x (vD (.slice none 0 0)) ++ rds y l') e z fs) := by
  have h63 : fs.length ≤ maxLen := by
    have : fs.length ≤ fs.length * bytes := Nat.le_mul_of_pos_right _ hb0
    unfold maxLen; omega
  refine ⟨⟨app_rs (rd_ok hx) (rd_ok hy), fun x hx => by simp [app0Ev] at hx, fun x hx => by simp [app0Ev] at hx, fun x hx => by simp [app0Ev] at hx⟩, sound_app0 hd ht hi hzv hsize hby hzs hz h63 hbytes fun I ρ ac w hr => ?_⟩
  have h1 := plain_of (rd_rep hx (fun y hy => hr y (List.mem_append_left _ hy)))
  have h2 := asS_av hl' (rd_rep hy (fun y hy => hr y (List.mem_append_right _ hy)))
  refine ⟨ac.eval y, h2, fun w v' hv => ?_⟩
  simp [execOp, ho, resolve, invoke, builtin, h1, hv]

/-- Bytes. -/
def encB (x : UInt8) : D := vD (.int .u8 x.toNat)
def byteOf : D → Option UInt8
  | .held (.inl (.int .u8 n)) => if 0 ≤ n ∧ n ≤ 255 then some (UInt8.ofNat n.toNat) else none
  | _ => none
theorem byteOf_eq {e : D} {b : UInt8} (h : byteOf e = some b) : e = encB b := by
  unfold byteOf at h
  split at h
  · rename_i n
    split at h
    · rename_i hn
      cases h
      have : ((UInt8.ofNat n.toNat).toNat : Int) = n := by
        rw [UInt8.toNat_ofNat']
        omega
      simp only [encB, this]
    · cases h
  · cases h
def bytesOf : List D → Option (List UInt8)
  | [] => some []
  | e :: r => match byteOf e with
    | some b => (bytesOf r).map (b :: ·)
    | none => none
theorem bytesOf_eq : ∀ {es : List D} {bs : List UInt8}, bytesOf es = some bs → es = bs.map encB
  | [], bs, h => by simp [bytesOf] at h; subst h; rfl
  | e :: r, bs, h => by
    simp only [bytesOf] at h
    split at h
    · rename_i b hb
      obtain ⟨bs', h1, rfl⟩ := Option.map_eq_some_iff.1 h
      rw [List.map_cons, ← bytesOf_eq h1, byteOf_eq hb]
    · cases h
theorem ok_str {s t e : TypeId} {x : Operand} (ho : o.op = .convert s t x) (hs : P.underlying s = some (.slice e)) (he : P.underlying e = some (.int .u8)) (ht : P.underlying t = some .string) {d : Nat} (hd : o.dst = some d) {l : D} {es : List D} {bs : List UInt8} (hx : rd st x = some l) (hl : asS 1 l = some es) (hb : bytesOf es = some bs) :
    (vEv d (rds x l) (vD (.string ⟨bs.toArray⟩))).ok st.F ∧ Sound P o (vEv d (rds x l) (vD (.string ⟨bs.toArray⟩))) := by
  refine ⟨vEv_ok (rd_ok hx), sound_val hd (rb := []) fun I ρ ac w hr _ => ⟨_, ?_, AVRep.v rfl⟩⟩
  have h1 := asS_av hl (rd_rep hx hr)
  rw [bytesOf_eq hb] at h1
  obtain ⟨ad, cap, hu, U, hle, hno, hm, hsz, hc, hcr⟩ := h1.invS
  · have hlen : (bs.map encB).length = bs.length := by simp
    have hrun : (convert s t (.slice ad (bs.map encB).length cap)).run P w = .ok (.string ⟨bs.toArray⟩) w := by
      rw [hlen]
      cases ad with
      | none =>
        have h0 := hno rfl
        have : bs = [] := List.eq_nil_of_length_eq_zero (by rw [hlen] at hle; omega)
        subst this
        rw [run_convert_bytes_string w s t e none _ cap hs he ht]
        simp [Conv.bytesToString]
        rfl
      | some a =>
        refine run_convert_bytes_back w s t e a cap bs hs he ht fun j hj => ?_
        obtain ⟨b, off, hb, hcell⟩ := hc (by intro q; have := congrArg List.length q; rw [hlen] at this; simp at this; subst this; simp at hj)
        cases hb
        have h2 := (hcell j 0 (by rw [hlen]; exact hj) (by omega)).1
        have h3 := hcr j 0 (encB bs[j]) (encB bs[j]) (by rw [List.getElem?_map, List.getElem?_eq_getElem hj]; rfl) rfl
        generalize hU : U j 0 = y at h2 h3
        rw [h3.invV.1] at h2
        rw [Addr.add_lit]; simpa using h2
    rw [hlen] at hrun
    simp [execOp, ho, hu, hrun]

/-- Three integers, the same or not. -/
theorem run_eq3 {t e : TypeId} (ht : P.underlying t = some (.array 3 e)) (he : P.underlying e = some (.int .i64)) (hz : sizeT P e = some 1) (d : Nat) (a0 a1 a2 b0 b1 b2 : Int) (w : World) :
    (Op.equalIn (d + 2) t (.agg #[.int .i64 a0, .int .i64 a1, .int .i64 a2]) (.agg #[.int .i64 b0, .int .i64 b1, .int .i64 b2])).run P w = .ok (a0 == b0 && (a1 == b1 && a2 == b2)) w := by
  have ha : aggT P e = some false := by simp [aggT, he]
  have p : ∀ (xs : Array Value) (off : Nat) (v : Value), xs[off]? = some v → (part e xs off).run P w = .ok v w := fun xs off v hx => by simp [part, run_isAgg ha, hx]
  have hq : ∀ a b : Int, (Op.equalIn (d + 1) e (.int .i64 a) (.int .i64 b)).run P w = .ok (a == b) w := fun a b => run_equalIn_int w d e .i64 .i64 a b he
  rw [Op.equalIn]
  simp only [Sem.run_bind, run_underlying ht, Result.andThen_ok, run_sizeOf hz]
  simp only [Std.Legacy.Range.forIn_eq_forIn_range', Std.Legacy.Range.size, List.range', List.forIn_cons, List.forIn_nil]
  have pa0 := p #[.int .i64 a0, .int .i64 a1, .int .i64 a2] (0 * 1) (.int .i64 a0) rfl
  have pa1 := p #[.int .i64 a0, .int .i64 a1, .int .i64 a2] ((0 + 1) * 1) (.int .i64 a1) rfl
  have pa2 := p #[.int .i64 a0, .int .i64 a1, .int .i64 a2] ((0 + 1 + 1) * 1) (.int .i64 a2) rfl
  have pb0 := p #[.int .i64 b0, .int .i64 b1, .int .i64 b2] (0 * 1) (.int .i64 b0) rfl
  have pb1 := p #[.int .i64 b0, .int .i64 b1, .int .i64 b2] ((0 + 1) * 1) (.int .i64 b1) rfl
  have pb2 := p #[.int .i64 b0, .int .i64 b1, .int .i64 b2] ((0 + 1 + 1) * 1) (.int .i64 b2) rfl
  simp only [Sem.run_bind, pa0, pb0, hq, Result.andThen_ok]
  by_cases e0 : a0 = b0 <;> by_cases e1 : a1 = b1 <;> by_cases e2 : a2 = b2 <;> simp_all
def ints3 : List D → Option (Int × Int × Int)
  | [.held (.inl (.int .i64 a)), .held (.inl (.int .i64 b)), .held (.inl (.int .i64 c))] => some (a, b, c)
  | _ => none
theorem ints3_of {I : Still} {ρ : Nat → Option Nat} {w : World} {cs : List D} {a b c : Int} {u : Value} (h : ints3 cs = some (a, b, c)) (hr : AVRep I ρ w (aD cs) u) : u = .agg #[.int .i64 a, .int .i64 b, .int .i64 c] := by
  obtain ⟨us, rfl, hrow⟩ := agg_of hr
  unfold ints3 at h
  split at h
  · cases h
    match us, hrow with
    | [u0, u1, u2], hrow =>
      have q0 := hrow.2 0 _ u0 rfl rfl
      have q1 := hrow.2 1 _ u1 rfl rfl
      have q2 := hrow.2 2 _ u2 rfl rfl
      rw [q0.invV.1, q1.invV.1, q2.invV.1]
    | [], hrow => exact absurd hrow.1 (by simp)
    | [_], hrow => exact absurd hrow.1 (by simp)
    | [_, _], hrow => exact absurd hrow.1 (by simp)
    | _ :: _ :: _ :: _ :: _, hrow => exact absurd hrow.1 (by simp)
  · cases h
theorem ok_eqA {eq : Bool} {t e t' : TypeId} {x y : Operand} (ho : o.op = .binOp (if eq = true then .eql else .neq) t x y t') (ht : P.underlying t = some (.array 3 e)) (he : P.underlying e = some (.int .i64)) (hz : sizeT P e = some 1) (hg : P.eqGuardType P.depth t = false) {d : Nat} (hd : o.dst = some d) {cs ds : List D} {a b c a' b' c' : Int} (hx : rd st x = some (aD cs)) (hy : rd st y = some (aD ds)) (h1 : ints3 cs = some (a, b, c)) (h2 : ints3 ds = some (a', b', c')) :
    (vEv d (rds x (aD cs) ++ rds y (aD ds)) (vD (.bool ((a == a' && (b == b' && c == c')) == eq)))).ok st.F ∧ Sound P o (vEv d (rds x (aD cs) ++ rds y (aD ds)) (vD (.bool ((a == a' && (b == b' && c == c')) == eq)))) := by
  refine ⟨vEv_ok (app_rs (rd_ok hx) (rd_ok hy)), sound_val hd (rb := []) fun I ρ ac w hr _ => ⟨_, ?_, AVRep.v rfl⟩⟩
  have q1 := ints3_of h1 (rd_rep hx (fun y hy => hr y (List.mem_append_left _ hy)))
  have q2 := ints3_of h2 (rd_rep hy (fun y hy => hr y (List.mem_append_right _ hy)))
  have q3 := run_eq3 (P := P) ht he hz 9998 a b c a' b' c' w
  cases eq
  · simp [execOp, ho, q1, q2, eqGuard, hg, run_neq_struct, q3]
  · simp [execOp, ho, q1, q2, eqGuard, hg, run_eql_struct, q3]
end
end Go.Proofs.Ytdfdeppimimoiab.ab
