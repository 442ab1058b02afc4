/-
  The contract of the program's copy of a chunk.
-/
import Derived.Test.YtlomffhofionnaaReadMany
import Derived.Laws.AppendOwnNone
namespace Go.Proofs.Ytlomffhofionnaa.leaf
set_option linter.unusedVariables false
open Go.RowKit
open mth

/-- 'append(s, x...)', s a row of the call's own, x nil or not. -/
theorem wpList_append_opt {P : Program} {w : World} {ops : Array Oper} {rest : List Oper} {o : Oper} {a : Act} {Q : Exit → Act → World → Prop} (hgd : o.guard = none) (s x : Operand) (t : TypeId)
    (ho : o.op = .call { callee := .builtin .append, args := #[s, x], argTypes := #[t, t] })
    (base : Nat) (e : TypeId) (i : TypeInfo) (z : Value) (bytes : Nat) (ht : P.underlying t = some (.slice e)) (hi : P.info? e = some i) (hz : i.zero = some z)
    (hsize : i.size = 1) (hby : i.bytes = bytes) (hzs : z.cells.size = 1)
    (v : Value) (n : Nat) (xs : List Value) (hs : a.eval s = v) (hown : w.ownsRow base e 1 v n xs)
    (oa : Option Addr) (m c : Nat) (news : List Value) (hx : a.eval x = .slice oa m c) (hl : news.length = m) (hno : oa = none → c = 0) (hmc : m ≤ c) (hnews : ∀ j u, news[j]? = some u → ∃ ad, oa = some ad ∧ w.cell? (ad.add j) = some u) (h1 : ∀ u ∈ news, u.oneCell' = true)
    (h63 : n + m ≤ maxLen) (hbytes : (n + m) * bytes ≤ 140737488355328) (hbase : base ≤ w.heap.size)
    (h : ∀ a' c' w', w'.ownsRow base e 1 (.slice a' (n + m) c') (n + m) (xs ++ news) → w.grownBy w' v.ownBlock → wpList P ops Q rest (a.put o.dst (.slice a' (n + m) c')) w') : wpList P ops Q (o :: rest) a w := by
  have hform : ∀ (v' : Value) (w' : World), w'.ownsRow base e 1 v' (n + m) (xs ++ news) → w.grownBy w' v.ownBlock → wpList P ops Q rest (a.put o.dst v') w' := fun v' w' ho hg => by
    have ho' := ho
    obtain ⟨h1, ⟨rfl, h0⟩ | ⟨g, cap, cur, rfl, _⟩⟩ := ho'
    · have := h none 0 w' (by rw [h0] at ho ⊢; exact ho) hg
      rw [h0] at this
      exact this
    · exact h _ _ w' ho hg
  cases oa with
  | none =>
    obtain rfl : c = 0 := hno rfl
    obtain rfl : m = 0 := by omega
    obtain rfl : news = [] := List.eq_nil_of_length_eq_zero hl
    refine wpList_append_own_none hgd s x t ho base e i 1 ht hi v n xs hs hown hx ?_
    exact hform v w (by simpa using hown) ⟨rfl, rfl, rfl, Nat.le_refl _, fun _ _ _ => rfl⟩
  | some ad =>
    refine wpList_append_own w hgd s x t ho base e i z 1 bytes ht hi hz hsize hby hzs (by omega) v n xs hs hown ad m c news hx (by omega) (fun j u hj => ?_) h1 h63 hbytes hbase (fun v' w' h2 h3 _ => hform v' w' h2 h3)
    obtain ⟨ad', h4, h5⟩ := hnews j u hj
    cases h4
    exact h5

/-- A number as a value. -/
def V (n : Int) : Value := .int .i64 n
theorem V_one (xs : List Int) : ∀ v ∈ xs.map V, v.oneCell' = true := by
  intro u hu
  obtain ⟨_, _, rfl⟩ := List.mem_map.1 hu
  rfl
theorem Bs_news {w : World} {a : Option Addr} {cap n : Nat} {xs : List UInt8} (h : Bs w (.slice a n cap) xs) : xs.length = n ∧ (a = none → cap = 0) ∧ n ≤ cap ∧ ∀ j u, (xs.map B)[j]? = some u → ∃ ad, a = some ad ∧ w.cell? (ad.add j) = some u := by
  obtain ⟨a', cap', he, hlc, hno, hc⟩ := h
  injection he with h1 hn h2
  subst h1 h2 hn
  refine ⟨rfl, hno, hlc, fun j v hv => ?_⟩
  have hj : j < xs.length := by
    have := (List.getElem?_eq_some_iff.1 hv).1
    simpa using this
  obtain ⟨x', hx', hcc⟩ := hc j hj
  refine ⟨x', hx', ?_⟩
  rw [hcc]
  simp [hj] at hv
  simp [List.getD, hj, ← hv, B]
theorem Is_news {w : World} {a : Option Addr} {cap n : Nat} {xs : List Int} (h : Is w (.slice a n cap) xs) : xs.length = n ∧ (a = none → cap = 0) ∧ n ≤ cap ∧ ∀ j u, (xs.map V)[j]? = some u → ∃ ad, a = some ad ∧ w.cell? (ad.add j) = some u := by
  obtain ⟨a', cap', he, hlc, hno, hc, -⟩ := h
  injection he with h1 hn h2
  subst h1 h2 hn
  refine ⟨rfl, hno, hlc, fun j v hv => ?_⟩
  have hj : j < xs.length := by
    have := (List.getElem?_eq_some_iff.1 hv).1
    simpa using this
  obtain ⟨x', hx', hcc⟩ := hc j hj
  refine ⟨x', hx', ?_⟩
  rw [hcc]
  simp [hj] at hv
  simp [List.getD, hj, ← hv, V]
theorem owns_IsV {w : World} {base n : Nat} {v : Value} {ys : List Int} (h : w.ownsRow base 3 1 v n (ys.map V)) (hi : ∀ y ∈ ys, I64 y) : Is w v ys := by
  obtain ⟨h1, h2⟩ := h
  simp at h1
  subst h1
  rcases h2 with ⟨rfl, h0⟩ | ⟨g, cap, cur, rfl, _, hh, hn, hm, hs, ht⟩
  · obtain rfl : ys = [] := List.eq_nil_of_length_eq_zero h0
    exact Is_nil w
  · refine ⟨some ⟨g, 0, none⟩, cap, rfl, hn, fun h => by simp at h, fun i hi => ⟨_, rfl, ?_⟩, hi, hm⟩
    rw [Addr.add_lit, Nat.zero_add, cell_of_row w g i cur 3 (0, 0) hh]
    have h3 : cur[i]? = (ys.map V)[i]? := by
      rw [← ht, Nat.mul_one, List.getElem?_take_of_lt hi, Array.getElem?_toList]
    rw [h3]
    simp [hi, V, List.getD]

/-- What an append that began with nil leaves as it was. -/
theorem fresh_far {U w1 : World} {n : Nat} (hg : U.grownBy w1 (Value.slice none 0 0).ownBlock) (hn : U.heap.size = n) : Below n U w1 ∧ (∀ b o, b < n → w1.cell? ⟨b, o, none⟩ = U.cell? ⟨b, o, none⟩) ∧ (∀ b o, b < n → w1.frozen? ⟨b, o, none⟩ = U.frozen? ⟨b, o, none⟩) ∧ n ≤ w1.heap.size := by
  subst hn
  have hb : Below U.heap.size U w1 := (Below.refl _ _).grown hg (Nat.le_refl _) (fun k hk => by simp [Value.ownBlock] at hk)
  exact ⟨hb, (bcell hb).1, (bcell hb).2, hb.size⟩

set_option maxHeartbeats 8000000 in
theorem landOwn (kind number stream place : Int) (b : Option Addr) (lb cb : Nat) (data : List UInt8) (a : Option Addr) (la ca : Nat) (early : List Int) (w : World) (hd : Bs w (.slice b lb cb) data) (he : Is w (.slice a la ca) early) (hdl : lb ≤ 1048600) (hel : la ≤ 1048600) :
    Calls Try.prog 21 #[.agg #[.int .i64 kind, .int .i64 number, .int .i64 stream, .int .i64 place, .slice b lb cb, .slice a la ca]] w fun e w' => ∃ a1 c1 a2 c2, e = .returned (.agg #[.int .i64 kind, .int .i64 number, .int .i64 stream, .int .i64 place, .slice a1 lb c1, .slice a2 la c2]) ∧ Bs w' (.slice a1 lb c1) data ∧ Is w' (.slice a2 la c2) early ∧ Below w.heap.size w w' := by
  obtain ⟨i5, hi5, hz50, hz51, hz52⟩ := info_parts info5
  obtain ⟨i3, hi3, hz30, hz31, hz32⟩ := info_parts info3
  have hbU : Below w.heap.size w ((w.alloc (.cells #[.int .i64 kind, .int .i64 number, .int .i64 stream, .int .i64 place, .slice b lb cb, .slice a la ca] 32)).alloc (.cells #[.int .i64 0, .int .i64 0, .int .i64 0, .int .i64 0, .slice none 0 0, .slice none 0 0] 32)) := ((Below.refl _ _).alloc (Nat.le_refl _) _).alloc (by simp) _
  have HE := hide he
  have HBU := hide hbU
  have HS1 := hide (Bs_news (hd.later hbU))
  clear hd he hbU
  go_enter Try.func21, Try.ntmps21
  go_wp2_with (first
    | (at_builtin; refine wpList_append_opt rfl (.const (.slice none 0 0)) (.tmp 4) 22 rfl (w.heap.size + 2) 5 i5 (.int .u8 0) 1 Try.underlying22 hi5 hz50 hz51 hz52 rfl (.slice none 0 0) 0 [] rfl (World.ownsRow_nil _ _ _ _) b lb cb (data.map B) rfl (by rw [List.length_map]; exact HS1.out.1) HS1.out.2.1 HS1.out.2.2.1 HS1.out.2.2.2 (B_one data) (by unfold maxLen; omega) (by omega) (by simp) ?_; intro a1 c1 w1 hown1 hgrow1; obtain ⟨hb1, hc1, hf1, hz1⟩ := fresh_far (n := w.heap.size + 2) hgrow1 (by simp); simp only [Nat.zero_add, List.nil_append] at hown1 ⊢; have HO1 := hide hown1; have HB1 := hide hb1; clear hown1 hgrow1 hb1)
    | (at_builtin; go_must (have hX : Below w.heap.size w (w1.setCell ⟨w.heap.size, 4, none⟩ (.slice a1 lb c1)) := (HBU.out.trans (HB1.out.mono (by omega))).setCell (Nat.le_refl _) _; have HX := hide hX; have HS2 := hide (Is_news (HE.out.later hX)); clear hX; refine wpList_append_opt rfl (.const (.slice none 0 0)) (.tmp 8) 30 rfl w1.heap.size 3 i3 (.int .i64 0) 8 Try.underlying30 hi3 hz30 hz31 hz32 rfl (.slice none 0 0) 0 [] rfl (World.ownsRow_nil _ _ _ _) a la ca (early.map V) rfl (by rw [List.length_map]; exact HS2.out.1) HS2.out.2.1 HS2.out.2.2.1 HS2.out.2.2.2 (V_one early) (by unfold maxLen; omega) (by omega) (by simp) ?_; intro a2 c2 w2 hown2 hgrow2; obtain ⟨hb2, hc2, hf2, hz2⟩ := fresh_far (n := w1.heap.size) hgrow2 (by simp); simp only [Nat.zero_add, List.nil_append] at hown2 ⊢; have HO2 := hide hown2; have HB2 := hide hb2; have hz1a : w.heap.size < w1.heap.size := (by omega); have hz1b : w.heap.size + 1 < w1.heap.size := (by omega); clear hown2 hgrow2 hb2 HS2)))
  refine bodyPost_ret (v := .agg #[.int .i64 kind, .int .i64 number, .int .i64 stream, .int .i64 place, .slice a1 lb c1, .slice a2 la c2]) (by simp [results, Try.results21, go_sem, hc1, hc2, hz1b]) rfl ⟨_, _, _, _, rfl, ?_, ?_, ?_⟩
  · have h1 := ownsI_later (ownsRow_setCell_below HO1.out (a := ⟨w.heap.size, 4, none⟩) (by simp) (.slice a1 lb c1)) (w' := w2) (by simpa using HB2.out)
    exact owns_Bs (ownsRow_setCell_below (ownsRow_setCell_below (ownsRow_setCell_below (ownsRow_setCell_below (ownsRow_setCell_below (ownsRow_setCell_below (ownsRow_setCell_below h1 (a := ⟨w.heap.size, 5, none⟩) (by simp) (.slice a2 la c2)) (a := ⟨w.heap.size + 1, 0, none⟩) (by simp) (.int .i64 kind)) (a := ⟨w.heap.size + 1, 1, none⟩) (by simp) (.int .i64 number)) (a := ⟨w.heap.size + 1, 2, none⟩) (by simp) (.int .i64 stream)) (a := ⟨w.heap.size + 1, 3, none⟩) (by simp) (.int .i64 place)) (a := ⟨w.heap.size + 1, 4, none⟩) (by simp) (.slice a1 lb c1)) (a := ⟨w.heap.size + 1, 5, none⟩) (by simp) (.slice a2 la c2))
  · exact owns_IsV (ownsRow_setCell_below (ownsRow_setCell_below (ownsRow_setCell_below (ownsRow_setCell_below (ownsRow_setCell_below (ownsRow_setCell_below (ownsRow_setCell_below HO2.out (a := ⟨w.heap.size, 5, none⟩) (by simp; omega) (.slice a2 la c2)) (a := ⟨w.heap.size + 1, 0, none⟩) (by simp; omega) (.int .i64 kind)) (a := ⟨w.heap.size + 1, 1, none⟩) (by simp; omega) (.int .i64 number)) (a := ⟨w.heap.size + 1, 2, none⟩) (by simp; omega) (.int .i64 stream)) (a := ⟨w.heap.size + 1, 3, none⟩) (by simp; omega) (.int .i64 place)) (a := ⟨w.heap.size + 1, 4, none⟩) (by simp; omega) (.slice a1 lb c1)) (a := ⟨w.heap.size + 1, 5, none⟩) (by simp; omega) (.slice a2 la c2)) HE.out.num
  · have h1 : Below w.heap.size w w2 := HX.out.trans (HB2.out.mono (by omega))
    exact (((((((h1.setCell (by simp) _).setCell (by simp) _).setCell (by simp) _).setCell (by simp) _).setCell (by simp) _).setCell (by simp) _).setCell (by simp) _)

theorem landOwn_any : ∀ v c w, Cv w v c → c.data.length ≤ 1048600 → c.early.length ≤ 1048600 → Calls Try.prog 21 #[v] w fun e w' => ∃ v', e = .returned v' ∧ Cv w' v' c ∧ Below w.heap.size w w' := by
  intro v c w h h1 h2
  obtain ⟨dv, ev, rfl, hd, he, hm, k⟩ := h
  obtain ⟨a, ca, rfl, hla, hma⟩ := he.shape
  have hd' := hd
  obtain ⟨b, cb, rfl, -⟩ := hd'
  refine (landOwn c.kind c.number c.stream c.place b _ cb c.data a _ ca c.early w hd he h1 h2).mono ?_
  rintro e w' ⟨a1, c1, a2, c2, rfl, g1, g2, g3⟩
  exact ⟨_, rfl, ⟨_, _, rfl, g1, g2, hm, k⟩, g3⟩
end Go.Proofs.Ytlomffhofionnaa.leaf
