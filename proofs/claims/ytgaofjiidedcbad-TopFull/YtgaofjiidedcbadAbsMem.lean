import Derived.Test.YtgaofjiidedcbadM3
set_option linter.unusedVariables false
set_option linter.unusedSimpArgs false
namespace Go.Proofs.Ytgaofjiidedcbad.ab
open Go Go.RowKit
section
variable {P : Program} {o : Oper}
def cellsFrom (b : Nat) {α : Type} : Nat → List α → List (Nat × Option Nat)
 | _,[] => []
 | off,_ :: r => (b,some off) :: cellsFrom b (off + 1) r
theorem mem_cellsFrom {b s : Nat} {p : Option Nat} {α : Type} : ∀ {ds : List α} {off : Nat},(s,p) ∈ cellsFrom b off ds ↔ s = b ∧ ∃ k,p = some k ∧ off ≤ k ∧ k < off + ds.length
 | [],off => by simp only [cellsFrom,List.not_mem_nil,false_iff]; rintro ⟨_,k,_,h1,h2⟩; simp at h2; omega
 | x :: r,off => by
  simp only [cellsFrom,List.mem_cons,Prod.mk.injEq,mem_cellsFrom (ds:=r),List.length_cons]
  constructor
  ·rintro (⟨rfl,rfl⟩ | ⟨rfl,k,rfl,h1,h2⟩)
   ·exact ⟨rfl,off,rfl,by omega,by omega⟩
   ·exact ⟨rfl,k,rfl,by omega,by omega⟩
  ·rintro ⟨rfl,k,rfl,h1,h2⟩
   by_cases h : k = off
   ·subst h; exact .inl ⟨rfl,rfl⟩
   ·exact .inr ⟨rfl,k,rfl,by omega,by omega⟩
theorem sound_store (hd : o.dst = none) {rs : List (Nat × D)} {b off : Nat} {cs ds : List D} (hl : off + ds.length ≤ cs.length)
  (H : ∀ (I : Still) (ρ : Nat → Option Nat) (a : Act) (w : World),(∀ x ∈ rs,∃ u,a.tmps[x.1]? = some u ∧ AVRep I ρ w x.2 u) → ∀ g,ρ b = some g →
   b < 100000 ∧ ∃ vs,RowL I ρ w ds vs ∧ ∀ us t,w.heap[g]? = some (.cells us.toArray t (0,0)) → off + vs.length ≤ us.length → (execOp a.eval o).run P w = .ok .skip (w.setRow g (over us off vs).toArray)) :
  Sound P o { rs:=rs,rb:=[(b,cs)],wb:=some (b,over cs off ds),cf:=cellsFrom b off ds }:=by
 intro base w0 I0 N st a w K Q hN ⟨I,ρ,h⟩ hok hK
 have hb : st.bx b = some cs:=hok.rb (b,cs) (by simp)
 obtain ⟨g0,hg0,_⟩:=h.bx b cs hb
 obtain ⟨hlt,vs,hrow,hrun⟩:=H I ρ a w (fun x hx => h.tm x.1 x.2 (hok.rs x hx)) g0 hg0
 obtain ⟨g,us,t,h1,h2,h3,h4⟩:=h.store hlt hb hl hrow
 rw [hg0] at h1; cases h1
 unfold Oper.wp
 rw [hrun us t h2 (by rw [h3,← hrow.1]; exact hl)]
 show K (a.put o.dst undef) _
 rw [hd]
 refine hK _ _ ⟨I,ρ,h4.less (fun s x hx => hx) rfl (fun s p x hx => ?_)⟩
 simp only [Ev.app] at hx
 simp only [FS.offR,FS.setB]
 split at hx
 ·cases hx
 ·rename_i hn
  rw [mem_cellsFrom] at hn
  rw [if_neg hn]
  exact hx
theorem sound_storeT (hd : o.dst = none) {rs : List (Nat × D)} {b off s : Nat} {cs : List D} {l : D} {x : Nat × Pay} (hl : off < cs.length)
  (H : ∀ (I : Still) (ρ : Nat → Option Nat) (a : Act) (w : World),(∀ x ∈ rs,∃ u,a.tmps[x.1]? = some u ∧ AVRep I ρ w x.2 u) → ∀ g,ρ b = some g → ∀ u,a.tmps[s]? = some u →
   b < 100000 ∧ CRep I w l u ∧ ∀ us t,w.heap[g]? = some (.cells us.toArray t (0,0)) → off < us.length → (execOp a.eval o).run P w = .ok .skip (w.setRow g (over us off [u]).toArray)) :
  Sound P o { rs:=rs,rb:=[(b,cs)],wb:=some (b,over cs off [l]),rf:=[((s,none),x)],cf:=[(s,none),(b,some off)],sf:=some ((b,some off),x) }:=by
 intro base w0 I0 N st a w K Q hN ⟨I,ρ,h⟩ hok hK
 have hb : st.bx b = some cs:=hok.rb (b,cs) (by simp)
 have hx : st.fl s none = some x:=hok.rf ((s,none),x) (by simp)
 obtain ⟨u,hat,_⟩:=h.fl s none x.1 x.2 hx
 obtain ⟨g0,hg0,_⟩:=h.bx b cs hb
 obtain ⟨hlt,hrep,hrun⟩:=H I ρ a w (fun x hx => h.tm x.1 x.2 (hok.rs x hx)) g0 hg0 u hat
 obtain ⟨g,us,t,h1,h2,h3,h4⟩:=h.store (off:=off) (ds:=[l]) (vs:=[u]) hlt hb (by simp; omega) (Row.single hrep).L
 rw [hg0] at h1; cases h1
 unfold Oper.wp
 rw [hrun us t h2 (by rw [h3]; exact hl)]
 show K (a.put o.dst undef) _
 rw [hd]
 have hat' : At ρ a.tmps (w.setRow g0 (over us off [u]).toArray) b (some off) = some u:=by
  simp only [At,hg0,Option.bind_some]
  rw [cell_setRow_same w g0 off us.toArray _ t (0,0) h2]
  have:=over_in (cs:=us) (ds:=[u]) (off:=off) (j:=0) (by simp; omega) (by simp)
  simpa using this
 have h5:=h4.moveF (s:=s) (o:=none) (s':=b) (o':=some off) (x:=x) (u:=u) (fun _ _ => hlt) (by simp only [FS.offR,FS.setB]; rw [if_neg (by rintro ⟨_,k,hk,_⟩; cases hk)]; exact hx) hat hat'
 refine hK _ _ ⟨I,ρ,h5.less (fun s x hx => hx) rfl (fun t' p y hy => ?_)⟩
 simp only [Ev.app,List.mem_cons,List.not_mem_nil,or_false,Prod.mk.injEq] at hy
 simp only [FS.onF,FS.offF,FS.offR,FS.setB,List.length_singleton]
 by_cases e1 : t' = b ∧ p = some off
 ·rw [if_pos e1] at hy ⊢; exact hy
 ·by_cases e2 : t' = s ∧ p = none
  ·simp [e2] at hy
  ·rw [if_neg e1,if_neg (by rintro (q | q); exact e2 q; exact e1 q)] at hy
   rw [if_neg e1,if_neg e2,if_neg (by rintro ⟨q,k,rfl,q1,q2⟩; exact e1 ⟨q,by congr 1; omega⟩)]
   exact hy
theorem fl_none {base : Nat → Prop} {w0 : World} {I0 : Still} {N : Nat} {I : Still} {ρ : Nat → Option Nat} {st : FS} {a : Act} {w : World} (h : RelI base w0 I0 N I ρ st a w) {d : Nat} (hb : st.bx d = none) : ∀ off,st.fl d (some off) = none:=by
 intro off
 cases hx : st.fl d (some off) with
 | none => rfl
 | some x =>
  obtain ⟨u,hat,_⟩:=h.fl d (some off) x.1 x.2 hx
  simp [At,h.nob d hb] at hat
theorem sound_new {d b : Nat} (hd : o.dst = some d) {rs : List (Nat × D)} {cs : List D} {v : D} (hk : 100000 ≤ b)
  (H : ∀ (I : Still) (ρ : Nat → Option Nat) (a : Act) (w : World),(∀ x ∈ rs,∃ u,a.tmps[x.1]? = some u ∧ AVRep I ρ w x.2 u) → (∀ c j,I c j → c < w.heap.size) →
   ∃ u ob,(execOp a.eval o).run P w = .ok (.value u) (w.alloc ob) ∧ (∀ ρ',ρ' b = some w.heap.size → BoxAt I ρ' (w.alloc ob) b w.heap.size cs ∧ ORep ρ' v u)) :
  Sound P o { rs:=rs,nb:=[b],ws:=some (d,some v),wb:=some (b,cs),cf:=[(d,none)] }:=by
 intro base w0 I0 N st a w K Q hN ⟨I,ρ,h⟩ hok hK
 have hb : st.bx b = none:=hok.nb b (by simp)
 obtain ⟨u,ob,hrun,hrep⟩:=H I ρ a w (fun x hx => h.tm x.1 x.2 (hok.rs x hx)) h.lt
 obtain ⟨h1,h2⟩:=hrep (fun c => if c = b then some w.heap.size else ρ c) (by simp)
 unfold Oper.wp
 rw [hrun]
 show K (a.put o.dst _) _
 rw [hd]
 have h3:=(h.newO hb (fl_none h hb) ob h1).put (hN d hd) (v:=some v) (u:=u) (fun x hx => by cases hx; exact .inr (.inr (.inl h2)))
 refine hK _ _ ⟨I,_,h3.less (fun s x hx => ?_) rfl (fun s p x hx => ?_)⟩
 ·simpa [Ev.app,FS.setT,FS.setB] using hx
 ·simp only [Ev.app,List.mem_singleton,Prod.mk.injEq] at hx
  simpa [FS.setT,FS.setB] using hx
theorem sound_chg (hd : o.dst = none) {rs : List (Nat × D)} {b : Nat} {cs cs' : List D} (hk : 100000 ≤ b)
  (H : ∀ (I : Still) (ρ : Nat → Option Nat) (a : Act) (w : World),(∀ x ∈ rs,∃ u,a.tmps[x.1]? = some u ∧ AVRep I ρ w x.2 u) → (∀ c j,I c j → c < w.heap.size) → ∀ g,ρ b = some g → (∀ j,¬ I g j) → BoxAt I ρ w b g cs →
   ∃ w',(execOp a.eval o).run P w = .ok .skip w' ∧ w.grownBy w' (some g) ∧ BoxAt I ρ w' b g cs') :
  Sound P o { rs:=rs,rb:=[(b,cs)],wb:=some (b,cs') }:=by
 intro base w0 I0 N st a w K Q hN ⟨I,ρ,h⟩ hok hK
 have hb : st.bx b = some cs:=hok.rb (b,cs) (by simp)
 obtain ⟨g,hg,_,h3,h4⟩:=h.bx b cs hb
 obtain ⟨w',hrun,hgr,hr⟩:=H I ρ a w (fun x hx => h.tm x.1 x.2 (hok.rs x hx)) h.lt g hg h4 h3
 unfold Oper.wp
 rw [hrun]
 show K (a.put o.dst _) _
 rw [hd]
 refine hK _ _ ⟨I,_,(h.chg hk hb hg hgr hr).less (fun s x hx => ?_) rfl (fun s p x hx => ?_)⟩
 ·simpa [Ev.app,FS.setB] using hx
 ·simpa [Ev.app,FS.setB] using hx
theorem sound_box {d : Nat} (hd : o.dst = some d) {rs : List (Nat × D)} {cs : List D}
  (H : ∀ (I : Still) (ρ : Nat → Option Nat) (a : Act) (w : World),(∀ x ∈ rs,∃ u,a.tmps[x.1]? = some u ∧ AVRep I ρ w x.2 u) →
   ∃ us t,RowL I ρ w cs us ∧ (execOp a.eval o).run P w = .ok (.value (.pointer (some ⟨w.heap.size,0,none⟩))) (w.alloc (.cells us.toArray t))) :
  Sound P o { rs:=rs,nb:=[d],ws:=some (d,some (pD d 0)),wb:=some (d,cs),cf:=[(d,none)] }:=by
 intro base w0 I0 N st a w K Q hN ⟨I,ρ,h⟩ hok hK
 have hb : st.bx d = none:=hok.nb d (by simp)
 obtain ⟨us,t,hrow,hrun⟩:=H I ρ a w (fun x hx => h.tm x.1 x.2 (hok.rs x hx))
 have hf : ∀ off,st.fl d (some off) = none:=by
  intro off
  cases hx : st.fl d (some off) with
  | none => rfl
  | some x =>
   obtain ⟨u,hat,_⟩:=h.fl d (some off) x.1 x.2 hx
   simp [At,h.nob d hb] at hat
 unfold Oper.wp
 rw [hrun]
 show K (a.put o.dst _) _
 rw [hd]
 have hlt : d < 100000:=Nat.lt_of_lt_of_le (hN d hd) h.cap
 have h1:=(h.newB hlt hb hf t hrow).put (hN d hd) (v:=some (pD d 0)) (u:=.pointer (some ⟨w.heap.size,0,none⟩)) (fun x hx => by cases hx; exact AVRep.p hlt (by simp))
 refine hK _ _ ⟨I,_,h1.less (fun s x hx => ?_) rfl (fun s p x hx => ?_)⟩
 ·simpa [Ev.app,FS.setT,FS.setB] using hx
 ·simp only [Ev.app,List.mem_singleton,Prod.mk.injEq] at hx
  simpa [FS.setT,FS.setB] using hx
theorem sound_row {d : Nat} (hd : o.dst = some d) {rs : List (Nat × D)} {e z : Nat} (hz : 0 < z) {es : List D} (hes : ∀ x ∈ es,(cellsD x).length = z)
  (H : ∀ (I : Still) (ρ : Nat → Option Nat) (a : Act) (w : World),(∀ x ∈ rs,∃ u,a.tmps[x.1]? = some u ∧ AVRep I ρ w x.2 u) →
   ∃ (us : List Value) (cap : Nat) (w' : World),us.length = cap * z ∧ es.length ≤ cap ∧ cap ≤ maxLen ∧ Row I w (es.flatMap cellsD) (us.take (es.length * z)) ∧ Below w.heap.size w w' ∧ w'.heap.size = w.heap.size + 1 ∧ w'.heap[w.heap.size]? = some (.cells us.toArray e (0,0)) ∧
    (execOp a.eval o).run P w = .ok (.value (.slice (some ⟨w.heap.size,0,none⟩) es.length cap)) w') :
  Sound P o { rs:=rs,ws:=some (d,some (sD z es)),cf:=[(d,none)],sf:=some ((d,none),(e,z,none)) }:=by
 intro base w0 I0 N st a w K Q hN ⟨I,ρ,h⟩ hok hK
 obtain ⟨us,cap,w',hul,hcap,hcm,hrow,hbel,hsz,hblk,hrun⟩:=H I ρ a w (fun x hx => h.tm x.1 x.2 (hok.rs x hx))
 unfold Oper.wp
 rw [hrun]
 show K (a.put o.dst _) _
 rw [hd]
 have h1:=h.later0 hbel
 let I' : Still:=fun b j => I b j ∨ (b = w.heap.size ∧ j < es.length * z)
 have hI : ∀ b j,I b j → I' b j:=fun b j => .inl
 have hatlt : ∀ s p x u g,st.fl s p = some x → At ρ a.tmps w' s p = some u → u.ownBlock = some g → g < w.heap.size:=by
  intro s p x u g hx hu hg
  have hat : At ρ a.tmps w' s p = At ρ a.tmps w s p:=by
   cases p with
   | none => rfl
   | some off =>
    simp only [At]
    cases hr : ρ s with
    | none => rfl
    | some g => exact hbel.cell (p:=⟨g,off,none⟩) (h.boxLt hr).2
  obtain ⟨u',q1,q2⟩:=h.fl s p x.1 x.2 hx
  rw [hat,q1] at hu
  cases hu
  exact (own_lt q2 g hg).2
 have h2 : RelI base w0 I0 N I' ρ st a w':=by
  refine ⟨h1.defers,h1.size,fun s v hv => ?_,h1.cap,h1.flc,fun b cs hc => ?_,h1.inj,h1.nob,fun s p e' z' hx => ?_,h1.apart,fun b j hi => ?_,fun b j hi => ?_,h1.below,h1.room,fun b j hi => ⟨.inl (h1.mon b j hi).1,(h1.mon b j hi).2⟩⟩
  ·obtain ⟨u,q1,q2⟩:=h1.tm s v hv
   exact ⟨u,q1,q2.keep hI (fun _ _ _ h => h) (fun _ _ _ => rfl)⟩
  ·obtain ⟨g,q1,q2,q3,q5⟩:=h1.bx b cs hc
   exact ⟨g,q1,q2,q3.keep hI (fun _ _ _ h => h) (fun _ _ _ => rfl) rfl,fun j hj => hj.elim (q5 j) (fun q => by have:=(h.boxLt q1).2; omega)⟩
  ·obtain ⟨u,q1,q2⟩:=h1.fl s p e' z' hx
   exact ⟨u,q1,own_keep q2 (fun _ _ => rfl) (fun g j hg hi => hi.elim id (fun q => by have:=hatlt s p _ u g hx q1 hg; omega)) (fun _ _ _ h => h) hI (fun _ _ _ => rfl)⟩
  ·exact hi.elim (h1.lt b j) (fun q => by omega)
  ·exact hi.elim (h1.sub b j) (fun q => .inr (fun hb => by have:=h.room b hb; omega))
 have hcell : ∀ j,w'.cell? ⟨w.heap.size,j,none⟩ = us[j]?:=fun j => by rw [cell_of_row w' _ j us.toArray e (0,0) hblk]; simp
 have hflat : (es.flatMap cellsD).length = es.length * z:=by
  have : ∀ l : List D,(∀ x ∈ l,(cellsD x).length = z) → (l.flatMap cellsD).length = l.length * z:=by
   intro l
   induction l with
   | nil => simp
   | cons x r ih =>
    intro hx
    rw [List.flatMap_cons,List.length_append,hx x (by simp),ih (fun y hy => hx y (by simp [hy])),List.length_cons,Nat.add_mul]
    omega
  exact this es hes
 have hlen : es.length * z ≤ us.length:=by rw [hul]; exact Nat.mul_le_mul_right _ hcap
 have hflatAt : ∀ (l : List D),(∀ x ∈ l,(cellsD x).length = z) → ∀ (i j : Nat) x c,l[i]? = some x → (cellsD x)[j]? = some c → (l.flatMap cellsD)[i * z + j]? = some c:=by
  intro l
  induction l with
  | nil => intro _ i j x c hi; simp at hi
  | cons y r ih =>
   intro hl i j x c hi hj
   rw [List.flatMap_cons]
   cases i with
   | zero =>
    simp at hi; subst hi
    rw [Nat.zero_mul,Nat.zero_add,List.getElem?_append_left (List.getElem?_eq_some_iff.1 hj).1]; exact hj
   | succ i =>
    rw [List.getElem?_append_right (by rw [hl y (by simp),Nat.add_mul]; omega),hl y (by simp)]
    rw [show (i + 1) * z + j - z = i * z + j by rw [Nat.add_mul]; omega]
    exact ih (fun x hx => hl x (by simp [hx])) i j x c (by simpa using hi) hj
 have hrep : CRep I' w' (sD z es) (.slice (some ⟨w.heap.size,0,none⟩) es.length cap):=by
  refine CRep.s ⟨fun i j => (us[i * z + j]?).getD undef,hcap,(fun e => by cases e),hcm,hes,fun hne => ⟨w.heap.size,0,rfl,fun i j hi hj => ?_⟩,fun i j x l hx hl => ?_⟩
  ·have hlt : i * z + j < us.length:=by have:=cell_in hi hj; omega
   refine ⟨?_,.inr ⟨rfl,?_⟩⟩
   ·show _ = some ((us[i * z + j]?).getD undef)
    rw [hcell,show 0 + i * z + j = i * z + j by omega,List.getElem?_eq_getElem hlt]; rfl
   ·rw [show 0 + i * z + j = i * z + j by omega]; exact cell_in hi hj
  ·have hi : i < es.length:=(List.getElem?_eq_some_iff.1 hx).1
   have hj : j < z:=by have:=hes x (List.mem_of_getElem? hx); have:=(List.getElem?_eq_some_iff.1 hl).1; omega
   obtain ⟨u,q1,q2⟩:=hrow.at (hflatAt es hes i j x l hx hl)
   rw [List.getElem?_take,if_pos (cell_in hi hj)] at q1
   show CRep _ _ l ((us[i * z + j]?).getD undef)
   rw [q1]
   exact q2.keep hI (fun b j hi => hbel.cell (p:=⟨b,j,none⟩) (h.lt b j hi))
 have hown : Own I' ρ base w' e (z,none) (.slice (some ⟨w.heap.size,0,none⟩) es.length cap):=by
  refine ⟨es.length,us.take (es.length * z),⟨by rw [List.length_take]; exact Nat.min_eq_left hlen,.inr ⟨w.heap.size,cap,us.toArray,rfl,Nat.zero_le _,hblk,hcap,hcm,by simpa using hul,by simp⟩⟩,fun g hg => ⟨fun hb => ?_,fun j hj hi => ?_,fun b hb => ?_⟩,(fun es he => by cases he)⟩
  ·simp [Value.ownBlock] at hg; subst hg
   have:=h.room _ hb; omega
  ·simp [Value.ownBlock] at hg; subst hg
   rcases hi with hi | hi
   ·have:=h.lt _ j hi; omega
   ·have hj : es.length * z ≤ j:=hj rfl
    omega
  ·simp [Value.ownBlock] at hg; subst hg
   have:=(h.boxLt hb).2; omega
 have h3:=h2.put (hN d hd) (v:=some (sD z es)) (u:=.slice (some ⟨w.heap.size,0,none⟩) es.length cap) (fun x hx => by cases hx; exact .inl (.inl hrep))
 have hsz' : d < a.tmps.size:=by rw [h.size]; exact hN d hd
 have h4:=h3.giveF (s:=d) (o:=none) (e:=e) (z:=(z,none)) (u:=.slice (some ⟨w.heap.size,0,none⟩) es.length cap) (fun k hk => by cases hk) (by simp [At,Act.put,hsz']) hown (fun t p x y g hx hy hg hv => by
  simp [Value.ownBlock] at hv; subst hv
  simp only [FS.setT] at hx
  split at hx
  ·cases hx
  ·rename_i hne
   rw [at_put d _ t p hne] at hy
   have:=hatlt t p x y _ hx hy hg; omega)
 refine hK _ _ ⟨I',ρ,h4.less (fun s x hx => ?_) rfl (fun s p x hx => ?_)⟩
 ·simpa [Ev.app,FS.setT,FS.onF] using hx
 ·simp only [Ev.app,List.mem_singleton,Prod.mk.injEq] at hx
  simpa [FS.setT,FS.onF] using hx
theorem sound_app {d : Nat} (hd : o.dst = some d) {rs : List (Nat × D)} {s : Nat} {t e z bytes : Nat} {i : TypeInfo} {zv : Value} (ht : P.underlying t = some (.slice e)) (hi : P.info? e = some i) (hzv : i.zero = some zv)
  (hsize : i.size = z) (hby : i.bytes = bytes) (hzs : zv.cells.size = z) (hz : 0 < z) {es fs : List D} (h63 : es.length + fs.length ≤ maxLen) (hbytes : (es.length + fs.length) * bytes ≤ 140737488355328) (hne : s ≠ d)
  (H : ∀ (I : Still) (ρ : Nat → Option Nat) (a : Act) (w : World),(∀ x ∈ rs,∃ u,a.tmps[x.1]? = some u ∧ AVRep I ρ w x.2 u) → ∀ u,a.tmps[s]? = some u →
   CRep I w (sD z es) u ∧ ∃ y,CRep I w (sD z fs) y ∧ ∀ w v',(Builtin.append_ #[t,t] o.type #[u,y]).run P w = v' → (execOp a.eval o).run P w = v'.andThen (fun v w => .ok (.value v) w)) :
  Sound P o { rs:=rs,rf:=[((s,none),(e,z,none))],ws:=some (d,some (sD z (es ++ fs))),cf:=[(s,none),(d,none)],sf:=some ((d,none),(e,z,none)) }:=by
 intro base w0 I0 N st a w K Q hN ⟨I,ρ,h⟩ hok hK
 have hx : st.fl s none = some (e,z,none):=hok.rf ((s,none),(e,z,none)) (by simp)
 obtain ⟨u,hat,hown⟩:=h.fl s none e (z,none) hx
 obtain ⟨hu,y,hy,hrun⟩:=H I ρ a w (fun x hx => h.tm x.1 x.2 (hok.rs x hx)) u hat
 have h0:=h.offF s none
 obtain ⟨v',w',I',hr,h1,hrep,hown',hap',hI,hcell⟩:=h0.app ht hi hzv hsize hby hzs hz hown (fun s' o' x v g hx' hv hg hu' => by
  simp only [FS.offF] at hx'
  split at hx'
  ·cases hx'
  ·rename_i hne'
   exact hne' (h.apart s' o' s none x (e,z,none) v u g hx' hx hv hat hg hu')) hu hy h63 hbytes (ty:=o.type)
 unfold Oper.wp
 rw [hrun w _ hr]
 show K (a.put o.dst v') w'
 rw [hd]
 have hsz : d < a.tmps.size:=by rw [h.size]; exact hN d hd
 have h2:=h1.put (hN d hd) (v:=some (sD z (es ++ fs))) (u:=v') (fun x hx => by cases hx; exact .inl (.inl hrep))
 have h3:=h2.giveF (s:=d) (o:=none) (e:=e) (z:=(z,none)) (u:=v') (fun k hk => by cases hk) (by simp [At,Act.put,hsz]) hown' (fun t p x y g hx hy hg => by
  simp only [FS.setT] at hx
  split at hx
  ·cases hx
  ·rename_i hne'
   rw [at_put d _ t p hne'] at hy
   exact hap' t p x y g hx hy hg)
 refine hK _ _ ⟨I',ρ,h3.less (fun t x hx => ?_) rfl (fun t p x hx => ?_)⟩
 ·simpa [Ev.app,FS.setT,FS.onF,FS.offF] using hx
 ·simp only [Ev.app,List.mem_cons,List.not_mem_nil,or_false,Prod.mk.injEq] at hx
  simp only [FS.setT,FS.onF,FS.offF]
  by_cases e1 : t = d ∧ p = none
  ·simpa [e1] using hx
  ·by_cases e2 : t = s ∧ p = none
   ·simp [e2,hne] at hx
   ·simpa [e1,e2] using hx
theorem sound_appH {d : Nat} (hd : o.dst = some d) {rs : List (Nat × D)} {s : Nat} {t e z bytes : Nat} {i : TypeInfo} {zv : Value} (ht : P.underlying t = some (.slice e)) (hi : P.info? e = some i) (hzv : i.zero = some zv)
  (hsize : i.size = z) (hby : i.bytes = bytes) (hzs : zv.cells.size = z) (hz : 0 < z) {es fs : List D} (h63 : es.length + fs.length ≤ maxLen) (hbytes : (es.length + fs.length) * bytes ≤ 140737488355328) (hne : s ≠ d)
  (H : ∀ (I : Still) (ρ : Nat → Option Nat) (a : Act) (w : World),(∀ x ∈ rs,∃ u,a.tmps[x.1]? = some u ∧ AVRep I ρ w x.2 u) → ∀ u,a.tmps[s]? = some u →
   ∃ y,CRep I w (sD z fs) y ∧ ∀ w v',(Builtin.append_ #[t,t] o.type #[u,y]).run P w = v' → (execOp a.eval o).run P w = v'.andThen (fun v w => .ok (.value v) w)) :
  Sound P o { rs:=rs,rf:=[((s,none),(e,z,some es))],ws:=some (d,some xD),cf:=[(s,none),(d,none)],sf:=some ((d,none),(e,z,some (es ++ fs))) }:=by
 intro base w0 I0 N st a w K Q hN ⟨I,ρ,h⟩ hok hK
 have hx : st.fl s none = some (e,z,some es):=hok.rf ((s,none),(e,z,some es)) (by simp)
 obtain ⟨u,hat,hown⟩:=h.fl s none e (z,some es) hx
 obtain ⟨y,hy,hrun⟩:=H I ρ a w (fun x hx => h.tm x.1 x.2 (hok.rs x hx)) u hat
 have h0:=h.offF s none
 obtain ⟨v',w',hr,h1,hone,hown',hap'⟩:=h0.appH ht hi hzv hsize hby hzs hz hown (fun s' o' x v g hx' hv hg hu' => by
  simp only [FS.offF] at hx'
  split at hx'
  ·cases hx'
  ·rename_i hne'
   exact hne' (h.apart s' o' s none x (e,z,some es) v u g hx' hx hv hat hg hu')) hy h63 hbytes (ty:=o.type)
 unfold Oper.wp
 rw [hrun w _ hr]
 show K (a.put o.dst v') w'
 rw [hd]
 have hsz : d < a.tmps.size:=by rw [h.size]; exact hN d hd
 have h2:=h1.put (hN d hd) (v:=some xD) (u:=v') (fun x hx => by cases hx; exact .inl (.inl (CRep.x hone)))
 have h3:=h2.giveF (s:=d) (o:=none) (e:=e) (z:=(z,some (es ++ fs))) (u:=v') (fun k hk => by cases hk) (by simp [At,Act.put,hsz]) hown' (fun t p x y g hx hy hg => by
  simp only [FS.setT] at hx
  split at hx
  ·cases hx
  ·rename_i hne'
   rw [at_put d _ t p hne'] at hy
   exact hap' t p x y g hx hy hg)
 refine hK _ _ ⟨I,ρ,h3.less (fun t x hx => ?_) rfl (fun t p x hx => ?_)⟩
 ·simpa [Ev.app,FS.setT,FS.onF,FS.offF] using hx
 ·simp only [Ev.app,List.mem_cons,List.not_mem_nil,or_false,Prod.mk.injEq] at hx
  simp only [FS.setT,FS.onF,FS.offF]
  by_cases e1 : t = d ∧ p = none
  ·simpa [e1] using hx
  ·by_cases e2 : t = s ∧ p = none
   ·simp [e2,hne] at hx
   ·simpa [e1,e2] using hx
theorem sound_app0 {d : Nat} (hd : o.dst = some d) {rs : List (Nat × D)} {t e z bytes : Nat} {i : TypeInfo} {zv : Value} (ht : P.underlying t = some (.slice e)) (hi : P.info? e = some i) (hzv : i.zero = some zv)
  (hsize : i.size = z) (hby : i.bytes = bytes) (hzs : zv.cells.size = z) (hz : 0 < z) {fs : List D} (h63 : fs.length ≤ maxLen) (hbytes : fs.length * bytes ≤ 140737488355328)
  (H : ∀ (I : Still) (ρ : Nat → Option Nat) (a : Act) (w : World),(∀ x ∈ rs,∃ u,a.tmps[x.1]? = some u ∧ AVRep I ρ w x.2 u) →
   ∃ y,CRep I w (sD z fs) y ∧ ∀ w v',(Builtin.append_ #[t,t] o.type #[.slice none 0 0,y]).run P w = v' → (execOp a.eval o).run P w = v'.andThen (fun v w => .ok (.value v) w)) :
  Sound P o { rs:=rs,ws:=some (d,some (sD z fs)),cf:=[(d,none)],sf:=some ((d,none),(e,z,none)) }:=by
 intro base w0 I0 N st a w K Q hN ⟨I,ρ,h⟩ hok hK
 obtain ⟨y,hy,hrun⟩:=H I ρ a w (fun x hx => h.tm x.1 x.2 (hok.rs x hx))
 have hnil : CRep I w (sD z []) (.slice none 0 0):=CRep.s ⟨fun _ _ => undef,Nat.le_refl _,fun _ => rfl,Nat.zero_le _,(fun e he => by cases he),fun h => absurd rfl h,(fun i j e l he => by simp at he)⟩
 obtain ⟨v',w',I',hr,h1,hrep,hown',hap',hI,hcell⟩:=h.app ht hi hzv hsize hby hzs hz (u:=.slice none 0 0) (es:=[]) (fs:=fs) ⟨0,[],World.ownsRow_nil w 0 e z,(fun g hg => by simp [Value.ownBlock] at hg),fun es he => by cases he⟩ (fun s' o' x v g hx' hv hg hu' => by simp [Value.ownBlock] at hu') hnil hy (by simpa using h63) (by simpa using hbytes) (ty:=o.type)
 unfold Oper.wp
 rw [hrun w _ hr]
 show K (a.put o.dst v') w'
 rw [hd]
 have hsz : d < a.tmps.size:=by rw [h.size]; exact hN d hd
 have h2:=h1.put (hN d hd) (v:=some (sD z fs)) (u:=v') (fun x hx => by cases hx; exact .inl (.inl (by simpa using hrep)))
 have h3:=h2.giveF (s:=d) (o:=none) (e:=e) (z:=(z,none)) (u:=v') (fun k hk => by cases hk) (by simp [At,Act.put,hsz]) hown' (fun t p x y g hx hy hg => by
  simp only [FS.setT] at hx
  split at hx
  ·cases hx
  ·rename_i hne'
   rw [at_put d _ t p hne'] at hy
   exact hap' t p x y g hx hy hg)
 refine hK _ _ ⟨I',ρ,h3.less (fun t x hx => ?_) rfl (fun t p x hx => ?_)⟩
 ·simpa [Ev.app,FS.setT,FS.onF] using hx
 ·simp only [Ev.app,List.mem_singleton,Prod.mk.injEq] at hx
  simpa [FS.setT,FS.onF] using hx
def res (r : List D) : D:=match r with
 | [c] => c
 | cs => tD cs
theorem res_rep {I : Still} {ρ : Nat → Option Nat} {w : World} {r : List D} {v : Value} (h : RRep I w r v) : AVRep I ρ w (res r) v:=by
 unfold RRep at h
 unfold res
 split at h
 ·exact .inl h
 ·rename_i hne
  obtain ⟨us,rfl,hv⟩:=h
  split
  ·exact absurd rfl (hne _)
  ·exact .inr (.inl ⟨_,us,rfl,rfl,hv⟩)
theorem sound_call {d : Nat} (hd : o.dst = some d) {rs : List (Nat × D)} {f : FuncId} {args r : List D} (ht : Told P f args r)
  (H : ∀ (I : Still) (ρ : Nat → Option Nat) (a : Act) (w : World),(∀ x ∈ rs,∃ u,a.tmps[x.1]? = some u ∧ AVRep I ρ w x.2 u) →
   ∃ vs,Vals I w args vs ∧ (execOp a.eval o).run P w = .ok (.enter f vs.toArray) w) :
  Sound P o { rs:=rs,ws:=some (d,some (res r)),cf:=[(d,none)] }:=by
 intro base w0 I0 N st a w K Q hN ⟨I,ρ,h⟩ hok hK
 obtain ⟨vs,hvs,hrun⟩:=H I ρ a w (fun x hx => h.tm x.1 x.2 (hok.rs x hx))
 unfold Oper.wp
 rw [hrun]
 refine (ht w I vs hvs h.lt).mono fun e w' ⟨v,he,hv,hb⟩ => ?_
 subst he
 show K (a.put o.dst v) w'
 rw [hd]
 have h1:=(h.later hb).put (hN d hd) (v:=some (res r)) (u:=v) (fun x hx => by cases hx; exact res_rep hv)
 refine hK _ _ ⟨_,ρ,h1.less (fun s x hx => ?_) rfl (fun s p x hx => ?_)⟩
 ·simpa [Ev.app,FS.setT] using hx
 ·simp only [Ev.app,List.mem_singleton,Prod.mk.injEq] at hx
  simpa [FS.setT] using hx
end
end Go.Proofs.Ytgaofjiidedcbad.ab
