import Derived.Test.YtgaofjiidedcbadAbsRep
import Derived.Laws.AppendOwn
set_option linter.unusedVariables false
set_option linter.unusedSimpArgs false
namespace Go.Proofs.Ytgaofjiidedcbad.ab
open Go Go.RowKit
section
variable {base : Nat → Prop} {w0 : World} {I0 : Still} {N : Nat} {I : Still} {ρ : Nat → Option Nat} {st : FS} {a : Act} {w : World}
def FS.setT (st : FS) (d : Nat) (v : Option D) : FS:={ st with tm:=fun s => if s = d then v else st.tm s,fl:=fun s o => if s = d ∧ o = none then none else st.fl s o }
def FS.setB (st : FS) (b : Nat) (cs : List D) : FS:={ st with bx:=fun c => if c = b then some cs else st.bx c }
def FS.offF (st : FS) (s : Nat) (o : Option Nat) : FS:={ st with fl:=fun s' o' => if s' = s ∧ o' = o then none else st.fl s' o' }
def FS.onF (st : FS) (s : Nat) (o : Option Nat) (x : Nat × Pay) : FS:={ st with fl:=fun s' o' => if s' = s ∧ o' = o then some x else st.fl s' o' }
theorem at_put (d : Nat) (u : Value) (s : Nat) (o : Option Nat) (h : ¬ (s = d ∧ o = none)) : At ρ (a.put (some d) u).tmps w s o = At ρ a.tmps w s o:=by
 cases o with
 | some off => rfl
 | none =>
  simp only [At,Act.put]
  rw [Array.getElem?_setIfInBounds]
  have : ¬ d = s:=fun e => h ⟨e.symm,rfl⟩
  simp [this]
theorem RelI.put (h : RelI base w0 I0 N I ρ st a w) {d : Nat} (hd : d < N) {v : Option D} {u : Value} (hv : ∀ x,v = some x → AVRep I ρ w x u) :
  RelI base w0 I0 N I ρ (st.setT d v) (a.put (some d) u) w:=by
 have hsz : d < a.tmps.size:=by rw [h.size]; exact hd
 refine ⟨h.defers,by simp [Act.put,h.size],fun s x hx => ?_,h.cap,fun b off x hx => h.flc b off x (by simpa [FS.setT] using hx),h.bx,h.inj,h.nob,fun s o e z hf => ?_,fun s o s' o' x x' y y' g h1 h2 h3 h4 h5 h6 => ?_,h.lt,h.sub,h.below,h.room,h.mon⟩
 ·simp only [FS.setT] at hx
  split at hx
  ·rename_i e; subst e
   exact ⟨u,by simp [Act.put,hsz],hv x hx⟩
  ·rename_i e
   obtain ⟨u',h1,h2⟩:=h.tm s x hx
   exact ⟨u',by simp only [Act.put]; rw [Array.getElem?_setIfInBounds,if_neg (fun q => e q.symm),h1],h2⟩
 ·simp only [FS.setT] at hf
  split at hf
  ·cases hf
  ·rename_i hne
   rw [at_put d u s o hne]
   exact h.fl s o e z hf
 ·simp only [FS.setT] at h1 h2
  split at h1
  ·cases h1
  ·rename_i hn1
   split at h2
   ·cases h2
   ·rename_i hn2
    rw [at_put d u _ _ hn1] at h3
    rw [at_put d u _ _ hn2] at h4
    exact h.apart s o s' o' x x' y y' g h1 h2 h3 h4 h5 h6
theorem RelI.offF (h : RelI base w0 I0 N I ρ st a w) (s : Nat) (o : Option Nat) : RelI base w0 I0 N I ρ (st.offF s o) a w:=by
 have hs : ∀ s' o' x,(st.offF s o).fl s' o' = some x → st.fl s' o' = some x:=by
  intro s' o' x hx
  simp only [FS.offF] at hx
  split at hx
  ·cases hx
  ·exact hx
 exact ⟨h.defers,h.size,h.tm,h.cap,fun b off x hx => h.flc b off x (hs _ _ _ hx),h.bx,h.inj,h.nob,fun s' o' e z hf => h.fl s' o' e z (hs _ _ _ hf),fun s' o' s'' o'' x x' y y' g h1 h2 => h.apart s' o' s'' o'' x x' y y' g (hs _ _ _ h1) (hs _ _ _ h2),h.lt,h.sub,h.below,h.room,h.mon⟩
theorem RelI.less (h : RelI base w0 I0 N I ρ st a w) {st' : FS} (ht : ∀ s v,st'.tm s = some v → st.tm s = some v) (hb : st'.bx = st.bx) (hf : ∀ s o x,st'.fl s o = some x → st.fl s o = some x) : RelI base w0 I0 N I ρ st' a w :=
 ⟨h.defers,h.size,fun s v hv => h.tm s v (ht s v hv),h.cap,fun b off x hx => h.flc b off x (hf _ _ _ hx),fun b cs hc => h.bx b cs (hb ▸ hc),h.inj,fun b hc => h.nob b (hb ▸ hc),fun s o e z hx => h.fl s o e z (hf _ _ _ hx),fun s o s' o' x x' y y' g h1 h2 => h.apart s o s' o' x x' y y' g (hf _ _ _ h1) (hf _ _ _ h2),h.lt,h.sub,h.below,h.room,h.mon⟩
theorem own_keep {w' : World} {e : Nat} {z : Pay} {u : Value} {I' : Still} {ρ' : Nat → Option Nat} (h : Own I ρ base w e z u) (hb : ∀ g,u.ownBlock = some g → w'.heap[g]? = w.heap[g]?)
  (hI : ∀ g j,u.ownBlock = some g → I' g j → I g j) (hρ : ∀ g b,u.ownBlock = some g → ρ' b = some g → ρ b = some g) (hk : ∀ b j,I b j → I' b j) (hw : ∀ b j,I b j → w'.cell? ⟨b,j,none⟩ = w.cell? ⟨b,j,none⟩) : Own I' ρ' base w' e z u:=by
 obtain ⟨n,xs,⟨h1,h2⟩,h3,h4⟩:=h
 refine ⟨n,xs,⟨h1,?_⟩,fun g hg => ⟨(h3 g hg).1,fun j hj hi => (h3 g hg).2.1 j hj (hI g j hg hi),fun b hb => (h3 g hg).2.2 b (hρ g b hg hb)⟩,fun es he => ⟨(h4 es he).1,(h4 es he).2.keep hk hw⟩⟩
 rcases h2 with h2 | ⟨g,cap,cur,rfl,hg,hh,r⟩
 ·exact .inl h2
 ·exact .inr ⟨g,cap,cur,rfl,hg,(hb g rfl).trans hh,r⟩
theorem own_lt {e : Nat} {z : Pay} {u : Value} (h : Own I ρ base w e z u) : ∀ g,u.ownBlock = some g → ¬ base g ∧ g < w.heap.size:=by
 obtain ⟨n,xs,h1,h2,_⟩:=h
 exact fun g hg => ⟨(h2 g hg).1,(h1.lt g hg).2⟩
theorem RelI.boxLt (h : RelI base w0 I0 N I ρ st a w) {b g : Nat} (hg : ρ b = some g) : ¬ base g ∧ g < w.heap.size:=by
 cases hbx : st.bx b with
 | none => rw [h.nob b hbx] at hg; cases hg
 | some cs =>
  obtain ⟨g',h1,h2,h3,_⟩:=h.bx b cs hbx
  rw [hg] at h1; cases h1
  exact ⟨h2,h3.lt⟩
theorem RelI.later0 (h : RelI base w0 I0 N I ρ st a w) {w' : World} (hb : Below w.heap.size w w') : RelI base w0 I0 N I ρ st a w':=by
 have hcell : ∀ b j,I b j → w'.cell? ⟨b,j,none⟩ = w.cell? ⟨b,j,none⟩:=fun b j hi => hb.cell (p:=⟨b,j,none⟩) (h.lt b j hi)
 have hat : ∀ s o,At ρ a.tmps w' s o = At ρ a.tmps w s o:=by
  intro s o
  cases o with
  | none => rfl
  | some off =>
   simp only [At]
   cases hr : ρ s with
   | none => rfl
   | some g => exact hb.cell (p:=⟨g,off,none⟩) (h.boxLt hr).2
 refine ⟨h.defers,h.size,fun s v hv => ?_,h.cap,h.flc,fun b cs hc => ?_,h.inj,h.nob,fun s o e z hx => ?_,fun s o s' o' x x' y y' g h1 h2 h3 h4 h5 h6 => ?_,fun b j hi => ?_,h.sub,h.below.trans (below_kept hb h.room),fun b hb' => Nat.lt_of_lt_of_le (h.room b hb') hb.size,fun b j hi => ⟨(h.mon b j hi).1,(hcell b j (h.mon b j hi).1).trans (h.mon b j hi).2⟩⟩
 ·obtain ⟨u,h1,h2⟩:=h.tm s v hv
  exact ⟨u,h1,h2.keep (fun _ _ h => h) (fun _ _ _ h => h) hcell⟩
 ·obtain ⟨g,h1,h2,h3,h5⟩:=h.bx b cs hc
  exact ⟨g,h1,h2,h3.keep (fun _ _ h => h) (fun _ _ _ h => h) hcell (hb.block g (h.boxLt h1).2),h5⟩
 ·obtain ⟨u,h1,h2⟩:=h.fl s o e z hx
  exact ⟨u,by rw [hat]; exact h1,own_keep h2 (fun g hg => hb.block g (own_lt h2 g hg).2) (fun _ _ _ h => h) (fun _ _ _ h => h) (fun _ _ h => h) hcell⟩
 ·rw [hat] at h3 h4
  exact h.apart s o s' o' x x' y y' g h1 h2 h3 h4 h5 h6
 ·have:=h.lt b j hi; have:=hb.size; omega
theorem RelI.still (h : RelI base w0 I0 N I ρ st a w) {B : Nat} (hB : ∀ b,base b → b < B) (hρ : ∀ b g,ρ b = some g → g < B) (hf : ∀ s o x u g,st.fl s o = some x → At ρ a.tmps w s o = some u → u.ownBlock = some g → g < B) :
  RelI base w0 I0 N (fun b j => I b j ∨ (B ≤ b ∧ b < w.heap.size)) ρ st a w:=by
 refine ⟨h.defers,h.size,fun s v hv => ?_,h.cap,h.flc,fun b cs hc => ?_,h.inj,h.nob,fun s o e z hx => ?_,h.apart,fun b j hi => ?_,fun b j hi => ?_,h.below,h.room,fun b j hi => ⟨.inl (h.mon b j hi).1,(h.mon b j hi).2⟩⟩
 ·obtain ⟨u,h1,h2⟩:=h.tm s v hv
  exact ⟨u,h1,h2.keep (fun b j => .inl) (fun _ _ _ h => h) (fun _ _ _ => rfl)⟩
 ·obtain ⟨g,h1,h2,h3,h5⟩:=h.bx b cs hc
  exact ⟨g,h1,h2,h3.keep (fun b j => .inl) (fun _ _ _ h => h) (fun _ _ _ => rfl) rfl,fun j hj => hj.elim (h5 j) (fun q => by have:=hρ b g h1; omega)⟩
 ·obtain ⟨u,h1,h2⟩:=h.fl s o e z hx
  exact ⟨u,h1,own_keep h2 (fun _ _ => rfl) (fun g j hg hi => hi.elim id (fun q => by have:=hf s o (e,z) u g hx h1 hg; omega)) (fun _ _ _ h => h) (fun b j => .inl) (fun _ _ _ => rfl)⟩
 ·exact hi.elim (h.lt b j) (fun q => q.2)
 ·exact hi.elim (h.sub b j) (fun q => .inr (fun hb => by have:=hB b hb; omega))
theorem RelI.later (h : RelI base w0 I0 N I ρ st a w) {w' : World} (hb : Below w.heap.size w w') : RelI base w0 I0 N (fun b j => I b j ∨ (w.heap.size ≤ b ∧ b < w'.heap.size)) ρ st a w':=by
 have h':=h.later0 hb
 refine h'.still h.room (fun b g hg => (h.boxLt hg).2) (fun s o x u g hx hu hg => ?_)
 have hat : At ρ a.tmps w' s o = At ρ a.tmps w s o:=by
  cases o with
  | none => rfl
  | some off =>
   simp only [At]
   cases hr : ρ s with
   | none => rfl
   | some g => exact hb.cell (p:=⟨g,off,none⟩) (h.boxLt hr).2
 obtain ⟨u',h1,h2⟩:=h.fl s o x.1 x.2 hx
 rw [hat,h1] at hu
 cases hu
 exact (own_lt h2 g hg).2
theorem RelI.newO (h : RelI base w0 I0 N I ρ st a w) {b : Nat} (hb : st.bx b = none) (hf : ∀ off,st.fl b (some off) = none) {cs : List D} (o : Obj) (hr : BoxAt I (fun c => if c = b then some w.heap.size else ρ c) (w.alloc o) b w.heap.size cs) :
  RelI base w0 I0 N I (fun c => if c = b then some w.heap.size else ρ c) (st.setB b cs) a (w.alloc o):=by
 have hbel : Below w.heap.size w (w.alloc o):=(Below.refl _ _).alloc (Nat.le_refl _) _
 have h':=h.later0 hbel
 have hρb : ρ b = none:=h.nob b hb
 have hat : ∀ s p x,st.fl s p = some x → At (fun c => if c = b then some w.heap.size else ρ c) a.tmps (w.alloc o) s p = At ρ a.tmps (w.alloc o) s p:=by
  intro s p x hx
  cases p with
  | none => rfl
  | some off =>
   have : s ≠ b:=by intro e; subst e; rw [hf] at hx; cases hx
   simp [At,this]
 have hmono : ∀ c g,ρ c = some g → (if c = b then some w.heap.size else ρ c) = some g:=by
  intro c g hg
  rw [if_neg (by intro e; subst e; rw [hρb] at hg; cases hg)]; exact hg
 refine ⟨h'.defers,h'.size,fun s v hv => ?_,h'.cap,h'.flc,fun c ds hc => ?_,fun c c' g h1 h2 => ?_,fun c hc => ?_,fun s p e z hx => ?_,fun s p s' p' x x' y y' g h1 h2 h3 h4 h5 h6 => ?_,h'.lt,h'.sub,h'.below,h'.room,h'.mon⟩
 ·obtain ⟨u,h1,h2⟩:=h'.tm s v hv
  exact ⟨u,h1,h2.keep (fun _ _ h => h) (fun c g _ h => hmono c g h) (fun _ _ _ => rfl)⟩
 ·simp only [FS.setB] at hc
  split at hc
  ·rename_i e; subst e
   cases hc
   refine ⟨w.heap.size,by simp,fun hb => by have:=h.room _ hb; omega,hr,fun j hj => ?_⟩
   have:=h.lt _ j hj; omega
  ·rename_i hne
   obtain ⟨g,h1,h2,h3,h4⟩:=h'.bx c ds hc
   exact ⟨g,hmono c g h1,h2,h3.keep (fun _ _ h => h) (fun c g _ h => hmono c g h) (fun _ _ _ => rfl) rfl,h4⟩
 ·split at h1
  ·rename_i e
   split at h2
   ·rename_i e'; rw [e,e']
   ·cases h1; have:=(h.boxLt h2).2; omega
  ·split at h2
   ·cases h2; have:=(h.boxLt h1).2; omega
   ·exact h.inj c c' g h1 h2
 ·simp only [FS.setB] at hc
  split at hc
  ·cases hc
  ·rename_i hne; rw [if_neg hne]; exact h.nob c hc
 ·obtain ⟨u,h1,h2⟩:=h'.fl s p e z hx
  refine ⟨u,by rw [hat s p _ hx]; exact h1,own_keep h2 (fun _ _ => rfl) (fun _ _ _ h => h) (fun g c hg hc => ?_) (fun _ _ h => h) (fun _ _ _ => rfl)⟩
  split at hc
  ·cases hc
   obtain ⟨u',h1',h2'⟩:=h.fl s p e z hx
   have hold : At ρ a.tmps (w.alloc o) s p = At ρ a.tmps w s p:=by
    cases p with
    | none => rfl
    | some off =>
     simp only [At]
     cases hr : ρ s with
     | none => rfl
     | some g => exact hbel.cell (p:=⟨g,off,none⟩) (h.boxLt hr).2
   rw [hold,h1'] at h1
   cases h1
   have:=(own_lt h2' _ hg).2; omega
  ·exact hc
 ·rw [hat s p _ h1] at h3
  rw [hat s' p' _ h2] at h4
  exact h'.apart s p s' p' x x' y y' g h1 h2 h3 h4 h5 h6
theorem RelI.chg (h : RelI base w0 I0 N I ρ st a w) {b g : Nat} {cs cs' : List D} (hk : 100000 ≤ b) (hb : st.bx b = some cs) (hg : ρ b = some g) {w' : World} (hgr : w.grownBy w' (some g)) (hr : BoxAt I ρ w' b g cs') :
  RelI base w0 I0 N I ρ (st.setB b cs') a w':=by
 obtain ⟨g',h1,h2,h3,h5⟩:=h.bx b cs hb
 rw [hg] at h1; cases h1
 have hcell : ∀ c j,I c j → w'.cell? ⟨c,j,none⟩ = w.cell? ⟨c,j,none⟩:=fun c j hi => World.cell?_of_block (a:=⟨c,j,none⟩) (hgr.block c (h.lt c j hi) (fun e => h5 j (by cases e; exact hi)))
 have hat : ∀ s p x,st.fl s p = some x → At ρ a.tmps w' s p = At ρ a.tmps w s p:=by
  intro s p x hx
  cases p with
  | none => rfl
  | some off =>
   have hs:=h.flc s off x hx
   simp only [At]
   cases hr : ρ s with
   | none => rfl
   | some g' => exact World.cell?_of_block (a:=⟨g',off,none⟩) (hgr.block g' (h.boxLt hr).2 (fun e => by cases e; have:=h.inj s b g hr hg; omega))
 refine ⟨h.defers,h.size,fun s v hv => ?_,h.cap,h.flc,fun c ds hc => ?_,h.inj,fun c hc => ?_,fun s p e z hx => ?_,fun s p s' p' x x' y y' k h1 h2 h3 h4 h5 h6 => ?_,fun c j hi => by have:=h.lt c j hi; have:=hgr.size; omega,h.sub,?_,fun b hb' => Nat.lt_of_lt_of_le (h.room b hb') hgr.size,fun b j hi => ⟨(h.mon b j hi).1,(hcell b j (h.mon b j hi).1).trans (h.mon b j hi).2⟩⟩
 ·obtain ⟨u,q1,q2⟩:=h.tm s v hv
  exact ⟨u,q1,q2.keep (fun _ _ h => h) (fun _ _ _ h => h) hcell⟩
 ·simp only [FS.setB] at hc
  split at hc
  ·rename_i e; subst e; cases hc; exact ⟨g,hg,h2,hr,h5⟩
  ·rename_i hne
   obtain ⟨g',q1,q2,q3,q5⟩:=h.bx c ds hc
   exact ⟨g',q1,q2,q3.keep (fun _ _ h => h) (fun _ _ _ h => h) hcell (hgr.block g' (h.boxLt q1).2 (fun e => by cases e; exact hne (h.inj c b g q1 hg))),q5⟩
 ·simp only [FS.setB] at hc
  split at hc
  ·cases hc
  ·exact h.nob c hc
 ·obtain ⟨u,q1,q2⟩:=h.fl s p e z hx
  refine ⟨u,by rw [hat s p _ hx]; exact q1,own_keep q2 (fun k hk => hgr.block k (own_lt q2 k hk).2 (fun e => ?_)) (fun _ _ _ h => h) (fun _ _ _ h => h) (fun _ _ h => h) hcell⟩
  cases e
  obtain ⟨n,xs,_,q3,_⟩:=q2
  exact (q3 g hk).2.2 b hg
 ·rw [hat s p _ h1] at h3
  rw [hat s' p' _ h2] at h4
  exact h.apart s p s' p' x x' y y' k h1 h2 h3 h4 h5 h6
 ·exact h.below.trans ⟨hgr.os,hgr.tape,hgr.output,hgr.size,fun k hk => hgr.block k (h.room k hk) (fun e => by cases e; exact h2 hk)⟩
theorem RelI.newB (h : RelI base w0 I0 N I ρ st a w) {b : Nat} (hlt : b < 100000) (hb : st.bx b = none) (hf : ∀ off,st.fl b (some off) = none) {cs : List D} {us : List Value} (t : TypeId) (hr : RowL I ρ w cs us) :
  RelI base w0 I0 N I (fun c => if c = b then some w.heap.size else ρ c) (st.setB b cs) a (w.alloc (.cells us.toArray t)):=by
 have hbel : Below w.heap.size w (w.alloc (.cells us.toArray t)):=(Below.refl _ _).alloc (Nat.le_refl _) _
 refine h.newO hb hf _ (.inl ⟨hlt,us,t,heap_alloc_new _ _,hr.keep (fun _ _ h => h) (fun c g _ hg => ?_) (fun c j hi => hbel.cell (p:=⟨c,j,none⟩) (h.lt c j hi))⟩)
 show (if c = b then some w.heap.size else ρ c) = some g
 rw [if_neg (by intro e; subst e; rw [h.nob c hb] at hg; cases hg)]; exact hg
end
section
variable {base : Nat → Prop} {w0 : World} {I0 : Still} {N : Nat} {I : Still} {ρ : Nat → Option Nat} {st : FS} {a : Act} {w : World}
def over {α : Type} (cs : List α) (off : Nat) (ds : List α) : List α:=cs.take off ++ ds ++ cs.drop (off + ds.length)
theorem over_row {cs ds : List D} {us vs : List Value} (h : Row I w cs us) (h' : Row I w ds vs) (off : Nat) : Row I w (over cs off ds) (over us off vs):=by
 unfold over
 rw [← h'.1]
 exact ((h.take off).app h').app (h.drop _)
theorem over_rowL {cs ds : List D} {us vs : List Value} (h : RowL I ρ w cs us) (h' : RowL I ρ w ds vs) (off : Nat) : RowL I ρ w (over cs off ds) (over us off vs):=by
 unfold over
 rw [← h'.1]
 exact ((h.take off).app h').app (h.drop _)
theorem over_len {α : Type} {cs ds : List α} {off : Nat} (hl : off + ds.length ≤ cs.length) : (over cs off ds).length = cs.length:=by
 simp only [over,List.length_append,List.length_take,List.length_drop]; omega
theorem over_out {α : Type} {cs ds : List α} {off j : Nat} (hl : off + ds.length ≤ cs.length) (hj : j < off ∨ off + ds.length ≤ j) : (over cs off ds)[j]? = cs[j]?:=by
 unfold over
 rcases hj with hj | hj
 ·rw [List.append_assoc,List.getElem?_append_left (by rw [List.length_take]; omega),List.getElem?_take,if_pos hj]
 ·rw [List.getElem?_append_right (by simp; omega),List.getElem?_drop]
  congr 1
  simp only [List.length_append,List.length_take]
  omega
theorem over_in {α : Type} {cs ds : List α} {off j : Nat} (hl : off + ds.length ≤ cs.length) (hj : j < ds.length) : (over cs off ds)[off + j]? = ds[j]?:=by
 unfold over
 rw [List.append_assoc,List.getElem?_append_right (by rw [List.length_take]; omega),List.length_take,Nat.min_eq_left (by omega),Nat.add_sub_cancel_left,List.getElem?_append_left hj]
def FS.offR (st : FS) (b off n : Nat) : FS:={ st with fl:=fun s o => if s = b ∧ (∃ k,o = some k ∧ off ≤ k ∧ k < off + n) then none else st.fl s o }
theorem RelI.store (h : RelI base w0 I0 N I ρ st a w) {b off : Nat} {cs ds : List D} {vs : List Value} (hlt : b < 100000) (hb : st.bx b = some cs) (hl : off + ds.length ≤ cs.length) (hr : RowL I ρ w ds vs) :
  ∃ g us t,ρ b = some g ∧ w.heap[g]? = some (.cells us.toArray t (0,0)) ∧ us.length = cs.length ∧ RelI base w0 I0 N I ρ ((st.setB b (over cs off ds)).offR b off ds.length) a (w.setRow g (over us off vs).toArray):=by
 obtain ⟨g,h1,h2,h34,h5⟩:=h.bx b cs hb
 obtain ⟨us,t,h3,h4⟩:=h34.cells hlt
 refine ⟨g,us,t,h1,h3,h4.1.symm,?_⟩
 have hvl : vs.length = ds.length:=hr.1.symm
 have hul : off + vs.length ≤ us.length:=by rw [hvl,← h4.1]; exact hl
 have hcell : ∀ c j,I c j → (w.setRow g (over us off vs).toArray).cell? ⟨c,j,none⟩ = w.cell? ⟨c,j,none⟩:=fun c j hi =>
  cell_setRow_other w g _ ⟨c,j,none⟩ (fun e => h5 j (by rw [← e]; exact hi))
 have hblk : ∀ k,k ≠ g → (w.setRow g (over us off vs).toArray).heap[k]? = w.heap[k]?:=fun k hk => setRow_other w g k _ hk
 have hsame : ∀ j,(w.setRow g (over us off vs).toArray).cell? ⟨g,j,none⟩ = (over us off vs)[j]?:=fun j => by
  rw [cell_setRow_same w g j us.toArray _ t (0,0) h3]; simp
 have hold : ∀ j,w.cell? ⟨g,j,none⟩ = us[j]?:=fun j => by rw [cell_of_row w g j us.toArray t (0,0) h3]; simp
 have hfl : ∀ s o x,((st.setB b (over cs off ds)).offR b off ds.length).fl s o = some x → st.fl s o = some x ∧ At ρ a.tmps (w.setRow g (over us off vs).toArray) s o = At ρ a.tmps w s o:=by
  intro s o x hx
  simp only [FS.offR,FS.setB] at hx
  split at hx
  ·cases hx
  ·rename_i hn
   refine ⟨hx,?_⟩
   cases o with
   | none => rfl
   | some k =>
    simp only [At]
    cases hs : ρ s with
    | none => rfl
    | some g' =>
     show (w.setRow g _).cell? ⟨g',k,none⟩ = w.cell? ⟨g',k,none⟩
     by_cases e : g' = g
     ·subst e
      have hsb:=h.inj s b g' hs h1
      subst hsb
      rw [hsame,hold,over_out hul]
      have hq : ¬ (off ≤ k ∧ k < off + ds.length):=fun q => hn ⟨rfl,k,rfl,q⟩
      omega
     ·exact cell_setRow_other w g _ ⟨g',k,none⟩ e
 refine ⟨h.defers,h.size,fun s v hv => ?_,h.cap,fun b off x hx => h.flc b off x (hfl _ _ _ hx).1,fun c es hc => ?_,h.inj,fun c hc => ?_,fun s o e z hx => ?_,fun s o s' o' x x' y y' k h1 h2 h3 h4 h5 h6 => ?_,fun c j hi => by rw [setRow_size]; exact h.lt c j hi,h.sub,?_,by rw [setRow_size]; exact h.room,fun b j hi => ⟨(h.mon b j hi).1,(hcell b j (h.mon b j hi).1).trans (h.mon b j hi).2⟩⟩
 ·obtain ⟨u,q1,q2⟩:=h.tm s v hv
  exact ⟨u,q1,q2.keep (fun _ _ h => h) (fun _ _ _ h => h) hcell⟩
 ·simp only [FS.offR,FS.setB] at hc
  split at hc
  ·rename_i e; subst e
   cases hc
   exact ⟨g,h1,h2,.inl ⟨hlt,over us off vs,t,setRow_heap w g us.toArray _ t (0,0) h3,(over_rowL h4 hr off).keep (fun _ _ h => h) (fun _ _ _ h => h) hcell⟩,h5⟩
  ·rename_i hne
   obtain ⟨g',q1,q2,q3,q5⟩:=h.bx c es hc
   have : g' ≠ g:=fun e => hne (h.inj c b g (e ▸ q1) h1)
   exact ⟨g',q1,q2,q3.keep (fun _ _ h => h) (fun _ _ _ h => h) hcell (hblk g' this),q5⟩
 ·simp only [FS.offR,FS.setB] at hc
  split at hc
  ·cases hc
  ·exact h.nob c hc
 ·obtain ⟨q,hat⟩:=hfl s o _ hx
  obtain ⟨u,q1,q2⟩:=h.fl s o e z q
  refine ⟨u,by rw [hat]; exact q1,own_keep q2 (fun k hk => hblk k (fun e => ?_)) (fun _ _ _ h => h) (fun _ _ _ h => h) (fun _ _ h => h) hcell⟩
  obtain ⟨n,xs,_,q3,_⟩:=q2
  exact (q3 k hk).2.2 b (e ▸ h1)
 ·obtain ⟨q,hat⟩:=hfl s o _ h1
  obtain ⟨q',hat'⟩:=hfl s' o' _ h2
  rw [hat] at h3
  rw [hat'] at h4
  exact h.apart s o s' o' x x' y y' k q q' h3 h4 h5 h6
 ·exact h.below.trans ⟨rfl,rfl,rfl,by rw [setRow_size]; exact Nat.le_refl _,fun k hk => hblk k (fun e => h2 (e ▸ hk))⟩
theorem RelI.moveF (h : RelI base w0 I0 N I ρ st a w) {s s' : Nat} {o o' : Option Nat} {x : Nat × Pay} {u : Value} (hs' : ∀ k,o' = some k → s' < 100000) (hx : st.fl s o = some x) (hu : At ρ a.tmps w s o = some u) (hu' : At ρ a.tmps w s' o' = some u) :
  RelI base w0 I0 N I ρ ((st.offF s o).onF s' o' x) a w:=by
 have hcase : ∀ t p y,((st.offF s o).onF s' o' x).fl t p = some y → (t = s' ∧ p = o' ∧ y = x) ∨ (¬ (t = s' ∧ p = o') ∧ ¬ (t = s ∧ p = o) ∧ st.fl t p = some y):=by
  intro t p y hy
  simp only [FS.onF,FS.offF] at hy
  split at hy
  ·rename_i e; cases hy; exact .inl ⟨e.1,e.2,rfl⟩
  ·rename_i e
   split at hy
   ·cases hy
   ·rename_i e'; exact .inr ⟨e,e',hy⟩
 refine ⟨h.defers,h.size,h.tm,h.cap,fun b off y hy => (hcase b (some off) y hy).elim (fun q => by rw [q.1]; exact hs' off q.2.1.symm) (fun q => h.flc b off y q.2.2),h.bx,h.inj,h.nob,fun t p e z hy => ?_,fun t p t' p' y y' v v' g h1 h2 h3 h4 h5 h6 => ?_,h.lt,h.sub,h.below,h.room,h.mon⟩
 ·rcases hcase t p _ hy with ⟨rfl,rfl,q⟩ | ⟨_,_,q⟩
  ·obtain ⟨u',q1,q2⟩:=h.fl s o e z (by rw [hx,q])
   rw [hu] at q1; cases q1
   exact ⟨u,hu',q2⟩
  ·exact h.fl t p e z q
 ·rcases hcase t p _ h1 with ⟨rfl,rfl,q⟩ | ⟨n1,m1,q⟩
  ·rcases hcase t' p' _ h2 with ⟨rfl,rfl,q'⟩ | ⟨n2,m2,q'⟩
   ·exact ⟨rfl,rfl⟩
   ·rw [hu'] at h3; cases h3
    have:=h.apart s o t' p' x y' u v' g hx q' hu h4 h5 h6
    exact absurd ⟨this.1.symm,this.2.symm⟩ m2
  ·rcases hcase t' p' _ h2 with ⟨rfl,rfl,q'⟩ | ⟨n2,m2,q'⟩
   ·rw [hu'] at h4; cases h4
    have:=h.apart t p s o y x v u g q hx h3 hu h5 h6
    exact absurd this m1
   ·exact h.apart t p t' p' y y' v v' g q q' h3 h4 h5 h6
theorem RelI.giveF (h : RelI base w0 I0 N I ρ st a w) {s : Nat} {o : Option Nat} {e : Nat} {z : Pay} {u : Value} (hs' : ∀ k,o = some k → s < 100000) (hu : At ρ a.tmps w s o = some u) (ho : Own I ρ base w e z u)
  (hap : ∀ t p x y g,st.fl t p = some x → At ρ a.tmps w t p = some y → y.ownBlock = some g → u.ownBlock ≠ some g) : RelI base w0 I0 N I ρ (st.onF s o (e,z)) a w:=by
 have hcase : ∀ t p y,(st.onF s o (e,z)).fl t p = some y → (t = s ∧ p = o ∧ y = (e,z)) ∨ (¬ (t = s ∧ p = o) ∧ st.fl t p = some y):=by
  intro t p y hy
  simp only [FS.onF] at hy
  split at hy
  ·rename_i e; cases hy; exact .inl ⟨e.1,e.2,rfl⟩
  ·rename_i e; exact .inr ⟨e,hy⟩
 refine ⟨h.defers,h.size,h.tm,h.cap,fun b off y hy => (hcase b (some off) y hy).elim (fun q => by rw [q.1]; exact hs' off q.2.1.symm) (fun q => h.flc b off y q.2),h.bx,h.inj,h.nob,fun t p e' z' hy => ?_,fun t p t' p' y y' v v' g h1 h2 h3 h4 h5 h6 => ?_,h.lt,h.sub,h.below,h.room,h.mon⟩
 ·rcases hcase t p _ hy with ⟨rfl,rfl,q⟩ | ⟨_,q⟩
  ·cases q; exact ⟨u,hu,ho⟩
  ·exact h.fl t p e' z' q
 ·rcases hcase t p _ h1 with ⟨rfl,rfl,q⟩ | ⟨n1,q⟩
  ·rcases hcase t' p' _ h2 with ⟨rfl,rfl,q'⟩ | ⟨n2,q'⟩
   ·exact ⟨rfl,rfl⟩
   ·rw [hu] at h3; cases h3
    exact absurd h5 (hap t' p' y' v' g q' h4 h6)
  ·rcases hcase t' p' _ h2 with ⟨rfl,rfl,q'⟩ | ⟨n2,q'⟩
   ·rw [hu] at h4; cases h4
    exact absurd h6 (hap t p y v g q h3 h5)
   ·exact h.apart t p t' p' y y' v v' g q q' h3 h4 h5 h6
end
end Go.Proofs.Ytgaofjiidedcbad.ab
