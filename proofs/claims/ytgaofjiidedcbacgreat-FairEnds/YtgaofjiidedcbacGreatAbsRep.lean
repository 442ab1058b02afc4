import Derived.Orders
import Derived.Below
import Derived.WalkKit
import Derived.Laws.AppendOwnNone
import GoSem.ClaimWide
import Derived.MapKept
set_option linter.unusedVariables false
set_option linter.unusedSimpArgs false
namespace Go.Proofs.YtgaofjiidedcbacGreat.ab
open Go Go.RowKit
abbrev D:=DataW (Value ⊕ (Nat × Nat))
abbrev vD (x : Value) : D:=.held (.inl x)
abbrev sD (z : Nat) (es : List D) : D:=.slice es [.held (.inr (z,0))]
abbrev aD (cs : List D) : D:=.agg cs
abbrev tD (xs : List D) : D:=.ptr (.agg xs)
abbrev pD (b off : Nat) : D:=.held (.inr (b,off))
abbrev eD (cs : List D) (off : Nat) : D:=.ptr (.slice cs [.held (.inr (off,0))])
abbrev nD (z : Nat) (es : List D) : D:=.slice es [.held (.inr (z,1))]
abbrev oD (b n : Nat) : D:=.ptr (.held (.inr (b,n)))
abbrev hD (b : Nat) : D:=.ptr (.ptr (.held (.inr (b,0))))
abbrev qD (b i z off : Nat) : D:=.ptr (.slice [] [.held (.inr (b,i)),.held (.inr (z,off))])
abbrev fD (b f : Nat) : D:=.ptr (.ptr (.ptr (.held (.inr (b,f)))))
abbrev rD (b lo z n : Nat) : D:=.ptr (.slice [.nil] [.held (.inr (b,lo)),.held (.inr (z,n))])
def cellsD : D → List D
 | .agg cs => cs
 | d => [d]
abbrev xD : D:=.nil
abbrev jD (k f : Nat) (cs : List D) : D:=.iface "j" (.slice cs [.held (.inr (k,f))])
def wrapV (k f : Nat) (p : Addr) : Value:=match k with
 | 0 => .pointer (some p)
 | _ => .func (.func f) #[] #[.pointer (some p)]
def plainV : Value → Bool
 | .bool _ | .int _ _ | .string _ => true
 | .slice none 0 0 => true
 | .func (.func _) a b => a.isEmpty && b.isEmpty
 | .nilFunc => true
 | .map (some _) => true
 | .pointer (some _) => true
 | _ => false
abbrev Still:=Nat → Nat → Prop
def SliceAt (I : Still) (w : World) (R : D → Value → Prop) (z : Nat) (es : List D) (a : Option Addr) (cap : Nat) : Prop :=
 ∃ U : Nat → Nat → Value,es.length ≤ cap ∧ (a = none → cap = 0) ∧ cap ≤ maxLen ∧ (∀ e ∈ es,(cellsD e).length = z) ∧
  (es ≠ [] → ∃ b off,a = some ⟨b,off,none⟩ ∧ ∀ i j,i < es.length → j < z → w.cell? ⟨b,off + i * z + j,none⟩ = some (U i j) ∧ I b (off + i * z + j)) ∧
  (∀ (i j : Nat) (e : D) (l : D),es[i]? = some e → (cellsD e)[j]? = some l → R l (U i j))
def PtrAt (I : Still) (w : World) (R : D → Value → Prop) (cs : List D) (p : Addr) : Prop :=
 ∃ b o,p = ⟨b,o,none⟩ ∧ ∀ (j : Nat) c,cs[j]? = some c → ∃ x,w.cell? ⟨b,o + j,none⟩ = some x ∧ I b (o + j) ∧ R c x
def CRep (I : Still) (w : World) (l : D) (u : Value) : Prop :=
 ∀ R : D → Value → Prop,(∀ x,plainV x = true → R (vD x) x) → (∀ z es a cap,SliceAt I w R z es a cap → R (sD z es) (.slice a es.length cap)) → (∀ z es a cap,SliceAt I w R z es (some a) cap → R (nD z es) (.slice (some a) es.length cap)) →
  (∀ x,x.oneCell' = true → R xD x) → (∀ k f cs p,PtrAt I w R cs p → R (jD k f cs) (wrapV k f p)) → R l u
theorem SliceAt.mono {I : Still} {w : World} {R R' : D → Value → Prop} {z : Nat} {es : List D} {a : Option Addr} {cap : Nat} (h : SliceAt I w R z es a cap) (hR : ∀ l u,R l u → R' l u) : SliceAt I w R' z es a cap:=by
 obtain ⟨U,h1,h2,h3,h4,h5,h6⟩:=h
 exact ⟨U,h1,h2,h3,h4,h5,fun i j e l he hl => hR _ _ (h6 i j e l he hl)⟩
theorem PtrAt.mono {I : Still} {w : World} {R R' : D → Value → Prop} {cs : List D} {p : Addr} (h : PtrAt I w R cs p) (hR : ∀ l u,R l u → R' l u) : PtrAt I w R' cs p:=by
 obtain ⟨b,o,h1,h2⟩:=h
 refine ⟨b,o,h1,fun j c hc => ?_⟩
 obtain ⟨x,q1,q2,q3⟩:=h2 j c hc
 exact ⟨x,q1,q2,hR _ _ q3⟩
theorem CRep.v {I : Still} {w : World} {x : Value} (h : plainV x = true) : CRep I w (vD x) x:=fun R hv _ _ _ _ => hv x h
theorem CRep.s {I : Still} {w : World} {z : Nat} {es : List D} {a : Option Addr} {cap : Nat} (h : SliceAt I w (CRep I w) z es a cap) : CRep I w (sD z es) (.slice a es.length cap):=fun R hv hs hn hx hj =>
 hs z es a cap (h.mono fun l u h => h R hv hs hn hx hj)
theorem CRep.n {I : Still} {w : World} {z : Nat} {es : List D} {a : Addr} {cap : Nat} (h : SliceAt I w (CRep I w) z es (some a) cap) : CRep I w (nD z es) (.slice (some a) es.length cap):=fun R hv hs hn hx hj =>
 hn z es a cap (h.mono fun l u h => h R hv hs hn hx hj)
theorem CRep.x {I : Still} {w : World} {x : Value} (h : x.oneCell' = true) : CRep I w xD x:=fun R _ _ _ hx _ => hx x h
theorem CRep.j {I : Still} {w : World} {k f : Nat} {cs : List D} {p : Addr} (h : PtrAt I w (CRep I w) cs p) : CRep I w (jD k f cs) (wrapV k f p):=fun R hv hs hn hx hj =>
 hj k f cs p (h.mono fun l u h => h R hv hs hn hx hj)
theorem CRep.ind {I : Still} {w : World} {R : D → Value → Prop} (hv : ∀ x,plainV x = true → R (vD x) x) (hs : ∀ z es a cap,SliceAt I w (fun l u => CRep I w l u ∧ R l u) z es a cap → R (sD z es) (.slice a es.length cap))
  (hn : ∀ z es a cap,SliceAt I w (fun l u => CRep I w l u ∧ R l u) z es (some a) cap → R (nD z es) (.slice (some a) es.length cap)) (hx : ∀ x,x.oneCell' = true → R xD x) (hj : ∀ k f cs p,PtrAt I w (fun l u => CRep I w l u ∧ R l u) cs p → R (jD k f cs) (wrapV k f p)) {l : D} {u : Value} (h : CRep I w l u) : R l u :=
 (h (fun l u => CRep I w l u ∧ R l u) (fun x hx => ⟨CRep.v hx,hv x hx⟩) (fun z es a cap h' => ⟨CRep.s (h'.mono fun _ _ q => q.1),hs z es a cap h'⟩) (fun z es a cap h' => ⟨CRep.n (h'.mono fun _ _ q => q.1),hn z es a cap h'⟩)
  (fun x q => ⟨CRep.x q,hx x q⟩) (fun k f cs p h' => ⟨CRep.j (h'.mono fun _ _ q => q.1),hj k f cs p h'⟩)).2
theorem CRep.inv {I : Still} {w : World} {l : D} {u : Value} (h : CRep I w l u) : (∃ x,l = vD x ∧ u = x ∧ plainV x = true) ∨ (∃ z es a cap,l = sD z es ∧ u = .slice a es.length cap ∧ SliceAt I w (CRep I w) z es a cap) ∨
  (∃ z es a cap,l = nD z es ∧ u = .slice (some a) es.length cap ∧ SliceAt I w (CRep I w) z es (some a) cap) ∨ (l = xD ∧ u.oneCell' = true) ∨ ∃ k f cs p,l = jD k f cs ∧ u = wrapV k f p ∧ PtrAt I w (CRep I w) cs p :=
 CRep.ind (R:=fun l u => (∃ x,l = vD x ∧ u = x ∧ plainV x = true) ∨ (∃ z es a cap,l = sD z es ∧ u = .slice a es.length cap ∧ SliceAt I w (CRep I w) z es a cap) ∨ (∃ z es a cap,l = nD z es ∧ u = .slice (some a) es.length cap ∧ SliceAt I w (CRep I w) z es (some a) cap) ∨ (l = xD ∧ u.oneCell' = true) ∨ ∃ k f cs p,l = jD k f cs ∧ u = wrapV k f p ∧ PtrAt I w (CRep I w) cs p)
  (fun x hx => .inl ⟨x,rfl,rfl,hx⟩) (fun z es a cap h => .inr (.inl ⟨z,es,a,cap,rfl,rfl,h.mono fun _ _ q => q.1⟩)) (fun z es a cap h => .inr (.inr (.inl ⟨z,es,a,cap,rfl,rfl,h.mono fun _ _ q => q.1⟩)))
  (fun x hx => .inr (.inr (.inr (.inl ⟨rfl,hx⟩)))) (fun k f cs p h => .inr (.inr (.inr (.inr ⟨k,f,cs,p,rfl,rfl,h.mono fun _ _ q => q.1⟩)))) h
theorem CRep.invV {I : Still} {w : World} {x u : Value} (h : CRep I w (vD x) u) : u = x ∧ plainV x = true:=by
 rcases h.inv with ⟨y,h1,h2,h3⟩ | ⟨z,es,a,cap,h1,_⟩ | ⟨z,es,a,cap,h1,_⟩ | ⟨h1,_⟩ | ⟨k,f,cs,p,h1,_⟩
 ·cases h1; exact ⟨h2,h3⟩
 all_goals cases h1
theorem CRep.invS {I : Still} {w : World} {z : Nat} {es : List D} {u : Value} (h : CRep I w (sD z es) u) : ∃ a cap,u = .slice a es.length cap ∧ SliceAt I w (CRep I w) z es a cap:=by
 rcases h.inv with ⟨y,h1,_⟩ | ⟨z',es',a,cap,h1,h2,h3⟩ | ⟨z',es',a,cap,h1,_⟩ | ⟨h1,_⟩ | ⟨k,f,cs,p,h1,_⟩
 ·cases h1
 ·cases h1; exact ⟨a,cap,h2,h3⟩
 all_goals cases h1
theorem CRep.invN {I : Still} {w : World} {z : Nat} {es : List D} {u : Value} (h : CRep I w (nD z es) u) : ∃ a cap,u = .slice (some a) es.length cap ∧ SliceAt I w (CRep I w) z es (some a) cap:=by
 rcases h.inv with ⟨y,h1,_⟩ | ⟨z',es',a,cap,h1,_⟩ | ⟨z',es',a,cap,h1,h2,h3⟩ | ⟨h1,_⟩ | ⟨k,f,cs,p,h1,_⟩
 ·cases h1
 ·cases h1
 ·cases h1; exact ⟨a,cap,h2,h3⟩
 all_goals cases h1
theorem CRep.invJ {I : Still} {w : World} {k f : Nat} {cs : List D} {u : Value} (h : CRep I w (jD k f cs) u) : ∃ p,u = wrapV k f p ∧ PtrAt I w (CRep I w) cs p:=by
 rcases h.inv with ⟨y,h1,_⟩ | ⟨z',es',a,cap,h1,_⟩ | ⟨z',es',a,cap,h1,_⟩ | ⟨h1,_⟩ | ⟨k,f,cs,p,h1,h2,h3⟩
 ·cases h1
 ·cases h1
 ·cases h1
 ·cases h1
 ·cases h1; exact ⟨p,h2,h3⟩
theorem notC_p {I : Still} {w : World} {b off : Nat} {u : Value} : ¬ CRep I w (pD b off) u:=by
 intro h
 rcases h.inv with ⟨x,h1,_⟩ | ⟨z,es,a,cap,h1,_⟩ | ⟨z,es,a,cap,h1,_⟩ | ⟨h1,_⟩ | ⟨k,f,cs,p,h1,_⟩ <;> cases h1
theorem notC_ptr {I : Still} {w : World} {d : D} {u : Value} : ¬ CRep I w (.ptr d) u:=by
 intro h
 rcases h.inv with ⟨x,h1,_⟩ | ⟨z,es,a,cap,h1,_⟩ | ⟨z,es,a,cap,h1,_⟩ | ⟨h1,_⟩ | ⟨k,f,cs,p,h1,_⟩ <;> cases h1
theorem notC_a {I : Still} {w : World} {cs : List D} {u : Value} : ¬ CRep I w (aD cs) u:=by
 intro h
 rcases h.inv with ⟨x,h1,_⟩ | ⟨z,es,a,cap,h1,_⟩ | ⟨z,es,a,cap,h1,_⟩ | ⟨h1,_⟩ | ⟨k,f,cs,p,h1,_⟩ <;> cases h1
theorem SliceAt.keep {I I' : Still} {w w' : World} {R : D → Value → Prop} {z : Nat} {es : List D} {a : Option Addr} {cap : Nat} (h : SliceAt I w R z es a cap) (hI : ∀ b j,I b j → I' b j) (hw : ∀ b j,I b j → w'.cell? ⟨b,j,none⟩ = w.cell? ⟨b,j,none⟩) : SliceAt I' w' R z es a cap:=by
 obtain ⟨U,h1,h2,h3,h4,h5,h6⟩:=h
 refine ⟨U,h1,h2,h3,h4,fun hne => ?_,h6⟩
 obtain ⟨b,off,rfl,hh⟩:=h5 hne
 exact ⟨b,off,rfl,fun i j hi hj => ⟨(hw _ _ (hh i j hi hj).2).trans (hh i j hi hj).1,hI _ _ (hh i j hi hj).2⟩⟩
theorem PtrAt.keep {I I' : Still} {w w' : World} {R : D → Value → Prop} {cs : List D} {p : Addr} (h : PtrAt I w R cs p) (hI : ∀ b j,I b j → I' b j) (hw : ∀ b j,I b j → w'.cell? ⟨b,j,none⟩ = w.cell? ⟨b,j,none⟩) : PtrAt I' w' R cs p:=by
 obtain ⟨b,o,h1,h2⟩:=h
 refine ⟨b,o,h1,fun j c hc => ?_⟩
 obtain ⟨x,q1,q2,q3⟩:=h2 j c hc
 exact ⟨x,(hw _ _ q2).trans q1,hI _ _ q2,q3⟩
theorem CRep.keep {I I' : Still} {w w' : World} {l : D} {u : Value} (h : CRep I w l u) (hI : ∀ b j,I b j → I' b j) (hw : ∀ b j,I b j → w'.cell? ⟨b,j,none⟩ = w.cell? ⟨b,j,none⟩) : CRep I' w' l u :=
 CRep.ind (R:=fun l u => CRep I' w' l u) (fun x hx => CRep.v hx) (fun z es a cap h => CRep.s ((h.keep hI hw).mono fun _ _ q => q.2)) (fun z es a cap h => CRep.n ((h.keep hI hw).mono fun _ _ q => q.2)) (fun x hx => CRep.x hx) (fun k f cs p h => CRep.j ((h.keep hI hw).mono fun _ _ q => q.2)) h
theorem CRep.one {I : Still} {w : World} {l : D} {u : Value} (h : CRep I w l u) : u.oneCell' = true ∧ u.cells = #[u] ∧ cellsD l = [l]:=by
 rcases h.inv with ⟨x,rfl,rfl,h⟩ | ⟨z,es,a,cap,rfl,rfl,_⟩ | ⟨z,es,a,cap,rfl,rfl,_⟩ | ⟨rfl,hx⟩ | ⟨k,f,cs,p,rfl,rfl,_⟩
 ·revert h; cases u <;> simp [plainV,Value.oneCell',Value.cells,cellsD]
 ·simp [Value.oneCell',Value.cells,cellsD]
 ·simp [Value.oneCell',Value.cells,cellsD]
 ·clear h; revert hx; cases u <;> simp [Value.oneCell',Value.cells,cellsD]
 ·unfold wrapV; split <;> simp [Value.oneCell',Value.cells,cellsD]
def Row (I : Still) (w : World) (cs : List D) (us : List Value) : Prop:=cs.length = us.length ∧ ∀ (j : Nat) c u,cs[j]? = some c → us[j]? = some u → CRep I w c u
theorem Row.keep {I I' : Still} {w w' : World} {cs : List D} {us : List Value} (h : Row I w cs us) (hI : ∀ b j,I b j → I' b j) (hw : ∀ b j,I b j → w'.cell? ⟨b,j,none⟩ = w.cell? ⟨b,j,none⟩) : Row I' w' cs us :=
 ⟨h.1,fun j c u hc hu => (h.2 j c u hc hu).keep hI hw⟩
theorem Row.at {I : Still} {w : World} {cs : List D} {us : List Value} (h : Row I w cs us) {j : Nat} {c : D} (hc : cs[j]? = some c) : ∃ u,us[j]? = some u ∧ CRep I w c u:=by
 have hj : j < us.length:=by rw [← h.1]; exact (List.getElem?_eq_some_iff.1 hc).1
 exact ⟨us[j],List.getElem?_eq_getElem hj,h.2 j c _ hc (List.getElem?_eq_getElem hj)⟩
theorem Row.one {I : Still} {w : World} {cs : List D} {us : List Value} (h : Row I w cs us) : ∀ u ∈ us,u.oneCell' = true:=by
 intro u hu
 obtain ⟨j,hj,rfl⟩:=List.mem_iff_getElem.1 hu
 have hjc : j < cs.length:=by rw [h.1]; exact hj
 exact (h.2 j cs[j] us[j] (List.getElem?_eq_getElem hjc) (List.getElem?_eq_getElem hj)).one.1
theorem Row.take {I : Still} {w : World} {cs : List D} {us : List Value} (h : Row I w cs us) (n : Nat) : Row I w (cs.take n) (us.take n):=by
 refine ⟨by simp [h.1],fun j c u hc hu => ?_⟩
 rw [List.getElem?_take] at hc hu
 split at hc
 ·rename_i hj; rw [if_pos hj] at hu; exact h.2 j c u hc hu
 ·cases hc
theorem Row.drop {I : Still} {w : World} {cs : List D} {us : List Value} (h : Row I w cs us) (n : Nat) : Row I w (cs.drop n) (us.drop n):=by
 refine ⟨by simp [h.1],fun j c u hc hu => ?_⟩
 rw [List.getElem?_drop] at hc hu
 exact h.2 _ c u hc hu
theorem Row.app {I : Still} {w : World} {cs cs' : List D} {us us' : List Value} (h : Row I w cs us) (h' : Row I w cs' us') : Row I w (cs ++ cs') (us ++ us'):=by
 refine ⟨by simp [h.1,h'.1],fun j c u hc hu => ?_⟩
 by_cases hj : j < cs.length
 ·rw [List.getElem?_append_left hj] at hc
  rw [List.getElem?_append_left (by rw [← h.1]; exact hj)] at hu
  exact h.2 j c u hc hu
 ·rw [List.getElem?_append_right (by omega)] at hc
  rw [List.getElem?_append_right (by rw [← h.1]; omega),← h.1] at hu
  exact h'.2 _ c u hc hu
theorem Row.nil {I : Still} {w : World} : Row I w [] []:=⟨rfl,fun j c u hc => by simp at hc⟩
theorem Row.single {I : Still} {w : World} {c : D} {u : Value} (h : CRep I w c u) : Row I w [c] [u]:=by
 refine ⟨rfl,fun j c' u' hc hu => ?_⟩
 cases j with
 | zero => simp at hc hu; subst hc hu; exact h
 | succ n => simp at hc
def CVRep (I : Still) (w : World) (x : D) (u : Value) : Prop:=CRep I w x u ∨ ∃ cs us,x = aD cs ∧ u = .agg us.toArray ∧ Row I w cs us
theorem CVRep.keep {I I' : Still} {w w' : World} {x : D} {u : Value} (h : CVRep I w x u) (hI : ∀ b j,I b j → I' b j) (hw : ∀ b j,I b j → w'.cell? ⟨b,j,none⟩ = w.cell? ⟨b,j,none⟩) : CVRep I' w' x u:=by
 rcases h with h | ⟨cs,us,rfl,rfl,h⟩
 ·exact .inl (h.keep hI hw)
 ·exact .inr ⟨cs,us,rfl,rfl,h.keep hI hw⟩
theorem CVRep.row {I : Still} {w : World} {x : D} {u : Value} (h : CVRep I w x u) : Row I w (cellsD x) u.cells.toList:=by
 rcases h with h | ⟨cs,us,rfl,rfl,h⟩
 ·rw [h.one.2.1,h.one.2.2]; exact Row.single h
 ·simpa [Value.cells,cellsD] using h
theorem CVRep.agg {I : Still} {w : World} {cs : List D} {u : Value} (h : CVRep I w (aD cs) u) : ∃ us,u = .agg us.toArray ∧ Row I w cs us:=by
 rcases h with h | ⟨cs',us,h1,h2,h3⟩
 ·exact absurd h notC_a
 ·cases h1; exact ⟨us,h2,h3⟩
theorem CVRep.leaf {I : Still} {w : World} {x : D} {u : Value} (h : CVRep I w x u) (hx : ∀ cs,x ≠ aD cs) : CRep I w x u:=by
 rcases h with h | ⟨cs,us,h1,_⟩
 ·exact h
 ·exact absurd h1 (hx cs)
def Vals (I : Still) (w : World) (xs : List D) (us : List Value) : Prop:=xs.length = us.length ∧ ∀ (j : Nat) x u,xs[j]? = some x → us[j]? = some u → CVRep I w x u
theorem Vals.keep {I I' : Still} {w w' : World} {cs : List D} {us : List Value} (h : Vals I w cs us) (hI : ∀ b j,I b j → I' b j) (hw : ∀ b j,I b j → w'.cell? ⟨b,j,none⟩ = w.cell? ⟨b,j,none⟩) : Vals I' w' cs us :=
 ⟨h.1,fun j c u hc hu => (h.2 j c u hc hu).keep hI hw⟩
theorem Vals.nil {I : Still} {w : World} : Vals I w [] []:=⟨rfl,fun j c u hc => by simp at hc⟩
theorem Vals.cons {I : Still} {w : World} {x : D} {u : Value} {xs : List D} {us : List Value} (h : CVRep I w x u) (hs : Vals I w xs us) : Vals I w (x :: xs) (u :: us):=by
 refine ⟨by simp [hs.1],fun j c v hc hv => ?_⟩
 cases j with
 | zero => simp at hc hv; subst hc hv; exact h
 | succ n => exact hs.2 n c v (by simpa using hc) (by simpa using hv)
theorem Vals.at {I : Still} {w : World} {cs : List D} {us : List Value} (h : Vals I w cs us) {j : Nat} {c : D} (hc : cs[j]? = some c) : ∃ u,us[j]? = some u ∧ CVRep I w c u:=by
 have hj : j < us.length:=by rw [← h.1]; exact (List.getElem?_eq_some_iff.1 hc).1
 exact ⟨us[j],List.getElem?_eq_getElem hj,h.2 j c _ hc (List.getElem?_eq_getElem hj)⟩
def OSl (ρ : Nat → Option Nat) (b n : Nat) (u : Value) : Prop:=∃ g cap,(100000 ≤ b ∧ b < 200000) ∧ ρ b = some g ∧ u = .slice (some ⟨g,0,none⟩) n cap ∧ n ≤ cap ∧ cap ≤ maxLen
def LRep (I : Still) (ρ : Nat → Option Nat) (w : World) (l : D) (u : Value) : Prop:=CRep I w l u ∨ ∃ b n,l = oD b n ∧ OSl ρ b n u
def RowL (I : Still) (ρ : Nat → Option Nat) (w : World) (cs : List D) (us : List Value) : Prop:=cs.length = us.length ∧ ∀ (j : Nat) c u,cs[j]? = some c → us[j]? = some u → LRep I ρ w c u
theorem LRep.keep {I I' : Still} {ρ ρ' : Nat → Option Nat} {w w' : World} {l : D} {u : Value} (h : LRep I ρ w l u) (hI : ∀ b j,I b j → I' b j) (hρ : ∀ b g,100000 ≤ b ∧ b < 200000 → ρ b = some g → ρ' b = some g) (hw : ∀ b j,I b j → w'.cell? ⟨b,j,none⟩ = w.cell? ⟨b,j,none⟩) : LRep I' ρ' w' l u:=by
 rcases h with h | ⟨b,n,h1,g,cap,h2,h3,h4⟩
 ·exact .inl (h.keep hI hw)
 ·exact .inr ⟨b,n,h1,g,cap,h2,hρ b g h2 h3,h4⟩
theorem LRep.one {I : Still} {ρ : Nat → Option Nat} {w : World} {l : D} {u : Value} (h : LRep I ρ w l u) : u.oneCell' = true ∧ u.cells = #[u] ∧ cellsD l = [l]:=by
 rcases h with h | ⟨b,n,rfl,g,cap,_,_,rfl,_⟩
 ·exact h.one
 ·simp [Value.oneCell',Value.cells,cellsD]
theorem RowL.keep {I I' : Still} {ρ ρ' : Nat → Option Nat} {w w' : World} {cs : List D} {us : List Value} (h : RowL I ρ w cs us) (hI : ∀ b j,I b j → I' b j) (hρ : ∀ b g,100000 ≤ b ∧ b < 200000 → ρ b = some g → ρ' b = some g) (hw : ∀ b j,I b j → w'.cell? ⟨b,j,none⟩ = w.cell? ⟨b,j,none⟩) : RowL I' ρ' w' cs us :=
 ⟨h.1,fun j c u hc hu => (h.2 j c u hc hu).keep hI hρ hw⟩
theorem Row.L {I : Still} {ρ : Nat → Option Nat} {w : World} {cs : List D} {us : List Value} (h : Row I w cs us) : RowL I ρ w cs us:=⟨h.1,fun j c u hc hu => .inl (h.2 j c u hc hu)⟩
theorem RowL.at {I : Still} {ρ : Nat → Option Nat} {w : World} {cs : List D} {us : List Value} (h : RowL I ρ w cs us) {j : Nat} {c : D} (hc : cs[j]? = some c) : ∃ u,us[j]? = some u ∧ LRep I ρ w c u:=by
 have hj : j < us.length:=by rw [← h.1]; exact (List.getElem?_eq_some_iff.1 hc).1
 exact ⟨us[j],List.getElem?_eq_getElem hj,h.2 j c _ hc (List.getElem?_eq_getElem hj)⟩
theorem RowL.one {I : Still} {ρ : Nat → Option Nat} {w : World} {cs : List D} {us : List Value} (h : RowL I ρ w cs us) : ∀ u ∈ us,u.oneCell' = true:=by
 intro u hu
 obtain ⟨j,hj,rfl⟩:=List.mem_iff_getElem.1 hu
 have hjc : j < cs.length:=by rw [h.1]; exact hj
 exact (h.2 j cs[j] us[j] (List.getElem?_eq_getElem hjc) (List.getElem?_eq_getElem hj)).one.1
theorem RowL.take {I : Still} {ρ : Nat → Option Nat} {w : World} {cs : List D} {us : List Value} (h : RowL I ρ w cs us) (n : Nat) : RowL I ρ w (cs.take n) (us.take n):=by
 refine ⟨by simp [h.1],fun j c u hc hu => ?_⟩
 rw [List.getElem?_take] at hc hu
 split at hc
 ·rename_i hj; rw [if_pos hj] at hu; exact h.2 j c u hc hu
 ·cases hc
theorem RowL.drop {I : Still} {ρ : Nat → Option Nat} {w : World} {cs : List D} {us : List Value} (h : RowL I ρ w cs us) (n : Nat) : RowL I ρ w (cs.drop n) (us.drop n):=by
 refine ⟨by simp [h.1],fun j c u hc hu => ?_⟩
 rw [List.getElem?_drop] at hc hu
 exact h.2 _ c u hc hu
theorem RowL.app {I : Still} {ρ : Nat → Option Nat} {w : World} {cs cs' : List D} {us us' : List Value} (h : RowL I ρ w cs us) (h' : RowL I ρ w cs' us') : RowL I ρ w (cs ++ cs') (us ++ us'):=by
 refine ⟨by simp [h.1,h'.1],fun j c u hc hu => ?_⟩
 by_cases hj : j < cs.length
 ·rw [List.getElem?_append_left hj] at hc
  rw [List.getElem?_append_left (by rw [← h.1]; exact hj)] at hu
  exact h.2 j c u hc hu
 ·rw [List.getElem?_append_right (by omega)] at hc
  rw [List.getElem?_append_right (by rw [← h.1]; omega),← h.1] at hu
  exact h'.2 _ c u hc hu
theorem RowL.single {I : Still} {ρ : Nat → Option Nat} {w : World} {c : D} {u : Value} (h : LRep I ρ w c u) : RowL I ρ w [c] [u]:=by
 refine ⟨rfl,fun j c' u' hc hu => ?_⟩
 cases j with
 | zero => simp at hc hu; subst hc hu; exact h
 | succ n => simp at hc
def ORep (ρ : Nat → Option Nat) (x : D) (u : Value) : Prop :=
 (∃ b off g,x = pD b off ∧ b < 100000 ∧ ρ b = some g ∧ u = .pointer (some ⟨g,off,none⟩)) ∨ (∃ b n,x = oD b n ∧ OSl ρ b n u) ∨ (∃ b g,x = hD b ∧ 200000 ≤ b ∧ ρ b = some g ∧ u = .map (some g)) ∨
 (∃ b i z off g,x = qD b i z off ∧ (100000 ≤ b ∧ b < 200000) ∧ ρ b = some g ∧ u = .pointer (some ⟨g,i * z + off,none⟩)) ∨
 (∃ b lo z n g cap,x = rD b lo z n ∧ b < 200000 ∧ ρ b = some g ∧ u = .slice (some ⟨g,lo * z,none⟩) n cap) ∨
 ∃ b f g,x = fD b f ∧ b < 100000 ∧ ρ b = some g ∧ u = .func (.func f) #[] #[.pointer (some ⟨g,0,none⟩)]
def refD : D → Option Nat
 | .held (.inr (b,_)) => some b
 | .ptr (.held (.inr (b,_))) => some b
 | .ptr (.ptr (.held (.inr (b,_)))) => some b
 | .ptr (.ptr (.ptr (.held (.inr (b,_))))) => some b
 | .ptr (.slice _ [.held (.inr (b,_)),.held (.inr _)]) => some b
 | _ => none
theorem ORep.keep {ρ ρ' : Nat → Option Nat} {x : D} {u : Value} (h : ORep ρ x u) (hρ : ∀ b g,refD x = some b → ρ b = some g → ρ' b = some g) : ORep ρ' x u:=by
 rcases h with ⟨b,off,g,rfl,h1,h2,h3⟩ | ⟨b,n,rfl,g,cap,h1,h2,h3⟩ | ⟨b,g,rfl,h1,h2,h3⟩ | ⟨b,i,z,off,g,rfl,h1,h2,h3⟩ | ⟨b,lo,z,m,g,cap,rfl,h1,h2,h3⟩ | ⟨b,f,g,rfl,h1,h2,h3⟩
 ·exact .inl ⟨b,off,g,rfl,h1,hρ b g rfl h2,h3⟩
 ·exact .inr (.inl ⟨b,n,rfl,g,cap,h1,hρ b g rfl h2,h3⟩)
 ·exact .inr (.inr (.inl ⟨b,g,rfl,h1,hρ b g rfl h2,h3⟩))
 ·exact .inr (.inr (.inr (.inl ⟨b,i,z,off,g,rfl,h1,hρ b g rfl h2,h3⟩)))
 ·exact .inr (.inr (.inr (.inr (.inl ⟨b,lo,z,m,g,cap,rfl,h1,hρ b g rfl h2,h3⟩))))
 ·exact .inr (.inr (.inr (.inr (.inr ⟨b,f,g,rfl,h1,hρ b g rfl h2,h3⟩))))
def AVRep (I : Still) (ρ : Nat → Option Nat) (w : World) (x : D) (u : Value) : Prop :=
 CVRep I w x u ∨ (∃ xs us,x = tD xs ∧ u = .tuple us.toArray ∧ Vals I w xs us) ∨ ORep ρ x u ∨
 ∃ cs off b o,x = eD cs off ∧ u = .pointer (some ⟨b,o + off,none⟩) ∧ ∀ (j : Nat) c,cs[j]? = some c → ∃ u,w.cell? ⟨b,o + j,none⟩ = some u ∧ I b (o + j) ∧ CRep I w c u
theorem AVRep.keep {I I' : Still} {ρ ρ' : Nat → Option Nat} {w w' : World} {x : D} {u : Value} (h : AVRep I ρ w x u) (hI : ∀ b j,I b j → I' b j) (hρ : ∀ b g,refD x = some b → ρ b = some g → ρ' b = some g) (hw : ∀ b j,I b j → w'.cell? ⟨b,j,none⟩ = w.cell? ⟨b,j,none⟩) : AVRep I' ρ' w' x u:=by
 rcases h with h | ⟨xs,us,h1,h2,h⟩ | h | ⟨cs,off,b,o,h1,h2,h⟩
 ·exact .inl (h.keep hI hw)
 ·exact .inr (.inl ⟨xs,us,h1,h2,h.keep hI hw⟩)
 ·exact .inr (.inr (.inl (h.keep hρ)))
 ·refine .inr (.inr (.inr ⟨cs,off,b,o,h1,h2,fun j c hj => ?_⟩))
  obtain ⟨u,q1,q2,q3⟩:=h j c hj
  exact ⟨u,(hw _ _ q2).trans q1,hI _ _ q2,q3.keep hI hw⟩
theorem AVRep.p {I : Still} {ρ : Nat → Option Nat} {w : World} {b off g : Nat} (hb : b < 100000) (h : ρ b = some g) : AVRep I ρ w (pD b off) (.pointer (some ⟨g,off,none⟩)):=.inr (.inr (.inl (.inl ⟨b,off,g,rfl,hb,h,rfl⟩)))
theorem notCV_p {I : Still} {w : World} {b off : Nat} {u : Value} : ¬ CVRep I w (pD b off) u:=by
 rintro (h | ⟨cs,us,h1,_⟩)
 ·exact notC_p h
 ·cases h1
theorem notCV_ptr {I : Still} {w : World} {d : D} {u : Value} : ¬ CVRep I w (.ptr d) u:=by
 rintro (h | ⟨cs,us,h1,_⟩)
 ·exact notC_ptr h
 ·cases h1
theorem AVRep.invP {I : Still} {ρ : Nat → Option Nat} {w : World} {b off : Nat} {u : Value} (h : AVRep I ρ w (pD b off) u) : ∃ g,b < 100000 ∧ ρ b = some g ∧ u = .pointer (some ⟨g,off,none⟩):=by
 rcases h with h | ⟨xs,us,h1,h2,h⟩ | (⟨b,off,g,h1,h2,h3,h4⟩ | ⟨b,n,h1,_⟩ | ⟨b,g,h1,_⟩ | ⟨b,i,z,off,g,h1,_⟩ | ⟨b,lo,z,m,g,cap,h1,_⟩ | ⟨b,f,g,h1,_⟩) | ⟨cs,off,b,o,h1,h2,h⟩
 ·exact absurd h notCV_p
 ·cases h1
 ·cases h1; exact ⟨g,h2,h3,h4⟩
 all_goals cases h1
theorem AVRep.invO {I : Still} {ρ : Nat → Option Nat} {w : World} {b n : Nat} {u : Value} (h : AVRep I ρ w (oD b n) u) : OSl ρ b n u:=by
 rcases h with h | ⟨xs,us,h1,h2,h⟩ | (⟨b,off,g,h1,h2,h3,h4⟩ | ⟨b,n,h1,h2⟩ | ⟨b,g,h1,_⟩ | ⟨b,i,z,off,g,h1,_⟩ | ⟨b,lo,z,m,g,cap,h1,_⟩ | ⟨b,f,g,h1,_⟩) | ⟨cs,off,b,o,h1,h2,h⟩
 ·exact absurd h notCV_ptr
 ·cases h1
 ·cases h1
 ·cases h1; exact h2
 all_goals cases h1
theorem AVRep.invH {I : Still} {ρ : Nat → Option Nat} {w : World} {b : Nat} {u : Value} (h : AVRep I ρ w (hD b) u) : ∃ g,200000 ≤ b ∧ ρ b = some g ∧ u = .map (some g):=by
 rcases h with h | ⟨xs,us,h1,h2,h⟩ | (⟨b,off,g,h1,h2,h3,h4⟩ | ⟨b,n,h1,_⟩ | ⟨b,g,h1,h2⟩ | ⟨b,i,z,off,g,h1,_⟩ | ⟨b,lo,z,m,g,cap,h1,_⟩ | ⟨b,f,g,h1,_⟩) | ⟨cs,off,b,o,h1,h2,h⟩
 ·exact absurd h notCV_ptr
 ·cases h1
 ·cases h1
 ·cases h1
 ·cases h1; exact ⟨g,h2⟩
 all_goals cases h1
theorem AVRep.invQ {I : Still} {ρ : Nat → Option Nat} {w : World} {b i z off : Nat} {u : Value} (h : AVRep I ρ w (qD b i z off) u) : ∃ g,(100000 ≤ b ∧ b < 200000) ∧ ρ b = some g ∧ u = .pointer (some ⟨g,i * z + off,none⟩):=by
 rcases h with h | ⟨xs,us,h1,h2,h⟩ | (⟨b,off,g,h1,h2,h3,h4⟩ | ⟨b,n,h1,_⟩ | ⟨b,g,h1,h2⟩ | ⟨b,i,z,off,g,h1,h2⟩ | ⟨b,lo,z,m,g,cap,h1,_⟩ | ⟨b,f,g,h1,_⟩) | ⟨cs,off,b,o,h1,h2,h⟩
 ·exact absurd h notCV_ptr
 ·cases h1
 ·cases h1
 ·cases h1
 ·cases h1
 ·cases h1; exact ⟨g,h2⟩
 ·cases h1
 ·cases h1
 ·cases h1
theorem AVRep.invR {I : Still} {ρ : Nat → Option Nat} {w : World} {b lo z n : Nat} {u : Value} (h : AVRep I ρ w (rD b lo z n) u) : ∃ g cap,b < 200000 ∧ ρ b = some g ∧ u = .slice (some ⟨g,lo * z,none⟩) n cap:=by
 rcases h with h | ⟨xs,us,h1,h2,h⟩ | (⟨b,off,g,h1,h2,h3,h4⟩ | ⟨b,n,h1,_⟩ | ⟨b,g,h1,h2⟩ | ⟨b,i,z,off,g,h1,h2⟩ | ⟨b,lo,z,m,g,cap,h1,h2⟩ | ⟨b,f,g,h1,_⟩) | ⟨cs,off,b,o,h1,h2,h⟩
 ·exact absurd h notCV_ptr
 ·cases h1
 ·cases h1
 ·cases h1
 ·cases h1
 ·cases h1
 ·cases h1; exact ⟨g,cap,h2⟩
 ·cases h1
 ·cases h1
theorem AVRep.invF {I : Still} {ρ : Nat → Option Nat} {w : World} {b f : Nat} {u : Value} (h : AVRep I ρ w (fD b f) u) : ∃ g,b < 100000 ∧ ρ b = some g ∧ u = .func (.func f) #[] #[.pointer (some ⟨g,0,none⟩)]:=by
 rcases h with h | ⟨xs,us,h1,h2,h⟩ | (⟨b,off,g,h1,h2,h3,h4⟩ | ⟨b,n,h1,_⟩ | ⟨b,g,h1,h2⟩ | ⟨b,i,z,off,g,h1,h2⟩ | ⟨b,lo,z,m,g,cap,h1,h2⟩ | ⟨b,f,g,h1,h2⟩) | ⟨cs,off,b,o,h1,h2,h⟩
 ·exact absurd h notCV_ptr
 ·cases h1
 ·cases h1
 ·cases h1
 ·cases h1
 ·cases h1
 ·cases h1
 ·cases h1; exact ⟨g,h2⟩
 ·cases h1
theorem AVRep.invJ {I : Still} {ρ : Nat → Option Nat} {w : World} {s : String} {k f : Nat} {cs : List D} {u : Value} (h : AVRep I ρ w (.iface s (.slice cs [.held (.inr (k,f))])) u) : ∃ p,u = wrapV k f p ∧ PtrAt I w (CRep I w) cs p:=by
 rcases h with (h | ⟨cs',us,h1,_⟩) | ⟨xs,us,h1,h2,h⟩ | (⟨b,off,g,h1,h2,h3,h4⟩ | ⟨b,n,h1,_⟩ | ⟨b,g,h1,h2⟩ | ⟨b,i,z,off,g,h1,h2⟩ | ⟨b,lo,z,m,g,cap,h1,h2⟩ | ⟨b,f,g,h1,_⟩) | ⟨cs,off,b,o,h1,h2,h⟩
 ·rcases h.inv with ⟨y,h1,_⟩ | ⟨z',es',a,cap,h1,_⟩ | ⟨z',es',a,cap,h1,_⟩ | ⟨h1,_⟩ | ⟨k,f,cs,p,h1,h2,h3⟩
  ·cases h1
  ·cases h1
  ·cases h1
  ·cases h1
  ·cases h1; exact ⟨p,h2,h3⟩
 all_goals cases h1
theorem AVRep.invT {I : Still} {ρ : Nat → Option Nat} {w : World} {xs : List D} {u : Value} (h : AVRep I ρ w (tD xs) u) : ∃ us,u = .tuple us.toArray ∧ Vals I w xs us:=by
 rcases h with h | ⟨xs,us,h1,h2,h⟩ | (⟨b,off,g,h1,h2,h3,h4⟩ | ⟨b,n,h1,_⟩ | ⟨b,g,h1,h2⟩ | ⟨b,i,z,off,g,h1,h2⟩ | ⟨b,lo,z,m,g,cap,h1,_⟩ | ⟨b,f,g,h1,_⟩) | ⟨cs,off,b,o,h1,h2,h⟩
 ·exact absurd h notCV_ptr
 ·cases h1; exact ⟨us,h2,h⟩
 all_goals cases h1
theorem AVRep.invE {I : Still} {ρ : Nat → Option Nat} {w : World} {cs : List D} {off : Nat} {u : Value} (h : AVRep I ρ w (eD cs off) u) : ∃ b o,u = .pointer (some ⟨b,o + off,none⟩) ∧ ∀ (j : Nat) c,cs[j]? = some c → ∃ u,w.cell? ⟨b,o + j,none⟩ = some u ∧ I b (o + j) ∧ CRep I w c u:=by
 rcases h with h | ⟨xs,us,h1,h2,h⟩ | (⟨b,off,g,h1,h2,h3,h4⟩ | ⟨b,n,h1,_⟩ | ⟨b,g,h1,h2⟩ | ⟨b,i,z,off,g,h1,h2⟩ | ⟨b,lo,z,m,g,cap,h1,_⟩ | ⟨b,f,g,h1,_⟩) | ⟨cs,off,b,o,h1,h2,h⟩
 ·exact absurd h notCV_ptr
 ·cases h1
 ·cases h1
 ·cases h1
 ·cases h1
 ·cases h1
 ·cases h1
 ·cases h1
 ·cases h1; exact ⟨b,o,h2,h⟩
def ElemsAt (I : Still) (w : World) (z : Nat) (es : List D) (us : List Value) : Prop :=
 (∀ e ∈ es,(cellsD e).length = z) ∧ es.length * z ≤ us.length ∧ ∀ (i j : Nat) e l,es[i]? = some e → (cellsD e)[j]? = some l → ∃ u,us[i * z + j]? = some u ∧ CRep I w l u
def mget : List (Int × Value) → Int → Option Value
 | [],_ => none
 | (k,v) :: r,x => if k = x then some v else mget r x
def encE (p : Int × Value) : D:=aD [vD (.int .i64 p.1),vD p.2]
def MapIs (es : Array MapEntry) (clock : Nat) (l : List (Int × Value)) : Prop :=
 MapKept.Stamped es clock ∧ es.size ≤ l.length ∧ l.length ≤ maxLen ∧ (∀ x ∈ es.toList,∃ k,x.key = .int .i64 k ∧ (Lit.int .i64 k).wf = true) ∧ (∀ p ∈ l,plainV p.2 = true) ∧ ∀ k v,(∃ x ∈ es.toList,x.key = .int .i64 k ∧ x.val = v) ↔ mget l k = some v
def BoxAt (I : Still) (ρ : Nat → Option Nat) (w : World) (b g : Nat) (cs : List D) : Prop :=
 (b < 100000 ∧ ∃ us t,w.heap[g]? = some (.cells us.toArray t (0,0)) ∧ RowL I ρ w cs us) ∨
 ((100000 ≤ b ∧ b < 200000) ∧ ∃ z es us t,cs = [sD z es] ∧ w.heap[g]? = some (.cells us.toArray t (0,0)) ∧ ElemsAt I w z es us) ∨
 (200000 ≤ b ∧ ∃ l es clock,cs = l.map encE ∧ w.heap[g]? = some (.map es clock) ∧ MapIs es clock l) ∨
 ((100000 ≤ b ∧ b < 200000) ∧ ∃ es us t i b' n u,cs = [sD 1 es,pD i 0,oD b' n] ∧ w.heap[g]? = some (.cells us.toArray t (0,0)) ∧ ElemsAt I w 1 es us ∧ es[i]? = some xD ∧ us[i]? = some u ∧ OSl ρ b' n u)
theorem ElemsAt.keep {I I' : Still} {w w' : World} {z : Nat} {es : List D} {us : List Value} (h : ElemsAt I w z es us) (hI : ∀ b j,I b j → I' b j) (hw : ∀ b j,I b j → w'.cell? ⟨b,j,none⟩ = w.cell? ⟨b,j,none⟩) : ElemsAt I' w' z es us :=
 ⟨h.1,h.2.1,fun i j e l he hl => by obtain ⟨u,q1,q2⟩:=h.2.2 i j e l he hl; exact ⟨u,q1,q2.keep hI hw⟩⟩
theorem BoxAt.keep {I I' : Still} {ρ ρ' : Nat → Option Nat} {w w' : World} {b g : Nat} {cs : List D} (h : BoxAt I ρ w b g cs) (hI : ∀ b j,I b j → I' b j) (hρ : ∀ b g,100000 ≤ b ∧ b < 200000 → ρ b = some g → ρ' b = some g) (hw : ∀ b j,I b j → w'.cell? ⟨b,j,none⟩ = w.cell? ⟨b,j,none⟩)
  (hb : w'.heap[g]? = w.heap[g]?) : BoxAt I' ρ' w' b g cs:=by
 rcases h with ⟨h1,us,t,h2,h3⟩ | ⟨h1,z,es,us,t,h2,h3,h4⟩ | ⟨h1,l,es,clock,h2,h3,h4⟩ | ⟨h1,es,us,t,i,b',n,u,h2,h3,h4,h5,h6,gg,cap,h7,h8,h9⟩
 ·exact .inl ⟨h1,us,t,hb.trans h2,h3.keep hI hρ hw⟩
 ·exact .inr (.inl ⟨h1,z,es,us,t,h2,hb.trans h3,h4.keep hI hw⟩)
 ·exact .inr (.inr (.inl ⟨h1,l,es,clock,h2,hb.trans h3,h4⟩))
 ·exact .inr (.inr (.inr ⟨h1,es,us,t,i,b',n,u,h2,hb.trans h3,h4.keep hI hw,h5,h6,gg,cap,h7,hρ b' gg h7 h8,h9⟩))
theorem BoxAt.lt {I : Still} {ρ : Nat → Option Nat} {w : World} {b g : Nat} {cs : List D} (h : BoxAt I ρ w b g cs) : g < w.heap.size:=by
 rcases h with ⟨h1,us,t,h2,h3⟩ | ⟨h1,z,es,us,t,h2,h3,h4⟩ | ⟨h1,l,es,clock,h2,h3,h4⟩ | ⟨h1,es,us,t,i,b',n,u,h2,h3,h4⟩
 ·exact (Array.getElem?_eq_some_iff.1 h2).1
 ·exact (Array.getElem?_eq_some_iff.1 h3).1
 ·exact (Array.getElem?_eq_some_iff.1 h3).1
 ·exact (Array.getElem?_eq_some_iff.1 h3).1
theorem BoxAt.cells {I : Still} {ρ : Nat → Option Nat} {w : World} {b g : Nat} {cs : List D} (h : BoxAt I ρ w b g cs) (hb : b < 100000) : ∃ us t,w.heap[g]? = some (.cells us.toArray t (0,0)) ∧ RowL I ρ w cs us:=by
 rcases h with ⟨h1,h2⟩ | ⟨h1,_⟩ | ⟨h1,_⟩ | ⟨h1,_⟩
 ·exact h2
 ·omega
 ·omega
 ·omega
theorem BoxAt.row {I : Still} {ρ : Nat → Option Nat} {w : World} {b g z0 : Nat} {es0 : List D} (h : BoxAt I ρ w b g [sD z0 es0]) (hb : 100000 ≤ b ∧ b < 200000) : ∃ z es us t,[sD z0 es0] = [sD z es] ∧ w.heap[g]? = some (.cells us.toArray t (0,0)) ∧ ElemsAt I w z es us:=by
 rcases h with ⟨h1,_⟩ | ⟨h1,h2⟩ | ⟨h1,_⟩ | ⟨h1,es,us,t,i,b',n,u,h2,_⟩
 ·omega
 ·exact h2
 ·omega
 ·cases h2
theorem BoxAt.pair {I : Still} {ρ : Nat → Option Nat} {w : World} {b g m b0 n0 : Nat} {es0 : List D} (h : BoxAt I ρ w b g [sD 1 es0,pD m 0,oD b0 n0]) (hb : 100000 ≤ b ∧ b < 200000) : ∃ us t u,w.heap[g]? = some (.cells us.toArray t (0,0)) ∧ ElemsAt I w 1 es0 us ∧ es0[m]? = some xD ∧ us[m]? = some u ∧ OSl ρ b0 n0 u:=by
 rcases h with ⟨h1,_⟩ | ⟨h1,z,es,us,t,h2,_⟩ | ⟨h1,_⟩ | ⟨h1,es,us,t,i,b',n,u,h2,h3⟩
 ·omega
 ·cases h2
 ·omega
 ·cases h2
  exact ⟨us,t,u,h3⟩
theorem BoxAt.map {I : Still} {ρ : Nat → Option Nat} {w : World} {b g : Nat} {cs : List D} (h : BoxAt I ρ w b g cs) (hb : 200000 ≤ b) : ∃ l es clock,cs = l.map encE ∧ w.heap[g]? = some (.map es clock) ∧ MapIs es clock l:=by
 rcases h with ⟨h1,_⟩ | ⟨h1,_⟩ | ⟨h1,h2⟩ | ⟨h1,_⟩
 ·omega
 ·omega
 ·exact h2
 ·omega
structure FS where
 tm : Nat → Option D
 bx : Nat → Option (List D)
 fl : Nat → Option Nat → Option (Nat × Nat × Option (List D))
def At (ρ : Nat → Option Nat) (tmps : Array Value) (w : World) (s : Nat) (o : Option Nat) : Option Value :=
 match o with
 | none => tmps[s]?
 | some off => (ρ s).bind fun g => w.cell? ⟨g,off,none⟩
abbrev Pay:=Nat × Option (List D)
def Own (I : Still) (ρ : Nat → Option Nat) (L : Nat → Prop) (w : World) (e : Nat) (z : Pay) (u : Value) : Prop :=
 ∃ n xs,w.ownsRow 0 e z.1 u n xs ∧ (∀ g,u.ownBlock = some g → ¬ L g ∧ (∀ j,(z.2 = none → n * z.1 ≤ j) → ¬ I g j) ∧ ∀ b,ρ b ≠ some g) ∧ ∀ es,z.2 = some es → n = es.length ∧ ElemsAt I w z.1 es xs
structure Kept (L : Nat → Prop) (w w' : World) : Prop where
 os : w'.os = w.os
 tape : w'.tape = w.tape
 output : w'.output = w.output
 size : w.heap.size ≤ w'.heap.size
 block : ∀ k,L k → w'.heap[k]? = w.heap[k]?
theorem Kept.refl (L : Nat → Prop) (w : World) : Kept L w w:=⟨rfl,rfl,rfl,Nat.le_refl _,fun _ _ => rfl⟩
theorem Kept.trans {L : Nat → Prop} {a b c : World} (h : Kept L a b) (k : Kept L b c) : Kept L a c :=
 ⟨k.os.trans h.os,k.tape.trans h.tape,k.output.trans h.output,Nat.le_trans h.size k.size,fun i hi => (k.block i hi).trans (h.block i hi)⟩
theorem below_kept {L : Nat → Prop} {B : Nat} {w w' : World} (h : Below B w w') (hL : ∀ k,L k → k < B) : Kept L w w':=⟨h.os,h.tape,h.output,h.size,fun k hk => h.block k (hL k hk)⟩
theorem Kept.below {B : Nat} {w w' : World} (h : Kept (fun b => b < B) w w') : Below B w w':=⟨h.os,h.tape,h.output,h.size,h.block⟩
structure RelI (base : Nat → Prop) (w0 : World) (I0 : Still) (N : Nat) (I : Still) (ρ : Nat → Option Nat) (st : FS) (a : Act) (w : World) : Prop where
 defers : a.defers = []
 size : a.tmps.size = N
 tm : ∀ s v,st.tm s = some v → ∃ u,a.tmps[s]? = some u ∧ AVRep I ρ w v u
 cap : N ≤ 100000
 flc : ∀ b off x,st.fl b (some off) = some x → b < 100000
 bx : ∀ b cs,st.bx b = some cs → ∃ g,ρ b = some g ∧ ¬ base g ∧ BoxAt I ρ w b g cs ∧ ∀ j,¬ I g j
 inj : ∀ b b' g,ρ b = some g → ρ b' = some g → b = b'
 nob : ∀ b,st.bx b = none → ρ b = none
 fl : ∀ s o e z,st.fl s o = some (e,z) → ∃ u,At ρ a.tmps w s o = some u ∧ Own I ρ base w e z u
 apart : ∀ s o s' o' x x' u u' g,st.fl s o = some x → st.fl s' o' = some x' → At ρ a.tmps w s o = some u → At ρ a.tmps w s' o' = some u' → u.ownBlock = some g → u'.ownBlock = some g → s = s' ∧ o = o'
 lt : ∀ b j,I b j → b < w.heap.size
 sub : ∀ b j,I b j → I0 b j ∨ ¬ base b
 below : Kept base w0 w
 room : ∀ b,base b → b < w.heap.size
 mon : ∀ b j,I0 b j → I b j ∧ w.cell? ⟨b,j,none⟩ = w0.cell? ⟨b,j,none⟩
def Rel (base : Nat → Prop) (w0 : World) (I0 : Still) (N : Nat) (st : FS) (a : Act) (w : World) : Prop:=∃ I ρ,RelI base w0 I0 N I ρ st a w
end Go.Proofs.YtgaofjiidedcbacGreat.ab
