import Derived.Test.YtgaofjiidedcbadM10
set_option linter.unusedVariables false
set_option linter.unusedSimpArgs false
namespace Go.Proofs.Ytgaofjiidedcbad.ab
open Go Go.RowKit
abbrev Ins:=St → List D → Option (Ev × Option (Nat × List D × List D))
section
variable (d : Nat)
def iMov (x : Operand) (tr : Bool) (st : St) (_ : List D) : Option (Ev × Option (Nat × List D × List D)):=match rd st x with
 | some v => some (movEv st d x tr v,none)
 | none => none
def iPick (c x y : Operand) (st : St) (_ : List D) : Option (Ev × Option (Nat × List D × List D)):=match rd st c with
 | some (.held (.inl (.bool q))) => match rd st (if q = true then x else y) with
  | some v => some (vEv d (rds c (vD (.bool q)) ++ rds (if q = true then x else y) v) v,none)
  | none => none
 | _ => none
def iBin (op : BinOp) (x y : Operand) (st : St) (_ : List D) : Option (Ev × Option (Nat × List D × List D)):=match rd st x,rd st y with
 | some (.held (.inl a)),some (.held (.inl b)) => match lbin op a b with
  | some r => some (vEv d (rds x (vD a) ++ rds y (vD b)) (vD r),none)
  | none => none
 | _,_ => none
def iBinB (eq : Bool) (x y : Operand) (st : St) (_ : List D) : Option (Ev × Option (Nat × List D × List D)):=match rd st x,rd st y with
 | some (.held (.inl (.bool a))),some (.held (.inl (.bool b))) => some (vEv d (rds x (vD (.bool a)) ++ rds y (vD (.bool b))) (vD (.bool ((a == b) == eq))),none)
 | _,_ => none
def iEqA (eq : Bool) (x y : Operand) (st : St) (_ : List D) : Option (Ev × Option (Nat × List D × List D)):=match rd st x,rd st y with
 | some (.agg cs),some (.agg ds) => match ints3 cs,ints3 ds with
  | some (a,b,c),some (a',b',c') => some (vEv d (rds x (aD cs) ++ rds y (aD ds)) (vD (.bool ((a == a' && (b == b' && c == c')) == eq))),none)
  | _,_ => none
 | _,_ => none
def iNot (x : Operand) (st : St) (_ : List D) : Option (Ev × Option (Nat × List D × List D)):=match rd st x with
 | some (.held (.inl (.bool a))) => some (vEv d (rds x (vD (.bool a))) (vD (.bool (!a))),none)
 | _ => none
def iCvi (k : IntKind) (x : Operand) (st : St) (_ : List D) : Option (Ev × Option (Nat × List D × List D)):=match rd st x with
 | some (.held (.inl (.int k' n))) => some (vEv d (rds x (vD (.int k' n))) (vD (.int k (k.wrap n))),none)
 | _ => none
def iStr (x : Operand) (st : St) (_ : List D) : Option (Ev × Option (Nat × List D × List D)):=match rd st x with
 | some l => match asS 1 l with
  | some es => match bytesOf es with
   | some bs => some (vEv d (rds x l) (vD (.string ⟨bs.toArray⟩)),none)
   | none => none
  | none => none
 | none => none
def iFld (off n : Nat) (ag : Bool) (x : Operand) (st : St) (_ : List D) : Option (Ev × Option (Nat × List D × List D)):=match rd st x with
 | some (.agg cs) => match sub n ag off cs with
  | some r => some (vEv d (rds x (aD cs)) r,none)
  | none => none
 | _ => none
def iFad (off : Nat) (x : Operand) (st : St) (_ : List D) : Option (Ev × Option (Nat × List D × List D)):=match rd st x with
 | some v => match moveA off v with
  | some v' => some (vEv d (rds x v) v',none)
  | none => none
 | none => none
def iIaA (len z : Nat) (x i : Operand) (st : St) (_ : List D) : Option (Ev × Option (Nat × List D × List D)):=match rd st x,rd st i with
 | some v,some (.held (.inl (.int k n))) => if 0 ≤ n ∧ n < len then (match moveA (n.toNat * z) v with
  | some v' => some (vEv d (rds x v ++ rds i (vD (.int k n))) v',none)
  | none => none) else none
 | _,_ => none
def iIaS (z : Nat) (x i : Operand) (st : St) (_ : List D) : Option (Ev × Option (Nat × List D × List D)):=match rd st x,rd st i with
 | some (.ptr (.held (.inr (b,m)))),some (.held (.inl (.int k n))) => if 0 ≤ n ∧ n < m then some (vEv d (rds x (oD b m) ++ rds i (vD (.int k n))) (qD b n.toNat z 0),none) else none
 | some (.ptr (.slice [.nil] [.held (.inr (b,lo)),.held (.inr (z',m))])),some (.held (.inl (.int k n))) => if (z' = 1 ∧ z = 1 ∧ b < 100000) ∧ 0 ≤ n ∧ n < m then some (vEv d (rds x (rD b lo 1 m) ++ rds i (vD (.int k n))) (pD b (lo + n.toNat)),none) else none
 | some l,some (.held (.inl (.int k n))) => match asS z l with
  | some es => if 0 ≤ n then (match es[n.toNat]? with
   | some c => some (vEv d (rds x l ++ rds i (vD (.int k n))) (eD (cellsD c) 0),none)
   | none => none) else none
  | none => none
 | _,_ => none
def iExt (x : Operand) (k : Nat) (st : St) (_ : List D) : Option (Ev × Option (Nat × List D × List D)):=match rd st x with
 | some (.ptr (.agg xs)) => match xs[k]? with
  | some c => some (vEv d (rds x (tD xs)) c,none)
  | none => none
 | _ => none
def iLen (s : Bool) (x : Operand) (st : St) (_ : List D) : Option (Ev × Option (Nat × List D × List D)):=match rd st x with
 | some l => if strL l = s then (match lenL l with
  | some n => some (vEv d (rds x l) (vD (.int .i64 n)),none)
  | none => none) else none
 | none => none
def iSlc (z : Nat) (x : Operand) (lo hi : Option Operand) (st : St) (_ : List D) : Option (Ev × Option (Nat × List D × List D)):=match rd st x with
 | some (.ptr (.held (.inr (b,n)))) => match lo,hi with
  | some y,none => match rd st y with
   | some (.held (.inl (.int k m))) => if 0 ≤ m ∧ m < n then some (vEv d (rds x (oD b n) ++ rds y (vD (.int k m))) (rD b m.toNat z (n - m.toNat)),none) else none
   | _ => none
  | _,_ => none
 | some l => match asS z l with
  | some es => match bnd st lo 0,bnd st hi es.length with
   | some (m,r1),some (n,r2) => if 0 ≤ m ∧ m ≤ n ∧ n ≤ es.length then some (vEv d (rds x l ++ (r1 ++ r2)) (sD z ((es.take n.toNat).drop m.toNat)),none) else none
   | _,_ => none
  | none => none
 | none => none
def iBld (zs : List D) (ps : List (Nat × Nat)) (xs : List Operand) (st : St) (_ : List D) : Option (Ev × Option (Nat × List D × List D)):=match rdC st xs with
 | some cs => match fillA zs ps cs with
  | some rs => some (vEv d (rdsC xs cs) (aD rs),none)
  | none => none
 | none => none
def iLoad (n : Nat) (ag : Bool) (x : Operand) (tr : Bool) (st : St) (_ : List D) : Option (Ev × Option (Nat × List D × List D)):=match rd st x with
 | some (.ptr (.slice cs [.held (.inr (off,0))])) => match sub n ag off cs with
  | some r => some (vEv d (rds x (eD cs off)) r,none)
  | none => none
 | some (.held (.inr (b,off))) => match look st.bx b with
  | some cs => match sub n ag off cs with
   | some r => if clR r = true then some (loadEv st d x b off cs tr r,none) else none
   | none => none
  | none => none
 | some (.ptr (.slice [] [.held (.inr (b,i)),.held (.inr (z,off))])) => match look st.bx b with
  | some [.slice es [.held (.inr (z',0))]] => if z' = z then (match es[i]? with
   | some e => match sub n ag off (cellsD e) with
    | some r => some (bEv d (rds x (qD b i z off)) [(b,[sD z es])] r,none)
    | none => none
   | none => none) else none
  | some [.slice es [.held (.inr (1,0))],.held (.inr (k,0)),.ptr (.held (.inr (b',m)))] => if (z = 1 ∧ off = 0 ∧ n = 1 ∧ ag = false) ∧ i = k then some (bEv d (rds x (qD b i 1 0)) [(b,[sD 1 es,pD i 0,oD b' m])] (oD b' m),none) else none
  | _ => none
 | _ => none
def iBts (x : Operand) (st : St) (_ : List D) : Option (Ev × Option (Nat × List D × List D)):=match rd st x with
 | some (.held (.inl (.string b))) => if b.size ≤ 140737488355328 then some (vEv d (rds x (vD (.string b))) (sD 1 (b.data.toList.map encB)),none) else none
 | _ => none
def iCst (s : Nat) (st : St) (_ : List D) : Option (Ev × Option (Nat × List D × List D)):=match rd st (.tmp s) with
 | some l => match asS 1 l,lookF st.fl (s,none) with
  | some es,some f => if 0 < es.length then some (cstEv d s l f es,none) else none
  | _,_ => none
 | none => none
def iNil (eq : Bool) (x : Operand) (st : St) (_ : List D) : Option (Ev × Option (Nat × List D × List D)):=match rd st x with
 | some l => match nilL l with
  | some q => some (vEv d (rds x l) (vD (.bool (q == eq))),none)
  | none => none
 | none => none
def iMkM (st : St) (_ : List D) : Option (Ev × Option (Nat × List D × List D)):=match look st.bx (200000 + d) with
 | none => some (mkmEv d,none)
 | some _ => none
def iLku (z : Value) (x y : Operand) (st : St) (_ : List D) : Option (Ev × Option (Nat × List D × List D)):=match rd st x,rd st y with
 | some (.ptr (.ptr (.held (.inr (b,0))))),some (.held (.inl (.int .i64 n))) => match look st.bx b with
  | some cs => if inR .i64 n = true then some (bEv d (rds x (hD b) ++ rds y (vD (.int .i64 n))) [(b,cs)] (vD ((mlk cs n).getD z)),none) else none
  | none => none
 | _,_ => none
def iMkS (z bytes : Nat) (e : D) (x y : Operand) (st : St) (_ : List D) : Option (Ev × Option (Nat × List D × List D)):=match rd st x,rd st y with
 | some (.held (.inl (.int k n))),some (.held (.inl (.int k' c))) => match look st.bx (100000 + d) with
  | none => if (0 ≤ n ∧ n ≤ c) ∧ c ≤ 1000000000 then some (mksEv d z n.toNat (rds x (vD (.int k n)) ++ rds y (vD (.int k' c))) e,none) else none
  | some _ => none
 | _,_ => none
def iMkB (e : D) (x y : Operand) (st : St) (_ : List D) : Option (Ev × Option (Nat × List D × List D)):=match rd st x,rd st y with
 | some (.held (.inl (.int k n))),some (.held (.inl (.int k' c))) => match look st.bx d with
  | none => if (0 ≤ n ∧ n ≤ 1000000) ∧ c = n then some ({ rs:=rds x (vD (.int k n)) ++ rds y (vD (.int k' n)),nb:=[d],ws:=some (d,some (rD d 0 1 n.toNat)),wb:=some (d,List.replicate n.toNat e),cf:=[(d,none)] },none) else none
  | some _ => none
 | _,_ => none
def iApr (e z bytes : Nat) (s : Nat) (y : Operand) (st : St) (_ : List D) : Option (Ev × Option (Nat × List D × List D)):=match rd st (.tmp s),rd st y with
 | some l,some l' => match asS z l,asS z l' with
  | some [],some fs => match lookF st.fl (s,none),look st.bx (100000 + d) with
   | some (e',z',none),none => if (e' = e ∧ z' = z) ∧ 0 < fs.length ∧ fs.length * bytes ≤ 140737488355328 then some (aprEv d s z (rds (.tmp s) l ++ rds y l') (some (e,z,none)) fs,none) else none
   | _,_ => none
  | _,_ => none
 | _,_ => none
def iBoxF (x : Operand) (st : St) (_ : List D) : Option (Ev × Option (Nat × List D × List D)):=match rd st x with
 | some c => if isC c = true then some (vEv d (rds x c) (jD 0 0 (cellsD c)),none) else none
 | none => none
def iAppH (e z bytes : Nat) (x y : Operand) (st : St) (_ : List D) : Option (Ev × Option (Nat × List D × List D)):=match rd st x,rd st y with
 | some (.held (.inl (.slice none 0 0))),some l' => match asS z l' with
  | some fs => if fs.length * bytes ≤ 140737488355328 then some (app0HEv d (rds x (vD (.slice none 0 0)) ++ rds y l') e z fs,none) else none
  | none => none
 | _,_ => none
def iMkf (f s : Nat) (st : St) (_ : List D) : Option (Ev × Option (Nat × List D × List D)):=match look st.tm s with
 | some (.held (.inr (b,0))) => some (vEv d [(s,pD b 0)] (fD b f),none)
 | some (.iface q (.slice cs [.held (.inr (0,g))])) => some (vEv d [(s,.iface q (.slice cs [.held (.inr (0,g))]))] (jD 1 f cs),none)
 | _ => none
def iBox (x : Operand) (st : St) (_ : List D) : Option (Ev × Option (Nat × List D × List D)):=match rd st x,look st.bx d with
 | some c,none => if isC c = true then some ({ rs:=rds x c,nb:=[d],ws:=some (d,some (pD d 0)),wb:=some (d,cellsD c),cf:=[(d,none)] },none) else none
 | _,_ => none
def iAlo (zs : List D) (st : St) (_ : List D) : Option (Ev × Option (Nat × List D × List D)):=match look st.bx d with
 | none => some ({ rs:=[],nb:=[d],ws:=some (d,some (pD d 0)),wb:=some (d,zs),cf:=[(d,none)] },none)
 | some _ => none
def iRow (e z : Nat) (xs : List Operand) (st : St) (_ : List D) : Option (Ev × Option (Nat × List D × List D)):=match rdC st xs with
 | some cs => if cs.all (fun c => (cellsD c).length == z) = true then some ({ rs:=rdsC xs cs,ws:=some (d,some (sD z cs)),cf:=[(d,none)],sf:=some ((d,none),(e,z,none)) },none) else none
 | none => none
def iApp (e z bytes : Nat) (x y : Operand) (st : St) (_ : List D) : Option (Ev × Option (Nat × List D × List D)):=match rd st x,rd st y with
 | some (.held (.inl (.slice none 0 0))),some l' => match asS z l' with
  | some fs => if fs.length * bytes ≤ 140737488355328 then some (app0Ev d (rds x (vD (.slice none 0 0)) ++ rds y l') e z fs,none) else none
  | none => none
 | some l,some l' => match x with
  | .tmp s => match lookF st.fl (s,none) with
   | some (e',z',none) => match asS z l,asS z l' with
    | some es,some fs => if (s ≠ d ∧ e' = e ∧ z' = z) ∧ (es.length + fs.length) * bytes ≤ 140737488355328 then some (appEv d s (rds (.tmp s) l ++ rds y l') e z (es ++ fs),none) else none
    | _,_ => none
   | some (e',z',some es) => match asS z l' with
    | some fs => if (s ≠ d ∧ e' = e ∧ z' = z) ∧ (es.length + fs.length) * bytes ≤ 140737488355328 then some (apHEv d s (rds (.tmp s) l ++ rds y l') e z es fs,none) else none
    | none => none
   | none => none
  | _ => none
 | _,_ => none
def iMm (mx : Bool) (x y : Operand) (st : St) (_ : List D) : Option (Ev × Option (Nat × List D × List D)):=match rd st x,rd st y with
 | some (.held (.inl (.int k a))),some (.held (.inl (.int k' b))) => some (vEv d (rds x (vD (.int k a)) ++ rds y (vD (.int k' b))) (vD (.int k (mmI mx a b))),none)
 | _,_ => none
def iNck (x : Operand) (st : St) (_ : List D) : Option (Ev × Option (Nat × List D × List D)):=match rd st x with
 | some (.held (.inr (b,off))) => some (vEv d (rds x (pD b off)) (pD b off),none)
 | _ => none
def iXor (x y : Operand) (st : St) (_ : List D) : Option (Ev × Option (Nat × List D × List D)):=match rd st x,rd st y with
 | some (.held (.inl (.int .u8 a))),some (.held (.inl (.int .u8 b))) => if inR .u8 a = true ∧ inR .u8 b = true then some (vEv d (rds x (vD (.int .u8 a)) ++ rds y (vD (.int .u8 b))) (vD (.int .u8 ((a.toNat ^^^ b.toNat : Nat) : Int))),none) else none
 | _,_ => none
def iCallP (f : Nat) (xs : List Operand) (st : St) (r : List D) : Option (Ev × Option (Nat × List D × List D)):=match xs with
 | x :: ys => match rd st x,rdC st ys with
  | some (.held (.inr (b,off))),some cs => match kindR r with
   | some (.inr (.inr (.inr (_,off')))) => some (vEv d (rds x (pD b off) ++ rdsC ys cs) (pD b off'),some (f,cs,[mP off off']))
   | _ => none
  | _,_ => none
 | [] => none
def iCall (f : Nat) (xs : List Operand) (st : St) (r : List D) : Option (Ev × Option (Nat × List D × List D)):=match rdC st xs with
 | some cs => match kindR r with
  | none => some (vEv d (rdsC xs cs) (res r),some (f,cs,r))
  | some (.inl (r,e,z,c)) => some (outEv d (rdsC xs cs) r e z c,some (f,cs,[mO r e z c]))
  | some (.inr (.inr _)) => none
  | some (.inr (.inl ((i,_,_,_),r))) => match xs[i]? with
   | some (.tmp s) => match lookF st.fl (s,none) with
    | some (e,z,c) => if s ≠ d then some (innEv d s (rdsC xs cs) r e z (ofC c),some (f,cs,mI i e z (ofC c) :: r)) else none
    | none => none
   | _ => none
 | none => none
def iCallL (f : Nat) (xs : List Operand) (st : St) (r : List D) : Option (Ev × Option (Nat × List D × List D)):=match kindL r with
 | some es' => match xs with
  | x :: ys => match rd st x,rdC st ys with
   | some (.ptr (.held (.inr (b,n)))),some cs => match look st.bx b with
    | some [.slice es [.held (.inr (z,0))]] => if n = es.length ∧ 100000 ≤ b ∧ b < 200000 then some (callUEv d (rds x (oD b n) ++ rdsC ys cs) b z es es',some (f,cs,[mU z es es'])) else none
    | _ => none
   | _,_ => none
  | [] => none
 | none => match rdLs st xs with
  | some (cs,rs,rb) => match kindR r with
   | none => if plainR r = true then some (bEv d rs rb (res r),some (f,cs,r)) else none
   | _ => none
  | none => none
def iCallV (P : Program) (s : Nat) (xs : List Operand) (st : St) (r : List D) : Option (Ev × Option (Nat × List D × List D)):=match look st.tm s,rdC st xs with
 | some k,some cs => match funOf k,kindR r with
  | some (f,es),none => if callableB P f = true then some (vEv d ((s,k) :: rdsC xs cs) (res r),some (f,cs ++ es,r)) else none
  | _,_ => none
 | _,_ => none
end
def iClr (z : Nat) (x : Operand) (st : St) (_ : List D) : Option (Ev × Option (Nat × List D × List D)):=match rd st x with
 | some (.ptr (.slice [.nil] [.held (.inr (b,lo)),.held (.inr (z',n))])) => match look st.bx b with
  | some [.slice es [.held (.inr (z'',0))]] => if (z' = z ∧ z'' = z ∧ 100000 ≤ b) ∧ lo + n = es.length ∧ 0 < n then some (updEv (rds x (rD b lo z n)) b [sD z es] [sD z (es.take lo ++ List.replicate n (aD (List.replicate z xD)))],none) else none
  | _ => none
 | _ => none
def iStor (n : Nat) (x y : Operand) (st : St) (_ : List D) : Option (Ev × Option (Nat × List D × List D)):=match rd st x,rd st y with
 | some (.held (.inr (b,off))),some c => match look st.bx b with
  | some cs => if isCO c = true ∧ (cellsD c).length = n ∧ off + n ≤ cs.length then some (storEv st x y b off cs c,none) else none
  | none => none
 | some (.ptr (.slice [] [.held (.inr (b,i)),.held (.inr (z,off))])),some c => match look st.bx b with
  | some [.slice es [.held (.inr (z',0))]] => if z' = z ∧ 100000 ≤ b then (match es[i]? with
   | some e => if isC c = true ∧ (cellsD c).length = n ∧ off + n ≤ z then some (updEv (rds x (qD b i z off) ++ rds y c) b [sD z es] [sD z (es.set i (setE z e off c))],none) else (match c with
    | .ptr (.held (.inr (b',m))) => if z = 1 ∧ off = 0 ∧ n = 1 then some (updEv (rds x (qD b i 1 0) ++ rds y (oD b' m)) b [sD 1 es] [sD 1 (es.set i xD),pD i 0,oD b' m],none) else none
    | _ => none)
   | none => none) else none
  | _ => none
 | _,_ => none
def iUpd (x y v : Operand) (st : St) (_ : List D) : Option (Ev × Option (Nat × List D × List D)):=match rd st x,rd st y,rd st v with
 | some (.ptr (.ptr (.held (.inr (b,0))))),some (.held (.inl (.int .i64 n))),some (.held (.inl c)) => match look st.bx b with
  | some cs => if 200000 ≤ b ∧ inR .i64 n = true ∧ cs.length < 9223372036854775807 then some (updEv (rds x (hD b) ++ (rds y (vD (.int .i64 n)) ++ rds v (vD c))) b cs (aD [vD (.int .i64 n),vD c] :: cs),none) else none
  | none => none
 | _,_,_ => none
def InsOk (P : Program) (o : Oper) (i : Ins) : Prop:=∀ st r ev c,i st r = some (ev,c) → (∀ f cs ro,c = some (f,cs,ro) → ∃ cs',ValsLe cs cs' ∧ TellG P f cs' ro) → ev.ok st.F ∧ Sound P o ev
section
variable {P : Program} {o : Oper} {d : Nat}
theorem ins_mov {x : Operand} {tr : Bool} (ho : o.op = .move x ∨ o.op = .assign x) (hd : o.dst = some d) : InsOk P o (iMov d x tr):=by
 intro st r ev c h _
 unfold iMov at h
 split at h
 ·rename_i v h1; cases h; exact ok_mov ho hd h1
 ·cases h
theorem ins_pick {q x y : Operand} (ho : o.op = .pick q x y) (hd : o.dst = some d) : InsOk P o (iPick d q x y):=by
 intro st r ev c h _
 unfold iPick at h
 split at h
 ·rename_i b h1
  split at h
  ·rename_i v h2; cases h; exact ok_pick ho hd h1 h2
  ·cases h
 ·cases h
theorem ins_bin {op : BinOp} {t t' : TypeId} {x y : Operand} (ho : o.op = .binOp op t x y t') (hd : o.dst = some d) : InsOk P o (iBin d op x y):=by
 intro st r ev c h _
 unfold iBin at h
 split at h
 ·rename_i a b h1 h2
  split at h
  ·rename_i v h3; cases h; exact ok_bin ho hd h1 h2 h3
  ·cases h
 ·cases h
theorem ins_binB {eq : Bool} {t t' : TypeId} {x y : Operand} (ho : o.op = .binOp (if eq = true then .eql else .neq) t x y t') (ht : P.underlying t = some .bool) (hd : o.dst = some d) : InsOk P o (iBinB d eq x y):=by
 intro st r ev c h _
 unfold iBinB at h
 split at h
 ·rename_i a b h1 h2; cases h; exact ok_binB ho ht hd h1 h2
 ·cases h
theorem ins_eqA {eq : Bool} {t e t' : TypeId} {x y : Operand} (ho : o.op = .binOp (if eq = true then .eql else .neq) t x y t') (ht : P.underlying t = some (.array 3 e)) (he : P.underlying e = some (.int .i64)) (hz : sizeT P e = some 1) (hg : P.eqGuardType P.depth t = false) (hd : o.dst = some d) : InsOk P o (iEqA d eq x y):=by
 intro st r ev c h _
 unfold iEqA at h
 split at h
 ·rename_i cs ds h1 h2
  split at h
  ·rename_i h3 h4; cases h; exact ok_eqA ho ht he hz hg hd h1 h2 h3 h4
  ·cases h
 ·cases h
theorem ins_not {t : TypeId} {x : Operand} (ho : o.op = .unOp .not t x) (hd : o.dst = some d) : InsOk P o (iNot d x):=by
 intro st r ev c h _
 unfold iNot at h
 split at h
 ·rename_i a h1; cases h; exact ok_not ho hd h1
 ·cases h
theorem ins_cvi {s t : TypeId} {td : TypeDesc} {k : IntKind} {x : Operand} (ho : o.op = .convert s t x) (hs : P.underlying s = some td) (ht : P.underlying t = some (.int k)) (hd : o.dst = some d) : InsOk P o (iCvi d k x):=by
 intro st r ev c h _
 unfold iCvi at h
 split at h
 ·rename_i h1; cases h; exact ok_cvi ho hs ht hd h1
 ·cases h
theorem ins_str {s t e : TypeId} {x : Operand} (ho : o.op = .convert s t x) (hs : P.underlying s = some (.slice e)) (he : P.underlying e = some (.int .u8)) (ht : P.underlying t = some .string) (hd : o.dst = some d) : InsOk P o (iStr d x):=by
 intro st r ev c h _
 unfold iStr at h
 split at h
 ·rename_i h1
  split at h
  ·rename_i h2
   split at h
   ·rename_i h3; cases h; exact ok_str ho hs he ht hd h1 h2 h3
   ·cases h
  ·cases h
 ·cases h
theorem ins_fld {t : TypeId} {fs : Array Field} {f : Nat} {fd : Field} {n : Nat} {ag : Bool} {x : Operand} (ho : o.op = .field t x f) (ht : P.underlying t = some (.struct fs)) (hf : fs[f]? = some fd) (hn : sizeT P fd.type = some n) (ha : aggT P fd.type = some ag) (hd : o.dst = some d) : InsOk P o (iFld d fd.offset n ag x):=by
 intro st r ev c h _
 unfold iFld at h
 split at h
 ·rename_i h1
  split at h
  ·rename_i h2; cases h; exact ok_fld ho ht hf hn ha hd h1 h2
  ·cases h
 ·cases h
theorem ins_fad {t : TypeId} {fs : Array Field} {f : Nat} {fd : Field} {n : Nat} {x : Operand} (ho : o.op = .fieldAddr t x f) (ht : P.underlying t = some (.struct fs)) (hf : fs[f]? = some fd) (hn : sizeT P fd.type = some n) (hn0 : n ≠ 0) (hd : o.dst = some d) : InsOk P o (iFad d fd.offset x):=by
 intro st r ev c h _
 unfold iFad at h
 split at h
 ·rename_i h1
  split at h
  ·rename_i h2; cases h; exact ok_fad ho ht hf hn hn0 hd h1 h2
  ·cases h
 ·cases h
theorem ins_iaA {t e : TypeId} {len z : Nat} {x i : Operand} (ho : o.op = .indexAddr t x i) (ht : P.underlying t = some (.array len e)) (hz : sizeT P e = some z) (hd : o.dst = some d) : InsOk P o (iIaA d len z x i):=by
 intro st r ev c h _
 unfold iIaA at h
 split at h
 ·rename_i h1 h2
  split at h
  ·rename_i h3
   split at h
   ·rename_i h4; cases h; exact ok_iaA ho ht hz hd h1 h2 h3 h4
   ·cases h
  ·cases h
 ·cases h
theorem ins_iaS {t e : TypeId} {z : Nat} {x i : Operand} (ho : o.op = .indexAddr t x i) (ht : P.underlying t = some (.slice e)) (hz : sizeT P e = some z) (hd : o.dst = some d) : InsOk P o (iIaS d z x i):=by
 intro st r ev c h _
 unfold iIaS at h
 split at h
 ·rename_i h1 h2
  split at h
  ·rename_i h3; cases h; exact ok_iaO ho ht hz hd h1 h2 h3
  ·cases h
 ·rename_i h1 h2
  split at h
  ·rename_i h3
   obtain ⟨⟨rfl,rfl,h4⟩,h3⟩:=h3
   cases h; exact ok_iaB ho ht hz hd h1 h2 h4 h3
  ·cases h
 ·rename_i h1 h2
  split at h
  ·rename_i h3
   split at h
   ·rename_i h4
    split at h
    ·rename_i h5; cases h; exact ok_iaS ho ht hz hd h1 h3 h2 h4 h5
    ·cases h
   ·cases h
  ·cases h
 ·cases h
theorem ins_ext {x : Operand} {k : Nat} (ho : o.op = .extract x k) (hd : o.dst = some d) : InsOk P o (iExt d x k):=by
 intro st r ev c h _
 unfold iExt at h
 split at h
 ·rename_i h1
  split at h
  ·rename_i h2; cases h; exact ok_ext ho hd h1 h2
  ·cases h
 ·cases h
theorem ins_len {s : Bool} {t : TypeId} {x : Operand} (ho : o.op = .call { callee:=.builtin .len,args:=#[x],argTypes:=#[t] }) (ht : if s = true then P.underlying t = some .string else ∃ e,P.underlying t = some (.slice e)) (hd : o.dst = some d) : InsOk P o (iLen d s x):=by
 intro st r ev c h _
 unfold iLen at h
 split at h
 ·rename_i h1
  split at h
  ·rename_i hs
   split at h
   ·rename_i h2; cases h
    subst hs
    exact ok_len ho hd h1 (fun q => by rw [if_pos q] at ht; exact ht) (fun q => by rw [if_neg (by rw [q]; simp)] at ht; exact ht) h2
   ·cases h
  ·cases h
 ·cases h
theorem ins_slc {t e : TypeId} {z : Nat} {x : Operand} {lo hi : Option Operand} (ho : o.op = .slice t x lo hi none) (ht : P.underlying t = some (.slice e)) (hz : sizeT P e = some z) (hd : o.dst = some d) : InsOk P o (iSlc d z x lo hi):=by
 intro st r ev c h _
 unfold iSlc at h
 split at h
 ·rename_i h1
  split at h
  ·split at h
   ·rename_i h2
    split at h
    ·rename_i h3; cases h; exact ok_slcO ho ht hz hd h1 h2 h3.1 h3.2
    ·cases h
   ·cases h
  ·cases h
 ·rename_i h1
  split at h
  ·rename_i h2
   split at h
   ·rename_i h3 h4
    split at h
    ·rename_i h5; cases h; exact ok_slc ho ht hz hd h1 h2 h3 h4 h5.1 h5.2.1 h5.2.2
    ·cases h
   ·cases h
  ·cases h
 ·cases h
theorem ins_bld {t : TypeId} {fs : Array Field} {parts : Array (Nat × Operand)} {pl ps : List (Nat × Nat)} {zs : List D} (ho : o.op = .build t parts) (ht : P.underlying t = some (.struct fs)) (hz : zeroT P t = some zs) (hpl : placesT P fs.toList = some pl) (hps : (parts.toList.map (·.1)).map (fun i => pl[i]?) = ps.map some) (hd : o.dst = some d) : InsOk P o (iBld d zs ps (parts.toList.map (·.2))):=by
 intro st r ev c h _
 unfold iBld at h
 split at h
 ·rename_i h1
  split at h
  ·rename_i h2; cases h; exact ok_bld ho ht hz hpl hps hd h1 h2
  ·cases h
 ·cases h
theorem ins_load {t : TypeId} {n : Nat} {ag tr : Bool} {x : Operand} (ho : o.op = .load t x) (hn : sizeT P t = some n) (ha : aggT P t = some ag) (hd : o.dst = some d) : InsOk P o (iLoad d n ag x tr):=by
 intro st r ev c h _
 unfold iLoad at h
 split at h
 ·rename_i h1
  split at h
  ·rename_i h2; cases h; exact ok_loadE ho hn ha hd h1 h2
  ·cases h
 ·rename_i h1
  split at h
  ·rename_i h2
   split at h
   ·rename_i h3
    split at h
    ·rename_i h4; cases h; exact ok_loadP ho hn ha hd h1 h2 h3 h4
    ·cases h
   ·cases h
  ·cases h
 ·rename_i h1
  split at h
  ·rename_i h2
   split at h
   ·rename_i hz; subst hz
    split at h
    ·rename_i h3
     split at h
     ·rename_i h4; cases h; exact ok_loadQ ho hn ha hd h1 h2 h3 h4
     ·cases h
    ·cases h
   ·cases h
  ·rename_i h2
   split at h
   ·rename_i h6; obtain ⟨⟨rfl,rfl,rfl,rfl⟩,rfl⟩:=h6; cases h; exact ok_loadPr ho hn ha hd h1 h2
   ·cases h
  ·cases h
 ·cases h
theorem ins_bts {s t e : TypeId} {x : Operand} (ho : o.op = .convert s t x) (hs : P.underlying s = some .string) (ht : P.underlying t = some (.slice e)) (he : P.underlying e = some (.int .u8)) (hd : o.dst = some d) : InsOk P o (iBts d x):=by
 intro st r ev c h _
 unfold iBts at h
 split at h
 ·rename_i h1
  split at h
  ·rename_i h2; cases h; exact ok_bts ho hs ht he hd h1 h2
  ·cases h
 ·cases h
theorem ins_cst {t e : TypeId} {s : Nat} (ho : o.op = .convert t t (.tmp s)) (ht : P.underlying t = some (.slice e)) (he : P.underlying e = some (.int .u8)) (hd : o.dst = some d) : InsOk P o (iCst d s):=by
 intro st r ev c h _
 unfold iCst at h
 split at h
 ·rename_i h1
  split at h
  ·rename_i h2 h3
   split at h
   ·rename_i h4; cases h; exact ok_cst ho ht he hd h1 h2 h4 h3
   ·cases h
  ·cases h
 ·cases h
theorem ins_nil {eq : Bool} {t e t' : TypeId} {x : Operand} (ho : o.op = .binOp (if eq = true then .eql else .neq) t x (.const (.slice none 0 0)) t') (ht : P.underlying t = some (.slice e)) (hd : o.dst = some d) : InsOk P o (iNil d eq x):=by
 intro st r ev c h _
 unfold iNil at h
 split at h
 ·rename_i h1
  split at h
  ·rename_i h2; cases h; exact ok_nil ho ht hd h1 h2
  ·cases h
 ·cases h
theorem ins_mkM {t : TypeId} (ho : o.op = .makeMap t none) (hd : o.dst = some d) : InsOk P o (iMkM d):=by
 intro st r ev c h _
 unfold iMkM at h
 split at h
 ·rename_i h1; cases h; exact ok_mkM ho hd h1
 ·cases h
theorem ins_lku {t k e : TypeId} {z : Value} {x y : Operand} (ho : o.op = .lookup t x y false) (ht : P.underlying t = some (.map k e)) (hk : P.underlying k = some (.int .i64)) (hz : (P.info? e).bind (·.zero) = some z) (hzp : plainV z = true) (hd : o.dst = some d) : InsOk P o (iLku d z x y):=by
 intro st r ev c h _
 unfold iLku at h
 split at h
 ·rename_i h1 h2
  split at h
  ·rename_i h3
   split at h
   ·rename_i h4; cases h; exact ok_lku ho ht hk hz hzp hd h1 h3 h2 h4
   ·cases h
  ·cases h
 ·cases h
theorem ins_mkS {t e : TypeId} {z bytes : Nat} {i : TypeInfo} {zv : Value} {ag : Bool} {x y : Operand} (ho : o.op = .makeSlice t x y) (ht : P.underlying t = some (.slice e)) (hi : P.info? e = some i) (hzv : i.zero = some zv) (hsize : i.size = z) (hby : i.bytes = bytes) (hzs : zv.cells.size = z) (hz0 : 0 < z) (hpz : zv.cells.all plainV = true) (hag : ag = true ∨ z = 1) (hdl : d < 100000) (hbc : bytes ≤ 1000) (hd : o.dst = some d) : InsOk P o (iMkS d z bytes (elD ag (zv.cells.toList.map vD)) x y):=by
 intro st r ev c h _
 unfold iMkS at h
 split at h
 ·rename_i h1 h2
  split at h
  ·rename_i h3
   split at h
   ·rename_i h4; cases h; exact ok_mkS ho ht hi hzv hsize hby hzs hz0 hpz hag hdl hd h1 h2 h4.1 h4.2 hbc h3
   ·cases h
  ·cases h
 ·cases h
theorem ins_mkB {t e : TypeId} {bytes : Nat} {i : TypeInfo} {zv v : Value} {x y : Operand} (ho : o.op = .makeSlice t x y) (ht : P.underlying t = some (.slice e)) (hi : P.info? e = some i) (hzv : i.zero = some zv) (hsize : i.size = 1) (hby : i.bytes = bytes) (hzs : zv.cells = #[v]) (hpz : plainV v = true) (hbc : bytes ≤ 1000) (hd : o.dst = some d) : InsOk P o (iMkB d (vD v) x y):=by
 intro st r ev c h _
 unfold iMkB at h
 split at h
 ·rename_i h1 h2
  split at h
  ·rename_i h3
   split at h
   ·rename_i h4
    obtain ⟨h4,rfl⟩:=h4
    cases h; exact ok_mkB ho ht hi hzv hsize hby hzs hpz hd h1 h2 h4 hbc h3
   ·cases h
  ·cases h
 ·cases h
theorem ins_apr {t e : TypeId} {z bytes s : Nat} {i : TypeInfo} {zv : Value} {y : Operand} (ho : o.op = .call { callee:=.builtin .append,args:=#[.tmp s,y],argTypes:=#[t,t] }) (ht : P.underlying t = some (.slice e)) (hi : P.info? e = some i) (hzv : i.zero = some zv)
  (hsize : i.size = z) (hby : i.bytes = bytes) (hzs : zv.cells.size = z) (hz : 0 < z) (hb0 : 0 < bytes) (hdl : d < 100000) (hd : o.dst = some d) : InsOk P o (iApr d e z bytes s y):=by
 intro st r ev c h _
 unfold iApr at h
 split at h
 ·rename_i h1 h2
  split at h
  ·rename_i h3 h4
   split at h
   ·rename_i h5 h6
    split at h
    ·rename_i h7
     cases h
     exact ok_apr ho ht hi hzv hsize hby hzs hz hb0 hdl hd h1 h3 h2 h4 (by rw [h5,h7.1.1,h7.1.2]) h7.2.1 h7.2.2 h6
    ·cases h
   ·cases h
  ·cases h
 ·cases h
theorem ins_box {e : TypeId} {x : Operand} (ho : o.op = .box e x) (hd : o.dst = some d) : InsOk P o (iBox d x):=by
 intro st r ev c h _
 unfold iBox at h
 split at h
 ·rename_i h1 h2
  split at h
  ·rename_i h3; cases h; exact ok_box ho hd h1 h3 h2
  ·cases h
 ·cases h
theorem ins_alo {e : TypeId} {zs : List D} (ho : o.op = .alloc e) (hz : zeroT P e = some zs) (hd : o.dst = some d) : InsOk P o (iAlo d zs):=by
 intro st r ev c h _
 unfold iAlo at h
 split at h
 ·rename_i h1; cases h; exact ok_alo ho hz hd h1
 ·cases h
theorem ins_row {t e : TypeId} {z : Nat} {i : TypeInfo} {zv : Value} {parts : Array (Nat × Operand)} {n : Nat} (ho : o.op = .buildSlice t n parts) (ht : P.underlying t = some (.slice e)) (hi : P.info? e = some i) (hsz : i.size = z) (hzv : i.zero = some zv) (hz0 : 0 < z) (hzs : zv.cells.size = z) (hpz : zv.cells.all plainV = true) (hps : parts.toList.map (·.1) = List.range n) (hbig : n * z ≤ 16777216) (hd : o.dst = some d) : InsOk P o (iRow d e z (parts.toList.map (·.2))):=by
 intro st r ev c h _
 unfold iRow at h
 split at h
 ·rename_i h1
  split at h
  ·rename_i h2; cases h; exact ok_row ho ht hi hsz hzv hz0 hzs hpz hps hbig hd h1 (fun c hc => by have:=List.all_eq_true.1 h2 c hc; simpa using this)
  ·cases h
 ·cases h
theorem ins_app {t e : TypeId} {z bytes : Nat} {i : TypeInfo} {zv : Value} {x y : Operand} (ho : o.op = .call { callee:=.builtin .append,args:=#[x,y],argTypes:=#[t,t] }) (ht : P.underlying t = some (.slice e)) (hi : P.info? e = some i) (hzv : i.zero = some zv)
  (hsize : i.size = z) (hby : i.bytes = bytes) (hzs : zv.cells.size = z) (hz : 0 < z) (hb0 : 0 < bytes) (hd : o.dst = some d) : InsOk P o (iApp d e z bytes x y):=by
 intro st r ev c h _
 unfold iApp at h
 split at h
 ·rename_i h1 h2
  split at h
  ·rename_i h4
   split at h
   ·rename_i h6; cases h; exact ok_app0 ho ht hi hzv hsize hby hzs hz hb0 hd h1 h2 h4 h6
   ·cases h
  ·cases h
 ·rename_i h1 h2
  split at h
  ·split at h
   ·rename_i h5
    split at h
    ·rename_i h3 h4
     split at h
     ·rename_i h6; cases h; exact ok_app ho ht hi hzv hsize hby hzs hz hb0 hd h6.1.1 h1 h3 h2 h4 (by rw [h5,h6.1.2.1,h6.1.2.2]) h6.2
     ·cases h
    ·cases h
   ·rename_i h5
    split at h
    ·rename_i h4
     split at h
     ·rename_i h6; cases h; exact ok_apH ho ht hi hzv hsize hby hzs hz hb0 hd h6.1.1 h1 h2 h4 (by rw [h5,h6.1.2.1,h6.1.2.2]) h6.2
     ·cases h
    ·cases h
   ·cases h
  ·cases h
 ·cases h
theorem ins_appH {t e : TypeId} {z bytes : Nat} {i : TypeInfo} {zv : Value} {x y : Operand} (ho : o.op = .call { callee:=.builtin .append,args:=#[x,y],argTypes:=#[t,t] }) (ht : P.underlying t = some (.slice e)) (hi : P.info? e = some i) (hzv : i.zero = some zv)
  (hsize : i.size = z) (hby : i.bytes = bytes) (hzs : zv.cells.size = z) (hz : 0 < z) (hb0 : 0 < bytes) (hd : o.dst = some d) : InsOk P o (iAppH d e z bytes x y):=by
 intro st r ev c h _
 unfold iAppH at h
 split at h
 ·rename_i h1 h2
  split at h
  ·rename_i h4
   split at h
   ·rename_i h6; cases h; exact ok_app0H ho ht hi hzv hsize hby hzs hz hb0 hd h1 h2 h4 h6
   ·cases h
  ·cases h
 ·cases h
theorem ins_call {f : FuncId} {xs : Array Operand} {ats : Array TypeId} {fn : Func} (ho : o.op = .call { callee:=.value (.func f),args:=xs,argTypes:=ats }) (hf : P.funcs[f]? = some fn) (hn : (fn.name == "runtime.NumGoroutine") = false) (hb : fn.body.isNone = false) (hd : o.dst = some d) : InsOk P o (iCall d f xs.toList):=by
 intro st r ev c h hc
 unfold iCall at h
 split at h
 ·rename_i h1
  split at h
  ·rename_i hk
   cases h
   obtain ⟨cs',h2,h3⟩:=hc f _ _ rfl
   simp only [TellG,hk] at h3
   exact ok_call ho hf hn hb hd h1 h2 h3
  ·cases h
   obtain ⟨cs',h2,h3⟩:=hc f _ _ rfl
   simp only [TellG,kindR_o] at h3
   exact ok_callO ho hf hn hb hd h1 h2 h3
  ·cases h
  ·split at h
   ·rename_i hs
    split at h
    ·rename_i h5
     split at h
     ·rename_i h4
      cases h
      obtain ⟨cs',h2,h3⟩:=hc f _ _ rfl
      simp only [TellG,kindR_i] at h3
      exact ok_callI ho hf hn hb hd h1 h2 h3 hs h4 (by rw [h5,unC_ofC])
     ·cases h
    ·cases h
   ·cases h
 ·cases h
theorem ins_callL {f : FuncId} {xs : Array Operand} {ats : Array TypeId} {fn : Func} (ho : o.op = .call { callee:=.value (.func f),args:=xs,argTypes:=ats }) (hf : P.funcs[f]? = some fn) (hn : (fn.name == "runtime.NumGoroutine") = false) (hb : fn.body.isNone = false) (hd : o.dst = some d) : InsOk P o (iCallL d f xs.toList):=by
 intro st r ev c h hc
 unfold iCallL at h
 split at h
 ·split at h
  ·rename_i hxs
   split at h
   ·rename_i h1 h2
    split at h
    ·rename_i h3
     split at h
     ·rename_i h4
      cases h
      obtain ⟨cs',h5,h6⟩:=hc f _ _ rfl
      simp only [TellG,kindR_u] at h6
      obtain ⟨rfl,h4⟩:=h4
      exact ok_callU hxs ho hf hn hb hd h4 h1 h2 h3 h5 h6
     ·cases h
    ·cases h
   ·cases h
  ·cases h
 ·split at h
  ·rename_i h1
   split at h
   ·rename_i hk
    split at h
    ·rename_i hp
     cases h
     obtain ⟨cs',h2,h3⟩:=hc f _ _ rfl
     simp only [TellG,hk] at h3
     exact ok_callL ho hf hn hb hd h1 h2 h3 hp
    ·cases h
   ·cases h
  ·cases h
theorem ins_mm {mx : Bool} {x y : Operand} {ts : Array TypeId} (ho : o.op = .call { callee:=.builtin (if mx = true then .max else .min),args:=#[x,y],argTypes:=ts }) (hd : o.dst = some d) : InsOk P o (iMm d mx x y):=by
 intro st r ev c h _
 unfold iMm at h
 split at h
 ·rename_i h1 h2; cases h; exact ok_mm ho hd h1 h2
 ·cases h
theorem ins_nck {x : Operand} (ho : o.op = .nilCheck x) (hd : o.dst = some d) : InsOk P o (iNck d x):=by
 intro st r ev c h _
 unfold iNck at h
 split at h
 ·rename_i h1; cases h; exact ok_nck ho hd h1
 ·cases h
theorem ins_xor {t t' : TypeId} {x y : Operand} (ho : o.op = .binOp .xor t x y t') (hd : o.dst = some d) : InsOk P o (iXor d x y):=by
 intro st r ev c h _
 unfold iXor at h
 split at h
 ·rename_i h1 h2
  split at h
  ·rename_i h3; cases h; exact ok_xor ho hd h1 h2 h3.1 h3.2
  ·cases h
 ·cases h
theorem ins_callP {f : FuncId} {xs : Array Operand} {ats : Array TypeId} {fn : Func} (ho : o.op = .call { callee:=.value (.func f),args:=xs,argTypes:=ats }) (hf : P.funcs[f]? = some fn) (hn : (fn.name == "runtime.NumGoroutine") = false) (hb : fn.body.isNone = false) (hd : o.dst = some d) : InsOk P o (iCallP d f xs.toList):=by
 intro st r ev c h hc
 unfold iCallP at h
 split at h
 ·rename_i hxs
  split at h
  ·rename_i h1 h2
   split at h
   ·cases h
    obtain ⟨cs',h5,h6⟩:=hc f _ _ rfl
    simp only [TellG,kindR_p] at h6
    exact ok_callPr hxs ho hf hn hb hd h1 h2 h5 h6
   ·cases h
  ·cases h
 ·cases h
theorem ins_callV {s : Nat} {xs : Array Operand} {ats : Array TypeId} (ho : o.op = .call { callee:=.value (.tmp s),args:=xs,argTypes:=ats }) (hd : o.dst = some d) : InsOk P o (iCallV d P s xs.toList):=by
 intro st r ev c h hc
 unfold iCallV at h
 split at h
 ·rename_i h1 h2
  split at h
  ·rename_i h3 hk
   split at h
   ·rename_i h4
    cases h
    obtain ⟨cs',h5,h6⟩:=hc _ _ _ rfl
    simp only [TellG,hk] at h6
    exact ok_callV ho hd h1 h3 h4 h2 h5 h6
   ·cases h
  ·cases h
 ·cases h
theorem ins_boxF {e : TypeId} {x : Operand} (ho : o.op = .box e x) (hd : o.dst = some d) : InsOk P o (iBoxF d x):=by
 intro st r ev c h _
 unfold iBoxF at h
 split at h
 ·rename_i h1
  split at h
  ·rename_i h3; cases h; exact ok_boxF ho hd h1 h3
  ·cases h
 ·cases h
theorem ins_mkf {f s : Nat} (ho : o.op = .makeFunc (.func f) #[] #[.tmp s]) (hd : o.dst = some d) : InsOk P o (iMkf d f s):=by
 intro st r ev c h _
 unfold iMkf at h
 split at h
 ·rename_i h1; cases h; exact ok_mkfO ho hd h1
 ·rename_i h1; cases h; exact ok_mkf ho hd h1
 ·cases h
theorem ins_clr {t e : TypeId} {z : Nat} {i : TypeInfo} {zv : Value} {x : Operand} (ho : o.op = .call { callee:=.builtin .clear,args:=#[x],argTypes:=#[t] }) (ht : P.underlying t = some (.slice e)) (hi : P.info? e = some i) (hzv : i.zero = some zv) (hsize : i.size = z) (hzs : zv.cells.size = z) (hzp : zv.cells.all plainV = true) (hz0 : 0 < z)
  (hd : o.dst = none) : InsOk P o (iClr z x):=by
 intro st r ev c h _
 unfold iClr at h
 split at h
 ·rename_i h1
  split at h
  ·rename_i h2
   split at h
   ·rename_i h3
    cases h
    obtain ⟨⟨rfl,rfl,hb⟩,h4,h5⟩:=h3
    exact ok_clr (ty:=0) ho ht hi hzv hsize hzs hzp hz0 hd h1 h2 hb h4 h5
   ·cases h
  ·cases h
 ·cases h
theorem ins_stor {t : TypeId} {n : Nat} {x y : Operand} (ho : o.op = .store t x y) (hn : sizeT P t = some n) (hd : o.dst = none) : InsOk P o (iStor n x y):=by
 intro st r ev c h _
 unfold iStor at h
 split at h
 ·rename_i h1 h2
  split at h
  ·rename_i h3
   split at h
   ·rename_i h4; cases h; exact ok_stor ho hn hd h1 h3 h2 h4.1 h4.2.1 h4.2.2
   ·cases h
  ·cases h
 ·rename_i h1 h2
  split at h
  ·rename_i h3
   split at h
   ·rename_i hz
    obtain ⟨hz,hb⟩:=hz
    subst hz
    split at h
    ·rename_i h4
     split at h
     ·rename_i h5; cases h; exact ok_storQ ho hn hd hb h1 h3 h4 h2 h5.1 h5.2.1 h5.2.2
     ·split at h
      ·split at h
       ·rename_i h6; obtain ⟨rfl,rfl,rfl⟩:=h6; cases h; exact ok_storPr ho hn hd hb h1 h3 h4 h2
       ·cases h
      ·cases h
    ·cases h
   ·cases h
  ·cases h
 ·cases h
theorem ins_upd {t k e : TypeId} {x y v : Operand} (ho : o.op = .mapUpdate t x y v ∨ o.op = .insert t x y v) (ht : P.underlying t = some (.map k e)) (hk : P.underlying k = some (.int .i64)) (hd : o.dst = none) : InsOk P o (iUpd x y v):=by
 intro st r ev c h _
 unfold iUpd at h
 split at h
 ·rename_i h1 h2 h3
  split at h
  ·rename_i h4
   split at h
   ·rename_i h5; cases h; exact ok_upd ho ht hk hd h5.1 h1 h4 h2 h5.2.1 h3 h5.2.2
   ·cases h
  ·cases h
 ·cases h
end
end Go.Proofs.Ytgaofjiidedcbad.ab
