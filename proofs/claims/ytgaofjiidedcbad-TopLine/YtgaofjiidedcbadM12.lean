import Derived.Test.YtgaofjiidedcbadAbsComp
set_option maxHeartbeats 1000000
set_option linter.unusedVariables false
set_option linter.unusedSimpArgs false
namespace Go.Proofs.Ytgaofjiidedcbad.ab
open Go Go.RowKit
def feedsK (c : Call) (d : Option Nat) : Bool:=match c.callee,c.args.toList with
 | .builtin .append,.tmp t :: _ => some t == d
 | _,_ => false
def feeds (ops : List Oper) (d : Option Nat) : Bool:=ops.any fun o => match o.op with
 | .call c => feedsK c d
 | _ => false
section
variable (P : Program) (d : Nat)
def compBin (op : BinOp) (t : TypeId) (x y : Operand) : Option Ins :=
 match P.underlying t with
 | some (.int _) => match op with
  | .xor => some (iXor d x y)
  | op => some (iBin d op x y)
 | some .string => some (iBin d op x y)
 | some .bool => match op with
  | .eql => some (iBinB d true x y)
  | .neq => some (iBinB d false x y)
  | _ => none
 | some (.array 3 e) => match P.underlying e,sizeT P e,P.eqGuardType P.depth t,op with
  | some (.int .i64),some 1,false,.eql => some (iEqA d true x y)
  | some (.int .i64),some 1,false,.neq => some (iEqA d false x y)
  | _,_,_,_ => none
 | some (.slice _) => match y,op with
  | .const (.slice none 0 0),.eql => some (iNil d true x)
  | .const (.slice none 0 0),.neq => some (iNil d false x)
  | _,_ => none
 | _ => none
def compConv (s t : TypeId) (x : Operand) : Option Ins :=
 match P.underlying s,P.underlying t with
 | some (.slice e),some .string => match P.underlying e with
  | some (.int .u8) => some (iStr d x)
  | _ => none
 | some (.int _),some (.int k) => some (iCvi d k x)
 | some .string,some (.slice e) => match P.underlying e with
  | some (.int .u8) => some (iBts d x)
  | _ => none
 | some (.slice e),some (.slice _) => if s = t then (match x,P.underlying e with
  | .tmp y,some (.int .u8) => some (iCst d y)
  | _,_ => none) else none
 | _,_ => none
def compFld (t : TypeId) (x : Operand) (f : Nat) : Option Ins :=
 match P.underlying t with
 | some (.struct fs) => match fs[f]? with
  | some fd => match sizeT P fd.type,aggT P fd.type with
   | some n,some ag => some (iFld d fd.offset n ag x)
   | _,_ => none
  | none => none
 | _ => none
def compFad (t : TypeId) (x : Operand) (f : Nat) : Option Ins :=
 match P.underlying t with
 | some (.struct fs) => match fs[f]? with
  | some fd => match sizeT P fd.type with
   | some n => if n = 0 then none else some (iFad d fd.offset x)
   | none => none
  | none => none
 | _ => none
def compIndex (t : TypeId) (x i : Operand) : Option Ins :=
 match P.underlying t with
 | some (.array n e) => match sizeT P e with
  | some z => some (iIaA d n z x i)
  | none => none
 | some (.slice e) => match sizeT P e with
  | some z => some (iIaS d z x i)
  | none => none
 | _ => none
def compSlice (t : TypeId) (x : Operand) (lo hi : Option Operand) : Option Ins :=
 match P.underlying t with
 | some (.slice e) => match sizeT P e with
  | some z => some (iSlc d z x lo hi)
  | none => none
 | _ => none
def compBuild (t : TypeId) (ps : List (Nat × Operand)) : Option Ins :=
 match P.underlying t with
 | some (.struct fs) => match zeroT P t,placesT P fs.toList with
  | some zs,some pl => match ps.mapM (fun p => pl[p.1]?) with
   | some qs => some (iBld d zs qs (ps.map (·.2)))
   | none => none
  | _,_ => none
 | _ => none
def compLoad (t : TypeId) (x : Operand) (tr : Bool) : Option Ins :=
 match sizeT P t,aggT P t with
 | some n,some ag => some (iLoad d n ag x tr)
 | _,_ => none
def compAlo (t : TypeId) : Option Ins:=match zeroT P t with
 | some zs => some (iAlo d zs)
 | none => none
def compRow (t : TypeId) (n : Nat) (ps : List (Nat × Operand)) : Option Ins :=
 match P.underlying t with
 | some (.slice e) => match P.info? e with
  | some i => match i.zero with
   | some zv => if 0 < i.size ∧ zv.cells.size = i.size ∧ zv.cells.all plainV = true ∧ ps.map (·.1) = List.range n ∧ n * i.size ≤ 16777216 then some (iRow d e i.size (ps.map (·.2))) else none
   | none => none
  | none => none
 | _ => none
def compMkM (r : Option Operand) : Option Ins:=match r with
 | none => some (iMkM d)
 | some _ => none
def compLku (t : TypeId) (x y : Operand) (ok : Bool) : Option Ins:=match ok,P.underlying t with
 | false,some (.map k e) => match P.underlying k,(P.info? e).bind (·.zero) with
  | some (.int .i64),some z => if plainV z = true then some (iLku d z x y) else none
  | _,_ => none
 | _,_ => none
def compMkB (t : TypeId) (x y : Operand) : Option Ins:=match P.underlying t with
 | some (.slice e) => match P.info? e with
  | some i => match i.zero with
   | some zv => if (i.size = 1 ∧ zv.cells.size = 1 ∧ zv.cells.all plainV = true) ∧ i.bytes ≤ 1000 then some (iMkB d ((zv.cells.toList.map vD).headD (vD undef)) x y) else none
   | none => none
  | none => none
 | _ => none
def compMkS (t : TypeId) (x y : Operand) : Option Ins:=match P.underlying t with
 | some (.slice e) => match P.info? e,aggT P e with
  | some i,some ag => match i.zero with
   | some zv => if (0 < i.size ∧ zv.cells.size = i.size ∧ zv.cells.all plainV = true) ∧ (ag = true ∨ i.size = 1) ∧ d < 100000 ∧ i.bytes ≤ 1000 then some (iMkS d i.size i.bytes (elD ag (zv.cells.toList.map vD)) x y) else none
   | none => none
  | _,_ => none
 | _ => none
def compApp (rw : List Nat) (t t' : TypeId) (x y : Operand) : Option Ins :=
 if t = t' then match P.underlying t with
 | some (.slice e) => match P.info? e with
  | some i => match i.zero with
   | some zv => if 0 < i.size ∧ zv.cells.size = i.size ∧ 0 < i.bytes then (if d ∈ rw then (match x with | .tmp s => if d < 100000 then some (iApr d e i.size i.bytes s y) else none | _ => none) else if d + 1000000 ∈ rw then some (iAppH d e i.size i.bytes x y) else some (iApp d e i.size i.bytes x y)) else none
   | none => none
  | none => none
 | _ => none
 else none
def compCall (lend adr : Bool) (f : FuncId) (xs : List Operand) : Option Ins :=
 match P.funcs[f]? with
 | some fn => if (fn.name == "runtime.NumGoroutine") = false ∧ fn.body.isNone = false then some (if adr = true then iCallP d f xs else if lend = true then iCallL d f xs else iCall d f xs) else none
 | none => none
def compLen (t : TypeId) (x : Operand) : Option Ins :=
 match P.underlying t with
 | some (.slice _) => some (iLen d false x)
 | some .string => some (iLen d true x)
 | _ => none
def compK (rw : List Nat) (c : Call) : Option Ins :=
 match c.callee,c.args.toList,c.argTypes.toList with
 | .builtin .len,[x],[t] => compLen P d t x
 | .builtin .append,[x,y],[t,t'] => compApp P d rw t t' x y
 | .builtin .max,[x,y],_ => some (iMm d true x y)
 | .builtin .min,[x,y],_ => some (iMm d false x y)
 | .value (.func f),xs,_ => compCall P d (rw.contains d) (rw.contains (d + 2000000)) f xs
 | .value (.tmp s),xs,_ => some (iCallV d P s xs)
 | _,_,_ => none
def compMkf (f : Fn) (first captured : List Operand) : Option Ins:=match f,first,captured with
 | .func f,[],[.tmp s] => some (iMkf d f s)
 | _,_,_ => none
def compD (rw : List Nat) (ops : List Oper) (op : Op) : Option Ins :=
 match op with
 | .move x => some (iMov d x (feeds ops (some d) || rw.contains d))
 | .assign x => some (iMov d x true)
 | .pick c a b => some (iPick d c a b)
 | .binOp op t x y _ => compBin P d op t x y
 | .unOp .not _ x => some (iNot d x)
 | .nilCheck x => some (iNck d x)
 | .convert s t x => compConv P d s t x
 | .field t x f => compFld P d t x f
 | .fieldAddr t x f => compFad P d t x f
 | .indexAddr t x i => compIndex P d t x i
 | .extract x k => some (iExt d x k)
 | .slice t x lo hi none => compSlice P d t x lo hi
 | .build t ps => compBuild P d t ps.toList
 | .load t x => compLoad P d t x (feeds ops (some d) || rw.contains d)
 | .box _ x => if d ∈ rw then some (iBoxF d x) else some (iBox d x)
 | .makeFunc f first captured => compMkf d f first.toList captured.toList
 | .alloc e => compAlo P d e
 | .buildSlice t n ps => compRow P d t n ps.toList
 | .call c => compK P d rw c
 | .makeMap _ r => compMkM d r
 | .lookup t x y ok => compLku P d t x y ok
 | .makeSlice t x y => if d + 3000000 ∈ rw then compMkB P d t x y else compMkS P d t x y
 | _ => none
end
def compUpd (P : Program) (t : TypeId) (x y v : Operand) : Option Ins:=match P.underlying t with
 | some (.map k _) => match P.underlying k with
  | some (.int .i64) => some (iUpd x y v)
  | _ => none
 | _ => none
def compClr (P : Program) (c : Call) : Option Ins:=match c.callee,c.args.toList,c.argTypes.toList with
 | .builtin .clear,[x],[t] => match P.underlying t with
  | some (.slice e) => match P.info? e with
   | some i => match i.zero with
    | some zv => if zv.cells.size = i.size ∧ zv.cells.all plainV = true ∧ 0 < i.size then some (iClr i.size x) else none
    | none => none
   | none => none
  | _ => none
 | _,_,_ => none
def comp (P : Program) (rw : List Nat) (ops : List Oper) (o : Oper) : Option Ins :=
 match o.dst with
 | some d => compD P d rw ops o.op
 | none => match o.op with
  | .store t x y => match sizeT P t with
   | some n => some (iStor n x y)
   | none => none
  | .mapUpdate t x y v => compUpd P t x y v
  | .insert t x y v => compUpd P t x y v
  | .call c => compClr P c
  | _ => none
section
variable {P : Program} {o : Oper} {rw : List Nat} {ops : List Oper} {i : Ins} {d : Nat}
theorem mapM_get {pl : List (Nat × Nat)} : ∀ {ps : List (Nat × Operand)} {qs : List (Nat × Nat)},ps.mapM (fun p => pl[p.1]?) = some qs → (ps.map (·.1)).map (fun i => pl[i]?) = qs.map some
 | [],qs,h => by simp at h; subst h; rfl
 | p :: r,qs,h => by
  simp only [List.mapM_cons,Option.bind_eq_bind,Option.bind_eq_some_iff] at h
  obtain ⟨x,hx,ys,hy,h⟩:=h
  cases h
  simp [hx,mapM_get hy]
theorem compBin_ok {op : BinOp} {t t' : TypeId} {x y : Operand} (ho : o.op = .binOp op t x y t') (hd : o.dst = some d) (h : compBin P d op t x y = some i) : InsOk P o i:=by
 unfold compBin at h
 split at h
 ·split at h
  ·cases h; exact ins_xor ho hd
  ·cases h; exact ins_bin ho hd
 ·cases h; exact ins_bin ho hd
 ·rename_i ht
  split at h
  ·cases h; exact ins_binB (eq:=true) ho ht hd
  ·cases h; exact ins_binB (eq:=false) ho ht hd
  ·cases h
 ·rename_i ht
  split at h
  ·rename_i q1 q2 q3; cases h; exact ins_eqA (eq:=true) ho ht q1 q2 q3 hd
  ·rename_i q1 q2 q3; cases h; exact ins_eqA (eq:=false) ho ht q1 q2 q3 hd
  ·cases h
 ·rename_i ht
  split at h
  ·cases h; exact ins_nil (eq:=true) ho ht hd
  ·cases h; exact ins_nil (eq:=false) ho ht hd
  ·cases h
 ·cases h
theorem compConv_ok {s t : TypeId} {x : Operand} (ho : o.op = .convert s t x) (hd : o.dst = some d) (h : compConv P d s t x = some i) : InsOk P o i:=by
 unfold compConv at h
 split at h
 ·rename_i q1 q2
  split at h
  ·rename_i q3; cases h; exact ins_str ho q1 q3 q2 hd
  ·cases h
 ·rename_i q1 q2; cases h; exact ins_cvi ho q1 q2 hd
 ·rename_i q1 q2
  split at h
  ·rename_i q3; cases h; exact ins_bts ho q1 q2 q3 hd
  ·cases h
 ·rename_i q1 q2
  split at h
  ·rename_i hst
   subst hst
   split at h
   ·rename_i q3; cases h; exact ins_cst ho q1 q3 hd
   ·cases h
  ·cases h
 ·cases h
theorem compFld_ok {t : TypeId} {x : Operand} {f : Nat} (ho : o.op = .field t x f) (hd : o.dst = some d) (h : compFld P d t x f = some i) : InsOk P o i:=by
 unfold compFld at h
 split at h
 ·rename_i q1
  split at h
  ·rename_i q2
   split at h
   ·rename_i q3 q4; cases h; exact ins_fld ho q1 q2 q3 q4 hd
   ·cases h
  ·cases h
 ·cases h
theorem compFad_ok {t : TypeId} {x : Operand} {f : Nat} (ho : o.op = .fieldAddr t x f) (hd : o.dst = some d) (h : compFad P d t x f = some i) : InsOk P o i:=by
 unfold compFad at h
 split at h
 ·rename_i q1
  split at h
  ·rename_i q2
   split at h
   ·rename_i q3
    split at h
    ·cases h
    ·rename_i q4; cases h; exact ins_fad ho q1 q2 q3 q4 hd
   ·cases h
  ·cases h
 ·cases h
theorem compIndex_ok {t : TypeId} {x y : Operand} (ho : o.op = .indexAddr t x y) (hd : o.dst = some d) (h : compIndex P d t x y = some i) : InsOk P o i:=by
 unfold compIndex at h
 split at h
 ·rename_i q1
  split at h
  ·rename_i q2; cases h; exact ins_iaA ho q1 q2 hd
  ·cases h
 ·rename_i q1
  split at h
  ·rename_i q2; cases h; exact ins_iaS ho q1 q2 hd
  ·cases h
 ·cases h
theorem compSlice_ok {t : TypeId} {x : Operand} {lo hi : Option Operand} (ho : o.op = .slice t x lo hi none) (hd : o.dst = some d) (h : compSlice P d t x lo hi = some i) : InsOk P o i:=by
 unfold compSlice at h
 split at h
 ·rename_i q1
  split at h
  ·rename_i q2; cases h; exact ins_slc ho q1 q2 hd
  ·cases h
 ·cases h
theorem compBuild_ok {t : TypeId} {ps : Array (Nat × Operand)} (ho : o.op = .build t ps) (hd : o.dst = some d) (h : compBuild P d t ps.toList = some i) : InsOk P o i:=by
 unfold compBuild at h
 split at h
 ·rename_i q1
  split at h
  ·rename_i q2 q3
   split at h
   ·rename_i q4; cases h; exact ins_bld ho q1 q2 q3 (mapM_get q4) hd
   ·cases h
  ·cases h
 ·cases h
theorem compRow_ok {t : TypeId} {n : Nat} {ps : Array (Nat × Operand)} (ho : o.op = .buildSlice t n ps) (hd : o.dst = some d) (h : compRow P d t n ps.toList = some i) : InsOk P o i:=by
 unfold compRow at h
 split at h
 ·rename_i q1
  split at h
  ·rename_i q2
   split at h
   ·rename_i q3
    split at h
    ·rename_i q4; cases h; exact ins_row ho q1 q2 rfl q3 q4.1 q4.2.1 q4.2.2.1 q4.2.2.2.1 q4.2.2.2.2 hd
    ·cases h
   ·cases h
  ·cases h
 ·cases h
theorem compK_ok {c : Call} (ho : o.op = .call c) (hd : o.dst = some d) (h : compK P d rw c = some i) : InsOk P o i:=by
 unfold compK at h
 split at h
 ·rename_i x t k1 k2 k3
  have ho : o.op = .call { callee:=.builtin .len,args:=#[x],argTypes:=#[t] }:=by
   rw [ho]; cases c; simp only at k1 k2 k3
   rw [k1,Array.toList_inj.1 (k2.trans rfl : _ = (#[x] : Array Operand).toList),Array.toList_inj.1 (k3.trans rfl : _ = (#[t] : Array TypeId).toList)]
  unfold compLen at h
  split at h
  ·rename_i e q1; cases h; exact ins_len (s:=false) ho ⟨e,q1⟩ hd
  ·rename_i q1; cases h; exact ins_len (s:=true) ho q1 hd
  ·cases h
 ·rename_i x y t t' k1 k2 k3
  have ho : o.op = .call { callee:=.builtin .append,args:=#[x,y],argTypes:=#[t,t'] }:=by
   rw [ho]; cases c; simp only at k1 k2 k3
   rw [k1,Array.toList_inj.1 (k2.trans rfl : _ = (#[x,y] : Array Operand).toList),Array.toList_inj.1 (k3.trans rfl : _ = (#[t,t'] : Array TypeId).toList)]
  unfold compApp at h
  split at h
  ·rename_i htt; subst htt
   split at h
   ·rename_i q1
    split at h
    ·rename_i q2
     split at h
     ·rename_i q3
      split at h
      ·rename_i q4
       split at h
       ·split at h
        ·split at h
         ·rename_i q5; cases h; exact ins_apr ho q1 q2 q3 rfl rfl q4.2.1 q4.1 q4.2.2 q5 hd
         ·cases h
        ·cases h
       ·split at h
        ·cases h; exact ins_appH ho q1 q2 q3 rfl rfl q4.2.1 q4.1 q4.2.2 hd
        ·cases h; exact ins_app ho q1 q2 q3 rfl rfl q4.2.1 q4.1 q4.2.2 hd
      ·cases h
     ·cases h
    ·cases h
   ·cases h
  ·cases h
 ·rename_i x y k1 k2
  have ho : o.op = .call { callee:=.builtin (if true = true then .max else .min),args:=#[x,y],argTypes:=c.argTypes }:=by
   rw [ho]; cases c; simp only at k1 k2
   rw [k1,Array.toList_inj.1 (k2.trans rfl : _ = (#[x,y] : Array Operand).toList)]; rfl
  cases h; exact ins_mm ho hd
 ·rename_i x y k1 k2
  have ho : o.op = .call { callee:=.builtin (if false = true then .max else .min),args:=#[x,y],argTypes:=c.argTypes }:=by
   rw [ho]; cases c; simp only at k1 k2
   rw [k1,Array.toList_inj.1 (k2.trans rfl : _ = (#[x,y] : Array Operand).toList)]; rfl
  cases h; exact ins_mm ho hd
 ·rename_i f k1
  have ho : o.op = .call { callee:=.value (.func f),args:=c.args,argTypes:=c.argTypes }:=by
   rw [ho]; cases c; simp only at k1; rw [k1]
  unfold compCall at h
  split at h
  ·rename_i q1
   split at h
   ·rename_i q2; cases h
    split
    ·exact ins_callP ho q1 q2.1 q2.2 hd
    ·split
     ·exact ins_callL ho q1 q2.1 q2.2 hd
     ·exact ins_call ho q1 q2.1 q2.2 hd
   ·cases h
  ·cases h
 ·rename_i s k1
  cases h
  have ho : o.op = .call { callee:=.value (.tmp s),args:=c.args,argTypes:=c.argTypes }:=by
   rw [ho]; cases c; simp only at k1; rw [k1]
  exact ins_callV ho hd
 ·cases h
theorem compMkf_ok {f : Fn} {first captured : Array Operand} (ho : o.op = .makeFunc f first captured) (hd : o.dst = some d) (h : compMkf d f first.toList captured.toList = some i) : InsOk P o i:=by
 unfold compMkf at h
 split at h
 ·rename_i g s k2 k3
  cases h
  have e1 : first = #[]:=Array.toList_inj.1 (k2.trans rfl)
  have e2 : captured = #[.tmp s]:=Array.toList_inj.1 (k3.trans rfl)
  exact ins_mkf (by rw [ho,e1,e2]) hd
 ·cases h
theorem compClr_ok {c : Call} (ho : o.op = .call c) (hd : o.dst = none) (h : compClr P c = some i) : InsOk P o i:=by
 unfold compClr at h
 split at h
 ·rename_i x t k1 k2 k3
  have ho : o.op = .call { callee:=.builtin .clear,args:=#[x],argTypes:=#[t] }:=by
   rw [ho]; cases c; simp only at k1 k2 k3
   rw [k1,Array.toList_inj.1 (k2.trans rfl : _ = (#[x] : Array Operand).toList),Array.toList_inj.1 (k3.trans rfl : _ = (#[t] : Array TypeId).toList)]
  split at h
  ·rename_i q1
   split at h
   ·rename_i q2
    split at h
    ·rename_i q3
     split at h
     ·rename_i q4; cases h; exact ins_clr ho q1 q2 q3 rfl q4.1 q4.2.1 q4.2.2 hd
     ·cases h
    ·cases h
   ·cases h
  ·cases h
 ·cases h
theorem compUpd_ok {t : TypeId} {x y v : Operand} (ho : o.op = .mapUpdate t x y v ∨ o.op = .insert t x y v) (hd : o.dst = none) (h : compUpd P t x y v = some i) : InsOk P o i:=by
 unfold compUpd at h
 split at h
 ·rename_i q1
  split at h
  ·rename_i q2; cases h; exact ins_upd ho q1 q2 hd
  ·cases h
 ·cases h
theorem comp_ok (h : comp P rw ops o = some i) : InsOk P o i:=by
 unfold comp at h
 split at h
 ·rename_i d hd
  unfold compD at h
  split at h
  ·rename_i ho; cases h; exact ins_mov (.inl ho) hd
  ·rename_i ho; cases h; exact ins_mov (.inr ho) hd
  ·rename_i ho; cases h; exact ins_pick ho hd
  ·rename_i ho; exact compBin_ok ho hd h
  ·rename_i ho; cases h; exact ins_not ho hd
  ·rename_i ho; cases h; exact ins_nck ho hd
  ·rename_i ho; exact compConv_ok ho hd h
  ·rename_i ho; exact compFld_ok ho hd h
  ·rename_i ho; exact compFad_ok ho hd h
  ·rename_i ho; exact compIndex_ok ho hd h
  ·rename_i ho; cases h; exact ins_ext ho hd
  ·rename_i ho; exact compSlice_ok ho hd h
  ·rename_i ho; exact compBuild_ok ho hd h
  ·rename_i ho
   unfold compLoad at h
   split at h
   ·rename_i q1 q2; cases h; exact ins_load ho q1 q2 hd
   ·cases h
  ·rename_i ho
   split at h
   ·cases h; exact ins_boxF ho hd
   ·cases h; exact ins_box ho hd
  ·rename_i ho; exact compMkf_ok ho hd h
  ·rename_i ho
   unfold compAlo at h
   split at h
   ·rename_i q1; cases h; exact ins_alo ho q1 hd
   ·cases h
  ·rename_i ho; exact compRow_ok ho hd h
  ·rename_i ho; exact compK_ok ho hd h
  ·rename_i ho
   unfold compMkM at h
   split at h
   ·cases h; exact ins_mkM ho hd
   ·cases h
  ·rename_i ho
   unfold compLku at h
   split at h
   ·rename_i q1
    split at h
    ·rename_i q2 q3
     split at h
     ·rename_i q4; cases h; exact ins_lku ho q1 q2 q3 q4 hd
     ·cases h
    ·cases h
   ·cases h
  ·rename_i ho
   split at h
   ·unfold compMkB at h
    split at h
    ·rename_i q1
     split at h
     ·rename_i q2
      split at h
      ·rename_i q4
       split at h
       ·rename_i q5
        obtain ⟨⟨q6,q7,q8⟩,q9⟩:=q5
        obtain ⟨v,hv⟩:=one_cell q7
        have hz : (Array.mk [v] : Array Value) = #[v]:=rfl
        rw [hv] at h
        cases h
        exact ins_mkB ho q1 q2 q4 q6 rfl (by rw [← hz,← hv]) (Array.all_eq_true'.1 q8 v (by rw [← Array.mem_toList_iff,hv]; simp)) q9 hd
       ·cases h
      ·cases h
     ·cases h
    ·cases h
   ·unfold compMkS at h
    split at h
    ·rename_i q1
     split at h
     ·rename_i q2 q3
      split at h
      ·rename_i q4
       split at h
       ·rename_i q5; cases h; exact ins_mkS ho q1 q2 q4 rfl rfl q5.1.2.1 q5.1.1 q5.1.2.2 q5.2.1 q5.2.2.1 q5.2.2.2 hd
       ·cases h
      ·cases h
     ·cases h
    ·cases h
  ·cases h
 ·rename_i hd
  split at h
  ·rename_i ho
   split at h
   ·rename_i q1; cases h; exact ins_stor ho q1 hd
   ·cases h
  ·rename_i ho; exact compUpd_ok (.inl ho) hd h
  ·rename_i ho; exact compUpd_ok (.inr ho) hd h
  ·rename_i ho; exact compClr_ok ho hd h
  ·cases h
end
structure IOp where
 dst : Option Nat
 grd : Option (Nat × Bool)
 ins : Ins
def Ev.wait (ev : Ev) (g : Nat) (v : D) : Ev:={ ev with rs:=(g,v) :: ev.rs }
abbrev vB (b : Bool) : D:=vD (.bool b)
def stepI (o : IOp) (st : St) (r : List D) : Option (Ev × Option (Nat × List D × List D)):=match o.grd with
 | none => o.ins st r
 | some (g,want) => match look st.tm g with
  | some (.held (.inl (.bool b))) => if b = want then (match o.ins st r with
   | some (ev,c) => some (ev.wait g (vB b),c)
   | none => none) else some (skipEv o.dst [(g,vB b)],none)
  | some (.ptr (.agg [])) => some (skipEv o.dst [(g,tD [])],none)
  | _ => none
def evalOps : List IOp → List (List D) → St → Option (St × List (Nat × List D × List D))
 | [],_,st => some (st,[])
 | o :: l,rs,st => match stepI o st (rs.headD []) with
  | none => none
  | some (ev,none) => evalOps l rs (st.app ev)
  | some (ev,some (f,cs,ro)) => match evalOps l rs.tail (st.app ev) with
   | none => none
   | some (st',q) => some (st',(f,cs,ro) :: q)
def CallOk (P : Program) (c : Option (Nat × List D × List D)) : Prop:=∀ f cs ro,c = some (f,cs,ro) → ∃ cs',ValsLe cs cs' ∧ TellG P f cs' ro
def Obl (P : Program) : List (Nat × List D × List D) → Prop
 | [] => True
 | (f,cs,r) :: l => (∃ cs',ValsLe cs cs' ∧ TellG P f cs' r) ∧ Obl P l
structure Foot where
 sr : List Nat
 sw : List Nat
 br : List Nat
 bw : List Nat
 fr : List (Nat × Option Nat)
def Ev.fp (ev : Ev) : Foot where
 sr:=ev.rs.map (·.1)
 sw:=match ev.ws with | some x => [x.1] | none => []
 br:=ev.rb.map (·.1) ++ ev.nb
 bw:=match ev.wb with | some x => [x.1] | none => []
 fr:=ev.rf.map (·.1) ++ ev.cf ++ match ev.sf with | some x => [x.1] | none => []
def disj {α : Type} [DecidableEq α] (a b : List α) : Bool:=a.all fun x => !b.contains x
def indep (a b : Foot) : Bool:=disj a.sw (b.sr ++ b.sw) && disj b.sw a.sr && disj a.bw (b.br ++ b.bw) && disj b.bw a.br && disj a.fr b.fr
def evalD : List IOp → List (List D) → St → Option (St × List Foot × List (Nat × List D × List D))
 | [],_,st => some (st,[],[])
 | o :: l,rs,st => match stepI o st (rs.headD []) with
  | none => none
  | some (ev,none) => match evalD l rs (st.app ev) with
   | none => none
   | some (st',fs,q) => some (st',ev.fp :: fs,q)
  | some (ev,some (f,cs,ro)) => match evalD l rs.tail (st.app ev) with
   | none => none
   | some (st',fs,q) => some (st',ev.fp :: fs,(f,cs,ro) :: q)
theorem disj_iff {α : Type} [DecidableEq α] {a b : List α} (h : disj a b = true) : ∀ x ∈ a,x ∉ b:=by
 intro x hx hb
 have:=List.all_eq_true.1 h x hx
 simp [hb] at this
theorem ev_swap {p e : Ev} {st : FS} (hi : indep p.fp e.fp = true) (h1 : p.ok st) (h2 : e.ok (p.app st)) : e.ok st ∧ p.ok (e.app st) ∧ e.app (p.app st) = p.app (e.app st):=by
 simp only [indep,Bool.and_eq_true] at hi
 obtain ⟨⟨⟨⟨i1,i2⟩,i3⟩,i4⟩,i5⟩:=hi
 have i1:=disj_iff i1
 have i2:=disj_iff i2
 have i3:=disj_iff i3
 have i4:=disj_iff i4
 have i5:=disj_iff i5
 -- slots
 have tmE : ∀ s,s ∉ p.fp.sw → (p.app st).tm s = st.tm s:=by
  intro s hs
  simp only [Ev.fp] at hs
  rcases hw : p.ws with _ | ⟨d,v⟩
  ·simp [Ev.app,hw]
  ·rw [hw] at hs; simp at hs; simp [Ev.app,hw,hs]
 have tmP : ∀ s,s ∉ e.fp.sw → (e.app st).tm s = st.tm s:=by
  intro s hs
  simp only [Ev.fp] at hs
  rcases hw : e.ws with _ | ⟨d,v⟩
  ·simp [Ev.app,hw]
  ·rw [hw] at hs; simp at hs; simp [Ev.app,hw,hs]
 have bxE : ∀ s,s ∉ p.fp.bw → (p.app st).bx s = st.bx s:=by
  intro s hs
  simp only [Ev.fp] at hs
  rcases hw : p.wb with _ | ⟨d,v⟩
  ·simp [Ev.app,hw]
  ·rw [hw] at hs; simp at hs; simp [Ev.app,hw,hs]
 have bxP : ∀ s,s ∉ e.fp.bw → (e.app st).bx s = st.bx s:=by
  intro s hs
  simp only [Ev.fp] at hs
  rcases hw : e.wb with _ | ⟨d,v⟩
  ·simp [Ev.app,hw]
  ·rw [hw] at hs; simp at hs; simp [Ev.app,hw,hs]
 have flE : ∀ s o,(s,o) ∉ p.fp.fr → (p.app st).fl s o = st.fl s o:=by
  intro s o hs
  simp only [Ev.fp,List.mem_append,not_or] at hs
  rcases hw : p.sf with _ | ⟨d,v⟩
  ·simp [Ev.app,hw,hs.1.2]
  ·rw [hw] at hs; simp only [List.mem_singleton] at hs; simp [Ev.app,hw,hs.1.2,hs.2]
 have flP : ∀ s o,(s,o) ∉ e.fp.fr → (e.app st).fl s o = st.fl s o:=by
  intro s o hs
  simp only [Ev.fp,List.mem_append,not_or] at hs
  rcases hw : e.sf with _ | ⟨d,v⟩
  ·simp [Ev.app,hw,hs.1.2]
  ·rw [hw] at hs; simp only [List.mem_singleton] at hs; simp [Ev.app,hw,hs.1.2,hs.2]
 refine ⟨⟨fun x hx => ?_,fun x hx => ?_,fun x hx => ?_,fun x hx => ?_⟩,⟨fun x hx => ?_,fun x hx => ?_,fun x hx => ?_,fun x hx => ?_⟩,?_⟩
 ·rw [← tmE x.1 (fun q => i1 x.1 q (List.mem_append_left _ (List.mem_map_of_mem hx)))]; exact h2.rs x hx
 ·rw [← bxE x.1 (fun q => i3 x.1 q (List.mem_append_left _ (List.mem_append_left _ (List.mem_map_of_mem hx))))]; exact h2.rb x hx
 ·rw [← bxE x (fun q => i3 x q (List.mem_append_left _ (List.mem_append_right _ hx)))]; exact h2.nb x hx
 ·rw [← flE x.1.1 x.1.2 (fun q => i5 x.1 q (List.mem_append_left _ (List.mem_append_left _ (List.mem_map_of_mem hx))))]; exact h2.rf x hx
 ·rw [tmP x.1 (fun q => i2 x.1 q (List.mem_map_of_mem hx))]; exact h1.rs x hx
 ·rw [bxP x.1 (fun q => i4 x.1 q (List.mem_append_left _ (List.mem_map_of_mem hx)))]; exact h1.rb x hx
 ·rw [bxP x (fun q => i4 x q (List.mem_append_right _ hx))]; exact h1.nb x hx
 ·rw [flP x.1.1 x.1.2 (fun q => i5 x.1 (List.mem_append_left _ (List.mem_append_left _ (List.mem_map_of_mem hx))) q)]; exact h1.rf x hx
 ·-- the same in the end
  have a1 : (e.app (p.app st)).tm = (p.app (e.app st)).tm:=by
   funext s
   simp only [Ev.fp] at i1
   rcases hp : p.ws with _ | ⟨d,v⟩ <;> rcases he : e.ws with _ | ⟨d',v'⟩ <;> simp only [Ev.app,hp,he]
   rw [hp,he] at i1
   have : d ≠ d':=fun q => i1 d (by simp) (by simp [q])
   by_cases h : s = d
   ·subst h; simp [this]
   ·simp [h]
  have a2 : (e.app (p.app st)).bx = (p.app (e.app st)).bx:=by
   funext s
   simp only [Ev.fp] at i3
   rcases hp : p.wb with _ | ⟨d,v⟩ <;> rcases he : e.wb with _ | ⟨d',v'⟩ <;> simp only [Ev.app,hp,he]
   rw [hp,he] at i3
   have : d ≠ d':=fun q => i3 d (by simp) (by simp [q])
   by_cases h : s = d
   ·subst h; simp [this]
   ·simp [h]
  have a3 : (e.app (p.app st)).fl = (p.app (e.app st)).fl:=by
   funext s o
   by_cases hp : (s,o) ∈ p.fp.fr
   ·have he:=i5 (s,o) hp
    simp only [Ev.fp,List.mem_append,not_or] at he
    have f1 : ∀ st' : FS,(e.app st').fl s o = st'.fl s o:=by
     intro st'
     rcases hw : e.sf with _ | ⟨d,v⟩
     ·simp [Ev.app,hw,he.1.2]
     ·rw [hw] at he; simp only [List.mem_singleton] at he; simp [Ev.app,hw,he.1.2,he.2]
    rw [f1]
    simp only [Ev.app]
    have f2:=f1 st
    simp only [Ev.app] at f2
    rw [f2]
   ·simp only [Ev.fp,List.mem_append,not_or] at hp
    have f1 : ∀ st' : FS,(p.app st').fl s o = st'.fl s o:=by
     intro st'
     rcases hw : p.sf with _ | ⟨d,v⟩
     ·simp [Ev.app,hw,hp.1.2]
     ·rw [hw] at hp; simp only [List.mem_singleton] at hp; simp [Ev.app,hw,hp.1.2,hp.2]
    rw [f1 (e.app st)]
    have f2:=f1 st
    simp only [Ev.app] at f2 ⊢
    rw [f2]
  generalize e.app (p.app st) = x at a1 a2 a3 ⊢
  generalize p.app (e.app st) = y at a1 a2 a3 ⊢
  cases x; cases y
  simp only at a1 a2 a3
  rw [a1,a2,a3]
def Fires : List Ev → FS → FS → Prop
 | [],st,st' => st = st'
 | e :: r,st,st' => e.ok st ∧ Fires r (e.app st) st'
theorem fires_first {e : Ev} {post : List Ev} {st' : FS} : ∀ {pre : List Ev} {st : FS},Fires (pre ++ e :: post) st st' → (∀ p ∈ pre,indep p.fp e.fp = true) → e.ok st ∧ Fires (pre ++ post) (e.app st) st'
 | [],st,h,_ => h
 | p :: pre,st,h,hi => by
  obtain ⟨h,hr⟩:=h
  obtain ⟨h1,h2⟩:=fires_first (pre:=pre) hr (fun q hq => hi q (by simp [hq]))
  obtain ⟨q1,q2,q3⟩:=ev_swap (hi p (by simp)) h h1
  rw [q3] at h2
  exact ⟨q1,q2,h2⟩
def grdOf (ops : Array Oper) (o : Oper) : Option (Option (Nat × Bool)):=match o.guard with
 | none => some none
 | some (j,want) => match ops[j]? with
  | some oj => oj.dst.map fun d => some (d,want)
  | none => none
def compO (P : Program) (N : Nat) (rw : List Nat) (ops : Array Oper) (o : Oper) : Option IOp :=
 match comp P rw ops.toList o,grdOf ops o with
 | some i,some g => if o.dst.all (fun d => decide (d < N)) then some ⟨o.dst,g,i⟩ else none
 | _,_ => none
def compL (P : Program) (N : Nat) (rw : List Nat) (ops : Array Oper) : List Oper → Option (List IOp)
 | [] => some []
 | o :: r => match compO P N rw ops o,compL P N rw ops r with
  | some i,some is => some (i :: is)
  | _,_ => none
def StepOk (P : Program) (ops : Array Oper) (N : Nat) (o : Oper) (ev : Ev) : Prop :=
 ∀ (base : Nat → Prop) (w0 : World) (I0 : Still) (st : FS) (a : Act) (w : World) (K : Act → World → Prop) (Q : Exit → Act → World → Prop),
  Rel base w0 I0 N st a w → ev.ok st → (∀ a' w',Rel base w0 I0 N (ev.app st) a' w' → K a' w') →
  if Region.wanted o (yielded ops a.tmps) = true then Oper.wp P o a w K Q else K (a.put o.dst undef) w
section
variable {P : Program} {N : Nat} {rw : List Nat} {ops : Array Oper}
theorem step_ev {o : Oper} {i : IOp} (hc : compO P N rw ops o = some i) {st : St} {r : List D} {ev : Ev} {c : Option (Nat × List D × List D)} (h : stepI i st r = some (ev,c)) (hcall : CallOk P c) : ev.ok st.F ∧ StepOk P ops N o ev:=by
 unfold compO at hc
 split at hc
 ·rename_i ins g hci hg
  split at hc
  ·rename_i hN
   cases hc
   have hN' : ∀ d,o.dst = some d → d < N:=fun d hd => by rw [hd] at hN; simpa using hN
   unfold stepI at h
   simp only at h
   unfold grdOf at hg
   split at hg
   ·rename_i hgd
    cases hg
    obtain ⟨h2,h3⟩:=comp_ok hci st r ev c h hcall
    refine ⟨h2,fun base w0 I0 st a w K Q hr hok hK => ?_⟩
    rw [if_pos (by simp [Region.wanted,hgd])]
    exact h3 base w0 I0 N st a w K Q hN' hr hok hK
   ·rename_i j want hgd
    split at hg
    ·rename_i oj hoj
     obtain ⟨d,hd,rfl⟩:=Option.map_eq_some_iff.1 hg
     simp only at h
     split at h
     ·rename_i b hb
      have hy : ∀ {base : Nat → Prop} {w0 : World} {I0 : Still} {st : FS} {a : Act} {w : World},Rel base w0 I0 N st a w → st.tm d = some (vB b) → yielded ops a.tmps j = some b:=by
       intro base w0 I0 st a w ⟨I,ρ,hr⟩ hs
       obtain ⟨u,q1,q2⟩:=hr.tm d _ hs
       have:=plain_of q2
       subst this
       simp [yielded,hoj,hd,q1]
      split at h
      ·rename_i hbw
       split at h
       ·rename_i ev' c' hi
        cases h
        obtain ⟨h2,h3⟩:=comp_ok hci st r ev' c hi hcall
        refine ⟨⟨fun x hx => ?_,h2.rb,h2.nb,h2.rf⟩,fun base w0 I0 st' a w K Q hr hok hK => ?_⟩
        ·rcases List.mem_cons.1 hx with rfl | hx
         ·exact hb
         ·exact h2.rs x hx
        ·have hyy:=hy hr (hok.rs (d,vB b) (List.mem_cons_self ..))
         rw [if_pos (by simp [Region.wanted,hgd,hyy,hbw])]
         exact h3 base w0 I0 N st' a w K Q hN' hr ⟨fun x hx => hok.rs x (List.mem_cons_of_mem _ hx),hok.rb,hok.nb,hok.rf⟩ hK
       ·cases h
      ·rename_i hbw
       cases h
       refine ⟨?_,fun base w0 I0 st' a w K Q hr hok hK => ?_⟩
       ·cases hdst : o.dst with
        | none => exact ⟨fun x hx => by simp [skipEv] at hx; subst hx; exact hb,fun x hx => by simp [skipEv] at hx,fun x hx => by simp [skipEv] at hx,fun x hx => by simp [skipEv] at hx⟩
        | some e => exact ⟨fun x hx => by simp [skipEv] at hx; subst hx; exact hb,fun x hx => by simp [skipEv] at hx,fun x hx => by simp [skipEv] at hx,fun x hx => by simp [skipEv] at hx⟩
       ·have hs : st'.tm d = some (vB b):=by
         cases hdst : o.dst with
         | none => rw [hdst] at hok; exact hok.rs (d,vB b) (by simp [skipEv])
         | some e => rw [hdst] at hok; exact hok.rs (d,vB b) (by simp [skipEv])
        have hyy:=hy hr hs
        rw [if_neg (by simp [Region.wanted,hgd,hyy,hbw])]
        exact hK _ _ (skip_rel hN' hr)
     ·rename_i hb
      cases h
      refine ⟨?_,fun base w0 I0 st' a w K Q hr hok hK => ?_⟩
      ·cases hdst : o.dst with
       | none => exact ⟨fun x hx => by simp [skipEv] at hx; subst hx; exact hb,fun x hx => by simp [skipEv] at hx,fun x hx => by simp [skipEv] at hx,fun x hx => by simp [skipEv] at hx⟩
       | some e => exact ⟨fun x hx => by simp [skipEv] at hx; subst hx; exact hb,fun x hx => by simp [skipEv] at hx,fun x hx => by simp [skipEv] at hx,fun x hx => by simp [skipEv] at hx⟩
      ·have hs : st'.tm d = some (tD []):=by
        cases hdst : o.dst with
        | none => rw [hdst] at hok; exact hok.rs (d,tD []) (by simp [skipEv])
        | some e => rw [hdst] at hok; exact hok.rs (d,tD []) (by simp [skipEv])
       have hyy : yielded ops a.tmps j = none:=by
        obtain ⟨I,ρ,hr⟩:=hr
        obtain ⟨u,q1,q2⟩:=hr.tm d _ hs
        obtain ⟨us,rfl,_⟩:=q2.invT
        simp [yielded,hoj,hd,q1]
       rw [if_neg (by simp [Region.wanted,hgd,hyy])]
       exact hK _ _ (skip_rel hN' hr)
     ·cases h
    ·cases hg
  ·cases hc
 ·cases hc
theorem callOk_none : CallOk P none:=fun f cs ro h => by cases h
theorem callOk_some {f : Nat} {cs r : List D} (h : ∃ cs',ValsLe cs cs' ∧ TellG P f cs' r) : CallOk P (some (f,cs,r)):=fun f' cs' ro e => by cases e; exact h
theorem run_list {Q : Exit → Act → World → Prop} {base : Nat → Prop} {w0 : World} {I0 : Still} {l2 : List Oper} : ∀ (l : List Oper) (is : List IOp) (rs : List (List D)) (st st' : St) (q : List (Nat × List D × List D)) (a : Act) (w : World),compL P N rw ops l = some is → evalOps is rs st = some (st',q) → Obl P q → Rel base w0 I0 N st.F a w →
  (∀ a' w',Rel base w0 I0 N st'.F a' w' → wpList P ops Q l2 a' w') → wpList P ops Q (l ++ l2) a w
 | [],is,rs,st,st',q,a,w,hc,h,ho,hr,hK => by
  simp [compL] at hc; subst hc
  simp [evalOps] at h
  obtain ⟨rfl,rfl⟩:=h
  exact hK a w hr
 | o :: l,is,rs,st,st',q,a,w,hc,h,ho,hr,hK => by
  simp only [compL] at hc
  split at hc
  ·rename_i i is' h1 h2
   cases hc
   simp only [evalOps] at h
   split at h
   ·cases h
   ·rename_i ev hs
    obtain ⟨q2,q3⟩:=step_ev h1 hs callOk_none
    refine wpList_step fun K' hK' => q3 base w0 I0 st.F a w K' Q hr q2 fun a' w' hr' => hK' a' w' ?_
    exact run_list l is' rs (st.app ev) st' q a' w' h2 h ho (by rw [app_F]; exact hr') hK
   ·rename_i ev f cs ro hs
    split at h
    ·cases h
    ·rename_i st1 q1 he
     cases h
     obtain ⟨q2,q3⟩:=step_ev h1 hs (callOk_some ho.1)
     refine wpList_step fun K' hK' => q3 base w0 I0 st.F a w K' Q hr q2 fun a' w' hr' => hK' a' w' ?_
     exact run_list l is' rs.tail (st.app ev) st' q1 a' w' h2 he ho.2 (by rw [app_F]; exact hr') hK
  ·cases hc
def direct (o : Oper) : List Nat:=(o.after.toList.filter (fun e => Region.binds .any e)).map (·.on)
def ancs : List Oper → List (List Nat) → List (List Nat)
 | [],acc => acc
 | o :: r,acc => ancs r (acc ++ [(direct o ++ (direct o).flatMap (fun k => (acc[k]?).getD [])).eraseDups])
def lower (l : List Oper) : Bool:=(l.zipIdx).all fun (o,i) => (direct o).all fun k => decide (k < i)
def pairsOk (anc : List (List Nat)) (fs : List Foot) : Bool :=
 (List.range fs.length).all fun j => (List.range j).all fun i => (match fs[i]?,fs[j]? with | some a,some b => indep a b | _,_ => false) || ((anc[j]?).getD []).contains i
def Anc (ops : Array Oper) (k i : Nat) : Prop:=∀ R : Nat → Nat → Prop,(∀ i k o,ops[i]? = some o → k ∈ direct o → R k i) → (∀ i k m o,ops[i]? = some o → m ∈ direct o → R k m → R k i) → R k i
theorem Anc.one {i k : Nat} {o : Oper} (h : ops[i]? = some o) (hk : k ∈ direct o) : Anc ops k i:=fun R h1 _ => h1 i k o h hk
theorem Anc.more {i k m : Nat} {o : Oper} (h : ops[i]? = some o) (hk : m ∈ direct o) (hm : Anc ops k m) : Anc ops k i:=fun R h1 h2 => h2 i k m o h hk (hm R h1 h2)
theorem ancs_ok : ∀ (l : List Oper) (acc : List (List Nat)),(∀ j,l[j]? = ops[acc.length + j]?) → (∀ i k xs,acc[i]? = some xs → k ∈ xs → Anc ops k i) → ∀ i k xs,(ancs l acc)[i]? = some xs → k ∈ xs → Anc ops k i
 | [],acc,_,hacc => hacc
 | o :: r,acc,hl,hacc => by
  refine ancs_ok r _ (fun j => ?_) (fun i k xs hi hk => ?_)
  ·have:=hl (j + 1)
   simp only [List.getElem?_cons_succ] at this
   rw [this,List.length_append,List.length_singleton]
   congr 1; omega
  ·by_cases hlt : i < acc.length
   ·rw [List.getElem?_append_left hlt] at hi
    exact hacc i k xs hi hk
   ·rw [List.getElem?_append_right (by omega)] at hi
    have h0 : i - acc.length = 0:=by
     have:=(List.getElem?_eq_some_iff.1 hi).1
     simp at this; omega
    rw [h0] at hi
    simp at hi
    subst hi
    have ho : ops[i]? = some o:=by
     have:=hl 0
     simp only [List.getElem?_cons_zero,Nat.add_zero] at this
     rw [show i = acc.length by omega]; exact this.symm
    rw [List.mem_eraseDups,List.mem_append] at hk
    rcases hk with hk | hk
    ·exact .one ho hk
    ·obtain ⟨m,hm,hk⟩:=List.mem_flatMap.1 hk
     cases hx : acc[m]? with
     | none => simp [hx] at hk
     | some ys => simp [hx] at hk; exact .more ho hm (hacc m k ys hx hk)
def AllOk (P : Program) (ops : Array Oper) (N : Nat) : List Oper → List Ev → Prop
 | [],[] => True
 | o :: l,e :: es => StepOk P ops N o e ∧ AllOk P ops N l es
 | _,_ => False
theorem AllOk.at : ∀ {l : List Oper} {es : List Ev},AllOk P ops N l es → l.length = es.length ∧ ∀ (i : Nat) o e,l[i]? = some o → es[i]? = some e → StepOk P ops N o e
 | [],[],_ => ⟨rfl,fun i o e h => by simp at h⟩
 | [],_ :: _,h => by simp [AllOk] at h
 | _ :: _,[],h => by simp [AllOk] at h
 | o :: l,e :: es,h => by
  have ih:=AllOk.at h.2
  refine ⟨by simp [ih.1],fun i o' e' ho he => ?_⟩
  cases i with
  | zero => simp at ho he; subst ho he; exact h.1
  | succ n => exact ih.2 n o' e' (by simpa using ho) (by simpa using he)
theorem run_fires : ∀ (l : List Oper) (is : List IOp) (rs : List (List D)) (st st' : St) (fs : List Foot) (q : List (Nat × List D × List D)),compL P N rw ops l = some is → evalD is rs st = some (st',fs,q) → Obl P q → ∃ evs,Fires evs st.F st'.F ∧ AllOk P ops N l evs ∧ fs = evs.map Ev.fp
 | [],is,rs,st,st',fs,q,hc,h,ho => by
  simp [compL] at hc; subst hc
  simp [evalD] at h
  obtain ⟨rfl,rfl,rfl⟩:=h
  exact ⟨[],rfl,trivial,rfl⟩
 | o :: r,is,rs,st,st',fs,q,hc,h,ho => by
  simp only [compL] at hc
  split at hc
  ·rename_i i is' h1 h2
   cases hc
   simp only [evalD] at h
   split at h
   ·cases h
   ·rename_i ev hs
    split at h
    ·cases h
    ·rename_i st1 fs1 q1 he
     cases h
     obtain ⟨q2,q3⟩:=step_ev h1 hs callOk_none
     obtain ⟨evs,r1,r2,r3⟩:=run_fires r is' rs (st.app ev) st' fs1 q h2 he ho
     rw [app_F] at r1
     exact ⟨ev :: evs,⟨q2,r1⟩,⟨q3,r2⟩,by rw [r3]; rfl⟩
   ·rename_i ev f cs ro hs
    split at h
    ·cases h
    ·rename_i st1 fs1 q1 he
     cases h
     obtain ⟨q2,q3⟩:=step_ev h1 hs (callOk_some ho.1)
     obtain ⟨evs,r1,r2,r3⟩:=run_fires r is' rs.tail (st.app ev) st' fs1 q1 h2 he ho.2
     rw [app_F] at r1
     exact ⟨ev :: evs,⟨q2,r1⟩,⟨q3,r2⟩,by rw [r3]; rfl⟩
  ·cases hc
theorem fires_at {evs : List Ev} {rem : List Nat} (i : Nat) (h : i ∈ rem) : ∃ pre post,rem = pre ++ i :: post ∧ i ∉ pre:=by
 induction rem with
 | nil => cases h
 | cons k r ih =>
  by_cases e : k = i
  ·exact ⟨[],r,by rw [e]; rfl,by simp⟩
  ·rcases List.mem_cons.1 h with h | h
   ·exact absurd h.symm e
   ·obtain ⟨pre,post,rfl,hp⟩:=ih h
    exact ⟨k :: pre,post,rfl,by simp [hp,Ne.symm e]⟩
theorem any_order {Q : Exit → Act → World → Prop} {base : Nat → Prop} {w0 : World} {I0 : Still} {evs : List Ev} (hlen : evs.length = ops.size) (hok : ∀ (i : Nat) o e,ops[i]? = some o → evs[i]? = some e → StepOk P ops N o e)
  (hlow : ∀ (i : Nat) o k,ops[i]? = some o → k ∈ direct o → k < i) (hpair : ∀ (i j : Nat) a b,i < j → evs[i]? = some a → evs[j]? = some b → indep a.fp b.fp = true ∨ Anc ops i j) {fin : FS} (hQ : ∀ a w,Rel base w0 I0 N fin a w → Q .normal a w) :
  ∀ (fuel : Nat) (listed : Array Bool) (rem : List Nat) (st : FS) (a : Act) (w : World),listed.size = ops.size → rem.length = fuel → (∀ i,i ∈ rem ↔ i < ops.size ∧ listed.getD i true = false) → rem.Pairwise (· < ·) →
   (∀ (i k : Nat) o,ops[i]? = some o → listed.getD i true = true → i < ops.size → k ∈ direct o → listed.getD k false = true) → Fires (rem.filterMap (fun i => evs[i]?)) st fin → Rel base w0 I0 N st a w → wpAny P .any ops Q fuel listed a w:=by
 have hdir : ∀ (o : Oper) (k : Nat),k ∈ direct o ↔ ∃ e ∈ o.after,Region.binds .any e = true ∧ e.on = k:=by
  intro o k
  simp only [direct,List.mem_map,List.mem_filter,Array.mem_toList_iff]
  constructor
  ·rintro ⟨e,⟨h1,h2⟩,h3⟩; exact ⟨e,h1,h2,h3⟩
  ·rintro ⟨e,h1,h2,h3⟩; exact ⟨e,⟨h1,h2⟩,h3⟩
 intro fuel
 induction fuel with
 | zero =>
  intro listed rem st a w hsz hr hmem hpw hdown hf hrel
  have hrem : rem = []:=List.eq_nil_of_length_eq_zero hr
  subst hrem
  refine ⟨?_,?_⟩
  ·apply List.eq_nil_iff_forall_not_mem.2
   intro i hi
   obtain ⟨h1,o,h2,_⟩:=mem_ready.1 hi
   have:=(hmem i).2 ⟨(Array.getElem?_eq_some_iff.1 h2).1,h1⟩
   cases this
  ·cases (hf : st = fin); exact hQ a w hrel
 | succ fuel ih =>
  intro listed rem st a w hsz hr hmem hpw hdown hf hrel
  refine ⟨fun h0 => ?_,fun i hi => ?_⟩
  ·-- the first that is left may come up
   exfalso
   cases rem with
   | nil => simp at hr
   | cons i r =>
    obtain ⟨h1,h2⟩:=(hmem i).1 (by simp)
    have : i ∈ Region.ready .any ops listed:=by
     refine mem_ready.2 ⟨h2,ops[i],Array.getElem?_eq_getElem h1,fun e he hb => ?_⟩
     have hk:=hlow i ops[i] e.on (Array.getElem?_eq_getElem h1) ((hdir _ _).2 ⟨e,he,hb,rfl⟩)
     by_cases hl : listed.getD e.on true = false
     ·have:=(hmem e.on).2 ⟨by omega,hl⟩
      rcases List.mem_cons.1 this with q | q
      ·omega
      ·have:=(List.pairwise_cons.1 hpw).1 e.on q; omega
     ·have hlt : e.on < listed.size:=by omega
      simp only [Array.getD_eq_getD_getElem?,Array.getElem?_eq_getElem hlt,Option.getD_some] at hl ⊢
      simpa using hl
    rw [h0] at this
    cases this
  ·obtain ⟨h1,o,h2,h3⟩:=mem_ready.1 hi
   have hisz : i < ops.size:=(Array.getElem?_eq_some_iff.1 h2).1
   have hirem : i ∈ rem:=(hmem i).2 ⟨hisz,h1⟩
   obtain ⟨pre,post,rfl,hnp⟩:=fires_at (evs:=evs) i hirem
   have hie : i < evs.length:=by rw [hlen]; exact hisz
   -- what is not listed is no one's that i waits for
   have hanc : ∀ j k,Anc ops j k → (∀ m o',ops[k]? = some o' → m ∈ direct o' → listed.getD m false = true) → listed.getD j false = true:=by
    intro j k h
    refine h (fun j k => (∀ m o',ops[k]? = some o' → m ∈ direct o' → listed.getD m false = true) → listed.getD j false = true) (fun i k o h hk hd => hd _ _ h hk) (fun i k m o h hk ih' hd => ?_)
    ·have hl:=hd m o h hk
     refine ih' fun m' o' ho' hm' => ?_
     have hmsz : m < ops.size:=(Array.getElem?_eq_some_iff.1 ho').1
     refine hdown m m' o' ho' ?_ hmsz hm'
     have hlt : m < listed.size:=by omega
     simp only [Array.getD_eq_getD_getElem?,Array.getElem?_eq_getElem hlt,Option.getD_some] at hl ⊢
     exact hl
   have hdi : ∀ m o',ops[i]? = some o' → m ∈ direct o' → listed.getD m false = true:=by
    intro m o' ho' hm
    rw [h2] at ho'; cases ho'
    obtain ⟨e,he,hb,rfl⟩:=(hdir _ _).1 hm
    exact h3 e he hb
   have hlist : (pre ++ i :: post).filterMap (fun i => evs[i]?) = pre.filterMap (fun i => evs[i]?) ++ evs[i] :: post.filterMap (fun i => evs[i]?):=by
    rw [List.filterMap_append,List.filterMap_cons,List.getElem?_eq_getElem hie]
   rw [hlist] at hf
   obtain ⟨hokst,hf'⟩:=fires_first hf (fun p hp => by
    obtain ⟨j,hj,hjp⟩:=List.mem_filterMap.1 hp
    have hji : j < i:=by
     have:=List.pairwise_append.1 hpw
     exact this.2.2 j hj i (by simp)
    rcases hpair j i p evs[i] hji hjp (List.getElem?_eq_getElem hie) with q | q
    ·exact q
    ·exfalso
     have hl:=hanc j i q hdi
     obtain ⟨g1,g2⟩:=(hmem j).1 (by simp [hj])
     have hlt : j < listed.size:=by omega
     simp only [Array.getD_eq_getD_getElem?,Array.getElem?_eq_getElem hlt,Option.getD_some] at hl g2
     rw [g2] at hl; cases hl)
   unfold wpOp
   simp only [h2]
   have hstep:=hok i o evs[i] h2 (List.getElem?_eq_getElem hie) base w0 I0 st a w (wpAny P .any ops Q fuel (listed.setIfInBounds i true)) Q hrel hokst (fun a' w' hrel' => by
    have hset : ∀ j (b : Bool),(listed.setIfInBounds i true).getD j b = if j = i then true else listed.getD j b:=by
     intro j b
     simp only [Array.getD_eq_getD_getElem?,Array.getElem?_setIfInBounds]
     by_cases e : i = j
     ·subst e; simp [show i < listed.size by omega]
     ·rw [if_neg e,if_neg (fun q => e q.symm)]
    refine ih (listed.setIfInBounds i true) (pre ++ post) _ a' w' (by simp [hsz]) (by simp at hr ⊢; omega) (fun j => ?_) ?_ (fun j k o' ho' hj hjs hk => ?_) (by rw [List.filterMap_append]; exact hf') hrel'
    ·rw [hset]
     constructor
     ·intro hj
      have hne : j ≠ i:=by
       intro e; subst e
       rcases List.mem_append.1 hj with q | q
       ·exact hnp q
       ·have:=List.pairwise_append.1 hpw
        have:=(List.pairwise_cons.1 this.2.1).1 j q
        omega
      rw [if_neg hne]
      exact (hmem j).1 (by rcases List.mem_append.1 hj with q | q <;> simp [q])
     ·rintro ⟨g1,g2⟩
      split at g2
      ·cases g2
      ·rename_i hne
       have:=(hmem j).2 ⟨g1,g2⟩
       simp only [List.mem_append,List.mem_cons] at this ⊢
       rcases this with q | q | q
       ·exact .inl q
       ·exact absurd q hne
       ·exact .inr q
    ·have:=List.pairwise_append.1 hpw
     exact List.pairwise_append.2 ⟨this.1,(List.pairwise_cons.1 this.2.1).2,fun x hx y hy => this.2.2 x hx y (by simp [hy])⟩
    ·rw [hset] at hj ⊢
     split
     ·rfl
     ·split at hj
      ·rename_i e; subst e; exact hdi k o' ho' hk
      ·exact hdown j k o' ho' hj hjs hk)
   by_cases hw : Region.wanted o (yielded ops a.tmps) = true
   ·rw [if_pos hw] at hstep ⊢
    exact .inl hstep
   ·rw [if_neg hw] at hstep ⊢
    exact hstep
theorem run_any {Q : Exit → Act → World → Prop} {base : Nat → Prop} {w0 : World} {I0 : Still} {is : List IOp} {rs : List (List D)} {st st' : St} {fs : List Foot} {q : List (Nat × List D × List D)} {a : Act} {w : World} {id : Nat} (hm : P.follows .mixedOrders = true) (hc : compL P N rw ops ops.toList = some is) (hlow : lower ops.toList = true)
  (h : evalD is rs st = some (st',fs,q)) (h3 : pairsOk (ancs ops.toList []) fs = true) (ho : Obl P q) (hr : Rel base w0 I0 N st.F a w) (hK : ∀ a' w',Rel base w0 I0 N st'.F a' w' → Q .normal a' w') : (Code.region id ops true).wp P Q a w:=by
 obtain ⟨evs,h1,h2,rfl⟩:=run_fires ops.toList is rs st st' fs q hc h ho
 obtain ⟨q1,q2⟩:=h2.at
 have hlen : evs.length = ops.size:=by rw [← q1]; simp
 have hr' : Rel base w0 I0 N st.F a { w with drawn:=w.drawn + 1 }:=by
  obtain ⟨I,ρ,hr⟩:=hr
  exact ⟨I,ρ,hr.later0 (w':=w.drew) (Below.drew (Below.refl _ _))⟩
 refine wp_region_any hm (any_order (P:=P) (N:=N) (evs:=evs) hlen (fun i o e ho he => q2 i o e (by simpa using ho) he) (fun i o k ho hk => ?_) (fun i j x y hij hx hy => ?_) (fin:=st'.F) (fun a w hr => hK a w hr) ops.size _ (List.range ops.size) st.F a _ (by simp) (by simp) (fun i => ?_) ?_ (fun i k o ho hl hi hk => ?_) ?_ hr')
 ·have hall:=List.all_eq_true.1 hlow (o,i) (by
   rw [List.mem_zipIdx_iff_getElem?]; simpa using ho)
  simpa using List.all_eq_true.1 hall k hk
 ·have hj : j < evs.length:=(List.getElem?_eq_some_iff.1 hy).1
  have hp:=List.all_eq_true.1 (List.all_eq_true.1 h3 j (by simpa using hj)) i (by simpa using hij)
  simp only [List.getElem?_map,hx,hy,Option.map_some,Bool.or_eq_true] at hp
  rcases hp with hp | hp
  ·exact .inl hp
  ·right
   cases ha : (ancs ops.toList [])[j]? with
   | none => simp [ha] at hp
   | some xs =>
    simp only [ha,Option.getD_some,List.contains_iff_mem] at hp
    exact ancs_ok (ops:=ops) ops.toList [] (fun j => by simp) (fun i k xs h => by simp at h) j i xs ha hp
 ·simp only [List.mem_range]
  constructor
  ·intro hi; exact ⟨hi,by simp [Array.getD_eq_getD_getElem?,hi]⟩
  ·exact fun h => h.1
 ·exact List.pairwise_lt_range
 ·simp [Array.getD_eq_getD_getElem?,hi] at hl
 ·have : (List.range ops.size).filterMap (fun i => evs[i]?) = evs:=by
   rw [← hlen]
   apply List.ext_getElem?
   intro n
   have aux : ∀ (l : List Ev),(List.range l.length).filterMap (fun i => l[i]?) = l:=by
    intro l
    induction l with
    | nil => rfl
    | cons x r ih => rw [List.length_cons,List.range_succ_eq_map,List.filterMap_cons]; simp only [List.getElem?_cons_zero,List.filterMap_map,Function.comp_def,List.getElem?_cons_succ]; rw [ih]
   rw [aux]
  rw [this]
  exact h1
end
end Go.Proofs.Ytgaofjiidedcbad.ab
