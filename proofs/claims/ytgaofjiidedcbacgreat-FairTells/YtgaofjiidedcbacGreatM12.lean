import Derived.Test.YtgaofjiidedcbacGreatAbsComp
set_option linter.unusedVariables false
set_option linter.unusedSimpArgs false
namespace Go.Proofs.YtgaofjiidedcbacGreat.ab
open Go Go.RowKit
def feedsK (c : Call) (d : Option Nat) : Bool:=match c.callee,c.args.toList with
 | .builtin .append,.tmp t :: _ => some t == d
 | _,_ => false
def feeds (ops : List Oper) (d : Option Nat) : Bool:=ops.any fun o => match o.op with
 | .call c => feedsK c d
 | _ => false
section
variable (P : Program) (d : Nat)
def compBin (op : BinOp) (t : TypeId) (x y : Operand) : Option Ins :=
 match P.underlying t with
 | some (.int _) => match op with
  | .xor => some (iXor d x y)
  | op => some (iBin d op x y)
 | some .string => some (iBin d op x y)
 | some .bool => match op with
  | .eql => some (iBinB d true x y)
  | .neq => some (iBinB d false x y)
  | _ => none
 | some (.array 3 e) => match P.underlying e,sizeT P e,P.eqGuardType P.depth t,op with
  | some (.int .i64),some 1,false,.eql => some (iEqA d true x y)
  | some (.int .i64),some 1,false,.neq => some (iEqA d false x y)
  | _,_,_,_ => none
 | some (.slice _) => match y,op with
  | .const (.slice none 0 0),.eql => some (iNil d true x)
  | .const (.slice none 0 0),.neq => some (iNil d false x)
  | _,_ => none
 | _ => none
def compConv (s t : TypeId) (x : Operand) : Option Ins :=
 match P.underlying s,P.underlying t with
 | some (.slice e),some .string => match P.underlying e with
  | some (.int .u8) => some (iStr d x)
  | _ => none
 | some (.int _),some (.int k) => some (iCvi d k x)
 | some .string,some (.slice e) => match P.underlying e with
  | some (.int .u8) => some (iBts d x)
  | _ => none
 | some (.slice e),some (.slice _) => if s = t then (match x,P.underlying e with
  | .tmp y,some (.int .u8) => some (iCst d y)
  | _,_ => none) else none
 | _,_ => none
def compFld (t : TypeId) (x : Operand) (f : Nat) : Option Ins :=
 match P.underlying t with
 | some (.struct fs) => match fs[f]? with
  | some fd => match sizeT P fd.type,aggT P fd.type with
   | some n,some ag => some (iFld d fd.offset n ag x)
   | _,_ => none
  | none => none
 | _ => none
def compFad (t : TypeId) (x : Operand) (f : Nat) : Option Ins :=
 match P.underlying t with
 | some (.struct fs) => match fs[f]? with
  | some fd => match sizeT P fd.type with
   | some n => if n = 0 then none else some (iFad d fd.offset x)
   | none => none
  | none => none
 | _ => none
def compIndex (t : TypeId) (x i : Operand) : Option Ins :=
 match P.underlying t with
 | some (.array n e) => match sizeT P e with
  | some z => some (iIaA d n z x i)
  | none => none
 | some (.slice e) => match sizeT P e with
  | some z => some (iIaS d z x i)
  | none => none
 | _ => none
def compSlice (t : TypeId) (x : Operand) (lo hi : Option Operand) : Option Ins :=
 match P.underlying t with
 | some (.slice e) => match sizeT P e with
  | some z => some (iSlc d z x lo hi)
  | none => none
 | _ => none
def compBuild (t : TypeId) (ps : List (Nat × Operand)) : Option Ins :=
 match P.underlying t with
 | some (.struct fs) => match zeroT P t,placesT P fs.toList with
  | some zs,some pl => match ps.mapM (fun p => pl[p.1]?) with
   | some qs => some (iBld d zs qs (ps.map (·.2)))
   | none => none
  | _,_ => none
 | _ => none
def compLoad (t : TypeId) (x : Operand) (tr : Bool) : Option Ins :=
 match sizeT P t,aggT P t with
 | some n,some ag => some (iLoad d n ag x tr)
 | _,_ => none
def compAlo (t : TypeId) : Option Ins:=match zeroT P t with
 | some zs => some (iAlo d zs)
 | none => none
def compRow (t : TypeId) (n : Nat) (ps : List (Nat × Operand)) : Option Ins :=
 match P.underlying t with
 | some (.slice e) => match P.info? e with
  | some i => match i.zero with
   | some zv => if 0 < i.size ∧ zv.cells.size = i.size ∧ zv.cells.all plainV = true ∧ ps.map (·.1) = List.range n ∧ n * i.size ≤ 16777216 then some (iRow d e i.size (ps.map (·.2))) else none
   | none => none
  | none => none
 | _ => none
def compMkM (r : Option Operand) : Option Ins:=match r with
 | none => some (iMkM d)
 | some _ => none
def compLku (t : TypeId) (x y : Operand) (ok : Bool) : Option Ins:=match ok,P.underlying t with
 | false,some (.map k e) => match P.underlying k,(P.info? e).bind (·.zero) with
  | some (.int .i64),some z => if plainV z = true then some (iLku d z x y) else none
  | _,_ => none
 | _,_ => none
def compMkB (t : TypeId) (x y : Operand) : Option Ins:=match P.underlying t with
 | some (.slice e) => match P.info? e with
  | some i => match i.zero with
   | some zv => if (i.size = 1 ∧ zv.cells.size = 1 ∧ zv.cells.all plainV = true) ∧ i.bytes ≤ 1000 then some (iMkB d ((zv.cells.toList.map vD).headD (vD undef)) x y) else none
   | none => none
  | none => none
 | _ => none
def compMkS (t : TypeId) (x y : Operand) : Option Ins:=match P.underlying t with
 | some (.slice e) => match P.info? e,aggT P e with
  | some i,some ag => match i.zero with
   | some zv => if (0 < i.size ∧ zv.cells.size = i.size ∧ zv.cells.all plainV = true) ∧ (ag = true ∨ i.size = 1) ∧ d < 100000 ∧ i.bytes ≤ 1000 then some (iMkS d i.size i.bytes (elD ag (zv.cells.toList.map vD)) x y) else none
   | none => none
  | _,_ => none
 | _ => none
def compApp (rw : List Nat) (t t' : TypeId) (x y : Operand) : Option Ins :=
 if t = t' then match P.underlying t with
 | some (.slice e) => match P.info? e with
  | some i => match i.zero with
   | some zv => if 0 < i.size ∧ zv.cells.size = i.size ∧ 0 < i.bytes then (if d ∈ rw then (match x with | .tmp s => if d < 100000 then some (iApr d e i.size i.bytes s y) else none | _ => none) else if d + 1000000 ∈ rw then some (iAppH d e i.size i.bytes x y) else some (iApp d e i.size i.bytes x y)) else none
   | none => none
  | none => none
 | _ => none
 else none
def compCall (lend adr : Bool) (f : FuncId) (xs : List Operand) : Option Ins :=
 match P.funcs[f]? with
 | some fn => if (fn.name == "runtime.NumGoroutine") = false ∧ fn.body.isNone = false then some (if adr = true then iCallP d f xs else if lend = true then iCallL d f xs else iCall d f xs) else none
 | none => none
def compLen (t : TypeId) (x : Operand) : Option Ins :=
 match P.underlying t with
 | some (.slice _) => some (iLen d false x)
 | some .string => some (iLen d true x)
 | _ => none
def compK (rw : List Nat) (c : Call) : Option Ins :=
 match c.callee,c.args.toList,c.argTypes.toList with
 | .builtin .len,[x],[t] => compLen P d t x
 | .builtin .append,[x,y],[t,t'] => compApp P d rw t t' x y
 | .builtin .max,[x,y],_ => some (iMm d true x y)
 | .builtin .min,[x,y],_ => some (iMm d false x y)
 | .value (.func f),xs,_ => compCall P d (rw.contains d) (rw.contains (d + 2000000)) f xs
 | .value (.tmp s),xs,_ => some (iCallV d P s xs)
 | _,_,_ => none
def compMkf (f : Fn) (first captured : List Operand) : Option Ins:=match f,first,captured with
 | .func f,[],[.tmp s] => some (iMkf d f s)
 | _,_,_ => none
def compD (rw : List Nat) (ops : List Oper) (op : Op) : Option Ins :=
 match op with
 | .move x => some (iMov d x (feeds ops (some d) || rw.contains d))
 | .assign x => some (iMov d x true)
 | .pick c a b => some (iPick d c a b)
 | .binOp op t x y _ => compBin P d op t x y
 | .unOp .not _ x => some (iNot d x)
 | .nilCheck x => some (iNck d x)
 | .convert s t x => compConv P d s t x
 | .field t x f => compFld P d t x f
 | .fieldAddr t x f => compFad P d t x f
 | .indexAddr t x i => compIndex P d t x i
 | .extract x k => some (iExt d x k)
 | .slice t x lo hi none => compSlice P d t x lo hi
 | .build t ps => compBuild P d t ps.toList
 | .load t x => compLoad P d t x (feeds ops (some d) || rw.contains d)
 | .box _ x => if d ∈ rw then some (iBoxF d x) else some (iBox d x)
 | .makeFunc f first captured => compMkf d f first.toList captured.toList
 | .alloc e => compAlo P d e
 | .buildSlice t n ps => compRow P d t n ps.toList
 | .call c => compK P d rw c
 | .makeMap _ r => compMkM d r
 | .lookup t x y ok => compLku P d t x y ok
 | .makeSlice t x y => if d + 3000000 ∈ rw then compMkB P d t x y else compMkS P d t x y
 | _ => none
end
def compUpd (P : Program) (t : TypeId) (x y v : Operand) : Option Ins:=match P.underlying t with
 | some (.map k _) => match P.underlying k with
  | some (.int .i64) => some (iUpd x y v)
  | _ => none
 | _ => none
def compClr (P : Program) (c : Call) : Option Ins:=match c.callee,c.args.toList,c.argTypes.toList with
 | .builtin .clear,[x],[t] => match P.underlying t with
  | some (.slice e) => match P.info? e with
   | some i => match i.zero with
    | some zv => if zv.cells.size = i.size ∧ zv.cells.all plainV = true ∧ 0 < i.size then some (iClr i.size x) else none
    | none => none
   | none => none
  | _ => none
 | _,_,_ => none
def comp (P : Program) (rw : List Nat) (ops : List Oper) (o : Oper) : Option Ins :=
 match o.dst with
 | some d => compD P d rw ops o.op
 | none => match o.op with
  | .store t x y => match sizeT P t with
   | some n => some (iStor n x y)
   | none => none
  | .mapUpdate t x y v => compUpd P t x y v
  | .insert t x y v => compUpd P t x y v
  | .call c => compClr P c
  | _ => none
section
variable {P : Program} {o : Oper} {rw : List Nat} {ops : List Oper} {i : Ins} {d : Nat}
theorem mapM_get {pl : List (Nat × Nat)} : ∀ {ps : List (Nat × Operand)} {qs : List (Nat × Nat)},ps.mapM (fun p => pl[p.1]?) = some qs → (ps.map (·.1)).map (fun i => pl[i]?) = qs.map some
 | [],qs,h => by simp at h; subst h; rfl
 | p :: r,qs,h => by
  simp only [List.mapM_cons,Option.bind_eq_bind,Option.bind_eq_some_iff] at h
  obtain ⟨x,hx,ys,hy,h⟩:=h
  cases h
  simp [hx,mapM_get hy]
theorem compBin_ok {op : BinOp} {t t' : TypeId} {x y : Operand} (ho : o.op = .binOp op t x y t') (hd : o.dst = some d) (h : compBin P d op t x y = some i) : InsOk P o i:=by
 unfold compBin at h
 split at h
 ·split at h
  ·cases h; exact ins_xor ho hd
  ·cases h; exact ins_bin ho hd
 ·cases h; exact ins_bin ho hd
 ·rename_i ht
  split at h
  ·cases h; exact ins_binB (eq:=true) ho ht hd
  ·cases h; exact ins_binB (eq:=false) ho ht hd
  ·cases h
 ·rename_i ht
  split at h
  ·rename_i q1 q2 q3; cases h; exact ins_eqA (eq:=true) ho ht q1 q2 q3 hd
  ·rename_i q1 q2 q3; cases h; exact ins_eqA (eq:=false) ho ht q1 q2 q3 hd
  ·cases h
 ·rename_i ht
  split at h
  ·cases h; exact ins_nil (eq:=true) ho ht hd
  ·cases h; exact ins_nil (eq:=false) ho ht hd
  ·cases h
 ·cases h
theorem compConv_ok {s t : TypeId} {x : Operand} (ho : o.op = .convert s t x) (hd : o.dst = some d) (h : compConv P d s t x = some i) : InsOk P o i:=by
 unfold compConv at h
 split at h
 ·rename_i q1 q2
  split at h
  ·rename_i q3; cases h; exact ins_str ho q1 q3 q2 hd
  ·cases h
 ·rename_i q1 q2; cases h; exact ins_cvi ho q1 q2 hd
 ·rename_i q1 q2
  split at h
  ·rename_i q3; cases h; exact ins_bts ho q1 q2 q3 hd
  ·cases h
 ·rename_i q1 q2
  split at h
  ·rename_i hst
   subst hst
   split at h
   ·rename_i q3; cases h; exact ins_cst ho q1 q3 hd
   ·cases h
  ·cases h
 ·cases h
theorem compFld_ok {t : TypeId} {x : Operand} {f : Nat} (ho : o.op = .field t x f) (hd : o.dst = some d) (h : compFld P d t x f = some i) : InsOk P o i:=by
 unfold compFld at h
 split at h
 ·rename_i q1
  split at h
  ·rename_i q2
   split at h
   ·rename_i q3 q4; cases h; exact ins_fld ho q1 q2 q3 q4 hd
   ·cases h
  ·cases h
 ·cases h
theorem compFad_ok {t : TypeId} {x : Operand} {f : Nat} (ho : o.op = .fieldAddr t x f) (hd : o.dst = some d) (h : compFad P d t x f = some i) : InsOk P o i:=by
 unfold compFad at h
 split at h
 ·rename_i q1
  split at h
  ·rename_i q2
   split at h
   ·rename_i q3
    split at h
    ·cases h
    ·rename_i q4; cases h; exact ins_fad ho q1 q2 q3 q4 hd
   ·cases h
  ·cases h
 ·cases h
theorem compIndex_ok {t : TypeId} {x y : Operand} (ho : o.op = .indexAddr t x y) (hd : o.dst = some d) (h : compIndex P d t x y = some i) : InsOk P o i:=by
 unfold compIndex at h
 split at h
 ·rename_i q1
  split at h
  ·rename_i q2; cases h; exact ins_iaA ho q1 q2 hd
  ·cases h
 ·rename_i q1
  split at h
  ·rename_i q2; cases h; exact ins_iaS ho q1 q2 hd
  ·cases h
 ·cases h
theorem compSlice_ok {t : TypeId} {x : Operand} {lo hi : Option Operand} (ho : o.op = .slice t x lo hi none) (hd : o.dst = some d) (h : compSlice P d t x lo hi = some i) : InsOk P o i:=by
 unfold compSlice at h
 split at h
 ·rename_i q1
  split at h
  ·rename_i q2; cases h; exact ins_slc ho q1 q2 hd
  ·cases h
 ·cases h
theorem compBuild_ok {t : TypeId} {ps : Array (Nat × Operand)} (ho : o.op = .build t ps) (hd : o.dst = some d) (h : compBuild P d t ps.toList = some i) : InsOk P o i:=by
 unfold compBuild at h
 split at h
 ·rename_i q1
  split at h
  ·rename_i q2 q3
   split at h
   ·rename_i q4; cases h; exact ins_bld ho q1 q2 q3 (mapM_get q4) hd
   ·cases h
  ·cases h
 ·cases h
theorem compRow_ok {t : TypeId} {n : Nat} {ps : Array (Nat × Operand)} (ho : o.op = .buildSlice t n ps) (hd : o.dst = some d) (h : compRow P d t n ps.toList = some i) : InsOk P o i:=by
 unfold compRow at h
 split at h
 ·rename_i q1
  split at h
  ·rename_i q2
   split at h
   ·rename_i q3
    split at h
    ·rename_i q4; cases h; exact ins_row ho q1 q2 rfl q3 q4.1 q4.2.1 q4.2.2.1 q4.2.2.2.1 q4.2.2.2.2 hd
    ·cases h
   ·cases h
  ·cases h
 ·cases h
theorem compK_ok {c : Call} (ho : o.op = .call c) (hd : o.dst = some d) (h : compK P d rw c = some i) : InsOk P o i:=by
 unfold compK at h
 split at h
 ·rename_i x t k1 k2 k3
  have ho : o.op = .call { callee:=.builtin .len,args:=#[x],argTypes:=#[t] }:=by
   rw [ho]; cases c; simp only at k1 k2 k3
   rw [k1,Array.toList_inj.1 (k2.trans rfl : _ = (#[x] : Array Operand).toList),Array.toList_inj.1 (k3.trans rfl : _ = (#[t] : Array TypeId).toList)]
  unfold compLen at h
  split at h
  ·rename_i e q1; cases h; exact ins_len (s:=false) ho ⟨e,q1⟩ hd
  ·rename_i q1; cases h; exact ins_len (s:=true) ho q1 hd
  ·cases h
 ·rename_i x y t t' k1 k2 k3
  have ho : o.op = .call { callee:=.builtin .append,args:=#[x,y],argTypes:=#[t,t'] }:=by
   rw [ho]; cases c; simp only at k1 k2 k3
   rw [k1,Array.toList_inj.1 (k2.trans rfl : _ = (#[x,y] : Array Operand).toList),Array.toList_inj.1 (k3.trans rfl : _ = (#[t,t'] : Array TypeId).toList)]
  unfold compApp at h
  split at h
  ·rename_i htt; subst htt
   split at h
   ·rename_i q1
    split at h
    ·rename_i q2
     split at h
     ·rename_i q3
      split at h
      ·rename_i q4
       split at h
       ·split at h
        ·split at h
         ·rename_i q5; cases h; exact ins_apr ho q1 q2 q3 rfl rfl q4.2.1 q4.1 q4.2.2 q5 hd
         ·cases h
        ·cases h
       ·split at h
        ·cases h; exact ins_appH ho q1 q2 q3 rfl rfl q4.2.1 q4.1 q4.2.2 hd
        ·cases h; exact ins_app ho q1 q2 q3 rfl rfl q4.2.1 q4.1 q4.2.2 hd
      ·cases h
     ·cases h
    ·cases h
   ·cases h
  ·cases h
 ·rename_i x y k1 k2
  have ho : o.op = .call { callee:=.builtin (if true = true then .max else .min),args:=#[x,y],argTypes:=c.argTypes }:=by
   rw [ho]; cases c; simp only at k1 k2
   rw [k1,Array.toList_inj.1 (k2.trans rfl : _ = (#[x,y] : Array Operand).toList)]; rfl
  cases h; exact ins_mm ho hd
 ·rename_i x y k1 k2
  have ho : o.op = .call { callee:=.builtin (if false = true then .max else .min),args:=#[x,y],argTypes:=c.argTypes }:=by
   rw [ho]; cases c; simp only at k1 k2
   rw [k1,Array.toList_inj.1 (k2.trans rfl : _ = (#[x,y] : Array Operand).toList)]; rfl
  cases h; exact ins_mm ho hd
 ·rename_i f k1
  have ho : o.op = .call { callee:=.value (.func f),args:=c.args,argTypes:=c.argTypes }:=by
   rw [ho]; cases c; simp only at k1; rw [k1]
  unfold compCall at h
  split at h
  ·rename_i q1
   split at h
   ·rename_i q2; cases h
    split
    ·exact ins_callP ho q1 q2.1 q2.2 hd
    ·split
     ·exact ins_callL ho q1 q2.1 q2.2 hd
     ·exact ins_call ho q1 q2.1 q2.2 hd
   ·cases h
  ·cases h
 ·rename_i s k1
  cases h
  have ho : o.op = .call { callee:=.value (.tmp s),args:=c.args,argTypes:=c.argTypes }:=by
   rw [ho]; cases c; simp only at k1; rw [k1]
  exact ins_callV ho hd
 ·cases h
theorem compMkf_ok {f : Fn} {first captured : Array Operand} (ho : o.op = .makeFunc f first captured) (hd : o.dst = some d) (h : compMkf d f first.toList captured.toList = some i) : InsOk P o i:=by
 unfold compMkf at h
 split at h
 ·rename_i g s k2 k3
  cases h
  have e1 : first = #[]:=Array.toList_inj.1 (k2.trans rfl)
  have e2 : captured = #[.tmp s]:=Array.toList_inj.1 (k3.trans rfl)
  exact ins_mkf (by rw [ho,e1,e2]) hd
 ·cases h
theorem compClr_ok {c : Call} (ho : o.op = .call c) (hd : o.dst = none) (h : compClr P c = some i) : InsOk P o i:=by
 unfold compClr at h
 split at h
 ·rename_i x t k1 k2 k3
  have ho : o.op = .call { callee:=.builtin .clear,args:=#[x],argTypes:=#[t] }:=by
   rw [ho]; cases c; simp only at k1 k2 k3
   rw [k1,Array.toList_inj.1 (k2.trans rfl : _ = (#[x] : Array Operand).toList),Array.toList_inj.1 (k3.trans rfl : _ = (#[t] : Array TypeId).toList)]
  split at h
  ·rename_i q1
   split at h
   ·rename_i q2
    split at h
    ·rename_i q3
     split at h
     ·rename_i q4; cases h; exact ins_clr ho q1 q2 q3 rfl q4.1 q4.2.1 q4.2.2 hd
     ·cases h
    ·cases h
   ·cases h
  ·cases h
 ·cases h
theorem compUpd_ok {t : TypeId} {x y v : Operand} (ho : o.op = .mapUpdate t x y v ∨ o.op = .insert t x y v) (hd : o.dst = none) (h : compUpd P t x y v = some i) : InsOk P o i:=by
 unfold compUpd at h
 split at h
 ·rename_i q1
  split at h
  ·rename_i q2; cases h; exact ins_upd ho q1 q2 hd
  ·cases h
 ·cases h
theorem comp_ok (h : comp P rw ops o = some i) : InsOk P o i:=by
 unfold comp at h
 split at h
 ·rename_i d hd
  unfold compD at h
  split at h
  ·rename_i ho; cases h; exact ins_mov (.inl ho) hd
  ·rename_i ho; cases h; exact ins_mov (.inr ho) hd
  ·rename_i ho; cases h; exact ins_pick ho hd
  ·rename_i ho; exact compBin_ok ho hd h
  ·rename_i ho; cases h; exact ins_not ho hd
  ·rename_i ho; cases h; exact ins_nck ho hd
  ·rename_i ho; exact compConv_ok ho hd h
  ·rename_i ho; exact compFld_ok ho hd h
  ·rename_i ho; exact compFad_ok ho hd h
  ·rename_i ho; exact compIndex_ok ho hd h
  ·rename_i ho; cases h; exact ins_ext ho hd
  ·rename_i ho; exact compSlice_ok ho hd h
  ·rename_i ho; exact compBuild_ok ho hd h
  ·rename_i ho
   unfold compLoad at h
   split at h
   ·rename_i q1 q2; cases h; exact ins_load ho q1 q2 hd
   ·cases h
  ·rename_i ho
   split at h
   ·cases h; exact ins_boxF ho hd
   ·cases h; exact ins_box ho hd
  ·rename_i ho; exact compMkf_ok ho hd h
  ·rename_i ho
   unfold compAlo at h
   split at h
   ·rename_i q1; cases h; exact ins_alo ho q1 hd
   ·cases h
  ·rename_i ho; exact compRow_ok ho hd h
  ·rename_i ho; exact compK_ok ho hd h
  ·rename_i ho
   unfold compMkM at h
   split at h
   ·cases h; exact ins_mkM ho hd
   ·cases h
  ·rename_i ho
   unfold compLku at h
   split at h
   ·rename_i q1
    split at h
    ·rename_i q2 q3
     split at h
     ·rename_i q4; cases h; exact ins_lku ho q1 q2 q3 q4 hd
     ·cases h
    ·cases h
   ·cases h
  ·rename_i ho
   split at h
   ·unfold compMkB at h
    split at h
    ·rename_i q1
     split at h
     ·rename_i q2
      split at h
      ·rename_i q4
       split at h
       ·rename_i q5
        obtain ⟨⟨q6,q7,q8⟩,q9⟩:=q5
        obtain ⟨v,hv⟩:=one_cell q7
        have hz : (Array.mk [v] : Array Value) = #[v]:=rfl
        rw [hv] at h
        cases h
        exact ins_mkB ho q1 q2 q4 q6 rfl (by rw [← hz,← hv]) (Array.all_eq_true'.1 q8 v (by rw [← Array.mem_toList_iff,hv]; simp)) q9 hd
       ·cases h
      ·cases h
     ·cases h
    ·cases h
   ·unfold compMkS at h
    split at h
    ·rename_i q1
     split at h
     ·rename_i q2 q3
      split at h
      ·rename_i q4
       split at h
       ·rename_i q5; cases h; exact ins_mkS ho q1 q2 q4 rfl rfl q5.1.2.1 q5.1.1 q5.1.2.2 q5.2.1 q5.2.2.1 q5.2.2.2 hd
       ·cases h
      ·cases h
     ·cases h
    ·cases h
  ·cases h
 ·rename_i hd
  split at h
  ·rename_i ho
   split at h
   ·rename_i q1; cases h; exact ins_stor ho q1 hd
   ·cases h
  ·rename_i ho; exact compUpd_ok (.inl ho) hd h
  ·rename_i ho; exact compUpd_ok (.inr ho) hd h
  ·rename_i ho; exact compClr_ok ho hd h
  ·cases h
end
structure IOp where
 dst : Option Nat
 grd : Option (Nat × Bool)
 ins : Ins
def Ev.wait (ev : Ev) (g : Nat) (v : D) : Ev:={ ev with rs:=(g,v) :: ev.rs }
abbrev vB (b : Bool) : D:=vD (.bool b)
def stepI (o : IOp) (st : St) (r : List D) : Option (Ev × Option (Nat × List D × List D)):=match o.grd with
 | none => o.ins st r
 | some (g,want) => match look st.tm g with
  | some (.held (.inl (.bool b))) => if b = want then (match o.ins st r with
   | some (ev,c) => some (ev.wait g (vB b),c)
   | none => none) else some (skipEv o.dst [(g,vB b)],none)
  | some (.ptr (.agg [])) => some (skipEv o.dst [(g,tD [])],none)
  | _ => none
def evalOps : List IOp → List (List D) → St → Option (St × List (Nat × List D × List D))
 | [],_,st => some (st,[])
 | o :: l,rs,st => match stepI o st (rs.headD []) with
  | none => none
  | some (ev,none) => evalOps l rs (st.app ev)
  | some (ev,some (f,cs,ro)) => match evalOps l rs.tail (st.app ev) with
   | none => none
   | some (st',q) => some (st',(f,cs,ro) :: q)
def CallOk (P : Program) (c : Option (Nat × List D × List D)) : Prop:=∀ f cs ro,c = some (f,cs,ro) → ∃ cs',ValsLe cs cs' ∧ TellG P f cs' ro
def Obl (P : Program) : List (Nat × List D × List D) → Prop
 | [] => True
 | (f,cs,r) :: l => (∃ cs',ValsLe cs cs' ∧ TellG P f cs' r) ∧ Obl P l
structure Foot where
 sr : List Nat
 sw : List Nat
 br : List Nat
 bw : List Nat
 fr : List (Nat × Option Nat)
def Ev.fp (ev : Ev) : Foot where
 sr:=ev.rs.map (·.1)
 sw:=match ev.ws with | some x => [x.1] | none => []
 br:=ev.rb.map (·.1) ++ ev.nb
 bw:=match ev.wb with | some x => [x.1] | none => []
 fr:=ev.rf.map (·.1) ++ ev.cf ++ match ev.sf with | some x => [x.1] | none => []
def disj {α : Type} [DecidableEq α] (a b : List α) : Bool:=a.all fun x => !b.contains x
def indep (a b : Foot) : Bool:=disj a.sw (b.sr ++ b.sw) && disj b.sw a.sr && disj a.bw (b.br ++ b.bw) && disj b.bw a.br && disj a.fr b.fr
def evalD : List IOp → List (List D) → St → Option (St × List Foot × List (Nat × List D × List D))
 | [],_,st => some (st,[],[])
 | o :: l,rs,st => match stepI o st (rs.headD []) with
  | none => none
  | some (ev,none) => match evalD l rs (st.app ev) with
   | none => none
   | some (st',fs,q) => some (st',ev.fp :: fs,q)
  | some (ev,some (f,cs,ro)) => match evalD l rs.tail (st.app ev) with
   | none => none
   | some (st',fs,q) => some (st',ev.fp :: fs,(f,cs,ro) :: q)
theorem disj_iff {α : Type} [DecidableEq α] {a b : List α} (h : disj a b = true) : ∀ x ∈ a,x ∉ b:=by
 intro x hx hb
 have:=List.all_eq_true.1 h x hx
 simp [hb] at this
theorem ev_swap {p e : Ev} {st : FS} (hi : indep p.fp e.fp = true) (h1 : p.ok st) (h2 : e.ok (p.app st)) : e.ok st ∧ p.ok (e.app st) ∧ e.app (p.app st) = p.app (e.app st):=by
 simp only [indep,Bool.and_eq_true] at hi
 obtain ⟨⟨⟨⟨i1,i2⟩,i3⟩,i4⟩,i5⟩:=hi
 have i1:=disj_iff i1
 have i2:=disj_iff i2
 have i3:=disj_iff i3
 have i4:=disj_iff i4
 have i5:=disj_iff i5
 -- slots
 have tmE : ∀ s,s ∉ p.fp.sw → (p.app st).tm s = st.tm s:=by
  intro s hs
  simp only [Ev.fp] at hs
  rcases hw : p.ws with _ | ⟨d,v⟩
  ·simp [Ev.app,hw]
  ·rw [hw] at hs; simp at hs; simp [Ev.app,hw,hs]
 have tmP : ∀ s,s ∉ e.fp.sw → (e.app st).tm s = st.tm s:=by
  intro s hs
  simp only [Ev.fp] at hs
  rcases hw : e.ws with _ | ⟨d,v⟩
  ·simp [Ev.app,hw]
  ·rw [hw] at hs; simp at hs; simp [Ev.app,hw,hs]
 have bxE : ∀ s,s ∉ p.fp.bw → (p.app st).bx s = st.bx s:=by
  intro s hs
  simp only [Ev.fp] at hs
  rcases hw : p.wb with _ | ⟨d,v⟩
  ·simp [Ev.app,hw]
  ·rw [hw] at hs; simp at hs; simp [Ev.app,hw,hs]
 have bxP : ∀ s,s ∉ e.fp.bw → (e.app st).bx s = st.bx s:=by
  intro s hs
  simp only [Ev.fp] at hs
  rcases hw : e.wb with _ | ⟨d,v⟩
  ·simp [Ev.app,hw]
  ·rw [hw] at hs; simp at hs; simp [Ev.app,hw,hs]
 have flE : ∀ s o,(s,o) ∉ p.fp.fr → (p.app st).fl s o = st.fl s o:=by
  intro s o hs
  simp only [Ev.fp,List.mem_append,not_or] at hs
  rcases hw : p.sf with _ | ⟨d,v⟩
  ·simp [Ev.app,hw,hs.1.2]
  ·rw [hw] at hs; simp only [List.mem_singleton] at hs; simp [Ev.app,hw,hs.1.2,hs.2]
 have flP : ∀ s o,(s,o) ∉ e.fp.fr → (e.app st).fl s o = st.fl s o:=by
  intro s o hs
  simp only [Ev.fp,List.mem_append,not_or] at hs
  rcases hw : e.sf with _ | ⟨d,v⟩
  ·simp [Ev.app,hw,hs.1.2]
  ·rw [hw] at hs; simp only [List.mem_singleton] at hs; simp [Ev.app,hw,hs.1.2,hs.2]
 refine ⟨⟨fun x hx => ?_,fun x hx => ?_,fun x hx => ?_,fun x hx => ?_⟩,⟨fun x hx => ?_,fun x hx => ?_,fun x hx => ?_,fun x hx => ?_⟩,?_⟩
 ·rw [← tmE x.1 (fun q => i1 x.1 q (List.mem_append_left _ (List.mem_map_of_mem hx)))]; exact h2.rs x hx
 ·rw [← bxE x.1 (fun q => i3 x.1 q (List.mem_append_left _ (List.mem_append_left _ (List.mem_map_of_mem hx))))]; exact h2.rb x hx
 ·rw [← bxE x (fun q => i3 x q (List.mem_append_left _ (List.mem_append_right _ hx)))]; exact h2.nb x hx
 ·rw [← flE x.1.1 x.1.2 (fun q => i5 x.1 q (List.mem_append_left _ (List.mem_append_left _ (List.mem_map_of_mem hx))))]; exact h2.rf x hx
 ·rw [tmP x.1 (fun q => i2 x.1 q (List.mem_map_of_mem hx))]; exact h1.rs x hx
 ·rw [bxP x.1 (fun q => i4 x.1 q (List.mem_append_left _ (List.mem_map_of_mem hx)))]; exact h1.rb x hx
 ·rw [bxP x (fun q => i4 x q (List.mem_append_right _ hx))]; exact h1.nb x hx
 ·rw [flP x.1.1 x.1.2 (fun q => i5 x.1 (List.mem_append_left _ (List.mem_append_left _ (List.mem_map_of_mem hx))) q)]; exact h1.rf x hx
 ·-- the same in the end
  have a1 : (e.app (p.app st)).tm = (p.app (e.app st)).tm:=by
   funext s
   simp only [Ev.fp] at i1
   rcases hp : p.ws with _ | ⟨d,v⟩ <;> rcases he : e.ws with _ | ⟨d',v'⟩ <;> simp only [Ev.app,hp,he]
   rw [hp,he] at i1
   have : d ≠ d':=fun q => i1 d (by simp) (by simp [q])
   by_cases h : s = d
   ·subst h; simp [this]
   ·simp [h]
  have a2 : (e.app (p.app st)).bx = (p.app (e.app st)).bx:=by
   funext s
   simp only [Ev.fp] at i3
   rcases hp : p.wb with _ | ⟨d,v⟩ <;> rcases he : e.wb with _ | ⟨d',v'⟩ <;> simp only [Ev.app,hp,he]
   rw [hp,he] at i3
   have : d ≠ d':=fun q => i3 d (by simp) (by simp [q])
   by_cases h : s = d
   ·subst h; simp [this]
   ·simp [h]
  have a3 : (e.app (p.app st)).fl = (p.app (e.app st)).fl:=by
   funext s o
   by_cases hp : (s,o) ∈ p.fp.fr
   ·have he:=i5 (s,o) hp
    simp only [Ev.fp,List.mem_append,not_or] at he
    have f1 : ∀ st' : FS,(e.app st').fl s o = st'.fl s o:=by
     intro st'
     rcases hw : e.sf with _ | ⟨d,v⟩
     ·simp [Ev.app,hw,he.1.2]
     ·rw [hw] at he; simp only [List.mem_singleton] at he; simp [Ev.app,hw,he.1.2,he.2]
    rw [f1]
    simp only [Ev.app]
    have f2:=f1 st
    simp only [Ev.app] at f2
    rw [f2]
   ·simp only [Ev.fp,List.mem_append,not_or] at hp
    have f1 : ∀ st' : FS,(p.app st').fl s o = st'.fl s o:=by
     intro st'
     rcases hw : p.sf with _ | ⟨d,v⟩
     ·simp [Ev.app,hw,hp.1.2]
     ·rw [hw] at hp; simp only [List.mem_singleton] at hp; simp [Ev.app,hw,hp.1.2,hp.2]
    rw [f1 (e.app st)]
    have f2:=f1 st
    simp only [Ev.app] at f2 ⊢
    rw [f2]
  generalize e.app (p.app st) = x at a1 a2 a3 ⊢
  generalize p.app (e.app st) = y at a1 a2 a3 ⊢
  cases x; cases y
  simp only at a1 a2 a3
  rw [a1,a2,a3]
def Fires : List Ev → FS → FS → Prop
 | [],st,st' => st = st'
 | e :: r,st,st' => e.ok st ∧ Fires r (e.app st) st'
theorem fires_first {e : Ev} {post : List Ev} {st' : FS} : ∀ {pre : List Ev} {st : FS},Fires (pre ++ e :: post) st st' → (∀ p ∈ pre,indep p.fp e.fp = true) → e.ok st ∧ Fires (pre ++ post) (e.app st) st'
 | [],st,h,_ => h
 | p :: pre,st,h,hi => by
  obtain ⟨h,hr⟩:=h
  obtain ⟨h1,h2⟩:=fires_first (pre:=pre) hr (fun q hq => hi q (by simp [hq]))
  obtain ⟨q1,q2,q3⟩:=ev_swap (hi p (by simp)) h h1
  rw [q3] at h2
  exact ⟨q1,q2,h2⟩
end Go.Proofs.YtgaofjiidedcbacGreat.ab
