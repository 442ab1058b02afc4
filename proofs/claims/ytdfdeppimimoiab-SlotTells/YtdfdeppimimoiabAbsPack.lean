/-
  What plain code is reckoned out by, in three bundles (written by wip/abs/pack.py). Nothing of the program.
-/
import Derived.Test.YtdfdeppimimoiabAbsEval
namespace Go.Proofs.Ytdfdeppimimoiab.ab
set_option linter.unusedVariables false
set_option maxRecDepth 10000
open Go Go.RowKit

theorem ev0 :
    (∀ {tm : List (Nat × D)} {bx : List (Nat × List D)} {fl : List ((Nat × Option Nat) × Nat × Pay)} (d s : Nat)
      (rs : List (Nat × D)) (e z : Nat) (es fs : List D),
      St.app { tm := tm, bx := bx, fl := fl } (apHEv d s rs e z es fs) =
        { tm := (d, xD) :: tm, bx := bx, fl := ((d, none), e, z, some (es ++ fs)) :: offP fl [(s, none), (d, none)] }) ∧
    (∀ {tm : List (Nat × D)} {bx : List (Nat × List D)} {fl : List ((Nat × Option Nat) × Nat × Pay)} (d : Nat)
      (rs : List (Nat × D)) (r : D) (e z : Nat) (c : D),
      St.app { tm := tm, bx := bx, fl := fl } (outEv d rs r e z c) =
        { tm := (d, r) :: tm, bx := bx, fl := ((d, none), e, z, unC c) :: offP fl [(d, none)] }) ∧
    (∀ {tm : List (Nat × D)} {bx : List (Nat × List D)} {fl : List ((Nat × Option Nat) × Nat × Pay)} (d s : Nat)
      (rs : List (Nat × D)) (r : List D) (e z : Nat) (c : D),
      St.app { tm := tm, bx := bx, fl := fl } (innEv d s rs r e z c) =
        { tm := (d, res r) :: tm, bx := bx, fl := offP fl [(s, none), (d, none)] }) ∧
    (∀ (d s : Nat) (rs : List (Nat × D)) (e z : Nat) (es fs : List D),
      Ev.fp (apHEv d s rs e z es fs) =
        { sr := List.map (fun x => Prod.fst x) rs, sw := [d], br := [], bw := [],
          fr := [(s, none), (s, none), (d, none), (d, none)] }) ∧
    (∀ (d : Nat) (rs : List (Nat × D)) (r : D) (e z : Nat) (c : D),
      Ev.fp (outEv d rs r e z c) =
        { sr := List.map (fun x => Prod.fst x) rs, sw := [d], br := [], bw := [], fr := [(d, none), (d, none)] }) ∧
    (∀ (d s : Nat) (rs : List (Nat × D)) (r : List D) (e z : Nat) (c : D),
      Ev.fp (innEv d s rs r e z c) =
        { sr := List.map (fun x => Prod.fst x) rs, sw := [d], br := [], bw := [], fr := [(s, none), (s, none), (d, none)] }) ∧
    (refD xD = none) ∧
    (∀ (k f : Nat) (cs : List D), refD (jD k f cs) = none) ∧
    (∀ (b lo z n : Nat), refD (rD b lo z n) = some b) ∧
    (∀ (d : Nat) (P : Program) (s : Nat) (xs : List Operand) (st : St) (r : List D),
      iCallV d P s xs st r =
        match look (St.tm st) s, rdC st xs with
        | some k, some cs =>
          match funOf k, kindR r with
          | some (f, es), none =>
            if callableB P f = true then some (vEv d ((s, k) :: rdsC xs cs) (res r), some (f, cs ++ es, r)) else none
          | x, x_1 => none
        | x, x_1 => none) ∧
    (∀ (d f : Nat) (xs : List Operand) (st : St) (r : List D),
      iCallL d f xs st r =
        match kindL r with
        | some es' =>
          match xs with
          | x :: ys =>
            match rd st x, rdC st ys with
            | some (DataW.ptr (DataW.held (Sum.inr (b, n)))), some cs =>
              match look (St.bx st) b with
              | some [DataW.slice es [DataW.held (Sum.inr (z, 0))]] =>
                if n = List.length es ∧ 100000 ≤ b ∧ b < 200000 then
                  some (callUEv d (rds x (oD b n) ++ rdsC ys cs) b z es es', some (f, cs, [mU z es es']))
                else none
              | x => none
            | x, x_1 => none
          | [] => none
        | none =>
          match rdLs st xs with
          | some (cs, rs, rb) =>
            match kindR r with
            | none => if plainR r = true then some (bEv d rs rb (res r), some (f, cs, r)) else none
            | x => none
          | none => none) ∧
    (∀ (st : St) (x : Operand),
      rdL st x =
        match rd st x with
        | some (DataW.ptr (DataW.held (Sum.inr (b, n)))) =>
          match look (St.bx st) b with
          | some [DataW.slice es [DataW.held (Sum.inr (z, 0))]] =>
            if n = List.length es ∧ 100000 ≤ b ∧ b < 200000 then some (oD b n, sD z es, [(b, [sD z es])]) else none
          |
          some
              [DataW.slice es [DataW.held (Sum.inr (1, 0))], DataW.held (Sum.inr (m, 0)),
                DataW.ptr (DataW.held (Sum.inr (b', n')))] =>
            if n = List.length es ∧ 100000 ≤ b ∧ b < 200000 then some (oD b n, sD 1 es, [(b, [sD 1 es, pD m 0, oD b' n'])])
            else none
          | x => none
        | some (DataW.ptr (DataW.ptr (DataW.ptr (DataW.held (Sum.inr (b, f)))))) =>
          match look (St.bx st) b with
          | some cs => some (fD b f, jD 1 f (List.map dimC cs), [(b, cs)])
          | none => none
        | some c => if isC c = true then some (c, c, []) else none
        | none => none) ∧
    (∀ (st : St), rdLs st [] = some ([], [], [])) ∧
    (∀ (st : St) (x_1 : Operand) (r : List Operand),
      rdLs st (x_1 :: r) =
        match rdL st x_1, rdLs st r with
        | some (v, c, rb), some (cs, rs, rbs) => some (c :: cs, rds x_1 v ++ rs, rb ++ rbs)
        | x, x_2 => none) ∧
    (∀ (val : Value), plainR [DataW.held (Sum.inl val)] = true) ∧
    (∀ (x : List D), (∀ (val : Value), x = [DataW.held (Sum.inl val)] → False) → plainR x = false) ∧
    (∀ (d : Nat) (x : Operand) (st : St) (x_1 : List D),
      iBoxF d x st x_1 =
        match rd st x with
        | some c => if isC c = true then some (vEv d (rds x c) (jD 0 0 (cellsD c)), none) else none
        | none => none) ∧
    (∀ (d f s : Nat) (st : St) (x : List D),
      iMkf d f s st x =
        match look (St.tm st) s with
        | some (DataW.held (Sum.inr (b, 0))) => some (vEv d [(s, pD b 0)] (fD b f), none)
        | some (DataW.iface q (DataW.slice cs [DataW.held (Sum.inr (0, g))])) =>
          some (vEv d [(s, DataW.iface q (DataW.slice cs [DataW.held (Sum.inr (0, g))]))] (jD 1 f cs), none)
        | x => none) ∧
    (∀ (z : Nat) (x : Operand) (st : St) (x_1 : List D),
      iClr z x st x_1 =
        match rd st x with
        | some (DataW.ptr (DataW.slice [DataW.nil] [DataW.held (Sum.inr (b, lo)), DataW.held (Sum.inr (z', n))])) =>
          match look (St.bx st) b with
          | some [DataW.slice es [DataW.held (Sum.inr (z'', 0))]] =>
            if (z' = z ∧ z'' = z ∧ 100000 ≤ b) ∧ lo + n = List.length es ∧ 0 < n then
              some
                (updEv (rds x (rD b lo z n)) b [sD z es]
                    [sD z (List.take lo es ++ List.replicate n (aD (List.replicate z xD)))],
                  none)
            else none
          | x => none
        | x => none) ∧
    (∀ (f : Nat), funOf (vD (Value.func (Fn.func f) #[] #[])) = some (f, [])) ∧
    (∀ (f : Nat) (cs : List D), funOf (jD 1 f cs) = some (f, [jD 0 0 cs])) ∧
    (∀ (b : Bool), asB (some (DataW.held (Sum.inl (Value.bool b)))) = some b) ∧
    (∀ (x : Option D), (∀ (b : Bool), x = some (DataW.held (Sum.inl (Value.bool b))) → False) → asB x = none) ∧
    (∀ (b : Bool), (b == true) = b) ∧
    (∀ (b : Bool), (b == false) = !b) ∧
    (∀ (ops : List IOp) (lv lb : List Nat) (rs : List (List D)) (st : St),
      evalR ops lv lb rs st =
        match evalOps ops rs st with
        | some (st', q) =>
          match St.keep st' lv lb with
          | some st'' => some (st'', q)
          | none => none
        | none => none) ∧
    (∀ (ops : List IOp) (lv lb : List Nat) (rs : List (List D)) (st : St),
      evalRK ops lv lb rs st =
        match evalD ops rs st with
        | some (st', fs, q) =>
          match St.keep st' lv lb with
          | some st'' => some (st'', fs, q)
          | none => none
        | none => none) ∧
    (∀ (x : List (List D)) (x_1 : St), evalOps [] x x_1 = some (x_1, [])) ∧
    (∀ (x : List (List D)) (x_1 : St) (o : IOp) (l : List IOp),
      evalOps (o :: l) x x_1 =
        match stepI o x_1 (List.headD x []) with
        | none => none
        | some (ev, none) => evalOps l x (St.app x_1 ev)
        | some (ev, some (f, cs, ro)) =>
          match evalOps l (List.tail x) (St.app x_1 ev) with
          | none => none
          | some (st', q) => some (st', (f, cs, ro) :: q)) ∧
    (∀ (x : List (List D)) (x_1 : St), evalD [] x x_1 = some (x_1, [], [])) ∧
    (∀ (x : List (List D)) (x_1 : St) (o : IOp) (l : List IOp),
      evalD (o :: l) x x_1 =
        match stepI o x_1 (List.headD x []) with
        | none => none
        | some (ev, none) =>
          match evalD l x (St.app x_1 ev) with
          | none => none
          | some (st', fs, q) => some (st', Ev.fp ev :: fs, q)
        | some (ev, some (f, cs, ro)) =>
          match evalD l (List.tail x) (St.app x_1 ev) with
          | none => none
          | some (st', fs, q) => some (st', Ev.fp ev :: fs, (f, cs, ro) :: q)) ∧
    (∀ (d : Option Nat) (i : Ins) (st : St) (r : List D), stepI { dst := d, grd := none, ins := i } st r = i st r) ∧
    (∀ (d : Option Nat) (g : Nat) (want : Bool) (i : Ins) (st : St) (r : List D),
      stepI { dst := d, grd := some (g, want), ins := i } st r =
        match look (St.tm st) g with
        | some (DataW.held (Sum.inl (Value.bool b))) =>
          if b = want then
            match i st r with
            | some (ev, c) => some (Ev.wait ev g (vB b), c)
            | none => none
          else some (skipEv d [(g, vB b)], none)
        | some (DataW.ptr (DataW.agg [])) => some (skipEv d [(g, tD [])], none)
        | x => none) ∧
    (∀ (d : Nat) (x : Operand) (tr : Bool) (st : St) (x_1 : List D),
      iMov d x tr st x_1 =
        match rd st x with
        | some v => some (movEv st d x tr v, none)
        | none => none) ∧
    (∀ (d : Nat) (c x y : Operand) (st : St) (x_1 : List D),
      iPick d c x y st x_1 =
        match rd st c with
        | some (DataW.held (Sum.inl (Value.bool q))) =>
          match rd st (if q = true then x else y) with
          | some v => some (vEv d (rds c (vD (Value.bool q)) ++ rds (if q = true then x else y) v) v, none)
          | none => none
        | x => none) ∧
    (∀ (d : Nat) (op : BinOp) (x y : Operand) (st : St) (x_1 : List D),
      iBin d op x y st x_1 =
        match rd st x, rd st y with
        | some (DataW.held (Sum.inl a)), some (DataW.held (Sum.inl b)) =>
          match lbin op a b with
          | some r => some (vEv d (rds x (vD a) ++ rds y (vD b)) (vD r), none)
          | none => none
        | x, x_2 => none) ∧
    (∀ (d : Nat) (eq : Bool) (x y : Operand) (st : St) (x_1 : List D),
      iBinB d eq x y st x_1 =
        match rd st x, rd st y with
        | some (DataW.held (Sum.inl (Value.bool a))), some (DataW.held (Sum.inl (Value.bool b))) =>
          some (vEv d (rds x (vD (Value.bool a)) ++ rds y (vD (Value.bool b))) (vD (Value.bool ((a == b) == eq))), none)
        | x, x_2 => none) ∧
    (∀ (d : Nat) (eq : Bool) (x y : Operand) (st : St) (x_1 : List D),
      iEqA d eq x y st x_1 =
        match rd st x, rd st y with
        | some (DataW.agg cs), some (DataW.agg ds) =>
          match ints3 cs, ints3 ds with
          | some (a, b, c), some (a', b', c') =>
            some (vEv d (rds x (aD cs) ++ rds y (aD ds)) (vD (Value.bool ((a == a' && (b == b' && c == c')) == eq))), none)
          | x, x_2 => none
        | x, x_2 => none) ∧
    (∀ (d : Nat) (x : Operand) (st : St) (x_1 : List D),
      iNot d x st x_1 =
        match rd st x with
        | some (DataW.held (Sum.inl (Value.bool a))) => some (vEv d (rds x (vD (Value.bool a))) (vD (Value.bool !a)), none)
        | x => none) ∧
    (∀ (d : Nat) (k : IntKind) (x : Operand) (st : St) (x_1 : List D),
      iCvi d k x st x_1 =
        match rd st x with
        | some (DataW.held (Sum.inl (Value.int k' n))) =>
          some (vEv d (rds x (vD (Value.int k' n))) (vD (Value.int k (IntKind.wrap k n))), none)
        | x => none) ∧
    (∀ (d : Nat) (x : Operand) (st : St) (x_1 : List D),
      iStr d x st x_1 =
        match rd st x with
        | some l =>
          match asS 1 l with
          | some es =>
            match bytesOf es with
            | some bs => some (vEv d (rds x l) (vD (Value.string { data := List.toArray bs })), none)
            | none => none
          | none => none
        | none => none) ∧
    (∀ (d off n : Nat) (ag : Bool) (x : Operand) (st : St) (x_1 : List D),
      iFld d off n ag x st x_1 =
        match rd st x with
        | some (DataW.agg cs) =>
          match sub n ag off cs with
          | some r => some (vEv d (rds x (aD cs)) r, none)
          | none => none
        | x => none) ∧
    (∀ (d off : Nat) (x : Operand) (st : St) (x_1 : List D),
      iFad d off x st x_1 =
        match rd st x with
        | some v =>
          match moveA off v with
          | some v' => some (vEv d (rds x v) v', none)
          | none => none
        | none => none) ∧
    (∀ (d len z : Nat) (x i : Operand) (st : St) (x_1 : List D),
      iIaA d len z x i st x_1 =
        match rd st x, rd st i with
        | some v, some (DataW.held (Sum.inl (Value.int k n))) =>
          if 0 ≤ n ∧ n < ↑len then
            match moveA (Int.toNat n * z) v with
            | some v' => some (vEv d (rds x v ++ rds i (vD (Value.int k n))) v', none)
            | none => none
          else none
        | x, x_2 => none) ∧
    (∀ (d z : Nat) (x i : Operand) (st : St) (x_1 : List D),
      iIaS d z x i st x_1 =
        match rd st x, rd st i with
        | some (DataW.ptr (DataW.held (Sum.inr (b, m)))), some (DataW.held (Sum.inl (Value.int k n))) =>
          if 0 ≤ n ∧ n < ↑m then some (vEv d (rds x (oD b m) ++ rds i (vD (Value.int k n))) (qD b (Int.toNat n) z 0), none)
          else none
        | some l, some (DataW.held (Sum.inl (Value.int k n))) =>
          match asS z l with
          | some es =>
            if 0 ≤ n then
              match es[Int.toNat n]? with
              | some c => some (vEv d (rds x l ++ rds i (vD (Value.int k n))) (eD (cellsD c) 0), none)
              | none => none
            else none
          | none => none
        | x, x_2 => none) ∧
    (∀ (d : Nat) (x : Operand) (k : Nat) (st : St) (x_1 : List D),
      iExt d x k st x_1 =
        match rd st x with
        | some (DataW.ptr (DataW.agg xs)) =>
          match xs[k]? with
          | some c => some (vEv d (rds x (tD xs)) c, none)
          | none => none
        | x => none) ∧
    (∀ (d : Nat) (s : Bool) (x : Operand) (st : St) (x_1 : List D),
      iLen d s x st x_1 =
        match rd st x with
        | some l =>
          if strL l = s then
            match lenL l with
            | some n => some (vEv d (rds x l) (vD (Value.int IntKind.i64 ↑n)), none)
            | none => none
          else none
        | none => none) ∧
    (∀ (d z : Nat) (x : Operand) (lo hi : Option Operand) (st : St) (x_1 : List D),
      iSlc d z x lo hi st x_1 =
        match rd st x with
        | some (DataW.ptr (DataW.held (Sum.inr (b, n)))) =>
          match lo, hi with
          | some y, none =>
            match rd st y with
            | some (DataW.held (Sum.inl (Value.int k m))) =>
              if 0 ≤ m ∧ m < ↑n then
                some (vEv d (rds x (oD b n) ++ rds y (vD (Value.int k m))) (rD b (Int.toNat m) z (n - Int.toNat m)), none)
              else none
            | x => none
          | x, x_2 => none
        | some l =>
          match asS z l with
          | some es =>
            match bnd st lo 0, bnd st hi (List.length es) with
            | some (m, r1), some (n, r2) =>
              if 0 ≤ m ∧ m ≤ n ∧ n ≤ ↑(List.length es) then
                some (vEv d (rds x l ++ (r1 ++ r2)) (sD z (List.drop (Int.toNat m) (List.take (Int.toNat n) es))), none)
              else none
            | x, x_2 => none
          | none => none
        | none => none) ∧
    (∀ (d : Nat) (zs : List D) (ps : List (Nat × Nat)) (xs : List Operand) (st : St) (x : List D),
      iBld d zs ps xs st x =
        match rdC st xs with
        | some cs =>
          match fillA zs ps cs with
          | some rs => some (vEv d (rdsC xs cs) (aD rs), none)
          | none => none
        | none => none) ∧
    (∀ (d n : Nat) (ag : Bool) (x : Operand) (tr : Bool) (st : St) (x_1 : List D),
      iLoad d n ag x tr st x_1 =
        match rd st x with
        | some (DataW.ptr (DataW.slice cs [DataW.held (Sum.inr (off, 0))])) =>
          match sub n ag off cs with
          | some r => some (vEv d (rds x (eD cs off)) r, none)
          | none => none
        | some (DataW.held (Sum.inr (b, off))) =>
          match look (St.bx st) b with
          | some cs =>
            match sub n ag off cs with
            | some r => if clR r = true then some (loadEv st d x b off cs tr r, none) else none
            | none => none
          | none => none
        | some (DataW.ptr (DataW.slice [] [DataW.held (Sum.inr (b, i)), DataW.held (Sum.inr (z, off))])) =>
          match look (St.bx st) b with
          | some [DataW.slice es [DataW.held (Sum.inr (z', 0))]] =>
            if z' = z then
              match es[i]? with
              | some e =>
                match sub n ag off (cellsD e) with
                | some r => some (bEv d (rds x (qD b i z off)) [(b, [sD z es])] r, none)
                | none => none
              | none => none
            else none
          |
          some
              [DataW.slice es [DataW.held (Sum.inr (1, 0))], DataW.held (Sum.inr (k, 0)),
                DataW.ptr (DataW.held (Sum.inr (b', m)))] =>
            if (z = 1 ∧ off = 0 ∧ n = 1 ∧ ag = false) ∧ i = k then
              some (bEv d (rds x (qD b i 1 0)) [(b, [sD 1 es, pD i 0, oD b' m])] (oD b' m), none)
            else none
          | x => none
        | x => none) ∧
    (∀ (d : Nat) (x : Operand) (st : St) (x_1 : List D),
      iBox d x st x_1 =
        match rd st x, look (St.bx st) d with
        | some c, none =>
          if isC c = true then
            some
              ({ rs := rds x c, nb := [d], ws := some (d, some (pD d 0)), wb := some (d, cellsD c), cf := [(d, none)] },
                none)
          else none
        | x, x_2 => none) ∧
    (∀ (d : Nat) (zs : List D) (st : St) (x : List D),
      iAlo d zs st x =
        match look (St.bx st) d with
        | none => some ({ nb := [d], ws := some (d, some (pD d 0)), wb := some (d, zs), cf := [(d, none)] }, none)
        | some val => none) ∧
    (∀ (d e z : Nat) (xs : List Operand) (st : St) (x : List D),
      iRow d e z xs st x =
        match rdC st xs with
        | some cs =>
          if (List.all cs fun c => List.length (cellsD c) == z) = true then
            some
              ({ rs := rdsC xs cs, ws := some (d, some (sD z cs)), cf := [(d, none)], sf := some ((d, none), e, z, none) },
                none)
          else none
        | none => none) ∧
    (∀ (d e z bytes : Nat) (x y : Operand) (st : St) (x_1 : List D),
      iApp d e z bytes x y st x_1 =
        match rd st x, rd st y with
        | some (DataW.held (Sum.inl (Value.slice none 0 0))), some l' =>
          match asS z l' with
          | some fs =>
            if List.length fs * bytes ≤ 140737488355328 then
              some (app0Ev d (rds x (vD (Value.slice none 0 0)) ++ rds y l') e z fs, none)
            else none
          | none => none
        | some l, some l' =>
          match x with
          | Operand.tmp s =>
            match lookF (St.fl st) (s, none) with
            | some (e', z', none) =>
              match asS z l, asS z l' with
              | some es, some fs =>
                if (s ≠ d ∧ e' = e ∧ z' = z) ∧ (List.length es + List.length fs) * bytes ≤ 140737488355328 then
                  some (appEv d s (rds (Operand.tmp s) l ++ rds y l') e z (es ++ fs), none)
                else none
              | x, x_2 => none
            | some (e', z', some es) =>
              match asS z l' with
              | some fs =>
                if (s ≠ d ∧ e' = e ∧ z' = z) ∧ (List.length es + List.length fs) * bytes ≤ 140737488355328 then
                  some (apHEv d s (rds (Operand.tmp s) l ++ rds y l') e z es fs, none)
                else none
              | none => none
            | none => none
          | x => none
        | x, x_2 => none) ∧
    (∀ (d f : Nat) (xs : List Operand) (st : St) (r : List D),
      iCall d f xs st r =
        match rdC st xs with
        | some cs =>
          match kindR r with
          | none => some (vEv d (rdsC xs cs) (res r), some (f, cs, r))
          | some (Sum.inl (r, e, z, c)) => some (outEv d (rdsC xs cs) r e z c, some (f, cs, [mO r e z c]))
          | some (Sum.inr (Sum.inr val)) => none
          | some (Sum.inr (Sum.inl ((i, fst, fst_1, snd), r))) =>
            match xs[i]? with
            | some (Operand.tmp s) =>
              match lookF (St.fl st) (s, none) with
              | some (e, z, c) =>
                if s ≠ d then some (innEv d s (rdsC xs cs) r e z (ofC c), some (f, cs, mI i e z (ofC c) :: r)) else none
              | none => none
            | x => none
        | none => none) ∧
    (∀ (d : Nat) (eq : Bool) (x : Operand) (st : St) (x_1 : List D),
      iNil d eq x st x_1 =
        match rd st x with
        | some l =>
          match nilL l with
          | some q => some (vEv d (rds x l) (vD (Value.bool (q == eq))), none)
          | none => none
        | none => none) ∧
    (nilL (DataW.held (Sum.inl (Value.slice none 0 0))) = some true) ∧
    (∀ (elems : List (DataW (Value ⊕ Nat × Nat))) (fst : Nat),
      nilL (DataW.slice elems [DataW.held (Sum.inr (fst, 1))]) = some false) ∧
    (∀ (head : DataW (Value ⊕ Nat × Nat)) (tail : List (DataW (Value ⊕ Nat × Nat))) (fst : Nat),
      nilL (DataW.slice (head :: tail) [DataW.held (Sum.inr (fst, 0))]) = some false) ∧
    (∀ (x : D),
      (x = DataW.held (Sum.inl (Value.slice none 0 0)) → False) →
        (∀ (elems : List (DataW (Value ⊕ Nat × Nat))) (fst : Nat),
            x = DataW.slice elems [DataW.held (Sum.inr (fst, 1))] → False) →
          (∀ (head : DataW (Value ⊕ Nat × Nat)) (tail : List (DataW (Value ⊕ Nat × Nat))) (fst : Nat),
              x = DataW.slice (head :: tail) [DataW.held (Sum.inr (fst, 0))] → False) →
            nilL x = none) ∧
    (∀ (d : Nat) (x : Operand) (st : St) (x_1 : List D),
      iBts d x st x_1 =
        match rd st x with
        | some (DataW.held (Sum.inl (Value.string b))) =>
          if ByteArray.size b ≤ 140737488355328 then
            some (vEv d (rds x (vD (Value.string b))) (sD 1 (List.map encB (Array.toList (ByteArray.data b)))), none)
          else none
        | x => none) ∧
    (∀ (d s : Nat) (st : St) (x : List D),
      iCst d s st x =
        match rd st (Operand.tmp s) with
        | some l =>
          match asS 1 l, lookF (St.fl st) (s, none) with
          | some es, some f => if 0 < List.length es then some (cstEv d s l f es, none) else none
          | x, x_1 => none
        | none => none) ∧
    (∀ {tm : List (Nat × D)} {bx : List (Nat × List D)} {fl : List ((Nat × Option Nat) × Nat × Pay)} (d s : Nat)
      (l : D) (f : Nat × Pay) (es : List D),
      St.app { tm := tm, bx := bx, fl := fl } (cstEv d s l f es) =
        { tm := (d, sD 1 es) :: tm, bx := bx, fl := offP fl [(s, none), (d, none)] }) ∧
    (∀ (d s : Nat) (l : D) (f : Nat × Pay) (es : List D),
      Ev.fp (cstEv d s l f es) = { sr := [s], sw := [d], br := [], bw := [], fr := [(s, none), (s, none), (d, none)] }) ∧
    (∀ (d : Nat) (st : St) (x : List D),
      iMkM d st x =
        match look (St.bx st) (200000 + d) with
        | none => some (mkmEv d, none)
        | some val => none) ∧
    (∀ (d : Nat) (z : Value) (x y : Operand) (st : St) (x_1 : List D),
      iLku d z x y st x_1 =
        match rd st x, rd st y with
        | some (DataW.ptr (DataW.ptr (DataW.held (Sum.inr (b, 0))))),
          some (DataW.held (Sum.inl (Value.int IntKind.i64 n))) =>
          match look (St.bx st) b with
          | some cs =>
            if inR IntKind.i64 n = true then
              some
                (bEv d (rds x (hD b) ++ rds y (vD (Value.int IntKind.i64 n))) [(b, cs)] (vD (Option.getD (mlk cs n) z)),
                  none)
            else none
          | none => none
        | x, x_2 => none) ∧
    (∀ (x y v : Operand) (st : St) (x_1 : List D),
      iUpd x y v st x_1 =
        match rd st x, rd st y, rd st v with
        | some (DataW.ptr (DataW.ptr (DataW.held (Sum.inr (b, 0))))), some (DataW.held (Sum.inl (Value.int IntKind.i64 n))),
          some (DataW.held (Sum.inl c)) =>
          match look (St.bx st) b with
          | some cs =>
            if 200000 ≤ b ∧ inR IntKind.i64 n = true ∧ List.length cs < 9223372036854775807 then
              some
                (updEv (rds x (hD b) ++ (rds y (vD (Value.int IntKind.i64 n)) ++ rds v (vD c))) b cs
                    (aD [vD (Value.int IntKind.i64 n), vD c] :: cs),
                  none)
            else none
          | none => none
        | x, x_2, x_3 => none) ∧
    (∀ (x : Int), mlk [] x = none) ∧
    (∀ (x k : Int) (v : Value) (r : List D),
      mlk (DataW.agg [DataW.held (Sum.inl (Value.int IntKind.i64 k)), DataW.held (Sum.inl v)] :: r) x =
        if k = x then some v else mlk r x) ∧
    (∀ (x : Int) (head : D) (r : List D),
      (∀ (k : Int) (v : Value),
          head = DataW.agg [DataW.held (Sum.inl (Value.int IntKind.i64 k)), DataW.held (Sum.inl v)] → False) →
        mlk (head :: r) x = mlk r x) ∧
    (∀ (d z bytes : Nat) (e : D) (x y : Operand) (st : St) (x_1 : List D),
      iMkS d z bytes e x y st x_1 =
        match rd st x, rd st y with
        | some (DataW.held (Sum.inl (Value.int k n))), some (DataW.held (Sum.inl (Value.int k' c))) =>
          match look (St.bx st) (100000 + d) with
          | none =>
            if (0 ≤ n ∧ n ≤ c) ∧ c ≤ 1000000000 then
              some (mksEv d z (Int.toNat n) (rds x (vD (Value.int k n)) ++ rds y (vD (Value.int k' c))) e, none)
            else none
          | some val => none
        | x, x_2 => none) ∧
    (∀ (d e z bytes s : Nat) (y : Operand) (st : St) (x : List D),
      iApr d e z bytes s y st x =
        match rd st (Operand.tmp s), rd st y with
        | some l, some l' =>
          match asS z l, asS z l' with
          | some [], some fs =>
            match lookF (St.fl st) (s, none), look (St.bx st) (100000 + d) with
            | some (e', z', none), none =>
              if (e' = e ∧ z' = z) ∧ 0 < List.length fs ∧ List.length fs * bytes ≤ 140737488355328 then
                some (aprEv d s z (rds (Operand.tmp s) l ++ rds y l') (some (e, z, none)) fs, none)
              else none
            | x, x_1 => none
          | x, x_1 => none
        | x, x_1 => none) ∧
    (∀ (val : Nat × Nat), isCO (DataW.ptr (DataW.held (Sum.inr val))) = true) ∧
    (∀ (x : D), (∀ (val : Nat × Nat), x = DataW.ptr (DataW.held (Sum.inr val)) → False) → isCO x = isC x) ∧
    (∀ (z : Nat) (e : D) (off : Nat) (c : D),
      setE z e off c = if off = 0 ∧ List.length (cellsD c) = z then c else aD (over (cellsD e) off (cellsD c))) ∧
    (∀ (cs : List (DataW (Value ⊕ Nat × Nat))), clR (DataW.agg cs) = List.all cs isL) ∧
    (∀ (x : D), (∀ (cs : List (DataW (Value ⊕ Nat × Nat))), x = DataW.agg cs → False) → clR x = true) ∧
    (∀ (val : Value), isL (DataW.held (Sum.inl val)) = true) ∧
    (∀ (elems spare : List (DataW (Value ⊕ Nat × Nat))), isL (DataW.slice elems spare) = true) ∧
    (isL DataW.nil = true) ∧
    (∀ (type : String) (d : DataW (Value ⊕ Nat × Nat)), isL (DataW.iface type d) = true) ∧
    (∀ (x : D),
      (∀ (val : Value), x = DataW.held (Sum.inl val) → False) →
        (∀ (elems spare : List (DataW (Value ⊕ Nat × Nat))), x = DataW.slice elems spare → False) →
          (x = DataW.nil → False) →
            (∀ (type : String) (d : DataW (Value ⊕ Nat × Nat)), x = DataW.iface type d → False) → isL x = false) ∧
    (∀ {tm : List (Nat × D)} {bx : List (Nat × List D)} {fl : List ((Nat × Option Nat) × Nat × Pay)}
      (rs : List (Nat × D)) (b : Nat) (cs cs' : List D),
      St.app { tm := tm, bx := bx, fl := fl } (updEv rs b cs cs') = { tm := tm, bx := (b, cs') :: bx, fl := offP fl [] }) ∧
    (∀ {tm : List (Nat × D)} {bx : List (Nat × List D)} {fl : List ((Nat × Option Nat) × Nat × Pay)} (d : Nat),
      St.app { tm := tm, bx := bx, fl := fl } (mkmEv d) =
        { tm := (d, hD (200000 + d)) :: tm, bx := (200000 + d, []) :: bx, fl := offP fl [(d, none)] }) ∧
    (∀ {tm : List (Nat × D)} {bx : List (Nat × List D)} {fl : List ((Nat × Option Nat) × Nat × Pay)} (d z n : Nat)
      (rs : List (Nat × D)) (e : D),
      St.app { tm := tm, bx := bx, fl := fl } (mksEv d z n rs e) =
        { tm := (d, oD (100000 + d) n) :: tm, bx := (100000 + d, [sD z (List.replicate n e)]) :: bx,
          fl := offP fl [(d, none)] }) ∧
    (∀ {tm : List (Nat × D)} {bx : List (Nat × List D)} {fl : List ((Nat × Option Nat) × Nat × Pay)} (d s z : Nat)
      (rs : List (Nat × D)) (f : Nat × Pay) (fs : List D),
      St.app { tm := tm, bx := bx, fl := fl } (aprEv d s z rs (some f) fs) =
        { tm := (d, oD (100000 + d) (List.length fs)) :: tm, bx := (100000 + d, [sD z fs]) :: bx,
          fl := offP fl [(s, none), (d, none)] }) ∧
    (∀ (rs : List (Nat × D)) (b : Nat) (cs cs' : List D),
      Ev.fp (updEv rs b cs cs') = { sr := List.map (fun x => Prod.fst x) rs, sw := [], br := [b], bw := [b], fr := [] }) ∧
    (∀ (d : Nat), Ev.fp (mkmEv d) = { sr := [], sw := [d], br := [200000 + d], bw := [200000 + d], fr := [(d, none)] }) ∧
    (∀ (d z n : Nat) (rs : List (Nat × D)) (e : D),
      Ev.fp (mksEv d z n rs e) =
        { sr := List.map (fun x => Prod.fst x) rs, sw := [d], br := [100000 + d], bw := [100000 + d], fr := [(d, none)] }) ∧
    (∀ (d s z : Nat) (rs : List (Nat × D)) (f : Nat × Pay) (fs : List D),
      Ev.fp (aprEv d s z rs (some f) fs) =
        { sr := List.map (fun x => Prod.fst x) rs, sw := [d], br := [100000 + d], bw := [100000 + d],
          fr := [(s, none), (s, none), (d, none)] }) ∧
    (∀ (x : Value), refD (vD x) = none) ∧
    (∀ (es l : List D), refD (DataW.slice es l) = none) ∧
    (∀ (cs : List D), refD (aD cs) = none) ∧
    (∀ (xs : List D), refD (tD xs) = none) ∧
    (∀ (cs : List D) (off : Nat), refD (eD cs off) = none) ∧
    (∀ (b off : Nat), refD (pD b off) = some b) ∧
    (∀ (b n : Nat), refD (oD b n) = some b) ∧
    (∀ (b : Nat), refD (hD b) = some b) ∧
    (∀ (b i z off : Nat), refD (qD b i z off) = some b) ∧
    (∀ (st : St) (lv lb : List Nat),
      St.keep0 st lv lb = { tm := keepT (St.tm st) lb lv, bx := keepB (St.bx st) lb, fl := keepF lv lb (St.fl st) }) ∧
    (rowsB [] = []) ∧
    (∀ (b : Nat) (snd : List D) (r : List (Nat × List D)),
      rowsB ((b, snd) :: r) = if 100000 ≤ b ∧ b < 200000 then if b ∈ rowsB r then rowsB r else b :: rowsB r else rowsB r) ∧
    (∀ (lv lb lb' : List Nat) (x : St), frzAll lv lb lb' [] x = some x) ∧
    (∀ (lv lb lb' : List Nat) (x : St) (b : Nat) (r : List Nat),
      frzAll lv lb lb' (b :: r) x =
        if b ∈ lb then frzAll lv lb lb' r x
        else
          match St.frz x lv lb' b with
          | some st' => frzAll lv lb lb' r st'
          | none => none) ∧
    (∀ (st : St) (lv lb : List Nat) (b : Nat),
      St.frz st lv lb b =
        match look (St.bx st) b with
        | some [DataW.slice es [DataW.held (Sum.inr (z, 0))]] =>
          match frzB b z es (St.bx st) lb with
          | some bx' => some { tm := frzT b z es (St.tm st) lv, bx := bx', fl := St.fl st }
          | none => none
        | x => none) ∧
    (∀ (b z : Nat) (es : List D) (tm : List (Nat × D)), frzT b z es tm [] = []) ∧
    (∀ (b z : Nat) (es : List D) (tm : List (Nat × D)) (s : Nat) (r : List Nat),
      frzT b z es tm (s :: r) =
        match look tm s with
        | some v =>
          match frzV b z es v with
          | some v' => (s, v') :: frzT b z es tm r
          | none => frzT b z es tm r
        | none => frzT b z es tm r) ∧
    (∀ (b z : Nat) (es : List D) (bx : List (Nat × List D)), frzB b z es bx [] = some []) ∧
    (∀ (b z : Nat) (es : List D) (bx : List (Nat × List D)) (s : Nat) (r : List Nat),
      frzB b z es bx (s :: r) =
        match frzB b z es bx r with
        | none => none
        | some r' =>
          if s = b then some r'
          else
            match look bx s with
            | none => some r'
            | some cs =>
              if s < 100000 then
                match frzC b z es cs with
                | some cs' => some ((s, cs') :: r')
                | none => none
              else
                match frzP b z es cs with
                | some cs' => some ((s, cs') :: r')
                | none => none) ∧
    (∀ (b z : Nat) (es : List D), frzC b z es [] = some []) ∧
    (∀ (b z : Nat) (es : List D) (c : D) (r : List D),
      frzC b z es (c :: r) =
        match frzV b z es c, frzC b z es r with
        | some c', some r' => some (c' :: r')
        | x, x_1 => none) ∧
    (∀ (b z : Nat) (es : List D) (b' n : Nat),
      frzV b z es (DataW.ptr (DataW.held (Sum.inr (b', n)))) =
        if b' = b then if n = List.length es then some (sD z es) else none else some (oD b' n)) ∧
    (∀ (b z : Nat) (es : List D) (v : D),
      (∀ (b' n : Nat), v = DataW.ptr (DataW.held (Sum.inr (b', n))) → False) →
        frzV b z es v =
          match refD v with
          | some b' => if b' = b then none else some v
          | none => some v) ∧
    (∀ (n : Nat) (x y : Operand) (st : St) (x_1 : List D),
      iStor n x y st x_1 =
        match rd st x, rd st y with
        | some (DataW.held (Sum.inr (b, off))), some c =>
          match look (St.bx st) b with
          | some cs =>
            if isCO c = true ∧ List.length (cellsD c) = n ∧ off + n ≤ List.length cs then
              some (storEv st x y b off cs c, none)
            else none
          | none => none
        | some (DataW.ptr (DataW.slice [] [DataW.held (Sum.inr (b, i)), DataW.held (Sum.inr (z, off))])), some c =>
          match look (St.bx st) b with
          | some [DataW.slice es [DataW.held (Sum.inr (z', 0))]] =>
            if z' = z ∧ 100000 ≤ b then
              match es[i]? with
              | some e =>
                if isC c = true ∧ List.length (cellsD c) = n ∧ off + n ≤ z then
                  some (updEv (rds x (qD b i z off) ++ rds y c) b [sD z es] [sD z (List.set es i (setE z e off c))], none)
                else
                  match c with
                  | DataW.ptr (DataW.held (Sum.inr (b', m))) =>
                    if z = 1 ∧ off = 0 ∧ n = 1 then
                      some
                        (updEv (rds x (qD b i 1 0) ++ rds y (oD b' m)) b [sD 1 es]
                            [sD 1 (List.set es i xD), pD i 0, oD b' m],
                          none)
                    else none
                  | x => none
              | none => none
            else none
          | x => none
        | x, x_2 => none) ∧
    (∀ (st : St) (x y : Operand) (b off : Nat) (cs : List D) (c : D),
      storEv st x y b off cs c =
        match y, isL c with
        | Operand.tmp s, true =>
          match lookF (St.fl st) (s, none) with
          | some f =>
            { rs := rds x (pD b off) ++ rds y c, rb := [(b, cs)], rf := [((s, none), f)], wb := some (b, over cs off [c]),
              cf := [(s, none), (b, some off)], sf := some ((b, some off), f) }
          | none =>
            { rs := rds x (pD b off) ++ rds y c, rb := [(b, cs)], wb := some (b, over cs off (cellsD c)),
              cf := cellsFrom b off (cellsD c) }
        | x_1, x_2 =>
          { rs := rds x (pD b off) ++ rds y c, rb := [(b, cs)], wb := some (b, over cs off (cellsD c)),
            cf := cellsFrom b off (cellsD c) }) ∧
    (∀ {tm : List (Nat × D)} {bx : List (Nat × List D)} {fl : List ((Nat × Option Nat) × Nat × Pay)} (d : Nat)
      (rs : List (Nat × D)) (v : D),
      St.app { tm := tm, bx := bx, fl := fl } (vEv d rs v) = { tm := (d, v) :: tm, bx := bx, fl := offP fl [(d, none)] }) ∧
    (∀ {tm : List (Nat × D)} {bx : List (Nat × List D)} {fl : List ((Nat × Option Nat) × Nat × Pay)} (d : Nat)
      (rs : List (Nat × D)) (rb : List (Nat × List D)) (v : D),
      St.app { tm := tm, bx := bx, fl := fl } (bEv d rs rb v) = { tm := (d, v) :: tm, bx := bx, fl := offP fl [(d, none)] }) ∧
    (∀ {tm : List (Nat × D)} {bx : List (Nat × List D)} {fl : List ((Nat × Option Nat) × Nat × Pay)} (d : Nat)
      (rs : List (Nat × D)) (rb : List (Nat × List D)) (s : Nat) (p : Option Nat) (x : Nat × Pay) (v : D),
      St.app { tm := tm, bx := bx, fl := fl } (hEv d rs rb s p x v) =
        { tm := (d, v) :: tm, bx := bx, fl := ((d, none), x) :: offP fl [(s, p), (d, none)] }) ∧
    (∀ {tm : List (Nat × D)} {bx : List (Nat × List D)} {fl : List ((Nat × Option Nat) × Nat × Pay)} (d s : Nat)
      (rs : List (Nat × D)) (e z : Nat) (es : List D),
      St.app { tm := tm, bx := bx, fl := fl } (appEv d s rs e z es) =
        { tm := (d, sD z es) :: tm, bx := bx, fl := ((d, none), e, z, none) :: offP fl [(s, none), (d, none)] }) ∧
    (∀ {tm : List (Nat × D)} {bx : List (Nat × List D)} {fl : List ((Nat × Option Nat) × Nat × Pay)} (d : Nat)
      (rs : List (Nat × D)) (e z : Nat) (es : List D),
      St.app { tm := tm, bx := bx, fl := fl } (app0Ev d rs e z es) =
        { tm := (d, sD z es) :: tm, bx := bx, fl := ((d, none), e, z, none) :: offP fl [(d, none)] }) ∧
    (∀ {tm : List (Nat × D)} {bx : List (Nat × List D)} {fl : List ((Nat × Option Nat) × Nat × Pay)} (d : Nat)
      (rs : List (Nat × D)),
      St.app { tm := tm, bx := bx, fl := fl } (skipEv (some d) rs) =
        { tm := (d, tD []) :: tm, bx := bx, fl := offP fl [(d, none)] }) ∧
    (∀ (st : St) (ev : Ev) (g : Nat) (v : D), St.app st (Ev.wait ev g v) = St.app st ev) ∧
    (∀ {tm : List (Nat × D)} {bx : List (Nat × List D)} {fl : List ((Nat × Option Nat) × Nat × Pay)}
      (rs : List (Nat × D)) (rb : List (Nat × List D)) (nb : List Nat) (rf : List ((Nat × Option Nat) × Nat × Pay))
      (ws : Option (Nat × Option D)) (wb : Option (Nat × List D)) (cf : List (Nat × Option Nat))
      (sf : Option ((Nat × Option Nat) × Nat × Pay)),
      St.app { tm := tm, bx := bx, fl := fl }
          { rs := rs, rb := rb, nb := nb, rf := rf, ws := ws, wb := wb, cf := cf, sf := sf } =
        {
          tm :=
            match ws with
            | some (d, some v) => (d, v) :: tm
            | some (d, none) => offT tm d
            | none => tm,
          bx :=
            match wb with
            | some x => x :: bx
            | none => bx,
          fl :=
            match sf with
            | some x => x :: offP fl cf
            | none => offP fl cf }) ∧
    (∀ (d : Nat) (rs : List (Nat × D)) (v : D),
      Ev.fp (vEv d rs v) = { sr := List.map (fun x => Prod.fst x) rs, sw := [d], br := [], bw := [], fr := [(d, none)] }) ∧
    (∀ (d : Nat) (rs : List (Nat × D)) (rb : List (Nat × List D)) (v : D),
      Ev.fp (bEv d rs rb v) =
        { sr := List.map (fun x => Prod.fst x) rs, sw := [d], br := List.map (fun x => Prod.fst x) rb ++ [], bw := [],
          fr := [(d, none)] }) ∧
    (∀ (d : Nat) (rs : List (Nat × D)) (rb : List (Nat × List D)) (s : Nat) (p : Option Nat) (x : Nat × Pay) (v : D),
      Ev.fp (hEv d rs rb s p x v) =
        { sr := List.map (fun x => Prod.fst x) rs, sw := [d], br := List.map (fun x => Prod.fst x) rb ++ [], bw := [],
          fr := [(s, p), (s, p), (d, none), (d, none)] }) ∧
    (∀ (d s : Nat) (rs : List (Nat × D)) (e z : Nat) (es : List D),
      Ev.fp (appEv d s rs e z es) =
        { sr := List.map (fun x => Prod.fst x) rs, sw := [d], br := [], bw := [],
          fr := [(s, none), (s, none), (d, none), (d, none)] }) ∧
    (∀ (d : Nat) (rs : List (Nat × D)) (e z : Nat) (es : List D),
      Ev.fp (app0Ev d rs e z es) =
        { sr := List.map (fun x => Prod.fst x) rs, sw := [d], br := [], bw := [], fr := [(d, none), (d, none)] }) ∧
    (∀ (d : Nat) (rs : List (Nat × D)),
      Ev.fp (skipEv (some d) rs) =
        { sr := List.map (fun x => Prod.fst x) rs, sw := [d], br := [], bw := [], fr := [(d, none)] }) ∧
    (∀ (ev : Ev) (g : Nat) (v : D),
      Ev.fp (Ev.wait ev g v) =
        { sr := g :: Foot.sr (Ev.fp ev), sw := Foot.sw (Ev.fp ev), br := Foot.br (Ev.fp ev), bw := Foot.bw (Ev.fp ev),
          fr := Foot.fr (Ev.fp ev) }) ∧
    (∀ (rs : List (Nat × D)) (rb : List (Nat × List D)) (nb : List Nat) (rf : List ((Nat × Option Nat) × Nat × Pay))
      (ws : Option (Nat × Option D)) (wb : Option (Nat × List D)) (cf : List (Nat × Option Nat))
      (sf : Option ((Nat × Option Nat) × Nat × Pay)),
      Ev.fp { rs := rs, rb := rb, nb := nb, rf := rf, ws := ws, wb := wb, cf := cf, sf := sf } =
        { sr := List.map (fun x => Prod.fst x) rs,
          sw :=
            match ws with
            | some x => [Prod.fst x]
            | none => [],
          br := List.map (fun x => Prod.fst x) rb ++ nb,
          bw :=
            match wb with
            | some x => [Prod.fst x]
            | none => [],
          fr :=
            List.map (fun x => Prod.fst x) rf ++ cf ++
              match sf with
              | some x => [Prod.fst x]
              | none => [] }) ∧
    (∀ (st : St) (d : Nat) (c : Value) (tr : Bool) (v : D), movEv st d (Operand.const c) tr v = vEv d [] v) ∧
    (∀ (st : St) (d t : Nat) (v : D), movEv st d (Operand.tmp t) false v = vEv d [(t, v)] v) ∧
    (∀ (st : St) (d t : Nat) (v : D),
      movEv st d (Operand.tmp t) true v =
        if t = d then vEv d [(t, v)] v
        else
          match lookF (St.fl st) (t, none) with
          | some f => hEv d [(t, v)] [] t none f v
          | none => vEv d [(t, v)] v) ∧
    (∀ (st : St) (d : Nat) (x : Operand) (b off : Nat) (cs : List D) (r : D),
      loadEv st d x b off cs false r = bEv d (rds x (pD b off)) [(b, cs)] r) ∧
    (∀ (st : St) (d : Nat) (x : Operand) (b off : Nat) (cs : List D) (r : D),
      loadEv st d x b off cs true r =
        if isL r = true then
          match lookF (St.fl st) (b, some off) with
          | some f => hEv d (rds x (pD b off)) [(b, cs)] b (some off) f r
          | none => bEv d (rds x (pD b off)) [(b, cs)] r
        else bEv d (rds x (pD b off)) [(b, cs)] r) ∧
    (∀ (x : Operand) (v : D), List.map (fun x => Prod.fst x) (rds x v) = osl x) ∧
    (∀ (x_2 : Operand) (r : List Operand) (c : D) (cs : List D),
      rdsC (x_2 :: r) (c :: cs) = rds x_2 c ++ rdsC r cs) ∧
    (∀ (x : List Operand) (x_1 : List D),
      (∀ (x_2 : Operand) (r : List Operand) (c : D) (cs : List D), x = x_2 :: r → x_1 = c :: cs → False) → rdsC x x_1 = []) ∧
    (∀ (t : Tmp), osl (Operand.tmp t) = [t]) ∧
    (∀ (x : Operand), (∀ (t : Tmp), x = Operand.tmp t → False) → osl x = []) ∧
    (∀ (st : St) (t : Tmp), rd st (Operand.tmp t) = look (St.tm st) t) ∧
    (∀ (st : St) (v : Value), rd st (Operand.const v) = if plainV v = true then some (vD v) else none) ∧
    (∀ (st : St) (f : FuncId), rd st (Operand.func f) = some (vD (Value.func (Fn.func f) #[] #[]))) ∧
    (∀ (st : St) (x : Operand),
      (∀ (t : Tmp), x = Operand.tmp t → False) →
        (∀ (v : Value), x = Operand.const v → False) → (∀ (f : FuncId), x = Operand.func f → False) → rd st x = none) ∧
    (∀ (st : St), rdC st [] = some []) ∧
    (∀ (st : St) (x_1 : Operand) (r : List Operand),
      rdC st (x_1 :: r) =
        match rd st x_1 with
        | some c => if isC c = true then Option.map (fun x => c :: x) (rdC st r) else none
        | none => none) ∧
    (∀ (k : IntKind) (a : Int) (k' : IntKind) (b : Int),
      lbin BinOp.add (Value.int k a) (Value.int k' b) =
        if k = k' then if inR k (a + b) = true then some (Value.int k (a + b)) else none else none) ∧
    (∀ (k : IntKind) (a : Int) (k' : IntKind) (b : Int),
      lbin BinOp.sub (Value.int k a) (Value.int k' b) =
        if k = k' then if inR k (a - b) = true then some (Value.int k (a - b)) else none else none) ∧
    (∀ (k : IntKind) (a : Int) (k' : IntKind) (b : Int),
      lbin BinOp.mul (Value.int k a) (Value.int k' b) =
        if k = k' then if inR k (a * b) = true then some (Value.int k (a * b)) else none else none) ∧
    (∀ (k : IntKind) (a : Int) (k' : IntKind) (b : Int),
      lbin BinOp.quo (Value.int k a) (Value.int k' b) =
        if k = k' then if b ≠ 0 ∧ inR k (Int.tdiv a b) = true then some (Value.int k (Int.tdiv a b)) else none else none) ∧
    (∀ (k : IntKind) (a : Int) (k' : IntKind) (b : Int),
      lbin BinOp.rem (Value.int k a) (Value.int k' b) =
        if k = k' then if b ≠ 0 then some (Value.int k (Int.tmod a b)) else none else none) ∧
    (∀ (k : IntKind) (a : Int) (k' : IntKind) (b : Int),
      lbin BinOp.eql (Value.int k a) (Value.int k' b) = if k = k' then some (Value.bool (a == b)) else none) ∧
    (∀ (k : IntKind) (a : Int) (k' : IntKind) (b : Int),
      lbin BinOp.neq (Value.int k a) (Value.int k' b) = if k = k' then some (Value.bool (a != b)) else none) ∧
    (∀ (k : IntKind) (a : Int) (k' : IntKind) (b : Int),
      lbin BinOp.lss (Value.int k a) (Value.int k' b) = if k = k' then some (Value.bool (decide (a < b))) else none) ∧
    (∀ (k : IntKind) (a : Int) (k' : IntKind) (b : Int),
      lbin BinOp.leq (Value.int k a) (Value.int k' b) = if k = k' then some (Value.bool (decide (a ≤ b))) else none) ∧
    (∀ (k : IntKind) (a : Int) (k' : IntKind) (b : Int),
      lbin BinOp.gtr (Value.int k a) (Value.int k' b) = if k = k' then some (Value.bool (decide (a > b))) else none) ∧
    (∀ (k : IntKind) (a : Int) (k' : IntKind) (b : Int),
      lbin BinOp.geq (Value.int k a) (Value.int k' b) = if k = k' then some (Value.bool (decide (a ≥ b))) else none) ∧
    (∀ (op : BinOp) (k : IntKind) (a : Int) (k' : IntKind) (b : Int),
      (op = BinOp.add → False) →
        (op = BinOp.sub → False) →
          (op = BinOp.mul → False) →
            (op = BinOp.quo → False) →
              (op = BinOp.rem → False) →
                (op = BinOp.eql → False) →
                  (op = BinOp.neq → False) →
                    (op = BinOp.lss → False) →
                      (op = BinOp.leq → False) →
                        (op = BinOp.gtr → False) →
                          (op = BinOp.geq → False) →
                            lbin op (Value.int k a) (Value.int k' b) = if k = k' then none else none) ∧
    (∀ (a b : ByteArray),
      lbin BinOp.eql (Value.string a) (Value.string b) = some (Value.bool (ByteArray.toList a == ByteArray.toList b))) ∧
    (∀ (a b : ByteArray),
      lbin BinOp.neq (Value.string a) (Value.string b) = some (Value.bool !ByteArray.toList a == ByteArray.toList b)) ∧
    (∀ (op : BinOp) (a b : ByteArray),
      (op = BinOp.eql → False) → (op = BinOp.neq → False) → lbin op (Value.string a) (Value.string b) = none) ∧
    (∀ (op : BinOp) (x y : Value),
      (∀ (k : IntKind) (a : Int) (k' : IntKind) (b : Int), x = Value.int k a → y = Value.int k' b → False) →
        (∀ (a b : ByteArray), x = Value.string a → y = Value.string b → False) → lbin op x y = none) ∧
    (∀ (n : Nat) (ag : Bool) (off : Nat) (cs : List D),
      sub n ag off cs =
        if off + n ≤ List.length cs then
          if ag = true then some (aD (List.take n (List.drop off cs))) else if n = 1 then cs[off]? else none
        else none) ∧
    (∀ {α : Type} (cs : List α) (off : Nat) (ds : List α),
      over cs off ds = List.take off cs ++ ds ++ List.drop (off + List.length ds) cs) ∧
    (∀ (n b off : Nat), moveA n (DataW.held (Sum.inr (b, off))) = some (pD b (off + n))) ∧
    (∀ (n : Nat) (cs : List (DataW (Value ⊕ Nat × Nat))) (off : Nat),
      moveA n (DataW.ptr (DataW.slice cs [DataW.held (Sum.inr (off, 0))])) = some (eD cs (off + n))) ∧
    (∀ (n b i z off : Nat),
      moveA n (DataW.ptr (DataW.slice [] [DataW.held (Sum.inr (b, i)), DataW.held (Sum.inr (z, off))])) =
        some (qD b i z (off + n))) ∧
    (∀ (n : Nat) (type : String) (cs : List (DataW (Value ⊕ Nat × Nat))) (snd : Nat),
      moveA n (DataW.iface type (DataW.slice cs [DataW.held (Sum.inr (0, snd))])) = some (eD cs n)) ∧
    (∀ (n : Nat) (x : D),
      (∀ (b off : Nat), x = DataW.held (Sum.inr (b, off)) → False) →
        (∀ (cs : List (DataW (Value ⊕ Nat × Nat))) (off : Nat),
            x = DataW.ptr (DataW.slice cs [DataW.held (Sum.inr (off, 0))]) → False) →
          (∀ (b i z off : Nat),
              x = DataW.ptr (DataW.slice [] [DataW.held (Sum.inr (b, i)), DataW.held (Sum.inr (z, off))]) → False) →
            (∀ (type : String) (cs : List (DataW (Value ⊕ Nat × Nat))) (snd : Nat),
                x = DataW.iface type (DataW.slice cs [DataW.held (Sum.inr (0, snd))]) → False) →
              moveA n x = none) ∧
    (∀ (z : Nat) (es : List (DataW (Value ⊕ Nat × Nat))) (z' : Nat),
      asS z (DataW.slice es [DataW.held (Sum.inr (z', 0))]) = if z' = z then some es else none) ∧
    (∀ (z : Nat) (es : List (DataW (Value ⊕ Nat × Nat))) (z' : Nat),
      asS z (DataW.slice es [DataW.held (Sum.inr (z', 1))]) = if z' = z then some es else none) ∧
    (∀ (z : Nat), asS z (DataW.held (Sum.inl (Value.slice none 0 0))) = some []) ∧
    (∀ (z : Nat) (x : D),
      (∀ (es : List (DataW (Value ⊕ Nat × Nat))) (z' : Nat), x = DataW.slice es [DataW.held (Sum.inr (z', 0))] → False) →
        (∀ (es : List (DataW (Value ⊕ Nat × Nat))) (z' : Nat), x = DataW.slice es [DataW.held (Sum.inr (z', 1))] → False) →
          (x = DataW.held (Sum.inl (Value.slice none 0 0)) → False) → asS z x = none) ∧
    (∀ (st : St) (dflt : Nat), bnd st none dflt = some (↑dflt, [])) ∧
    (∀ (st : St) (dflt : Nat) (x_2 : Operand),
      bnd st (some x_2) dflt =
        match rd st x_2 with
        | some (DataW.held (Sum.inl (Value.int k n))) => some (n, rds x_2 (vD (Value.int k n)))
        | x => none) ∧
    (∀ (x : List D), fillA x [] [] = some x) ∧
    (∀ (x : List D) (off n : Nat) (ps : List (Nat × Nat)) (c : D) (cs : List D),
      fillA x ((off, n) :: ps) (c :: cs) =
        if List.length (cellsD c) = n ∧ off + n ≤ List.length x then fillA (over x off (cellsD c)) ps cs else none) ∧
    (∀ (x : List D) (x_1 : List (Nat × Nat)) (x_2 : List D),
      (x_1 = [] → x_2 = [] → False) →
        (∀ (off n : Nat) (ps : List (Nat × Nat)) (c : D) (cs : List D), x_1 = (off, n) :: ps → x_2 = c :: cs → False) →
          fillA x x_1 x_2 = none) ∧
    (∀ (cs : List (DataW (Value ⊕ Nat × Nat))), cellsD (DataW.agg cs) = cs) ∧
    (∀ (x : D), (∀ (cs : List (DataW (Value ⊕ Nat × Nat))), x = DataW.agg cs → False) → cellsD x = [x]) ∧
    (∀ (val : Value), isC (DataW.held (Sum.inl val)) = true) ∧
    (∀ (parts : List (DataW (Value ⊕ Nat × Nat))), isC (DataW.agg parts) = true) ∧
    (∀ (elems spare : List (DataW (Value ⊕ Nat × Nat))), isC (DataW.slice elems spare) = true) ∧
    (isC DataW.nil = true) ∧
    (∀ (type : String) (d : DataW (Value ⊕ Nat × Nat)), isC (DataW.iface type d) = true) ∧
    (∀ (x : D),
      (∀ (val : Value), x = DataW.held (Sum.inl val) → False) →
        (∀ (parts : List (DataW (Value ⊕ Nat × Nat))), x = DataW.agg parts → False) →
          (∀ (elems spare : List (DataW (Value ⊕ Nat × Nat))), x = DataW.slice elems spare → False) →
            (x = DataW.nil → False) →
              (∀ (type : String) (d : DataW (Value ⊕ Nat × Nat)), x = DataW.iface type d → False) → isC x = false) ∧
    (∀ (s : ByteArray), strL (DataW.held (Sum.inl (Value.string s))) = true) ∧
    (∀ (x : D), (∀ (s : ByteArray), x = DataW.held (Sum.inl (Value.string s)) → False) → strL x = false) ∧
    (∀ (es : List (DataW (Value ⊕ Nat × Nat))) (fst : Nat),
      lenL (DataW.slice es [DataW.held (Sum.inr (fst, 0))]) = some (List.length es)) ∧
    (∀ (es : List (DataW (Value ⊕ Nat × Nat))) (fst : Nat),
      lenL (DataW.slice es [DataW.held (Sum.inr (fst, 1))]) = some (List.length es)) ∧
    (∀ (fst n : Nat), lenL (DataW.ptr (DataW.held (Sum.inr (fst, n)))) = some n) ∧
    (lenL (DataW.held (Sum.inl (Value.slice none 0 0))) = some 0) ∧
    (∀ (s : ByteArray), lenL (DataW.held (Sum.inl (Value.string s))) = some (ByteArray.size s)) ∧
    (∀ (x : D),
      (∀ (es : List (DataW (Value ⊕ Nat × Nat))) (fst : Nat), x = DataW.slice es [DataW.held (Sum.inr (fst, 0))] → False) →
        (∀ (es : List (DataW (Value ⊕ Nat × Nat))) (fst : Nat),
            x = DataW.slice es [DataW.held (Sum.inr (fst, 1))] → False) →
          (∀ (fst n : Nat), x = DataW.ptr (DataW.held (Sum.inr (fst, n))) → False) →
            (x = DataW.held (Sum.inl (Value.slice none 0 0)) → False) →
              (∀ (s : ByteArray), x = DataW.held (Sum.inl (Value.string s)) → False) → lenL x = none) ∧
    (∀ (c : D), res [c] = c) ∧
    (∀ (r : List D), (∀ (c : D), r = [c] → False) → res r = tD r) ∧
    (∀ (st : St) (lv lb : List Nat),
      St.keep st lv lb =
        match rowsB (St.bx st) with
        | [] => some (St.keep0 st lv lb)
        | rows => frzAll lv lb (lb ++ rows) rows (St.keep0 st lv (lb ++ rows))) ∧
    (∀ (tm : List (Nat × D)) (lb : List Nat), keepT tm lb [] = []) ∧
    (∀ (tm : List (Nat × D)) (lb : List Nat) (s : Nat) (r : List Nat),
      keepT tm lb (s :: r) =
        match look tm s with
        | some v =>
          match refD v with
          | some b => if b ∈ lb then (s, v) :: keepT tm lb r else keepT tm lb r
          | none => (s, v) :: keepT tm lb r
        | none => keepT tm lb r) ∧
    (∀ (bx : List (Nat × List D)), keepB bx [] = []) ∧
    (∀ (bx : List (Nat × List D)) (s : Nat) (r : List Nat),
      keepB bx (s :: r) =
        match look bx s with
        | some cs => (s, cs) :: keepB bx r
        | none => keepB bx r) ∧
    (∀ (lv lb : List Nat), keepF lv lb [] = []) ∧
    (∀ (lv lb : List Nat) (p : Nat × Option Nat) (x_1 : Nat × Pay) (r : List ((Nat × Option Nat) × Nat × Pay)),
      keepF lv lb ((p, x_1) :: r) = if inL lv lb p = true then (p, x_1) :: keepF lv lb r else keepF lv lb r) ∧
    (∀ (lv lb : List Nat) (p : Nat × Option Nat),
      inL lv lb p =
        match Prod.snd p with
        | none => decide (Prod.fst p ∈ lv)
        | some val => decide (Prod.fst p ∈ lb)) ∧
    (∀ (b : Bool), plainV (Value.bool b) = true) ∧
    (∀ (k : IntKind) (n : Int), plainV (Value.int k n) = true) ∧
    (∀ (s : ByteArray), plainV (Value.string s) = true) ∧
    (plainV (Value.slice none 0 0) = true) ∧
    (∀ (f : FuncId) (a b : Array Value),
      plainV (Value.func (Fn.func f) a b) = (Array.isEmpty a && Array.isEmpty b)) ∧
    (plainV Value.nilFunc = true) ∧
    (∀ (val : Nat), plainV (Value.map (some val)) = true) ∧
    (∀ (val : Addr), plainV (Value.pointer (some val)) = true) ∧
    (∀ (x : Value),
      (∀ (b : Bool), x = Value.bool b → False) →
        (∀ (k : IntKind) (n : Int), x = Value.int k n → False) →
          (∀ (s : ByteArray), x = Value.string s → False) →
            (x = Value.slice none 0 0 → False) →
              (∀ (f : FuncId) (a b : Array Value), x = Value.func (Fn.func f) a b → False) →
                (x = Value.nilFunc → False) →
                  (∀ (val : Nat), x = Value.map (some val) → False) →
                    (∀ (val : Addr), x = Value.pointer (some val) → False) → plainV x = false) ∧
    (∀ (a b c : Int),
      ints3
          [DataW.held (Sum.inl (Value.int IntKind.i64 a)), DataW.held (Sum.inl (Value.int IntKind.i64 b)),
            DataW.held (Sum.inl (Value.int IntKind.i64 c))] =
        some (a, b, c)) ∧
    (∀ (x : List D),
      (∀ (a b c : Int),
          x =
              [DataW.held (Sum.inl (Value.int IntKind.i64 a)), DataW.held (Sum.inl (Value.int IntKind.i64 b)),
                DataW.held (Sum.inl (Value.int IntKind.i64 c))] →
            False) →
        ints3 x = none) ∧
    (∀ (args : List D), start args = { tm := startT args 0, bx := [], fl := [] }) ∧
    (∀ (x : Nat), startT [] x = []) ∧
    (∀ (x : Nat) (c : D) (r : List D), startT (c :: r) x = (x, c) :: startT r (x + 1)) ∧
    (∀ (st : St), resA st [] = some []) ∧
    (∀ (st : St) (s : Nat) (r : List RV),
      resA st ((s, none) :: r) =
        match look (St.tm st) s, resA st r with
        | some c, some cs => if isC c = true then some (c :: cs) else none
        | x, x_1 => none) ∧
    (∀ (st : St) (s n : Nat) (ag : Bool) (r : List RV),
      resA st ((s, some (n, ag)) :: r) =
        match look (St.tm st) s, resA st r with
        | some (DataW.held (Sum.inr (b, off))), some cs =>
          match look (St.bx st) b with
          | some xs =>
            match sub n ag off xs with
            | some c => if clR c = true ∧ isC c = true then some (c :: cs) else none
            | none => none
          | none => none
        | x, x_1 => none) ∧
    (∀ (n : Nat), 0 + n = n) ∧
    (∀ (n : Nat), n + 0 = n) ∧
    (∀ (p : Prop), (p ∧ True) = p) ∧
    (∀ (p : Prop), (True ∧ p) = p) ∧
    (∀ (p : Prop), (p ∧ p) = p) ∧
    ((¬True) = False) ∧
    ((¬False) = True) ∧
    ((false = true) = False) ∧
    ((!true) = false) ∧
    ((!false) = true) ∧
    (∀ (p : Prop), (p ∨ False) = p) ∧
    (∀ (p : Prop), (False ∨ p) = p) ∧
    (∀ (p : Prop), (p ∨ True) = True) ∧
    (∀ (p : Prop), (True ∨ p) = True) ∧
    (∀ (h : Decidable True), decide True = true) ∧
    (∀ (h : Decidable False), decide False = false) ∧
    (∀ (b : Bool), (b && true) = b) ∧
    (Int.toNat 0 = 0) ∧
    (Int.toNat 1 = 1) ∧
    (∀ (n : Nat), Int.toNat ↑n = n) ∧
    (kindR [] = none) ∧
    (∀ (x : Value) (l : List D), kindR (vD x :: l) = none) ∧
    (∀ (cs l : List D), kindR (aD cs :: l) = none) ∧
    (∀ (x y l : List D), kindR (DataW.slice x y :: l) = none) ∧
    (∀ (l : List D), kindR (xD :: l) = none) ∧
    (∀ (k f : Nat) (cs l : List D), kindR (jD k f cs :: l) = none) ∧
    (∀ (r : D) (e z : Nat) (c : D) (l : List D), kindR (mO r e z c :: l) = some (Sum.inl (r, e, z, c))) ∧
    (∀ (i e z : Nat) (c : D) (l : List D), kindR (mI i e z c :: l) = some (Sum.inr (Sum.inl ((i, e, z, c), l)))) ∧
    (∀ (es : List D), unC (aD es) = some es) ∧
    (unC xD = none) ∧
    (ofC none = xD) ∧
    (∀ (es : List D), ofC (some es) = aD es) ∧
    (∀ (b f : Nat), refD (fD b f) = some b) ∧
    (∀ (x : Value), dimC (vD x) = vD x) ∧
    (∀ (es l : List D), dimC (DataW.slice es l) = DataW.slice es l) ∧
    (dimC xD = xD) ∧
    (∀ (b n : Nat), dimC (oD b n) = xD) ∧
    (∀ {tm : List (Nat × D)} {bx : List (Nat × List D)} {fl : List ((Nat × Option Nat) × Nat × Pay)} (d : Nat)
      (rs : List (Nat × D)) (e z : Nat) (es : List D),
      St.app { tm := tm, bx := bx, fl := fl } (app0HEv d rs e z es) =
        { tm := (d, xD) :: tm, bx := bx, fl := ((d, none), e, z, some es) :: offP fl [(d, none)] }) ∧
    (∀ (d : Nat) (rs : List (Nat × D)) (e z : Nat) (es : List D),
      Ev.fp (app0HEv d rs e z es) =
        { sr := List.map (fun x => Prod.fst x) rs, sw := [d], br := [], bw := [], fr := [(d, none), (d, none)] }) ∧
    (∀ {tm : List (Nat × D)} {bx : List (Nat × List D)} {fl : List ((Nat × Option Nat) × Nat × Pay)} (d : Nat)
      (rs : List (Nat × D)) (b z : Nat) (es es' : List D),
      St.app { tm := tm, bx := bx, fl := fl } (callUEv d rs b z es es') =
        { tm := (d, oD b (List.length es')) :: tm, bx := (b, [sD z es']) :: bx, fl := offP fl [(d, none)] }) ∧
    (∀ (d : Nat) (rs : List (Nat × D)) (b z : Nat) (es es' : List D),
      Ev.fp (callUEv d rs b z es es') =
        { sr := List.map (fun x => Prod.fst x) rs, sw := [d], br := [b], bw := [b], fr := [(d, none)] }) ∧
    (∀ (es l : List D), kindL [DataW.slice es l] = some es) ∧
    (∀ (x : Value) (l : List D), kindL (vD x :: l) = none) ∧
    (∀ (z : Nat) (es es' l : List D), kindR (mU z es es' :: l) = some (Sum.inr (Sum.inr (Sum.inl (z, es, es'))))) ∧
    (∀ (d e z bytes : Nat) (x y : Operand) (st : St) (x_1 : List D),
      iAppH d e z bytes x y st x_1 =
        match rd st x, rd st y with
        | some (DataW.held (Sum.inl (Value.slice none 0 0))), some l' =>
          match asS z l' with
          | some fs =>
            if List.length fs * bytes ≤ 140737488355328 then
              some (app0HEv d (rds x (vD (Value.slice none 0 0)) ++ rds y l') e z fs, none)
            else none
          | none => none
        | x, x_2 => none) ∧
    (∀ (d : Nat) (mx : Bool) (x y : Operand) (st : St) (x_1 : List D),
      iMm d mx x y st x_1 =
        match rd st x, rd st y with
        | some (DataW.held (Sum.inl (Value.int k a))), some (DataW.held (Sum.inl (Value.int k' b))) =>
          some (vEv d (rds x (vD (Value.int k a)) ++ rds y (vD (Value.int k' b))) (vD (Value.int k (mmI mx a b))), none)
        | x, x_2 => none) ∧
    (∀ (a b : Int), mmI true a b = max a b) ∧
    (∀ (a b : Int), mmI false a b = min a b) ∧
    (∀ (d : Nat) (x y : Operand) (st : St) (x_1 : List D),
      iXor d x y st x_1 =
        match rd st x, rd st y with
        | some (DataW.held (Sum.inl (Value.int IntKind.u8 a))), some (DataW.held (Sum.inl (Value.int IntKind.u8 b))) =>
          if inR IntKind.u8 a = true ∧ inR IntKind.u8 b = true then
            some
              (vEv d (rds x (vD (Value.int IntKind.u8 a)) ++ rds y (vD (Value.int IntKind.u8 b)))
                  (vD (Value.int IntKind.u8 ↑(Int.toNat a ^^^ Int.toNat b))),
                none)
          else none
        | x, x_2 => none) ∧
    (∀ (d f : Nat) (st : St) (r : List D) (x : Operand) (ys : List Operand),
      iCallP d f (x :: ys) st r =
        match rd st x, rdC st ys with
        | some (DataW.held (Sum.inr (b, off))), some cs =>
          match kindR r with
          | some (Sum.inr (Sum.inr (Sum.inr (fst, off')))) =>
            some (vEv d (rds x (pD b off) ++ rdsC ys cs) (pD b off'), some (f, cs, [mP off off']))
          | x => none
        | x, x_1 => none) ∧
    (∀ (d f : Nat) (st : St) (r : List D), iCallP d f [] st r = none) ∧
    (∀ (off off' : Nat) (l : List D), kindR (mP off off' :: l) = some (Sum.inr (Sum.inr (Sum.inr (off, off'))))) ∧
    (∀ (b z z1 : Nat) (es es1 : List D), frzP b z es [sD z1 es1] = some [sD z1 es1]) ∧
    (∀ (b z : Nat) (es : List D), frzP b z es [] = some []) ∧
    (∀ (b z : Nat) (es cs r : List D), frzP b z es (aD cs :: r) = some (aD cs :: r)) ∧
    (∀ (b z m b' n : Nat) (es es1 : List D),
      frzP b z es [sD 1 es1, pD m 0, oD b' n] =
        if b' = b then if n = List.length es then some [sD 1 (List.set es1 m (sD z es))] else none
        else some [sD 1 es1, pD m 0, oD b' n]) :=
  ⟨@app_aH, @app_o, @app_i, @fp_aH, @fp_o, @fp_i, @refD_x, @refD_j, @refD_r, @ab.iCallV.eq_1, @ab.iCallL.eq_1, @ab.rdL.eq_1, @ab.rdLs.eq_1, @ab.rdLs.eq_2, @ab.plainR.eq_1, @ab.plainR.eq_2, @ab.iBoxF.eq_1, @ab.iMkf.eq_1, @ab.iClr.eq_1, @funOf_p, @funOf_j, @ab.asB.eq_1, @ab.asB.eq_2, @bq_t, @bq_f, @ab.evalR.eq_1, @ab.evalRK.eq_1, @ab.evalOps.eq_1, @ab.evalOps.eq_2, @ab.evalD.eq_1, @ab.evalD.eq_2, @stepI_n, @stepI_g, @ab.iMov.eq_1, @ab.iPick.eq_1, @ab.iBin.eq_1, @ab.iBinB.eq_1, @ab.iEqA.eq_1, @ab.iNot.eq_1, @ab.iCvi.eq_1, @ab.iStr.eq_1, @ab.iFld.eq_1, @ab.iFad.eq_1, @ab.iIaA.eq_1, @ab.iIaS.eq_1, @ab.iExt.eq_1, @ab.iLen.eq_1, @ab.iSlc.eq_1, @ab.iBld.eq_1, @ab.iLoad.eq_1, @ab.iBox.eq_1, @ab.iAlo.eq_1, @ab.iRow.eq_1, @ab.iApp.eq_1, @ab.iCall.eq_1, @ab.iNil.eq_1, @ab.nilL.eq_1, @ab.nilL.eq_2, @ab.nilL.eq_3, @ab.nilL.eq_4, @ab.iBts.eq_1, @ab.iCst.eq_1, @app_c, @fp_c, @ab.iMkM.eq_1, @ab.iLku.eq_1, @ab.iUpd.eq_1, @ab.mlk.eq_1, @ab.mlk.eq_2, @ab.mlk.eq_3, @ab.iMkS.eq_1, @ab.iApr.eq_1, @ab.isCO.eq_1, @ab.isCO.eq_2, @ab.setE.eq_1, @ab.clR.eq_1, @ab.clR.eq_2, @ab.isL.eq_1, @ab.isL.eq_2, @ab.isL.eq_3, @ab.isL.eq_4, @ab.isL.eq_5, @app_u, @app_k, @app_ks, @app_r, @fp_u, @fp_k, @fp_ks, @fp_r, @refD_v, @refD_s, @refD_a, @refD_t, @refD_e, @refD_p, @refD_o, @refD_h, @refD_q, @ab.St.keep0.eq_1, @ab.rowsB.eq_1, @ab.rowsB.eq_2, @ab.frzAll.eq_1, @ab.frzAll.eq_2, @ab.St.frz.eq_1, @ab.frzT.eq_1, @ab.frzT.eq_2, @ab.frzB.eq_1, @ab.frzB.eq_2, @ab.frzC.eq_1, @ab.frzC.eq_2, @ab.frzV.eq_1, @ab.frzV.eq_2, @ab.iStor.eq_1, @storEv.eq_def, @app_v, @app_b, @app_h, @app_a, @app_a0, @app_s, @app_g, @app_m, @fp_v, @fp_b, @fp_h, @fp_a, @fp_a0, @fp_s, @fp_g, @fp_m, @mov_k, @mov_f, @mov_t, @load_f, @load_t, @rds_sl, @ab.rdsC.eq_1, @ab.rdsC.eq_2, @ab.osl.eq_1, @ab.osl.eq_2, @ab.rd.eq_1, @ab.rd.eq_2, @ab.rd.eq_3, @ab.rd.eq_4, @ab.rdC.eq_1, @ab.rdC.eq_2, @ab.lbin.eq_1, @ab.lbin.eq_2, @ab.lbin.eq_3, @ab.lbin.eq_4, @ab.lbin.eq_5, @ab.lbin.eq_6, @ab.lbin.eq_7, @ab.lbin.eq_8, @ab.lbin.eq_9, @ab.lbin.eq_10, @ab.lbin.eq_11, @ab.lbin.eq_12, @ab.lbin.eq_13, @ab.lbin.eq_14, @ab.lbin.eq_15, @ab.lbin.eq_16, @ab.sub.eq_1, @ab.over.eq_1, @ab.moveA.eq_1, @ab.moveA.eq_2, @ab.moveA.eq_3, @ab.moveA.eq_4, @ab.moveA.eq_5, @ab.asS.eq_1, @ab.asS.eq_2, @ab.asS.eq_3, @ab.asS.eq_4, @ab.bnd.eq_1, @ab.bnd.eq_2, @ab.fillA.eq_1, @ab.fillA.eq_2, @ab.fillA.eq_3, @ab.cellsD.eq_1, @ab.cellsD.eq_2, @ab.isC.eq_1, @ab.isC.eq_2, @ab.isC.eq_3, @ab.isC.eq_4, @ab.isC.eq_5, @ab.isC.eq_6, @ab.strL.eq_1, @ab.strL.eq_2, @ab.lenL.eq_1, @ab.lenL.eq_2, @ab.lenL.eq_3, @ab.lenL.eq_4, @ab.lenL.eq_5, @ab.lenL.eq_6, @ab.res.eq_1, @ab.res.eq_2, @ab.St.keep.eq_1, @ab.keepT.eq_1, @ab.keepT.eq_2, @ab.keepB.eq_1, @ab.keepB.eq_2, @ab.keepF.eq_1, @ab.keepF.eq_2, @ab.inL.eq_1, @ab.plainV.eq_1, @ab.plainV.eq_2, @ab.plainV.eq_3, @ab.plainV.eq_4, @ab.plainV.eq_5, @ab.plainV.eq_6, @ab.plainV.eq_7, @ab.plainV.eq_8, @ab.plainV.eq_9, @ab.ints3.eq_1, @ab.ints3.eq_2, @ab.start.eq_1, @ab.startT.eq_1, @ab.startT.eq_2, @ab.resA.eq_1, @ab.resA.eq_2, @ab.resA.eq_3, @Nat.zero_add, @Nat.add_zero, @and_true, @true_and, @and_self, @not_true_eq_false, @not_false_eq_true, @Bool.false_eq_true, @Bool.not_true, @Bool.not_false, @or_false, @false_or, @or_true, @true_or, @decide_true, @decide_false, @Bool.and_true, @Int.toNat_zero, @Int.toNat_one, @Int.toNat_natCast, @kindR_nil, @kindR_v, @kindR_a, @kindR_s, @kindR_x, @kindR_j, @kindR_o, @kindR_i, @unC_a, @unC_x, @ofC_n, @ofC_s, @refD_f, @dimC_v, @dimC_s, @dimC_x, @dimC_o, @app_aN, @fp_aN, @app_cu, @fp_cu, @kindL_s, @kindL_v, @kindR_u, @ab.iAppH.eq_1, @ab.iMm.eq_1, @ab.mmI.eq_1, @ab.mmI.eq_2, @ab.iXor.eq_1, @ab.iCallP.eq_1, @ab.iCallP.eq_2, @kindR_p, @frzP_r, @frzP_n, @frzP_a, @frzP_p⟩

theorem ev1.{u} :
    (∀ {α : Type u} {a b : α}, Option.getD (some a) b = a) ∧
    (∀ {α : Type u} {a : α}, Option.getD none a = a) ∧
    (∀ {α : Type u} {a : α} {l : List α} {d : α}, List.headD (a :: l) d = a) ∧
    (∀ {α : Type u} {d : α}, List.headD [] d = d) ∧
    (∀ {α : Type u} {a : α} {as : List α}, List.tail (a :: as) = as) ∧
    (∀ {α : Type u} {a : α} {as : List α} {i : Nat},
      List.take (i + 1) (a :: as) = a :: List.take i as) ∧
    (∀ {α : Type u} {l : List α}, List.take 0 l = []) ∧
    (∀ {α : Type u} {a : α} {l : List α} {i : Nat}, List.drop (i + 1) (a :: l) = List.drop i l) ∧
    (∀ {α : Type u} {l : List α}, List.drop 0 l = l) ∧
    (∀ {α : Type u} (as : List α), [] ++ as = as) ∧
    (∀ {α : Type u} {a : α} {as bs : List α}, a :: as ++ bs = a :: (as ++ bs)) ∧
    (∀ {α : Type u} (as : List α), as ++ [] = as) ∧
    (∀ {α : Type u} {a : α} {as : List α}, List.length (a :: as) = List.length as + 1) ∧
    (∀ {α : Type u} {a : α} {l : List α}, (a :: l)[0]? = some a) ∧
    (∀ {α : Type u} {a : α} {i : Nat} {l : List α}, (a :: l)[i + 1]? = l[i]?) ∧
    (∀ {α : Sort u} (a b : α), (a ≠ b) = ¬a = b) ∧
    (∀ {α : Sort u} {x : Decidable True} (t e : α), (if True then t else e) = t) ∧
    (∀ {α : Sort u} {x : Decidable False} (t e : α), (if False then t else e) = e) ∧
    (∀ {α : Type u} {b : α} {l : List α} {a : α}, a ∈ b :: l ↔ a = b ∨ a ∈ l) ∧
    (∀ {α : Type u} {a : α}, ¬a ∈ []) ∧
    (∀ {α : Type u} (val val_1 : α), (some val = some val_1) = (val = val_1)) ∧
    (∀ {α : Type u} {a : α} {l : List α} {f : α → Bool}, List.all (a :: l) f = (f a && List.all l f)) ∧
    (∀ {α : Type u} {f : α → Bool}, List.all [] f = true) ∧
    (∀ {α : Type u} [inst : BEq α] [ReflBEq α] (a : α), (a == a) = true) ∧
    (∀ {α : Type u} [inst : BEq α] [ReflBEq α] {a : α}, (a == a) = true) ∧
    (∀ {α : Type u} [inst : BEq α] [LawfulBEq α] (a : α), (a != a) = false) ∧
    (∀ {α : Type u} [inst : LT α] {x y : α}, x > y ↔ y < x) ∧
    (∀ {α : Type u} [inst : LE α] {x y : α}, x ≥ y ↔ y ≤ x) :=
  ⟨@Option.getD_some, @Option.getD_none, @List.headD_cons, @List.headD_nil, @List.tail_cons, @List.take_succ_cons, @List.take_zero, @List.drop_succ_cons, @List.drop_zero, @List.nil_append, @List.cons_append, @List.append_nil, @List.length_cons, @List.getElem?_cons_zero, @List.getElem?_cons_succ, @ne_eq, @if_true, @if_false, @List.mem_cons, @List.not_mem_nil, @Option.some.injEq, @List.all_cons, @List.all_nil, @beq_self_eq_true, @BEq.rfl, @bne_self_eq_false, @gt_iff_lt, @ge_iff_le⟩

theorem ev2.{u, v} :
    (∀ {α : Type u} {β : Type v} (a : α) (f : α → β), Option.map f (some a) = some (f a)) ∧
    (∀ {α : Type u} {β : Type v} (f : α → β), Option.map f none = none) ∧
    (∀ {α : Type u} {β : Type v} (fst : α) (snd : β) (fst_1 : α) (snd_1 : β),
      ((fst, snd) = (fst_1, snd_1)) = (fst = fst_1 ∧ snd = snd_1)) ∧
    (∀ {α : Type u} {β : Type v} {f : α → β} {a : α} {l : List α},
      List.map f (a :: l) = f a :: List.map f l) ∧
    (∀ {α : Type u} {β : Type v} {f : α → β}, List.map f [] = []) ∧
    (∀ {α : Type u} {β : Type v} {f : α → β} {l₁ l₂ : List α},
      List.map f (l₁ ++ l₂) = List.map f l₁ ++ List.map f l₂) :=
  ⟨@Option.map_some, @Option.map_none, @Prod.mk.injEq, @List.map_cons, @List.map_nil, @List.map_append⟩

end Go.Proofs.Ytdfdeppimimoiab.ab
