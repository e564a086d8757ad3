/- Pieces: GrP. -/
import Derived.Test.YtjebepnphoeiaabGreatDoorQad
import Derived.Test.YtjebepnphoeiaabGreatDoorQab
namespace Go.Proofs.YtjebepnphoeiaabGreatDoor
set_option linter.unusedVariables false

abbrev Gr.Ts := List Lx.Tok
def Gr.tx (t : Lx.Tok) : ByteArray := ⟨t.text.toArray⟩
def Gr.isT (x : List UInt8) : Gr.Ts → Bool
 | [] => false
 | t :: _ => (decide (t.kind = 3) || decide (t.kind = 6)) && decide (t.text = x)
def Gr.kd : Gr.Ts → Nat
 | [] => 0
 | t :: _ => t.kind
def Gr.hd : Gr.Ts → ByteArray
 | [] => ⟨#[]⟩
 | t :: _ => Gr.tx t
def Gr.hn : Gr.Ts → Nat
 | [] => 0
 | t :: _ => t.n
inductive Gr.Res where
 | ok (v : Nd) (r : Gr.Ts)
 | bad (r : Gr.Ts) (e : Int)
 | out
def Gr.Res.bind (a : Gr.Res) (k : Nd → Gr.Ts → Gr.Res) : Gr.Res := match a with
 | .ok v r => k v r
 | .bad r e => .bad r e
 | .out => .out
inductive Gr.PRes where
 | ok (p : List ByteArray) (low : Bool) (r : Gr.Ts)
 | bad (r : Gr.Ts) (e : Int)
def Gr.PRes.bind (a : Gr.PRes) (k : List ByteArray → Bool → Gr.Ts → Gr.Res) : Gr.Res := match a with
 | .ok p l r => k p l r
 | .bad r e => .bad r e
def Gr.path (lo up : Bool) (first : Gr.Ts) : Nat → Gr.Ts → List ByteArray → Gr.PRes
 | k, ts, acc =>
  if (decide (Gr.kd ts = 2) || (lo && decide (Gr.kd ts = 1))) = false then .bad ts 11
  else match k with
   | 0 => .bad first 3
   | k + 1 =>
    if (decide (Gr.kd ts = 2) && Gr.isT [46] ts.tail) = true then Gr.path lo up first k ts.tail.tail (acc ++ [Gr.hd ts])
    else if ((lo && decide (Gr.kd ts = 1)) || (up && decide (Gr.kd ts = 2))) = true then .ok (acc ++ [Gr.hd ts]) (decide (Gr.kd ts = 1)) ts.tail
    else .bad ts.tail 11
def Gr.low (ts : Gr.Ts) : Gr.PRes := Gr.path true false ts 8 ts []
def Gr.high (ts : Gr.Ts) : Gr.PRes := Gr.path false true ts 8 ts []
def Gr.either (ts : Gr.Ts) : Gr.PRes := Gr.path true true ts 8 ts []
def Gr.need (x : List UInt8) (ts : Gr.Ts) (k : Gr.Ts → Gr.Res) : Gr.Res := if Gr.isT x ts = true then k ts.tail else .bad ts 11
def Gr.name (q : Nat) (ts : Gr.Ts) (k : ByteArray → Gr.Ts → Gr.Res) : Gr.Res := if Gr.kd ts = q then k (Gr.hd ts) ts.tail else .bad ts 11
def Gr.lows : Gr.Ts → List ByteArray × Gr.Ts
 | [] => ([], [])
 | t :: r => if t.kind = 1 then (Gr.tx t :: (Gr.lows r).1, (Gr.lows r).2) else ([], t :: r)

def Gr.tyN (k : Int) (s : ByteArray) (p : List ByteArray) (l : List Nd) : Nd := .mk [.int k, .str s, .strs p] [l]
def Gr.patN (k : Int) (s : ByteArray) (p : List ByteArray) (n : Int) (l : List Nd) : Nd := .mk [.int k, .str s, .strs p, .int n] [l]
def Gr.expN (k op n : Int) (p : List ByteArray) (ps ks ds ts : List Nd) : Nd := .mk [.int k, .int op, .int n, .strs p] [ps, ks, ds, ts]
def Gr.decN (k : Int) (s : ByteArray) (p : List ByteArray) (ts es : List Nd) : Nd := .mk [.int k, .int 0, .str s, .strs p] [ts, es, [], [], []]
def Gr.binN (op : Int) (a b : Nd) : Nd := Gr.expN 13 op 0 [] [] [a, b] [] []
def Gr.none8 : ByteArray := ⟨#[]⟩

inductive Gr.Nt where
 | ty | pairTy | pairGo (a : Nd) | atomTy
 | pat | atomPat | restPat
 | exp | cmp | sum | sumGo (a : Nd) | prod | prodGo (a : Nd) | app | appGo (a : Nd) | atom
 | restExp | letGo (ds : List Nd) | case | caseGo (ps ks : List Nd)
 | dec | decTy (k : Int) (s : ByteArray) (p : List ByteArray) | decEq (k : Int) (s : ByteArray) (p : List ByteArray) (l : List Nd)
def Gr.begP (ts : Gr.Ts) : Bool := decide (Gr.kd ts = 1) || (decide (Gr.kd ts = 4) || (decide (Gr.kd ts = 2) || (Gr.isT [95] ts || (Gr.isT [116, 114, 117, 101] ts || (Gr.isT [102, 97, 108, 115, 101] ts || Gr.isT [40] ts)))))
def Gr.begE (ts : Gr.Ts) : Bool := decide (Gr.kd ts = 4) || (decide (Gr.kd ts = 1) || (decide (Gr.kd ts = 2) || (Gr.isT [116, 114, 117, 101] ts || (Gr.isT [102, 97, 108, 115, 101] ts || (Gr.isT [40] ts || (Gr.isT [108, 101, 116] ts || Gr.isT [99, 97, 115, 101] ts))))))

def Gr.g : Nat → Gr.Nt → Gr.Ts → Gr.Res
  | 0, _, _ => .out
  | f + 1, nt, ts => match nt with
    | .ty => (Gr.g f .pairTy ts).bind fun a r => if Gr.isT [45, 62] r = true then (Gr.g f .ty r.tail).bind fun b r2 => .ok (Gr.tyN 3 Gr.none8 [] [a, b]) r2 else .ok a r
    | .pairTy => (Gr.g f .atomTy ts).bind fun a r => Gr.g f (.pairGo a) r
    | .pairGo a => if Gr.isT [42] ts = true then (Gr.g f .atomTy ts.tail).bind fun b r => Gr.g f (.pairGo (Gr.tyN 4 Gr.none8 [] [a, b])) r else .ok a ts
    | .atomTy =>
      if Gr.kd ts = 5 then .ok (Gr.tyN 1 ((Gr.hd ts).extract 1 (Gr.hd ts).size) [] []) ts.tail
      else if Gr.isT [105, 110, 116] ts = true then .ok (Gr.tyN 2 Gr.none8 [Gr.hd ts] []) ts.tail
      else if Gr.isT [98, 111, 111, 108] ts = true then .ok (Gr.tyN 2 Gr.none8 [Gr.hd ts] []) ts.tail
      else if Gr.isT [117, 110, 105, 116] ts = true then .ok (Gr.tyN 2 Gr.none8 [Gr.hd ts] []) ts.tail
      else if Gr.isT [40] ts = true then (Gr.g f .ty ts.tail).bind fun a r => Gr.need [41] r fun r2 => .ok a r2
      else (Gr.low ts).bind fun p _ r => .ok (Gr.tyN 2 Gr.none8 p []) r
    | .pat =>
      if Gr.kd ts = 2 then (Gr.high ts).bind fun p _ r => if Gr.begP r = true then (Gr.g f .atomPat r).bind fun a r2 => .ok (Gr.patN 8 Gr.none8 p 0 [a]) r2 else .ok (Gr.patN 8 Gr.none8 p 0 []) r
      else if Gr.begP ts = true then Gr.g f .atomPat ts else .bad ts 11
    | .atomPat =>
      if Gr.kd ts = 1 then .ok (Gr.patN 2 (Gr.hd ts) [] 0 []) ts.tail
      else if Gr.kd ts = 4 then .ok (Gr.patN 3 Gr.none8 [] (Gr.hn ts) []) ts.tail
      else if Gr.kd ts = 2 then (Gr.high ts).bind fun p _ r => .ok (Gr.patN 8 Gr.none8 p 0 []) r
      else if Gr.isT [95] ts = true then .ok (Gr.patN 1 Gr.none8 [] 0 []) ts.tail
      else if Gr.isT [116, 114, 117, 101] ts = true then .ok (Gr.patN 4 Gr.none8 [] 0 []) ts.tail
      else if Gr.isT [102, 97, 108, 115, 101] ts = true then .ok (Gr.patN 5 Gr.none8 [] 0 []) ts.tail
      else if Gr.isT [40] ts = true then Gr.g f .restPat ts.tail
      else .bad ts 11
    | .restPat =>
      if Gr.isT [41] ts = true then .ok (Gr.patN 6 Gr.none8 [] 0 []) ts.tail
      else (Gr.g f .pat ts).bind fun a r =>
        if Gr.isT [44] r = true then (Gr.g f .pat r.tail).bind fun b r2 => Gr.need [41] r2 fun r3 => .ok (Gr.patN 7 Gr.none8 [] 0 [a, b]) r3
        else Gr.need [41] r fun r2 => .ok a r2
    | .exp =>
      if Gr.isT [102, 110] ts = true then (Gr.g f .pat ts.tail).bind fun p r => Gr.need [61, 62] r fun r2 => (Gr.g f .exp r2).bind fun e r3 => .ok (Gr.expN 7 0 0 [] [p] [e] [] []) r3
      else if Gr.isT [105, 102] ts = true then (Gr.g f .exp ts.tail).bind fun a r => Gr.need [116, 104, 101, 110] r fun r2 => (Gr.g f .exp r2).bind fun b r3 => Gr.need [101, 108, 115, 101] r3 fun r4 => (Gr.g f .exp r4).bind fun c r5 => .ok (Gr.expN 11 0 0 [] [] [a, b, c] [] []) r5
      else Gr.g f .cmp ts
    | .cmp => (Gr.g f .sum ts).bind fun a r =>
      if Gr.isT [61] r = true then (Gr.g f .sum r.tail).bind fun b r2 => .ok (Gr.binN 5 a b) r2
      else if Gr.isT [60] r = true then (Gr.g f .sum r.tail).bind fun b r2 => .ok (Gr.binN 6 a b) r2
      else .ok a r
    | .sum => (Gr.g f .prod ts).bind fun a r => Gr.g f (.sumGo a) r
    | .sumGo a =>
      if Gr.isT [43] ts = true then (Gr.g f .prod ts.tail).bind fun b r => Gr.g f (.sumGo (Gr.binN 1 a b)) r
      else if Gr.isT [45] ts = true then (Gr.g f .prod ts.tail).bind fun b r => Gr.g f (.sumGo (Gr.binN 2 a b)) r
      else .ok a ts
    | .prod => (Gr.g f .app ts).bind fun a r => Gr.g f (.prodGo a) r
    | .prodGo a =>
      if Gr.isT [42] ts = true then (Gr.g f .app ts.tail).bind fun b r => Gr.g f (.prodGo (Gr.binN 3 a b)) r
      else if Gr.isT [47] ts = true then (Gr.g f .app ts.tail).bind fun b r => Gr.g f (.prodGo (Gr.binN 4 a b)) r
      else .ok a ts
    | .app => if Gr.begE ts = true then (Gr.g f .atom ts).bind fun a r => Gr.g f (.appGo a) r else .bad ts 11
    | .appGo a => if Gr.begE ts = true then (Gr.g f .atom ts).bind fun b r => Gr.g f (.appGo (Gr.expN 8 0 0 [] [] [a, b] [] [])) r else .ok a ts
    | .atom =>
      if Gr.kd ts = 4 then .ok (Gr.expN 1 0 (Gr.hn ts) [] [] [] [] []) ts.tail
      else if (decide (Gr.kd ts = 1) || decide (Gr.kd ts = 2)) = true then (Gr.either ts).bind fun p low r => .ok (Gr.expN (if low = true then 5 else 6) 0 0 p [] [] [] []) r
      else if Gr.isT [116, 114, 117, 101] ts = true then .ok (Gr.expN 2 0 0 [] [] [] [] []) ts.tail
      else if Gr.isT [102, 97, 108, 115, 101] ts = true then .ok (Gr.expN 3 0 0 [] [] [] [] []) ts.tail
      else if Gr.isT [40] ts = true then Gr.g f .restExp ts.tail
      else if Gr.isT [108, 101, 116] ts = true then Gr.g f (.letGo []) ts.tail
      else if Gr.isT [99, 97, 115, 101] ts = true then Gr.g f .case ts.tail
      else .bad ts 11
    | .restExp =>
      if Gr.isT [41] ts = true then .ok (Gr.expN 4 0 0 [] [] [] [] []) ts.tail
      else (Gr.g f .exp ts).bind fun a r =>
        if Gr.isT [44] r = true then (Gr.g f .exp r.tail).bind fun b r2 => Gr.need [41] r2 fun r3 => .ok (Gr.expN 9 0 0 [] [] [a, b] [] []) r3
        else if Gr.isT [58] r = true then (Gr.g f .ty r.tail).bind fun t r2 => Gr.need [41] r2 fun r3 => .ok (Gr.expN 14 0 0 [] [] [a] [] [t]) r3
        else Gr.need [41] r fun r2 => .ok a r2
    | .letGo ds =>
      if (Gr.isT [118, 97, 108] ts || Gr.isT [102, 117, 110] ts) = true then (Gr.g f .dec ts).bind fun d r => Gr.g f (.letGo (ds ++ [d])) r
      else Gr.need [105, 110] ts fun r => (Gr.g f .exp r).bind fun e r2 => Gr.need [101, 110, 100] r2 fun r3 => .ok (Gr.expN 10 0 0 [] [] [e] ds []) r3
    | .case => (Gr.g f .exp ts).bind fun e r => Gr.need [111, 102] r fun r2 => if Gr.isT [124] r2 = true then Gr.g f (.caseGo [] [e]) r2.tail else Gr.g f (.caseGo [] [e]) r2
    | .caseGo ps ks => (Gr.g f .pat ts).bind fun p r => Gr.need [61, 62] r fun r2 => (Gr.g f .exp r2).bind fun e r3 =>
        if Gr.isT [124] r3 = true then Gr.g f (.caseGo (ps ++ [p]) (ks ++ [e])) r3.tail
        else Gr.need [101, 110, 100] r3 fun r4 => .ok (Gr.expN 12 0 0 [] (ps ++ [p]) (ks ++ [e]) [] []) r4
    | .dec =>
      if Gr.isT [102, 117, 110] ts = true then Gr.name 1 ts.tail fun s r => Gr.name 1 r fun x r2 => Gr.g f (.decTy 2 s (x :: (Gr.lows r2).1)) (Gr.lows r2).2
      else Gr.need [118, 97, 108] ts fun r => Gr.name 1 r fun s r2 => Gr.g f (.decTy 1 s []) r2
    | .decTy k s p =>
      if Gr.isT [58] ts = true then (Gr.g f .ty ts.tail).bind fun t r => Gr.g f (.decEq k s p [t]) r
      else Gr.g f (.decEq k s p []) ts
    | .decEq k s p l => Gr.need [61] ts fun r => (Gr.g f .exp r).bind fun e r2 => .ok (Gr.decN k s p l [e]) r2
end Go.Proofs.YtjebepnphoeiaabGreatDoor
