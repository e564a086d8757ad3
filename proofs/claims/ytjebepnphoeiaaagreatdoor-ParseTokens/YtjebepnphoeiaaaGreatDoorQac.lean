/- Pieces: GrP NdE NdS NdM0. -/
import Derived.Test.YtjebepnphoeiaaaGreatDoorQaa
import Derived.Test.YtjebepnphoeiaaaGreatDoorQab
namespace Go.Proofs.YtjebepnphoeiaaaGreatDoor
set_option linter.unusedVariables false

abbrev Gr.Ts := List Lx.Tok
def Gr.tx (t : Lx.Tok) : ByteArray := ⟨t.text.toArray⟩
def Gr.isT (x : List UInt8) : Gr.Ts → Bool
 | [] => false
 | t :: _ => (decide (t.kind = 3) || decide (t.kind = 6)) && decide (t.text = x)
def Gr.kd : Gr.Ts → Nat
 | [] => 0
 | t :: _ => t.kind
def Gr.hd : Gr.Ts → ByteArray
 | [] => ⟨#[]⟩
 | t :: _ => Gr.tx t
def Gr.hn : Gr.Ts → Nat
 | [] => 0
 | t :: _ => t.n
inductive Gr.Res where
 | ok (v : Nd) (r : Gr.Ts)
 | bad (r : Gr.Ts) (e : Int)
 | out
def Gr.Res.bind (a : Gr.Res) (k : Nd → Gr.Ts → Gr.Res) : Gr.Res := match a with
 | .ok v r => k v r
 | .bad r e => .bad r e
 | .out => .out
inductive Gr.PRes where
 | ok (p : List ByteArray) (low : Bool) (r : Gr.Ts)
 | bad (r : Gr.Ts) (e : Int)
def Gr.PRes.bind (a : Gr.PRes) (k : List ByteArray → Bool → Gr.Ts → Gr.Res) : Gr.Res := match a with
 | .ok p l r => k p l r
 | .bad r e => .bad r e
def Gr.path (lo up : Bool) (first : Gr.Ts) : Nat → Gr.Ts → List ByteArray → Gr.PRes
 | k, ts, acc =>
  if (decide (Gr.kd ts = 2) || (lo && decide (Gr.kd ts = 1))) = false then .bad ts 11
  else match k with
   | 0 => .bad first 3
   | k + 1 =>
    if (decide (Gr.kd ts = 2) && Gr.isT [46] ts.tail) = true then Gr.path lo up first k ts.tail.tail (acc ++ [Gr.hd ts])
    else if ((lo && decide (Gr.kd ts = 1)) || (up && decide (Gr.kd ts = 2))) = true then .ok (acc ++ [Gr.hd ts]) (decide (Gr.kd ts = 1)) ts.tail
    else .bad ts.tail 11
def Gr.low (ts : Gr.Ts) : Gr.PRes := Gr.path true false ts 8 ts []
def Gr.high (ts : Gr.Ts) : Gr.PRes := Gr.path false true ts 8 ts []
def Gr.either (ts : Gr.Ts) : Gr.PRes := Gr.path true true ts 8 ts []
def Gr.need (x : List UInt8) (ts : Gr.Ts) (k : Gr.Ts → Gr.Res) : Gr.Res := if Gr.isT x ts = true then k ts.tail else .bad ts 11
def Gr.name (q : Nat) (ts : Gr.Ts) (k : ByteArray → Gr.Ts → Gr.Res) : Gr.Res := if Gr.kd ts = q then k (Gr.hd ts) ts.tail else .bad ts 11
def Gr.lows : Gr.Ts → List ByteArray × Gr.Ts
 | [] => ([], [])
 | t :: r => if t.kind = 1 then (Gr.tx t :: (Gr.lows r).1, (Gr.lows r).2) else ([], t :: r)

def Gr.tyN (k : Int) (s : ByteArray) (p : List ByteArray) (l : List Nd) : Nd := .mk [.int k, .str s, .strs p] [l]
def Gr.patN (k : Int) (s : ByteArray) (p : List ByteArray) (n : Int) (l : List Nd) : Nd := .mk [.int k, .str s, .strs p, .int n] [l]
def Gr.expN (k op n : Int) (p : List ByteArray) (ps ks ds ts : List Nd) : Nd := .mk [.int k, .int op, .int n, .strs p] [ps, ks, ds, ts]
def Gr.decN (k : Int) (s : ByteArray) (p : List ByteArray) (ts es : List Nd) : Nd := .mk [.int k, .int 0, .str s, .strs p] [ts, es, [], [], []]
def Gr.binN (op : Int) (a b : Nd) : Nd := Gr.expN 13 op 0 [] [] [a, b] [] []
def Gr.none8 : ByteArray := ⟨#[]⟩

inductive Gr.Nt where
 | ty | pairTy | pairGo (a : Nd) | atomTy
 | pat | atomPat | restPat
 | exp | cmp | sum | sumGo (a : Nd) | prod | prodGo (a : Nd) | app | appGo (a : Nd) | atom
 | restExp | letGo (ds : List Nd) | case | caseGo (ps ks : List Nd)
 | dec | decTy (k : Int) (s : ByteArray) (p : List ByteArray) | decEq (k : Int) (s : ByteArray) (p : List ByteArray) (l : List Nd)
def Gr.begP (ts : Gr.Ts) : Bool := decide (Gr.kd ts = 1) || (decide (Gr.kd ts = 4) || (decide (Gr.kd ts = 2) || (Gr.isT [95] ts || (Gr.isT [116, 114, 117, 101] ts || (Gr.isT [102, 97, 108, 115, 101] ts || Gr.isT [40] ts)))))
def Gr.begE (ts : Gr.Ts) : Bool := decide (Gr.kd ts = 4) || (decide (Gr.kd ts = 1) || (decide (Gr.kd ts = 2) || (Gr.isT [116, 114, 117, 101] ts || (Gr.isT [102, 97, 108, 115, 101] ts || (Gr.isT [40] ts || (Gr.isT [108, 101, 116] ts || Gr.isT [99, 97, 115, 101] ts))))))

def Gr.g : Nat → Gr.Nt → Gr.Ts → Gr.Res
  | 0, _, _ => .out
  | f + 1, nt, ts => match nt with
    | .ty => (Gr.g f .pairTy ts).bind fun a r => if Gr.isT [45, 62] r = true then (Gr.g f .ty r.tail).bind fun b r2 => .ok (Gr.tyN 3 Gr.none8 [] [a, b]) r2 else .ok a r
    | .pairTy => (Gr.g f .atomTy ts).bind fun a r => Gr.g f (.pairGo a) r
    | .pairGo a => if Gr.isT [42] ts = true then (Gr.g f .atomTy ts.tail).bind fun b r => Gr.g f (.pairGo (Gr.tyN 4 Gr.none8 [] [a, b])) r else .ok a ts
    | .atomTy =>
      if Gr.kd ts = 5 then .ok (Gr.tyN 1 ((Gr.hd ts).extract 1 (Gr.hd ts).size) [] []) ts.tail
      else if Gr.isT [105, 110, 116] ts = true then .ok (Gr.tyN 2 Gr.none8 [Gr.hd ts] []) ts.tail
      else if Gr.isT [98, 111, 111, 108] ts = true then .ok (Gr.tyN 2 Gr.none8 [Gr.hd ts] []) ts.tail
      else if Gr.isT [117, 110, 105, 116] ts = true then .ok (Gr.tyN 2 Gr.none8 [Gr.hd ts] []) ts.tail
      else if Gr.isT [40] ts = true then (Gr.g f .ty ts.tail).bind fun a r => Gr.need [41] r fun r2 => .ok a r2
      else (Gr.low ts).bind fun p _ r => .ok (Gr.tyN 2 Gr.none8 p []) r
    | .pat =>
      if Gr.kd ts = 2 then (Gr.high ts).bind fun p _ r => if Gr.begP r = true then (Gr.g f .atomPat r).bind fun a r2 => .ok (Gr.patN 8 Gr.none8 p 0 [a]) r2 else .ok (Gr.patN 8 Gr.none8 p 0 []) r
      else if Gr.begP ts = true then Gr.g f .atomPat ts else .bad ts 11
    | .atomPat =>
      if Gr.kd ts = 1 then .ok (Gr.patN 2 (Gr.hd ts) [] 0 []) ts.tail
      else if Gr.kd ts = 4 then .ok (Gr.patN 3 Gr.none8 [] (Gr.hn ts) []) ts.tail
      else if Gr.kd ts = 2 then (Gr.high ts).bind fun p _ r => .ok (Gr.patN 8 Gr.none8 p 0 []) r
      else if Gr.isT [95] ts = true then .ok (Gr.patN 1 Gr.none8 [] 0 []) ts.tail
      else if Gr.isT [116, 114, 117, 101] ts = true then .ok (Gr.patN 4 Gr.none8 [] 0 []) ts.tail
      else if Gr.isT [102, 97, 108, 115, 101] ts = true then .ok (Gr.patN 5 Gr.none8 [] 0 []) ts.tail
      else if Gr.isT [40] ts = true then Gr.g f .restPat ts.tail
      else .bad ts 11
    | .restPat =>
      if Gr.isT [41] ts = true then .ok (Gr.patN 6 Gr.none8 [] 0 []) ts.tail
      else (Gr.g f .pat ts).bind fun a r =>
        if Gr.isT [44] r = true then (Gr.g f .pat r.tail).bind fun b r2 => Gr.need [41] r2 fun r3 => .ok (Gr.patN 7 Gr.none8 [] 0 [a, b]) r3
        else Gr.need [41] r fun r2 => .ok a r2
    | .exp =>
      if Gr.isT [102, 110] ts = true then (Gr.g f .pat ts.tail).bind fun p r => Gr.need [61, 62] r fun r2 => (Gr.g f .exp r2).bind fun e r3 => .ok (Gr.expN 7 0 0 [] [p] [e] [] []) r3
      else if Gr.isT [105, 102] ts = true then (Gr.g f .exp ts.tail).bind fun a r => Gr.need [116, 104, 101, 110] r fun r2 => (Gr.g f .exp r2).bind fun b r3 => Gr.need [101, 108, 115, 101] r3 fun r4 => (Gr.g f .exp r4).bind fun c r5 => .ok (Gr.expN 11 0 0 [] [] [a, b, c] [] []) r5
      else Gr.g f .cmp ts
    | .cmp => (Gr.g f .sum ts).bind fun a r =>
      if Gr.isT [61] r = true then (Gr.g f .sum r.tail).bind fun b r2 => .ok (Gr.binN 5 a b) r2
      else if Gr.isT [60] r = true then (Gr.g f .sum r.tail).bind fun b r2 => .ok (Gr.binN 6 a b) r2
      else .ok a r
    | .sum => (Gr.g f .prod ts).bind fun a r => Gr.g f (.sumGo a) r
    | .sumGo a =>
      if Gr.isT [43] ts = true then (Gr.g f .prod ts.tail).bind fun b r => Gr.g f (.sumGo (Gr.binN 1 a b)) r
      else if Gr.isT [45] ts = true then (Gr.g f .prod ts.tail).bind fun b r => Gr.g f (.sumGo (Gr.binN 2 a b)) r
      else .ok a ts
    | .prod => (Gr.g f .app ts).bind fun a r => Gr.g f (.prodGo a) r
    | .prodGo a =>
      if Gr.isT [42] ts = true then (Gr.g f .app ts.tail).bind fun b r => Gr.g f (.prodGo (Gr.binN 3 a b)) r
      else if Gr.isT [47] ts = true then (Gr.g f .app ts.tail).bind fun b r => Gr.g f (.prodGo (Gr.binN 4 a b)) r
      else .ok a ts
    | .app => if Gr.begE ts = true then (Gr.g f .atom ts).bind fun a r => Gr.g f (.appGo a) r else .bad ts 11
    | .appGo a => if Gr.begE ts = true then (Gr.g f .atom ts).bind fun b r => Gr.g f (.appGo (Gr.expN 8 0 0 [] [] [a, b] [] [])) r else .ok a ts
    | .atom =>
      if Gr.kd ts = 4 then .ok (Gr.expN 1 0 (Gr.hn ts) [] [] [] [] []) ts.tail
      else if (decide (Gr.kd ts = 1) || decide (Gr.kd ts = 2)) = true then (Gr.either ts).bind fun p low r => .ok (Gr.expN (if low = true then 5 else 6) 0 0 p [] [] [] []) r
      else if Gr.isT [116, 114, 117, 101] ts = true then .ok (Gr.expN 2 0 0 [] [] [] [] []) ts.tail
      else if Gr.isT [102, 97, 108, 115, 101] ts = true then .ok (Gr.expN 3 0 0 [] [] [] [] []) ts.tail
      else if Gr.isT [40] ts = true then Gr.g f .restExp ts.tail
      else if Gr.isT [108, 101, 116] ts = true then Gr.g f (.letGo []) ts.tail
      else if Gr.isT [99, 97, 115, 101] ts = true then Gr.g f .case ts.tail
      else .bad ts 11
    | .restExp =>
      if Gr.isT [41] ts = true then .ok (Gr.expN 4 0 0 [] [] [] [] []) ts.tail
      else (Gr.g f .exp ts).bind fun a r =>
        if Gr.isT [44] r = true then (Gr.g f .exp r.tail).bind fun b r2 => Gr.need [41] r2 fun r3 => .ok (Gr.expN 9 0 0 [] [] [a, b] [] []) r3
        else if Gr.isT [58] r = true then (Gr.g f .ty r.tail).bind fun t r2 => Gr.need [41] r2 fun r3 => .ok (Gr.expN 14 0 0 [] [] [a] [] [t]) r3
        else Gr.need [41] r fun r2 => .ok a r2
    | .letGo ds =>
      if (Gr.isT [118, 97, 108] ts || Gr.isT [102, 117, 110] ts) = true then (Gr.g f .dec ts).bind fun d r => Gr.g f (.letGo (ds ++ [d])) r
      else Gr.need [105, 110] ts fun r => (Gr.g f .exp r).bind fun e r2 => Gr.need [101, 110, 100] r2 fun r3 => .ok (Gr.expN 10 0 0 [] [] [e] ds []) r3
    | .case => (Gr.g f .exp ts).bind fun e r => Gr.need [111, 102] r fun r2 => if Gr.isT [124] r2 = true then Gr.g f (.caseGo [] [e]) r2.tail else Gr.g f (.caseGo [] [e]) r2
    | .caseGo ps ks => (Gr.g f .pat ts).bind fun p r => Gr.need [61, 62] r fun r2 => (Gr.g f .exp r2).bind fun e r3 =>
        if Gr.isT [124] r3 = true then Gr.g f (.caseGo (ps ++ [p]) (ks ++ [e])) r3.tail
        else Gr.need [101, 110, 100] r3 fun r4 => .ok (Gr.expN 12 0 0 [] (ps ++ [p]) (ks ++ [e]) [] []) r4
    | .dec =>
      if Gr.isT [102, 117, 110] ts = true then Gr.name 1 ts.tail fun s r => Gr.name 1 r fun x r2 => Gr.g f (.decTy 2 s (x :: (Gr.lows r2).1)) (Gr.lows r2).2
      else Gr.need [118, 97, 108] ts fun r => Gr.name 1 r fun s r2 => Gr.g f (.decTy 1 s []) r2
    | .decTy k s p =>
      if Gr.isT [58] ts = true then (Gr.g f .ty ts.tail).bind fun t r => Gr.g f (.decEq k s p [t]) r
      else Gr.g f (.decEq k s p []) ts
    | .decEq k s p l => Gr.need [61] ts fun r => (Gr.g f .exp r).bind fun e r2 => .ok (Gr.decN k s p l [e]) r2
end Go.Proofs.YtjebepnphoeiaaaGreatDoor
namespace Go.Proofs.YtjebepnphoeiaaaGreatDoor
open Go.RowKit
set_option linter.unusedVariables false

set_option maxHeartbeats 1000000 in
theorem refTexts_any (a b : Value) (xs ys : List ByteArray) (w : World) (ha : Strs w a xs) (hb : Strs w b ys) (hx : xs.length ≤ maxLen) (hy : ys.length ≤ maxLen) :
  Calls Tryz.prog 80 #[a, b] w fun e w' => e = .returned (.bool (decide (xs = ys))) ∧ ∃ n, w' = w.drewN n := by
 unfold maxLen at hx hy
 by_cases hl : xs.length = ys.length
 ·
  rcases ha with ⟨b1, o1, c1, rfl, hc1⟩ | ⟨rfl, p, c, rfl⟩
  ·
   rcases hb with ⟨b2, o2, c2, rfl, hc2⟩ | ⟨rfl, p, c, rfl⟩
   ·
    go_enter Tryz.func80, Tryz.ntmps80
    go_wp2
    go_loopw [5] (fun v wr => ∃ k : Nat, v = .int .i64 k ∧ k ≤ xs.length ∧ Hid (∀ j, j < k → xs[j]? = ys[j]?) ∧ ∃ n, wr = w.drewN n) (fun v _ => xs.length - (intOf v).toNat)
    case atStart => exact ⟨0, rfl, Nat.zero_le _, fun j h => absurd h (Nat.not_lt_zero _), 0, rfl⟩
    case round =>
     obtain ⟨k, rfl, hk, hall, n, rfl⟩ := hrel
     by_cases hlt : k < xs.length
     ·
      obtain ⟨x, hxk⟩ : ∃ x, xs[k]? = some x := ⟨_, List.getElem?_eq_getElem hlt⟩
      obtain ⟨y, hyk⟩ : ∃ y, ys[k]? = some y := ⟨_, List.getElem?_eq_getElem (by omega)⟩
      have d1 := hc1 k x hxk
      have d2 := hc2 k y hyk
      have hlt2 : k < ys.length := by omega
      by_cases he : x = y
      ·
       subst he
       have HX : Hid (∀ j, j < k + 1 → xs[j]? = ys[j]?) := fun j hj => by
        by_cases e : j = k
        ·
         subst e; rw [hxk, hyk]
        ·
         exact hall.out j (by omega)
       have h3 : (x.toList == x.toList) = true := beq_self_eq_true _
       have HL : Hid (xs.length = ys.length) := hl
       clear hall hxk hyk hc1 hc2 hl
       go_wp2
       go_quiet (fail)
       go_wp2
       go_roundw
       case rel => exact ⟨k + 1, by go_num, by omega, HX, _, rfl⟩
       case measure => simp [intOf]; omega
      ·
       have HX : Hid (decide (xs = ys) = false) := by
        show _ = _
        rw [decide_eq_false]
        intro e; rw [e, hyk] at hxk; exact he (Option.some.inj hxk).symm
       have h3 : (x.toList == y.toList) = false := by rw [Nm.str_eq, decide_eq_false he]
       clear hall hxk hyk hc1 hc2 hl he
       go_wp2
       go_quiet (fail)
       go_wp2
       go_ret
       exact ⟨ret_bool HX.out.symm, _, World.drewN_drewN _ _ _⟩
     ·
      have HX : Hid (decide (xs = ys) = true) := by
       show _ = _
       rw [decide_eq_true]
       apply List.ext_getElem?
       intro j
       by_cases hj : j < k
       ·
        exact hall.out j hj
       ·
        rw [List.getElem?_eq_none (by omega), List.getElem?_eq_none (by omega)]
      clear hall hc1 hc2
      go_wp2
      go_ret
      exact ⟨ret_bool HX.out.symm, n, rfl⟩
   ·
    have : xs = [] := List.eq_nil_of_length_eq_zero (by simpa using hl)
    subst this
    go_enter Tryz.func80, Tryz.ntmps80
    go_wp2
    go_loop [5] (fun v => v = .int .i64 0) (fun v => 0)
    case atStart => rfl
    case round =>
     subst hrel
     go_wp2
     go_ret
     exact ⟨rfl, 0, rfl⟩
  ·
   have : ys = [] := List.eq_nil_of_length_eq_zero (by simpa using hl.symm)
   subst this
   obtain ⟨p2, c2, rfl⟩ : ∃ p2 c2, b = .slice p2 0 c2 := by
    rcases hb with ⟨b2, o2, c2, rfl, hc2⟩ | ⟨_, p, c, rfl⟩
    ·
     exact ⟨_, _, rfl⟩
    ·
     exact ⟨_, _, rfl⟩
   go_enter Tryz.func80, Tryz.ntmps80
   go_wp2
   go_loop [5] (fun v => v = .int .i64 0) (fun v => 0)
   case atStart => rfl
   case round =>
    subst hrel
    go_wp2
    go_ret
    exact ⟨rfl, 0, rfl⟩
 ·
  obtain ⟨p1, c1, rfl⟩ : ∃ p1 c1, a = .slice p1 xs.length c1 := by
   rcases ha with ⟨b2, o2, c2, rfl, hc2⟩ | ⟨rfl, p, c, rfl⟩
   ·
    exact ⟨_, _, rfl⟩
   ·
    exact ⟨_, _, rfl⟩
  obtain ⟨p2, c2, rfl⟩ : ∃ p2 c2, b = .slice p2 ys.length c2 := by
   rcases hb with ⟨b2, o2, c2, rfl, hc2⟩ | ⟨rfl, p, c, rfl⟩
   ·
    exact ⟨_, _, rfl⟩
   ·
    exact ⟨_, _, rfl⟩
  have H : Hid (decide (xs = ys) = false) := by
   show _ = _
   rw [decide_eq_false]
   intro e; exact hl (by rw [e])
  have hl' : ((xs.length : Int) == (ys.length : Int)) = false := by rw [beq_eq_false_iff_ne]; omega
  clear hl
  go_enter Tryz.func80, Tryz.ntmps80
  go_wp2
  go_ret
  exact ⟨ret_bool H.out.symm, 0, rfl⟩



abbrev Any : Nat → Prop := fun _ => True
noncomputable def Nd.eq (a b : Nd) : Bool := @decide (a = b) (Classical.propDecidable _)
noncomputable def Nd.eqL (a b : List Nd) : Bool := @decide (a = b) (Classical.propDecidable _)
theorem Nd.eq_true {a b : Nd} : Nd.eq a b = true ↔ a = b := by unfold Nd.eq; exact @decide_eq_true_iff _ (Classical.propDecidable _)
theorem Nd.eqL_true {a b : List Nd} : Nd.eqL a b = true ↔ a = b := by unfold Nd.eqL; exact @decide_eq_true_iff _ (Classical.propDecidable _)
theorem Nd.eqL_nil : Nd.eqL [] [] = true := Nd.eqL_true.2 rfl
theorem Nd.eqL_cons (a b : Nd) (xs ys : List Nd) : Nd.eqL (a :: xs) (b :: ys) = (Nd.eq a b && Nd.eqL xs ys) := by
 rw [Bool.eq_iff_iff, Bool.and_eq_true, Nd.eqL_true, Nd.eqL_true, Nd.eq_true, List.cons.injEq]
theorem Nd.eqL_len {xs ys : List Nd} (h : xs.length ≠ ys.length) : Nd.eqL xs ys = false := by
 rw [Bool.eq_false_iff]
 intro e
 rw [Nd.eqL_true] at e
 exact h (by rw [e])
theorem Nd.eqL_at {xs ys : List Nd} {k : Nat} {x y : Nd} (hx : xs[k]? = some x) (hy : ys[k]? = some y) : Nd.eqL (xs.drop k) (ys.drop k) = (Nd.eq x y && Nd.eqL (xs.drop (k + 1)) (ys.drop (k + 1))) := by
 obtain ⟨h1, e1⟩ := List.getElem?_eq_some_iff.1 hx
 obtain ⟨h2, e2⟩ := List.getElem?_eq_some_iff.1 hy
 rw [List.drop_eq_getElem_cons h1, List.drop_eq_getElem_cons h2, e1, e2, Nd.eqL_cons]

theorem len2 {l : List Value} (h : l.length = 2) : ∃ a b, l = [a, b] := by match l, h with | [a, b], _ => exact ⟨a, b, rfl⟩
theorem len4 {l : List Value} (h : l.length = 4) : ∃ a b c d, l = [a, b, c, d] := by match l, h with | [a, b, c, d], _ => exact ⟨a, b, c, d, rfl⟩
theorem len5 {l : List Value} (h : l.length = 5) : ∃ a b c d e, l = [a, b, c, d, e] := by match l, h with | [a, b, c, d, e], _ => exact ⟨a, b, c, d, e, rfl⟩
theorem len6 {l : List Value} (h : l.length = 6) : ∃ a b c d e f, l = [a, b, c, d, e, f] := by match l, h with | [a, b, c, d, e, f], _ => exact ⟨a, b, c, d, e, f, rfl⟩
theorem len8 {l : List Value} (h : l.length = 8) : ∃ a b c d e f g i, l = [a, b, c, d, e, f, g, i] := by match l, h with | [a, b, c, d, e, f, g, i], _ => exact ⟨a, b, c, d, e, f, g, i, rfl⟩
theorem len9 {l : List Value} (h : l.length = 9) : ∃ a b c d e f g i j, l = [a, b, c, d, e, f, g, i, j] := by match l, h with | [a, b, c, d, e, f, g, i, j], _ => exact ⟨a, b, c, d, e, f, g, i, j, rfl⟩
theorem bl_alloc {w w1 : World} (h : Below w.heap.size w w1) (o : Obj) : Below w.heap.size w (w1.alloc o) := h.alloc h.size o
theorem bl_tr {w w1 w2 : World} (h : Below w.heap.size w w1) (h2 : Below w1.heap.size w1 w2) : Below w.heap.size w w2 := h.trans (h2.mono h.size)
theorem bl_drewN (w : World) (n : Nat) : Below w.heap.size w (w.drewN n) := by
 induction n with
 | zero => exact Below.refl _ _
 | succ k ih => exact ih.drew
structure Fr (w wc : World) (va vb : List Value) : Prop where
 bl : Below w.heap.size w wc
 sz : w.heap.size + 1 < wc.heap.size
 a : ∀ (j : Nat) v, va[j]? = some v → wc.cell? ⟨w.heap.size, j, none⟩ = some v
 b : ∀ (j : Nat) v, vb[j]? = some v → wc.cell? ⟨w.heap.size + 1, j, none⟩ = some v
theorem Fr.start (w : World) (va vb : List Value) (t : TypeId) : Fr w ((w.alloc (.cells va.toArray t)).alloc (.cells vb.toArray t)) va vb := by
 refine ⟨bl_alloc (bl_alloc (Below.refl _ _) _) _, by simp, fun j v hv => ?_, fun j v hv => ?_⟩
 ·
  rw [World.cell?_alloc2_first]
  simpa using hv
 ·
  rw [World.cell?_alloc_at _ _ _ _ (by simp)]
  simpa using hv
theorem Fr.step {w wc w1 : World} {va vb : List Value} (h : Fr w wc va vb) (hb : Below wc.heap.size wc w1) : Fr w w1 va vb :=
 ⟨bl_tr h.bl hb, Nat.lt_of_lt_of_le h.sz hb.size, fun j v hv => (hb.cell (show w.heap.size < _ by have := h.sz; omega)).trans (h.a j v hv), fun j v hv => (hb.cell (show w.heap.size + 1 < _ from h.sz)).trans (h.b j v hv)⟩
theorem Fr.atl {w wc : World} {va vb : List Value} (h : Fr w wc va vb) {n s : Nat} {v : Value} {l : List Nd} (hl : AtL w Any n s v l) : AtL wc Any n s v l := hl.below h.bl
theorem Fr.tx {w wc : World} {va vb : List Value} (h : Fr w wc va vb) {v : Value} {l : List ByteArray} (hl : Tx w Any v l) : Strs wc v l := (hl.move (Keeps.of_below h.bl) (fun _ h => h)).strs
def SameOf (f : FuncId) (n s : Nat) : Prop := ∀ (w : World) (va vb : List Value) (A B : Nd), At w Any n s va A → At w Any n s vb B →
 Calls Tryz.prog f #[.agg va.toArray, .agg vb.toArray] w fun e w' => e = .returned (.bool (Nd.eq A B)) ∧ Below w.heap.size w w'
def SameLOf (f : FuncId) (g : Value) (n s : Nat) : Prop := ∀ (w : World) (v1 v2 : Value) (xs ys : List Nd), AtL w Any n s v1 xs → AtL w Any n s v2 ys →
 Calls Tryz.prog f #[v1, v2, g] w fun e w' => e = .returned (.bool (Nd.eqL xs ys)) ∧ Below w.heap.size w w'



















structure Mst where
 a : Int
 d : Int
 t : Int
def Mst.enter (s : Mst) : Mst := ⟨wrap64 (s.a + 1), max s.d (wrap64 (s.t + 1)), wrap64 (s.t + 1)⟩
def Mst.leave (s : Mst) : Mst := ⟨s.a, s.d, wrap64 (s.t - 1)⟩
mutual
def Nd.run : Nd → Mst → Mst
 | .mk _ ks => fun s => (Nd.runLL ks s.enter).leave
def Nd.runLL : List (List Nd) → Mst → Mst
 | [] => fun s => s
 | l :: r => fun s => Nd.runLL r (Nd.runL l s)
def Nd.runL : List Nd → Mst → Mst
 | [] => fun s => s
 | x :: r => fun s => Nd.runL r (Nd.run x s)
end
structure Mt (w : World) (M : Nat) (s : Mst) : Prop where
 a : w.cell? ⟨M, 0, none⟩ = some (.int .i64 s.a)
 d : w.cell? ⟨M, 1, none⟩ = some (.int .i64 s.d)
 t : w.cell? ⟨M, 2, none⟩ = some (.int .i64 s.t)
 fa : w.frozen? ⟨M, 0, none⟩ = false
 fd : w.frozen? ⟨M, 1, none⟩ = false
 ft : w.frozen? ⟨M, 2, none⟩ = false
structure Save (M : Nat) (w w' : World) : Prop where
 os : w'.os = w.os
 tape : w'.tape = w.tape
 output : w'.output = w.output
 size : w'.heap.size = w.heap.size
 block : ∀ k, k ≠ M → w'.heap[k]? = w.heap[k]?
theorem Save.refl (M : Nat) (w : World) : Save M w w := ⟨rfl, rfl, rfl, rfl, fun _ _ => rfl⟩
theorem Save.trans {M : Nat} {a b c : World} (h : Save M a b) (k : Save M b c) : Save M a c :=
 ⟨k.os.trans h.os, k.tape.trans h.tape, k.output.trans h.output, k.size.trans h.size, fun i hi => (k.block i hi).trans (h.block i hi)⟩
theorem Save.drew {M : Nat} {a w : World} (h : Save M a w) : Save M a w.drew := ⟨h.os, h.tape, h.output, h.size, h.block⟩
theorem Save.set {M : Nat} {a w : World} (h : Save M a w) (j : Nat) (u : Value) : Save M a (w.setCell ⟨M, j, none⟩ u) :=
 h.trans ⟨rfl, rfl, rfl, by simp [World.setCell], fun k hk => Below.heap_setCell _ _ _ _ hk⟩
theorem Save.cell {M : Nat} {w w' : World} (h : Save M w w') {p : Addr} (hp : p.block ≠ M) : w'.cell? p = w.cell? p := World.cell?_of_block (w := w) (h.block p.block hp)
theorem Save.below {M B : Nat} {a w w' : World} (hb : Below B a w) (h : Save M w w') (hM : B ≤ M) : Below B a w' :=
 hb.trans ⟨h.os, h.tape, h.output, Nat.le_of_eq h.size.symm, fun k hk => h.block k (by omega)⟩
theorem Keeps.of_save {K : Nat → Prop} {M : Nat} {w w' : World} (h : Save M w w') (hK : ¬ K M) : Keeps K w w' := fun b o v hb hv => (h.cell (fun e => hK (by rw [← (show b = M from e)]; exact hb))).trans hv

set_option maxHeartbeats 1000000 in
theorem enter_any (M : Nat) (s : Mst) (w : World) (h : Mt w M s) : Calls Tryz.prog 130 #[.pointer (some ⟨M, 0, none⟩)] w fun e w' => e = .returned (.tuple #[]) ∧ Mt w' M s.enter ∧ Save M w w' := by
 obtain ⟨a, d, t⟩ := s
 obtain ⟨h0, h1, h2, f0, f1, f2⟩ := h
 simp only at h0 h1 h2
 go_enter Tryz.func130, Tryz.ntmps130
 go_wp2
 go_region
 go_wp2
 go_end0
 refine ⟨rfl, ⟨?_, ?_, ?_, ?_, ?_, ?_⟩, ((((Save.refl _ _).set _ _).set _ _).set _ _).drew⟩
 all_goals simp [go_sem, h0, h1, h2, f0, f1, f2, Mst.enter]

theorem leave_any (M : Nat) (s : Mst) (w : World) (h : Mt w M s) : Calls Tryz.prog 136 #[.pointer (some ⟨M, 0, none⟩)] w fun e w' => e = .returned (.tuple #[]) ∧ Mt w' M s.leave ∧ Save M w w' := by
 obtain ⟨a, d, t⟩ := s
 obtain ⟨h0, h1, h2, f0, f1, f2⟩ := h
 simp only at h0 h1 h2
 go_enter Tryz.func136, Tryz.ntmps136
 go_wp2
 go_end0
 refine ⟨rfl, ⟨?_, ?_, ?_, ?_, ?_, ?_⟩, (Save.refl _ _).set _ _⟩
 all_goals simp [go_sem, h0, h1, h2, f0, f1, f2, Mst.leave]
end Go.Proofs.YtjebepnphoeiaaaGreatDoor
