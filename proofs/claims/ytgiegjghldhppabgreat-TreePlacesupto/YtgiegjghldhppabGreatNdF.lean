/- Names and paths of a sort that is asked for. -/
import Derived.Test.YtgiegjghldhppabGreatNdF0
import Derived.Test.YtgiegjghldhppabGreatPath
import Derived.Test.YtgiegjghldhppabGreatTyvar
namespace Go.Proofs.YtgiegjghldhppabGreat
open Go.RowKit
set_option linter.unusedVariables false

/-- The error of a name, of which b says whether it is of the sort that is asked for. -/
def Nd.nameE (s : ByteArray) (b : Bool) : Int := if b = true then 0 else if Nm.right s = 0 then 12 else Nm.right s
def Nd.last (xs : List ByteArray) : ByteArray := xs.getD (xs.length - 1) ⟨#[]⟩
def Nd.pathE (xs : List ByteArray) (f : ByteArray → Bool) : Int := if Nm.path xs = 0 then Nd.nameE (Nd.last xs) (f (Nd.last xs)) else Nm.path xs
def Nd.given (xs : List ByteArray) : Bool := decide (xs = [⟨#[105, 110, 116]⟩]) || decide (xs = [⟨#[98, 111, 111, 108]⟩]) || decide (xs = [⟨#[117, 110, 105, 116]⟩])
/-- A function that has a text of its own is entered. -/
def Enters (f : FuncId) : Prop := ∀ (args : Array Value) (w : World), (callFunc f args).run Tryz.prog w = .ok (.enter f args) w
theorem enters_of {f : FuncId} {fn : Func} {c : Code} (hf : Tryz.prog.funcs[f]? = some fn) (hname : (fn.name == "runtime.NumGoroutine") = false) (hb : fn.body = some c) : Enters f := by
  intro args w
  have h1 : fn.name ≠ "runtime.NumGoroutine" := by simpa using hname
  simp [callFunc, hf, h1, hb]
def SortOf (f : FuncId) (g : ByteArray → Bool) : Prop := Enters f ∧ ∀ (s : ByteArray) (w : World), s.size ≤ maxLen → Calls Tryz.prog f #[.string s] w fun e w' => e = .returned (.bool (g s)) ∧ w' = w

theorem named_any (s : ByteArray) (hs : s.size ≤ maxLen) (f : FuncId) (g : ByteArray → Bool) (hf : SortOf f g) (w : World) :
    Calls Tryz.prog 86 #[.string s, .func (.func f) #[] #[]] w fun e w' => e = outc (Nd.nameE s (g s)) ∧ w' = w := by
  have q := hf.2 s w hs
  have en := hf.1
  unfold Enters at en
  have r := right_any s hs w
  have hp := pn_any
  clear hf hs
  cases hg : g s with
  | true =>
    have H : Hid (outc (Nd.nameE s true) = .returned (.tuple #[])) := rfl
    rw [hg] at q
    clear r
    go_enter Tryz.func86, Tryz.ntmps86
    go_wp2_with (refine q.mono ?_; rintro e w1 ⟨rfl, hw⟩; rw [hw]; clear hw w1)
    refine bodyPost_ret (results_none rfl _ _ _) rfl ?_
    exact ⟨H.out.symm, rfl⟩
  | false =>
    rw [hg] at q
    by_cases h0 : Nm.right s = 0
    · have H : Hid (outc (Nd.nameE s false) = .panicked [{ v := .iface 36 (.int .i64 12), recovered := false }]) := by
        show _ = _
        unfold Nd.nameE
        rw [if_neg (by simp), if_pos h0]
        exact outc_err (by decide)
      rw [h0] at r
      clear h0
      go_enter Tryz.func86, Tryz.ntmps86
      go_wp2_with (first | (go_at_call 99; refine r.mono ?_; rintro e w1 ⟨rfl, hw⟩; rw [hw]; clear hw w1) | (refine q.mono ?_; rintro e w1 ⟨rfl, hw⟩; rw [hw]; clear hw w1))
      exact ⟨rfl, H.out.symm, rfl⟩
    · have H : Hid (outc (Nd.nameE s false) = .panicked [{ v := .iface 36 (.int .i64 (Nm.right s)), recovered := false }]) := by
        show _ = _
        unfold Nd.nameE
        rw [if_neg (by simp), if_neg h0]
        exact outc_err h0
      go_enter Tryz.func86, Tryz.ntmps86
      go_wp2_with (first | (go_at_call 99; refine r.mono ?_; rintro e w1 ⟨rfl, hw⟩; rw [hw]; clear hw w1) | (refine q.mono ?_; rintro e w1 ⟨rfl, hw⟩; rw [hw]; clear hw w1))
      exact ⟨rfl, H.out.symm, rfl⟩

theorem Nm.path_pos {xs : List ByteArray} (h : Nm.path xs = 0) : 0 < xs.length := by
  unfold Nm.path at h
  by_cases h0 : xs.length = 0
  · rw [if_pos h0] at h; exact absurd h (by decide)
  · omega

theorem pathed_any (v : Value) (xs : List ByteArray) (w : World) (hv : Strs w v xs) (hx : ∀ x, x ∈ xs → x.size ≤ maxLen) (hl : xs.length ≤ maxLen) (f : FuncId) (g : ByteArray → Bool) (hf : SortOf f g) :
    Calls Tryz.prog 89 #[v, .func (.func f) #[] #[]] w fun e w' => e = outc (Nd.pathE xs g) ∧ w' = w := by
  have r := path_any v xs w hv hx hl
  have hp := pn_any
  by_cases h0 : Nm.path xs = 0
  · have hpos := Nm.path_pos h0
    obtain ⟨b, o, c, rfl, hc⟩ : ∃ b o c, v = .slice (some ⟨b, o, none⟩) xs.length c ∧ ∀ (j : Nat) x, xs[j]? = some x → w.cell? ⟨b, o + j, none⟩ = some (.string x) := by
      rcases hv with h | ⟨rfl, _⟩
      · exact h
      · exact absurd hpos (by simp)
    have hlast : xs[xs.length - 1]? = some (Nd.last xs) := by
      unfold Nd.last
      rw [List.getD_eq_getElem?_getD, List.getElem?_eq_getElem (by omega)]
      rfl
    have hm := hx _ (List.mem_of_getElem? hlast)
    have hcell := hc _ _ hlast
    have q := named_any (Nd.last xs) hm f g hf w
    have H : Hid (Nd.pathE xs g = Nd.nameE (Nd.last xs) (g (Nd.last xs))) := by
      show _ = _
      unfold Nd.pathE
      rw [if_pos h0]
    rw [h0] at r
    unfold maxLen at hl
    obtain ⟨k, hk⟩ : ∃ k, k = xs.length - 1 := ⟨_, rfl⟩
    rw [← hk] at hcell
    have hk1 : (xs.length : Int) - 1 = (k : Int) := by omega
    have hk2 : k < xs.length := by omega
    have HK : Hid (k = xs.length - 1) := hk
    clear hk hlast hm hc hx hv h0 hf
    by_cases he : Nd.nameE (Nd.last xs) (g (Nd.last xs)) = 0
    · rw [he, outc_zero] at q
      have H2 : Hid (outc (Nd.pathE xs g) = .returned (.tuple #[])) := by show _ = _; rw [H.out, he]; rfl
      clear he H
      go_enter Tryz.func89, Tryz.ntmps89
      go_wp2_with (first | (go_at_call 103; refine r.mono ?_; rintro e w1 ⟨rfl, hw⟩; rw [hw]; clear hw w1) | (go_at_call 86; refine q.mono ?_; rintro e w1 ⟨rfl, hw⟩; rw [hw]; clear hw w1))
      go_end0
      exact ⟨H2.out.symm, rfl⟩
    · rw [outc_err he] at q
      have H2 : Hid (outc (Nd.pathE xs g) = .panicked [{ v := .iface 36 (.int .i64 (Nd.nameE (Nd.last xs) (g (Nd.last xs)))), recovered := false }]) := by show _ = _; rw [H.out]; exact outc_err he
      clear he H
      go_enter Tryz.func89, Tryz.ntmps89
      go_wp2_with (first | (go_at_call 103; refine r.mono ?_; rintro e w1 ⟨rfl, hw⟩; rw [hw]; clear hw w1) | (go_at_call 86; refine q.mono ?_; rintro e w1 ⟨rfl, hw⟩; rw [hw]; clear hw w1))
      exact ⟨rfl, H2.out.symm, rfl⟩
  · have H : Hid (outc (Nd.pathE xs g) = .panicked [{ v := .iface 36 (.int .i64 (Nm.path xs)), recovered := false }]) := by
      show _ = _
      unfold Nd.pathE
      rw [if_neg h0]
      exact outc_err h0
    clear hx hv hf
    go_enter Tryz.func89, Tryz.ntmps89
    go_wp2_with (go_at_call 103; refine r.mono ?_; rintro e w1 ⟨rfl, hw⟩; rw [hw]; clear hw w1)
    exact ⟨rfl, H.out.symm, rfl⟩

theorem given_any (v : Value) (xs : List ByteArray) (w : World) (hv : Strs w v xs) (hl : xs.length ≤ maxLen) :
    Calls Tryz.prog 88 #[v] w fun e w' => e = .returned (.bool (Nd.given xs)) ∧ w' = w := by
  unfold maxLen at hl
  by_cases h1 : xs.length = 1
  · match xs, h1 with
    | [x], _ =>
      obtain ⟨b, o, c, rfl, hc⟩ : ∃ b o c, v = .slice (some ⟨b, o, none⟩) 1 c ∧ ∀ (j : Nat) y, [x][j]? = some y → w.cell? ⟨b, o + j, none⟩ = some (.string y) := by
        rcases hv with h | ⟨h, _⟩
        · exact h
        · cases h
      have h0 : w.cell? ⟨b, o, none⟩ = some (.string x) := hc 0 x rfl
      have e1 := Nm.str_eq x ⟨#[105, 110, 116]⟩
      have e2 := Nm.str_eq x ⟨#[98, 111, 111, 108]⟩
      have e3 := Nm.str_eq x ⟨#[117, 110, 105, 116]⟩
      clear hc hv hl
      by_cases g1 : x = ⟨#[105, 110, 116]⟩
      · subst g1
        go_enter Tryz.func88, Tryz.ntmps88
        go_wp2
        go_ret
        exact ⟨rfl, rfl⟩
      · by_cases g2 : x = ⟨#[98, 111, 111, 108]⟩
        · subst g2
          go_enter Tryz.func88, Tryz.ntmps88
          go_wp2
          go_ret
          exact ⟨rfl, rfl⟩
        · by_cases g3 : x = ⟨#[117, 110, 105, 116]⟩
          · subst g3
            go_enter Tryz.func88, Tryz.ntmps88
            go_wp2
            go_ret
            exact ⟨rfl, rfl⟩
          · rw [decide_eq_false g1, show (⟨#[105, 110, 116]⟩ : ByteArray).toList = [105, 110, 116] by rw [Lib.toList_data]] at e1
            rw [decide_eq_false g2, show (⟨#[98, 111, 111, 108]⟩ : ByteArray).toList = [98, 111, 111, 108] by rw [Lib.toList_data]] at e2
            rw [decide_eq_false g3, show (⟨#[117, 110, 105, 116]⟩ : ByteArray).toList = [117, 110, 105, 116] by rw [Lib.toList_data]] at e3
            have H : Hid (Nd.given [x] = false) := by show _ = _; unfold Nd.given; simp [g1, g2, g3]
            clear g1 g2 g3
            go_enter Tryz.func88, Tryz.ntmps88
            go_wp2
            go_ret
            exact ⟨ret_bool H.out.symm, rfl⟩
  · have H : Hid (Nd.given xs = false) := by
      show _ = _
      unfold Nd.given
      have a1 : ∀ y : ByteArray, ¬ xs = [y] := fun y e => h1 (by rw [e]; rfl)
      rw [decide_eq_false (a1 _), decide_eq_false (a1 _), decide_eq_false (a1 _)]
      rfl
    obtain ⟨p1, c1, rfl⟩ : ∃ p1 c1, v = .slice p1 xs.length c1 := by
      rcases hv with ⟨b2, o2, c2, rfl, hc2⟩ | ⟨rfl, p, c, rfl⟩
      · exact ⟨_, _, rfl⟩
      · exact ⟨_, _, rfl⟩
    have h2 : ((xs.length : Int) == 1) = false := by rw [beq_eq_false_iff_ne]; omega
    clear hv h1
    go_enter Tryz.func88, Tryz.ntmps88
    go_wp2
    go_ret
    exact ⟨ret_bool H.out.symm, rfl⟩
end Go.Proofs.YtgiegjghldhppabGreat
