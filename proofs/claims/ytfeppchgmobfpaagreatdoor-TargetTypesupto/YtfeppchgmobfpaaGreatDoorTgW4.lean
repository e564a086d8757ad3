/- closed, record, sum, binder. -/
import Derived.Test.YtfeppchgmobfpaaGreatDoorTgW3
namespace Go.Proofs.YtfeppchgmobfpaaGreatDoor
open Go.RowKit
set_option linter.unusedVariables false
set_option linter.unusedSimpArgs false

theorem intoT (M : Nat) (own : Nat → Prop) (e : List (Int × Int)) (l : List UInt8) (n : Nat) (w : World) (k b o : Nat) (t : Tt) (h : Tx M w own e l n) (hP : PAt w (fun b => b < M) k b o t) (hn : n < 4611686018427387904) (he : e.length < 1099511627776) : Calls Tryz.prog 75 #[.pointer (some ⟨M, 0, none⟩), .pointer (some ⟨b, o, none⟩)] w fun r w' => r = .returned (.agg #[.int .i64 e.length, .int .i64 0]) ∧ ∃ own', Tx M w' own' (t.env e) l (n + 1) ∧ Ev own w own' w' := by
  obtain ⟨vs, mv, lv, h1, h2⟩ := h.walk
  refine (into_any w M WT vs 0 (M + 1) mv lv e n k b o t hP h1 hn he).mono ?_
  rintro r w' ⟨rfl, vs', mv', lv', hvs, hw, hev⟩
  exact ⟨rfl, h2 w' vs' mv' lv' _ _ hvs hw hev⟩
theorem backT (M : Nat) (own : Nat → Prop) (e : List (Int × Int)) (l : List UInt8) (n : Nat) (w : World) (t : Tt) (h : Tx M w own (t.env e) l n) (hn : n + e.length + 1 < 4611686018427387904) : Calls Tryz.prog 77 #[.pointer (some ⟨M, 0, none⟩), .agg #[.int .i64 e.length, .int .i64 0]] w fun r w' => r = .returned (.tuple #[]) ∧ ∃ own', Tx M w' own' e l (n + e.length + 1) ∧ Ev own w own' w' := by
  obtain ⟨vs, mv, lv, h1, h2⟩ := h.walk
  obtain ⟨l1, l2, l3⟩ := env_len t e
  refine (wback_any w M WT vs 0 (M + 1) mv lv (t.env e) n e.length h1 (by omega) l1).mono ?_
  rintro r w' ⟨rfl, vs', lv', hvs, hw, hev⟩
  rw [l3] at hw
  exact ⟨rfl, h2 w' vs' mv lv' _ _ hvs (hw.up' (by omega)) hev⟩
def TxtOf (M k : Nat) : Prop := ∀ (w : World) (own : Nat → Prop) (e : List (Int × Int)) (l : List UInt8) (n b o : Nat) (t : Tt), Tx M w own e l n → PAt w (fun b => b < M) k b o t → e.length + t.cnt ≤ 2097152 → n + t.cnt * 8388608 ≤ 2305843009213693952 → l.length + (t.txt e).length + 100 ≤ 140737488355328 →
  Calls Tryz.prog 32 #[.pointer (some ⟨M, 0, none⟩), .pointer (some ⟨b, o, none⟩)] w (Wrote M own e (l ++ t.txt e) (n + t.cnt * 8388608) w (.tuple #[]))
def CloOf (M k : Nat) : Prop := ∀ (w : World) (own : Nat → Prop) (e : List (Int × Int)) (l : List UInt8) (n b o : Nat) (t : Tt), Tx M w own e l n → PAt w (fun b => b < M) k b o t → e.length + t.cnt ≤ 2097152 → n + t.cnt * 8388608 ≤ 2305843009213693952 → l.length + (Tt.clo t.k (t.txt e)).length + 100 ≤ 140737488355328 →
  Calls Tryz.prog 64 #[.pointer (some ⟨M, 0, none⟩), .pointer (some ⟨b, o, none⟩)] w (Wrote M own e (l ++ Tt.clo t.k (t.txt e)) (n + t.cnt * 8388608) w (.tuple #[]))
theorem Tt.clo_binds (t : Tt) (s : List UInt8) : Tt.clo t.k s = if t.k = 4 ∨ t.binds = true then [40] ++ s ++ [41] else s := by
  unfold Tt.clo Tt.binds
  by_cases h : t.k = 4 ∨ t.k = 9 ∨ t.k = 10 ∨ t.k = 11
  · rw [if_pos h, if_pos (by simp; omega)]
  · rw [if_neg h, if_neg (by simp; omega)]

set_option maxHeartbeats 1000000 in
set_option maxRecDepth 100000 in
theorem closed_step (M k : Nat) (ih : TxtOf M k) : CloOf M k := by
  intro w own e l n b o t h hP q1 q2 hl
  have BQ := hid (binds_any w _ k b o t hP)
  have HC := Tt.clo_binds t (t.txt e)
  have HPz : Hid (∀ wz own', Ev own w own' wz → PAt wz (fun b => b < M) k b o t) := fun wz own' hz => hP.move (h.keeps hz) (fun _ h => h)
  have x0 : w.cell? ⟨b, o, none⟩ = some (.int .i64 t.k) := by obtain ⟨m, rfl⟩ := hP.pos; obtain ⟨-, -, -, -, x0, -⟩ := hP.cells; exact x0
  have HQ := hid (And.intro q1 q2)
  have H0 := hid h
  have OPEN : t.k = 4 ∨ t.binds = true → (∃ q : Unit, True) → Hid (l.length + (t.txt e).length + 102 ≤ 140737488355328) := fun ho _ => by
    rw [HC, if_pos ho] at hl
    show _ ≤ _
    simp at hl; omega
  by_cases h4 : t.k = 4
  · have g4 : (t.k != 4) = false := by simp [h4]
    rw [HC, if_pos (.inl h4)] at hl
    rw [HC, if_pos (.inl h4)]
    have HL := OPEN (.inl h4) ⟨(), trivial⟩
    have w1 := hid (wb M own e l n 40 w h (by have := HL.out; omega))
    have w2 : Hid (∀ own' wz, Ev own w own' wz → Tx M wz own' e (l ++ [40]) n → Calls Tryz.prog 32 #[.pointer (some ⟨M, 0, none⟩), .pointer (some ⟨b, o, none⟩)] wz (Wrote M own' e (l ++ [40] ++ t.txt e) (n + t.cnt * 8388608) wz (.tuple #[]))) := fun own' wz hz hT => ih wz own' e (l ++ [40]) n b o t hT (HPz.out _ _ hz) HQ.out.1 HQ.out.2 (by have := HL.out; simp; omega)
    have w3 : Hid (∀ own' wz, Tx M wz own' e (l ++ [40] ++ t.txt e) (n + t.cnt * 8388608) → Calls Tryz.prog 62 #[.pointer (some ⟨M, 0, none⟩), .int .u8 41] wz (Wrote M own' e (l ++ [40] ++ t.txt e ++ [41]) (n + t.cnt * 8388608) wz .nilIface)) := fun own' wz hT => wb M own' e _ _ 41 wz hT (by have := HL.out; simp; omega)
    clear h hP q1 q2 hl OPEN HC ih h4
    go_enter Tryz.func64, Tryz.ntmps64
    go_wp2_with (first
      | (go_at_call 62; refine (w1.out).mono ?_; rintro r w4 ⟨rfl, own4, h4', e4⟩; clear w1)
      | (go_at_call 32; refine (w2.out _ _ e4 h4').mono ?_; rintro r w5 ⟨rfl, own5, h5, e5⟩; clear w2)
      | (go_at_call 62; refine (w3.out _ _ h5).mono ?_; rintro r w6 ⟨rfl, own6, h6, e6⟩; clear w3))
    go_end0
    exact ⟨rfl, own6, by simpa using h6, (e4.trans e5).trans e6⟩
  · have g4 : (t.k != 4) = true := by simp [h4]
    cases hb : t.binds with
    | true =>
      rw [hb] at BQ
      rw [HC, if_pos (.inr hb)] at hl
      rw [HC, if_pos (.inr hb)]
      have HL := OPEN (.inr hb) ⟨(), trivial⟩
      have w1 := hid (wb M own e l n 40 w h (by have := HL.out; omega))
      have w2 : Hid (∀ own' wz, Ev own w own' wz → Tx M wz own' e (l ++ [40]) n → Calls Tryz.prog 32 #[.pointer (some ⟨M, 0, none⟩), .pointer (some ⟨b, o, none⟩)] wz (Wrote M own' e (l ++ [40] ++ t.txt e) (n + t.cnt * 8388608) wz (.tuple #[]))) := fun own' wz hz hT => ih wz own' e (l ++ [40]) n b o t hT (HPz.out _ _ hz) HQ.out.1 HQ.out.2 (by have := HL.out; simp; omega)
      have w3 : Hid (∀ own' wz, Tx M wz own' e (l ++ [40] ++ t.txt e) (n + t.cnt * 8388608) → Calls Tryz.prog 62 #[.pointer (some ⟨M, 0, none⟩), .int .u8 41] wz (Wrote M own' e (l ++ [40] ++ t.txt e ++ [41]) (n + t.cnt * 8388608) wz .nilIface)) := fun own' wz hT => wb M own' e _ _ 41 wz hT (by have := HL.out; simp; omega)
      clear h hP q1 q2 hl OPEN HC ih h4 hb
      go_enter Tryz.func64, Tryz.ntmps64
      go_wp2_with (first
        | (go_at_call 103; refine (BQ.out).mono ?_; rintro r w3' ⟨rfl, hw⟩; rw [hw]; clear hw w3' BQ)
        | (go_at_call 62; refine (w1.out).mono ?_; rintro r w4 ⟨rfl, own4, h4', e4⟩; clear w1)
        | (go_at_call 32; refine (w2.out _ _ e4 h4').mono ?_; rintro r w5 ⟨rfl, own5, h5, e5⟩; clear w2)
        | (go_at_call 62; refine (w3.out _ _ h5).mono ?_; rintro r w6 ⟨rfl, own6, h6, e6⟩; clear w3))
      go_end0
      exact ⟨rfl, own6, by simpa using h6, (e4.trans e5).trans e6⟩
    | false =>
      rw [hb] at BQ
      rw [HC, if_neg (by rw [hb]; simp [h4])] at hl
      rw [HC, if_neg (by rw [hb]; simp [h4])]
      have w1 := hid (ih w own e l n b o t h hP q1 q2 hl)
      clear h hP q1 q2 hl OPEN HC ih h4 hb
      go_enter Tryz.func64, Tryz.ntmps64
      go_wp2_with (first
        | (go_at_call 103; refine (BQ.out).mono ?_; rintro r w3 ⟨rfl, hw⟩; rw [hw]; clear hw w3 BQ)
        | (go_at_call 32; refine (w1.out).mono ?_; rintro r w3 ⟨rfl, own3, h3, e3⟩; clear w1))
      go_end0
      exact ⟨rfl, own3, h3, e3⟩

/-- A record's fields. -/
def RecOf (M k : Nat) : Prop := ∀ (w : World) (own : Nat → Prop) (e : List (Int × Int)) (l : List UInt8) (n b o : Nat) (t : Tt), Tx M w own e l n → PAt w (fun b => b < M) (k + 1) b o t → t.ls.length = t.ks.length → e.length + Tt.cntL t.ks ≤ 2097152 → n + Tt.cntL t.ks * 8388608 ≤ 2305843009213693952 → l.length + (Tt.recT 0 t.ls (Tt.txtL t.ks e)).length + 102 ≤ 140737488355328 →
  Calls Tryz.prog 66 #[.pointer (some ⟨M, 0, none⟩), .pointer (some ⟨b, o, none⟩)] w (Wrote M own e (l ++ ([123] ++ Tt.recT 0 t.ls (Tt.txtL t.ks e) ++ [125])) (n + Tt.cntL t.ks * 8388608) w (.tuple #[]))
def SumOf (M k : Nat) : Prop := ∀ (w : World) (own : Nat → Prop) (e : List (Int × Int)) (l : List UInt8) (n b o : Nat) (t : Tt), Tx M w own e l n → PAt w (fun b => b < M) (k + 1) b o t → e.length + Tt.cntL t.ks ≤ 2097152 → n + Tt.cntL t.ks * 8388608 ≤ 2305843009213693952 → l.length + (Tt.sumT 0 (Tt.txtL t.ks e)).length + 102 ≤ 140737488355328 →
  Calls Tryz.prog 67 #[.pointer (some ⟨M, 0, none⟩), .pointer (some ⟨b, o, none⟩)] w (Wrote M own e (l ++ ([91] ++ Tt.sumT 0 (Tt.txtL t.ks e) ++ [93])) (n + Tt.cntL t.ks * 8388608) w (.tuple #[]))
theorem ls_at {w : World} {K : Nat → Prop} {a : Option Addr} {m c : Nat} {l : List ByteArray} (h : Sl w K (.slice a m c) l) {i : Nat} {s : ByteArray} (hs : l[i]? = some s) : ∃ b o, a = some ⟨b, o, none⟩ ∧ K b ∧ l.length ≤ c ∧ w.cell? ⟨b, o + i, none⟩ = some (.string s) := by
  rcases h with ⟨b, o, c', hv, hb, hl, hm, hc⟩ | ⟨rfl, -⟩
  · injection hv with e1 e2 e3
    subst e3
    exact ⟨b, o, e1, hb, hl, hc i s hs⟩
  · simp at hs
theorem getElem?_drop_cons {α : Type} {l : List α} {i : Nat} {x : α} (h : l[i]? = some x) : l.drop i = x :: l.drop (i + 1) := by
  obtain ⟨hk, rfl⟩ := List.getElem?_eq_some_iff.1 h
  exact List.drop_eq_getElem_cons hk

set_option maxHeartbeats 2000000 in
set_option maxRecDepth 100000 in
theorem record_step (M k : Nat) (ih : CloOf M k) : RecOf M k := by
  intro w own e l n b o t h hP hlk q1 q2 hl
  obtain ⟨la, lc, ka, kc, -, -, x2, x3, -, -, hS, hL⟩ := hP.cells
  have hkl : t.ks.length ≤ 9223372036854775807 := by obtain ⟨_, _, _, hm⟩ := hL.form; exact hm
  have HX2 : Hid (∀ wz own', Ev own w own' wz → wz.cell? ⟨b, o + 2, none⟩ = some (.slice la t.ls.length lc)) := fun wz own' hz => h.keeps hz _ _ _ hP.1 x2
  have HX3 : Hid (∀ wz own', Ev own w own' wz → wz.cell? ⟨b, o + 3, none⟩ = some (.slice ka t.ks.length kc)) := fun wz own' hz => h.keeps hz _ _ _ hP.1 x3
  have HS : Hid (∀ wz own', Ev own w own' wz → Sl wz (fun b => b < M) (.slice la t.ls.length lc) t.ls) := fun wz own' hz => hS.move (h.keeps hz) (fun _ h => h)
  have HL : Hid (∀ wz own', Ev own w own' wz → TAtL wz (fun b => b < M) k (.slice ka t.ks.length kc) t.ks) := fun wz own' hz => hL.move (h.keeps hz) (fun _ h => h)
  have HQ := hid (And.intro q1 (And.intro q2 (And.intro hl hlk)))
  have w1 := hid (wb M own e l n 123 w h (by omega))
  have HIH := hid ih
  have hlk2 : t.ls.length ≤ 9223372036854775807 := by omega
  generalize hRT : Tt.recT 0 t.ls (Tt.txtL t.ks e) = RT at HQ ⊢
  have HRT := hid hRT
  clear h hP hS hL q1 q2 hl x2 x3 ih hRT
  go_enter Tryz.func66, Tryz.ntmps66
  go_wp2_with (go_at_call 62; refine (w1.out).mono ?_; rintro r w2 ⟨rfl, own2, h2, e2⟩; have x2 := HX2.out _ _ e2; have T2 := hid h2; have E2 := hid e2; clear w1 h2 e2)
  go_loopw [15] (fun v wr => ∃ (i n' : Nat) (own' : Nat → Prop) (L : List UInt8), v = .int .i64 i ∧ i ≤ t.ls.length ∧ Hid (l ++ [123] ++ RT = L ++ Tt.recT i (t.ls.drop i) (Tt.txtL (t.ks.drop i) e)) ∧ Hid (Tx M wr own' e L n') ∧ Hid (Ev own w own' wr) ∧ Hid (n' + Tt.cntL (t.ks.drop i) * 8388608 ≤ n + Tt.cntL t.ks * 8388608 ∧ Tt.cntL (t.ks.drop i) ≤ Tt.cntL t.ks)) (fun v _ => t.ls.length - (intOf v).toNat)
  case atStart => exact ⟨0, n, own2, l ++ [123], rfl, Nat.zero_le _, hid (by rw [← HRT.out]; simp), T2, E2, hid ⟨by simp, by simp⟩⟩
  case round =>
    obtain ⟨i, n', own', L, rfl, hil, hR, hT, hE, hN⟩ := hrel
    by_cases hlt : i < t.ls.length
    · obtain ⟨lab, hlab⟩ : ∃ s, t.ls[i]? = some s := ⟨_, List.getElem?_eq_getElem hlt⟩
      obtain ⟨x, hx⟩ : ∃ x, t.ks[i]? = some x := ⟨_, List.getElem?_eq_getElem (by have := HQ.out.2.2.2; omega)⟩
      obtain ⟨lb, lo, rfl, -, hlc, z1⟩ := ls_at (HS.out _ _ hE.out) hlab
      obtain ⟨kb, ko, rfl, hPx⟩ := (HL.out _ _ hE.out).elem hx
      have HPX : Hid (∀ wz oz, Ev own' wr oz wz → PAt wz (fun b => b < M) k kb (ko + i * 4) x ∧ wz.cell? ⟨b, o + 3, none⟩ = some (.slice (some ⟨kb, ko, none⟩) t.ks.length kc)) := fun wz oz hz => ⟨hPx.move (hT.out.keeps hz) (fun _ h => h), HX3.out _ _ (hE.out.trans hz)⟩
      have HC : Hid (Tt.cntL (t.ks.drop i) = x.cnt + Tt.cntL (t.ks.drop (i + 1))) := Tt.cntL_drop hx
      have HR2 : Hid (l ++ [123] ++ RT = (L ++ (if 0 < i then [44, 32] else []) ++ lab.data.toList ++ [58, 32] ++ Tt.clo x.k (x.txt e)) ++ Tt.recT (i + 1) (t.ls.drop (i + 1)) (Tt.txtL (t.ks.drop (i + 1)) e)) := by
        show _ = _
        rw [hR.out, getElem?_drop_cons hlab, Tt.txtL_drop e hx, Tt.recT]
        simp only [List.append_assoc]
      have HLEN : Hid ((L ++ (if 0 < i then [44, 32] else []) ++ lab.data.toList ++ [58, 32] ++ Tt.clo x.k (x.txt e)).length + 100 ≤ 140737488355328) := by
        have h1 := congrArg List.length HR2.out
        have h2 := HQ.out.2.2.1
        rw [List.length_append, List.length_append, List.length_append] at h1
        simp only [List.length_cons, List.length_nil] at h1
        show _ ≤ _
        omega
      have w3 := hid (between_any M own' e L n' i ⟨#[44, 32]⟩ wr hT.out (show _ + 2 ≤ _ by have := HLEN.out; simp at this; omega))
      have w4 : Hid (∀ oz wz, Tx M wz oz e (L ++ (if 0 < i then [44, 32] else [])) n' → Calls Tryz.prog 63 #[.pointer (some ⟨M, 0, none⟩), .string lab] wz (Wrote M oz e (L ++ (if 0 < i then [44, 32] else []) ++ lab.data.toList) n' wz (.tuple #[.int .i64 lab.size, .nilIface]))) := fun oz wz hz => ws M oz e _ n' lab wz hz (by have := HLEN.out; rw [List.length_append, List.length_append, List.length_append, size_data] at this; omega)
      have w5 : Hid (∀ oz wz, Tx M wz oz e (L ++ (if 0 < i then [44, 32] else []) ++ lab.data.toList) n' → Calls Tryz.prog 63 #[.pointer (some ⟨M, 0, none⟩), .string ⟨#[58, 32]⟩] wz (Wrote M oz e (L ++ (if 0 < i then [44, 32] else []) ++ lab.data.toList ++ [58, 32]) n' wz (.tuple #[.int .i64 2, .nilIface]))) := fun oz wz hz => ws M oz e _ n' ⟨#[58, 32]⟩ wz hz (show _ + 2 ≤ _ by have := HLEN.out; rw [List.length_append, List.length_append] at this; simp only [List.length_cons, List.length_nil] at this; omega)
      have w6 : Hid (∀ oz wz, Ev own' wr oz wz → Tx M wz oz e (L ++ (if 0 < i then [44, 32] else []) ++ lab.data.toList ++ [58, 32]) n' → Calls Tryz.prog 64 #[.pointer (some ⟨M, 0, none⟩), .pointer (some ⟨kb, ko + i * 4, none⟩)] wz (Wrote M oz e (L ++ (if 0 < i then [44, 32] else []) ++ lab.data.toList ++ [58, 32] ++ Tt.clo x.k (x.txt e)) (n' + x.cnt * 8388608) wz (.tuple #[]))) := fun oz wz hz hT2 => HIH.out wz oz e _ n' kb _ x hT2 (HPX.out _ _ hz).1 (by have := HQ.out; have := HC.out; have := hN.out; omega) (by have := HQ.out; have := HC.out; have := hN.out; omega) (by have := HLEN.out; rw [List.length_append] at this; exact this)
      have hlt2 : (i : Int) < t.ls.length := by omega
      have hik : i < t.ks.length := by have := HQ.out.2.2.2; omega
      have hlt3 : (i : Int) < t.ks.length := by omega
      clear hR hx hlab hPx
      generalize (L ++ (if 0 < i then [44, 32] else []) ++ lab.data.toList ++ [58, 32] ++ Tt.clo x.k (x.txt e)) = L6 at w6 HR2
      generalize (L ++ (if 0 < i then [44, 32] else []) ++ lab.data.toList ++ [58, 32]) = L5 at w6 w5
      generalize (L ++ (if 0 < i then [44, 32] else []) ++ lab.data.toList) = L4 at w5 w4
      have w3 : Hid (Calls Tryz.prog 105 #[.pointer (some ⟨M, 0, none⟩), .int .i64 i, .string ⟨#[44, 32]⟩] wr (Wrote M own' e (L ++ (if 0 < i then [44, 32] else [])) n' wr (.tuple #[]))) := w3
      generalize (L ++ (if 0 < i then [44, 32] else [])) = L3 at w3 w4
      go_wp2_with (first
        | (go_at_call 105; refine (w3.out).mono ?_; rintro r w7 ⟨rfl, own7, h7, e7⟩; clear w3)
        | (go_at_call 63; refine (w4.out _ _ h7).mono ?_; rintro r w8 ⟨rfl, own8, h8, e8⟩; clear w4)
        | (go_at_call 63; refine (w5.out _ _ h8).mono ?_; rintro r w9 ⟨rfl, own9, h9, e9⟩; have z3 := (HPX.out _ _ ((e7.trans e8).trans e9)).2; clear w5)
        | (go_at_call 64; refine (w6.out _ _ ((e7.trans e8).trans e9) h9).mono ?_; rintro r w10 ⟨rfl, own10, h10, e10⟩; clear w6))
      go_roundw
      case rel => exact ⟨i + 1, _, own10, L6, by go_num, by omega, HR2, hid h10, hid (hE.out.trans (((e7.trans e8).trans e9).trans e10)), hid (by have := hN.out; have := HC.out; constructor <;> omega)⟩
      case measure => simp [intOf]; omega
    · have hd : t.ls.drop i = [] := List.drop_eq_nil_of_le (by omega)
      have HE : Hid (l ++ [123] ++ RT = L) := by show _ = _; rw [hR.out, hd, Tt.recT]; simp; intros; contradiction
      have w3 := hid (wb M own' e L n' 125 wr hT.out (by have h1 := congrArg List.length HE.out; have := HQ.out; simp at h1; omega))
      have hi2 : ¬ (i : Int) < t.ls.length := by omega
      clear hR hd
      go_wp2_with (go_at_call 62; refine (w3.out).mono ?_; rintro r w7 ⟨rfl, own7, h7, e7⟩; clear w3)
      go_end0
      exact ⟨rfl, own7, by have h9 := h7.up (m := n + Tt.cntL t.ks * 8388608) (by have := hN.out; omega); rw [← HE.out] at h9; simpa using h9, hE.out.trans e7⟩

set_option maxHeartbeats 2000000 in
set_option maxRecDepth 100000 in
theorem sum_step (M k : Nat) (ih : CloOf M k) : SumOf M k := by
  intro w own e l n b o t h hP q1 q2 hl
  obtain ⟨la, lc, ka, kc, -, -, x2, x3, -, -, hS, hL⟩ := hP.cells
  have hkl : t.ks.length ≤ 9223372036854775807 := by obtain ⟨_, _, _, hm⟩ := hL.form; exact hm
  have HX3 : Hid (∀ wz own', Ev own w own' wz → wz.cell? ⟨b, o + 3, none⟩ = some (.slice ka t.ks.length kc)) := fun wz own' hz => h.keeps hz _ _ _ hP.1 x3
  have HL : Hid (∀ wz own', Ev own w own' wz → TAtL wz (fun b => b < M) k (.slice ka t.ks.length kc) t.ks) := fun wz own' hz => hL.move (h.keeps hz) (fun _ h => h)
  have HQ := hid (And.intro q1 (And.intro q2 hl))
  have w1 := hid (wb M own e l n 91 w h (by omega))
  have HIH := hid ih
  generalize hRT : Tt.sumT 0 (Tt.txtL t.ks e) = RT at HQ ⊢
  have HRT := hid hRT
  clear h hP hS hL q1 q2 hl x2 x3 ih hRT
  go_enter Tryz.func67, Tryz.ntmps67
  go_wp2_with (go_at_call 62; refine (w1.out).mono ?_; rintro r w2 ⟨rfl, own2, h2, e2⟩; have x3 := HX3.out _ _ e2; have T2 := hid h2; have E2 := hid e2; clear w1 h2 e2)
  go_loopw [14] (fun v wr => ∃ (i n' : Nat) (own' : Nat → Prop) (L : List UInt8), v = .int .i64 i ∧ i ≤ t.ks.length ∧ Hid (l ++ [91] ++ RT = L ++ Tt.sumT i (Tt.txtL (t.ks.drop i) e)) ∧ Hid (Tx M wr own' e L n') ∧ Hid (Ev own w own' wr) ∧ Hid (n' + Tt.cntL (t.ks.drop i) * 8388608 ≤ n + Tt.cntL t.ks * 8388608 ∧ Tt.cntL (t.ks.drop i) ≤ Tt.cntL t.ks)) (fun v _ => t.ks.length - (intOf v).toNat)
  case atStart => exact ⟨0, n, own2, l ++ [91], rfl, Nat.zero_le _, hid (by rw [← HRT.out]; simp), T2, E2, hid ⟨by simp, by simp⟩⟩
  case round =>
    obtain ⟨i, n', own', L, rfl, hil, hR, hT, hE, hN⟩ := hrel
    by_cases hlt : i < t.ks.length
    · obtain ⟨x, hx⟩ : ∃ x, t.ks[i]? = some x := ⟨_, List.getElem?_eq_getElem hlt⟩
      obtain ⟨kb, ko, rfl, hPx⟩ := (HL.out _ _ hE.out).elem hx
      have HPX : Hid (∀ wz oz, Ev own' wr oz wz → PAt wz (fun b => b < M) k kb (ko + i * 4) x ∧ wz.cell? ⟨b, o + 3, none⟩ = some (.slice (some ⟨kb, ko, none⟩) t.ks.length kc)) := fun wz oz hz => ⟨hPx.move (hT.out.keeps hz) (fun _ h => h), HX3.out _ _ (hE.out.trans hz)⟩
      have HC : Hid (Tt.cntL (t.ks.drop i) = x.cnt + Tt.cntL (t.ks.drop (i + 1))) := Tt.cntL_drop hx
      have HR2 : Hid (l ++ [91] ++ RT = (L ++ (if 0 < i then [32, 124, 32] else []) ++ Tt.clo x.k (x.txt e)) ++ Tt.sumT (i + 1) (Tt.txtL (t.ks.drop (i + 1)) e)) := by
        show _ = _
        rw [hR.out, Tt.txtL_drop e hx, Tt.sumT]
        simp only [List.append_assoc]
      have HLEN : Hid ((L ++ (if 0 < i then [32, 124, 32] else []) ++ Tt.clo x.k (x.txt e)).length + 100 ≤ 140737488355328) := by
        have h1 := congrArg List.length HR2.out
        have h2 := HQ.out.2.2
        rw [List.length_append, List.length_append, List.length_append] at h1
        simp only [List.length_cons, List.length_nil] at h1
        show _ ≤ _
        omega
      have w3 := hid (between_any M own' e L n' i ⟨#[32, 124, 32]⟩ wr hT.out (show _ + 3 ≤ _ by have := HLEN.out; simp at this; omega))
      have w6 : Hid (∀ oz wz, Ev own' wr oz wz → Tx M wz oz e (L ++ (if 0 < i then [32, 124, 32] else [])) n' → Calls Tryz.prog 64 #[.pointer (some ⟨M, 0, none⟩), .pointer (some ⟨kb, ko + i * 4, none⟩)] wz (Wrote M oz e (L ++ (if 0 < i then [32, 124, 32] else []) ++ Tt.clo x.k (x.txt e)) (n' + x.cnt * 8388608) wz (.tuple #[]))) := fun oz wz hz hT2 => HIH.out wz oz e _ n' kb _ x hT2 (HPX.out _ _ hz).1 (by have := HQ.out; have := HC.out; have := hN.out; omega) (by have := HQ.out; have := HC.out; have := hN.out; omega) (by have := HLEN.out; rw [List.length_append] at this; exact this)
      have hlt2 : (i : Int) < t.ks.length := by omega
      clear hR hx hPx
      generalize (L ++ (if 0 < i then [32, 124, 32] else []) ++ Tt.clo x.k (x.txt e)) = L6 at w6 HR2
      have w3 : Hid (Calls Tryz.prog 105 #[.pointer (some ⟨M, 0, none⟩), .int .i64 i, .string ⟨#[32, 124, 32]⟩] wr (Wrote M own' e (L ++ (if 0 < i then [32, 124, 32] else [])) n' wr (.tuple #[]))) := w3
      generalize (L ++ (if 0 < i then [32, 124, 32] else [])) = L3 at w3 w6
      go_wp2_with (first
        | (go_at_call 105; refine (w3.out).mono ?_; rintro r w7 ⟨rfl, own7, h7, e7⟩; have z3 := (HPX.out _ _ e7).2; clear w3)
        | (go_at_call 64; refine (w6.out _ _ e7 h7).mono ?_; rintro r w10 ⟨rfl, own10, h10, e10⟩; clear w6))
      go_roundw
      case rel => exact ⟨i + 1, _, own10, L6, by go_num, by omega, HR2, hid h10, hid (hE.out.trans (e7.trans e10)), hid (by have := hN.out; have := HC.out; constructor <;> omega)⟩
      case measure => simp [intOf]; omega
    · have hd : t.ks.drop i = [] := List.drop_eq_nil_of_le (by omega)
      have HE : Hid (l ++ [91] ++ RT = L) := by show _ = _; rw [hR.out, hd, Tt.txtL, Tt.sumT]; simp
      have w3 := hid (wb M own' e L n' 93 wr hT.out (by have h1 := congrArg List.length HE.out; have := HQ.out; simp at h1; omega))
      have hi2 : ¬ (i : Int) < t.ks.length := by omega
      clear hR hd
      go_wp2_with (go_at_call 62; refine (w3.out).mono ?_; rintro r w7 ⟨rfl, own7, h7, e7⟩; clear w3)
      go_end0
      exact ⟨rfl, own7, by have h9 := h7.up (m := n + Tt.cntL t.ks * 8388608) (by have := hN.out; omega); rw [← HE.out] at h9; simpa using h9, hE.out.trans e7⟩

/-- A binder. -/
def BinOf (M k : Nat) : Prop := ∀ (w : World) (own : Nat → Prop) (e : List (Int × Int)) (l : List UInt8) (n b o : Nat) (t x : Tt) (wd : ByteArray), Tx M w own e l n → PAt w (fun b => b < M) (k + 1) b o t → t.binds = true → t.ks = [x] → wd.size ≤ 4 → e.length + t.cnt ≤ 2097152 → n + t.cnt * 8388608 ≤ 2305843009213693952 → l.length + (wd.data.toList ++ [32] ++ ([116] ++ Lib.itoa e.length) ++ [46, 32] ++ x.txt (t.env e)).length + 100 ≤ 140737488355328 →
  Calls Tryz.prog 68 #[.pointer (some ⟨M, 0, none⟩), .string wd, .pointer (some ⟨b, o, none⟩)] w (Wrote M own e (l ++ (wd.data.toList ++ [32] ++ ([116] ++ Lib.itoa e.length) ++ [46, 32] ++ x.txt (t.env e))) (n + t.cnt * 8388608) w (.tuple #[]))

set_option maxHeartbeats 2000000 in
set_option maxRecDepth 100000 in
theorem binder_step (M k : Nat) (ih : TxtOf M k) : BinOf M k := by
  intro w own e l n b o t x wd h hP hb hks hwd q1 q2 hl
  obtain ⟨la, lc, ka, kc, -, -, -, x3, -, -, -, hL⟩ := hP.cells
  have hx : t.ks[0]? = some x := by rw [hks]; rfl
  obtain ⟨kb, ko, rfl, hPx⟩ := hL.elem hx
  have hlen1 : t.ks.length = 1 := by rw [hks]; rfl
  rw [hlen1] at x3
  have hkc : 1 ≤ kc := by rcases hL with ⟨_, _, _, hv, _, hl, _⟩ | ⟨h0, -⟩; (injection hv with e1 e2 e3; subst e3; rw [hlen1] at hl; exact hl); (rw [h0] at hks; cases hks)
  have HX3 : Hid (∀ wz own', Ev own w own' wz → wz.cell? ⟨b, o + 3, none⟩ = some (.slice (some ⟨kb, ko, none⟩) 1 kc)) := fun wz own' hz => h.keeps hz _ _ _ hP.1 x3
  have HPX : Hid (∀ wz own', Ev own w own' wz → PAt wz (fun b => b < M) k kb ko x) := fun wz own' hz => by
    rw [Nat.zero_mul, Nat.add_zero] at hPx
    exact hPx.move (h.keeps hz) (fun _ h => h)
  have hct : t.cnt = x.cnt + 1 := by rw [Tt.cnt_ks, hks, Tt.cntL, Tt.cntL]
  have hel := env_len t e
  have hr64 : R64 e.length := ⟨by omega, by omega⟩
  have hit := itoa_len hr64
  have HLn : Hid (l.length + wd.size + 1 + 22 + 2 + (x.txt (t.env e)).length + 100 ≤ 140737488355328 + 22) := by
    show _ ≤ _
    simp only [List.length_append, List.length_cons, List.length_nil, size_data] at hl
    omega
  have HQ := hid (And.intro q1 (And.intro q2 (And.intro hct (And.intro hel.1 (And.intro hel.2.1 hl)))))
  have IQ := hid (intoT M own e l n w _ b o t h hP (by omega) (by omega))
  have w1 : Hid (∀ oz wz m, Tx M wz oz (t.env e) l m → Calls Tryz.prog 63 #[.pointer (some ⟨M, 0, none⟩), .string wd] wz (Wrote M oz (t.env e) (l ++ wd.data.toList) m wz (.tuple #[.int .i64 wd.size, .nilIface]))) := fun oz wz m hz => ws M oz _ l m wd wz hz (by simp only [List.length_append, size_data] at hl; omega)
  have w2 : Hid (∀ oz wz m, Tx M wz oz (t.env e) (l ++ wd.data.toList) m → Calls Tryz.prog 62 #[.pointer (some ⟨M, 0, none⟩), .int .u8 32] wz (Wrote M oz (t.env e) (l ++ wd.data.toList ++ [32]) m wz .nilIface)) := fun oz wz m hz => wb M oz _ _ m 32 wz hz (by simp only [List.length_append, List.length_cons, List.length_nil] at hl ⊢; omega)
  have w3 : Hid (∀ oz wz m, Tx M wz oz (t.env e) (l ++ wd.data.toList ++ [32]) m → Calls Tryz.prog 80 #[.pointer (some ⟨M, 0, none⟩), .int .u8 116, .int .i64 e.length] wz (Wrote M oz (t.env e) (l ++ wd.data.toList ++ [32] ++ ([116] ++ Lib.itoa e.length)) m wz (.tuple #[]))) := fun oz wz m hz => numbered_any M oz _ _ m 116 e.length hr64 wz hz (by simp only [List.length_append, List.length_cons, List.length_nil] at hl ⊢; omega)
  have w4 : Hid (∀ oz wz m, Tx M wz oz (t.env e) (l ++ wd.data.toList ++ [32] ++ ([116] ++ Lib.itoa e.length)) m → Calls Tryz.prog 63 #[.pointer (some ⟨M, 0, none⟩), .string ⟨#[46, 32]⟩] wz (Wrote M oz (t.env e) (l ++ wd.data.toList ++ [32] ++ ([116] ++ Lib.itoa e.length) ++ [46, 32]) m wz (.tuple #[.int .i64 2, .nilIface]))) := fun oz wz m hz => ws M oz _ _ m ⟨#[46, 32]⟩ wz hz (show _ + 2 ≤ _ by simp only [List.length_append, List.length_cons, List.length_nil] at hl ⊢; omega)
  have w5 : Hid (∀ oz wz, Ev own w oz wz → Tx M wz oz (t.env e) (l ++ wd.data.toList ++ [32] ++ ([116] ++ Lib.itoa e.length) ++ [46, 32]) (n + 1) → Calls Tryz.prog 32 #[.pointer (some ⟨M, 0, none⟩), .pointer (some ⟨kb, ko, none⟩)] wz (Wrote M oz (t.env e) (l ++ wd.data.toList ++ [32] ++ ([116] ++ Lib.itoa e.length) ++ [46, 32] ++ x.txt (t.env e)) (n + 1 + x.cnt * 8388608) wz (.tuple #[]))) := fun oz wz hev hz => ih wz oz _ _ (n + 1) kb ko x hz (HPX.out _ _ hev) (by omega) (by omega) (by simp only [List.length_append, List.length_cons, List.length_nil] at hl ⊢; omega)
  have w6 : Hid (∀ oz wz L, Tx M wz oz (t.env e) L (n + 1 + x.cnt * 8388608) → Calls Tryz.prog 77 #[.pointer (some ⟨M, 0, none⟩), .agg #[.int .i64 e.length, .int .i64 0]] wz fun r w' => r = .returned (.tuple #[]) ∧ ∃ own', Tx M w' own' e L (n + 1 + x.cnt * 8388608 + e.length + 1) ∧ Ev oz wz own' w') := fun oz wz L hz => backT M oz e L _ wz t hz (by omega)
  have HAPP : Hid (l ++ (wd.data.toList ++ [32] ++ ([116] ++ Lib.itoa e.length) ++ [46, 32] ++ x.txt (t.env e)) = l ++ wd.data.toList ++ [32] ++ ([116] ++ Lib.itoa e.length) ++ [46, 32] ++ x.txt (t.env e)) := by show _ = _; simp only [List.append_assoc]
  rw [HAPP.out]
  clear h hP hL hPx x3 hks hx hlen1 ih q1 q2 hl hit hr64 hel hct HAPP HLn
  generalize (l ++ wd.data.toList ++ [32] ++ ([116] ++ Lib.itoa e.length) ++ [46, 32] ++ x.txt (t.env e)) = L5 at w5 ⊢
  generalize (l ++ wd.data.toList ++ [32] ++ ([116] ++ Lib.itoa e.length) ++ [46, 32]) = L4 at w4 w5
  generalize (l ++ wd.data.toList ++ [32] ++ ([116] ++ Lib.itoa e.length)) = L3 at w3 w4
  generalize (l ++ wd.data.toList ++ [32]) = L2 at w2 w3
  generalize (l ++ wd.data.toList) = L1 at w1 w2
  go_enter Tryz.func68, Tryz.ntmps68
  go_wp2_with (first
    | (go_at_call 75; refine (IQ.out).mono ?_; rintro r w3' ⟨rfl, own3, hT3, hE3⟩; have T3 := hid (hT3.stays (bl_alloc (Below.refl _ _) (.cells #[.int .i64 e.length, .int .i64 0] 126))); have E3 := hid (hE3.alloc (.cells #[.int .i64 e.length, .int .i64 0] 126)); have B3 := hid (Bx.new (n0 := 0) (w := w3') 126 [.int .i64 e.length, .int .i64 0] (fun b hb => (hT3.own b hb).2) (Nat.zero_le _)); clear hT3 hE3 IQ)
    | (go_at_call 63; refine (w1.out _ _ _ T3.out).mono ?_; rintro r w7 ⟨rfl, own7, h7, e7⟩; have B7 := hid (B3.out.ev e7); clear w1)
    | (go_at_call 62; refine (w2.out _ _ _ h7).mono ?_; rintro r w8 ⟨rfl, own8, h8, e8⟩; have B8 := hid (B7.out.ev e8); have k8 := B8.out.arr.cell; clear w2)
    | (go_at_call 80; refine (w3.out _ _ _ h8).mono ?_; rintro r w9 ⟨rfl, own9, h9, e9⟩; have B9 := hid (B8.out.ev e9); clear w3 k8)
    | (go_at_call 63; refine (w4.out _ _ _ h9).mono ?_; rintro r w10 ⟨rfl, own10, h10, e10⟩; have B10 := hid (B9.out.ev e10); have z3 := HX3.out _ _ ((((E3.out.trans e7).trans e8).trans e9).trans e10); clear w4)
    | (go_at_call 32; refine (w5.out _ _ ((((E3.out.trans e7).trans e8).trans e9).trans e10) h10).mono ?_; rintro r w11 ⟨rfl, own11, h11, e11⟩; have B11 := hid (B10.out.ev e11); have k11 := B11.out.arr.cell; clear w5)
    | (go_at_call 77; refine (w6.out _ _ _ h11).mono ?_; rintro r w12 ⟨rfl, own12, h12, e12⟩; clear w6))
  go_end0
  exact ⟨rfl, own12, h12.up (by have := HQ.out; omega), ((((((E3.out.trans e7).trans e8).trans e9).trans e10).trans e11).trans e12)⟩
end Go.Proofs.YtfeppchgmobfpaaGreatDoor
