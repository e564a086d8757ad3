/- The document's list. -/
import Derived.Test.YtfeppchgmobfpaaGreatDoorTgR5
namespace Go.Proofs.YtfeppchgmobfpaaGreatDoor
open Go.RowKit
set_option linter.unusedVariables false
set_option linter.unusedSimpArgs false

theorem cell_on {W wz : World} {a : Addr} {v : Value} (hz : Below W.heap.size W wz) (h : W.cell? a = some v) : wz.cell? a = some v := (hz.cell (World.block_lt_of_cell? W _ h)).trans h
theorem Bo.stays {B0 : Nat} {w w' : World} {v : Value} {l : List UInt8} (h : Bo B0 w v l) (hb : Below w.heap.size w w') : Bo B0 w' v l := own_block h (fun b q => hb.block b (h.lt b q).2)
theorem Bo.more {B0 : Nat} {W w : World} {v : Value} {l : List UInt8} (h : Bo B0 w v l) (hB : Below B0 W w) (hle : B0 ≤ w.heap.size) (s : List UInt8) (hb : l.length + s.length ≤ 140737488355328) :
    ∃ v' w', (Builtin.append_ #[57, 9] 57 #[v, .string ⟨s.toArray⟩]).run Tryz.prog w = .ok v' w' ∧ Bo B0 w' v' (l ++ s) ∧ Below B0 W w' := by
  obtain ⟨v', w', h1, h2, h3, -⟩ := h.app hB hle ⟨s.toArray⟩ hb
  exact ⟨v', w', h1, h2, h3⟩
theorem drop_str {l : List ByteArray} {k : Nat} {x : ByteArray} (hx : l[k]? = some x) : l.drop k = x :: l.drop (k + 1) := by
  obtain ⟨h, rfl⟩ := List.getElem?_eq_some_iff.1 hx
  exact List.drop_eq_getElem_cons h
theorem Tt.cnt_at : ∀ {l : List Tt} {i : Nat} {x : Tt}, l[i]? = some x → x.cnt ≤ Tt.cntL l
  | [], i, x, h => by simp at h
  | y :: r, 0, x, h => by simp at h; subst h; rw [Tt.cntL]; omega
  | y :: r, i + 1, x, h => by simp at h; have := Tt.cnt_at h; rw [Tt.cntL]; omega

set_option maxHeartbeats 4000000 in
set_option maxRecDepth 100000 in
theorem list_sum (n : Nat) (ih : RPartOf n) (w : World) (a' : Option Addr) (c' : Nat) (a : Option Addr) (c : Nat) (t : Tt) (bv : Value) (B : List Int) (h : TAt w Any (n + 1) [.int .i64 t.k, .int .i64 t.n, .slice a' t.ls.length c', .slice a t.ks.length c] t) (hB : Ow w bv B) (hc : B.length + t.cnt ≤ 1099511627776) (hk : t.k = 8) (hl : ([91] ++ Tt.sumT 0 (Tt.txtL t.ks (envOf B)) ++ [93]).length ≤ 140737488355328) :
    Calls Tryz.prog 71 #[.agg #[.int .i64 t.k, .int .i64 t.n, .slice a' t.ls.length c', .slice a t.ks.length c], bv] w fun e w' => e = .returned (.string ⟨([91] ++ Tt.sumT 0 (Tt.txtL t.ks (envOf B)) ++ [93]).toArray⟩) ∧ Below w.heap.size w w' := by
  obtain ⟨_, _, hv, hk64, hn64, hSl, hL⟩ := h
  injection hv with _ hv; injection hv with _ hv; injection hv with e2 hv; injection hv with e3 _
  subst e2 e3
  have hlm : t.ks.length ≤ 9223372036854775807 := by obtain ⟨_, _, _, hm⟩ := TAtL.form hL; exact hm
  have XA : Hid (Arr (w.alloc (.cells #[.int .i64 t.k, .int .i64 t.n, .slice a' t.ls.length c', .slice a t.ks.length c] TY)) w.heap.size TY [.int .i64 t.k, .int .i64 t.n, .slice a' t.ls.length c', .slice a t.ks.length c]) := ⟨heap_alloc_at _ _⟩
  have B1 : Hid (Below w.heap.size w (w.alloc (.cells #[.int .i64 t.k, .int .i64 t.n, .slice a' t.ls.length c', .slice a t.ks.length c] TY))) := bl_alloc (Below.refl _ _) _
  have HX : Hid (∀ wz, Below (w.alloc (.cells #[.int .i64 t.k, .int .i64 t.n, .slice a' t.ls.length c', .slice a t.ks.length c] TY)).heap.size (w.alloc (.cells #[.int .i64 t.k, .int .i64 t.n, .slice a' t.ls.length c', .slice a t.ks.length c] TY)) wz → ∀ j, wz.cell? ⟨w.heap.size, j, none⟩ = [.int .i64 t.k, .int .i64 t.n, .slice a' t.ls.length c', .slice a t.ks.length c][j]?) := fun wz hz j => (XA.out.stays hz).cell j
  have HL : Hid (∀ wz, Below w.heap.size w wz → TAtL wz Any n (.slice a t.ks.length c) t.ks) := fun wz hz => TAtL.below hL hz
  have HSl : Hid (∀ wz, Below w.heap.size w wz → Sl wz Any (.slice a' t.ls.length c') t.ls) := fun wz hz => hSl.below hz
  have HO : Hid (∀ wz, Below w.heap.size w wz → Ow wz bv B) := fun wz hz => hB.below hz
  have HIH := hid ih
  have HC : Hid (B.length + Tt.cntL t.ks ≤ 1099511627776) := by have := Tt.cnt_ks t; show _ ≤ _; omega
  have HLN : Hid ((Tt.sumT 0 (Tt.txtL t.ks (envOf B))).length + 2 ≤ 140737488355328) := by show _ ≤ _; simpa using hl
  generalize hF : Tt.sumT 0 (Tt.txtL t.ks (envOf B)) = F at HLN ⊢
  have HF : Hid (F = [] ++ Tt.sumT 0 (Tt.txtL (t.ks.drop 0) (envOf B))) := by show _ = _; rw [← hF]; simp
  have g7 : (t.k == 7) = false := by simp [hk]
  clear hL hSl hB ih hc hl hF hk hk64 hn64
  go_enter Tryz.func71, Tryz.ntmps71
  go_wp2
  go_loopw [5, 6] (fun ov iv wr => ∃ (i : Nat) (l : List UInt8), iv = .int .i64 i ∧ i ≤ t.ks.length ∧ Hid (Bo (w.alloc (.cells #[.int .i64 t.k, .int .i64 t.n, .slice a' t.ls.length c', .slice a t.ks.length c] TY)).heap.size wr ov l) ∧ Hid (F = l ++ Tt.sumT i (Tt.txtL (t.ks.drop i) (envOf B))) ∧ Hid (Below (w.alloc (.cells #[.int .i64 t.k, .int .i64 t.n, .slice a' t.ls.length c', .slice a t.ks.length c] TY)).heap.size (w.alloc (.cells #[.int .i64 t.k, .int .i64 t.n, .slice a' t.ls.length c', .slice a t.ks.length c] TY)) wr)) (fun _ v _ => t.ks.length - (intOf v).toNat)
  case atStart => exact ⟨0, [], rfl, Nat.zero_le _, hid (World.ownsRow_nil _ _ _ _), HF, hid (Below.refl _ _)⟩
  case round =>
    obtain ⟨i, l, rfl, hil, hO, hF, hb⟩ := hrel
    have x0 := HX.out _ hb.out
    by_cases hlt : i < t.ks.length
    · obtain ⟨x, hx⟩ : ∃ x, t.ks[i]? = some x := ⟨_, List.getElem?_eq_getElem hlt⟩
      have hlt2 : (i : Int) < t.ks.length := by omega
      have hcx : x.cnt ≤ Tt.cntL t.ks := Tt.cnt_at hx
      have hst : Tt.sumT i (Tt.txtL (t.ks.drop i) (envOf B)) = (if 0 < i then [32, 124, 32] else []) ++ Tt.clo x.k (x.txt (envOf B)) ++ Tt.sumT (i + 1) (Tt.txtL (t.ks.drop (i + 1)) (envOf B)) := by
        rw [Tt.txtL_drop _ hx, Tt.sumT]
      rw [hst] at hF
      have hlen := congrArg List.length hF.out
      have HN := HLN.out
      generalize hR : Tt.sumT (i + 1) (Tt.txtL (t.ks.drop (i + 1)) (envOf B)) = R at hF hlen
      have HR := hid hR
      obtain ⟨kb, ko, k1, k2, k3, k4, rfl, hcap, q0, q1, q2, q3, hT⟩ := (HL.out _ B1.out).load hx
      have KC : Hid (∀ wz, Below (w.alloc (.cells #[.int .i64 t.k, .int .i64 t.n, .slice a' t.ls.length c', .slice (some ⟨kb, ko, none⟩) t.ks.length c] TY)).heap.size (w.alloc (.cells #[.int .i64 t.k, .int .i64 t.n, .slice a' t.ls.length c', .slice (some ⟨kb, ko, none⟩) t.ks.length c] TY)) wz → wz.cell? ⟨kb, ko + i * 4, none⟩ = some (.int .i64 x.k) ∧ wz.cell? ⟨kb, ko + i * 4 + 1, none⟩ = some (.int .i64 x.n) ∧ wz.cell? ⟨kb, ko + i * 4 + 2, none⟩ = some (.slice k1 x.ls.length k2) ∧ wz.cell? ⟨kb, ko + i * 4 + 3, none⟩ = some (.slice k3 x.ks.length k4)) := fun wz hz => ⟨cell_on hz q0, cell_on hz q1, cell_on hz q2, cell_on hz q3⟩
      have KQ : Hid ((Tt.clo x.k (x.txt (envOf B))).length ≤ 140737488355328 → ∀ wz, Below (w.alloc (.cells #[.int .i64 t.k, .int .i64 t.n, .slice a' t.ls.length c', .slice (some ⟨kb, ko, none⟩) t.ks.length c] TY)).heap.size (w.alloc (.cells #[.int .i64 t.k, .int .i64 t.n, .slice a' t.ls.length c', .slice (some ⟨kb, ko, none⟩) t.ks.length c] TY)) wz → Calls Tryz.prog 70 #[.agg #[.int .i64 x.k, .int .i64 x.n, .slice k1 x.ls.length k2, .slice k3 x.ks.length k4], bv] wz fun e w' => e = .returned (.string ⟨(Tt.clo x.k (x.txt (envOf B))).toArray⟩) ∧ Below wz.heap.size wz w') := fun hle wz hz => HIH.out wz k1 k2 k3 k4 x bv B (hT.below hz) (HO.out _ (bl_tr B1.out hz)) (by have := HC.out; omega) hle
      generalize Tt.clo x.k (x.txt (envOf B)) = P at hF hlen KQ
      clear hT q0 q1 q2 q3 hR hst hx hcx
      by_cases h0 : 0 < i
      · have hi0 : (i : Int) > 0 := by omega
        rw [if_pos h0] at hF hlen
        have hlen : F.length = l.length + 3 + P.length + R.length := by rw [hlen]; simp; omega
        have KQ := hid (KQ.out (by omega))

        have kc := KC.out _ hb.out
        have g1 := True.intro
        have g3 := True.intro
        go_wp2_with (first
          | (at_builtin; have := g1; obtain ⟨v1, w1, hr1, o1, b1⟩ := Bo.more hO.out hb.out hb.out.size [32, 124, 32] (by show _ + 3 ≤ _; omega); refine wpList_app2 rfl _ _ 57 9 rfl _ _ rfl rfl _ _ hr1 ?_; have O1 := hid o1; have B2 := hid b1; have x1 := HX.out _ b1; have kc1 := KC.out _ b1; clear hr1 g1 o1 b1 x0 kc)
          | (go_at_call 70; refine (KQ.out _ B2.out).mono ?_; rintro e w4 ⟨rfl, b4⟩; have O4 := hid (Bo.stays O1.out b4); have B4 := hid (bl_tr B2.out b4); have x4 := HX.out _ (bl_tr B2.out b4); clear KQ b4)
          | (at_builtin; obtain ⟨v5, w5, hr5, o5, b5⟩ := Bo.more O4.out B4.out B4.out.size P (by (try simp only [List.length_append, List.length_cons, List.length_nil]); omega); refine wpList_app2 rfl _ _ 57 9 rfl _ _ rfl rfl _ _ hr5 ?_; have O5 := hid o5; have B5 := hid b5; have x5 := HX.out _ b5; clear hr5 o5 b5 O4 x4))
        go_roundw
        case rel => exact ⟨i + 1, (l ++ [32, 124, 32]) ++ P, by go_num, by omega, O5, hid (by rw [hF.out, HR.out]; simp [List.append_assoc]), B5⟩
        case measure => simp [intOf]; omega
      · have hi0 : ¬ (i : Int) > 0 := by omega
        rw [if_neg h0] at hF hlen
        have hlen : F.length = l.length + P.length + R.length := by rw [hlen]; simp; omega
        have KQ := hid (KQ.out (by omega))

        have kc := KC.out _ hb.out
        have g1 := True.intro
        have g3 := True.intro
        go_wp2_with (first
          | (go_at_call 70; refine (KQ.out _ hb.out).mono ?_; rintro e w4 ⟨rfl, b4⟩; have O4 := hid (Bo.stays hO.out b4); have B4 := hid (bl_tr hb.out b4); have x4 := HX.out _ (bl_tr hb.out b4); clear KQ b4)
          | (at_builtin; obtain ⟨v5, w5, hr5, o5, b5⟩ := Bo.more O4.out B4.out B4.out.size P (by (try simp only [List.length_append, List.length_cons, List.length_nil]); omega); refine wpList_app2 rfl _ _ 57 9 rfl _ _ rfl rfl _ _ hr5 ?_; have O5 := hid o5; have B5 := hid b5; have x5 := HX.out _ b5; clear hr5 o5 b5 O4 x4))
        go_roundw
        case rel => exact ⟨i + 1, l ++ P, by go_num, by omega, O5, hid (by rw [hF.out, HR.out]; simp [List.append_assoc]), B5⟩
        case measure => simp [intOf]; omega
    · have hi2 : ¬ (i : Int) < t.ks.length := by omega
      have HE : Hid (F = l) := by
        show _ = _
        rw [hF.out, List.drop_eq_nil_of_le (show t.ks.length ≤ i by omega), Tt.txtL]
        rw [Tt.sumT, List.append_nil]
      have hcv := hO.out.str
      have hc1 : ¬ 9223372036854775807 < 1 + l.length := by have := HLN.out; rw [HE.out] at this; omega
      have hc2 : ¬ 9223372036854775807 < 1 + l.length + 1 := by have := HLN.out; rw [HE.out] at this; omega
      clear hF
      go_wp2
      go_ret
      exact ⟨ret_str (by rw [HE.out, ByteArray.mk_append_mk, ByteArray.mk_append_mk]; simp), bl_tr B1.out hb.out⟩

set_option maxHeartbeats 4000000 in
set_option maxRecDepth 100000 in
theorem list_rec (n : Nat) (ih : RPartOf n) (w : World) (a' : Option Addr) (c' : Nat) (a : Option Addr) (c : Nat) (t : Tt) (bv : Value) (B : List Int) (h : TAt w Any (n + 1) [.int .i64 t.k, .int .i64 t.n, .slice a' t.ls.length c', .slice a t.ks.length c] t) (hB : Ow w bv B) (hc : B.length + t.cnt ≤ 1099511627776) (hk : t.k = 7) (hll : t.ls.length = t.ks.length) (hl : ([123] ++ Tt.recT 0 t.ls (Tt.txtL t.ks (envOf B)) ++ [125]).length ≤ 140737488355328) :
    Calls Tryz.prog 71 #[.agg #[.int .i64 t.k, .int .i64 t.n, .slice a' t.ls.length c', .slice a t.ks.length c], bv] w fun e w' => e = .returned (.string ⟨([123] ++ Tt.recT 0 t.ls (Tt.txtL t.ks (envOf B)) ++ [125]).toArray⟩) ∧ Below w.heap.size w w' := by
  obtain ⟨_, _, hv, hk64, hn64, hSl, hL⟩ := h
  injection hv with _ hv; injection hv with _ hv; injection hv with e2 hv; injection hv with e3 _
  subst e2 e3
  have hlm : t.ks.length ≤ 9223372036854775807 := by obtain ⟨_, _, _, hm⟩ := TAtL.form hL; exact hm
  have XA : Hid (Arr (w.alloc (.cells #[.int .i64 t.k, .int .i64 t.n, .slice a' t.ls.length c', .slice a t.ks.length c] TY)) w.heap.size TY [.int .i64 t.k, .int .i64 t.n, .slice a' t.ls.length c', .slice a t.ks.length c]) := ⟨heap_alloc_at _ _⟩
  have B1 : Hid (Below w.heap.size w (w.alloc (.cells #[.int .i64 t.k, .int .i64 t.n, .slice a' t.ls.length c', .slice a t.ks.length c] TY))) := bl_alloc (Below.refl _ _) _
  have HX : Hid (∀ wz, Below (w.alloc (.cells #[.int .i64 t.k, .int .i64 t.n, .slice a' t.ls.length c', .slice a t.ks.length c] TY)).heap.size (w.alloc (.cells #[.int .i64 t.k, .int .i64 t.n, .slice a' t.ls.length c', .slice a t.ks.length c] TY)) wz → ∀ j, wz.cell? ⟨w.heap.size, j, none⟩ = [.int .i64 t.k, .int .i64 t.n, .slice a' t.ls.length c', .slice a t.ks.length c][j]?) := fun wz hz j => (XA.out.stays hz).cell j
  have HL : Hid (∀ wz, Below w.heap.size w wz → TAtL wz Any n (.slice a t.ks.length c) t.ks) := fun wz hz => TAtL.below hL hz
  have HSl : Hid (∀ wz, Below w.heap.size w wz → Sl wz Any (.slice a' t.ls.length c') t.ls) := fun wz hz => hSl.below hz
  have HO : Hid (∀ wz, Below w.heap.size w wz → Ow wz bv B) := fun wz hz => hB.below hz
  have HIH := hid ih
  have HC : Hid (B.length + Tt.cntL t.ks ≤ 1099511627776) := by have := Tt.cnt_ks t; show _ ≤ _; omega
  have HLN : Hid ((Tt.recT 0 t.ls (Tt.txtL t.ks (envOf B))).length + 2 ≤ 140737488355328) := by show _ ≤ _; simpa using hl
  generalize hF : Tt.recT 0 t.ls (Tt.txtL t.ks (envOf B)) = F at HLN ⊢
  have HF : Hid (F = [] ++ Tt.recT 0 (t.ls.drop 0) (Tt.txtL (t.ks.drop 0) (envOf B))) := by show _ = _; rw [← hF]; simp
  have HLL := hid hll
  have hlm2 : t.ls.length ≤ 9223372036854775807 := by omega
  have g7 : (t.k == 7) = true := by simp [hk]
  clear hL hSl hB ih hc hl hF hk hk64 hn64 hll
  go_enter Tryz.func71, Tryz.ntmps71
  go_wp2
  go_loopw [5, 6] (fun ov iv wr => ∃ (i : Nat) (l : List UInt8), iv = .int .i64 i ∧ i ≤ t.ks.length ∧ Hid (Bo (w.alloc (.cells #[.int .i64 t.k, .int .i64 t.n, .slice a' t.ls.length c', .slice a t.ks.length c] TY)).heap.size wr ov l) ∧ Hid (F = l ++ Tt.recT i (t.ls.drop i) (Tt.txtL (t.ks.drop i) (envOf B))) ∧ Hid (Below (w.alloc (.cells #[.int .i64 t.k, .int .i64 t.n, .slice a' t.ls.length c', .slice a t.ks.length c] TY)).heap.size (w.alloc (.cells #[.int .i64 t.k, .int .i64 t.n, .slice a' t.ls.length c', .slice a t.ks.length c] TY)) wr)) (fun _ v _ => t.ks.length - (intOf v).toNat)
  case atStart => exact ⟨0, [], rfl, Nat.zero_le _, hid (World.ownsRow_nil _ _ _ _), HF, hid (Below.refl _ _)⟩
  case round =>
    obtain ⟨i, l, rfl, hil, hO, hF, hb⟩ := hrel
    have x0 := HX.out _ hb.out
    by_cases hlt : i < t.ks.length
    · obtain ⟨x, hx⟩ : ∃ x, t.ks[i]? = some x := ⟨_, List.getElem?_eq_getElem hlt⟩
      have hlt2 : (i : Int) < t.ks.length := by omega
      have hcx : x.cnt ≤ Tt.cntL t.ks := Tt.cnt_at hx
      obtain ⟨lab, hlab⟩ : ∃ x, t.ls[i]? = some x := ⟨_, List.getElem?_eq_getElem (by rw [HLL.out]; exact hlt)⟩
      have hltl : (i : Int) < t.ls.length := by rw [HLL.out]; exact hlt2
      obtain ⟨d, rfl⟩ : ∃ d : List UInt8, lab = ⟨d.toArray⟩ := ⟨lab.data.toList, by cases lab; simp⟩
      have hst : Tt.recT i (t.ls.drop i) (Tt.txtL (t.ks.drop i) (envOf B)) = (if 0 < i then [44, 32] else []) ++ d ++ [58, 32] ++ Tt.clo x.k (x.txt (envOf B)) ++ Tt.recT (i + 1) (t.ls.drop (i + 1)) (Tt.txtL (t.ks.drop (i + 1)) (envOf B)) := by
        rw [drop_str hlab, Tt.txtL_drop _ hx, Tt.recT]
      obtain ⟨lb, lo, rfl, -, hlc, zl⟩ := ls_at (HSl.out _ B1.out) hlab
      have ZL : Hid (∀ wz, Below (w.alloc (.cells #[.int .i64 t.k, .int .i64 t.n, .slice (some ⟨lb, lo, none⟩) t.ls.length c', .slice a t.ks.length c] TY)).heap.size (w.alloc (.cells #[.int .i64 t.k, .int .i64 t.n, .slice (some ⟨lb, lo, none⟩) t.ls.length c', .slice a t.ks.length c] TY)) wz → wz.cell? ⟨lb, lo + i, none⟩ = some (.string ⟨d.toArray⟩)) := fun wz hz => cell_on hz zl
      have zl0 := ZL.out _ hb.out
      rw [hst] at hF
      have hlen := congrArg List.length hF.out
      have HN := HLN.out
      generalize hR : Tt.recT (i + 1) (t.ls.drop (i + 1)) (Tt.txtL (t.ks.drop (i + 1)) (envOf B)) = R at hF hlen
      have HR := hid hR
      obtain ⟨kb, ko, k1, k2, k3, k4, rfl, hcap, q0, q1, q2, q3, hT⟩ := (HL.out _ B1.out).load hx
      have KC : Hid (∀ wz, Below (w.alloc (.cells #[.int .i64 t.k, .int .i64 t.n, .slice (some ⟨lb, lo, none⟩) t.ls.length c', .slice (some ⟨kb, ko, none⟩) t.ks.length c] TY)).heap.size (w.alloc (.cells #[.int .i64 t.k, .int .i64 t.n, .slice (some ⟨lb, lo, none⟩) t.ls.length c', .slice (some ⟨kb, ko, none⟩) t.ks.length c] TY)) wz → wz.cell? ⟨kb, ko + i * 4, none⟩ = some (.int .i64 x.k) ∧ wz.cell? ⟨kb, ko + i * 4 + 1, none⟩ = some (.int .i64 x.n) ∧ wz.cell? ⟨kb, ko + i * 4 + 2, none⟩ = some (.slice k1 x.ls.length k2) ∧ wz.cell? ⟨kb, ko + i * 4 + 3, none⟩ = some (.slice k3 x.ks.length k4)) := fun wz hz => ⟨cell_on hz q0, cell_on hz q1, cell_on hz q2, cell_on hz q3⟩
      have KQ : Hid ((Tt.clo x.k (x.txt (envOf B))).length ≤ 140737488355328 → ∀ wz, Below (w.alloc (.cells #[.int .i64 t.k, .int .i64 t.n, .slice (some ⟨lb, lo, none⟩) t.ls.length c', .slice (some ⟨kb, ko, none⟩) t.ks.length c] TY)).heap.size (w.alloc (.cells #[.int .i64 t.k, .int .i64 t.n, .slice (some ⟨lb, lo, none⟩) t.ls.length c', .slice (some ⟨kb, ko, none⟩) t.ks.length c] TY)) wz → Calls Tryz.prog 70 #[.agg #[.int .i64 x.k, .int .i64 x.n, .slice k1 x.ls.length k2, .slice k3 x.ks.length k4], bv] wz fun e w' => e = .returned (.string ⟨(Tt.clo x.k (x.txt (envOf B))).toArray⟩) ∧ Below wz.heap.size wz w') := fun hle wz hz => HIH.out wz k1 k2 k3 k4 x bv B (hT.below hz) (HO.out _ (bl_tr B1.out hz)) (by have := HC.out; omega) hle
      generalize Tt.clo x.k (x.txt (envOf B)) = P at hF hlen KQ
      clear hT q0 q1 q2 q3 hR hst hx hcx zl hlab
      by_cases h0 : 0 < i
      · have hi0 : (i : Int) > 0 := by omega
        rw [if_pos h0] at hF hlen
        have hlen : F.length = l.length + 2 + d.length + 2 + P.length + R.length := by rw [hlen]; simp; omega
        have KQ := hid (KQ.out (by omega))
        have hcl : ¬ 9223372036854775807 < d.length + 2 := by omega
        have kc := KC.out _ hb.out
        have g1 := True.intro
        have g3 := True.intro
        go_wp2_with (first
          | (at_builtin; have := g1; obtain ⟨v1, w1, hr1, o1, b1⟩ := Bo.more hO.out hb.out hb.out.size [44, 32] (by show _ + 2 ≤ _; omega); refine wpList_app2 rfl _ _ 57 9 rfl _ _ rfl rfl _ _ hr1 ?_; have O1 := hid o1; have B2 := hid b1; have x1 := HX.out _ b1; have zl1 := ZL.out _ b1; have kc1 := KC.out _ b1; clear hr1 g1 o1 b1 x0 kc zl0)
          | (at_builtin; have g2 := O1; obtain ⟨v2, w2, hr2, o2, b2⟩ := Bo.more O1.out B2.out B2.out.size (d ++ [58, 32]) (by simp only [List.length_append, List.length_cons, List.length_nil]; omega); rw [← ByteArray.mk_append_mk] at hr2; refine wpList_app2 rfl _ _ 57 9 rfl _ _ rfl rfl _ _ hr2 ?_; have O2 := hid o2; have B3 := hid b2; have x2 := HX.out _ b2; have kc2 := KC.out _ b2; clear hr2 g2 o2 b2 x1 zl1 kc1 O1)
          | (go_at_call 70; refine (KQ.out _ B3.out).mono ?_; rintro e w4 ⟨rfl, b4⟩; have O4 := hid (Bo.stays O2.out b4); have B4 := hid (bl_tr B3.out b4); have x4 := HX.out _ (bl_tr B3.out b4); clear KQ b4)
          | (at_builtin; obtain ⟨v5, w5, hr5, o5, b5⟩ := Bo.more O4.out B4.out B4.out.size P (by (try simp only [List.length_append, List.length_cons, List.length_nil]); omega); refine wpList_app2 rfl _ _ 57 9 rfl _ _ rfl rfl _ _ hr5 ?_; have O5 := hid o5; have B5 := hid b5; have x5 := HX.out _ b5; clear hr5 o5 b5 O4 x4))
        go_roundw
        case rel => exact ⟨i + 1, ((l ++ [44, 32]) ++ (d ++ [58, 32])) ++ P, by go_num, by omega, O5, hid (by rw [hF.out, HR.out]; simp [List.append_assoc]), B5⟩
        case measure => simp [intOf]; omega
      · have hi0 : ¬ (i : Int) > 0 := by omega
        rw [if_neg h0] at hF hlen
        have hlen : F.length = l.length + d.length + 2 + P.length + R.length := by rw [hlen]; simp; omega
        have KQ := hid (KQ.out (by omega))
        have hcl : ¬ 9223372036854775807 < d.length + 2 := by omega
        have kc := KC.out _ hb.out
        have g1 := True.intro
        have g3 := True.intro
        go_wp2_with (first
          | (at_builtin; have g2 := hO; obtain ⟨v2, w2, hr2, o2, b2⟩ := Bo.more hO.out hb.out hb.out.size (d ++ [58, 32]) (by simp only [List.length_append, List.length_cons, List.length_nil]; omega); rw [← ByteArray.mk_append_mk] at hr2; refine wpList_app2 rfl _ _ 57 9 rfl _ _ rfl rfl _ _ hr2 ?_; have O2 := hid o2; have B3 := hid b2; have x2 := HX.out _ b2; have kc2 := KC.out _ b2; clear hr2 g2 o2 b2 x0 zl0 kc hO)
          | (go_at_call 70; refine (KQ.out _ B3.out).mono ?_; rintro e w4 ⟨rfl, b4⟩; have O4 := hid (Bo.stays O2.out b4); have B4 := hid (bl_tr B3.out b4); have x4 := HX.out _ (bl_tr B3.out b4); clear KQ b4)
          | (at_builtin; obtain ⟨v5, w5, hr5, o5, b5⟩ := Bo.more O4.out B4.out B4.out.size P (by (try simp only [List.length_append, List.length_cons, List.length_nil]); omega); refine wpList_app2 rfl _ _ 57 9 rfl _ _ rfl rfl _ _ hr5 ?_; have O5 := hid o5; have B5 := hid b5; have x5 := HX.out _ b5; clear hr5 o5 b5 O4 x4))
        go_roundw
        case rel => exact ⟨i + 1, (l ++ (d ++ [58, 32])) ++ P, by go_num, by omega, O5, hid (by rw [hF.out, HR.out]; simp [List.append_assoc]), B5⟩
        case measure => simp [intOf]; omega
    · have hi2 : ¬ (i : Int) < t.ks.length := by omega
      have HE : Hid (F = l) := by
        show _ = _
        rw [hF.out, List.drop_eq_nil_of_le (show t.ks.length ≤ i by omega), Tt.txtL]
        rw [List.drop_eq_nil_of_le (show t.ls.length ≤ i by rw [HLL.out]; omega), Tt.recT, List.append_nil]; simp
      have hcv := hO.out.str
      have hc1 : ¬ 9223372036854775807 < 1 + l.length := by have := HLN.out; rw [HE.out] at this; omega
      have hc2 : ¬ 9223372036854775807 < 1 + l.length + 1 := by have := HLN.out; rw [HE.out] at this; omega
      clear hF
      go_wp2
      go_ret
      exact ⟨ret_str (by rw [HE.out, ByteArray.mk_append_mk, ByteArray.mk_append_mk]; simp), bl_tr B1.out hb.out⟩
end Go.Proofs.YtfeppchgmobfpaaGreatDoor
