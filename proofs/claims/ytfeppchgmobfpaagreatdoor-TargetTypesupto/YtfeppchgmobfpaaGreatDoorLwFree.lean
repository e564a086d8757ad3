/- TargetFree's walk. -/
import Derived.Test.YtfeppchgmobfpaaGreatDoorTgY2
import Derived.Test.YtfeppchgmobfpaaGreatDoorTgR2
import Derived.Test.YtfeppchgmobfpaaGreatDoorTgFr
namespace Go.Proofs.YtfeppchgmobfpaaGreatDoor
open Go.RowKit
set_option linter.unusedVariables false
set_option linter.unusedSimpArgs false

theorem Ls.at_ {w : World} {K : Nat → Prop} {a : Option Addr} {m c : Nat} {l : List Int} (h : Ls w K (.slice a m c) l) {i : Nat} {x : Int} (hx : l[i]? = some x) : ∃ b o, a = some ⟨b, o, none⟩ ∧ m ≤ c ∧ w.cell? ⟨b, o + i, none⟩ = some (.int .i64 x) := by
  rcases h with ⟨b, o, c', hv, hb, hl, hm, hc⟩ | ⟨rfl, -⟩
  · injection hv with e1 e2 e3
    subst e2 e3
    exact ⟨b, o, e1, hl, hc i x hx⟩
  · simp at hx
theorem Ls.frm {w : World} {K : Nat → Prop} {v : Value} {l : List Int} (h : Ls w K v l) : ∃ a c, v = .slice a l.length c ∧ l.length ≤ maxLen := by
  rcases h with ⟨b, o, c, rfl, -, -, hm, -⟩ | ⟨rfl, p, c, rfl⟩
  · exact ⟨_, _, rfl, hm⟩
  · exact ⟨_, _, rfl, Nat.zero_le _⟩
theorem Ls.any {w w' : World} {K : Nat → Prop} {v : Value} {l : List Int} (h : Ls w K v l) (hb : Below w.heap.size w w') : Ls w' Any v l := by
  rcases h with ⟨b, o, c, h1, -, h2, h3, h4⟩ | h
  · exact .inl ⟨b, o, c, h1, trivial, h2, h3, fun j x hx => (hb.cell (World.block_lt_of_cell? w _ (h4 j x hx))).trans (h4 j x hx)⟩
  · exact .inr h

set_option maxHeartbeats 1000000 in
set_option maxRecDepth 100000 in
theorem ints_any (w : World) (v v' : Value) (l : List Int) (h : Ls w Any v l) (h' : Ls w Any v' l) : Calls Tryz.prog 9 #[v, v'] w fun e w' => e = .returned (.bool true) ∧ Below w.heap.size w w' := by
  obtain ⟨a, c, rfl, hm⟩ := h.frm
  obtain ⟨a', c', rfl, -⟩ := h'.frm
  have hm : l.length ≤ 9223372036854775807 := hm
  have HL := hid h
  have HL' := hid h'
  clear h h'
  have hne : ((l.length : Int) != (l.length : Int)) = false := by simp
  go_enter Tryz.func9, Tryz.ntmps9
  go_wp2
  go_loopw [5] (fun v wr => ∃ i : Nat, v = .int .i64 i ∧ i ≤ l.length ∧ Hid (Below w.heap.size w wr)) (fun v _ => l.length - (intOf v).toNat)
  case atStart => exact ⟨0, rfl, Nat.zero_le _, hid (Below.refl _ _)⟩
  case round =>
    obtain ⟨i, rfl, hil, hb⟩ := hrel
    by_cases hlt : i < l.length
    · obtain ⟨x, hx⟩ : ∃ x, l[i]? = some x := ⟨_, List.getElem?_eq_getElem hlt⟩
      obtain ⟨p, o, rfl, hc1, z1⟩ := (HL.out.any hb.out).at_ hx
      obtain ⟨p', o', rfl, hc2, z2⟩ := (HL'.out.any hb.out).at_ hx
      have hlt2 : (i : Int) < l.length := by omega
      have gx : (x != x) = false := by simp
      clear hx
      go_wp2_with fail
      go_quiet (fail)
      go_wp2
      go_roundw
      case rel => exact ⟨i + 1, by go_num, by omega, hid (bl_dN hb.out _)⟩
      case measure => simp [intOf]; omega
    · have hi2 : ¬ (i : Int) < l.length := by omega
      go_wp2
      go_ret
      exact ⟨rfl, hb.out⟩
/-- A value that is the type t. -/
structure Tv (w : World) (xs : List Value) (t : Tt) : Prop where
  ex : ∃ k, TAt w Any k xs t
theorem Tv.stays {w w' : World} {xs : List Value} {t : Tt} (h : Tv w xs t) (hb : Below w.heap.size w w') : Tv w' xs t := by
  obtain ⟨k, h⟩ := h.ex
  exact ⟨k, h.below hb⟩
/-- What Put's answer is, as far as its free numbers go. -/
def PutIs (t u : Tt) (n : Int) (P : Tt) : Prop := P.deepest ≤ 2097152 ∧ P.cnt ≤ 68719476736 ∧ ((t.fv [] n = false ∧ P = t) ∨ (t.fv [] n = true ∧ ∀ x, P.fv [] x = true ↔ (t.fv [] x = true ∧ x ≠ n) ∨ u.fv [] x = true))
theorem PutIs.sub {t u : Tt} {n : Int} {P : Tt} (h : PutIs t u n P) (x : Int) (hx : P.fv [] x = true) : x ∈ t.nums ++ u.nums := by
  rw [List.mem_append]
  rcases h.2.2 with ⟨-, rfl⟩ | ⟨-, h⟩
  · exact .inl (Tt.fv_nums x _ [] hx)
  · rcases (h x).1 hx with ⟨h1, -⟩ | h1
    · exact .inl (Tt.fv_nums x _ [] h1)
    · exact .inr (Tt.fv_nums x _ [] h1)
theorem Tt.errno_right {t : Tt} (h : t.errno = 0) : t.right = true := by
  unfold Tt.errno at h
  split at h
  · cases h
  · split at h
    · rename_i hr; exact hr
    · cases h

set_option maxHeartbeats 8000000 in
set_option maxRecDepth 100000 in
theorem free_walk (w : World) (hW : Tab w) (k0 k1 : Nat) (us0 us1 : List Value) (t u : Tt) (h0 : TAt w Any k0 us0 t) (h1 : TAt w Any k1 us1 u) (n : Int) (hn : R64 n) (hc : 3 * (t.cnt + u.cnt) ≤ 1048576) : Calls Tryz.prog 5 #[.agg us0.toArray, .int .i64 n, .agg us1.toArray] w fun e w' => e = .returned (.bool true) ∧ Below w.heap.size w w' := by
  obtain ⟨ta, tb, tc, td, rfl⟩ := h0.form
  obtain ⟨ba, bb, bc, bd, rfl⟩ := h1.form
  have BW : Hid (Below w.heap.size w ((w.alloc (.cells #[.int .i64 t.k, .int .i64 t.n, .slice ta t.ls.length tb, .slice tc t.ks.length td] TY)).alloc (.cells #[.int .i64 u.k, .int .i64 u.n, .slice ba u.ls.length bb, .slice bc u.ks.length bd] TY))) := bl_alloc (bl_alloc (Below.refl _ _) _) _
  have X0 : Arr ((w.alloc (.cells #[.int .i64 t.k, .int .i64 t.n, .slice ta t.ls.length tb, .slice tc t.ks.length td] TY)).alloc (.cells #[.int .i64 u.k, .int .i64 u.n, .slice ba u.ls.length bb, .slice bc u.ks.length bd] TY)) w.heap.size TY [.int .i64 t.k, .int .i64 t.n, .slice ta t.ls.length tb, .slice tc t.ks.length td] := Arr.stays ⟨heap_alloc_at _ _⟩ (bl_alloc (Below.refl _ _) _)
  have X1 : Arr ((w.alloc (.cells #[.int .i64 t.k, .int .i64 t.n, .slice ta t.ls.length tb, .slice tc t.ks.length td] TY)).alloc (.cells #[.int .i64 u.k, .int .i64 u.n, .slice ba u.ls.length bb, .slice bc u.ks.length bd] TY)) (w.heap.size + 1) TY [.int .i64 u.k, .int .i64 u.n, .slice ba u.ls.length bb, .slice bc u.ks.length bd] := ⟨by have := heap_alloc_at (w.alloc (.cells #[.int .i64 t.k, .int .i64 t.n, .slice ta t.ls.length tb, .slice tc t.ks.length td] TY)) (.cells #[.int .i64 u.k, .int .i64 u.n, .slice ba u.ls.length bb, .slice bc u.ks.length bd] TY); rw [size_alloc] at this; exact this⟩
  have C0 : Hid (∀ wz, Below ((w.alloc (.cells #[.int .i64 t.k, .int .i64 t.n, .slice ta t.ls.length tb, .slice tc t.ks.length td] TY)).alloc (.cells #[.int .i64 u.k, .int .i64 u.n, .slice ba u.ls.length bb, .slice bc u.ks.length bd] TY)).heap.size ((w.alloc (.cells #[.int .i64 t.k, .int .i64 t.n, .slice ta t.ls.length tb, .slice tc t.ks.length td] TY)).alloc (.cells #[.int .i64 u.k, .int .i64 u.n, .slice ba u.ls.length bb, .slice bc u.ks.length bd] TY)) wz → ∀ j, wz.cell? ⟨w.heap.size, j, none⟩ = [.int .i64 t.k, .int .i64 t.n, .slice ta t.ls.length tb, .slice tc t.ks.length td][j]?) := fun wz hz j => (X0.stays hz).cell j
  have C1 : Hid (∀ wz, Below ((w.alloc (.cells #[.int .i64 t.k, .int .i64 t.n, .slice ta t.ls.length tb, .slice tc t.ks.length td] TY)).alloc (.cells #[.int .i64 u.k, .int .i64 u.n, .slice ba u.ls.length bb, .slice bc u.ks.length bd] TY)).heap.size ((w.alloc (.cells #[.int .i64 t.k, .int .i64 t.n, .slice ta t.ls.length tb, .slice tc t.ks.length td] TY)).alloc (.cells #[.int .i64 u.k, .int .i64 u.n, .slice ba u.ls.length bb, .slice bc u.ks.length bd] TY)) wz → ∀ j, wz.cell? ⟨w.heap.size + 1, j, none⟩ = [.int .i64 u.k, .int .i64 u.n, .slice ba u.ls.length bb, .slice bc u.ks.length bd][j]?) := fun wz hz j => (X1.stays hz).cell j
  have AQ : Hid (∀ wz, Below ((w.alloc (.cells #[.int .i64 t.k, .int .i64 t.n, .slice ta t.ls.length tb, .slice tc t.ks.length td] TY)).alloc (.cells #[.int .i64 u.k, .int .i64 u.n, .slice ba u.ls.length bb, .slice bc u.ks.length bd] TY)).heap.size ((w.alloc (.cells #[.int .i64 t.k, .int .i64 t.n, .slice ta t.ls.length tb, .slice tc t.ks.length td] TY)).alloc (.cells #[.int .i64 u.k, .int .i64 u.n, .slice ba u.ls.length bb, .slice bc u.ks.length bd] TY)) wz → Calls Tryz.prog 16 #[] wz fun e w' => e = .returned (.bool true) ∧ Below wz.heap.size wz w') := fun wz hz => alive_any wz (hW.stays (bl_tr BW.out hz))
  have RQ : Hid (∀ wz, Below ((w.alloc (.cells #[.int .i64 t.k, .int .i64 t.n, .slice ta t.ls.length tb, .slice tc t.ks.length td] TY)).alloc (.cells #[.int .i64 u.k, .int .i64 u.n, .slice ba u.ls.length bb, .slice bc u.ks.length bd] TY)).heap.size ((w.alloc (.cells #[.int .i64 t.k, .int .i64 t.n, .slice ta t.ls.length tb, .slice tc t.ks.length td] TY)).alloc (.cells #[.int .i64 u.k, .int .i64 u.n, .slice ba u.ls.length bb, .slice bc u.ks.length bd] TY)) wz → Calls Tryz.prog 8 #[.agg #[.int .i64 t.k, .int .i64 t.n, .slice ta t.ls.length tb, .slice tc t.ks.length td]] wz fun e w' => e = .returned (.int .i64 t.errno) ∧ Below wz.heap.size wz w') := fun wz hz => RRightType_any wz k0 _ t (h0.below (bl_tr BW.out hz))
  have FT : Hid (∀ wz, Below ((w.alloc (.cells #[.int .i64 t.k, .int .i64 t.n, .slice ta t.ls.length tb, .slice tc t.ks.length td] TY)).alloc (.cells #[.int .i64 u.k, .int .i64 u.n, .slice ba u.ls.length bb, .slice bc u.ks.length bd] TY)).heap.size ((w.alloc (.cells #[.int .i64 t.k, .int .i64 t.n, .slice ta t.ls.length tb, .slice tc t.ks.length td] TY)).alloc (.cells #[.int .i64 u.k, .int .i64 u.n, .slice ba u.ls.length bb, .slice bc u.ks.length bd] TY)) wz → Calls Tryz.prog 10 #[.agg #[.int .i64 t.k, .int .i64 t.n, .slice ta t.ls.length tb, .slice tc t.ks.length td]] wz fun e w' => ∃ a c l, e = .returned (.slice a l.length c) ∧ Ls w' Any (.slice a l.length c) l ∧ Tt.IsFree (t.fv []) l ∧ l.length ≤ 1048576 ∧ Below wz.heap.size wz w') := fun wz hz => by
    refine (FreeTypes_any wz k0 _ t (h0.below (bl_tr BW.out hz)) (by omega)).mono ?_
    rintro e w' ⟨v, l, rfl, g1, g2, g3⟩
    obtain ⟨a, c, rfl, -⟩ := g1.frm
    have hlen := nodup_len l t.nums (g2.1.imp (fun h => by omega)) (fun x hx => Tt.fv_nums x t [] ((g2.2 x).1 hx))
    rw [Tt.nums_len] at hlen
    exact ⟨a, c, l, rfl, g1.any (Below.refl _ _), g2, by omega, g3⟩
  have FU : Hid (∀ wz, Below ((w.alloc (.cells #[.int .i64 t.k, .int .i64 t.n, .slice ta t.ls.length tb, .slice tc t.ks.length td] TY)).alloc (.cells #[.int .i64 u.k, .int .i64 u.n, .slice ba u.ls.length bb, .slice bc u.ks.length bd] TY)).heap.size ((w.alloc (.cells #[.int .i64 t.k, .int .i64 t.n, .slice ta t.ls.length tb, .slice tc t.ks.length td] TY)).alloc (.cells #[.int .i64 u.k, .int .i64 u.n, .slice ba u.ls.length bb, .slice bc u.ks.length bd] TY)) wz → Calls Tryz.prog 10 #[.agg #[.int .i64 u.k, .int .i64 u.n, .slice ba u.ls.length bb, .slice bc u.ks.length bd]] wz fun e w' => ∃ a c l, e = .returned (.slice a l.length c) ∧ Ls w' Any (.slice a l.length c) l ∧ Tt.IsFree (u.fv []) l ∧ l.length ≤ 1048576 ∧ Below wz.heap.size wz w') := fun wz hz => by
    refine (FreeTypes_any wz k1 _ u (h1.below (bl_tr BW.out hz)) (by omega)).mono ?_
    rintro e w' ⟨v, l, rfl, g1, g2, g3⟩
    obtain ⟨a, c, rfl, -⟩ := g1.frm
    have hlen := nodup_len l u.nums (g2.1.imp (fun h => by omega)) (fun x hx => Tt.fv_nums x u [] ((g2.2 x).1 hx))
    rw [Tt.nums_len] at hlen
    exact ⟨a, c, l, rfl, g1.any (Below.refl _ _), g2, by omega, g3⟩
  have hdt := Tt.deepest_le t
  have hdu := Tt.deepest_le u
  have hmul : t.cnt * u.cnt ≤ 68719476736 := by
    have h1 : t.cnt ≤ 349525 := by omega
    have h2 : u.cnt ≤ 174763 ∨ t.cnt ≤ 174763 := by omega
    rcases h2 with h2 | h2
    · exact Nat.le_trans (Nat.mul_le_mul h1 h2) (by decide)
    · exact Nat.le_trans (Nat.mul_le_mul h2 (show u.cnt ≤ 349525 by omega)) (by decide)
  have PQ : Hid (t.right = true → ∀ wz, Below ((w.alloc (.cells #[.int .i64 t.k, .int .i64 t.n, .slice ta t.ls.length tb, .slice tc t.ks.length td] TY)).alloc (.cells #[.int .i64 u.k, .int .i64 u.n, .slice ba u.ls.length bb, .slice bc u.ks.length bd] TY)).heap.size ((w.alloc (.cells #[.int .i64 t.k, .int .i64 t.n, .slice ta t.ls.length tb, .slice tc t.ks.length td] TY)).alloc (.cells #[.int .i64 u.k, .int .i64 u.n, .slice ba u.ls.length bb, .slice bc u.ks.length bd] TY)) wz → Calls Tryz.prog 21 #[.agg #[.int .i64 t.k, .int .i64 t.n, .slice ta t.ls.length tb, .slice tc t.ks.length td], .int .i64 n, .agg #[.int .i64 u.k, .int .i64 u.n, .slice ba u.ls.length bb, .slice bc u.ks.length bd]] wz fun e w' => ∃ xs P, e = .returned (.agg xs.toArray) ∧ Tv w' xs P ∧ PutIs t u n P ∧ Below wz.heap.size wz w') := fun hr wz hz => by
    refine (Put_big wz k0 k1 _ _ t u n hn (h0.below (bl_tr BW.out hz)) (h1.below (bl_tr BW.out hz)) (by omega) (by omega) (by omega)).mono ?_
    rintro e w' ⟨xs, k', l, rfl, g1, g2, g3⟩
    refine ⟨xs, _, rfl, ⟨k', g1⟩, ?_, g2⟩
    cases hf : t.fv [] n with
    | false =>
      have hp : t.Put n u l = t := by unfold Tt.Put; rw [hf]; rfl
      rw [hp]
      exact ⟨by omega, by omega, .inl ⟨hf, rfl⟩⟩
    | true =>
      have hp : t.Put n u l = (Tt.put n u (u.fv []) l t [] 0).1 := by unfold Tt.Put; rw [hf]; rfl
      have hb := Tt.put_cnt n u (u.fv []) l t [] 0
      rw [← hp] at hb
      exact ⟨by omega, by omega, .inr ⟨hf, fun x => Tt.Put_free hr hf (g3 hf).2 x⟩⟩
  have NQ : Hid (∀ wz xs P, Tv wz xs P → PutIs t u n P → Calls Tryz.prog 10 #[.agg xs.toArray] wz fun e w' => ∃ a c l, e = .returned (.slice a l.length c) ∧ Ls w' Any (.slice a l.length c) l ∧ Tt.IsFree (P.fv []) l ∧ Below wz.heap.size wz w') := fun wz xs P hT hP => by
    obtain ⟨k', hT⟩ := hT.ex
    refine (FreeTypes_big wz k' _ P hT hP.1 hP.2.1 (t.nums ++ u.nums) (fun x hx => hP.sub x hx) (by rw [List.length_append, Tt.nums_len, Tt.nums_len]; omega)).mono ?_
    rintro e w' ⟨v, l, rfl, g1, g2, g3⟩
    obtain ⟨a, c, rfl, -⟩ := g1.frm
    exact ⟨a, c, l, rfl, g1.any (Below.refl _ _), g2, g3⟩
  have SQ : Hid (∀ wz xs, Below ((w.alloc (.cells #[.int .i64 t.k, .int .i64 t.n, .slice ta t.ls.length tb, .slice tc t.ks.length td] TY)).alloc (.cells #[.int .i64 u.k, .int .i64 u.n, .slice ba u.ls.length bb, .slice bc u.ks.length bd] TY)).heap.size ((w.alloc (.cells #[.int .i64 t.k, .int .i64 t.n, .slice ta t.ls.length tb, .slice tc t.ks.length td] TY)).alloc (.cells #[.int .i64 u.k, .int .i64 u.n, .slice ba u.ls.length bb, .slice bc u.ks.length bd] TY)) wz → Tv wz xs t → Calls Tryz.prog 18 #[.agg xs.toArray, .agg #[.int .i64 t.k, .int .i64 t.n, .slice ta t.ls.length tb, .slice tc t.ks.length td]] wz fun e w' => e = .returned (.bool true) ∧ Below wz.heap.size wz w') := fun wz xs hz hx => by
    obtain ⟨k', hx⟩ := hx.ex
    have := SameType_any wz k' k0 _ _ t t hx (h0.below (bl_tr BW.out hz)) (by omega)
    rw [Tt.same_refl] at this
    exact this
  have x0 := X0.cell
  have x1 := X1.cell
  clear h0 h1 hn hc hdt hdu hmul X0 X1 hW
  have HE := @Tt.errno_right t
  generalize t.errno = er at RQ HE
  go_enter Tryz.func5, Tryz.ntmps5
  go_wp2_with fail
  have B0 : Hid (Below ((w.alloc (.cells #[.int .i64 t.k, .int .i64 t.n, .slice ta t.ls.length tb, .slice tc t.ks.length td] TY)).alloc (.cells #[.int .i64 u.k, .int .i64 u.n, .slice ba u.ls.length bb, .slice bc u.ks.length bd] TY)).heap.size ((w.alloc (.cells #[.int .i64 t.k, .int .i64 t.n, .slice ta t.ls.length tb, .slice tc t.ks.length td] TY)).alloc (.cells #[.int .i64 u.k, .int .i64 u.n, .slice ba u.ls.length bb, .slice bc u.ks.length bd] TY)) ((w.alloc (.cells #[.int .i64 t.k, .int .i64 t.n, .slice ta t.ls.length tb, .slice tc t.ks.length td] TY)).alloc (.cells #[.int .i64 u.k, .int .i64 u.n, .slice ba u.ls.length bb, .slice bc u.ks.length bd] TY))) := hid (Below.refl _ _)
  by_cases he : er = 0
  · have ge : (er != 0) = false := by simp [he]
    have hr := HE he
    clear HE he
    have m0 := True.intro
    go_wp2_with (first
      | (go_at_call 8; refine (RQ.out _ B0.out).mono ?_; rintro e w1 ⟨rfl, b1⟩; have y0 := C0.out _ b1; clear RQ)
      | (go_at_call 10; have := m0; refine (FT.out _ b1).mono ?_; rintro e w2 ⟨wa, wc, lw, rfl, hLw, hFw, hlw, b2⟩; have b2 := bl_tr b1 b2; have y0 := C0.out _ b2; have y1 := C1.out _ b2; clear m0)
      | (go_at_call 21; refine (PQ.out hr _ b2).mono ?_; rintro e w3 ⟨xs, P, rfl, hTv, hPI, b3⟩; have b3' := bl_tr b2 b3; clear y0 y1)
      | (go_at_call 10; refine (NQ.out _ _ _ hTv hPI).mono ?_; rintro e w4 ⟨na, nc, ln, rfl, hLn, hFn, b4⟩; have b4' := bl_tr b3' b4; clear NQ))
    have HPI := hid hPI
    have HFw := hid hFw
    have HFn := hid hFn
    have HLW : Hid (∀ wz, Below w4.heap.size w4 wz → Ls wz Any (.slice wa lw.length wc) lw) := fun wz hz => hLw.any (bl_tr (bl_tr b3 b4) hz)
    have HLN : Hid (∀ wz, Below w4.heap.size w4 wz → Ls wz Any (.slice na ln.length nc) ln) := fun wz hz => hLn.any hz
    have B4 := hid b4'
    have hlw2 : lw.length ≤ 9223372036854775807 := by omega
    have HLL := hid hlw
    clear hPI hFw hFn hLw hLn b1 b2 b3 b4 b3' b4' hlw
    go_loopw [9, 10, 11] (fun hv wv iv wr => ∃ (i : Nat) (had : Bool) (L : List Int), iv = .int .i64 i ∧ hv = .bool had ∧ i ≤ lw.length ∧ Hid (had = true ↔ n ∈ lw.take i) ∧ Hid (Ow wr wv L) ∧ Hid (L.Pairwise (· < ·) ∧ (∀ x, x ∈ L ↔ x ∈ lw.take i ∧ x ≠ n) ∧ L.length ≤ i) ∧ Hid (Below w4.heap.size w4 wr)) (fun _ _ v _ => lw.length - (intOf v).toNat)
    case atStart => exact ⟨0, false, [], rfl, rfl, Nat.zero_le _, hid (by simp), hid (Ow.nil _), hid ⟨List.Pairwise.nil, by simp, by simp⟩, hid (Below.refl _ _)⟩
    case round =>
      obtain ⟨i, had, L, rfl, rfl, hil, hH, hO, hL, hB⟩ := hrel
      by_cases hlt : i < lw.length
      · obtain ⟨x, hx⟩ : ∃ x, lw[i]? = some x := ⟨_, List.getElem?_eq_getElem hlt⟩
        obtain ⟨p, o, rfl, hcap, z⟩ := (HLW.out _ hB.out).at_ hx
        have hlt2 : (i : Int) < lw.length := by omega
        have htk : lw.take (i + 1) = lw.take i ++ [x] := by rw [List.take_add_one, hx]; rfl
        have HTK := hid htk
        clear hx htk
        by_cases hxn : x = n
        · have gx : (x == n) = true := by simp [hxn]
          have HXN := hid hxn
          clear hxn
          go_wp2
          go_roundw
          case rel => exact ⟨i + 1, true, L, by go_num, rfl, by omega, hid (by rw [HTK.out, HXN.out]; simp), hO, hid ⟨hL.out.1, fun y => by rw [hL.out.2.1 y, HTK.out, HXN.out]; simp; intro hyn; simp [hyn], by have := hL.out.2.2; omega⟩, hB⟩
          case measure => simp [intOf]; omega
        · have gx : (x == n) = false := by simp [hxn]
          have HXN := hid hxn
          have Q := hid (put1_any wr _ L x hO.out (by have := hL.out.2.2; have := HLL.out; omega))
          obtain ⟨p1, p2, p3⟩ := put1_ok L x hL.out.1
          have HP := hid (And.intro p1 (And.intro p2 p3))
          clear hxn p1 p2 p3
          go_wp2_with (go_at_call 22; refine (Q.out).mono ?_; rintro e w5 ⟨v5, rfl, ho5, b5⟩; clear Q)
          go_roundw
          case rel => exact ⟨i + 1, had, put1 L x, by go_num, rfl, by omega, hid (by rw [hH.out, HTK.out]; simp; intro e0; exact absurd e0.symm HXN.out), hid ho5, hid ⟨HP.out.1, fun y => by
            rw [HP.out.2.1 y, hL.out.2.1 y, HTK.out, List.mem_append, List.mem_singleton]
            constructor
            · rintro (⟨q1, q2⟩ | rfl)
              · exact ⟨.inl q1, q2⟩
              · exact ⟨.inr rfl, HXN.out⟩
            · rintro ⟨q1 | q1, q2⟩
              · exact .inl ⟨q1, q2⟩
              · exact .inr q1, by have := hL.out.2.2; have := HP.out.2.2; omega⟩, hid (bl_tr hB.out b5)⟩
          case measure => simp [intOf]; omega
      · have hi2 : ¬ (i : Int) < lw.length := by omega
        have hti : lw.take i = lw := List.take_of_length_le (by omega)
        rw [hti] at hH hL
        have BR := hid (bl_tr B4.out hB.out)
        have hlen : Hid (L.length ≤ 1048576) := by have := hL.out.2.2; have := HLL.out; show _ ≤ _; omega
        cases had with
        | false =>
          have hnf : n ∉ lw := fun hq => by have := hH.out.2 hq; cases this
          have hfv : t.fv [] n = false := by
            cases hq : t.fv [] n with
            | false => rfl
            | true => exact absurd ((HFw.out.2 n).2 hq) hnf
          have HPT : Hid (∀ P, PutIs t u n P → P = t) := fun P hP => hP.2.2.elim (fun q => q.2) (fun q => by rw [hfv] at q; cases q.1)
          obtain rfl := HPT.out P HPI.out
          have hll : ln = lw := Tt.IsFree.eq HFn.out HFw.out
          subst hll
          have IQ : Hid (∀ wz, Below wr.heap.size wr wz → Calls Tryz.prog 9 #[.slice na ln.length nc, .slice wa ln.length wc] wz fun e w' => e = .returned (.bool true) ∧ Below wz.heap.size wz w') := fun wz hz => ints_any wz _ _ ln (HLN.out _ (bl_tr hB.out hz)) (HLW.out _ (bl_tr hB.out hz))
          clear hH hO hL hti hlt hnf hfv FU
          go_wp2_with fail
          refine wp_region_held_drew (S := fun wz => Below wr.heap.size wr wz) (by kernel_rfl) ((Below.refl _ _).drew) (fun hS => ?_)
          generalize wr.drew = wc0 at hS   ⊢
          refine wpAnyH_take (i := 0) (v := ?_) rfl (by kernel_rfl) (by kernel_rfl) (by kernel_rfl) (fun _ _ _ h => h) (Or.inl ⟨by rfl, ?_⟩) hS ?_
          rotate_left
          · intro wz hz; go_simp; try with_reducible rfl
          try simp only [Act.put, List.setIfInBounds_toArray, List.set_cons_zero, List.set_cons_succ, List.getElem_toArray, List.getElem_cons_succ, List.getElem_cons_zero]
          refine wpAnyH_take (i := 1) (v := ?_) rfl (by kernel_rfl) (by kernel_rfl) (by kernel_rfl) (fun _ _ _ h => h) (Or.inl ⟨by rfl, ?_⟩) hS ?_
          rotate_left
          · intro wz hz; go_simp; try with_reducible rfl
          try simp only [Act.put, List.setIfInBounds_toArray, List.set_cons_zero, List.set_cons_succ, List.getElem_toArray, List.getElem_cons_succ, List.getElem_cons_zero]
          refine wpAnyH_ready (rs := [2]) (by kernel_rfl) (by simp) (AllReadyH.cons rfl (fun K hK => ?a1_2) AllReadyH.nil)
          case' a1_2 =>
            go_simp
            refine (IQ.out wc0 hS).mono ?_
            rintro e wc1 ⟨rfl, hb⟩
            refine hK.out _ _ (bl_on hS hb) (fun hSn => ?_)
            clear hK K hS
            have hS := hSn
            clear hSn
            try simp only [Act.put, List.setIfInBounds_toArray, List.set_cons_zero, List.set_cons_succ, List.getElem_toArray, List.getElem_cons_succ, List.getElem_cons_zero]
            clear hb
            refine wpAnyH_take (i := 3) (v := ?_) rfl (by kernel_rfl) (by kernel_rfl) (by kernel_rfl) (fun _ _ _ h => h) (Or.inl ⟨by rfl, ?_⟩) hS ?_
            rotate_left
            · intro wz hz; go_simp; try with_reducible rfl
            try simp only [Act.put, List.setIfInBounds_toArray, List.set_cons_zero, List.set_cons_succ, List.getElem_toArray, List.getElem_cons_succ, List.getElem_cons_zero]
            refine wpAnyH_take (i := 4) (v := ?_) rfl (by kernel_rfl) (by kernel_rfl) (by kernel_rfl) (fun _ _ _ h => h) (Or.inl ⟨by rfl, ?_⟩) hS ?_
            rotate_left
            · intro wz hz; have yy0 := C0.out wz (bl_tr BR.out hz); have yy1 := C1.out wz (bl_tr BR.out hz); go_simp; try with_reducible rfl
            try simp only [Act.put, List.setIfInBounds_toArray, List.set_cons_zero, List.set_cons_succ, List.getElem_toArray, List.getElem_cons_succ, List.getElem_cons_zero]
            refine wpAnyH_take (i := 5) (v := ?_) rfl (by kernel_rfl) (by kernel_rfl) (by kernel_rfl) (fun _ _ _ h => h) (Or.inl ⟨by rfl, ?_⟩) hS ?_
            rotate_left
            · intro wz hz; go_simp; try with_reducible rfl
            try simp only [Act.put, List.setIfInBounds_toArray, List.set_cons_zero, List.set_cons_succ, List.getElem_toArray, List.getElem_cons_succ, List.getElem_cons_zero]
            refine wpAnyH_take (i := 6) (v := ?_) rfl (by kernel_rfl) (by kernel_rfl) (by kernel_rfl) (fun _ _ _ h => h) (Or.inl ⟨by rfl, ?_⟩) hS ?_
            rotate_left
            · intro wz hz; have yy0 := C0.out wz (bl_tr BR.out hz); have yy1 := C1.out wz (bl_tr BR.out hz); go_simp; try with_reducible rfl
            try simp only [Act.put, List.setIfInBounds_toArray, List.set_cons_zero, List.set_cons_succ, List.getElem_toArray, List.getElem_cons_succ, List.getElem_cons_zero]
            refine wpAnyH_take (i := 8) (v := ?_) rfl (by kernel_rfl) (by kernel_rfl) (by kernel_rfl) (fun _ _ _ h => h) (Or.inl ⟨by rfl, ?_⟩) hS ?_
            rotate_left
            · intro wz hz; have yy0 := C0.out wz (bl_tr BR.out hz); have yy1 := C1.out wz (bl_tr BR.out hz); go_simp; try with_reducible rfl
            try simp only [Act.put, List.setIfInBounds_toArray, List.set_cons_zero, List.set_cons_succ, List.getElem_toArray, List.getElem_cons_succ, List.getElem_cons_zero]
            refine wpAnyH_ready (rs := [7]) (by kernel_rfl) (by simp) (AllReadyH.cons rfl (fun K hK => ?a2_7) AllReadyH.nil)
            case' a2_7 =>
              go_simp
              refine (PQ.out hr wc1 (bl_tr BR.out hS)).mono ?_
              rintro e wc2 ⟨xs2, P2, rfl, hT2, hP2, hb⟩
              have hPe := HPT.out P2 hP2
              subst hPe
              have TP := hid hT2
              clear hT2 hP2
              refine hK.out _ _ (bl_on hS hb) (fun hSn => ?_)
              clear hK K hS
              have hS := hSn
              clear hSn
              try simp only [Act.put, List.setIfInBounds_toArray, List.set_cons_zero, List.set_cons_succ, List.getElem_toArray, List.getElem_cons_succ, List.getElem_cons_zero]
              clear hb
              refine wpAnyH_ready (rs := [9]) (by kernel_rfl) (by simp) (AllReadyH.cons rfl (fun K hK => ?a3_9) AllReadyH.nil)
              case' a3_9 =>
                go_simp
                refine (SQ.out wc2 _ (bl_tr BR.out hS) TP.out).mono ?_
                rintro e wc3 ⟨rfl, hb⟩
                refine hK.out _ _ (bl_on hS hb) (fun hSn => ?_)
                clear hK K hS
                have hS := hSn
                clear hSn
                try simp only [Act.put, List.setIfInBounds_toArray, List.set_cons_zero, List.set_cons_succ, List.getElem_toArray, List.getElem_cons_succ, List.getElem_cons_zero]
                clear hb
                refine wpAnyH_take (i := 10) (v := ?_) rfl (by kernel_rfl) (by kernel_rfl) (by kernel_rfl) (fun _ _ _ h => h) (Or.inl ⟨by rfl, ?_⟩) hS ?_
                rotate_left
                · intro wz hz; go_simp; try with_reducible rfl
                try simp only [Act.put, List.setIfInBounds_toArray, List.set_cons_zero, List.set_cons_succ, List.getElem_toArray, List.getElem_cons_succ, List.getElem_cons_zero]
                refine wpAnyH_take (i := 11) (v := ?_) rfl (by kernel_rfl) (by kernel_rfl) (by kernel_rfl) (fun _ _ _ h => h) (Or.inl ⟨by rfl, ?_⟩) hS ?_
                rotate_left
                · intro wz hz; go_simp; try with_reducible rfl
                try simp only [Act.put, List.setIfInBounds_toArray, List.set_cons_zero, List.set_cons_succ, List.getElem_toArray, List.getElem_cons_succ, List.getElem_cons_zero]
                refine wpAnyH_ready (rs := [12]) (by kernel_rfl) (by simp) (AllReadyH.cons rfl (fun K hK => ?a4_12) AllReadyH.nil)
                case' a4_12 =>
                  go_simp
                  refine (AQ.out wc3 (bl_tr BR.out hS)).mono ?_
                  rintro e wc4 ⟨rfl, hb⟩
                  refine hK.out _ _ (bl_on hS hb) (fun hSn => ?_)
                  clear hK K hS
                  have hS := hSn
                  clear hSn
                  try simp only [Act.put, List.setIfInBounds_toArray, List.set_cons_zero, List.set_cons_succ, List.getElem_toArray, List.getElem_cons_succ, List.getElem_cons_zero]
                  clear hb
                  refine wpAnyH_take (i := 13) (v := ?_) rfl (by kernel_rfl) (by kernel_rfl) (by kernel_rfl) (fun _ _ _ h => h) (Or.inl ⟨by rfl, ?_⟩) hS ?_
                  rotate_left
                  · intro wz hz; go_simp; try with_reducible rfl
                  try simp only [Act.put, List.setIfInBounds_toArray, List.set_cons_zero, List.set_cons_succ, List.getElem_toArray, List.getElem_cons_succ, List.getElem_cons_zero]
                  refine wpAnyH_take (i := 14) (v := ?_) rfl (by kernel_rfl) (by kernel_rfl) (by kernel_rfl) (fun _ _ _ h => h) (Or.inl ⟨by rfl, ?_⟩) hS ?_
                  rotate_left
                  · intro wz hz; go_simp; try with_reducible rfl
                  try simp only [Act.put, List.setIfInBounds_toArray, List.set_cons_zero, List.set_cons_succ, List.getElem_toArray, List.getElem_cons_succ, List.getElem_cons_zero]
                  refine wpAnyH_done (by kernel_rfl) ?_ _
          all_goals (
            go_wp2
            go_ret
            exact ⟨rfl, bl_tr BW.out (bl_tr BR.out hS)⟩)
        | true =>
          have hn : n ∈ lw := hH.out.1 rfl
          have HFP : Hid (∀ x, P.fv [] x = true ↔ (t.fv [] x = true ∧ x ≠ n) ∨ u.fv [] x = true) := by
            rcases HPI.out.2.2 with ⟨hq, -⟩ | ⟨-, hq⟩
            · rw [(HFw.out.2 n).1 hn] at hq; cases hq
            · exact hq
          have y1 := C1.out _ BR.out
          have L0 := hid hL.out
          have O0 := hO
          clear hH hL hti hlt hn SQ PQ
          go_wp2_with (go_at_call 10; refine (FU.out _ BR.out).mono ?_; rintro e w6 ⟨ma, mc, lm, rfl, hLm, hFm, hlm, b6⟩; clear FU)
          have O6 : Hid (Ow w6 u10 L) := hid (O0.out.below b6)
          have HFm := hid hFm
          have HLM : Hid (∀ wz, Below w6.heap.size w6 wz → Ls wz Any (.slice ma lm.length mc) lm) := fun wz hz => hLm.any hz
          have HLm := hid hlm
          have hlm2 : lm.length ≤ 9223372036854775807 := by omega
          have B6 := hid (bl_tr hB.out b6)
          clear hFm hLm hlm b6 y1
          go_loopw [10, 13] (fun wv iv wr2 => ∃ (i : Nat) (L2 : List Int), iv = .int .i64 i ∧ i ≤ lm.length ∧ Hid (Ow wr2 wv L2) ∧ Hid (L2.Pairwise (· < ·) ∧ (∀ x, x ∈ L2 ↔ x ∈ L ∨ x ∈ lm.take i) ∧ L2.length ≤ L.length + i) ∧ Hid (Below w6.heap.size w6 wr2)) (fun _ v _ => lm.length - (intOf v).toNat)
          case atStart => exact ⟨0, L, rfl, Nat.zero_le _, O6, hid ⟨L0.out.1, by simp, by simp⟩, hid (Below.refl _ _)⟩
          case round =>
            obtain ⟨i, L2, rfl, hil, hO2, hL2, hB2⟩ := hrel
            by_cases hlt : i < lm.length
            · obtain ⟨x, hx⟩ : ∃ x, lm[i]? = some x := ⟨_, List.getElem?_eq_getElem hlt⟩
              obtain ⟨p, o, rfl, hcap, z⟩ := (HLM.out _ hB2.out).at_ hx
              have hlt2 : (i : Int) < lm.length := by omega
              have htk : lm.take (i + 1) = lm.take i ++ [x] := by rw [List.take_add_one, hx]; rfl
              have HTK := hid htk
              have Q := hid (put1_any wr _ L2 x hO2.out (by have := hL2.out.2.2; have := HLm.out; have := hlen.out; omega))
              obtain ⟨p1, p2, p3⟩ := put1_ok L2 x hL2.out.1
              have HP := hid (And.intro p1 (And.intro p2 p3))
              clear hx htk p1 p2 p3
              go_wp2_with (go_at_call 22; refine (Q.out).mono ?_; rintro e w7 ⟨v7, rfl, ho7, b7⟩; clear Q)
              go_roundw
              case rel => exact ⟨i + 1, put1 L2 x, by go_num, by omega, hid ho7, hid ⟨HP.out.1, fun y => by rw [HP.out.2.1 y, hL2.out.2.1 y, HTK.out, List.mem_append, List.mem_singleton, or_assoc], by have := hL2.out.2.2; have := HP.out.2.2; omega⟩, hid (bl_tr hB2.out b7)⟩
              case measure => simp [intOf]; omega
            · have hi3 : ¬ (i : Int) < lm.length := by omega
              have hti : lm.take i = lm := List.take_of_length_le (by omega)
              rw [hti] at hL2
              have hfree : Tt.IsFree (P.fv []) L2 := ⟨hL2.out.1, fun x => by
                rw [hL2.out.2.1 x, L0.out.2.1 x, HFP.out x, HFw.out.2 x, HFm.out.2 x]⟩
              have hll : ln = L2 := Tt.IsFree.eq HFn.out hfree
              subst hll
              obtain ⟨oa, oc, rfl, -⟩ := hO2.out.ls.frm
              have IQ := hid (ints_any wr _ _ ln (HLN.out _ (bl_tr B6.out hB2.out)) hO2.out.ls)
              have AQ2 : Hid (∀ wz, Below wr.heap.size wr wz → Calls Tryz.prog 16 #[] wz fun e w' => e = .returned (.bool true) ∧ Below wz.heap.size wz w') := fun wz hz => AQ.out wz (bl_tr (bl_tr B4.out (bl_tr B6.out hB2.out)) hz)
              clear hti hlt hfree
              go_wp2_with (first
                | (go_at_call 9; refine (IQ.out).mono ?_; rintro e w8 ⟨rfl, b8⟩; clear IQ)
                | (go_at_call 16; refine (AQ2.out _ b8).mono ?_; rintro e w9 ⟨rfl, b9⟩; clear AQ2))
              go_ret
              exact ⟨rfl, bl_tr BW.out (bl_tr (bl_tr B4.out (bl_tr B6.out hB2.out)) (bl_tr b8 b9))⟩
  · have ge : (er != 0) = true := by simp [he]
    clear HE he
    go_wp2_with (first
      | (go_at_call 8; refine (RQ.out _ B0.out).mono ?_; rintro e w1 ⟨rfl, b1⟩; clear RQ)
      | (go_at_call 16; refine (AQ.out _ b1).mono ?_; rintro e w2 ⟨rfl, b2⟩; clear AQ))
    go_ret
    exact ⟨rfl, bl_tr BW.out (bl_tr b1 b2)⟩
end Go.Proofs.YtfeppchgmobfpaaGreatDoor
