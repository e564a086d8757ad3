/- tree.Binders of a pair that binds x once or twice: a list of one. tree.RightPat of the example's patterns: the meter, what catches, the whole. A store with two metas: its memory; raw, at, root, class, strange, both, meta. -/
import Derived.Laws.EntriesVeiled
import Derived.WalkKit
import Derived.Laws.ResultCell
import Derived.BigQuiet
import Derived.Deep.QuietTactic
import Derived.Test.YtjodgnkhociaaaaGreatQap
import Derived.Test.YtjodgnkhociaaaaGreatQal
import Derived.Test.YtjodgnkhociaaaaGreatQak
import Derived.Test.YtjodgnkhociaaaaGreatQab
namespace Go.Proofs.YtjodgnkhociaaaaGreat
open Go.RowKit
set_option linter.unusedVariables false
set_option linter.unusedSimpArgs false

theorem set_len (m : Nat) (hm : 0 < m) (ys : List ByteArray) (h : Tre.IsSet (Tre.Nm.datas (List.replicate m bx)) (Tre.Nm.datas ys)) : ys.length = 1 := by
  have hu : Tre.IsSet (Tre.Nm.datas (List.replicate m bx)) [bx.data.toList] := by
    refine ⟨by simp, fun x => ?_⟩
    unfold Tre.Nm.datas
    rw [List.map_replicate]
    simp [List.mem_replicate]
    omega
  have e := Tre.IsSet.unique h hu
  have := congrArg List.length e
  simpa [Tre.Nm.datas] using this
abbrev PAT5 : TypeId := 25
abbrev pairVs (K : Nat) : List Value := [.int .i64 7, .string ⟨#[]⟩, .slice none 0 0, .int .i64 0, .slice (some ⟨K, 0, none⟩) 2 2]
set_option maxHeartbeats 4000000 in
set_option maxRecDepth 100000 in
theorem Binders_pair (w : World) (K m : Nat) (k : Int) (s : ByteArray) (n : Int) (hm : 0 < m) (hm2 : m ≤ 1000) (ha : Leaf5 w K 0 2 bx 0) (hb : Leaf5 w K 5 k s n)
    (h2 : ∀ w1 F G base T v1, Bd w1 F G base T v1 1 → Leaf5 w1 K 5 k s n → K < F → Calls Tryz.prog 42 #[.pointer (some ⟨K, 5, none⟩), .pointer (some ⟨F, 0, none⟩), .pointer (some ⟨G, 0, none⟩)] w1 fun e w' => e = .returned (.tuple #[]) ∧ (∃ v', Bd w' F G base T v' m) ∧ Fe F base w1 w') :
    Calls Tryz.prog 29 #[.agg #[.int .i64 7, .string ⟨#[]⟩, .slice none 0 0, .int .i64 0, .slice (some ⟨K, 0, none⟩) 2 2]] w fun e w' => (∃ p c, e = .returned (.slice p 1 c)) ∧ Below w.heap.size w w' := by
  have hK := ha.2
  have en := enters_bd
  unfold Enters at en
  have HQ : Hid (∀ T, Calls Tryz.prog 42 #[.pointer (some ⟨w.heap.size, 0, none⟩), .pointer (some ⟨w.heap.size + 1, 0, none⟩), .pointer (some ⟨w.heap.size + 1 + 1, 0, none⟩)] (((w.alloc (.cells #[.int .i64 7, .string ⟨#[]⟩, .slice none 0 0, .int .i64 0, .slice (some ⟨K, 0, none⟩) 2 2] PAT5)).alloc (.cells #[.slice none 0 0] LST)).alloc (.cells #[.func (.func 42) #[] #[.pointer (some ⟨w.heap.size + 1, 0, none⟩), .pointer (some ⟨w.heap.size + 1 + 1, 0, none⟩)]] T)) fun e w' => e = .returned (.tuple #[]) ∧ ∃ v', Bd w' (w.heap.size + 1) (w.heap.size + 1 + 1) (w.heap.size + 1 + 1 + 1) T v' m ∧ Below w.heap.size w w') := hid fun T => by
    have b1 := bl_alloc (Below.refl w.heap.size w) (.cells #[.int .i64 7, .string ⟨#[]⟩, .slice none 0 0, .int .i64 0, .slice (some ⟨K, 0, none⟩) 2 2] PAT5)
    have z1 : (w.alloc (.cells #[.int .i64 7, .string ⟨#[]⟩, .slice none 0 0, .int .i64 0, .slice (some ⟨K, 0, none⟩) 2 2] PAT5)).heap.size = w.heap.size + 1 := size_alloc _ _
    have p1 : Arr (w.alloc (.cells #[.int .i64 7, .string ⟨#[]⟩, .slice none 0 0, .int .i64 0, .slice (some ⟨K, 0, none⟩) 2 2] PAT5)) w.heap.size PAT5 (pairVs K) := ⟨heap_alloc_at _ _⟩
    generalize (w.alloc (.cells #[.int .i64 7, .string ⟨#[]⟩, .slice none 0 0, .int .i64 0, .slice (some ⟨K, 0, none⟩) 2 2] PAT5)) = w1 at b1 z1 p1 ⊢
    rw [← z1]
    have z2 : (w1.alloc (.cells #[.slice none 0 0] LST)).heap.size = w1.heap.size + 1 := size_alloc _ _
    have b2 := bl_alloc (Below.refl w1.heap.size w1) (.cells #[.slice none 0 0] LST)
    have f2 : Arr (w1.alloc (.cells #[.slice none 0 0] LST)) w1.heap.size LST [.slice none 0 0] := ⟨heap_alloc_at _ _⟩
    generalize (w1.alloc (.cells #[.slice none 0 0] LST)) = w2 at b2 z2 f2 ⊢
    rw [← z2]
    have z3 : (w2.alloc (.cells #[.func (.func 42) #[] #[.pointer (some ⟨w1.heap.size, 0, none⟩), .pointer (some ⟨w2.heap.size, 0, none⟩)]] T)).heap.size = w2.heap.size + 1 := size_alloc _ _
    have b3 := bl_alloc (Below.refl w2.heap.size w2) (.cells #[.func (.func 42) #[] #[.pointer (some ⟨w1.heap.size, 0, none⟩), .pointer (some ⟨w2.heap.size, 0, none⟩)]] T)
    have f3 : Arr (w2.alloc (.cells #[.func (.func 42) #[] #[.pointer (some ⟨w1.heap.size, 0, none⟩), .pointer (some ⟨w2.heap.size, 0, none⟩)]] T)) w2.heap.size T [.func (.func 42) #[] #[.pointer (some ⟨w1.heap.size, 0, none⟩), .pointer (some ⟨w2.heap.size, 0, none⟩)]] := ⟨heap_alloc_at _ _⟩
    generalize (w2.alloc (.cells #[.func (.func 42) #[] #[.pointer (some ⟨w1.heap.size, 0, none⟩), .pointer (some ⟨w2.heap.size, 0, none⟩)]] T)) = w3 at b3 z3 f3 ⊢
    have bd : Bd w3 w1.heap.size w2.heap.size w3.heap.size T (.slice none 0 0) 0 := ⟨f2.stays b3, f3, ⟨rfl, .inl ⟨rfl, rfl⟩⟩, by omega, by omega, Nat.le_refl _⟩
    have pp := (p1.stays b2).stays b3
    have b13 : Below w.heap.size w w3 := bl_tr b1 (bl_tr b2 b3)
    have hp : Pair5 w3 w.heap.size K k s n := ⟨fun j u hu => by rw [Nat.zero_add, pp.cell]; exact hu, pp.lt, ha.stays b13, hb.stays b13⟩
    rw [← z3]
    refine (bind_pair w3 _ _ _ m T _ bd w.heap.size K k s n hp (by omega) (by omega) (fun w4 v4 q4 q5 => h2 w4 w1.heap.size w2.heap.size w3.heap.size T v4 q4 q5 (by omega))).mono ?_
    rintro e w' ⟨rfl, ⟨v', q1⟩, q2⟩
    exact ⟨rfl, v', q1, b13.trans (Below.mono (q2.below (show w1.heap.size ≤ w3.heap.size by omega)) (show w.heap.size ≤ w1.heap.size by omega))⟩
  clear ha hb h2 hK
  go_enter Tryz.func29, Tryz.ntmps29
  go_wp2_with (first
    | (go_at_call 44
       refine (Tre.set_any v1 (List.replicate m bx) w1 ?hst ?hbig).mono ?_
       case hst => exact Tre.Strs.own (n := m) (by have := BD.out.own; rw [List.map_replicate]; exact this)
       case hbig => rw [List.length_replicate]; omega
       rintro e w2 ⟨v2, ys, rfl, hr, hs, -, b2⟩
       have hl := set_len m hm ys hs
       obtain ⟨p2, c2, rfl⟩ : ∃ p c, v2 = .slice p 1 c := by
         rcases hr with ⟨rfl, -⟩ | ⟨g, c, rfl, -⟩
         · simp at hl
         · exact ⟨_, _, by rw [hl]⟩
       have B2 := hid b2
       clear hr hs hl b2)
    | (refine (HQ.out _).mono ?_
       rintro e w1 ⟨rfl, v1, q1, q2⟩
       have BD := hid q1
       have B1 := hid q2
       have c1 := q1.fx.cell
       clear q1 q2))
  go_ret
  exact ⟨⟨_, _, rfl⟩, bl_tr B1.out B2.out⟩
end Go.Proofs.YtjodgnkhociaaaaGreat

namespace Go.Proofs.YtjodgnkhociaaaaGreat
open Go.RowKit
set_option linter.unusedVariables false
set_option linter.unusedSimpArgs false

def MtS (w : World) (M : Nat) (s : Tre.Mst) (w' : World) : Prop := Tre.Mt w' M s ∧ Tre.Save M w w'
theorem Leaf5.save {w w' : World} {b o M : Nat} {k : Int} {s : ByteArray} {n : Int} (h : Leaf5 w b o k s n) (hs : Tre.Save M w w') (hM : b ≠ M) : Leaf5 w' b o k s n := ⟨fun j v hv => (hs.cell (p := ⟨b, o + j, none⟩) hM).trans (h.1 j v hv), by rw [hs.size]; exact h.2⟩
set_option maxHeartbeats 1000000 in
set_option maxRecDepth 100000 in
theorem meter_leaf (w : World) (M b o : Nat) (st : Tre.Mst) (k : Int) (s : ByteArray) (n : Int) (h : Tre.Mt w M st) (hl : Leaf5 w b o k s n) (hM : b ≠ M) : Calls Tryz.prog 38 #[.pointer (some ⟨M, 0, none⟩), .pointer (some ⟨b, o, none⟩)] w fun e w' => e = .returned (.tuple #[]) ∧ Tre.Mt w' M st.enter.leave ∧ Tre.Save M w w' := by
  have hmf : ∀ (fn : Fn) (first cap : Array Value) (w : World), (Instr.makeFunc fn first cap).run Tryz.prog w = .ok (.func fn first cap) w := fun _ _ _ _ => rfl
  have H1 := hid (Tre.enter_any M st w h)
  have H2 : Hid (∀ wz, Tre.Mt wz M st.enter → Calls Tryz.prog 54 #[.pointer (some ⟨M, 0, none⟩)] wz fun e w' => e = .returned (.tuple #[]) ∧ Tre.Mt w' M st.enter.leave ∧ Tre.Save M wz w') := fun wz hz => Tre.leave_any M st.enter wz hz
  have HL : Hid (∀ wz, Tre.Save M w wz → Leaf5 wz b o k s n) := fun wz hz => hl.save hz hM
  clear h hl
  go_enter Tryz.func38, Tryz.ntmps38
  go_wp2_with (first
    | (go_at_call 53; refine H1.out.mono ?_; rintro e w1 ⟨rfl, m1, s1⟩; have M1 := hid m1; have S1 := hid s1; have y4 := (HL.out _ s1).1 4 _ rfl; clear m1 s1)
    | (go_at_call 43; refine (each_none _ _ _ _ _ _).mono ?_; rintro e w4 ⟨rfl, hw⟩; rw [hw]; clear hw w4)
    | (go_at_call 54; refine (H2.out _ M1.out).mono ?_; rintro e w5 ⟨rfl, m5, s5⟩; have M5 := hid m5; have S5 := hid s5; clear m5 s5))
  first | go_end0 | refine bodyPost_end (results_none rfl _ _ _) rfl ?_ | refine bodyPost_ret (results_none rfl _ _ _) rfl ?_
  exact ⟨rfl, M5.out, S1.out.trans S5.out⟩
theorem Pair5.save {w w' : World} {P K M : Nat} {k : Int} {s : ByteArray} {n : Int} (h : Pair5 w P K k s n) (hs : Tre.Save M w w') (hP : P ≠ M) (hK : K ≠ M) : Pair5 w' P K k s n := ⟨fun j v hv => (hs.cell (p := ⟨P, 0 + j, none⟩) hP).trans (h.p j v hv), by rw [hs.size]; exact h.pl, h.a.save hs hK, h.b.save hs hK⟩
theorem enters_mpat : Enters 38 := enters_of Tryz.func38 (by kernel_rfl) rfl
set_option maxHeartbeats 1000000 in
set_option maxRecDepth 100000 in
theorem meter_pair (w : World) (M P K : Nat) (st : Tre.Mst) (k : Int) (s : ByteArray) (n : Int) (h : Tre.Mt w M st) (hl : Pair5 w P K k s n) (hP : P ≠ M) (hK : K ≠ M) : Calls Tryz.prog 38 #[.pointer (some ⟨M, 0, none⟩), .pointer (some ⟨P, 0, none⟩)] w fun e w' => e = .returned (.tuple #[]) ∧ Tre.Mt w' M st.enter.enter.leave.enter.leave.leave ∧ Tre.Save M w w' := by
  have hmf : ∀ (fn : Fn) (first cap : Array Value) (w : World), (Instr.makeFunc fn first cap).run Tryz.prog w = .ok (.func fn first cap) w := fun _ _ _ _ => rfl
  have H1 := hid (Tre.enter_any M st w h)
  have H2 : Hid (∀ wz, Tre.Mt wz M st.enter.enter.leave.enter.leave → Calls Tryz.prog 54 #[.pointer (some ⟨M, 0, none⟩)] wz fun e w' => e = .returned (.tuple #[]) ∧ Tre.Mt w' M st.enter.enter.leave.enter.leave.leave ∧ Tre.Save M wz w') := fun wz hz => Tre.leave_any M _ wz hz
  have HL : Hid (∀ wz, Tre.Save M w wz → Pair5 wz P K k s n) := fun wz hz => hl.save hz hP hK
  have HE : Hid (∀ wz, Tre.Save M w wz → Tre.Mt wz M st.enter → Calls Tryz.prog 43 #[.slice (some ⟨K, 0, none⟩) 2 2, .func (.func 38) #[.pointer (some ⟨M, 0, none⟩)] #[]] wz fun e w'' => e = .returned (.tuple #[]) ∧ Tre.Mt w'' M st.enter.enter.leave.enter.leave ∧ Tre.Save M w w'') := fun wz hs hm => by
    refine each_two wz _ #[.pointer (some ⟨M, 0, none⟩)] #[] enters_mpat K (fun w'' => Tre.Mt w'' M st.enter.enter.leave ∧ Tre.Save M w w'') (fun w'' => Tre.Mt w'' M st.enter.enter.leave.enter.leave ∧ Tre.Save M w w'') ?_ ?_
    · refine (meter_leaf wz M K 0 st.enter _ _ _ hm (HL.out wz hs).a hK).mono ?_
      rintro e w'' ⟨h1, h2, h3⟩
      exact ⟨h1, h2, hs.trans h3⟩
    · rintro w1 ⟨q1, q2⟩
      refine (meter_leaf w1 M K 5 st.enter.enter.leave _ _ _ q1 (HL.out w1 q2).b hK).mono ?_
      rintro e w'' ⟨h1, h2, h3⟩
      exact ⟨h1, h2, q2.trans h3⟩
  clear h hl
  go_enter Tryz.func38, Tryz.ntmps38
  go_wp2_with (first
    | (go_at_call 53; refine H1.out.mono ?_; rintro e w1 ⟨rfl, m1, s1⟩; have M1 := hid m1; have S1 := hid s1; have y4 : w1.cell? ⟨P, 4, none⟩ = _ := (HL.out _ s1).p 4 _ rfl; clear m1 s1)
    | (go_at_call 43; refine (HE.out _ S1.out M1.out).mono ?_; rintro e w4 ⟨rfl, m4, s4⟩; have M4 := hid m4; have S4 := hid s4; clear m4 s4)
    | (go_at_call 54; refine (H2.out _ M4.out).mono ?_; rintro e w5 ⟨rfl, m5, s5⟩; have M5 := hid m5; have S5 := hid s5; clear m5 s5))
  first | go_end0 | refine bodyPost_end (results_none rfl _ _ _) rfl ?_ | refine bodyPost_ret (results_none rfl _ _ _) rfl ?_
  exact ⟨rfl, M5.out, S4.out.trans S5.out⟩

set_option maxHeartbeats 1000000 in
set_option maxRecDepth 100000 in
theorem catchPat_idle (p : Addr) (w : World) :
    CallsD Tryz.prog 69 #[.pointer (some p)] .returning w fun e u' w' => e = .returned (.tuple #[]) ∧ u' = .returning ∧ w' = w := by
  refine callsD_of_wpS Tryz.func69 rfl fun c₀ cs hu => ?_
  apply wpS_seq
  apply wpS_region
  simp [wpOpsS, go_sem, recoverD, hu, Tryz.ntmps69, Exit.thenS]
  rw [show (#[Value.pointer (some p)] ++ ((Array.replicate 15 undef).setIfInBounds 3 Value.nilIface).setIfInBounds 0 Value.nilIface) = #[.pointer (some p), .nilIface, undef, undef, .nilIface, undef, undef, undef, undef, undef, undef, undef, undef, undef, undef, undef] from rfl]
  refine wpS_of_wp ?_
  go_wp2
  cases c₀
  simp_all [bodyPostS, results, Tryz.results69]
set_option maxHeartbeats 1000000 in
set_option maxRecDepth 100000 in
theorem caught_ok (w : World) (P : Nat) (hR : ∀ ob, Calls Tryz.prog 39 #[.pointer (some ⟨P, 0, none⟩)] (w.alloc ob) fun e w' => e = .returned (.tuple #[]) ∧ Below (w.alloc ob).heap.size (w.alloc ob) w') :
    Calls Tryz.prog 52 #[.pointer (some ⟨P, 0, none⟩), .func (.func 39) #[] #[]] w fun e w' => e = .returned (.int .i64 0) ∧ Below w.heap.size w w' := by
  have hmf : ∀ (fn : Fn) (first cap : Array Value) (w : World), (Instr.makeFunc fn first cap).run Tryz.prog w = .ok (.func fn first cap) w := fun _ _ _ _ => rfl
  have q := hid hR
  clear hR
  have hlt : w.heap.size < (w.alloc (.cells #[.int .i64 0] 49)).heap.size := by simp
  go_enter_defers Tryz.func52, Tryz.ntmps52
  go_wp2_with (go_at_call 39; refine (q.out _).mono ?_; rintro e w1 ⟨rfl, hb1⟩; have x0 : w1.cell? ⟨w.heap.size, 0, none⟩ = some (.int .i64 0) := (hb1.cell hlt).trans (by simp [go_sem]); have z0 : w1.frozen? ⟨w.heap.size, 0, none⟩ = false := (hb1.frozen hlt).trans (by simp [go_sem]); have hB : Hid (Below w.heap.size w w1) := bl_tr (bl_alloc (Below.refl _ _) _) hb1; clear hb1)
  refine leaves_cons (f := 69) (args := #[.pointer (some ⟨w.heap.size, 0, none⟩)]) (by simp) (by simp [go_sem]) ?_
  refine (catchPat_idle ⟨w.heap.size, 0, none⟩ _).mono ?_
  rintro e u' w'' ⟨rfl, rfl, rfl⟩
  have hB2 : Below w.heap.size w (w1.setCell ⟨w.heap.size, 0, none⟩ (.int .i64 0)) := hB.out.setCell (Nat.le_refl _) _
  simp [Leaves, settle, results, Tryz.results52, go_sem, x0, hB2]
set_option maxHeartbeats 1000000 in
set_option maxRecDepth 100000 in
theorem alone_pair (w : World) (P K : Nat) (k : Int) (s : ByteArray) (n : Int) (h : Pair5 w P K k s n) (h2 : ∀ w', Leaf5 w' K 5 k s n → Calls Tryz.prog 39 #[.pointer (some ⟨K, 5, none⟩)] w' fun e w'' => e = .returned (.tuple #[]) ∧ Below w'.heap.size w' w'') :
    Calls Tryz.prog 37 #[.pointer (some ⟨P, 0, none⟩), .func (.func 38) #[] #[], .func (.func 39) #[] #[]] w fun e w' => e = .returned (.int .i64 0) ∧ Below w.heap.size w w' := by
  have hP := h.pl
  have hK := h.a.2
  have hb1 := bl_alloc (Below.refl w.heap.size w) (.cells #[.int .i64 0, .int .i64 0, .int .i64 0] 162)
  have x0 : Arr (w.alloc (.cells #[.int .i64 0, .int .i64 0, .int .i64 0] 162)) w.heap.size 162 [.int .i64 0, .int .i64 0, .int .i64 0] := ⟨heap_alloc_at _ _⟩
  have q := hid (meter_pair _ w.heap.size P K ⟨0, 0, 0⟩ k s n ⟨x0.cell 0, x0.cell 1, x0.cell 2, x0.frozen 0, x0.frozen 1, x0.frozen 2⟩ (h.stays hb1) (by omega) (by omega))
  have HB := hid hb1
  have D : Hid (∀ w', Below w.heap.size w w' → Calls Tryz.prog 52 #[.pointer (some ⟨P, 0, none⟩), .func (.func 39) #[] #[]] w' fun e w'' => e = .returned (.int .i64 0) ∧ Below w'.heap.size w' w'') := fun w' hw => caught_ok w' P fun ob => right_pair _ P K k s n (h.stays (bl_alloc hw ob)) h2
  have hd : ((Tre.Mst.mk 0 0 0).enter.enter.leave.enter.leave.leave).d = 2 := by simp [Tre.Mst.enter, Tre.Mst.leave, wrap64]; omega
  clear h h2 hb1 x0
  go_enter Tryz.func37, Tryz.ntmps37
  go_wp2_with (first
    | (go_at_call 38; go_loud (refine q.out.mono ?_; rintro e w1 ⟨rfl, m1, s1⟩; have y1 : w1.cell? ⟨w.heap.size, 1, none⟩ = some (.int .i64 2) := (by have := m1.d; rw [hd] at this; exact this); have B1 := hid (Tre.Save.below HB.out s1 (Nat.le_refl _)); clear m1 s1))
    | (go_at_call 52; refine (D.out _ B1.out).mono ?_; rintro e w2 ⟨rfl, b2⟩; have B2 := hid b2; clear b2))
  go_ret
  exact ⟨rfl, bl_tr B1.out B2.out⟩
set_option maxHeartbeats 1000000 in
set_option maxRecDepth 100000 in
theorem RightPat_pair (w : World) (K : Nat) (k : Int) (s : ByteArray) (n : Int) (ha : Leaf5 w K 0 2 bx 0) (hb : Leaf5 w K 5 k s n) (h2 : ∀ w', Leaf5 w' K 5 k s n → Calls Tryz.prog 39 #[.pointer (some ⟨K, 5, none⟩)] w' fun e w'' => e = .returned (.tuple #[]) ∧ Below w'.heap.size w' w'') :
    Calls Tryz.prog 25 #[.agg #[.int .i64 7, .string ⟨#[]⟩, .slice none 0 0, .int .i64 0, .slice (some ⟨K, 0, none⟩) 2 2]] w fun e w' => e = .returned (.int .i64 0) ∧ Below w.heap.size w w' := by
  have hb1 := bl_alloc (Below.refl w.heap.size w) (.cells #[.int .i64 7, .string ⟨#[]⟩, .slice none 0 0, .int .i64 0, .slice (some ⟨K, 0, none⟩) 2 2] PT5)
  have x0 : Arr (w.alloc (.cells #[.int .i64 7, .string ⟨#[]⟩, .slice none 0 0, .int .i64 0, .slice (some ⟨K, 0, none⟩) 2 2] PT5)) w.heap.size PT5 [.int .i64 7, .string ⟨#[]⟩, .slice none 0 0, .int .i64 0, .slice (some ⟨K, 0, none⟩) 2 2] := ⟨heap_alloc_at _ _⟩
  have q := hid (alone_pair _ w.heap.size K k s n ⟨fun j v hv => by rw [Nat.zero_add, x0.cell]; exact hv, x0.lt, ha.stays hb1, hb.stays hb1⟩ h2)
  have HB := hid hb1
  clear ha hb h2 hb1 x0
  go_enter Tryz.func25, Tryz.ntmps25
  go_wp2_with (go_at_call 37; refine q.out.mono ?_; rintro e w1 ⟨rfl, hb1⟩; have hB := bl_tr HB.out hb1)
  go_ret
  exact ⟨rfl, hB⟩
end Go.Proofs.YtjodgnkhociaaaaGreat

namespace Go.Proofs.YtjodgnkhociaaaaGreat
open Go.RowKit
set_option linter.unusedVariables false
set_option linter.unusedSimpArgs false

theorem hidU {p : Prop} (h : p) : Hid p := h
abbrev FT : TypeId := 141
abbrev ST : TypeId := 80
abbrev PT : TypeId := 135
/-- A store at S whose known has two pointers. -/
structure Sto (W : World) (S g cap : Nat) (mv : Value) (p0 p1 : Option Addr) (more : List Value) : Prop where
  st : Arr W S ST [.slice (some ⟨g, 0, none⟩) 2 cap, mv]
  kn : Arr W g PT (.pointer p0 :: .pointer p1 :: more)
  ne : S ≠ g
  le : 2 ≤ cap
theorem Sto.stays {W W' : World} {S g cap : Nat} {mv : Value} {p0 p1 : Option Addr} {more : List Value} (h : Sto W S g cap mv p0 p1 more) (hb : Below W.heap.size W W') : Sto W' S g cap mv p0 p1 more := ⟨h.st.stays hb, h.kn.stays hb, h.ne, h.le⟩
def kp (p0 p1 : Option Addr) (n : Nat) : Option Addr := if n = 0 then p0 else p1

set_option maxRecDepth 100000 in
theorem raw_any (w : World) (S g cap : Nat) (mv : Value) (p0 p1 : Option Addr) (more : List Value) (h : Sto w S g cap mv p0 p1 more) (n : Nat) (hn : n < 2) : Calls Tryz.prog 49 #[.pointer (some ⟨S, 0, none⟩), .int .i64 (n : Int)] w fun e w' => e = .returned (.pointer (kp p0 p1 n)) ∧ w' = w := by
  have c0 := h.st.cell
  have c1 := h.kn.cell
  have hle := h.le
  have hlt : (n : Int) < 2 := by omega
  have hv : w.cell? ⟨g, n, none⟩ = some (.pointer (kp p0 p1 n)) := by
    rw [c1]
    match n, hn with
    | 0, _ => rfl
    | 1, _ => rfl
  clear h c1
  go_enter Tryz.func49, Tryz.ntmps49
  go_wp2
  go_ret
  exact ⟨rfl, rfl⟩

set_option maxRecDepth 100000 in
theorem meta_any (w : World) (n : Int) : Calls Tryz.prog 51 #[.int .i64 n] w fun e w' => e = .returned (.agg #[.int .i64 7, .int .i64 n, .slice none 0 0]) ∧ Below w.heap.size w w' := by
  go_enter Tryz.func51, Tryz.ntmps51
  go_wp2
  refine bodyPost_ret (v := .agg #[.int .i64 7, .int .i64 n, .slice none 0 0]) (by rw [results_cell1 (fn := Tryz.f51) (p := 2) (ty := 47) (by kernel_rfl)]; simp [go_sem]) rfl ?_
  exact ⟨rfl, bl_alloc (Below.refl _ _) _⟩

set_option maxRecDepth 100000 in
theorem both_nil (w : World) : Calls Tryz.prog 155 #[.pointer none, .pointer none] w fun e w' => e = .returned (.pointer none) ∧ w' = w := by
  go_enter Tryz.func155, Tryz.ntmps155
  go_wp2
  go_ret
  exact ⟨rfl, rfl⟩

set_option maxRecDepth 100000 in
theorem at_nil (w : World) (S g cap : Nat) (mv : Value) (p0 p1 : Option Addr) (more : List Value) (h : Sto w S g cap mv p0 p1 more) (n : Nat) (hn : n < 2) (hp : kp p0 p1 n = none) : Calls Tryz.prog 34 #[.pointer (some ⟨S, 0, none⟩), .int .i64 (n : Int)] w fun e w' => e = .returned (.agg #[.int .i64 n, .int .i64 0, .int .i64 n, .int .i64 n, .pointer none, .int .i64 1, .pointer none]) ∧ Below w.heap.size w w' := by
  have hr : Hid (∀ o, Calls Tryz.prog 49 #[.pointer (some ⟨S, 0, none⟩), .int .i64 (n : Int)] (w.alloc o) fun e w' => e = .returned (.pointer none) ∧ w' = w.alloc o) := fun o => by
    have := raw_any (w.alloc o) S g cap mv p0 p1 more (h.stays (bl_alloc (Below.refl _ _) _)) n hn
    rw [hp] at this
    exact this
  clear h hp hn
  go_enter Tryz.func34, Tryz.ntmps34
  go_wp2_with (go_at_call 49; refine (hr.out _).mono ?_; rintro e w3 ⟨rfl, hw⟩; rw [hw]; clear hw w3)
  refine bodyPost_ret (v := .agg #[.int .i64 n, .int .i64 0, .int .i64 n, .int .i64 n, .pointer none, .int .i64 1, .pointer none]) (by rw [results_cell1 (fn := Tryz.f34) (p := 4) (ty := FT) (by kernel_rfl)]; simp [go_sem]) rfl ?_
  exact ⟨rfl, bl_alloc (Below.refl _ _) _⟩

set_option maxRecDepth 100000 in
theorem at_some (w : World) (S g cap : Nat) (mv : Value) (p0 p1 : Option Addr) (more : List Value) (h : Sto w S g cap mv p0 p1 more) (n : Nat) (hn : n < 2) (b : Nat) (hp : kp p0 p1 n = some ⟨b, 0, none⟩) (f0 f1 f2 f3 f5 : Int) (f4 f6 : Option Addr) (hb : Arr w b FT [.int .i64 f0, .int .i64 f1, .int .i64 f2, .int .i64 f3, .pointer f4, .int .i64 f5, .pointer f6]) : Calls Tryz.prog 34 #[.pointer (some ⟨S, 0, none⟩), .int .i64 (n : Int)] w fun e w' => e = .returned (.agg #[.int .i64 f0, .int .i64 f1, .int .i64 f2, .int .i64 f3, .pointer f4, .int .i64 f5, .pointer f6]) ∧ Below w.heap.size w w' := by
  have hr : Hid (∀ o, Calls Tryz.prog 49 #[.pointer (some ⟨S, 0, none⟩), .int .i64 (n : Int)] (w.alloc o) fun e w' => e = .returned (.pointer (some ⟨b, 0, none⟩)) ∧ w' = w.alloc o) := fun o => by
    have := raw_any (w.alloc o) S g cap mv p0 p1 more (h.stays (bl_alloc (Below.refl _ _) _)) n hn
    rw [hp] at this
    exact this
  have hc : ∀ o, ∀ j, (w.alloc o).cell? ⟨b, j, none⟩ = [.int .i64 f0, .int .i64 f1, .int .i64 f2, .int .i64 f3, .pointer f4, .int .i64 f5, .pointer f6][j]? := fun o => (hb.stays (bl_alloc (Below.refl _ _) o)).cell
  clear h hp hn hb
  go_enter Tryz.func34, Tryz.ntmps34
  go_wp2_with (go_at_call 49; refine (hr.out _).mono ?_; rintro e w3 ⟨rfl, hw⟩; rw [hw]; clear hw w3)
  refine bodyPost_ret (v := .agg #[.int .i64 f0, .int .i64 f1, .int .i64 f2, .int .i64 f3, .pointer f4, .int .i64 f5, .pointer f6]) (by rw [results_cell1 (fn := Tryz.f34) (p := 4) (ty := FT) (by kernel_rfl)]; simp [go_sem]) rfl ?_
  exact ⟨rfl, bl_alloc (Below.refl _ _) _⟩
/-- r is the root of n. -/
def RootIs (w : World) (p0 p1 : Option Addr) (n r : Nat) : Prop := (kp p0 p1 r = none ∨ ∃ b, kp p0 p1 r = some ⟨b, 0, none⟩ ∧ w.cell? ⟨b, 0, none⟩ = some (.int .i64 r)) ∧ (n = r ∨ ∃ b, kp p0 p1 n = some ⟨b, 0, none⟩ ∧ w.cell? ⟨b, 0, none⟩ = some (.int .i64 r))
theorem RootIs.stays {w w' : World} {p0 p1 : Option Addr} {n r : Nat} (h : RootIs w p0 p1 n r) (hb : Below w.heap.size w w') : RootIs w' p0 p1 n r :=
  ⟨h.1.imp id fun ⟨b, h1, h2⟩ => ⟨b, h1, (hb.cell (World.block_lt_of_cell? w _ h2)).trans h2⟩, h.2.imp id fun ⟨b, h1, h2⟩ => ⟨b, h1, (hb.cell (World.block_lt_of_cell? w _ h2)).trans h2⟩⟩

set_option maxHeartbeats 1000000 in
set_option maxRecDepth 100000 in
theorem root_any (w : World) (S g cap : Nat) (mv : Value) (p0 p1 : Option Addr) (more : List Value) (h : Sto w S g cap mv p0 p1 more) (n r : Nat) (hn : n < 2) (hr : r < 2) (hR : RootIs w p0 p1 n r) : Calls Tryz.prog 48 #[.pointer (some ⟨S, 0, none⟩), .int .i64 (n : Int)] w fun e w' => e = .returned (.int .i64 r) ∧ w' = w := by
  have hraw : Hid (∀ n : Nat, n < 2 → Calls Tryz.prog 49 #[.pointer (some ⟨S, 0, none⟩), .int .i64 (n : Int)] w fun e w' => e = .returned (.pointer (kp p0 p1 n)) ∧ w' = w) := fun n hn => raw_any w S g cap mv p0 p1 more h n hn
  have HR := hidU hR
  clear h hR
  go_enter Tryz.func48, Tryz.ntmps48
  go_wp2
  go_loopw [1] (fun v wr => ∃ k : Nat, v = .int .i64 k ∧ (k = r ∨ k = n) ∧ wr = w) (fun v _ => if intOf v = (r : Int) then 0 else 1)
  case atStart => exact ⟨n, rfl, .inr rfl, rfl⟩
  case round =>
    obtain ⟨k, rfl, hk, hwr⟩ := hrel
    subst wr
    by_cases he : k = r
    · subst he
      rcases HR.out.1 with hq | ⟨b, hq, hc⟩
      · have HW : Hid (Calls Tryz.prog 49 #[.pointer (some ⟨S, 0, none⟩), .int .i64 (k : Int)] w fun e w' => e = .returned (.pointer none) ∧ w' = w) := by have := hraw.out k hr; rw [hq] at this; exact this
        clear HR hraw hq
        go_wp2_with (go_at_call 49; refine HW.out.mono ?_; rintro e w3 ⟨rfl, hw⟩; rw [hw]; clear hw w3)
        go_ret
        exact ⟨rfl, rfl⟩
      · have HW : Hid (Calls Tryz.prog 49 #[.pointer (some ⟨S, 0, none⟩), .int .i64 (k : Int)] w fun e w' => e = .returned (.pointer (some ⟨b, 0, none⟩)) ∧ w' = w) := by have := hraw.out k hr; rw [hq] at this; exact this
        have hkk : ((k : Int) == (k : Int)) = true := by simp
        clear HR hraw hq
        go_wp2_with (go_at_call 49; refine HW.out.mono ?_; rintro e w3 ⟨rfl, hw⟩; rw [hw]; clear hw w3)
        go_ret
        exact ⟨rfl, rfl⟩
    · obtain rfl : k = n := by omega
      obtain ⟨b, hq, hc⟩ := HR.out.2.resolve_left he
      have HW : Hid (Calls Tryz.prog 49 #[.pointer (some ⟨S, 0, none⟩), .int .i64 (k : Int)] w fun e w' => e = .returned (.pointer (some ⟨b, 0, none⟩)) ∧ w' = w) := by have := hraw.out k hn; rw [hq] at this; exact this
      have hkk : ((r : Int) == (k : Int)) = false := by rw [beq_eq_false_iff_ne]; omega
      clear HR hraw hq
      go_wp2_with (go_at_call 49; refine HW.out.mono ?_; rintro e w3 ⟨rfl, hw⟩; rw [hw]; clear hw w3)
      go_roundw
      case rel => exact ⟨r, rfl, .inl rfl, by first | rfl | trivial⟩
      case measure =>
        have hz : ¬ ((k : Int) = (r : Int)) := by omega
        simp [intOf, hz]

set_option maxRecDepth 100000 in
theorem class_meta (w : World) (S g cap : Nat) (mv : Value) (p0 p1 : Option Addr) (more : List Value) (h : Sto w S g cap mv p0 p1 more) (n r : Nat) (hn : n < 2) (hr : r < 2) (hR : RootIs w p0 p1 n r) : Calls Tryz.prog 33 #[.pointer (some ⟨S, 0, none⟩), .agg #[.int .i64 7, .int .i64 (n : Int), .slice none 0 0]] w fun e w' => e = .returned (.tuple #[.int .i64 r, .bool true]) ∧ Below w.heap.size w w' := by
  have HQ : Hid (∀ o, Calls Tryz.prog 48 #[.pointer (some ⟨S, 0, none⟩), .int .i64 (n : Int)] (w.alloc o) fun e w' => e = .returned (.int .i64 r) ∧ w' = w.alloc o) := fun o => root_any (w.alloc o) S g cap mv p0 p1 more (h.stays (bl_alloc (Below.refl _ _) _)) n r hn hr (hR.stays (bl_alloc (Below.refl _ _) _))
  have h0 : ¬ ((n : Int) < 0) := by omega
  clear h hR
  go_enter Tryz.func33, Tryz.ntmps33
  go_wp2_with (go_at_call 48; refine (HQ.out _).mono ?_; rintro e w3 ⟨rfl, hw⟩; rw [hw]; clear hw w3)
  go_ret2
  exact ⟨rfl, bl_alloc (Below.refl _ _) _⟩

set_option maxRecDepth 100000 in
theorem class_no (w : World) (S : Nat) (k n : Int) (v : Value) (hk : k ≠ 7) (a : Option Addr) (m c : Nat) : Calls Tryz.prog 33 #[.pointer (some ⟨S, 0, none⟩), .agg #[.int .i64 k, .int .i64 n, .slice a m c]] w fun e w' => e = .returned (.tuple #[.int .i64 0, .bool false]) ∧ Below w.heap.size w w' := by
  have g : (k != 7) = true := by simp [hk]
  go_enter Tryz.func33, Tryz.ntmps33
  go_wp2
  go_ret2
  exact ⟨rfl, bl_alloc (Below.refl _ _) _⟩

set_option maxRecDepth 100000 in
theorem strange_no (w : World) (S g cap : Nat) (mv : Value) (p0 p1 : Option Addr) (more : List Value) (h : Sto w S g cap mv p0 p1 more) (f0 f1 f2 f3 f5 : Int) (f4 f6 : Option Addr) (hm : f3 < 2) : Calls Tryz.prog 50 #[.pointer (some ⟨S, 0, none⟩), .agg #[.int .i64 f0, .int .i64 f1, .int .i64 f2, .int .i64 f3, .pointer f4, .int .i64 f5, .pointer f6]] w fun e w' => e = .returned (.bool false) ∧ Below w.heap.size w w' := by
  have hc : ∀ o, ∀ j, (w.alloc o).cell? ⟨S, j, none⟩ = [.slice (some ⟨g, 0, none⟩) 2 cap, mv][j]? := fun o => (h.st.stays (bl_alloc (Below.refl _ _) o)).cell
  have hq : decide (f3 ≥ 2) = false := by simp; omega
  have hq2 : ¬ (2 ≤ f3) := by omega
  clear h
  go_enter Tryz.func50, Tryz.ntmps50
  go_wp2
  go_quiet (fail)
  go_wp2
  go_ret
  exact ⟨rfl, bl_tr (bl_alloc (Below.refl _ _) _) (bl_drewN _ _)⟩
end Go.Proofs.YtjodgnkhociaaaaGreat
