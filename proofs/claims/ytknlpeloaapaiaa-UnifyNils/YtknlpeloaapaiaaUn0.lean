/- A store with two metas: its memory; raw, at, root, class, strange, both, meta. -/
import Derived.Test.YtknlpeloaapaiaaTpV
import Derived.WalkKit
import Derived.Laws.ResultCell
import Derived.BigQuiet
import Derived.Deep.QuietTactic
namespace Go.Proofs.Ytknlpeloaapaiaa
open Go.RowKit
set_option linter.unusedVariables false
set_option linter.unusedSimpArgs false

theorem hidU {p : Prop} (h : p) : Hid p := h
abbrev FT : TypeId := 88
abbrev ST : TypeId := 54
abbrev PT : TypeId := 55
/-- A store at S whose known has two pointers. -/
structure Sto (W : World) (S g cap : Nat) (mv : Value) (p0 p1 : Option Addr) (more : List Value) : Prop where
  st : Arr W S ST [.slice (some ⟨g, 0, none⟩) 2 cap, mv]
  kn : Arr W g PT (.pointer p0 :: .pointer p1 :: more)
  ne : S ≠ g
  le : 2 ≤ cap
theorem Sto.stays {W W' : World} {S g cap : Nat} {mv : Value} {p0 p1 : Option Addr} {more : List Value} (h : Sto W S g cap mv p0 p1 more) (hb : Below W.heap.size W W') : Sto W' S g cap mv p0 p1 more := ⟨h.st.stays hb, h.kn.stays hb, h.ne, h.le⟩
def kp (p0 p1 : Option Addr) (n : Nat) : Option Addr := if n = 0 then p0 else p1

set_option maxRecDepth 100000 in
theorem raw_any (w : World) (S g cap : Nat) (mv : Value) (p0 p1 : Option Addr) (more : List Value) (h : Sto w S g cap mv p0 p1 more) (n : Nat) (hn : n < 2) : Calls Try.prog 79 #[.pointer (some ⟨S, 0, none⟩), .int .i64 (n : Int)] w fun e w' => e = .returned (.pointer (kp p0 p1 n)) ∧ w' = w := by
  have c0 := h.st.cell
  have c1 := h.kn.cell
  have hle := h.le
  have hlt : (n : Int) < 2 := by omega
  have hv : w.cell? ⟨g, n, none⟩ = some (.pointer (kp p0 p1 n)) := by
    rw [c1]
    match n, hn with
    | 0, _ => rfl
    | 1, _ => rfl
  clear h c1
  go_enter Try.func79, Try.ntmps79
  go_wp2
  go_ret
  exact ⟨rfl, rfl⟩

set_option maxRecDepth 100000 in
theorem meta_any (w : World) (n : Int) : Calls Try.prog 27 #[.int .i64 n] w fun e w' => e = .returned (.agg #[.int .i64 7, .int .i64 n, .slice none 0 0]) ∧ Below w.heap.size w w' := by
  go_enter Try.func27, Try.ntmps27
  go_wp2
  refine bodyPost_ret (v := .agg #[.int .i64 7, .int .i64 n, .slice none 0 0]) (by rw [results_cell1 (fn := Try.f27) (p := 2) (ty := 24) (by kernel_rfl)]; simp [go_sem]) rfl ?_
  exact ⟨rfl, bl_alloc (Below.refl _ _) _⟩

set_option maxRecDepth 100000 in
theorem both_nil (w : World) : Calls Try.prog 104 #[.pointer none, .pointer none] w fun e w' => e = .returned (.pointer none) ∧ w' = w := by
  go_enter Try.func104, Try.ntmps104
  go_wp2
  go_ret
  exact ⟨rfl, rfl⟩

set_option maxRecDepth 100000 in
theorem at_nil (w : World) (S g cap : Nat) (mv : Value) (p0 p1 : Option Addr) (more : List Value) (h : Sto w S g cap mv p0 p1 more) (n : Nat) (hn : n < 2) (hp : kp p0 p1 n = none) : Calls Try.prog 54 #[.pointer (some ⟨S, 0, none⟩), .int .i64 (n : Int)] w fun e w' => e = .returned (.agg #[.int .i64 n, .int .i64 0, .int .i64 n, .int .i64 n, .pointer none, .int .i64 1, .pointer none]) ∧ Below w.heap.size w w' := by
  have hr : Hid (∀ o, Calls Try.prog 79 #[.pointer (some ⟨S, 0, none⟩), .int .i64 (n : Int)] (w.alloc o) fun e w' => e = .returned (.pointer none) ∧ w' = w.alloc o) := fun o => by
    have := raw_any (w.alloc o) S g cap mv p0 p1 more (h.stays (bl_alloc (Below.refl _ _) _)) n hn
    rw [hp] at this
    exact this
  clear h hp hn
  go_enter Try.func54, Try.ntmps54
  go_wp2_with (go_at_call 79; refine (hr.out _).mono ?_; rintro e w3 ⟨rfl, hw⟩; rw [hw]; clear hw w3)
  refine bodyPost_ret (v := .agg #[.int .i64 n, .int .i64 0, .int .i64 n, .int .i64 n, .pointer none, .int .i64 1, .pointer none]) (by rw [results_cell1 (fn := Try.f54) (p := 4) (ty := FT) (by kernel_rfl)]; simp [go_sem]) rfl ?_
  exact ⟨rfl, bl_alloc (Below.refl _ _) _⟩

set_option maxRecDepth 100000 in
theorem at_some (w : World) (S g cap : Nat) (mv : Value) (p0 p1 : Option Addr) (more : List Value) (h : Sto w S g cap mv p0 p1 more) (n : Nat) (hn : n < 2) (b : Nat) (hp : kp p0 p1 n = some ⟨b, 0, none⟩) (f0 f1 f2 f3 f5 : Int) (f4 f6 : Option Addr) (hb : Arr w b FT [.int .i64 f0, .int .i64 f1, .int .i64 f2, .int .i64 f3, .pointer f4, .int .i64 f5, .pointer f6]) : Calls Try.prog 54 #[.pointer (some ⟨S, 0, none⟩), .int .i64 (n : Int)] w fun e w' => e = .returned (.agg #[.int .i64 f0, .int .i64 f1, .int .i64 f2, .int .i64 f3, .pointer f4, .int .i64 f5, .pointer f6]) ∧ Below w.heap.size w w' := by
  have hr : Hid (∀ o, Calls Try.prog 79 #[.pointer (some ⟨S, 0, none⟩), .int .i64 (n : Int)] (w.alloc o) fun e w' => e = .returned (.pointer (some ⟨b, 0, none⟩)) ∧ w' = w.alloc o) := fun o => by
    have := raw_any (w.alloc o) S g cap mv p0 p1 more (h.stays (bl_alloc (Below.refl _ _) _)) n hn
    rw [hp] at this
    exact this
  have hc : ∀ o, ∀ j, (w.alloc o).cell? ⟨b, j, none⟩ = [.int .i64 f0, .int .i64 f1, .int .i64 f2, .int .i64 f3, .pointer f4, .int .i64 f5, .pointer f6][j]? := fun o => (hb.stays (bl_alloc (Below.refl _ _) o)).cell
  clear h hp hn hb
  go_enter Try.func54, Try.ntmps54
  go_wp2_with (go_at_call 79; refine (hr.out _).mono ?_; rintro e w3 ⟨rfl, hw⟩; rw [hw]; clear hw w3)
  refine bodyPost_ret (v := .agg #[.int .i64 f0, .int .i64 f1, .int .i64 f2, .int .i64 f3, .pointer f4, .int .i64 f5, .pointer f6]) (by rw [results_cell1 (fn := Try.f54) (p := 4) (ty := FT) (by kernel_rfl)]; simp [go_sem]) rfl ?_
  exact ⟨rfl, bl_alloc (Below.refl _ _) _⟩
/-- r is the root of n. -/
def RootIs (w : World) (p0 p1 : Option Addr) (n r : Nat) : Prop := (kp p0 p1 r = none ∨ ∃ b, kp p0 p1 r = some ⟨b, 0, none⟩ ∧ w.cell? ⟨b, 0, none⟩ = some (.int .i64 r)) ∧ (n = r ∨ ∃ b, kp p0 p1 n = some ⟨b, 0, none⟩ ∧ w.cell? ⟨b, 0, none⟩ = some (.int .i64 r))
theorem RootIs.stays {w w' : World} {p0 p1 : Option Addr} {n r : Nat} (h : RootIs w p0 p1 n r) (hb : Below w.heap.size w w') : RootIs w' p0 p1 n r :=
  ⟨h.1.imp id fun ⟨b, h1, h2⟩ => ⟨b, h1, (hb.cell (World.block_lt_of_cell? w _ h2)).trans h2⟩, h.2.imp id fun ⟨b, h1, h2⟩ => ⟨b, h1, (hb.cell (World.block_lt_of_cell? w _ h2)).trans h2⟩⟩

set_option maxHeartbeats 1000000 in
set_option maxRecDepth 100000 in
theorem root_any (w : World) (S g cap : Nat) (mv : Value) (p0 p1 : Option Addr) (more : List Value) (h : Sto w S g cap mv p0 p1 more) (n r : Nat) (hn : n < 2) (hr : r < 2) (hR : RootIs w p0 p1 n r) : Calls Try.prog 78 #[.pointer (some ⟨S, 0, none⟩), .int .i64 (n : Int)] w fun e w' => e = .returned (.int .i64 r) ∧ w' = w := by
  have hraw : Hid (∀ n : Nat, n < 2 → Calls Try.prog 79 #[.pointer (some ⟨S, 0, none⟩), .int .i64 (n : Int)] w fun e w' => e = .returned (.pointer (kp p0 p1 n)) ∧ w' = w) := fun n hn => raw_any w S g cap mv p0 p1 more h n hn
  have HR := hidU hR
  clear h hR
  go_enter Try.func78, Try.ntmps78
  go_wp2
  go_loopw [1] (fun v wr => ∃ k : Nat, v = .int .i64 k ∧ (k = r ∨ k = n) ∧ wr = w) (fun v _ => if intOf v = (r : Int) then 0 else 1)
  case atStart => exact ⟨n, rfl, .inr rfl, rfl⟩
  case round =>
    obtain ⟨k, rfl, hk, hwr⟩ := hrel
    subst wr
    by_cases he : k = r
    · subst he
      rcases HR.out.1 with hq | ⟨b, hq, hc⟩
      · have HW : Hid (Calls Try.prog 79 #[.pointer (some ⟨S, 0, none⟩), .int .i64 (k : Int)] w fun e w' => e = .returned (.pointer none) ∧ w' = w) := by have := hraw.out k hr; rw [hq] at this; exact this
        clear HR hraw hq
        go_wp2_with (go_at_call 79; refine HW.out.mono ?_; rintro e w3 ⟨rfl, hw⟩; rw [hw]; clear hw w3)
        go_ret
        exact ⟨rfl, rfl⟩
      · have HW : Hid (Calls Try.prog 79 #[.pointer (some ⟨S, 0, none⟩), .int .i64 (k : Int)] w fun e w' => e = .returned (.pointer (some ⟨b, 0, none⟩)) ∧ w' = w) := by have := hraw.out k hr; rw [hq] at this; exact this
        have hkk : ((k : Int) == (k : Int)) = true := by simp
        clear HR hraw hq
        go_wp2_with (go_at_call 79; refine HW.out.mono ?_; rintro e w3 ⟨rfl, hw⟩; rw [hw]; clear hw w3)
        go_ret
        exact ⟨rfl, rfl⟩
    · obtain rfl : k = n := by omega
      obtain ⟨b, hq, hc⟩ := HR.out.2.resolve_left he
      have HW : Hid (Calls Try.prog 79 #[.pointer (some ⟨S, 0, none⟩), .int .i64 (k : Int)] w fun e w' => e = .returned (.pointer (some ⟨b, 0, none⟩)) ∧ w' = w) := by have := hraw.out k hn; rw [hq] at this; exact this
      have hkk : ((r : Int) == (k : Int)) = false := by rw [beq_eq_false_iff_ne]; omega
      clear HR hraw hq
      go_wp2_with (go_at_call 79; refine HW.out.mono ?_; rintro e w3 ⟨rfl, hw⟩; rw [hw]; clear hw w3)
      go_roundw
      case rel => exact ⟨r, rfl, .inl rfl, by first | rfl | trivial⟩
      case measure =>
        have hz : ¬ ((k : Int) = (r : Int)) := by omega
        simp [intOf, hz]

set_option maxRecDepth 100000 in
theorem class_meta (w : World) (S g cap : Nat) (mv : Value) (p0 p1 : Option Addr) (more : List Value) (h : Sto w S g cap mv p0 p1 more) (n r : Nat) (hn : n < 2) (hr : r < 2) (hR : RootIs w p0 p1 n r) : Calls Try.prog 53 #[.pointer (some ⟨S, 0, none⟩), .agg #[.int .i64 7, .int .i64 (n : Int), .slice none 0 0]] w fun e w' => e = .returned (.tuple #[.int .i64 r, .bool true]) ∧ Below w.heap.size w w' := by
  have HQ : Hid (∀ o, Calls Try.prog 78 #[.pointer (some ⟨S, 0, none⟩), .int .i64 (n : Int)] (w.alloc o) fun e w' => e = .returned (.int .i64 r) ∧ w' = w.alloc o) := fun o => root_any (w.alloc o) S g cap mv p0 p1 more (h.stays (bl_alloc (Below.refl _ _) _)) n r hn hr (hR.stays (bl_alloc (Below.refl _ _) _))
  have h0 : ¬ ((n : Int) < 0) := by omega
  clear h hR
  go_enter Try.func53, Try.ntmps53
  go_wp2_with (go_at_call 78; refine (HQ.out _).mono ?_; rintro e w3 ⟨rfl, hw⟩; rw [hw]; clear hw w3)
  go_ret2
  exact ⟨rfl, bl_alloc (Below.refl _ _) _⟩

set_option maxRecDepth 100000 in
theorem class_no (w : World) (S : Nat) (k n : Int) (v : Value) (hk : k ≠ 7) (a : Option Addr) (m c : Nat) : Calls Try.prog 53 #[.pointer (some ⟨S, 0, none⟩), .agg #[.int .i64 k, .int .i64 n, .slice a m c]] w fun e w' => e = .returned (.tuple #[.int .i64 0, .bool false]) ∧ Below w.heap.size w w' := by
  have g : (k != 7) = true := by simp [hk]
  go_enter Try.func53, Try.ntmps53
  go_wp2
  go_ret2
  exact ⟨rfl, bl_alloc (Below.refl _ _) _⟩

set_option maxRecDepth 100000 in
theorem strange_no (w : World) (S g cap : Nat) (mv : Value) (p0 p1 : Option Addr) (more : List Value) (h : Sto w S g cap mv p0 p1 more) (f0 f1 f2 f3 f5 : Int) (f4 f6 : Option Addr) (hm : f3 < 2) : Calls Try.prog 62 #[.pointer (some ⟨S, 0, none⟩), .agg #[.int .i64 f0, .int .i64 f1, .int .i64 f2, .int .i64 f3, .pointer f4, .int .i64 f5, .pointer f6]] w fun e w' => e = .returned (.bool false) ∧ Below w.heap.size w w' := by
  have hc : ∀ o, ∀ j, (w.alloc o).cell? ⟨S, j, none⟩ = [.slice (some ⟨g, 0, none⟩) 2 cap, mv][j]? := fun o => (h.st.stays (bl_alloc (Below.refl _ _) o)).cell
  have hq : decide (f3 ≥ 2) = false := by simp; omega
  have hq2 : ¬ (2 ≤ f3) := by omega
  clear h
  go_enter Try.func62, Try.ntmps62
  go_wp2
  go_quiet (fail)
  go_wp2
  go_ret
  exact ⟨rfl, bl_tr (bl_alloc (Below.refl _ _) _) (bl_drewN _ _)⟩
end Go.Proofs.Ytknlpeloaapaiaa
