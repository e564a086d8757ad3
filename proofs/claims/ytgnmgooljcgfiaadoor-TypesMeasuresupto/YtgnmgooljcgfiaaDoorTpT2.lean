/- The writer: numbered, gen, level. -/
import Derived.Test.YtgnmgooljcgfiaaDoorTpT0
import Derived.Test.YtgnmgooljcgfiaaDoorTpT1
import Derived.Test.YtgnmgooljcgfiaaDoorShelfItoa
import Derived.Lib.SmallJoins
namespace Go.Proofs.YtgnmgooljcgfiaaDoor
open Go.RowKit
set_option linter.unusedVariables false
set_option linter.unusedSimpArgs false

/-- A writer in block b that has the bytes l, behind W. -/
structure Ts (W : World) (b : Nat) (l : List UInt8) (w : World) : Prop where
  i : Lib.IsBuilder 45 5 W.heap.size b (Lib.byteCells l) w
  bl : Below W.heap.size W w
theorem Ts.stays {W : World} {b : Nat} {l : List UInt8} {w w' : World} (h : Ts W b l w) (hb : Below w.heap.size w w') : Ts W b l w' := ⟨isBuilder_stays h.i hb, h.bl.trans (hb.mono h.bl.size)⟩
theorem Ts.lt {W : World} {b : Nat} {l : List UInt8} {w : World} (h : Ts W b l w) : b < w.heap.size := h.i.elim (fun h => h.lt) (fun h => h.lt)
theorem Ts.ge {W : World} {b : Nat} {l : List UInt8} {w : World} (h : Ts W b l w) : W.heap.size ≤ b := h.i.elim (fun h => h.1) (fun h => h.1)
def Wrote (W : World) (b : Nat) (l : List UInt8) (w : World) (v : Value) (e : Ending) (w' : World) : Prop := e = .returned v ∧ Ts W b l w' ∧ Eb W.heap.size b w w'
theorem ws (W : World) (b : Nat) (l : List UInt8) (s : ByteArray) (w : World) (h : Ts W b l w) (hl : l.length + s.size ≤ 140737488355328) : Calls Tryd.prog 43 #[.pointer (some ⟨b, 0, none⟩), .string s] w (Wrote W b (l ++ s.data.toList) w (.tuple #[.int .i64 s.size, .nilIface])) :=
  (WriteString_any W.heap.size b l s w h.i hl h.bl.size).mono fun e w' ⟨h1, h2, h3⟩ => ⟨h1, ⟨h2, h.bl.trans h3.bl⟩, h3⟩
theorem wb (W : World) (b : Nat) (l : List UInt8) (c : UInt8) (w : World) (h : Ts W b l w) (hl : l.length + 1 ≤ 140737488355328) : Calls Tryd.prog 54 #[.pointer (some ⟨b, 0, none⟩), .int .u8 c.toNat] w (Wrote W b (l ++ [c]) w .nilIface) :=
  (WriteByte_any W.heap.size b l c w h.i hl h.bl.size).mono fun e w' ⟨h1, h2, h3⟩ => ⟨h1, ⟨h2, h.bl.trans h3.bl⟩, h3⟩
def Tab (W : World) : Prop := Lib.TabIs Tryd.prog W "internal/strconv.uint64pow10" .u64 Lib.pow10Tab
theorem tab_named : (Tryd.prog.globalNamed "internal/strconv.uint64pow10").isSome = true := by kernel_rfl
theorem Tab.stays {W w : World} (h : Tab W) (hb : Below W.heap.size W w) : Tab w := by
  obtain ⟨g, hg⟩ := Option.isSome_iff_exists.1 tab_named
  exact Go.Joins.tab_stays hg h hb (Nat.le_refl _)
theorem bl_grow (w : World) (k : Nat) (os : Array Obj) : Below w.heap.size w (Go.Sort.grow (w.drewN k) os) := by
  refine ⟨rfl, rfl, rfl, ?_, fun j hj => ?_⟩
  · show w.heap.size ≤ (w.heap ++ os).size
    simp
  · show (w.heap ++ os)[j]? = w.heap[j]?
    rw [Array.getElem?_append_left hj]
theorem size_data (s : ByteArray) : s.data.toList.length = s.size := by rw [Array.length_toList]; rfl
theorem size_bytes (l : List UInt8) : (⟨l.toArray⟩ : ByteArray).size = l.length := by
  show l.toArray.size = _
  simp
theorem itoa_any (n : Int) (hn : R64 n) (w : World) (ht : Tab w) : Calls Tryd.prog 53 #[.int .i64 n] w fun e w' => e = .returned (.string ⟨(Lib.itoa n).toArray⟩) ∧ Below w.heap.size w w' :=
  (Tryd.strconv_Itoa n hn.1 hn.2 w ht).mono fun e w' ⟨h1, k, os, h2⟩ => ⟨h1, by rw [h2]; exact bl_grow _ _ _⟩

set_option maxHeartbeats 1000000 in
set_option maxRecDepth 100000 in
theorem numbered_any (W : World) (hW : Tab W) (b : Nat) (l : List UInt8) (s : ByteArray) (n : Int) (hn : R64 n) (w : World) (h : Ts W b l w) (hl : l.length + s.size + 21 ≤ 140737488355328) : Calls Tryd.prog 45 #[.pointer (some ⟨b, 0, none⟩), .string s, .int .i64 n] w (Wrote W b (l ++ (s.data.toList ++ Lib.itoa n)) w (.tuple #[])) := by
  have hi := Tp.itoa_len hn
  have hq1 : Hid (Calls Tryd.prog 43 #[.pointer (some ⟨b, 0, none⟩), .string s] w (Wrote W b (l ++ s.data.toList) w (.tuple #[.int .i64 s.size, .nilIface]))) := ws W b l s w h (by omega)
  have hq2 : Hid (∀ w2, Ts W b (l ++ s.data.toList) w2 → Calls Tryd.prog 53 #[.int .i64 n] w2 fun e w' => e = .returned (.string ⟨(Lib.itoa n).toArray⟩) ∧ Below w2.heap.size w2 w') := fun w2 h2 => itoa_any n hn w2 (hW.stays h2.bl)
  have hq3 : Hid (∀ w3, Ts W b (l ++ s.data.toList) w3 → Calls Tryd.prog 43 #[.pointer (some ⟨b, 0, none⟩), .string ⟨(Lib.itoa n).toArray⟩] w3 (Wrote W b (l ++ s.data.toList ++ Lib.itoa n) w3 (.tuple #[.int .i64 (⟨(Lib.itoa n).toArray⟩ : ByteArray).size, .nilIface]))) := fun w3 h3 => by
    exact ws W b (l ++ s.data.toList) ⟨(Lib.itoa n).toArray⟩ w3 h3 (by rw [size_bytes, List.length_append, size_data]; omega)
  clear hi hl hn
  generalize (⟨(Lib.itoa n).toArray⟩ : ByteArray) = txt at hq2 hq3
  go_enter Tryd.func45, Tryd.ntmps45
  go_wp2_with (first | (go_at_call 43; refine hq1.out.mono ?_; rintro e w2 ⟨rfl, h2, e2⟩; clear hq1))
  have hBw : W.heap.size ≤ w2.heap.size := h2.bl.size
  have h2' : Ts W b (l ++ s.data.toList) w2.drew := h2.stays (Below.refl _ _).drew
  go_region_with (first | (go_at_call 53; refine (hq2.out _ h2').mono ?_; rintro e w3 ⟨rfl, hb3⟩) | (go_at_call 43; refine (hq3.out _ (h2'.stays hb3)).mono ?_; rintro e w4 ⟨rfl, h4, e4⟩))
  all_goals go_wp2
  all_goals go_end0
  all_goals exact ⟨rfl, by rw [← List.append_assoc]; exact h4, (e2.trans (Eb.of_below (bl_tr (Below.refl _ _).drew hb3) hBw)).trans e4⟩

set_option maxHeartbeats 1000000 in
set_option maxRecDepth 100000 in
theorem level_any (w : World) (t : Tp) (a : Option Addr) (c : Nat) (hl : t.ks.length ≤ maxLen) : Calls Tryd.prog 62 #[.agg #[.int .i64 t.k, .int .i64 t.n, .slice a t.ks.length c]] w fun e w' => e = .returned (.int .i64 t.level) ∧ Below w.heap.size w w' := by
  unfold maxLen at hl
  have hlv : t.level = if t.k = 4 ∧ t.ks.length = 2 then 1 else if t.k = 5 ∧ t.ks.length = 2 then 2 else 3 := rfl
  generalize t.level = lv at hlv
  generalize t.k = k at *
  generalize t.n = n at *
  generalize t.ks.length = m at *
  by_cases h4 : k = 4
  · subst h4
    by_cases h2 : m = 2
    · subst h2
      have H : Hid (lv = 1) := by show _ = _; rw [hlv]; simp
      clear hlv
      go_enter Tryd.func62, Tryd.ntmps62
      go_wp2
      go_ret
      exact ⟨ret_int H.out.symm, bl_alloc (Below.refl _ _) _⟩
    · have H : Hid (lv = 3) := by show _ = _; rw [hlv]; simp [h2]
      have h3 : ((m : Int) == 2) = false := by rw [beq_eq_false_iff_ne]; omega
      clear hlv h2
      go_enter Tryd.func62, Tryd.ntmps62
      go_wp2
      go_ret
      exact ⟨ret_int H.out.symm, bl_alloc (Below.refl _ _) _⟩
  · have g4 : (k == 4) = false := by rw [beq_eq_false_iff_ne]; exact h4
    by_cases h5 : k = 5
    · subst h5
      by_cases h2 : m = 2
      · subst h2
        have H : Hid (lv = 2) := by show _ = _; rw [hlv]; simp
        clear hlv h4 g4
        go_enter Tryd.func62, Tryd.ntmps62
        go_wp2
        go_ret
        exact ⟨ret_int H.out.symm, bl_alloc (Below.refl _ _) _⟩
      · have H : Hid (lv = 3) := by show _ = _; rw [hlv]; simp [h2]
        have h3 : ((m : Int) == 2) = false := by rw [beq_eq_false_iff_ne]; omega
        clear hlv h2 h4 g4
        go_enter Tryd.func62, Tryd.ntmps62
        go_wp2
        go_ret
        exact ⟨ret_int H.out.symm, bl_alloc (Below.refl _ _) _⟩
    · have H : Hid (lv = 3) := by show _ = _; rw [hlv]; simp [h4, h5]
      have g5 : (k == 5) = false := by rw [beq_eq_false_iff_ne]; exact h5
      clear hlv h4 h5
      go_enter Tryd.func62, Tryd.ntmps62
      go_wp2
      go_ret
      exact ⟨ret_int H.out.symm, bl_alloc (Below.refl _ _) _⟩

set_option maxHeartbeats 1000000 in
set_option maxRecDepth 100000 in
theorem gen_any (W : World) (hW : Tab W) (b : Nat) (l : List UInt8) (n : Int) (hn : R64 n) (w : World) (h : Ts W b l w) (hl : l.length + 30 ≤ 140737488355328) : Calls Tryd.prog 46 #[.pointer (some ⟨b, 0, none⟩), .int .i64 n] w (Wrote W b (l ++ Tp.gen n) w (.tuple #[])) := by
  by_cases h0 : n < 0
  · have H : Hid (Tp.gen n = [39, 63]) := by show _ = _; unfold Tp.gen; rw [if_pos h0]
    have hq : Hid (Calls Tryd.prog 43 #[.pointer (some ⟨b, 0, none⟩), .string ⟨#[39, 63]⟩] w (Wrote W b (l ++ [39, 63]) w (.tuple #[.int .i64 2, .nilIface]))) := ws W b l ⟨#[39, 63]⟩ w h (show _ + 2 ≤ _ by omega)
    clear hn
    go_enter Tryd.func46, Tryd.ntmps46
    go_wp2_with (first | (go_at_call 43; refine hq.out.mono ?_; rintro e w2 ⟨rfl, h2, e2⟩; clear hq))
    go_end0
    exact ⟨rfl, by rw [H.out]; exact h2, e2⟩
  · obtain ⟨m, rfl⟩ : ∃ m : Nat, n = m := ⟨n.toNat, by omega⟩
    have hm := hn.2
    have hq1 : Hid (Calls Tryd.prog 54 #[.pointer (some ⟨b, 0, none⟩), .int .u8 39] w (Wrote W b (l ++ [39]) w .nilIface)) := wb W b l 39 w h (by omega)
    have hq2 : Hid (∀ w2, Ts W b (l ++ [39]) w2 → Calls Tryd.prog 54 #[.pointer (some ⟨b, 0, none⟩), .int .u8 (97 + (m : Int) % 26)] w2 (Wrote W b (l ++ [39] ++ [UInt8.ofNat (97 + m % 26)]) w2 .nilIface)) := fun w2 h2 => by
      have := wb W b (l ++ [39]) (UInt8.ofNat (97 + m % 26)) w2 h2 (by simp; omega)
      have e : ((UInt8.ofNat (97 + m % 26)).toNat : Int) = 97 + (m : Int) % 26 := by
        rw [UInt8.toNat_ofNat', Nat.mod_eq_of_lt (by omega)]; simp
      rw [e] at this
      exact this
    have hi := Tp.itoa_len (n := (m : Int) / 26) (by omega)
    have hq3 : Hid (∀ w2, Ts W b (l ++ [39] ++ [UInt8.ofNat (97 + m % 26)]) w2 → Calls Tryd.prog 53 #[.int .i64 ((m : Int) / 26)] w2 fun e w' => e = .returned (.string ⟨(Lib.itoa ((m : Int) / 26)).toArray⟩) ∧ Below w2.heap.size w2 w') := fun w2 h2 => itoa_any _ (by unfold R64; omega) w2 (hW.stays h2.bl)
    have hq4 : Hid (∀ w3, Ts W b (l ++ [39] ++ [UInt8.ofNat (97 + m % 26)]) w3 → Calls Tryd.prog 43 #[.pointer (some ⟨b, 0, none⟩), .string ⟨(Lib.itoa ((m : Int) / 26)).toArray⟩] w3 (Wrote W b (l ++ [39] ++ [UInt8.ofNat (97 + m % 26)] ++ Lib.itoa ((m : Int) / 26)) w3 (.tuple #[.int .i64 (⟨(Lib.itoa ((m : Int) / 26)).toArray⟩ : ByteArray).size, .nilIface]))) := fun w3 h3 => by
      exact ws W b _ ⟨(Lib.itoa ((m : Int) / 26)).toArray⟩ w3 h3 (by rw [size_bytes]; simp; omega)
    have hwr : IntKind.i64.wrap ((m : Int) / 26) = (m : Int) / 26 := by rw [IntKind.wrap_i64]; omega
    clear hi hl hn
    by_cases h26 : (26 : Int) ≤ m
    · have H : Hid (Tp.gen m = [39] ++ [UInt8.ofNat (97 + m % 26)] ++ Lib.itoa ((m : Int) / 26)) := by show _ = _; unfold Tp.gen; rw [if_neg h0, if_pos h26]; simp
      generalize UInt8.ofNat (97 + m % 26) = ch at hq2 hq3 hq4 H
      generalize hts : (⟨(Lib.itoa ((m : Int) / 26)).toArray⟩ : ByteArray) = txt at hq3 hq4
      clear hts
      go_enter Tryd.func46, Tryd.ntmps46
      go_wp2_with (first | (go_at_call 54; refine hq1.out.mono ?_; rintro e w2 ⟨rfl, h2, e2⟩; clear hq1) | (go_at_call 54; refine (hq2.out _ h2).mono ?_; rintro e w3 ⟨rfl, h3, e3⟩; clear hq2))
      have hBw : W.heap.size ≤ w3.heap.size := h3.bl.size
      have h3' := h3.stays (Below.refl _ _).drew
      go_region_with (first | (go_at_call 53; refine (hq3.out _ h3').mono ?_; rintro e w4 ⟨rfl, hb4⟩) | (go_at_call 43; refine (hq4.out _ (h3'.stays hb4)).mono ?_; rintro e w5 ⟨rfl, h5, e5⟩))
      all_goals go_wp2
      all_goals go_end0
      all_goals exact ⟨rfl, by rw [H.out, ← List.append_assoc, ← List.append_assoc]; exact h5, ((e2.trans e3).trans (Eb.of_below (bl_tr (Below.refl _ _).drew hb4) hBw)).trans e5⟩
    · have H : Hid (Tp.gen m = [39] ++ [UInt8.ofNat (97 + m % 26)]) := by show _ = _; unfold Tp.gen; rw [if_neg h0, if_neg h26]; simp
      generalize UInt8.ofNat (97 + m % 26) = ch at hq2 hq3 hq4 H
      clear hq3 hq4
      go_enter Tryd.func46, Tryd.ntmps46
      go_wp2_with (first | (go_at_call 54; refine hq1.out.mono ?_; rintro e w2 ⟨rfl, h2, e2⟩; clear hq1) | (go_at_call 54; refine (hq2.out _ h2).mono ?_; rintro e w3 ⟨rfl, h3, e3⟩; clear hq2))
      go_end0
      exact ⟨rfl, by rw [H.out, ← List.append_assoc]; exact h3, e2.trans e3⟩
end Go.Proofs.YtgnmgooljcgfiaaDoor
