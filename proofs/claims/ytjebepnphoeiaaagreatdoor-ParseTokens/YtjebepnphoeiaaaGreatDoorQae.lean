/- Pieces: GrA GrB ShelfCon. -/
import Derived.Test.YtjebepnphoeiaaaGreatDoorQad
import Derived.Laws.ResultCell
import Derived.Lib.Strings
import Derived.Shelf.Slices.Turned
import Derived.Test.YtjebepnphoeiaaaGreatDoorProg
namespace Go.Proofs.YtjebepnphoeiaaaGreatDoor
open Go.RowKit
set_option linter.unusedVariables false

def Gr.place (S : Nat) : Gr.Ts → Int
 | [] => (S : Int)
 | t :: _ => ((S - t.left : Nat) : Int)
def Gr.at0 (S : Nat) : Gr.Ts → Int
 | [] => 0
 | t :: _ => ((S - t.left : Nat) : Int)
def Gr.tokV (S : Nat) (ts : Gr.Ts) : Value := .agg #[.int .i64 (Gr.kd ts : Int), .string (Gr.hd ts), .int .i64 (Gr.hn ts : Int), .int .i64 (Gr.at0 S ts)]
def Gr.pe (p c : Int) : PanicEntry := { v := .iface 76 (.agg #[.int .i64 p, .int .i64 c]), recovered := false }
theorem pn_all (T : TypeId) (v : Value) (w : World) : (Instr.panic (.iface T v)).run Tryz.prog w = .halt (.panic (.iface T v)) w := rfl

set_option maxHeartbeats 1000000 in
set_option maxRecDepth 100000 in
theorem gr_goes (w : World) (B S : Nat) (ts : Gr.Ts) (h : Rd w B S ts) :
  Calls Tryz.prog 113 #[.pointer (some ⟨B, 0, none⟩)] w fun e w' => e = .returned (.bool true) ∧ w' = w := by
 have hk := h.k
 clear h
 go_enter Tryz.func113, Tryz.ntmps113
 go_wp2
 go_ret
 exact ⟨rfl, rfl⟩

set_option maxHeartbeats 1000000 in
set_option maxRecDepth 100000 in
theorem gr_next (w : World) (B S : Nat) (ts : Gr.Ts) (h : Rd w B S ts) :
  Calls Tryz.prog 63 #[.pointer (some ⟨B, 0, none⟩)] w fun e w' => e = .returned (.tuple #[Gr.tokV S ts, .bool (decide (ts ≠ []))]) ∧ Below w.heap.size w w' := by
 have q : Hid (∀ ob, Calls Tryz.prog 113 #[.pointer (some ⟨B, 0, none⟩)] (w.alloc ob) fun e w' => e = .returned (.bool true) ∧ w' = w.alloc ob) := fun ob => gr_goes _ B S ts (h.alloc ob)
 have hlt := h.lt
 cases ts with
 | nil =>
  obtain ⟨p, c, h0⟩ := h.form
  clear h
  go_enter Tryz.func63, Tryz.ntmps63
  go_wp2_with (go_at_call 113; refine (q.out _).mono ?_; rintro e w1 ⟨rfl, hw1⟩; rw [hw1]; clear hw1 w1)
  refine bodyPost_ret (v := .tuple #[.agg #[.int .i64 0, .string ⟨#[]⟩, .int .i64 0, .int .i64 0], .bool false]) (by rw [results_cell_tmp rfl]; simp [go_sem]) rfl ⟨rfl, ?_⟩
  exact bl_alloc (Below.refl _ _) _
 | cons t r =>
  obtain ⟨b, o, c, h0, hn, hl, c0, c1, c2, c3, -⟩ := h.cons
  have hb : b < w.heap.size := World.block_lt_of_cell? w _ c0
  have hz : (((r.length : Nat) : Int) + 1 == 0) = false := by rw [beq_eq_false_iff_ne]; omega
  clear h
  go_enter Tryz.func63, Tryz.ntmps63
  go_wp2_with (go_at_call 113; refine (q.out _).mono ?_; rintro e w1 ⟨rfl, hw1⟩; rw [hw1]; clear hw1 w1)
  refine bodyPost_ret (v := .tuple #[.agg #[.int .i64 (t.kind : Int), .string (Gr.tx t), .int .i64 (t.n : Int), .int .i64 ((S - t.left : Nat) : Int)], .bool true]) (by rw [results_cell_tmp rfl]; simp [go_sem]) rfl ⟨rfl, ?_⟩
  exact bl_alloc (Below.refl _ _) _

theorem grStr_eq (x y : ByteArray) : (x.toList == y.toList) = decide (x = y) := by
 rw [Lib.toList_data, Lib.toList_data, Bool.eq_iff_iff, beq_iff_eq, decide_eq_true_iff]
 constructor
 ·
  intro h
  cases x; cases y; congr 1; exact Array.toList_inj.1 h
 ·
  rintro rfl; rfl
theorem Gr.isT_eq (x : ByteArray) (t : Lx.Tok) (r : Gr.Ts) : Gr.isT x.data.toList (t :: r) = ((decide (t.kind = 3) || decide (t.kind = 6)) && decide (Gr.tx t = x)) := by
 have : (t.text = x.data.toList) ↔ (Gr.tx t = x) := by
  unfold Gr.tx
  constructor
  ·
   intro h; rw [h]
  ·
   intro h; rw [← h]
 unfold Gr.isT
 simp only
 rw [decide_eq_decide.2 this]

set_option maxHeartbeats 1000000 in
set_option maxRecDepth 100000 in
theorem gr_is (w : World) (B S : Nat) (ts : Gr.Ts) (h : Rd w B S ts) (x : ByteArray) (b : Bool) (hb : Gr.isT x.data.toList ts = b) :
  Calls Tryz.prog 51 #[.pointer (some ⟨B, 0, none⟩), .string x] w fun e w' => e = .returned (.bool b) ∧ Below w.heap.size w w' := by
 have q : Hid (Calls Tryz.prog 63 #[.pointer (some ⟨B, 0, none⟩)] w fun e w' => e = .returned (.tuple #[Gr.tokV S ts, .bool (decide (ts ≠ []))]) ∧ Below w.heap.size w w') := gr_next w B S ts h
 clear h
 cases ts with
 | nil =>
  have hb2 : b = false := hb.symm
  subst hb2
  clear hb
  unfold Gr.tokV Gr.kd Gr.hd Gr.hn Gr.at0 at q
  go_enter Tryz.func51, Tryz.ntmps51
  go_wp2_with (go_at_call 63; refine q.out.mono ?_; rintro e w1 ⟨rfl, hB1⟩)
  go_ret
  exact ⟨rfl, bl_alloc hB1 _⟩
 | cons t r =>
  rw [Gr.isT_eq] at hb
  unfold Gr.tokV Gr.kd Gr.hd Gr.hn Gr.at0 at q
  obtain ⟨E, hE⟩ : ∃ E, ((Gr.tx t).toList == x.toList) = E := ⟨_, rfl⟩
  rw [← grStr_eq, hE] at hb
  obtain ⟨K, hK⟩ : ∃ K, t.kind = K := ⟨_, rfl⟩
  have q2 : Hid (Calls Tryz.prog 63 #[.pointer (some ⟨B, 0, none⟩)] w fun e w' => e = .returned (.tuple #[.agg #[.int .i64 (K : Int), .string (Gr.tx t), .int .i64 (t.n : Int), .int .i64 ((S - t.left : Nat) : Int)], .bool true]) ∧ Below w.heap.size w w') := by rw [← hK]; exact q
  rw [hK] at hb
  clear q hK
  have q := q2
  clear q2
  by_cases h3 : K = 3
  ·
   subst h3
   cases E with
   | true =>
    have hb2 : b = true := by rw [← hb]; rfl
    subst hb2
    clear hb
    go_enter Tryz.func51, Tryz.ntmps51
    go_wp2_with (go_at_call 63; refine q.out.mono ?_; rintro e w1 ⟨rfl, hB1⟩)
    go_ret
    exact ⟨rfl, bl_alloc hB1 _⟩
   | false =>
    have hb2 : b = false := by rw [← hb]; rfl
    subst hb2
    clear hb
    go_enter Tryz.func51, Tryz.ntmps51
    go_wp2_with (go_at_call 63; refine q.out.mono ?_; rintro e w1 ⟨rfl, hB1⟩)
    go_ret
    exact ⟨rfl, bl_alloc hB1 _⟩
  ·
   by_cases h6 : K = 6
   ·
    subst h6
    cases E with
    | true =>
     have hb2 : b = true := by rw [← hb]; rfl
     subst hb2
     clear hb
     go_enter Tryz.func51, Tryz.ntmps51
     go_wp2_with (go_at_call 63; refine q.out.mono ?_; rintro e w1 ⟨rfl, hB1⟩)
     go_ret
     exact ⟨rfl, bl_alloc hB1 _⟩
    | false =>
     have hb2 : b = false := by rw [← hb]; rfl
     subst hb2
     clear hb
     go_enter Tryz.func51, Tryz.ntmps51
     go_wp2_with (go_at_call 63; refine q.out.mono ?_; rintro e w1 ⟨rfl, hB1⟩)
     go_ret
     exact ⟨rfl, bl_alloc hB1 _⟩
   ·
    have hb2 : b = false := by rw [← hb]; simp [h3, h6]
    subst hb2
    clear hb
    have hk3 : ((K : Int) == 3) = false := by rw [beq_eq_false_iff_ne]; omega
    have hk6 : ((K : Int) == 6) = false := by rw [beq_eq_false_iff_ne]; omega
    clear h3 h6
    go_enter Tryz.func51, Tryz.ntmps51
    go_wp2_with (go_at_call 63; refine q.out.mono ?_; rintro e w1 ⟨rfl, hB1⟩)
    go_ret
    exact ⟨rfl, bl_alloc hB1 _⟩

set_option maxHeartbeats 1000000 in
set_option maxRecDepth 100000 in
theorem gr_step (w : World) (B S : Nat) (t : Lx.Tok) (r : Gr.Ts) (h : Rd w B S (t :: r)) :
  Calls Tryz.prog 105 #[.pointer (some ⟨B, 0, none⟩)] w fun e w' => e = .returned (.tuple #[]) ∧ Rd w' B S r ∧ Bes B w w' := by
 obtain ⟨b, o, c, h0, hn, hl, c0, c1, c2, c3, h4⟩ := h.cons
 have H : Hid (∀ k, k = r.length → Rd (w.setCell ⟨B, 0, none⟩ (.slice (some ⟨b, o + 4, none⟩) k (c - 1))) B S r) := fun k hk => h.next (fun t ht => List.mem_cons_of_mem _ ht) (by simp) (.inl ⟨b, o + 4, c - 1, by rw [hk], hn, by omega, h4⟩)
 have H1 : Hid (c = 1 → ∀ k, k = r.length → Rd (w.setCell ⟨B, 0, none⟩ (.slice (some ⟨b, o, none⟩) k 0)) B S r) := fun hc k hk => h.next (fun t ht => List.mem_cons_of_mem _ ht) (by simp) (by
  have : r = [] := List.eq_nil_of_length_eq_zero (by omega)
  subst this
  exact .inr ⟨rfl, _, _, by rw [hk]; rfl⟩)
 have z0 := h.z0
 have hl2 := h.len
 clear h h4 c0 c1 c2 c3
 go_enter Tryz.func105, Tryz.ntmps105
 go_wp2
 ·
  go_end0
  exact ⟨rfl, H1.out (by assumption) _ rfl, (Bes.refl _ _).set _ _⟩
 ·
  go_end0
  exact ⟨rfl, H.out _ rfl, (Bes.refl _ _).set _ _⟩

set_option maxHeartbeats 1000000 in
set_option maxRecDepth 100000 in
theorem gr_place (w : World) (B S : Nat) (ts : Gr.Ts) (h : Rd w B S ts) :
  Calls Tryz.prog 114 #[.pointer (some ⟨B, 0, none⟩)] w fun e w' => e = .returned (.int .i64 (Gr.place S ts)) ∧ w' = w := by
 cases ts with
 | nil =>
  obtain ⟨p, c, h0⟩ := h.form
  have he := h.e
  clear h
  go_enter Tryz.func114, Tryz.ntmps114
  go_wp2
  go_ret
  exact ⟨rfl, rfl⟩
 | cons t r =>
  obtain ⟨b, o, c, h0, hn, hl, c0, c1, c2, c3, -⟩ := h.cons
  have hz : (((r.length : Nat) : Int) + 1 == 0) = false := by rw [beq_eq_false_iff_ne]; omega
  clear h
  go_enter Tryz.func114, Tryz.ntmps114
  go_wp2
  go_ret
  exact ⟨rfl, rfl⟩

set_option maxHeartbeats 1000000 in
set_option maxRecDepth 100000 in
theorem gr_take (w : World) (B S : Nat) (ts : Gr.Ts) (h : Rd w B S ts) (x : ByteArray) (b : Bool) (hb : Gr.isT x.data.toList ts = b) :
  Calls Tryz.prog 53 #[.pointer (some ⟨B, 0, none⟩), .string x] w fun e w' => e = .returned (.bool b) ∧ Rd w' B S (bif b then ts.tail else ts) ∧ Bes B w w' := by
 have q : Hid (Calls Tryz.prog 51 #[.pointer (some ⟨B, 0, none⟩), .string x] w fun e w' => e = .returned (.bool b) ∧ Below w.heap.size w w') := gr_is w B S ts h x b hb
 cases b with
 | false =>
  have H : Hid (Rd w B S ts) := h
  clear h hb
  go_enter Tryz.func53, Tryz.ntmps53
  go_wp2_with (go_at_call 51; refine q.out.mono ?_; rintro e w1 ⟨rfl, hB1⟩)
  go_ret
  exact ⟨rfl, H.out.below hB1, Bes.of_below hB1⟩
 | true =>
  cases ts with
  | nil => cases hb
  | cons t r =>
   have q2 : Hid (∀ w', Below w.heap.size w w' → Calls Tryz.prog 105 #[.pointer (some ⟨B, 0, none⟩)] w' fun e w'' => e = .returned (.tuple #[]) ∧ Rd w'' B S r ∧ Bes B w' w'') := fun w' h' => gr_step w' B S t r (h.below h')
   clear h hb
   go_enter Tryz.func53, Tryz.ntmps53
   go_wp2_with (first | (go_at_call 51; refine q.out.mono ?_; rintro e w1 ⟨rfl, hB1⟩) | (go_at_call 105; refine (q2.out _ hB1).mono ?_; rintro e w2 ⟨rfl, hR, hB2⟩))
   go_ret
   exact ⟨rfl, hR, (Bes.of_below hB1).trans hB2⟩

set_option maxHeartbeats 1000000 in
set_option maxRecDepth 100000 in
theorem gr_giveUp (w : World) (B S : Nat) (ts : Gr.Ts) (h : Rd w B S ts) :
  Calls Tryz.prog 85 #[.pointer (some ⟨B, 0, none⟩)] w fun e w' => e = .panicked [Gr.pe (Gr.place S ts) 11] ∧ w' = w := by
 have q : Hid (Calls Tryz.prog 114 #[.pointer (some ⟨B, 0, none⟩)] w fun e w' => e = .returned (.int .i64 (Gr.place S ts)) ∧ w' = w) := gr_place w B S ts h
 have hp := pn_all
 clear h
 go_enter Tryz.func85, Tryz.ntmps85
 go_wp2_with (go_at_call 114; refine q.out.mono ?_; rintro e w1 ⟨rfl, hw1⟩; rw [hw1]; clear hw1 w1)
 exact ⟨rfl, rfl, rfl⟩

set_option maxHeartbeats 1000000 in
set_option maxRecDepth 100000 in
theorem gr_need_no (w : World) (B S : Nat) (ts : Gr.Ts) (h : Rd w B S ts) (x : ByteArray) (hb : Gr.isT x.data.toList ts = false) :
  Calls Tryz.prog 72 #[.pointer (some ⟨B, 0, none⟩), .string x] w fun e w' => e = .panicked [Gr.pe (Gr.place S ts) 11] ∧ Rd w' B S ts ∧ Bes B w w' := by
 have q2 : Hid (∀ w', Rd w' B S ts → Calls Tryz.prog 85 #[.pointer (some ⟨B, 0, none⟩)] w' fun e w'' => e = .panicked [Gr.pe (Gr.place S ts) 11] ∧ w'' = w') := fun w' h' => gr_giveUp w' B S ts h'
 have q3 : Hid (Calls Tryz.prog 53 #[.pointer (some ⟨B, 0, none⟩), .string x] w fun e w' => e = .returned (.bool false) ∧ Rd w' B S ts ∧ Bes B w w') := gr_take w B S ts h x false hb
 clear h hb
 go_enter Tryz.func72, Tryz.ntmps72
 go_wp2_with (first | (go_at_call 53; refine q3.out.mono ?_; rintro e w1 ⟨rfl, hR, hB1⟩) | (go_at_call 85; refine (q2.out _ hR).mono ?_; rintro e w2 ⟨rfl, hw2⟩; rw [hw2]; clear hw2 w2))
 exact ⟨rfl, rfl, hR, hB1⟩

set_option maxHeartbeats 1000000 in
set_option maxRecDepth 100000 in
theorem gr_need_yes (w : World) (B S : Nat) (ts : Gr.Ts) (h : Rd w B S ts) (x : ByteArray) (hb : Gr.isT x.data.toList ts = true) :
  Calls Tryz.prog 72 #[.pointer (some ⟨B, 0, none⟩), .string x] w fun e w' => e = .returned (.tuple #[]) ∧ Rd w' B S ts.tail ∧ Bes B w w' := by
 have q3 : Hid (Calls Tryz.prog 53 #[.pointer (some ⟨B, 0, none⟩), .string x] w fun e w' => e = .returned (.bool true) ∧ Rd w' B S ts.tail ∧ Bes B w w') := gr_take w B S ts h x true hb
 clear h hb
 go_enter Tryz.func72, Tryz.ntmps72
 go_wp2_with (go_at_call 53; refine q3.out.mono ?_; rintro e w1 ⟨rfl, hR, hB1⟩)
 go_end0
 exact ⟨rfl, hR, hB1⟩

set_option maxHeartbeats 1000000 in
set_option maxRecDepth 100000 in
theorem gr_name_no (w : World) (B S : Nat) (ts : Gr.Ts) (h : Rd w B S ts) (k : Nat) (hk : Gr.kd ts ≠ k) :
  Calls Tryz.prog 185 #[.pointer (some ⟨B, 0, none⟩), .int .i64 (k : Int)] w fun e w' => e = .panicked [Gr.pe (Gr.place S ts) 11] ∧ Rd w' B S ts ∧ Bes B w w' := by
 have q2 : Hid (∀ w', Rd w' B S ts → Calls Tryz.prog 85 #[.pointer (some ⟨B, 0, none⟩)] w' fun e w'' => e = .panicked [Gr.pe (Gr.place S ts) 11] ∧ w'' = w') := fun w' h' => gr_giveUp w' B S ts h'
 have q3 : Hid (Calls Tryz.prog 63 #[.pointer (some ⟨B, 0, none⟩)] w fun e w' => e = .returned (.tuple #[Gr.tokV S ts, .bool (decide (ts ≠ []))]) ∧ Below w.heap.size w w') := gr_next w B S ts h
 have HR : Hid (Rd w B S ts) := h
 have hne : ((Gr.kd ts : Int) == (k : Int)) = false := by rw [beq_eq_false_iff_ne]; omega
 clear h hk
 unfold Gr.tokV at q3
 generalize (Gr.kd ts : Int) = K at *
 go_enter Tryz.func185, Tryz.ntmps185
 go_wp2_with (first | (go_at_call 63; refine q3.out.mono ?_; rintro e w1 ⟨rfl, hB1⟩) | (go_at_call 85; refine (q2.out _ (HR.out.below (bl_alloc hB1 _))).mono ?_; rintro e w2 ⟨rfl, hw2⟩; rw [hw2]; clear hw2 w2))
 exact ⟨rfl, rfl, HR.out.below (bl_alloc hB1 _), Bes.of_below (bl_alloc hB1 _)⟩

set_option maxHeartbeats 1000000 in
set_option maxRecDepth 100000 in
theorem gr_name_yes (w : World) (B S : Nat) (ts : Gr.Ts) (h : Rd w B S ts) (k : Nat) (hk : Gr.kd ts = k + 1) :
  Calls Tryz.prog 185 #[.pointer (some ⟨B, 0, none⟩), .int .i64 ((k + 1 : Nat) : Int)] w fun e w' => e = .returned (.string (Gr.hd ts)) ∧ Rd w' B S ts.tail ∧ Bes B w w' := by
 cases ts with
 | nil => cases hk
 | cons t r =>
  have q2 : Hid (∀ w', Below w.heap.size w w' → Calls Tryz.prog 105 #[.pointer (some ⟨B, 0, none⟩)] w' fun e w'' => e = .returned (.tuple #[]) ∧ Rd w'' B S r ∧ Bes B w' w'') := fun w' h' => gr_step w' B S t r (h.below h')
  have q3 : Hid (Calls Tryz.prog 63 #[.pointer (some ⟨B, 0, none⟩)] w fun e w' => e = .returned (.tuple #[Gr.tokV S (t :: r), .bool true]) ∧ Below w.heap.size w w') := gr_next w B S (t :: r) h
  have hlt := h.lt
  clear h
  unfold Gr.tokV at q3
  rw [hk] at q3
  generalize hK : ((k + 1 : Nat) : Int) = K at *
  generalize Gr.hd (t :: r) = T at *
  clear hK hk
  go_enter Tryz.func185, Tryz.ntmps185
  go_wp2_with (first | (go_at_call 63; refine q3.out.mono ?_; rintro e w1 ⟨rfl, hB1⟩) | (go_at_call 105; refine (q2.out _ (bl_alloc hB1 _)).mono ?_; rintro e w2 ⟨rfl, hR, hB2⟩; have x1 : w2.cell? ⟨w1.heap.size, 1, none⟩ = some (.string T) := (hB2.cell (by simp) (by have := hB1.size; simp; omega)).trans (by simp [go_sem])))
  go_ret
  exact ⟨rfl, hR, (Bes.of_below (bl_alloc hB1 _)).trans hB2⟩
def Gr.idx (a c : Bool) : Int := if a = true then 0 else if c = true then 1 else -1
def Gr.At2 (w : World) (a c : Bool) (v : Value) (wr : World) : Prop := Below w.heap.size w wr ∧ (v = .int .i64 0 ∨ (v = .int .i64 1 ∧ a = false) ∨ (v = .int .i64 2 ∧ a = false ∧ c = false))

set_option maxHeartbeats 1000000 in
set_option maxRecDepth 100000 in
theorem gr_indexF (w : World) (B S : Nat) (ts : Gr.Ts) (h : Rd w B S ts) (b : Nat) (x y : ByteArray) (c0 : w.cell? ⟨b, 0, none⟩ = some (.string x)) (c1 : w.cell? ⟨b, 1, none⟩ = some (.string y)) (a c : Bool) (ha : Gr.isT x.data.toList ts = a) (hc : Gr.isT y.data.toList ts = c) :
  Calls Tryz.prog 241 #[.slice (some ⟨b, 0, none⟩) 2 2, .func (.func 51) #[.pointer (some ⟨B, 0, none⟩)] #[]] w fun e w' => e = .returned (.int .i64 (Gr.idx a c)) ∧ Below w.heap.size w w' := by
 have hb : b < w.heap.size := World.block_lt_of_cell? w _ c0
 have q0 : Hid (∀ w', Below w.heap.size w w' → Calls Tryz.prog 51 #[.pointer (some ⟨B, 0, none⟩), .string x] w' fun e w'' => e = .returned (.bool a) ∧ Below w'.heap.size w' w'') := fun w' h' => gr_is w' B S ts (h.below h') x a ha
 have q1 : Hid (∀ w', Below w.heap.size w w' → Calls Tryz.prog 51 #[.pointer (some ⟨B, 0, none⟩), .string y] w' fun e w'' => e = .returned (.bool c) ∧ Below w'.heap.size w' w'') := fun w' h' => gr_is w' B S ts (h.below h') y c hc
 clear ha hc h
 go_enter Tryz.func241, Tryz.ntmps241
 go_wp2
 go_loopw [8] (Gr.At2 w a c) (fun v _ => 2 - (intOf v).toNat)
 case atStart => exact ⟨Below.refl _ _, .inl rfl⟩
 case round =>
  obtain ⟨hB, hrel⟩ := hrel
  have d0 : wr.cell? ⟨b, 0, none⟩ = some (.string x) := (hB.cell hb).trans c0
  have d1 : wr.cell? ⟨b, 1, none⟩ = some (.string y) := (hB.cell hb).trans c1
  rcases hrel with rfl | ⟨rfl, rfl⟩ | ⟨rfl, rfl, rfl⟩
  ·
   cases a with
   | true =>
    go_wp2_with (go_at_call 51; refine (q0.out _ hB).mono ?_; rintro e w1 ⟨rfl, hb1⟩; have hB1 := bl_tr hB hb1)
    go_ret
    exact ⟨rfl, hB1⟩
   | false =>
    go_wp2_with (go_at_call 51; refine (q0.out _ hB).mono ?_; rintro e w1 ⟨rfl, hb1⟩; have hB1 := bl_tr hB hb1)
    go_roundw
    case rel => exact ⟨hB1, .inr (.inl ⟨rfl, rfl⟩)⟩
    case measure => simp [intOf]
  ·
   cases c with
   | true =>
    go_wp2_with (go_at_call 51; refine (q1.out _ hB).mono ?_; rintro e w1 ⟨rfl, hb1⟩; have hB1 := bl_tr hB hb1)
    go_ret
    exact ⟨rfl, hB1⟩
   | false =>
    go_wp2_with (go_at_call 51; refine (q1.out _ hB).mono ?_; rintro e w1 ⟨rfl, hb1⟩; have hB1 := bl_tr hB hb1)
    go_roundw
    case rel => exact ⟨hB1, .inr (.inr ⟨rfl, rfl, rfl⟩)⟩
    case measure => simp [intOf]
  ·
   go_wp2
   go_ret
   exact ⟨rfl, hB⟩

set_option maxHeartbeats 1000000 in
set_option maxRecDepth 100000 in
theorem gr_containsF (w : World) (B S : Nat) (ts : Gr.Ts) (h : Rd w B S ts) (b : Nat) (x y : ByteArray) (c0 : w.cell? ⟨b, 0, none⟩ = some (.string x)) (c1 : w.cell? ⟨b, 1, none⟩ = some (.string y)) (r : Bool) (hr : (Gr.isT x.data.toList ts || Gr.isT y.data.toList ts) = r) :
  Calls Tryz.prog 197 #[.slice (some ⟨b, 0, none⟩) 2 2, .func (.func 51) #[.pointer (some ⟨B, 0, none⟩)] #[]] w fun e w' => e = .returned (.bool r) ∧ Below w.heap.size w w' := by
 obtain ⟨k, hk, hkr⟩ : ∃ k : Int, Gr.idx (Gr.isT x.data.toList ts) (Gr.isT y.data.toList ts) = k ∧ decide (k ≥ 0) = r := by
  refine ⟨_, rfl, ?_⟩
  rw [← hr]
  cases Gr.isT x.data.toList ts <;> cases Gr.isT y.data.toList ts <;> rfl
 have q : Hid (Calls Tryz.prog 241 #[.slice (some ⟨b, 0, none⟩) 2 2, .func (.func 51) #[.pointer (some ⟨B, 0, none⟩)] #[]] w fun e w' => e = .returned (.int .i64 k) ∧ Below w.heap.size w w') := by rw [← hk]; exact gr_indexF w B S ts h b x y c0 c1 _ _ rfl rfl
 clear h c0 c1 hr hk
 go_enter Tryz.func197, Tryz.ntmps197
 go_wp2_with (go_at_call 241; refine q.out.mono ?_; rintro e w1 ⟨rfl, hb1⟩)
 go_ret
 exact ⟨by first | rfl | simp [hkr], hb1⟩
theorem mf_any (fn : Fn) (first cap : Array Value) (w : World) : (Instr.makeFunc fn first cap).run Tryz.prog w = .ok (.func fn first cap) w := rfl

set_option maxHeartbeats 1000000 in
set_option maxRecDepth 100000 in
theorem gr_op_no (w : World) (B S : Nat) (ts : Gr.Ts) (h : Rd w B S ts) (b : Nat) (x y : ByteArray) (c0 : w.cell? ⟨b, 0, none⟩ = some (.string x)) (c1 : w.cell? ⟨b, 1, none⟩ = some (.string y)) (hx : Gr.isT x.data.toList ts = false) (hy : Gr.isT y.data.toList ts = false) :
  Calls Tryz.prog 127 #[.pointer (some ⟨B, 0, none⟩), .slice (some ⟨b, 0, none⟩) 2 2] w fun e w' => e = .returned (.int .i64 0) ∧ Rd w' B S ts ∧ Bes B w w' := by
 have q := gr_containsF w B S ts h b x y c0 c1 false (by rw [hx, hy]; rfl)
 have hmf := mf_any
 have H : Hid (Rd w B S ts) := h
 clear h c0 c1 hx hy
 go_enter Tryz.func127, Tryz.ntmps127
 go_wp2_with (go_at_call 197; refine q.mono ?_; rintro e w1 ⟨rfl, hb1⟩)
 go_ret
 exact ⟨rfl, H.out.below hb1, Bes.of_below hb1⟩

def Gr.opOf (c : UInt8) : Int := if c = 43 then 1 else if c = 45 then 2 else if c = 42 then 3 else if c = 47 then 4 else if c = 61 then 5 else 6

set_option maxHeartbeats 4000000 in
set_option maxRecDepth 100000 in
theorem gr_op_yes (w : World) (B S : Nat) (ts : Gr.Ts) (h : Rd w B S ts) (b : Nat) (x y : ByteArray) (c0 : w.cell? ⟨b, 0, none⟩ = some (.string x)) (c1 : w.cell? ⟨b, 1, none⟩ = some (.string y)) (hxy : (Gr.isT x.data.toList ts || Gr.isT y.data.toList ts) = true)
  (c : UInt8) (hc : c = 43 ∨ c = 45 ∨ c = 42 ∨ c = 47 ∨ c = 61 ∨ c = 60) (hd : Gr.hd ts = ⟨#[c]⟩) :
  Calls Tryz.prog 127 #[.pointer (some ⟨B, 0, none⟩), .slice (some ⟨b, 0, none⟩) 2 2] w fun e w' => e = .returned (.int .i64 (Gr.opOf c)) ∧ Rd w' B S ts.tail ∧ Bes B w w' := by
 have q := gr_containsF w B S ts h b x y c0 c1 true hxy
 have hmf := mf_any
 cases ts with
 | nil => cases hxy
 | cons t r =>
  have hlt := h.lt
  have q2 : Hid (∀ w', Below w.heap.size w w' → Calls Tryz.prog 105 #[.pointer (some ⟨B, 0, none⟩)] w' fun e w'' => e = .returned (.tuple #[]) ∧ Rd w'' B S r ∧ Bes B w' w'') := fun w' h' => gr_step w' B S t r (h.below h')
  have q3 : Hid (∀ w', Below w.heap.size w w' → Calls Tryz.prog 63 #[.pointer (some ⟨B, 0, none⟩)] w' fun e w'' => e = .returned (.tuple #[.agg #[.int .i64 (Gr.kd (t :: r) : Int), .string ⟨#[c]⟩, .int .i64 (Gr.hn (t :: r) : Int), .int .i64 (Gr.at0 S (t :: r))], .bool true]) ∧ Below w'.heap.size w' w'') := fun w' h' => by rw [← hd]; exact gr_next w' B S (t :: r) (h.below h')
  clear h c0 c1 hxy hd
  generalize (Gr.kd (t :: r) : Int) = n0 at *
  generalize (Gr.hn (t :: r) : Int) = n1 at *
  generalize Gr.at0 S (t :: r) = n2 at *
  rcases hc with rfl | rfl | rfl | rfl | rfl | rfl
  all_goals
   go_enter Tryz.func127, Tryz.ntmps127
   go_wp2_with (first | (go_at_call 197; refine q.mono ?_; rintro e w1 ⟨rfl, hb1⟩) | (go_at_call 63; refine (q3.out _ hb1).mono ?_; rintro e w2 ⟨rfl, hb2⟩; have hB2 := bl_tr hb1 hb2) | (go_at_call 105; refine (q2.out _ (bl_alloc hB2 _)).mono ?_; rintro e w3 ⟨rfl, hR, hB3⟩; have x1 := (hB3.cell (p := ⟨w2.heap.size, 1, none⟩) (by simp) (by have := hB2.size; simp; omega)).trans (by simp [go_sem]; rfl)))
   go_ret
   exact ⟨rfl, hR, (Bes.of_below (bl_alloc hB2 _)).trans hB3⟩
end Go.Proofs.YtjebepnphoeiaaaGreatDoor
namespace Go.Proofs
open Go.Shelf
def Tryz.lays107_ren : Go.Shelf.Ren := ⟨fun | 107 => 219 | 108 => 251 | n => n, fun | 28 => 45 | 3 => 3 | 4 => 4 | 0 => 0 | n => n, fun | n => n⟩
theorem Tryz.lays107 : Go.Proofs.Lays.n107 Tryz.prog Tryz.lays107_ren := {
 mixed := by kernel_rfl
 f107 := Tryz.func219.trans (congrArg some (by kernel_rfl))
 f108 := Tryz.func251.trans (congrArg some (by kernel_rfl))
 t0 := Tryz.underlying0
 a0 := Tryz.isAgg0
 z0 := Tryz.sizeOf0
 v0 := Tryz.zeroValue0
 t3 := Tryz.underlying3
 a3 := Tryz.isAgg3
 z3 := Tryz.sizeOf3
 v3 := Tryz.zeroValue3
 t4 := Tryz.underlying4
 a4 := Tryz.isAgg4
 z4 := Tryz.sizeOf4
 v4 := Tryz.zeroValue4
 t28 := Tryz.underlying45
 a28 := Tryz.isAgg45
 z28 := Tryz.sizeOf45
 v28 := Tryz.zeroValue45 }
open Go.Lib in
theorem Tryz.slices_Contains_int (b off n c : Nat) (zs : List Int) (x : Int) (w : World) (hz : n ≤ zs.length) (hbig : n ≤ 9223372036854775807) (hc : ∀ j, j < zs.length → w.cell? ⟨b, off + j, none⟩ = some (.int .i64 (zs.getD j 0))) :
  Calls Tryz.prog 219 #[.slice (some ⟨b, off, none⟩) n c, .int .i64 x] w fun e w' => e = .returned (.bool ((zs.take n).contains x)) ∧ w' = w := Any.slices_Contains_int Tryz.lays107 b off n c zs x w hz hbig hc
end Go.Proofs
