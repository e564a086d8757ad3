/- put, set: what is known of a number. -/
import Derived.Test.YtknlpeloaapaiaaUn1
namespace Go.Proofs.Ytknlpeloaapaiaa
open Go.RowKit
set_option linter.unusedVariables false
set_option linter.unusedSimpArgs false

abbrev JT : TypeId := 59
abbrev CT : TypeId := 100
abbrev CS : TypeId := 57
/-- One call of Unify: the joiner at J. -/
structure Jn (W : World) (J S g cap : Nat) (mv : Value) (p0 p1 : Option Addr) (more : List Value) (cv : Value) (m : Nat) : Prop where
  jn : Arr W J JT [.pointer (some ⟨S, 0, none⟩), cv]
  sto : Sto W S g cap mv p0 p1 more
  own : ∃ xs, W.ownsRow (J + 1) CT 2 cv m xs
  sj : S < J
  gj : g < J
theorem Jn.stays {W W' : World} {J S g cap : Nat} {mv : Value} {p0 p1 : Option Addr} {more : List Value} {cv : Value} {m : Nat} (h : Jn W J S g cap mv p0 p1 more cv m) (hb : Below W.heap.size W W') : Jn W' J S g cap mv p0 p1 more cv m :=
  ⟨h.jn.stays hb, h.sto.stays hb, h.own.elim fun xs hx => ⟨xs, own_stays hx hb⟩, h.sj, h.gj⟩
/-- What such a call leaves alone: all but the joiner, the list of pointers, the list of changes. -/
structure Fr (J g : Nat) (cv : Value) (w w' : World) : Prop where
  os : w'.os = w.os
  tape : w'.tape = w.tape
  output : w'.output = w.output
  size : w.heap.size ≤ w'.heap.size
  block : ∀ b, b < w.heap.size → b ≠ J → b ≠ g → some b ≠ cv.ownBlock → w'.heap[b]? = w.heap[b]?
theorem Fr.arr {J g : Nat} {cv : Value} {w w' : World} (h : Fr J g cv w w') {b : Nat} {T : TypeId} {cur : List Value} (hb : Arr w b T cur) (h1 : b ≠ J) (h2 : b ≠ g) (h3 : some b ≠ cv.ownBlock) : Arr w' b T cur := ⟨by rw [h.block b hb.lt h1 h2 h3]; exact hb.b⟩
theorem Fr.below {J g : Nat} {cv : Value} {w w' : World} (h : Fr J g cv w w') {B : Nat} (hB : B ≤ w.heap.size) (h1 : B ≤ J) (h2 : B ≤ g) (h3 : ∀ b, cv.ownBlock = some b → B ≤ b) : Below B w w' :=
  ⟨h.os, h.tape, h.output, h.size, fun k hk => h.block k (by omega) (by omega) (by omega) (fun e => by have := h3 k e.symm; omega)⟩
theorem Fr.keeps {J g : Nat} {cv : Value} {w w' : World} (h : Fr J g cv w w') {K : Nat → Prop} (h1 : ∀ b, K b → b < w.heap.size → b ≠ J ∧ b ≠ g ∧ some b ≠ cv.ownBlock) : Keeps K w w' := fun b o v hb hv => by
  have hl := World.block_lt_of_cell? w _ hv
  obtain ⟨k1, k2, k3⟩ := h1 b hb hl
  exact (World.cell?_of_block (w := w) (h.block b hl k1 k2 k3)).trans hv

set_option maxRecDepth 100000 in
theorem put_any (w : World) (S g cap : Nat) (mv : Value) (p0 p1 : Option Addr) (more : List Value) (h : Sto w S g cap mv p0 p1 more) (n : Nat) (hn : n < 2) (f : Option Addr) : Calls Try.prog 61 #[.pointer (some ⟨S, 0, none⟩), .int .i64 (n : Int), .pointer f] w fun e w' => e = .returned (.tuple #[]) ∧ w' = w.setCell ⟨g, n, none⟩ (.pointer f) := by
  have c0 := h.st.cell
  have c1 := h.kn.cell
  have fz := h.kn.frozen
  have hle := h.le
  have hlt : (n : Int) < 2 := by omega
  have hv : w.cell? ⟨g, n, none⟩ = some (.pointer (kp p0 p1 n)) := by
    rw [c1]
    match n, hn with
    | 0, _ => rfl
    | 1, _ => rfl
  clear h c1
  go_enter Try.func61, Try.ntmps61
  go_wp2
  first | refine bodyPost_end (results_none rfl _ _ _) rfl ?_ | refine bodyPost_ret (results_none rfl _ _ _) rfl ?_
  exact ⟨rfl, rfl⟩
/-- What was put for a number. -/
def kset (n : Nat) (p0 p1 : Option Addr) (f : Option Addr) : Option Addr × Option Addr := if n = 0 then (f, p1) else (p0, f)
theorem Sto.put {w : World} {S g cap : Nat} {mv : Value} {p0 p1 : Option Addr} {more : List Value} (h : Sto w S g cap mv p0 p1 more) (n : Nat) (hn : n < 2) (f : Option Addr) : Sto (w.setCell ⟨g, n, none⟩ (.pointer f)) S g cap mv (kset n p0 p1 f).1 (kset n p0 p1 f).2 more := by
  refine ⟨h.st.other (p := ⟨g, n, none⟩) h.ne _, ?_, h.ne, h.le⟩
  have := h.kn.set n (.pointer f)
  match n, hn, this with
  | 0, _, this => exact this
  | 1, _, this => exact this
theorem info_ch : (Try.prog.info? 100).map (fun i => (i.zero, i.size, i.bytes)) = some (some (.agg #[.int .i64 0, .pointer none]), 2, 16) := by kernel_rfl
theorem app_ch (wd : World) (J : Nat) (m : Nat) (a : Option Addr) (c : Nat) (xs : List Value) (own : wd.ownsRow (J + 1) CT 2 (.slice a m c) m xs) (hm : m ≤ 1000) (hJ : J < wd.heap.size) (n : Int) (q : Option Addr) : ∃ a' c' w', (Builtin.append_ #[CS, CS] CS #[.slice a m c, .slice (some ⟨wd.heap.size, 0, none⟩) 1 1]).run Try.prog (wd.alloc (.cells #[.int .i64 n, .pointer q] CT)) = .ok (.slice a' (m + 1) c') w' ∧ (∃ xs', w'.ownsRow (J + 1) CT 2 (.slice a' (m + 1) c') (m + 1) xs') ∧ (wd.alloc (.cells #[.int .i64 n, .pointer q] CT)).grownBy w' (Value.slice a m c).ownBlock ∧ ((Value.slice a' (m + 1) c').ownBlock = (Value.slice a m c).ownBlock ∨ (Value.slice a' (m + 1) c').ownBlock = some (wd.heap.size + 1)) := by
  obtain ⟨i0, hi0, hz0, hz1, hz2⟩ := info_parts0 info_ch
  have HA := bl_alloc (Below.refl wd.heap.size wd) (.cells #[.int .i64 n, .pointer q] CT)
  obtain ⟨v', w', hr, ho', hg', -, hob⟩ := run_append_own_at (P := Try.prog) (w := wd.alloc (.cells #[.int .i64 n, .pointer q] CT)) (J + 1) CS CS CT i0 (.agg #[.int .i64 0, .pointer none]) 2 16 Try.underlying57 hi0 hz0 hz1 hz2 rfl (by decide) (.slice a m c) m _ (own_stays own HA) ⟨wd.heap.size, 0, none⟩ 1 1 [.int .i64 n, .pointer q] rfl
    (fun j u hj => by
      have h1 := heap_alloc_at wd (.cells #[.int .i64 n, .pointer q] CT)
      have h2 : (⟨wd.heap.size, 0, none⟩ : Addr).add j = ⟨wd.heap.size, j, none⟩ := by simp [Addr.add]; omega
      rw [h2, cell_at h1]
      match j, hj with
      | 0, hj => exact hj
      | 1, hj => exact hj
      | j + 2, hj => simp at hj) (fun u hu => by simp at hu; rcases hu with rfl | rfl <;> rfl) (by unfold maxLen; omega) (by omega) (by rw [size_alloc]; omega)
  obtain ⟨a', c', rfl⟩ := own_form ho'
  exact ⟨a', c', w', hr, ⟨_, ho'⟩, hg', by rw [size_alloc] at hob; exact hob⟩

set_option maxHeartbeats 4000000 in
set_option maxRecDepth 100000 in
theorem set_any (w : World) (J S g cap : Nat) (mv : Value) (p0 p1 : Option Addr) (more : List Value) (cv : Value) (m : Nat) (h : Jn w J S g cap mv p0 p1 more cv m) (hm : m ≤ 1000) (n : Nat) (hn : n < 2) (f0 f1 f2 f3 f5 : Int) (f4 f6 : Option Addr) : Calls Try.prog 84 #[.pointer (some ⟨J, 0, none⟩), .int .i64 (n : Int), .agg #[.int .i64 f0, .int .i64 f1, .int .i64 f2, .int .i64 f3, .pointer f4, .int .i64 f5, .pointer f6]] w fun e w' => e = .returned (.tuple #[]) ∧ (∃ cv', Jn w' J S g cap mv (kset n p0 p1 (some ⟨w.heap.size, 0, none⟩)).1 (kset n p0 p1 (some ⟨w.heap.size, 0, none⟩)).2 more cv' (m + 1) ∧ (cv'.ownBlock = cv.ownBlock ∨ ∃ r, cv'.ownBlock = some r ∧ w.heap.size < r)) ∧ Arr w' w.heap.size FT [.int .i64 f0, .int .i64 f1, .int .i64 f2, .int .i64 f3, .pointer f4, .int .i64 f5, .pointer f6] ∧ Fr J g cv w w' := by
  obtain ⟨xs, hx⟩ := h.own
  obtain ⟨a, c, rfl⟩ := own_form hx
  have HJ : Hid (Jn (w.alloc (.cells #[.int .i64 f0, .int .i64 f1, .int .i64 f2, .int .i64 f3, .pointer f4, .int .i64 f5, .pointer f6] FT)) J S g cap mv p0 p1 more (.slice a m c) m) := h.stays (bl_alloc (Below.refl _ _) _)
  have HB1 : Hid (Arr (w.alloc (.cells #[.int .i64 f0, .int .i64 f1, .int .i64 f2, .int .i64 f3, .pointer f4, .int .i64 f5, .pointer f6] FT)) w.heap.size FT [.int .i64 f0, .int .i64 f1, .int .i64 f2, .int .i64 f3, .pointer f4, .int .i64 f5, .pointer f6]) := ⟨heap_alloc_at _ _⟩
  have hD : Hid (Below (w.alloc (.cells #[.int .i64 f0, .int .i64 f1, .int .i64 f2, .int .i64 f3, .pointer f4, .int .i64 f5, .pointer f6] FT)).heap.size (w.alloc (.cells #[.int .i64 f0, .int .i64 f1, .int .i64 f2, .int .i64 f3, .pointer f4, .int .i64 f5, .pointer f6] FT)) (w.alloc (.cells #[.int .i64 f0, .int .i64 f1, .int .i64 f2, .int .i64 f3, .pointer f4, .int .i64 f5, .pointer f6] FT)).drew) := (Below.refl _ _).drew
  obtain ⟨q, hq⟩ : ∃ q, kp p0 p1 n = q := ⟨_, rfl⟩
  have hraw : Hid (∀ wz, Sto wz S g cap mv p0 p1 more → Calls Try.prog 79 #[.pointer (some ⟨S, 0, none⟩), .int .i64 (n : Int)] wz fun e w' => e = .returned (.pointer q) ∧ w' = wz) := fun wz hz => by have := raw_any wz S g cap mv p0 p1 more hz n hn; rw [hq] at this; exact this
  have hJl : J < (w.alloc (.cells #[.int .i64 f0, .int .i64 f1, .int .i64 f2, .int .i64 f3, .pointer f4, .int .i64 f5, .pointer f6] FT)).drew.heap.size := Nat.lt_of_lt_of_le HJ.out.jn.lt hD.out.size
  obtain ⟨a', c', w', hr, ho', hgr, hob⟩ := app_ch (w.alloc (.cells #[.int .i64 f0, .int .i64 f1, .int .i64 f2, .int .i64 f3, .pointer f4, .int .i64 f5, .pointer f6] FT)).drew J m a c xs (own_stays (own_stays hx (bl_alloc (Below.refl _ _) _)) hD.out) hm hJl (n : Int) q
  have hsj := h.sj
  have hgj := h.gj
  have hJw := h.jn.lt
  have HO := hid ho'
  have HGR := hid hgr
  have HOB := hid hob
  have hrl : Hid (∀ b, (Value.slice a m c).ownBlock = some b → J + 1 ≤ b ∧ b < w.heap.size) := fun b hb => hx.lt b hb
  have HJD := hid (HJ.out.stays hD.out)
  have l1 : (w.alloc (.cells #[.int .i64 f0, .int .i64 f1, .int .i64 f2, .int .i64 f3, .pointer f4, .int .i64 f5, .pointer f6] FT)).drew.cell? ⟨J, 1, none⟩ = some (.slice a m c) := HJD.out.jn.cell 1
  have lc0 : ∀ o, ((w.alloc (.cells #[.int .i64 f0, .int .i64 f1, .int .i64 f2, .int .i64 f3, .pointer f4, .int .i64 f5, .pointer f6] FT)).drew.alloc o).cell? ⟨J, 0, none⟩ = some (.pointer (some ⟨S, 0, none⟩)) := fun o => (HJD.out.stays (bl_alloc (Below.refl _ _) o)).jn.cell 0
  have lc1 : ∀ o, ((w.alloc (.cells #[.int .i64 f0, .int .i64 f1, .int .i64 f2, .int .i64 f3, .pointer f4, .int .i64 f5, .pointer f6] FT)).drew.alloc o).cell? ⟨J, 1, none⟩ = some (.slice a m c) := fun o => (HJD.out.stays (bl_alloc (Below.refl _ _) o)).jn.cell 1
  have hs0 : Hid ((w.alloc (.cells #[.int .i64 f0, .int .i64 f1, .int .i64 f2, .int .i64 f3, .pointer f4, .int .i64 f5, .pointer f6] FT)).drew.cell? ⟨J, 0, none⟩ = some (.pointer (some ⟨S, 0, none⟩)) ∧ Sto (w.alloc (.cells #[.int .i64 f0, .int .i64 f1, .int .i64 f2, .int .i64 f3, .pointer f4, .int .i64 f5, .pointer f6] FT)).drew S g cap mv p0 p1 more) := ⟨HJD.out.jn.cell 0, HJD.out.sto⟩
  have HJA := hid (HJD.out.stays (bl_alloc (Below.refl _ _) (.cells #[.int .i64 (n : Int), .pointer q] CT)))
  have hbk : ∀ b, b < ((w.alloc (.cells #[.int .i64 f0, .int .i64 f1, .int .i64 f2, .int .i64 f3, .pointer f4, .int .i64 f5, .pointer f6] FT)).drew.alloc (.cells #[.int .i64 (n : Int), .pointer q] CT)).heap.size → b ≤ J → w'.heap[b]? = ((w.alloc (.cells #[.int .i64 f0, .int .i64 f1, .int .i64 f2, .int .i64 f3, .pointer f4, .int .i64 f5, .pointer f6] FT)).drew.alloc (.cells #[.int .i64 (n : Int), .pointer q] CT)).heap[b]? := fun b hb hbJ => HGR.out.block b hb (fun e => by have := (hrl.out b e.symm).1; omega)
  have HJ2 : Hid (Arr w' J JT [.pointer (some ⟨S, 0, none⟩), .slice a m c]) := ⟨(hbk J HJA.out.jn.lt (Nat.le_refl _)).trans HJA.out.jn.b⟩
  have HS2 : Hid (Sto w' S g cap mv p0 p1 more) := ⟨⟨(hbk S HJA.out.sto.st.lt (by omega)).trans HJA.out.sto.st.b⟩, ⟨(hbk g HJA.out.sto.kn.lt (by omega)).trans HJA.out.sto.kn.b⟩, HJA.out.sto.ne, HJA.out.sto.le⟩
  have hs2 : Hid (w'.cell? ⟨J, 0, none⟩ = some (.pointer (some ⟨S, 0, none⟩)) ∧ Sto w' S g cap mv p0 p1 more) := ⟨HJ2.out.cell 0, HS2.out⟩
  have HJ3 : Hid (Arr (w'.setCell ⟨J, 1, none⟩ (.slice a' (m + 1) c')) J JT [.pointer (some ⟨S, 0, none⟩), .slice a' (m + 1) c']) := HJ2.out.set 1 _
  have HS3 : Hid (Sto (w'.setCell ⟨J, 1, none⟩ (.slice a' (m + 1) c')) S g cap mv p0 p1 more) := ⟨HS2.out.st.other (p := ⟨J, 1, none⟩) (by show S ≠ J; omega) _, HS2.out.kn.other (p := ⟨J, 1, none⟩) (by show g ≠ J; omega) _, HS2.out.ne, HS2.out.le⟩
  have hs3 : Hid ((w'.setCell ⟨J, 1, none⟩ (.slice a' (m + 1) c')).cell? ⟨J, 0, none⟩ = some (.pointer (some ⟨S, 0, none⟩)) ∧ Sto (w'.setCell ⟨J, 1, none⟩ (.slice a' (m + 1) c')) S g cap mv p0 p1 more) := ⟨HJ3.out.cell 0, HS3.out⟩
  have fz := HJ2.out.frozen
  have sc0 := HJ2.out.cell
  have hFz : Hid (w.heap.size < ((w.alloc (.cells #[.int .i64 f0, .int .i64 f1, .int .i64 f2, .int .i64 f3, .pointer f4, .int .i64 f5, .pointer f6] FT)).drew.alloc (.cells #[.int .i64 (n : Int), .pointer q] CT)).heap.size) := by have := hD.out.size; rw [size_alloc] at this; show _ < _; rw [size_alloc]; omega
  have HF2 : Hid (Arr w' w.heap.size FT [.int .i64 f0, .int .i64 f1, .int .i64 f2, .int .i64 f3, .pointer f4, .int .i64 f5, .pointer f6]) := ⟨(HGR.out.block w.heap.size hFz.out (fun e => by have := (hrl.out _ e.symm).2; omega)).trans ((HB1.out.stays hD.out).stays (bl_alloc (Below.refl _ _) (.cells #[.int .i64 (n : Int), .pointer q] CT))).b⟩
  have HFR : Hid (Fr J g (.slice a m c) w w') := by
    have k1 : Below w.heap.size w ((w.alloc (.cells #[.int .i64 f0, .int .i64 f1, .int .i64 f2, .int .i64 f3, .pointer f4, .int .i64 f5, .pointer f6] FT)).drew.alloc (.cells #[.int .i64 (n : Int), .pointer q] CT)) := bl_alloc ((bl_alloc (Below.refl _ _) _).drew) _
    exact ⟨HGR.out.os.trans k1.os, HGR.out.tape.trans k1.tape, HGR.out.output.trans k1.output, Nat.le_trans k1.size HGR.out.size, fun b hb _ _ h3 => (HGR.out.block b (Nat.lt_of_lt_of_le hb k1.size) h3).trans (k1.block b hb)⟩
  have hwd : Hid ((w.alloc (.cells #[.int .i64 f0, .int .i64 f1, .int .i64 f2, .int .i64 f3, .pointer f4, .int .i64 f5, .pointer f6] FT)).drew.heap.size = w.heap.size + 1) := by show _ = _; simp [World.drew]
  clear h hx ho' hgr hob hbk hq
  go_enter Try.func84, Try.ntmps84
  go_wp2
  refine wp_region_held_drew (S := fun wz => wz.cell? ⟨J, 0, none⟩ = some (.pointer (some ⟨S, 0, none⟩)) ∧ Sto wz S g cap mv p0 p1 more) (by kernel_rfl) (hs0.out) (fun hS => ?_)
  generalize (w.alloc (.cells #[.int .i64 f0, .int .i64 f1, .int .i64 f2, .int .i64 f3, .pointer f4, .int .i64 f5, .pointer f6] FT)).drew = wd at hS hD hr HGR l1 lc0 lc1 ⊢
  refine wpAnyH_take (i := 0) (v := ?_) rfl (by kernel_rfl) (by kernel_rfl) (by kernel_rfl) (fun _ _ _ h => h) (Or.inl ⟨by rfl, ?_⟩) hS ?_
  rotate_left
  · intro wz hz; go_simp; try with_reducible rfl
  try simp only [Act.put, List.setIfInBounds_toArray, List.set_cons_zero, List.set_cons_succ, List.getElem_toArray, List.getElem_cons_succ, List.getElem_cons_zero]
  refine wpAnyH_take (i := 1) (v := ?_) rfl (by kernel_rfl) (by kernel_rfl) (by kernel_rfl) (fun _ _ _ h => h) (Or.inl ⟨by rfl, ?_⟩) hS ?_
  rotate_left
  · intro wz hz; go_simp; try with_reducible rfl
  try simp only [Act.put, List.setIfInBounds_toArray, List.set_cons_zero, List.set_cons_succ, List.getElem_toArray, List.getElem_cons_succ, List.getElem_cons_zero]
  refine wpAnyH_take (i := 2) (v := ?_) rfl (by kernel_rfl) (by kernel_rfl) (by kernel_rfl) (fun _ _ _ h => h) (Or.inl ⟨by rfl, ?_⟩) hS ?_
  rotate_left
  · intro wz hz; go_simp; try with_reducible rfl
  try simp only [Act.put, List.setIfInBounds_toArray, List.set_cons_zero, List.set_cons_succ, List.getElem_toArray, List.getElem_cons_succ, List.getElem_cons_zero]
  refine wpAnyH_take (i := 3) (v := ?_) rfl (by kernel_rfl) (by kernel_rfl) (by kernel_rfl) (fun _ _ _ h => h) (Or.inl ⟨by rfl, ?_⟩) hS ?_
  rotate_left
  · intro wz hz; go_simp; try with_reducible rfl
  try simp only [Act.put, List.setIfInBounds_toArray, List.set_cons_zero, List.set_cons_succ, List.getElem_toArray, List.getElem_cons_succ, List.getElem_cons_zero]
  refine wpAnyH_take (i := 5) (v := ?_) rfl (by kernel_rfl) (by kernel_rfl) (by kernel_rfl) (fun _ _ _ h => h) (Or.inl ⟨by rfl, ?_⟩) hS ?_
  rotate_left
  · intro wz hz; go_simp; try with_reducible rfl
  try simp only [Act.put, List.setIfInBounds_toArray, List.set_cons_zero, List.set_cons_succ, List.getElem_toArray, List.getElem_cons_succ, List.getElem_cons_zero]
  refine wpAnyH_take (i := 6) (v := ?_) rfl (by kernel_rfl) (by kernel_rfl) (by kernel_rfl) (fun _ _ _ h => h) (Or.inl ⟨by rfl, ?_⟩) hS ?_
  rotate_left
  · intro wz hz; go_simp; try with_reducible rfl
  try simp only [Act.put, List.setIfInBounds_toArray, List.set_cons_zero, List.set_cons_succ, List.getElem_toArray, List.getElem_cons_succ, List.getElem_cons_zero]
  refine wpAnyH_take (i := 7) (v := ?_) rfl (by kernel_rfl) (by kernel_rfl) (by kernel_rfl) (fun _ _ _ h => h) (Or.inl ⟨by rfl, ?_⟩) hS ?_
  rotate_left
  · intro wz hz; go_simp; try with_reducible rfl
  try simp only [Act.put, List.setIfInBounds_toArray, List.set_cons_zero, List.set_cons_succ, List.getElem_toArray, List.getElem_cons_succ, List.getElem_cons_zero]
  refine wpAnyH_take (i := 8) (v := ?_) rfl (by kernel_rfl) (by kernel_rfl) (by kernel_rfl) (fun _ _ _ h => h) (Or.inl ⟨by rfl, ?_⟩) hS ?_
  rotate_left
  · intro wz hz; go_simp; try with_reducible rfl
  try simp only [Act.put, List.setIfInBounds_toArray, List.set_cons_zero, List.set_cons_succ, List.getElem_toArray, List.getElem_cons_succ, List.getElem_cons_zero]
  refine wpAnyH_take (i := 9) (v := ?_) rfl (by kernel_rfl) (by kernel_rfl) (by kernel_rfl) (fun _ _ _ h => h) (Or.inl ⟨by rfl, ?_⟩) hS ?_
  rotate_left
  · intro wz hz; obtain ⟨yy0, yy1⟩ := hz; go_simp; try with_reducible rfl
  try simp only [Act.put, List.setIfInBounds_toArray, List.set_cons_zero, List.set_cons_succ, List.getElem_toArray, List.getElem_cons_succ, List.getElem_cons_zero]
  refine wpAnyH_take (i := 10) (v := ?_) rfl (by kernel_rfl) (by kernel_rfl) (by kernel_rfl) (fun _ _ _ h => h) (Or.inl ⟨by rfl, ?_⟩) hS ?_
  rotate_left
  · intro wz hz; go_simp; try with_reducible rfl
  try simp only [Act.put, List.setIfInBounds_toArray, List.set_cons_zero, List.set_cons_succ, List.getElem_toArray, List.getElem_cons_succ, List.getElem_cons_zero]
  refine wpAnyH_ready (rs := [4, 11]) (by kernel_rfl) (by simp) (AllReadyH.cons rfl (fun K hK => ?a1_4) (AllReadyH.cons rfl (fun K hK => ?a1_11) AllReadyH.nil))
  case' a1_4 =>
    go_simp
    refine hK.out _ _ (hS) (fun hSn => ?_)
    clear hK K hS
    have hS := hSn
    clear hSn
    try simp only [Act.put, List.setIfInBounds_toArray, List.set_cons_zero, List.set_cons_succ, List.getElem_toArray, List.getElem_cons_succ, List.getElem_cons_zero]
    refine wpAnyH_ready (rs := [11]) (by kernel_rfl) (by simp) (AllReadyH.cons rfl (fun K hK => ?a2_11) AllReadyH.nil)
    case' a2_11 =>
      go_simp
      refine (hraw.out _ hS.2).mono ?_
      rintro e wq ⟨rfl, hwq⟩
      rw [hwq]
      clear hwq wq
      refine hK.out _ _ (hS) (fun hSn => ?_)
      clear hK K hS
      have hS := hSn
      clear hSn
      try simp only [Act.put, List.setIfInBounds_toArray, List.set_cons_zero, List.set_cons_succ, List.getElem_toArray, List.getElem_cons_succ, List.getElem_cons_zero]
      refine wpAnyH_take (i := 12) (v := ?_) rfl (by kernel_rfl) (by kernel_rfl) (by kernel_rfl) (fun _ _ _ h => h) (Or.inl ⟨by rfl, ?_⟩) hS ?_
      rotate_left
      · intro wz hz; go_simp; try with_reducible rfl
      try simp only [Act.put, List.setIfInBounds_toArray, List.set_cons_zero, List.set_cons_succ, List.getElem_toArray, List.getElem_cons_succ, List.getElem_cons_zero]
      refine wpAnyH_ready (rs := [13]) (by kernel_rfl) (by simp) (AllReadyH.cons rfl (fun K hK => ?a3_13) AllReadyH.nil)
      case' a3_13 =>
        go_simp
        refine hK.out _ _ (⟨lc0 _, hS.2.stays (bl_alloc (Below.refl _ _) _)⟩) (fun hSn => ?_)
        clear hK K hS
        have hS := hSn
        clear hSn
        try simp only [Act.put, List.setIfInBounds_toArray, List.set_cons_zero, List.set_cons_succ, List.getElem_toArray, List.getElem_cons_succ, List.getElem_cons_zero]
        refine wpAnyH_ready (rs := [14]) (by kernel_rfl) (by simp) (AllReadyH.cons rfl (fun K hK => ?a4_14) AllReadyH.nil)
        case' a4_14 =>
          refine step_app_eq rfl _ _ _ rfl _ _ rfl rfl _ _ hr ?_
          refine hK.out _ _ (hs2.out) (fun hSn => ?_)
          clear hK K hS
          have hS := hSn
          clear hSn
          try simp only [Act.put, List.setIfInBounds_toArray, List.set_cons_zero, List.set_cons_succ, List.getElem_toArray, List.getElem_cons_succ, List.getElem_cons_zero]
          refine wpAnyH_take (i := 15) (v := ?_) rfl (by kernel_rfl) (by kernel_rfl) (by kernel_rfl) (fun _ _ _ h => h) (Or.inl ⟨by rfl, ?_⟩) hS ?_
          rotate_left
          · intro wz hz; go_simp; try with_reducible rfl
          try simp only [Act.put, List.setIfInBounds_toArray, List.set_cons_zero, List.set_cons_succ, List.getElem_toArray, List.getElem_cons_succ, List.getElem_cons_zero]
          refine wpAnyH_take (i := 16) (v := ?_) rfl (by kernel_rfl) (by kernel_rfl) (by kernel_rfl) (fun _ _ _ h => h) (Or.inl ⟨by rfl, ?_⟩) hS ?_
          rotate_left
          · intro wz hz; go_simp; try with_reducible rfl
          try simp only [Act.put, List.setIfInBounds_toArray, List.set_cons_zero, List.set_cons_succ, List.getElem_toArray, List.getElem_cons_succ, List.getElem_cons_zero]
          refine wpAnyH_ready (rs := [17]) (by kernel_rfl) (by simp) (AllReadyH.cons rfl (fun K hK => ?a5_17) AllReadyH.nil)
          case' a5_17 =>
            go_simp
            refine hK.out _ _ (hs3.out) (fun hSn => ?_)
            clear hK K hS
            have hS := hSn
            clear hSn
            try simp only [Act.put, List.setIfInBounds_toArray, List.set_cons_zero, List.set_cons_succ, List.getElem_toArray, List.getElem_cons_succ, List.getElem_cons_zero]
            refine wpAnyH_done (by kernel_rfl) ?_ _
  case' a1_11 =>
    go_simp
    refine (hraw.out _ hS.2).mono ?_
    rintro e wq ⟨rfl, hwq⟩
    rw [hwq]
    clear hwq wq
    refine hK.out _ _ (hS) (fun hSn => ?_)
    clear hK K hS
    have hS := hSn
    clear hSn
    try simp only [Act.put, List.setIfInBounds_toArray, List.set_cons_zero, List.set_cons_succ, List.getElem_toArray, List.getElem_cons_succ, List.getElem_cons_zero]
    refine wpAnyH_take (i := 12) (v := ?_) rfl (by kernel_rfl) (by kernel_rfl) (by kernel_rfl) (fun _ _ _ h => h) (Or.inl ⟨by rfl, ?_⟩) hS ?_
    rotate_left
    · intro wz hz; go_simp; try with_reducible rfl
    try simp only [Act.put, List.setIfInBounds_toArray, List.set_cons_zero, List.set_cons_succ, List.getElem_toArray, List.getElem_cons_succ, List.getElem_cons_zero]
    refine wpAnyH_ready (rs := [4, 13]) (by kernel_rfl) (by simp) (AllReadyH.cons rfl (fun K hK => ?a6_4) (AllReadyH.cons rfl (fun K hK => ?a6_13) AllReadyH.nil))
    case' a6_4 =>
      go_simp
      refine hK.out _ _ (hS) (fun hSn => ?_)
      clear hK K hS
      have hS := hSn
      clear hSn
      try simp only [Act.put, List.setIfInBounds_toArray, List.set_cons_zero, List.set_cons_succ, List.getElem_toArray, List.getElem_cons_succ, List.getElem_cons_zero]
      refine wpAnyH_ready (rs := [13]) (by kernel_rfl) (by simp) (AllReadyH.cons rfl (fun K hK => ?a7_13) AllReadyH.nil)
      case' a7_13 =>
        go_simp
        refine hK.out _ _ (⟨lc0 _, hS.2.stays (bl_alloc (Below.refl _ _) _)⟩) (fun hSn => ?_)
        clear hK K hS
        have hS := hSn
        clear hSn
        try simp only [Act.put, List.setIfInBounds_toArray, List.set_cons_zero, List.set_cons_succ, List.getElem_toArray, List.getElem_cons_succ, List.getElem_cons_zero]
        refine wpAnyH_ready (rs := [14]) (by kernel_rfl) (by simp) (AllReadyH.cons rfl (fun K hK => ?a8_14) AllReadyH.nil)
        case' a8_14 =>
          refine step_app_eq rfl _ _ _ rfl _ _ rfl rfl _ _ hr ?_
          refine hK.out _ _ (hs2.out) (fun hSn => ?_)
          clear hK K hS
          have hS := hSn
          clear hSn
          try simp only [Act.put, List.setIfInBounds_toArray, List.set_cons_zero, List.set_cons_succ, List.getElem_toArray, List.getElem_cons_succ, List.getElem_cons_zero]
          refine wpAnyH_take (i := 15) (v := ?_) rfl (by kernel_rfl) (by kernel_rfl) (by kernel_rfl) (fun _ _ _ h => h) (Or.inl ⟨by rfl, ?_⟩) hS ?_
          rotate_left
          · intro wz hz; go_simp; try with_reducible rfl
          try simp only [Act.put, List.setIfInBounds_toArray, List.set_cons_zero, List.set_cons_succ, List.getElem_toArray, List.getElem_cons_succ, List.getElem_cons_zero]
          refine wpAnyH_take (i := 16) (v := ?_) rfl (by kernel_rfl) (by kernel_rfl) (by kernel_rfl) (fun _ _ _ h => h) (Or.inl ⟨by rfl, ?_⟩) hS ?_
          rotate_left
          · intro wz hz; go_simp; try with_reducible rfl
          try simp only [Act.put, List.setIfInBounds_toArray, List.set_cons_zero, List.set_cons_succ, List.getElem_toArray, List.getElem_cons_succ, List.getElem_cons_zero]
          refine wpAnyH_ready (rs := [17]) (by kernel_rfl) (by simp) (AllReadyH.cons rfl (fun K hK => ?a9_17) AllReadyH.nil)
          case' a9_17 =>
            go_simp
            refine hK.out _ _ (hs3.out) (fun hSn => ?_)
            clear hK K hS
            have hS := hSn
            clear hSn
            try simp only [Act.put, List.setIfInBounds_toArray, List.set_cons_zero, List.set_cons_succ, List.getElem_toArray, List.getElem_cons_succ, List.getElem_cons_zero]
            refine wpAnyH_done (by kernel_rfl) ?_ _
    case' a6_13 =>
      go_simp
      refine hK.out _ _ (⟨lc0 _, hS.2.stays (bl_alloc (Below.refl _ _) _)⟩) (fun hSn => ?_)
      clear hK K hS
      have hS := hSn
      clear hSn
      try simp only [Act.put, List.setIfInBounds_toArray, List.set_cons_zero, List.set_cons_succ, List.getElem_toArray, List.getElem_cons_succ, List.getElem_cons_zero]
      refine wpAnyH_ready (rs := [4]) (by kernel_rfl) (by simp) (AllReadyH.cons rfl (fun K hK => ?a10_4) AllReadyH.nil)
      case' a10_4 =>
        go_simp
        refine hK.out _ _ (hS) (fun hSn => ?_)
        clear hK K hS
        have hS := hSn
        clear hSn
        try simp only [Act.put, List.setIfInBounds_toArray, List.set_cons_zero, List.set_cons_succ, List.getElem_toArray, List.getElem_cons_succ, List.getElem_cons_zero]
        refine wpAnyH_ready (rs := [14]) (by kernel_rfl) (by simp) (AllReadyH.cons rfl (fun K hK => ?a11_14) AllReadyH.nil)
        case' a11_14 =>
          refine step_app_eq rfl _ _ _ rfl _ _ rfl rfl _ _ hr ?_
          refine hK.out _ _ (hs2.out) (fun hSn => ?_)
          clear hK K hS
          have hS := hSn
          clear hSn
          try simp only [Act.put, List.setIfInBounds_toArray, List.set_cons_zero, List.set_cons_succ, List.getElem_toArray, List.getElem_cons_succ, List.getElem_cons_zero]
          refine wpAnyH_take (i := 15) (v := ?_) rfl (by kernel_rfl) (by kernel_rfl) (by kernel_rfl) (fun _ _ _ h => h) (Or.inl ⟨by rfl, ?_⟩) hS ?_
          rotate_left
          · intro wz hz; go_simp; try with_reducible rfl
          try simp only [Act.put, List.setIfInBounds_toArray, List.set_cons_zero, List.set_cons_succ, List.getElem_toArray, List.getElem_cons_succ, List.getElem_cons_zero]
          refine wpAnyH_take (i := 16) (v := ?_) rfl (by kernel_rfl) (by kernel_rfl) (by kernel_rfl) (fun _ _ _ h => h) (Or.inl ⟨by rfl, ?_⟩) hS ?_
          rotate_left
          · intro wz hz; go_simp; try with_reducible rfl
          try simp only [Act.put, List.setIfInBounds_toArray, List.set_cons_zero, List.set_cons_succ, List.getElem_toArray, List.getElem_cons_succ, List.getElem_cons_zero]
          refine wpAnyH_ready (rs := [17]) (by kernel_rfl) (by simp) (AllReadyH.cons rfl (fun K hK => ?a12_17) AllReadyH.nil)
          case' a12_17 =>
            go_simp
            refine hK.out _ _ (hs3.out) (fun hSn => ?_)
            clear hK K hS
            have hS := hSn
            clear hSn
            try simp only [Act.put, List.setIfInBounds_toArray, List.set_cons_zero, List.set_cons_succ, List.getElem_toArray, List.getElem_cons_succ, List.getElem_cons_zero]
            refine wpAnyH_done (by kernel_rfl) ?_ _
  all_goals (
    clear hr hD HJ HJD HJA l1 lc0 lc1 hs0 hs2 hs3 fz sc0 HGR hraw hS
    have hpu : Hid (Calls Try.prog 61 #[.pointer (some ⟨S, 0, none⟩), .int .i64 (n : Int), .pointer (some ⟨w.heap.size, 0, none⟩)] (w'.setCell ⟨J, 1, none⟩ (.slice a' (m + 1) c')) fun e wq => e = .returned (.tuple #[]) ∧ wq = (w'.setCell ⟨J, 1, none⟩ (.slice a' (m + 1) c')).setCell ⟨g, n, none⟩ (.pointer (some ⟨w.heap.size, 0, none⟩))) := put_any _ S g cap mv p0 p1 more HS3.out n hn _
    have z0 := HJ3.out.cell
    go_wp2_with (go_at_call 61; refine hpu.out.mono ?_; rintro e w8 ⟨rfl, hw8⟩; rw [hw8]; clear hw8 w8)
    first | refine bodyPost_end (results_none rfl _ _ _) rfl ?_ | refine bodyPost_ret (results_none rfl _ _ _) rfl ?_
    obtain ⟨xs', hxs'⟩ := HO.out
    have nb : ∀ (W : World) (p : Addr) (u : Value), p.block ≤ J → W.ownsRow (J + 1) CT 2 (.slice a' (m + 1) c') (m + 1) xs' → (W.setCell p u).ownsRow (J + 1) CT 2 (.slice a' (m + 1) c') (m + 1) xs' := fun W p u hp hw => hw.kept (row := some p.block) ⟨rfl, rfl, rfl, by simp [World.setCell], fun b _ hb => Below.heap_setCell _ _ _ _ (fun e => hb (by simp [e]))⟩ (Or.inr (fun e => by have := (hw.lt _ e).1; omega))
    refine ⟨rfl, ⟨.slice a' (m + 1) c', ⟨HJ3.out.other (p := ⟨g, n, none⟩) (by show J ≠ g; omega) _, HS3.out.put n hn _, ⟨xs', nb _ _ _ (by show g ≤ J; omega) (nb _ _ _ (Nat.le_refl _) hxs')⟩, hsj, hgj⟩, ?_⟩, (HF2.out.other (p := ⟨J, 1, none⟩) (by show _ ≠ J; omega) _).other (p := ⟨g, n, none⟩) (by show _ ≠ g; omega) _, ?_⟩
    · rcases HOB.out with h1 | h1
      · exact .inl h1
      · rw [hwd.out] at h1
        exact .inr ⟨_, h1, by omega⟩
    · exact ⟨HFR.out.os, HFR.out.tape, HFR.out.output, by have := HFR.out.size; simp [World.setCell]; exact this, fun b hb h1 h2 h3 => (Below.heap_setCell _ _ _ _ (by show ¬ _; exact h2)).trans ((Below.heap_setCell _ _ _ _ (by show ¬ _; exact h1)).trans (HFR.out.block b hb h1 h2 h3))⟩)
end Go.Proofs.Ytknlpeloaapaiaa
