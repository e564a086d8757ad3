/- Shapes of types; labels that rise; which types are right. -/
import Derived.Test.YtfeppchgmobfpaaGreatDoorTgR
namespace Go.Proofs.YtfeppchgmobfpaaGreatDoor
open Go.RowKit
set_option linter.unusedVariables false
set_option linter.unusedSimpArgs false

/-- The nearest shape: number, labels, parts; is there such a kind? -/
def Tt.near (k n c : Int) : (Int × Int × Int) × Bool :=
  if k = 1 ∨ k = 2 ∨ k = 3 then ((0, 0, 0), true)
  else if k = 4 ∨ k = 5 then ((0, 0, 2), true)
  else if k = 6 then ((n, 0, 0), true)
  else if k = 7 then ((0, c, c), true)
  else if k = 8 then ((0, 0, c), true)
  else if k = 9 ∨ k = 10 ∨ k = 11 then ((n, 0, 1), true)
  else ((0, 0, 0), false)
def shp (p : Int × Int × Int) : Value := .agg #[.int .i64 p.1, .int .i64 p.2.1, .int .i64 p.2.2]

set_option maxHeartbeats 4000000 in
set_option maxRecDepth 100000 in
theorem near_any (w : World) (k n l c : Int) : Calls Tryz.prog 46 #[.int .i64 k, .agg #[.int .i64 n, .int .i64 l, .int .i64 c]] w fun e w' => e = .returned (.tuple #[shp (Tt.near k n c).1, .bool (Tt.near k n c).2]) ∧ Below w.heap.size w w' := by
  have done : ∀ (u : World) (p : Int × Int × Int) (b : Bool), Tt.near k n c = (p, b) → Below w.heap.size w u → (Ending.returned (.tuple #[shp p, .bool b]) = .returned (.tuple #[shp (Tt.near k n c).1, .bool (Tt.near k n c).2]) ∧ Below w.heap.size w u) := fun u p b h hb => by rw [h]; exact ⟨rfl, hb⟩
  have D : Hid _ := done
  clear done
  by_cases h1 : k = 1
  · subst h1
    go_enter Tryz.func46, Tryz.ntmps46
    go_wp2
    refine bodyPost_ret (v := .tuple #[shp ((0, 0, 0)), .bool true]) (by rw [results_cell_tmp (fn := Tryz.f46) (p := 4) (u := 5) (ty := 98) (by kernel_rfl)]; simp [go_sem, shp]) rfl ?_
    exact D.out _ _ _ (by simp [Tt.near]) (bl_alloc (bl_alloc (Below.refl _ _) _) _)
  by_cases h2 : k = 2
  · subst h2
    go_enter Tryz.func46, Tryz.ntmps46
    go_wp2
    refine bodyPost_ret (v := .tuple #[shp ((0, 0, 0)), .bool true]) (by rw [results_cell_tmp (fn := Tryz.f46) (p := 4) (u := 5) (ty := 98) (by kernel_rfl)]; simp [go_sem, shp]) rfl ?_
    exact D.out _ _ _ (by simp [Tt.near]) (bl_alloc (bl_alloc (Below.refl _ _) _) _)
  by_cases h3 : k = 3
  · subst h3
    go_enter Tryz.func46, Tryz.ntmps46
    go_wp2
    refine bodyPost_ret (v := .tuple #[shp ((0, 0, 0)), .bool true]) (by rw [results_cell_tmp (fn := Tryz.f46) (p := 4) (u := 5) (ty := 98) (by kernel_rfl)]; simp [go_sem, shp]) rfl ?_
    exact D.out _ _ _ (by simp [Tt.near]) (bl_alloc (bl_alloc (Below.refl _ _) _) _)
  by_cases h4 : k = 4
  · subst h4
    go_enter Tryz.func46, Tryz.ntmps46
    go_wp2
    refine bodyPost_ret (v := .tuple #[shp ((0, 0, 2)), .bool true]) (by rw [results_cell_tmp (fn := Tryz.f46) (p := 4) (u := 5) (ty := 98) (by kernel_rfl)]; simp [go_sem, shp]) rfl ?_
    exact D.out _ _ _ (by simp [Tt.near]) (bl_alloc (bl_alloc (Below.refl _ _) _) _)
  by_cases h5 : k = 5
  · subst h5
    go_enter Tryz.func46, Tryz.ntmps46
    go_wp2
    refine bodyPost_ret (v := .tuple #[shp ((0, 0, 2)), .bool true]) (by rw [results_cell_tmp (fn := Tryz.f46) (p := 4) (u := 5) (ty := 98) (by kernel_rfl)]; simp [go_sem, shp]) rfl ?_
    exact D.out _ _ _ (by simp [Tt.near]) (bl_alloc (bl_alloc (Below.refl _ _) _) _)
  by_cases h6 : k = 6
  · subst h6
    go_enter Tryz.func46, Tryz.ntmps46
    go_wp2
    refine bodyPost_ret (v := .tuple #[shp ((n, 0, 0)), .bool true]) (by rw [results_cell_tmp (fn := Tryz.f46) (p := 4) (u := 5) (ty := 98) (by kernel_rfl)]; simp [go_sem, shp]) rfl ?_
    exact D.out _ _ _ (by simp [Tt.near]) (bl_alloc (bl_alloc (Below.refl _ _) _) _)
  by_cases h7 : k = 7
  · subst h7
    go_enter Tryz.func46, Tryz.ntmps46
    go_wp2
    refine bodyPost_ret (v := .tuple #[shp ((0, c, c)), .bool true]) (by rw [results_cell_tmp (fn := Tryz.f46) (p := 4) (u := 5) (ty := 98) (by kernel_rfl)]; simp [go_sem, shp]) rfl ?_
    exact D.out _ _ _ (by simp [Tt.near]) (bl_alloc (bl_alloc (Below.refl _ _) _) _)
  by_cases h8 : k = 8
  · subst h8
    go_enter Tryz.func46, Tryz.ntmps46
    go_wp2
    refine bodyPost_ret (v := .tuple #[shp ((0, 0, c)), .bool true]) (by rw [results_cell_tmp (fn := Tryz.f46) (p := 4) (u := 5) (ty := 98) (by kernel_rfl)]; simp [go_sem, shp]) rfl ?_
    exact D.out _ _ _ (by simp [Tt.near]) (bl_alloc (bl_alloc (Below.refl _ _) _) _)
  by_cases h9 : k = 9
  · subst h9
    go_enter Tryz.func46, Tryz.ntmps46
    go_wp2
    refine bodyPost_ret (v := .tuple #[shp ((n, 0, 1)), .bool true]) (by rw [results_cell_tmp (fn := Tryz.f46) (p := 4) (u := 5) (ty := 98) (by kernel_rfl)]; simp [go_sem, shp]) rfl ?_
    exact D.out _ _ _ (by simp [Tt.near]) (bl_alloc (bl_alloc (Below.refl _ _) _) _)
  by_cases h10 : k = 10
  · subst h10
    go_enter Tryz.func46, Tryz.ntmps46
    go_wp2
    refine bodyPost_ret (v := .tuple #[shp ((n, 0, 1)), .bool true]) (by rw [results_cell_tmp (fn := Tryz.f46) (p := 4) (u := 5) (ty := 98) (by kernel_rfl)]; simp [go_sem, shp]) rfl ?_
    exact D.out _ _ _ (by simp [Tt.near]) (bl_alloc (bl_alloc (Below.refl _ _) _) _)
  by_cases h11 : k = 11
  · subst h11
    go_enter Tryz.func46, Tryz.ntmps46
    go_wp2
    refine bodyPost_ret (v := .tuple #[shp ((n, 0, 1)), .bool true]) (by rw [results_cell_tmp (fn := Tryz.f46) (p := 4) (u := 5) (ty := 98) (by kernel_rfl)]; simp [go_sem, shp]) rfl ?_
    exact D.out _ _ _ (by simp [Tt.near]) (bl_alloc (bl_alloc (Below.refl _ _) _) _)
  have N : Hid (Tt.near k n c = ((0, 0, 0), false)) := by show _ = _; simp [Tt.near, h1, h2, h3, h4, h5, h6, h7, h8, h9, h10, h11]
  have g1 : (k == 1) = false := by simpa using h1
  have g2 : (k == 2) = false := by simpa using h2
  have g3 : (k == 3) = false := by simpa using h3
  have g4 : (k == 4) = false := by simpa using h4
  have g5 : (k == 5) = false := by simpa using h5
  have g6 : (k == 6) = false := by simpa using h6
  have g7 : (k == 7) = false := by simpa using h7
  have g8 : (k == 8) = false := by simpa using h8
  have g9 : (k == 9) = false := by simpa using h9
  have g10 : (k == 10) = false := by simpa using h10
  have g11 : (k == 11) = false := by simpa using h11
  clear h1 h2 h3 h4 h5 h6 h7 h8 h9 h10 h11
  go_enter Tryz.func46, Tryz.ntmps46
  go_wp2
  refine bodyPost_ret (v := .tuple #[shp ((0, 0, 0)), .bool false]) (by rw [results_cell_tmp (fn := Tryz.f46) (p := 4) (u := 5) (ty := 98) (by kernel_rfl)]; simp [go_sem, shp]) rfl ?_
  exact D.out _ _ _ N.out (bl_alloc (bl_alloc (Below.refl _ _) _) _)

set_option maxRecDepth 100000 in
theorem eq_shape (w : World) (a b c a' b' c' : Int) : (binOp .eql 98 (.agg #[.int .i64 a, .int .i64 b, .int .i64 c]) (.agg #[.int .i64 a', .int .i64 b', .int .i64 c'])).run Tryz.prog w = .ok (.bool (a == a' && (b == b' && c == c'))) w := by
  have hp : Tryz.prog.stoodInHeld 98 = false := by kernel_rfl
  have hf : Tryz.prog.underlying 98 = some (.struct (Tryz.prog.fieldsOf 98)) := by kernel_rfl
  rw [run_eql_struct, run_equalIn_struct w 9999 _ _ _ hf hp]
  simp [go_sem, Program.fieldsOf]
  by_cases h1 : a = a' <;> by_cases h2 : b = b' <;> by_cases h3 : c = c' <;> simp [h1, h2, h3]
def Tt.less (a b : ByteArray) : Bool := Op.bytesLess a.toList b.toList
/-- Are the texts in order, each once? -/
def Tt.rise : List ByteArray → Bool
  | [] => true
  | [_] => true
  | a :: b :: r => Tt.less a b && Tt.rise (b :: r)
theorem Tt.rise_at {l : List ByteArray} {j : Nat} {a b : ByteArray} (ha : l[j]? = some a) (hb : l[j + 1]? = some b) : Tt.rise (l.drop j) = (Tt.less a b && Tt.rise (l.drop (j + 1))) := by
  obtain ⟨h1, rfl⟩ := List.getElem?_eq_some_iff.1 ha
  obtain ⟨h2, rfl⟩ := List.getElem?_eq_some_iff.1 hb
  rw [List.drop_eq_getElem_cons h1, List.drop_eq_getElem_cons h2, Tt.rise]
theorem Tt.rise_short {l : List ByteArray} (h : l.length ≤ 1) : Tt.rise l = true := by
  match l, h with
  | [], _ => rfl
  | [_], _ => rfl
theorem geq_str (a b : ByteArray) : binOp .geq 9 (.string a) (.string b) = pure (.bool !(Tt.less a b)) := by simp [binOp, Op.stringOp, Tt.less]

set_option maxHeartbeats 1000000 in
set_option maxRecDepth 100000 in
theorem rising_any (w : World) (v : Value) (l : List ByteArray) (h : Sl w Any v l) : Calls Tryz.prog 47 #[v] w fun e w' => e = .returned (.bool (Tt.rise l)) ∧ Below w.heap.size w w' := by
  obtain ⟨a, c, rfl, hm⟩ := h.form
  unfold maxLen at hm
  have HL : Hid (Sl w Any (.slice a l.length c) l) := h
  have hge := geq_str
  clear h
  go_enter Tryz.func47, Tryz.ntmps47
  go_wp2
  go_loopw [3] (fun v wr => ∃ j : Nat, v = .int .i64 (j + 1) ∧ (j + 1 ≤ l.length ∨ j = 0) ∧ Hid (Tt.rise l = Tt.rise (l.drop j)) ∧ Below w.heap.size w wr) (fun v _ => l.length - (intOf v).toNat)
  case atStart => exact ⟨0, rfl, .inr rfl, rfl, Below.refl _ _⟩
  case round =>
    obtain ⟨j, rfl, hjl, hH, hB⟩ := hrel
    by_cases hlt : j + 1 < l.length
    · obtain ⟨x, hx⟩ : ∃ x, l[j]? = some x := ⟨_, List.getElem?_eq_getElem (by omega)⟩
      obtain ⟨y, hy⟩ : ∃ y, l[j + 1]? = some y := ⟨_, List.getElem?_eq_getElem (by omega)⟩
      obtain ⟨b, o, rfl, cx, cy⟩ : ∃ b o, a = some ⟨b, o, none⟩ ∧ wr.cell? ⟨b, o + j, none⟩ = some (.string x) ∧ wr.cell? ⟨b, o + (j + 1), none⟩ = some (.string y) := by
        rcases HL.out with ⟨b, o, c', hv, -, -, -, hc⟩ | ⟨rfl, -⟩
        · injection hv with e1 e2 e3
          exact ⟨b, o, e1, Keeps.of_below (K := Any) hB b _ _ trivial (hc j x hx), Keeps.of_below (K := Any) hB b _ _ trivial (hc (j + 1) y hy)⟩
        · simp at hx
      have HX : Hid (Tt.rise l = (Tt.less x y && Tt.rise (l.drop (j + 1)))) := hH.out.trans (Tt.rise_at hx hy)
      have hlt2 : (j : Int) + 1 < l.length := by omega
      have hw : IntKind.i64.wrap ((j : Int) + 1 - 1) = j := by rw [IntKind.wrap_i64]; omega
      have HB : Hid (Below w.heap.size w wr) := hB
      clear hH HL hx hy hB hjl
      cases hxy : Tt.less x y with
      | true =>
        rw [hxy, Bool.true_and] at HX
        go_wp2
        go_quiet (fail)
        go_wp2
        go_roundw
        case rel => exact ⟨j + 1, by go_num, .inl (by omega), HX, bl_dN HB.out _⟩
        case measure => simp [intOf]; omega
      | false =>
        rw [hxy, Bool.false_and] at HX
        go_wp2
        go_quiet (fail)
        go_wp2
        go_ret
        exact ⟨ret_bool HX.out.symm, bl_dN HB.out _⟩
    · have HX : Hid (Tt.rise l = true) := hH.out.trans (Tt.rise_short (by rw [List.length_drop]; omega))
      have hlt2 : ¬ (j : Int) + 1 < l.length := by omega
      clear hH HL hjl
      go_wp2
      go_ret
      exact ⟨ret_bool HX.out.symm, hB⟩
end Go.Proofs.YtfeppchgmobfpaaGreatDoor
