/- The pieces of a text between its points, and the iterator over them: strings.SplitSeq at one point. -/
import Derived.Lib.IndexLaws
import Derived.Test.YtcccmbiocknknaaDoorSeq
import Derived.Test.YtcccmbiocknknaaDoorLabel
namespace Go.Proofs.YtcccmbiocknknaaDoor
open Go.RowKit Go.Shelf
set_option linter.unusedVariables false
attribute [local go_sem] Oper.semAt_some

def Nm.splitL : List UInt8 → List (List UInt8)
  | [] => [[]]
  | c :: t => if c = 46 then [] :: Nm.splitL t else match Nm.splitL t with
    | [] => [[c]]
    | h :: r => (c :: h) :: r
def Nm.pieces (s : ByteArray) : List ByteArray := (Nm.splitL s.data.toList).map fun l => ⟨l.toArray⟩

theorem Nm.splitL_ne (l : List UInt8) : Nm.splitL l ≠ [] := by
  cases l with
  | nil => simp [Nm.splitL]
  | cons c t =>
    unfold Nm.splitL; split
    · simp
    · split <;> simp
theorem Nm.splitL_point (a b : List UInt8) (h : (46 : UInt8) ∉ a) : Nm.splitL (a ++ 46 :: b) = a :: Nm.splitL b := by
  induction a with
  | nil => simp [Nm.splitL]
  | cons c t ih =>
    have hc : ¬ c = 46 := fun e => h (by simp [e])
    rw [List.cons_append, Nm.splitL, if_neg hc, ih (fun e => h (by simp [e]))]
theorem Nm.splitL_none (a : List UInt8) (h : (46 : UInt8) ∉ a) : Nm.splitL a = [a] := by
  induction a with
  | nil => rfl
  | cons c t ih =>
    have hc : ¬ c = 46 := fun e => h (by simp [e])
    rw [Nm.splitL, if_neg hc, ih (fun e => h (by simp [e]))]

/-- The first point's place: as Lib.indexByte has it. -/
theorem Nm.index_none {l : List UInt8} (h : Lib.indexByte l 46 < 0) : (46 : UInt8) ∉ l := by
  have hg := Lib.indexByte_ge l 46
  have h1 := Lib.indexByte_none (l := l) (c := 46) (by omega)
  intro hm
  obtain ⟨k, hk⟩ := List.mem_iff_getElem?.1 hm
  exact h1 k hk
theorem Nm.index_some {l : List UInt8} {m : Nat} (h : Lib.indexByte l 46 = (m : Int)) : m < l.length ∧ l = l.take m ++ 46 :: l.drop (m + 1) ∧ (46 : UInt8) ∉ l.take m := by
  obtain ⟨h1, h2⟩ := Lib.indexByte_some h
  obtain ⟨h3, h4⟩ := List.getElem?_eq_some_iff.1 h1
  refine ⟨h3, ?_, ?_⟩
  · conv => lhs; rw [← List.take_append_drop m l, List.drop_eq_getElem_cons h3, h4]
  · intro hm
    obtain ⟨k, hk⟩ := List.mem_iff_getElem?.1 hm
    rw [List.getElem?_take] at hk
    split at hk
    · rename_i hlt; exact h2 k hlt hk
    · cases hk

theorem Nm.pieces_none {t : ByteArray} (h : Lib.indexByte t.data.toList 46 < 0) : Nm.pieces t = [t] := by
  unfold Nm.pieces; rw [Nm.splitL_none _ (Nm.index_none h)]; rfl
theorem Nm.pieces_some {t : ByteArray} {m : Nat} (h : Lib.indexByte t.data.toList 46 = (m : Int)) : Nm.pieces t = t.extract 0 m :: Nm.pieces (t.extract (m + 1) t.size) := by
  obtain ⟨h1, h2, h3⟩ := Nm.index_some h
  unfold Nm.pieces
  rw [Nm.extract_end]
  conv => lhs; rw [h2, Nm.splitL_point _ _ h3]
  rw [List.map_cons]
  congr 1
  symm; apply Nm.bytes_of
  rw [Lib.extract_data]; simp

theorem Nm.pieces_ne (s : ByteArray) : Nm.pieces s ≠ [] := by unfold Nm.pieces; simp [Nm.splitL_ne]

set_option maxHeartbeats 400000 in
theorem index_any (t : ByteArray) (w : World) : Calls Tryd.prog 79 #[.string t, .string ⟨#[46]⟩] w fun e w' => e = .returned (.int .i64 (Lib.indexByte t.data.toList 46)) ∧ w' = w := by
  by_cases h : t.data.toList = [46]
  · obtain rfl : t = ⟨#[46]⟩ := Nm.bytes_of h
    go_enter Tryd.func79, Tryd.ntmps79
    go_wp2_with go_in
    go_ret
    exact ⟨rfl, rfl⟩
  · have h' : ([46] == t.toList) = false := by rw [beq_eq_false_iff_ne, Lib.toList_data]; exact fun e => h e.symm
    clear h
    go_enter Tryd.func79, Tryd.ntmps79
    go_wp2_with (first | (go_at_call 94; refine (Tryd.stringslite_IndexByte _ _ _).mono ?_; rintro e w' ⟨rfl, rfl⟩) | go_in)
    go_ret
    exact ⟨rfl, rfl⟩

theorem index_lt {t : ByteArray} {w : World} (h : Hid (Lib.indexByte t.data.toList 46 < 0)) : Calls Tryd.prog 79 #[.string t, .string ⟨#[46]⟩] w fun e w' => e = .returned (.int .i64 (-1)) ∧ w' = w := by
  refine (index_any _ _).mono ?_
  rintro e w' ⟨rfl, rfl⟩
  refine ⟨ret_int ?_, rfl⟩
  have := Lib.indexByte_ge t.data.toList 46
  have h' := h.out
  omega
theorem index_at {t : ByteArray} {w : World} {m : Nat} (h : Hid (Lib.indexByte t.data.toList 46 = (m : Int))) : Calls Tryd.prog 79 #[.string t, .string ⟨#[46]⟩] w fun e w' => e = .returned (.int .i64 (m : Int)) ∧ w' = w := by
  refine (index_any _ _).mono ?_
  rintro e w' ⟨rfl, rfl⟩
  exact ⟨ret_int h.out, rfl⟩

set_option maxHeartbeats 400000 in
theorem splitSeq_in (n : Nat) (s : ByteArray) (w : World) :
    CallsIn Fence.wide n Tryd.prog 52 #[.string s, .string ⟨#[46]⟩] w fun e w' => e = .returned (.func (.func 77) #[] #[.pointer (some ⟨w.heap.size + 1, 0, none⟩), .pointer (some ⟨w.heap.size, 0, none⟩), .pointer (some ⟨w.heap.size + 2, 0, none⟩)]) ∧
      w' = ((w.alloc (.cells #[.string s] 9)).alloc (.cells #[.string ⟨#[46]⟩] 9)).alloc (.cells #[.int .i64 0] 3) := by
  refine callsIn_wide.2 ?_
  go_enter Tryd.func52, Tryd.ntmps52
  go_wp2_with go_in
  go_ret
  exact ⟨rfl, rfl⟩
end Go.Proofs.YtcccmbiocknknaaDoor
