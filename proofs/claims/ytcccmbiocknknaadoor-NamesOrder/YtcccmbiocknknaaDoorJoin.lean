/- What Join comes to, and how it and Split undo one another. -/
import Derived.Test.YtcccmbiocknknaaDoorAlive
import Derived.Test.YtcccmbiocknknaaDoorApartP
import Derived.Test.YtcccmbiocknknaaDoorShelfJoin
namespace Go.Proofs.YtcccmbiocknknaaDoor
open Go.RowKit Go.Shelf
set_option linter.unusedVariables false

def Nm.joinL : List (List UInt8) → List UInt8
  | [] => []
  | [x] => x
  | x :: y :: r => x ++ 46 :: Nm.joinL (y :: r)
theorem Nm.join_lib : ∀ xs : List (List UInt8), Lib.join xs [46] = Nm.joinL xs
  | [] => rfl
  | [x] => Lib.join_one x [46]
  | x :: y :: r => by
    have ih := Nm.join_lib (y :: r)
    unfold Lib.join at ih ⊢
    rw [Nm.joinL, ← ih]
    simp [List.intercalate, List.intersperse]
def Nm.join (xs : List ByteArray) : ByteArray := ⟨(Nm.joinL (xs.map (·.data.toList))).toArray⟩

theorem Nm.joinL_cons (c : UInt8) (h : List UInt8) (r : List (List UInt8)) : Nm.joinL ((c :: h) :: r) = c :: Nm.joinL (h :: r) := by
  cases r with
  | nil => rfl
  | cons y r => rfl
theorem Nm.joinL_split : ∀ l : List UInt8, Nm.joinL (Nm.splitL l) = l
  | [] => rfl
  | c :: t => by
    have ih := Nm.joinL_split t
    unfold Nm.splitL
    split
    · rename_i hc
      cases e : Nm.splitL t with
      | nil => exact absurd e (Nm.splitL_ne t)
      | cons y r => rw [Nm.joinL, ← e, ih, hc]; rfl
    · cases e : Nm.splitL t with
      | nil => exact absurd e (Nm.splitL_ne t)
      | cons y r =>
        show Nm.joinL ((c :: y) :: r) = c :: t
        rw [Nm.joinL_cons, ← e, ih]
theorem Nm.split_joinL : ∀ xs : List (List UInt8), xs ≠ [] → (∀ x, x ∈ xs → (46 : UInt8) ∉ x) → Nm.splitL (Nm.joinL xs) = xs
  | [], h, _ => absurd rfl h
  | [x], _, h => Nm.splitL_none x (h x (by simp))
  | x :: y :: r, _, h => by
    rw [Nm.joinL, Nm.splitL_point x _ (h x (by simp)), Nm.split_joinL (y :: r) (by simp) (fun z hz => h z (by simp [hz]))]

theorem Nm.map_bytes (xs : List ByteArray) : (xs.map (·.data.toList)).map (fun l => (⟨l.toArray⟩ : ByteArray)) = xs := by
  rw [List.map_map]
  conv => rhs; rw [← List.map_id xs]
  rfl
theorem Nm.join_pieces (s : ByteArray) : Nm.join (Nm.pieces s) = s := by
  unfold Nm.join Nm.pieces
  rw [List.map_map]
  have : ((fun x : ByteArray => x.data.toList) ∘ fun l : List UInt8 => (⟨l.toArray⟩ : ByteArray)) = id := rfl
  rw [this, List.map_id, Nm.joinL_split]
theorem Nm.pieces_join {xs : List ByteArray} (h0 : xs ≠ []) (h : ∀ x, x ∈ xs → (46 : UInt8) ∉ x.data.toList) : Nm.pieces (Nm.join xs) = xs := by
  unfold Nm.join Nm.pieces
  rw [Nm.split_joinL _ (by simpa using h0) (fun x hx => by obtain ⟨y, hy, rfl⟩ := List.mem_map.1 hx; exact h y hy), Nm.map_bytes]

theorem Nm.pathL_right : ∀ {xs : List ByteArray}, Nm.pathL xs = 0 → ∀ x, x ∈ xs → Nm.right x = 0
  | [], _, x, hx => by cases hx
  | y :: r, h, x, hx => by
    rw [Nm.pathL] at h
    split at h
    · rename_i h1; exact absurd h h1
    · rename_i h1
      have hy : Nm.right y = 0 := Decidable.not_not.1 h1
      split at h
      · omega
      · rcases List.mem_cons.1 hx with rfl | hx
        · exact hy
        · exact Nm.pathL_right h x hx
theorem Nm.path_ok {xs : List ByteArray} (h : Nm.path xs = 0) : xs ≠ [] ∧ xs.length ≤ 8 ∧ ∀ x, x ∈ xs → Nm.right x = 0 := by
  unfold Nm.path at h
  split at h
  · omega
  · rename_i h0
    split at h
    · omega
    · exact ⟨fun e => h0 (by rw [e]; rfl), by omega, Nm.pathL_right h⟩
theorem Nm.right_point {x : ByteArray} (h : Nm.right x = 0) : (46 : UInt8) ∉ x.data.toList := fun hm =>
  absurd (Nm.spelt_body (Nm.right_zero h).1 hm) (by decide)
theorem Nm.back_path {xs : List ByteArray} (h : Nm.path xs = 0) : Nm.splitV (Nm.join xs) = 0 ∧ Nm.splitP (Nm.join xs) = xs := by
  obtain ⟨h0, _, h2⟩ := Nm.path_ok h
  have e := Nm.pieces_join h0 (fun x hx => Nm.right_point (h2 x hx))
  have e1 : Nm.splitV (Nm.join xs) = 0 := by unfold Nm.splitV; rw [e, h]
  exact ⟨e1, by unfold Nm.splitP; rw [if_pos e1, e]⟩
theorem Nm.back_text {s : ByteArray} (h : Nm.splitV s = 0) : Nm.join (Nm.splitP s) = s ∧ Nm.path (Nm.splitP s) = 0 := by
  have e : Nm.splitP s = Nm.pieces s := by unfold Nm.splitP; rw [if_pos h]
  rw [e]
  exact ⟨Nm.join_pieces s, h⟩

theorem Strs.shape {W : World} {v : Value} (h : Strs W v []) : ∃ p c, v = .slice p 0 c := by
  rcases h with ⟨b, o, c, rfl, _⟩ | ⟨_, p, c, rfl⟩
  · exact ⟨_, _, rfl⟩
  · exact ⟨_, _, rfl⟩

theorem join_any (v : Value) (xs : List ByteArray) (w : World) (hv : Strs w v xs) (hc : CapOk v) (hN : xs.length ≤ 140737488355328) (hlen : (Nm.join xs).size ≤ 140737488355328) :
    Calls Tryd.prog 31 #[v] w fun e w' => e = .returned (.string (Nm.join xs)) ∧ Below w.heap.size w w' := by
  rcases xs with _ | ⟨x, r⟩
  · obtain ⟨p, c, rfl⟩ := hv.shape
    go_enter Tryd.func31, Tryd.ntmps31
    go_wp2_with (go_at_call 53; refine (Tryd.strings_Join_none _ _ _ _).mono ?_; rintro e w' ⟨rfl, rfl⟩)
    go_ret
    exact ⟨rfl, Below.refl _ _⟩
  · rcases hv with ⟨b, o, c, rfl, hcell⟩ | ⟨h, _⟩
    · have hb : b < w.heap.size := World.block_lt_of_cell? w _ (hcell 0 x rfl)
      have hc' : (x :: r).length ≤ c := hc
      have hl : (Lib.join ((x :: r).map (·.data.toList)) (⟨#[46]⟩ : ByteArray).data.toList).length ≤ 140737488355328 := by
        have e : (Lib.join ((x :: r).map (·.data.toList)) (⟨#[46]⟩ : ByteArray).data.toList) = Nm.joinL ((x :: r).map (·.data.toList)) := Nm.join_lib _
        rw [e]
        have := Nm.len (Nm.join (x :: r))
        rw [show (Nm.join (x :: r)).data.toList = Nm.joinL ((x :: r).map (·.data.toList)) from rfl] at this
        omega
      have hJ := Tryd.strings_Join b o c (x :: r) ⟨#[46]⟩ w hcell hb hN hc' hl
      have HE : Hid ((⟨(Lib.join ((x :: r).map (·.data.toList)) (⟨#[46]⟩ : ByteArray).data.toList).toArray⟩ : ByteArray) = Nm.join (x :: r)) := by
        show _ = _
        unfold Nm.join
        rw [← Nm.join_lib]
      clear hcell hc hc' hl hlen
      go_enter Tryd.func31, Tryd.ntmps31
      go_wp2_with (go_at_call 53; refine hJ.mono ?_; rintro e w1 ⟨rfl, hb1⟩)
      go_ret
      exact ⟨ret_str HE.out, hb1⟩
    · cases h
end Go.Proofs.YtcccmbiocknknaaDoor
