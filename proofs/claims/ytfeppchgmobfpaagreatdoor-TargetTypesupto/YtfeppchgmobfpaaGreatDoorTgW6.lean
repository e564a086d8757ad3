/- How long the text of a target type is. -/
import Derived.Test.YtfeppchgmobfpaaGreatDoorTgRd
import Derived.Test.YtfeppchgmobfpaaGreatDoorTgR6
import Derived.Test.YtfeppchgmobfpaaGreatDoorTgW5
namespace Go.Proofs.YtfeppchgmobfpaaGreatDoor
open Go.RowKit
set_option linter.unusedVariables false

def Tt.ts (l : List Tt) (e : List (Int × Int)) : Nat := match l with
  | [] => 0
  | x :: r => (x.txt e).length + 5 + Tt.ts r e
theorem Tt.clo_len (k : Int) (s : List UInt8) : (Tt.clo k s).length ≤ s.length + 2 := by
  unfold Tt.clo
  split
  · simp
  · omega
theorem Tt.sumT_len (e : List (Int × Int)) : ∀ (l : List Tt) (i : Nat), (Tt.sumT i (Tt.txtL l e)).length ≤ Tt.ts l e
  | [], i => by rw [Tt.txtL, Tt.sumT]; exact Nat.zero_le _
  | x :: r, i => by
    rw [Tt.txtL, Tt.sumT, Tt.ts]
    have h1 := Tt.sumT_len e r (i + 1)
    have h2 := Tt.clo_len x.k (x.txt e)
    simp only [List.length_append]
    have h3 : (if 0 < i then [32, 124, 32] else ([] : List UInt8)).length ≤ 3 := by split <;> simp
    omega
theorem Tt.recT_len (e : List (Int × Int)) : ∀ (ls : List ByteArray) (l : List Tt) (i : Nat), (Tt.recT i ls (Tt.txtL l e)).length ≤ 4 * lsz ls + Tt.ts l e
  | [], l, i => by
    cases l with
    | nil => rw [Tt.txtL, Tt.recT]; exact Nat.zero_le _; all_goals simp
    | cons x r => rw [Tt.txtL, Tt.recT]; exact Nat.zero_le _; all_goals simp
  | s :: ls, [], i => by rw [Tt.txtL, Tt.recT]; exact Nat.zero_le _; all_goals simp
  | s :: ls, x :: r, i => by
    rw [Tt.txtL, Tt.recT, Tt.ts]
    have h1 := Tt.recT_len e ls r (i + 1)
    have h2 := Tt.clo_len x.k (x.txt e)
    simp only [List.length_append]
    have h3 : (if 0 < i then [44, 32] else ([] : List UInt8)).length ≤ 2 := by split <;> simp
    have h4 : s.data.toList.length = s.size := rfl
    have h5 : lsz (s :: ls) = s.size + 1 + lsz ls := rfl
    rw [h5]
    simp only [List.length_cons, List.length_nil]
    omega
theorem Tt.ts_wt (e : List (Int × Int)) : ∀ (l : List Tt), (∀ x ∈ l, (x.txt e).length + 5 ≤ 40 * x.wt) → Tt.ts l e ≤ 40 * Tt.wtL l
  | [], _ => by rw [Tt.ts, Tt.wtL]; omega
  | x :: r, h => by
    rw [Tt.ts, Tt.wtL]
    have h1 := h x (List.mem_cons_self ..)
    have h2 := Tt.ts_wt e r (fun y hy => h y (List.mem_cons_of_mem _ hy))
    omega
theorem Tt.wt_mk (t : Tt) : t.wt = lsz t.ls + Tt.wtL t.ks + 3 := by cases t; rw [Tt.wt]; rfl
theorem txt_len : ∀ (n : Nat) (w : World) (vs : List Value) (t : Tt) (e : List (Int × Int)), TAt w Any n vs t → (∀ x j, lk e x = some j → R64 j) → e.length + t.cnt ≤ 1099511627776 → (t.txt e).length + 5 ≤ 40 * t.wt
  | 0, w, vs, t, e, h, _, _ => h.elim
  | n + 1, w, vs, t, e, h, he, hc => by
    obtain ⟨u, v, rfl, hk, hn, hS, hL⟩ := h
    obtain ⟨a, c, rfl, -⟩ := TAtL.form hL
    have hck := Tt.cnt_ks t
    have he64 : R64 (e.length : Int) := by unfold R64; omega
    have hen : ∀ x j, lk (t.env e) x = some j → R64 j := by
      intro x j hx
      unfold Tt.env at hx
      cases hb : t.binds with
      | true =>
        rw [hb, if_pos rfl, lk_cons] at hx
        split at hx
        · injection hx with hx; rw [← hx]; exact he64
        · exact he x j hx
      | false => rw [hb] at hx; exact he x j (by simpa using hx)
    have hel : (t.env e).length ≤ e.length + 1 := by
      unfold Tt.env
      split
      · simp
      · omega
    have kid : ∀ x ∈ t.ks, (x.txt (t.env e)).length + 5 ≤ 40 * x.wt := by
      intro x hx
      obtain ⟨i, hi⟩ := List.mem_iff_getElem?.1 hx
      have hcx := Tt.cnt_at hi
      obtain ⟨_, _, k1, k2, k3, k4, -, -, -, -, -, -, hT⟩ := TAtL.load hL hi
      exact txt_len n w _ x (t.env e) hT hen (by omega)
    have hs := Tt.ts_wt _ t.ks kid
    rw [Tt.wt_mk]
    cases hf : Tt.fitN t.k t.ks.length t.ls.length with
    | false => rw [Tt.txt_bad e hf]; simp; omega
    | true =>
      rw [Tt.txt_fit e hf]
      have hD := itoa_len he64
      split
      · simp; omega
      split
      · simp; omega
      split
      · simp; omega
      split
      · rename_i h4
        have h2 : t.ks.length = 2 := by rw [h4] at hf; simpa [Tt.fitN] using hf
        obtain ⟨x, y, hxy⟩ := Tt.two h2
        rw [hxy] at hs ⊢
        rw [Tt.txtL2]
        simp only [Tt.ts] at hs
        have := Tt.clo_len x.k (x.txt (t.env e))
        simp
        omega
      split
      · rename_i h4
        have h2 : t.ks.length = 2 := by rw [h4] at hf; simpa [Tt.fitN] using hf
        obtain ⟨x, y, hxy⟩ := Tt.two h2
        rw [hxy] at hs ⊢
        rw [Tt.txtL2]
        simp only [Tt.ts] at hs
        have := Tt.clo_len x.k (x.txt (t.env e))
        have := Tt.clo_len y.k (y.txt (t.env e))
        simp
        omega
      split
      · unfold Tt.varT
        split
        · rename_i j hj
          have := itoa_len (he _ _ hj)
          simp; omega
        · have := itoa_len hn
          simp; omega
      split
      · have := Tt.recT_len (t.env e) t.ls t.ks 0
        simp; omega
      split
      · have := Tt.sumT_len (t.env e) t.ks 0
        simp; omega
      · have hw : (Tt.word t.k).length ≤ 4 := by unfold Tt.word; split; simp; split <;> simp
        have h1 : ((Tt.txtL t.ks (t.env e)).getD 0 ([], [])).1.length ≤ Tt.ts t.ks (t.env e) := by
          cases hk : t.ks with
          | nil => rw [Tt.txtL]; simp
          | cons x r => rw [Tt.txtL, Tt.ts]; simp; omega
        simp only [List.length_append, List.length_cons, List.length_nil]
        omega
end Go.Proofs.YtfeppchgmobfpaaGreatDoor
