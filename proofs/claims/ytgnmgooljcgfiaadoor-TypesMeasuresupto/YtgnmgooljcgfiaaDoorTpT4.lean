/- write, Text. -/
import Derived.Test.YtgnmgooljcgfiaaDoorTpT
namespace Go.Proofs.YtgnmgooljcgfiaaDoor
open Go.RowKit
set_option linter.unusedVariables false
set_option linter.unusedSimpArgs false

theorem Tp.text_fn {t : Tp} (h : t.k = 4) : t.text = Tp.twoText t.ks [32, 45, 62, 32] 2 1 := by
  obtain ⟨k, n, ks⟩ := t
  simp only [Tp.k] at h
  subst h
  by_cases h2 : ks.length = 2
  · match ks, h2 with
    | [a, b], _ => rw [Tp.text_two]; rfl
  · rw [Tp.text_other (t := .mk 4 n ks) h2, if_pos (.inl rfl)]
    unfold Tp.twoText
    split
    · next a b e => exact absurd (congrArg List.length (show ks = [a, b] from e)) h2
    · rfl
theorem Tp.text_pair {t : Tp} (h : t.k = 5) : t.text = Tp.twoText t.ks [32, 42, 32] 2 3 := by
  obtain ⟨k, n, ks⟩ := t
  simp only [Tp.k] at h
  subst h
  by_cases h2 : ks.length = 2
  · match ks, h2 with
    | [a, b], _ => rw [Tp.text_two]; rfl
  · rw [Tp.text_other (t := .mk 5 n ks) h2, if_pos (.inr rfl)]
    unfold Tp.twoText
    split
    · next a b e => exact absurd (congrArg List.length (show ks = [a, b] from e)) h2
    · rfl

set_option maxHeartbeats 2000000 in
set_option maxRecDepth 100000 in
theorem write_step (W : World) (hW : Tab W) (n : Nat) (ih : AtOf W n) : WriteOf W (n + 1) := by
  intro b l w vs t h hT hl
  obtain ⟨v, rfl, hk64, hn64, hL⟩ := hT.open_
  obtain ⟨a, c, rfl, -⟩ := hL.form
  have hBw := h.bl.size
  have hA : ∀ o, Ts W b l (w.alloc o) := fun o => h.stays (bl_alloc (Below.refl _ _) o)
  have HA : Hid (∀ o, Ts W b l (w.alloc o)) := hA
  have HE : Hid (∀ o, Eb W.heap.size b w (w.alloc o)) := fun o => Eb.of_below (bl_alloc (Below.refl _ _) o) hBw
  clear hA h
  by_cases h1 : t.k = 1
  · have ht : t.text = [105, 110, 116] := by rw [Tp.text_leaf (by omega) (by omega), h1]; rfl
    rw [ht] at hl ⊢
    have q : Hid (∀ o, Calls Tryd.prog 43 #[.pointer (some ⟨b, 0, none⟩), .string ⟨#[105, 110, 116]⟩] (w.alloc o) (Wrote W b (l ++ [105, 110, 116]) (w.alloc o) (.tuple #[.int .i64 3, .nilIface]))) := fun o => ws W b l ⟨#[105, 110, 116]⟩ _ (HA.out o) (show _ + 3 ≤ _ by simp at hl; omega)
    clear ih hL hT hl hk64 hn64 ht
    go_enter Tryd.func29, Tryd.ntmps29
    go_wp2_with (first | (go_at_call 43; refine (q.out _).mono ?_; rintro e w2 ⟨rfl, h2, e2⟩; clear q))
    go_end0
    exact ⟨rfl, h2, (HE.out _).trans e2⟩
  by_cases h2 : t.k = 2
  · have ht : t.text = [98, 111, 111, 108] := by rw [Tp.text_leaf (by omega) (by omega), h2]; rfl
    rw [ht] at hl ⊢
    have q : Hid (∀ o, Calls Tryd.prog 43 #[.pointer (some ⟨b, 0, none⟩), .string ⟨#[98, 111, 111, 108]⟩] (w.alloc o) (Wrote W b (l ++ [98, 111, 111, 108]) (w.alloc o) (.tuple #[.int .i64 4, .nilIface]))) := fun o => ws W b l ⟨#[98, 111, 111, 108]⟩ _ (HA.out o) (show _ + 4 ≤ _ by simp at hl; omega)
    clear ih hL hT hl hk64 hn64 ht
    go_enter Tryd.func29, Tryd.ntmps29
    go_wp2_with (first | (go_at_call 43; refine (q.out _).mono ?_; rintro e w2 ⟨rfl, h2, e2⟩; clear q))
    go_end0
    exact ⟨rfl, h2, (HE.out _).trans e2⟩
  by_cases h3 : t.k = 3
  · have ht : t.text = [117, 110, 105, 116] := by rw [Tp.text_leaf (by omega) (by omega), h3]; rfl
    rw [ht] at hl ⊢
    have q : Hid (∀ o, Calls Tryd.prog 43 #[.pointer (some ⟨b, 0, none⟩), .string ⟨#[117, 110, 105, 116]⟩] (w.alloc o) (Wrote W b (l ++ [117, 110, 105, 116]) (w.alloc o) (.tuple #[.int .i64 4, .nilIface]))) := fun o => ws W b l ⟨#[117, 110, 105, 116]⟩ _ (HA.out o) (show _ + 4 ≤ _ by simp at hl; omega)
    clear ih hL hT hl hk64 hn64 ht
    go_enter Tryd.func29, Tryd.ntmps29
    go_wp2_with (first | (go_at_call 43; refine (q.out _).mono ?_; rintro e w2 ⟨rfl, h2, e2⟩; clear q))
    go_end0
    exact ⟨rfl, h2, (HE.out _).trans e2⟩
  by_cases h4 : t.k = 4
  · rw [Tp.text_fn h4] at hl ⊢
    have q : Hid (∀ o, Calls Tryd.prog 44 #[.pointer (some ⟨b, 0, none⟩), .slice a t.ks.length c, .string ⟨#[32, 45, 62, 32]⟩, .int .i64 2, .int .i64 1] (w.alloc o) (Wrote W b (l ++ Tp.twoText t.ks [32, 45, 62, 32] 2 1) (w.alloc o) (.tuple #[]))) := fun o => two_step W n ih b l _ _ t.ks ⟨#[32, 45, 62, 32]⟩ 2 1 (HA.out o) hL hl
    clear ih hL hT hl hk64 hn64
    go_enter Tryd.func29, Tryd.ntmps29
    go_wp2_with (first | (go_at_call 44; refine (q.out _).mono ?_; rintro e w2 ⟨rfl, h2, e2⟩; clear q))
    go_end0
    exact ⟨rfl, h2, (HE.out _).trans e2⟩
  by_cases h5 : t.k = 5
  · rw [Tp.text_pair h5] at hl ⊢
    have q : Hid (∀ o, Calls Tryd.prog 44 #[.pointer (some ⟨b, 0, none⟩), .slice a t.ks.length c, .string ⟨#[32, 42, 32]⟩, .int .i64 2, .int .i64 3] (w.alloc o) (Wrote W b (l ++ Tp.twoText t.ks [32, 42, 32] 2 3) (w.alloc o) (.tuple #[]))) := fun o => two_step W n ih b l _ _ t.ks ⟨#[32, 42, 32]⟩ 2 3 (HA.out o) hL hl
    clear ih hL hT hl hk64 hn64
    go_enter Tryd.func29, Tryd.ntmps29
    go_wp2_with (first | (go_at_call 44; refine (q.out _).mono ?_; rintro e w2 ⟨rfl, h2, e2⟩; clear q))
    go_end0
    exact ⟨rfl, h2, (HE.out _).trans e2⟩
  by_cases h6 : t.k = 6
  · have ht : t.text = [35] ++ Lib.itoa t.n := by rw [Tp.text_leaf (by omega) (by omega), h6]; rfl
    rw [ht] at hl ⊢
    have q : Hid (∀ o, Calls Tryd.prog 45 #[.pointer (some ⟨b, 0, none⟩), .string ⟨#[35]⟩, .int .i64 t.n] (w.alloc o) (Wrote W b (l ++ ([35] ++ Lib.itoa t.n)) (w.alloc o) (.tuple #[]))) := fun o => numbered_any W hW b l ⟨#[35]⟩ t.n hn64 _ (HA.out o) (show _ + 1 + 21 ≤ _ by omega)
    clear ih hL hT hl hk64 hn64 ht
    go_enter Tryd.func29, Tryd.ntmps29
    go_wp2_with (first | (go_at_call 45; refine (q.out _).mono ?_; rintro e w2 ⟨rfl, h2, e2⟩; clear q))
    go_end0
    exact ⟨rfl, h2, (HE.out _).trans e2⟩
  by_cases h7 : t.k = 7
  · have ht : t.text = [63] ++ Lib.itoa t.n := by rw [Tp.text_leaf (by omega) (by omega), h7]; rfl
    rw [ht] at hl ⊢
    have q : Hid (∀ o, Calls Tryd.prog 45 #[.pointer (some ⟨b, 0, none⟩), .string ⟨#[63]⟩, .int .i64 t.n] (w.alloc o) (Wrote W b (l ++ ([63] ++ Lib.itoa t.n)) (w.alloc o) (.tuple #[]))) := fun o => numbered_any W hW b l ⟨#[63]⟩ t.n hn64 _ (HA.out o) (show _ + 1 + 21 ≤ _ by omega)
    clear ih hL hT hl hk64 hn64 ht
    go_enter Tryd.func29, Tryd.ntmps29
    go_wp2_with (first | (go_at_call 45; refine (q.out _).mono ?_; rintro e w2 ⟨rfl, h2, e2⟩; clear q))
    go_end0
    exact ⟨rfl, h2, (HE.out _).trans e2⟩
  by_cases h8 : t.k = 8
  · have ht : t.text = Tp.gen t.n := by rw [Tp.text_leaf (by omega) (by omega), h8]; rfl
    rw [ht] at hl ⊢
    have q : Hid (∀ o, Calls Tryd.prog 46 #[.pointer (some ⟨b, 0, none⟩), .int .i64 t.n] (w.alloc o) (Wrote W b (l ++ Tp.gen t.n) (w.alloc o) (.tuple #[]))) := fun o => gen_any W hW b l t.n hn64 _ (HA.out o) (by omega)
    clear ih hL hT hl hk64 hn64 ht
    go_enter Tryd.func29, Tryd.ntmps29
    go_wp2_with (first | (go_at_call 46; refine (q.out _).mono ?_; rintro e w2 ⟨rfl, h2, e2⟩; clear q))
    go_end0
    exact ⟨rfl, h2, (HE.out _).trans e2⟩
  have g1 : (t.k == 1) = false := by rw [beq_eq_false_iff_ne]; exact h1
  have g2 : (t.k == 2) = false := by rw [beq_eq_false_iff_ne]; exact h2
  have g3 : (t.k == 3) = false := by rw [beq_eq_false_iff_ne]; exact h3
  have g4 : (t.k == 4) = false := by rw [beq_eq_false_iff_ne]; exact h4
  have g5 : (t.k == 5) = false := by rw [beq_eq_false_iff_ne]; exact h5
  have g6 : (t.k == 6) = false := by rw [beq_eq_false_iff_ne]; exact h6
  have g7 : (t.k == 7) = false := by rw [beq_eq_false_iff_ne]; exact h7
  have g8 : (t.k == 8) = false := by rw [beq_eq_false_iff_ne]; exact h8
  have ht : t.text = [63] := by rw [Tp.text_leaf h4 h5]; unfold Tp.leaf; rw [if_neg h1, if_neg h2, if_neg h3, if_neg h6, if_neg h7, if_neg h8]
  rw [ht] at hl ⊢
  have q : Hid (∀ o, Calls Tryd.prog 43 #[.pointer (some ⟨b, 0, none⟩), .string ⟨#[63]⟩] (w.alloc o) (Wrote W b (l ++ [63]) (w.alloc o) (.tuple #[.int .i64 1, .nilIface]))) := fun o => ws W b l ⟨#[63]⟩ _ (HA.out o) (show _ + 1 ≤ _ by simp at hl; omega)
  clear ih hL hT hl hk64 hn64 ht h1 h2 h3 h4 h5 h6 h7 h8
  go_enter Tryd.func29, Tryd.ntmps29
  go_wp2_with (first | (go_at_call 43; refine (q.out _).mono ?_; rintro e w2 ⟨rfl, h2, e2⟩; clear q))
  go_end0
  exact ⟨rfl, h2, (HE.out _).trans e2⟩
theorem write_any (W : World) (hW : Tab W) : ∀ n, WriteOf W n
  | 0 => fun b l w vs t _ hT _ => hT.elim
  | n + 1 => write_step W hW n (at_step W n (write_any W hW n))
theorem Tp.wrap_ne (f g : Int) {s : List UInt8} (h : s ≠ []) : Tp.wrap f g s ≠ [] := by
  unfold Tp.wrap
  split
  · exact h
  · simp
theorem Tp.leaf_ne (k n : Int) : Tp.leaf k n ≠ [] := by
  unfold Tp.leaf Tp.gen
  repeat' split
  all_goals simp
theorem Tp.text_ne (t : Tp) : t.text ≠ [] := by
  by_cases h4 : t.k = 4
  · rw [Tp.text_fn h4]; unfold Tp.twoText; split <;> simp
  · by_cases h5 : t.k = 5
    · rw [Tp.text_pair h5]; unfold Tp.twoText; split <;> simp
    · rw [Tp.text_leaf h4 h5]; exact Tp.leaf_ne _ _

set_option maxHeartbeats 1000000 in
set_option maxRecDepth 100000 in
theorem Text_any (w : World) (hW : Tab w) (n : Nat) (vs : List Value) (t : Tp) (hT : TAt w Any n vs t) (hl : t.text.length + 100 ≤ 140737488355328) : Calls Tryd.prog 19 #[.agg vs.toArray] w fun e w' => e = .returned (.string ⟨t.text.toArray⟩) ∧ Below w.heap.size w w' := by
  have q1 : Hid (∀ o, Calls Tryd.prog 29 #[.pointer (some ⟨w.heap.size + 1, 0, none⟩), .agg vs.toArray] ((w.alloc o).alloc (.cells #[.pointer none, .slice none 0 0] 45)) (Wrote (w.alloc o) (w.heap.size + 1) t.text ((w.alloc o).alloc (.cells #[.pointer none, .slice none 0 0] 45)) (.tuple #[]))) := by
    intro o
    have hb : Below w.heap.size w (w.alloc o) := bl_alloc (Below.refl _ _) _
    have hi := Lib.fresh_isBuilder 45 5 (w.alloc o)
    rw [size_alloc] at hi
    refine write_any (w.alloc o) (hW.stays hb) n (w.heap.size + 1) [] _ vs t ⟨?_, bl_alloc (Below.refl _ _) _⟩ (hT.below hb) (by simpa using hl)
    rw [size_alloc]
    exact hi
  have q2 : Hid (∀ o w2, Ts (w.alloc o) (w.heap.size + 1) t.text w2 → Calls Tryd.prog 30 #[.pointer (some ⟨w.heap.size + 1, 0, none⟩)] w2 fun e w' => e = .returned (.string ⟨t.text.toArray⟩) ∧ Below w.heap.size w w') := fun o w2 h2 => (String_any _ _ _ w2 h2.i t.text_ne).mono fun e w' ⟨h1, h3⟩ => ⟨h1, (bl_tr (bl_alloc (Below.refl _ _) _) h2.bl).trans (h3.mono (by rw [size_alloc]; omega))⟩
  obtain ⟨a, c, rfl⟩ := hT.form
  clear hT hl
  generalize (⟨t.text.toArray⟩ : ByteArray) = txt at q2
  go_enter Tryd.func19, Tryd.ntmps19
  go_wp2_with (first | (go_at_call 29; refine (q1.out _).mono ?_; rintro e w2 ⟨rfl, h2, e2⟩; clear q1) | (go_at_call 30; refine (q2.out _ _ h2).mono ?_; rintro e w3 ⟨rfl, hb3⟩; clear q2))
  go_ret
  exact ⟨rfl, hb3⟩
end Go.Proofs.YtgnmgooljcgfiaaDoor
