/- What the document's own Caret comes to: the same text as Caret's. -/
import Derived.Test.YtmcjcgodapkkpaaRefWhere
namespace Go.Proofs.Ytmcjcgodapkkpaa
open Go.RowKit Go.Shelf
set_option linter.unusedVariables false

/-- The bytes of the line, and of the mark below it. -/
def Tx.caretL (s : ByteArray) (k : Nat) : List UInt8 := (s.extract (Tx.wf s k) (Tx.wt s k)).data.toList ++ [10] ++ List.replicate (k - Tx.wf s k) 32 ++ [94]

theorem Tx.w_line {s : ByteArray} {k : Nat} (hk : k ≤ s.size) : Tx.wl s k < Tx.nl s ∧ Tx.lb s (Tx.wl s k) = Tx.wf s k ∧ Tx.le s (Tx.wl s k) = Tx.wt s k ∧ Tx.wf s k ≤ k ∧ k ≤ Tx.wt s k ∧ Tx.wt s k ≤ s.size := by
  obtain ⟨q, x, r, e, hq, hx⟩ := Tx.lines_part hk
  obtain ⟨h1, h2, h3⟩ := Tx.w_eq e hq hx
  have h4 := Tx.w_bounds e hq hx
  have hl : q.length < Tx.nl s := by unfold Tx.nl; rw [e]; simp
  have hg : (Tx.lines s)[q.length]? = some x := by rw [e, List.getElem?_append_right (Nat.le_refl _)]; simp
  have hg' := Tx.get_line hl
  rw [hg] at hg'
  simp only [Option.some.injEq] at hg'
  rw [h1, h2, h3]
  refine ⟨hl, ?_, ?_, h4.1, hx, h4.2.1⟩
  · rw [hg']
  · rw [hg']

set_option maxRecDepth 100000 in
set_option maxHeartbeats 2000000 in
theorem refCaret_any (s : ByteArray) (i : Int) (hs : s.size ≤ 2097152) (w : World) :
    Calls Try.prog 16 #[.string s, .int .i64 i] w fun e W' => e = .returned (.string ⟨(Tx.caretL s (Tx.at s.size i)).toArray⟩) ∧ Below w.heap.size w W' := by
  have ha := Tx.at_le s.size i
  obtain ⟨hw1, hw2, hw3, hw4, hw5, hw6⟩ := Tx.w_line ha
  have hn := Tx.nl_le s
  obtain ⟨k, hk⟩ : ∃ k, Tx.at s.size i = k := ⟨_, rfl⟩
  rw [hk] at ha hw1 hw2 hw3 hw4 hw5 hw6
  have HW : Hid (Tx.lb s (Tx.wl s k) = Tx.wf s k ∧ Tx.le s (Tx.wl s k) = Tx.wt s k) := ⟨hw2, hw3⟩
  clear hw2 hw3
  have kc := fun (w : World) (t : ByteArray) => Lib.run_convert_string_bytes (P := Try.prog) w 9 45 5 t Try.underlying9 Try.underlying45 Try.underlying5
  have HK : Hid (Tx.at s.size i = k) := hk
  clear hk
  go_enter Try.func16, Try.ntmps16
  go_wp2_with (first
    | (go_at_call 9; refine (refWhere_any _ _ hs _).mono ?_; rw [HK.out]; rintro e w' ⟨rfl, rfl⟩)
    | (go_at_call 12; refine (refLines_rd _ hs _).mono ?_; rintro e w1 ⟨v, rfl, g, cap, rfl, hg, hc, hb1⟩; have hcl := hc (Tx.wl s k) hw1; rw [HW.out.1, HW.out.2] at hcl; clear hc))
  obtain ⟨T, hT⟩ : ∃ T, (s.extract (Tx.wf s k) (Tx.wt s k) ++ ⟨#[10]⟩ : ByteArray).data.toList = T := ⟨_, rfl⟩
  have hts : (s.extract (Tx.wf s k) (Tx.wt s k) ++ ⟨#[10]⟩ : ByteArray).size = Tx.wt s k - Tx.wf s k + 1 := by
    have e1 : (⟨#[10]⟩ : ByteArray).size = 1 := rfl
    rw [ByteArray.size_append, ByteArray.size_extract, e1]; omega
  have hTl : T.length = Tx.wt s k - Tx.wf s k + 1 := by rw [← hT, ← hts, Array.length_toList]; rfl
  have hrow0 := conv_row w1 (s.extract (Tx.wf s k) (Tx.wt s k) ++ ⟨#[10]⟩)
  have hbel0 := conv_below w1 (s.extract (Tx.wf s k) (Tx.wt s k) ++ ⟨#[10]⟩)
  rw [hT, hts] at hrow0
  have HT : Hid ((s.extract (Tx.wf s k) (Tx.wt s k)).data.toList ++ [10] = T) := by show _ = _; rw [← hT, ByteArray.data_append]; simp
  clear hT hts
  obtain ⟨W0, hW0⟩ : ∃ W0, Lib.bytesWorld w1 5 (s.extract (Tx.wf s k) (Tx.wt s k) ++ ⟨#[10]⟩) = W0 := ⟨_, rfl⟩
  rw [hW0] at hrow0 hbel0 ⊢
  clear hW0 kc
  go_loopw [7, 8] (fun v iv wr => ∃ (c : Nat) (L : List UInt8), iv = .int .i64 c ∧ c ≤ k - Tx.wf s k ∧ ByteRow wr w1.heap.size v L ∧ Hid (L = T ++ List.replicate c 32) ∧ Below w1.heap.size w1 wr ∧ L.length = Tx.wt s k - Tx.wf s k + 1 + c) (fun _ iv _ => k - Tx.wf s k - (intOf iv).toNat)
  case atStart => exact ⟨0, T, rfl, Nat.zero_le _, hrow0, by simp [Hid], hbel0, by omega⟩
  case round =>
    obtain ⟨c, L, rfl, hc, hrow, hL, hB, hLl⟩ := hrel
    have hsz := hB.size
    by_cases hlt : (c : Int) < (k : Int) - (Tx.wf s k : Int)
    · obtain ⟨v', w2, hrun, hrow', hb'⟩ := append_byte (hrow.alloc (.cells #[.int .u8 32] 5)) 32 (by simp; omega) (by omega) ⟨wr.heap.size, 0, none⟩ 1 (by exact (Boxed.new wr 5 (.int .u8 32)).cell)
      have HR : Hid (_ = _) := hrun
      have HR2 : Hid (_ ∧ _) := ⟨hrow', hb'⟩
      clear hrun hrow' hb' hrow0 hbel0 HW HK
      go_wp2_with (at_builtin; refine wpList_run rfl (.tmp 27) (.tmp 28) 45 rfl u7 (.slice (some ⟨wr.heap.size, 0, none⟩) 1 1) _ _ rfl rfl HR.out ?_)
      go_roundw
      case rel => exact ⟨c + 1, L ++ [32], by go_num, by omega, HR2.out.1, by show _ = _; rw [hL.out, List.replicate_succ']; simp, (hB.alloc hB.size _).trans HR2.out.2, by simp; omega⟩
      case measure => simp [intOf]; omega
    · obtain ⟨v', w2, hrun, hrow', hb'⟩ := append_byte (hrow.alloc (.cells #[.int .u8 94] 5)) 94 (by simp; omega) (by omega) ⟨wr.heap.size, 0, none⟩ 1 (by exact (Boxed.new wr 5 (.int .u8 94)).cell)
      have HR2 : Hid (Below w1.heap.size w1 w2) := (hB.alloc hB.size _).trans hb'
      have HL : Hid (L ++ [94] = Tx.caretL s k) := by
        show _ = _
        have : c = k - Tx.wf s k := by omega
        rw [hL.out, ← HT.out, this]; rfl
      obtain ⟨M, hM⟩ : ∃ M, L ++ [94] = M := ⟨_, rfl⟩
      rw [hM] at hrow' HL
      obtain ⟨g', cap', rfl⟩ := hrow'.shape
      have hcv := run_convert_bytes_back (P := Try.prog) w2 45 9 5 ⟨g', 0, none⟩ cap' M Try.underlying45 Try.underlying5 Try.underlying9 hrow'.cells
      have HR : Hid (_ = _) := hrun
      clear hrun hrow' hb' hrow0 hbel0 HW hM hL
      go_wp2_with (at_builtin; refine wpList_run rfl (.tmp 30) (.tmp 31) 45 rfl u7 (.slice (some ⟨wr.heap.size, 0, none⟩) 1 1) _ _ rfl rfl HR.out ?_)
      go_ret
      rw [HK.out, ← HL.out]
      exact ⟨rfl, btr hb1 HR2.out⟩
end Go.Proofs.Ytmcjcgodapkkpaa
