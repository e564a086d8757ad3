/- What Cmp and Set come to. -/
import Derived.Lib.OwnBridge
import Derived.Shelf.SlSortCmp.NoneTotal
import Derived.Test.YtcccmbiocknknaaDoorSetP
import Derived.Test.YtcccmbiocknknaaDoorShelfSet
import Derived.Test.YtcccmbiocknknaaDoorAlive
namespace Go.Proofs.YtcccmbiocknknaaDoor
open Go.RowKit Go.Shelf Go.Sort
set_option linter.unusedVariables false

theorem cmp_any (a b : ByteArray) (w : World) : Calls Tryd.prog 24 #[.string a, .string b] w fun e w' => e = .returned (.int .i64 (Lib.compareBytes a.data.toList b.data.toList)) ∧ w' = w := by
  go_enter Tryd.func24, Tryd.ntmps24
  go_wp2_with (go_at_call 50; refine (Tryd.strings_Compare _ _ _).mono ?_; rintro e w' ⟨rfl, rfl⟩)
  go_ret
  exact ⟨rfl, rfl⟩

theorem lt_eq (x y : List UInt8) : ltOf Lib.compareBytes x y = decide (Lib.compareBytes x y < 0) := rfl
theorem swo_cmp : SWO (ltOf Lib.compareBytes) where
  irrefl x := by rw [lt_eq, Nm.cmp_refl]; rfl
  trans x y z h1 h2 := by
    rw [lt_eq, decide_eq_true_eq] at *
    have a : Lib.compareBytes x y = -1 := by rcases Nm.cmp_three x y with e | e | e <;> omega
    have b : Lib.compareBytes y z = -1 := by rcases Nm.cmp_three y z with e | e | e <;> omega
    rw [Nm.cmp_trans a b]; omega
  ntrans x y z h1 h2 := by
    rw [lt_eq, decide_eq_false_iff_not] at *
    have a := Nm.cmp_swap x y
    have b := Nm.cmp_swap y z
    have c := Nm.cmp_swap x z
    have := Nm.cmp_le (x := z) (y := y) (z := x) (by omega) (by omega)
    omega

theorem cmp_reads (blk off size : Nat) (w : World) : CmpReads Tryd.prog 24 #[] encStr Lib.compareBytes blk off size w := fun m os dk _ x y =>
  (cmp_any ⟨x.toArray⟩ ⟨y.toArray⟩ (sortWorld encStr w blk off m dk os)).mono fun e w' ⟨he, hw⟩ => ⟨he, 0, hw⟩

theorem sort_any (blk off cap : Nat) (d : Array (List UInt8)) (w : World) (hH : Holds encStr w blk off d) (hblk : blk < w.heap.size) (hsz : d.size < 4611686018427387904) :
    Calls Tryd.prog 48 #[.slice (some ⟨blk, off, none⟩) d.size cap, .func (.func 24) #[] #[]] w fun e w' =>
      e = .returned (.tuple #[]) ∧ ∃ d' n os, PermIn 0 d.size d d' ∧ SortedIn (ltOf Lib.compareBytes) 0 d.size d' ∧ w' = sortWorld encStr w blk off n d' os :=
  Any.slices_SortFunc Tryd.sortS encStr (fun _ => rfl) Lib.compareBytes swo_cmp 24 #[] blk off cap d w (enters_of Tryd.func24 (by kernel_rfl) rfl) (cmp_reads blk off d.size w).lays hH hblk hsz
theorem sort_none (p : Option Addr) (cap : Nat) (fv : Value) (w : World) : Calls Tryd.prog 48 #[.slice p 0 cap, fv] w fun e w' => e = .returned (.tuple #[]) ∧ w' = w :=
  AnyF.slices_SortFunc_none (ρ := Tryd.sortS_ren) { Tryd.sortS with } p cap fv w
end Go.Proofs.YtcccmbiocknknaaDoor
