/- Copying a set into another one. -/
import Derived.Maps.Ext
import Derived.Maps.RangeWalk
import Derived.Laws.IdiomRangeMap
import Derived.Lib.SlKeysI
import Derived.Test.YtfeppchgmobfpaaGreatDoorTgX
namespace Go.Proofs.YtfeppchgmobfpaaGreatDoor
open Go.RowKit Go.Maps
set_option linter.unusedVariables false
set_option linter.unusedSimpArgs false

set_option maxHeartbeats 1000000 in
set_option maxRecDepth 100000 in
theorem copy_any (w : World) (bd bs nd ns : Nat) (S T : Int → Bool) (hd : SetIs w bd nd S) (hs : SetIs w bs ns T) (hne : bd ≠ bs) (hroom : nd + ns ≤ 1152921504606846976) : Calls Tryz.prog 93 #[.map (some bd), .map (some bs)] w fun e w' => e = .returned (.tuple #[]) ∧ SetIs w' bd (nd + ns) (fun x => S x || T x) ∧ w.grownBy w' (some bd) := by
  obtain ⟨Dd, od, md, fd⟩ := hd
  obtain ⟨Ds, os, ms, fs⟩ := hs
  have hbd := od.lt
  have hbs := os.lt
  have hsz := os.size_le
  have HR : Hid (nd + ns < maxLen) := by show _ < _; unfold maxLen; omega
  have HFS := hid fs
  have HFD := hid fd
  clear hroom fs fd
  go_enter Tryz.func93, Tryz.ntmps93
  go_wp2_with (first
    | (at_range; refine wpList_range_own _ rfl _ 54 rfl 3 55 int_key Tryz.underlying54 unitElem bs ns _ rfl os ?_; intro w0 hrg0 hg0 hs0)
    | go_in)
  go_frame
  go_loopw [8] (fun _ wr => ∃ (left : Lit → Bool) (cnt : Nat) (Dout : DataW Unit), wr.ranges Tryz.prog 3 unitElem bs w.heap.size ns Ds left cnt ∧ cnt ≤ Maps.size Ds ∧ wr.ownsMap Tryz.prog 3 unitElem bd (nd + (Maps.size Ds - cnt)) Dout ∧ Hid (Maps.IsMap Dout ∧ ∀ x : Int, Maps.has Dout (.int .i64 x) = (S x || (T x && !left (.int .i64 x)))) ∧ w.grownBy wr (some bd)) (fun _ wr => wr.rangeLeft bs w.heap.size)
  case atStart => exact ⟨_, _, Dd, hrg0, Nat.le_refl _, (od.kept hg0 (by simp)).mono (by omega), hid ⟨md, fun x => by rw [HFD.out, HFS.out]; cases S x <;> cases T x <;> rfl⟩, hg0.but _⟩
  case round =>
    obtain ⟨left, cnt, Dout, hrg, hcs, hout, hM, hgw⟩ := hrel
    go_wp2_with (first
      | (at_next; refine wpList_next_ranges _ rfl _ rfl 3 int_key unitElem id id (fun key _ _ => ⟨key, rfl⟩) (fun v _ _ => ⟨v, rfl⟩) bs w.heap.size ns _ _ _ rfl hrg ?_ ?_)
      | go_in)
    · intro hc0 hl0
      go_wp2
      go_end0
      subst hc0
      refine ⟨rfl, ⟨Dout, hout.mono (by omega), hM.out.1, fun x => ?_⟩, hgw⟩
      rw [hM.out.2 x, hl0]; simp
    · intro x c kl yd yp w1 cnt1 hkey hlx hv hat hrg1 hlt hg1 hs1 hen
      obtain ⟨y, rfl, rfl, -⟩ := Maps.keyOf_i64 Tryz.underlying3 hkey
      obtain ⟨rfl, hyy⟩ := unitElem_inv hv
      have hTy : T y = true := by rw [← HFS.out]; exact Maps.has_true_of_atKey hat
      have HTY := hid hTy
      have hout1 := (hout.kept hg1 (fun e => by have := Option.some.inj e; omega)).alloc (.cells #[] 55)
      clear hTy hat hlx
      go_wp2_with (first
        | (at_mapUpdate; refine wpList_mapUpdate_own _ rfl _ _ _ 54 rfl 3 55 int_key Tryz.underlying54 unitElem bd _ _ rfl hout1 (by have := HR.out; omega) _ _ _ rfl rfl hkey yd yp hv ?_; intro w2 hout2 hg2; go_frame)
        | go_in)
      have hrg2 := (hrg1.kept (World.grownBy_alloc w1 (.cells #[] 55) none) (by simp) (by simp)).kept hg2 (fun e => hne (Option.some.inj e).symm) (fun e => by have := Option.some.inj e; omega)
      go_roundw
      case rel =>
        refine ⟨_, cnt1, _, hrg2, by omega, hout2.mono (by omega), hid ⟨hout2.isMap, fun z => ?_⟩, ?_⟩
        · by_cases hz : z = y
          · subst hz
            rw [Maps.has_put_same hM.out.1 (keylit z), HTY.out]
            simp [Lit.sameKey]
          · rw [Maps.has_put_other (fun h => hz (by injection h)), hM.out.2 z]
            have : (Lit.int .i64 z).sameKey (.int .i64 y) = false := by simp [Lit.sameKey, hz]
            rw [this]; simp
        · exact ((hgw.andThen hg1 (fun j hj => .inl (by cases hj; exact Nat.le_refl _))).andThen (World.grownBy_alloc w1 (.cells #[] 55) none) (fun j hj => by cases hj)).andThen hg2 (fun j hj => .inr hj)
      case measure => rw [hrg2.left_eq, hrg.left_eq]; exact hlt
end Go.Proofs.YtfeppchgmobfpaaGreatDoor
