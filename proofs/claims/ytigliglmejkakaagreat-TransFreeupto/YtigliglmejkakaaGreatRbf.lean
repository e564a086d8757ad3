/- gathered of any structure. The binary search of a label among labels that rise. The labels of any fields, in order. Plain mathematics of sets: a sorted list without its repetitions is ascending and has the same texts. What a structure comes to: plain mathematics. -/
import Derived.Lib.SlicesCompact
import Derived.Sort.Statements
import Derived.Test.YtigliglmejkakaaGreatRbe
import Derived.Test.YtigliglmejkakaaGreatRae
namespace Go.Proofs.YtigliglmejkakaaGreat
open Go.RowKit
set_option linter.unusedVariables false
set_option linter.unusedSimpArgs false

/-- A structure at an address, with what stands within it answered. -/
structure SO (w : World) (n pb po : Nat) (tms : List Tm) (vms : List Vm) (sa fa : List (ByteArray × An)) : Prop where
  t : ∃ v0, w.cell? ⟨pb, po, none⟩ = some v0 ∧ RowAt w 5 (ETy w n) v0 tms
  v : ∃ v1, w.cell? ⟨pb, po + 1, none⟩ = some v1 ∧ RowAt w 5 (EVal w n) v1 vms
  s : ∃ ta tc, w.cell? ⟨pb, po + 2, none⟩ = some (.slice ta sa.length tc) ∧ ∀ (i : Nat) x, sa[i]? = some x → ∃ b o, ta = some ⟨b, o, none⟩ ∧ b < w.heap.size ∧ w.cell? ⟨b, o + i * 6, none⟩ = some (.string x.1) ∧ ∀ wz, Below w.heap.size w wz → Calls Tryz.prog 43 #[.pointer (some ⟨b, o + i * 6 + 1, none⟩)] wz fun e w' => AnsOf wz x.2 e w'
  f : ∃ ta tc, w.cell? ⟨pb, po + 3, none⟩ = some (.slice ta fa.length tc) ∧ ∀ (i : Nat) x, fa[i]? = some x → ∃ b o, ta = some ⟨b, o, none⟩ ∧ b < w.heap.size ∧ w.cell? ⟨b, o + i * 13, none⟩ = some (.string x.1) ∧ ∀ wz, Below w.heap.size w wz → Calls Tryz.prog 135 #[.pointer (some ⟨b, o + i * 13 + 1, none⟩)] wz fun e w' => AnsOf wz x.2 e w'
  bt : Tm.wtL tms ≤ 1048576
  bv : vms.length ≤ 1048576 ∧ ∀ x ∈ vms, x.t.cnt ≤ 1048576
  bs : sa.length ≤ 1048576
  bf : fa.length ≤ 1048576
theorem SO.below {w w' : World} {n pb po : Nat} {tms : List Tm} {vms : List Vm} {sa fa : List (ByteArray × An)} (h : SO w n pb po tms vms sa fa) (hb : Below w.heap.size w w') : SO w' n pb po tms vms sa fa := by
  have hc : ∀ (o : Nat) u, w.cell? ⟨pb, o, none⟩ = some u → w'.cell? ⟨pb, o, none⟩ = some u := fun o u hu => (hb.cell (p := ⟨pb, o, none⟩) (World.block_lt_of_cell? _ _ hu)).trans hu
  obtain ⟨v0, t1, t2⟩ := h.t
  obtain ⟨v1, u1, u2⟩ := h.v
  obtain ⟨sa1, sc1, s1, s2⟩ := h.s
  obtain ⟨fa1, fc1, f1, f2⟩ := h.f
  refine ⟨⟨v0, hc _ _ t1, t2.move hb fun _ _ _ h => h.below hb⟩, ⟨v1, hc _ _ u1, u2.move hb fun _ _ _ h => h.below hb⟩, ⟨sa1, sc1, hc _ _ s1, fun i x hx => ?_⟩, ⟨fa1, fc1, hc _ _ f1, fun i x hx => ?_⟩, h.bt, h.bv, h.bs, h.bf⟩
  · obtain ⟨b, o, g1, g2, g3, g4⟩ := s2 i x hx
    exact ⟨b, o, g1, Nat.lt_of_lt_of_le g2 hb.size, (hb.cell (p := ⟨b, o + i * 6, none⟩) g2).trans g3, fun wz hz => g4 wz (bl_tr hb hz)⟩
  · obtain ⟨b, o, g1, g2, g3, g4⟩ := f2 i x hx
    exact ⟨b, o, g1, Nat.lt_of_lt_of_le g2 hb.size, (hb.cell (p := ⟨b, o + i * 13, none⟩) g2).trans g3, fun wz hz => g4 wz (bl_tr hb hz)⟩
/-- A structure's labels, as its fields stand. -/
def flS (tms : List Tm) (vms : List Vm) (sa fa : List (ByteArray × An)) : List (ByteArray × An) := flT tms ++ vms.map (fun x => (x.nm, valA x)) ++ sa ++ fa
theorem flS_len {tms : List Tm} {vms : List Vm} {sa fa : List (ByteArray × An)} : (flS tms vms sa fa).length = (flT tms).length + vms.length + sa.length + fa.length := by
  unfold flS
  simp only [List.length_append, List.length_map]

set_option maxHeartbeats 4000000 in
set_option maxRecDepth 100000 in
theorem gathered_all (w : World) (n pb po : Nat) (tms : List Tm) (vms : List Vm) (sa fa : List (ByteArray × An)) (h : SO w n pb po tms vms sa fa) :
    Calls Tryz.prog 83 #[.pointer (some ⟨pb, po, none⟩)] w fun e w' => (∃ v fs, e = .returned v ∧ GS w w.heap.size (w.heap.size + 1) ⟨pb, po, none⟩ (flS tms vms sa fa) fs v w') ∧ Below w.heap.size w w' := by
  obtain ⟨v0, t1, t2⟩ := h.t
  obtain ⟨v1, u1, u2⟩ := h.v
  obtain ⟨sa1, sc1, s1, s2⟩ := h.s
  obtain ⟨fa1, fc1, f1, f2⟩ := h.f
  have bt := h.bt
  obtain ⟨bv1, bv2⟩ := h.bv
  have bs := h.bs
  have bf := h.bf
  have hlT := flT_len tms
  have D : Below w.heap.size w (w.alloc (.cells #[.pointer (some ⟨pb, po, none⟩), .slice none 0 0] 196)) := bl_alloc (Below.refl _ _) _
  have HG : Hid (GS w w.heap.size (w.heap.size + 1) ⟨pb, po, none⟩ [] [] (.slice none 0 0) (w.alloc (.cells #[.pointer (some ⟨pb, po, none⟩), .slice none 0 0] 196))) := ⟨⟨Nat.lt_succ_self _, by rw [size_alloc]; exact Nat.le_refl _, ⟨heap_alloc_at _ _⟩, World.ownsRow_nil _ _ _ _⟩, rfl, fun i f x hf => by simp at hf, Nat.le_refl _, D⟩
  have Q1 := hid (fun (wz : World) (v : Value) (fl : List (ByteArray × An)) (fs : List Fd) (hz : GS w w.heap.size (w.heap.size + 1) ⟨pb, po, none⟩ fl fs v wz) (hl : fl.length ≤ 1048576) => gtypes_all w wz _ _ pb po n v0 v tms fl fs hz t1 t2 hl bt)
  have Q2 := hid (fun (wz : World) (v : Value) (fl : List (ByteArray × An)) (fs : List Fd) (hz : GS w w.heap.size (w.heap.size + 1) ⟨pb, po, none⟩ fl fs v wz) (hl : fl.length + vms.length ≤ 1048576 * 4) => gvals_all w wz _ _ pb po n v1 vms u2 bv2 v fl fs hz u1 hl bv1)
  have Q3 := hid (fun (wz : World) (v : Value) (fl : List (ByteArray × An)) (fs : List Fd) (hz : GS w w.heap.size (w.heap.size + 1) ⟨pb, po, none⟩ fl fs v wz) (hl : fl.length + sa.length ≤ 1048576 * 4) => gsubs_all w wz _ _ pb po sa sa1 sc1 _ rfl s2 v fl fs hz s1 hl bs)
  have Q4 := hid (fun (wz : World) (v : Value) (fl : List (ByteArray × An)) (fs : List Fd) (hz : GS w w.heap.size (w.heap.size + 1) ⟨pb, po, none⟩ fl fs v wz) (hl : fl.length + fa.length ≤ 1048576 * 4) => gfuns_all w wz _ _ pb po fa fa1 fc1 _ rfl f2 v fl fs hz f1 hl bf)
  have HB := hid D
  have i0 : ∀ wz, (Instr.index 197 (.agg #[(.func (.func 105) #[.pointer (some ⟨w.heap.size, 0, none⟩)] #[]), (.func (.func 106) #[.pointer (some ⟨w.heap.size, 0, none⟩)] #[]), (.func (.func 107) #[.pointer (some ⟨w.heap.size, 0, none⟩)] #[]), (.func (.func 108) #[.pointer (some ⟨w.heap.size, 0, none⟩)] #[])]) (.int .i64 0)).run Tryz.prog wz = .ok (.func (.func 105) #[.pointer (some ⟨w.heap.size, 0, none⟩)] #[]) wz := fun _ => by kernel_rfl
  have i1 : ∀ wz, (Instr.index 197 (.agg #[(.func (.func 105) #[.pointer (some ⟨w.heap.size, 0, none⟩)] #[]), (.func (.func 106) #[.pointer (some ⟨w.heap.size, 0, none⟩)] #[]), (.func (.func 107) #[.pointer (some ⟨w.heap.size, 0, none⟩)] #[]), (.func (.func 108) #[.pointer (some ⟨w.heap.size, 0, none⟩)] #[])]) (.int .i64 1)).run Tryz.prog wz = .ok (.func (.func 106) #[.pointer (some ⟨w.heap.size, 0, none⟩)] #[]) wz := fun _ => by kernel_rfl
  have i2 : ∀ wz, (Instr.index 197 (.agg #[(.func (.func 105) #[.pointer (some ⟨w.heap.size, 0, none⟩)] #[]), (.func (.func 106) #[.pointer (some ⟨w.heap.size, 0, none⟩)] #[]), (.func (.func 107) #[.pointer (some ⟨w.heap.size, 0, none⟩)] #[]), (.func (.func 108) #[.pointer (some ⟨w.heap.size, 0, none⟩)] #[])]) (.int .i64 2)).run Tryz.prog wz = .ok (.func (.func 107) #[.pointer (some ⟨w.heap.size, 0, none⟩)] #[]) wz := fun _ => by kernel_rfl
  have i3 : ∀ wz, (Instr.index 197 (.agg #[(.func (.func 105) #[.pointer (some ⟨w.heap.size, 0, none⟩)] #[]), (.func (.func 106) #[.pointer (some ⟨w.heap.size, 0, none⟩)] #[]), (.func (.func 107) #[.pointer (some ⟨w.heap.size, 0, none⟩)] #[]), (.func (.func 108) #[.pointer (some ⟨w.heap.size, 0, none⟩)] #[])]) (.int .i64 3)).run Tryz.prog wz = .ok (.func (.func 108) #[.pointer (some ⟨w.heap.size, 0, none⟩)] #[]) wz := fun _ => by kernel_rfl
  clear h t1 t2 u1 u2 s1 s2 f1 f2 D
  go_enter Tryz.func83, Tryz.ntmps83
  go_wp2
  refine wp_loop_rounds 5 ?_
  rw [rounds_succ]
  go_wp2_with (go_at_call 105; refine (Q1.out _ _ _ _ HG.out (by simp)).mono ?_; rintro e w2 ⟨rfl, ⟨v2, fs2, hg2⟩, bl2⟩; have HG2 := hid hg2; have HB2 := hid (HB.out.trans bl2); clear hg2 bl2)
  rw [rounds_succ]
  go_wp2_with (go_at_call 106; refine (Q2.out _ _ _ _ HG2.out (by simp; omega)).mono ?_; rintro e w3 ⟨rfl, ⟨v3, fs3, hg3⟩, bl3⟩; have HG3 := hid hg3; have HB3 := hid (HB2.out.trans bl3); clear hg3 bl3)
  rw [rounds_succ]
  go_wp2_with (go_at_call 107; refine (Q3.out _ _ _ _ HG3.out (by simp; omega)).mono ?_; rintro e w4 ⟨rfl, ⟨v4, fs4, hg4⟩, bl4⟩; have HG4 := hid hg4; have HB4 := hid (HB3.out.trans bl4); clear hg4 bl4)
  rw [rounds_succ]
  go_wp2_with (go_at_call 108; refine (Q4.out _ _ _ _ HG4.out (by simp; omega)).mono ?_; rintro e w5 ⟨rfl, ⟨v5, fs5, hg5⟩, bl5⟩; have HG5 := hid hg5; have HB5 := hid (HB4.out.trans bl5); clear hg5 bl5)
  rw [rounds_succ]
  obtain ⟨pa, pc, rfl⟩ := own_form HG5.out.gt.own
  have g2 := HG5.out.gt.g.cell 1
  simp only [List.getElem?_cons_succ, List.getElem?_cons_zero] at g2
  go_wp2
  go_ret
  exact ⟨⟨_, fs5, rfl, by have := HG5.out; simpa [flS] using this⟩, HB5.out⟩
end Go.Proofs.YtigliglmejkakaaGreat

namespace Go.Proofs.YtigliglmejkakaaGreat
open Go.RowKit Go.Shelf Go.Sort
set_option linter.unusedVariables false
set_option linter.unusedSimpArgs false

/-- They rise. -/
def Asc (zs : List (List UInt8)) : Prop := ∀ (i j : Nat) a b, i < j → zs[i]? = some a → zs[j]? = some b → Lib.compareBytes a b = -1
theorem Asc.lt {zs : List (List UInt8)} (h : Asc zs) {p k : Nat} {z x : List UInt8} (hz : zs[p]? = some z) (hx : zs[k]? = some x) : Lib.compareBytes x z < 0 ↔ k < p := by
  rcases Nat.lt_trichotomy k p with hk | rfl | hk
  · rw [h k p x z hk hx hz]; simp [hk]
  · rw [hz] at hx; injection hx with hx; subst hx; rw [Nm.cmp_refl]; simp
  · have := h p k z x hk hz hx
    have h2 := Nm.cmp_swap z x
    rw [this] at h2
    rw [h2]
    constructor
    · intro h; omega
    · intro h; omega

theorem half_int (i j : Nat) : ((i : Int) + j) / 2 = (((i + j) / 2 : Nat) : Int) := by omega

set_option maxHeartbeats 2000000 in
set_option maxRecDepth 100000 in
theorem search_all (w : World) (lb n p : Nat) (zs : List (List UInt8)) (z : List UInt8) (hn : zs.length = n) (hlt : n ≤ 4194304) (hH : Holds encStr w lb 0 zs.toArray) (hA : Asc zs) (hp : zs[p]? = some z) :
    Calls Tryz.prog 86 #[.slice (some ⟨lb, 0, none⟩) n n, .string ⟨z.toArray⟩, .func (.func 87) #[] #[]] w fun e w' => e = .returned (.tuple #[.int .i64 p, .bool true]) ∧ w' = w := by
  have hpn : p < n := by have := (List.getElem?_eq_some_iff.1 hp).1; omega
  have HC : Hid (∀ (k : Nat) x, zs[k]? = some x → w.cell? ⟨lb, k, none⟩ = some (.string ⟨x.toArray⟩)) := fun k x hx => by
    obtain ⟨hk, e⟩ := List.getElem?_eq_some_iff.1 hx
    have := (hH k (by simpa using hk)).1
    rw [Nat.zero_add] at this
    rw [this]
    simp [encStr, hk, e]
  have HQ : Hid (∀ (k : Nat) x, zs[k]? = some x → Calls Tryz.prog 87 #[.string ⟨x.toArray⟩, .string ⟨z.toArray⟩] w fun e w' => (∃ c : Int, e = .returned (.int .i64 c) ∧ (c < 0 ↔ k < p) ∧ (k = p → c = 0)) ∧ w' = w) := fun k x hx => (cmp_any _ _ w).mono fun e w' ⟨h1, h2⟩ => ⟨⟨_, h1, by simpa using hA.lt hp hx, fun h => by subst h; rw [hp] at hx; injection hx with hx; subst hx; exact Nm.cmp_refl _⟩, h2⟩
  have HN := hid hn
  have HP := hid hp
  have eC : ∀ args w, (callFunc 87 args).run Tryz.prog w = .ok (.enter 87 args) w := enters_of Tryz.func87 (by kernel_rfl) rfl
  clear hH hA hp hn
  go_enter Tryz.func86, Tryz.ntmps86
  go_wp2
  go_loopw [9, 10] (fun u v wr => ∃ i j : Nat, u = .int .i64 i ∧ v = .int .i64 j ∧ i ≤ p ∧ p ≤ j ∧ j ≤ n ∧ wr = w) (fun u v _ => (intOf v).toNat - (intOf u).toNat)
  case atStart => exact ⟨0, n, rfl, rfl, Nat.zero_le _, by omega, Nat.le_refl _, rfl⟩
  case round =>
    obtain ⟨i, j, rfl, rfl, hip, hpj, hjn, hwr⟩ := hrel
    subst wr
    by_cases hij : i < j
    · have hkn : (i + j) / 2 < n := by omega
      obtain ⟨x, hx⟩ : ∃ x, zs[(i + j) / 2]? = some x := ⟨_, List.getElem?_eq_getElem (by have := HN.out; omega)⟩
      have hc := HC.out _ x hx
      have hq := hid (HQ.out _ x hx)
      clear hx HC HQ HN HP
      by_cases hkp : (i + j) / 2 < p
      · go_wp2_with (go_at_call 87; refine hq.out.mono ?_; rintro e w' ⟨⟨c, rfl, hc1, hc2⟩, hw⟩; rw [hw]; clear hw w'; have hcn : c < 0 := hc1.2 hkp; clear hc1 hc2)
        go_roundw
        case rel => exact ⟨(i + j) / 2 + 1, j, by first | go_num | (rw [half_int]; go_num) | (simp [half_int]; go_num), rfl, by omega, by omega, by omega, by first | trivial | rfl⟩
        case measure => simp [intOf]; omega
      · go_wp2_with (go_at_call 87; refine hq.out.mono ?_; rintro e w' ⟨⟨c, rfl, hc1, hc2⟩, hw⟩; rw [hw]; clear hw w'; have hcn : ¬ c < 0 := fun h => hkp (hc1.1 h); clear hc1 hc2)
        go_roundw
        case rel => exact ⟨i, (i + j) / 2, rfl, by first | rfl | go_num, by omega, by omega, by omega, by first | trivial | rfl⟩
        case measure => simp [intOf]; omega
    · obtain rfl : i = j := by omega
      obtain rfl : i = p := by omega
      have hc := HC.out i z HP.out
      have hq := HQ.out i z HP.out
      have hlt' : (i : Int) < n := by omega
      go_wp2_with (go_at_call 87; refine hq.mono ?_; rintro e w' ⟨⟨c, rfl, hc1, hc2⟩, hw⟩; rw [hw]; clear hw w'; have hc0 := hc2 rfl; subst hc0)
      go_ret2
      exact ⟨rfl, rfl⟩
end Go.Proofs.YtigliglmejkakaaGreat

namespace Go.Proofs.YtigliglmejkakaaGreat
open Go.RowKit Go.Shelf Go.Sort
set_option linter.unusedVariables false
set_option linter.unusedSimpArgs false

theorem mk_strs (n : Nat) (w : World) (hn : n ≤ 4194304) : (Instr.makeSlice 25 (.int .i64 (n : Int)) (.int .i64 (n : Int))).run Tryz.prog w = .ok (.slice (some ⟨w.heap.size, 0, none⟩) n n) (w.alloc (.cells (List.replicate n (.string ByteArray.empty)).toArray 9)) := by
  obtain ⟨i, hi, hz, hs, hb⟩ := info_parts0 info_str
  have h := run_make (P := Tryz.prog) w 25 9 i _ Tryz.underlying25 hi hz .i64 .i64 n n (by omega) (Int.le_refl _) (by rw [hb]; omega) (by omega)
  simp only [Int.toNat_natCast, hs, Nat.mul_one] at h
  have he : madeCells (Value.string ByteArray.empty).cells n = (List.replicate n (Value.string ByteArray.empty)).toArray := by
    apply Array.ext'
    exact toList_madeCells_one _ n
  rw [h, he]
/-- The labels' row, filled so far. -/
def labRow (ls : List ByteArray) (i : Nat) : List Value := (ls.take i).map (.string) ++ List.replicate (ls.length - i) (.string ByteArray.empty)
theorem labRow_set {ls : List ByteArray} {i : Nat} {x : ByteArray} (hx : ls[i]? = some x) : (labRow ls i).set i (.string x) = labRow ls (i + 1) := by
  obtain ⟨hi, e⟩ := List.getElem?_eq_some_iff.1 hx
  unfold labRow
  have hl : ((ls.take i).map Value.string).length = i := by rw [List.length_map, List.length_take]; omega
  rw [List.set_append_right _ _ (by omega), hl, Nat.sub_self]
  rw [show ls.length - i = (ls.length - (i + 1)) + 1 by omega, List.replicate_succ, List.set_cons_zero]
  rw [List.take_add_one, hx, List.map_append]
  simp
theorem labRow_len (ls : List ByteArray) (i : Nat) (h : i ≤ ls.length) : (labRow ls i).length = ls.length := by
  unfold labRow
  rw [List.length_append, List.length_map, List.length_take, List.length_replicate]
  omega
def SortedB (zs : List (List UInt8)) : Prop := ∀ i j, i < j → j < zs.length → ¬ Lib.compareBytes zs.toArray[j]! zs.toArray[i]! < 0
def bytesL (ls : List ByteArray) : List (List UInt8) := ls.map fun s => s.data.toList

set_option maxHeartbeats 2000000 in
set_option maxRecDepth 100000 in
theorem inOrder_all (w : World) (v : Value) (n : Nat) (fs : List Fd) (hn : fs.length = n) (hlt : n ≤ 4194304) (hv : ∃ a c, v = .slice a n c) (hF : ∀ (i : Nat) f, fs[i]? = some f → ∃ g c, v = .slice (some ⟨g, 0, none⟩) n c ∧ g < w.heap.size ∧ w.cell? ⟨g, i * 2, none⟩ = some (.string f.lab) ∧ w.cell? ⟨g, i * 2 + 1, none⟩ = some (.func (.func f.g) #[] f.bs)) :
    Calls Tryz.prog 84 #[v] w fun e w' => e = .returned (.slice (some ⟨w.heap.size, 0, none⟩) n n) ∧ (∃ zs : List (List UInt8), zs.length = n ∧ zs.Perm (bytesL (fs.map (·.lab))) ∧ SortedB zs ∧ Holds encStr w' w.heap.size 0 zs.toArray) ∧ w.heap.size < w'.heap.size ∧ Below w.heap.size w w' := by
  obtain ⟨va, vc, rfl⟩ := hv
  obtain ⟨ls, hls⟩ : ∃ ls, fs.map (·.lab) = ls := ⟨_, rfl⟩
  have hlen : ls.length = n := by rw [← hls, List.length_map]; exact hn
  have hmk : ∀ wz, (Instr.makeSlice 25 (.int .i64 (n : Int)) (.int .i64 (n : Int))).run Tryz.prog wz = .ok (.slice (some ⟨wz.heap.size, 0, none⟩) n n) (wz.alloc (.cells (labRow ls 0).toArray 9)) := fun wz => by
    rw [mk_strs n wz hlt]
    unfold labRow
    rw [List.take_zero, hlen]
    rfl
  have HF := hid hF
  have HLS := hid hls
  have HN := hid hn
  have HLn := hid hlen
  have X : Hid (Arr (w.alloc (.cells (labRow ls 0).toArray 9)) w.heap.size 9 (labRow ls 0) ∧ Below w.heap.size w (w.alloc (.cells (labRow ls 0).toArray 9))) := ⟨⟨heap_alloc_at _ _⟩, bl_alloc (Below.refl _ _) _⟩
  clear hF hls hn hlen
  go_enter Tryz.func84, Tryz.ntmps84
  go_wp2
  generalize (w.alloc (.cells (labRow ls 0).toArray 9)) = W1 at X ⊢
  clear hmk
  go_loopw [11] (fun u wr => ∃ i : Nat, u = .int .i64 i ∧ i ≤ n ∧ Hid (Arr wr w.heap.size 9 (labRow ls i) ∧ Below w.heap.size w wr)) (fun u _ => n - (intOf u).toNat)
  case atStart => exact ⟨0, rfl, Nat.zero_le _, X⟩
  case round =>
    obtain ⟨i, rfl, hin, hA⟩ := hrel
    clear X W1
    by_cases hlt2 : i < n
    · obtain ⟨f, hf⟩ : ∃ f, fs[i]? = some f := ⟨_, List.getElem?_eq_getElem (by have := HN.out; omega)⟩
      obtain ⟨g, c, hv, hg, u0, u1⟩ := HF.out i f hf
      injection hv with e1 e2 e3
      subst e1
      have hx : ls[i]? = some f.lab := by rw [← HLS.out, List.getElem?_map, hf]; rfl
      have HR := hid (labRow_set hx)
      have k0 := (hA.out.2.cell (p := ⟨g, i * 2, none⟩) hg).trans u0
      have k1 := (hA.out.2.cell (p := ⟨g, i * 2 + 1, none⟩) hg).trans u1
      obtain ⟨y, hy⟩ : ∃ y, (labRow ls i)[i]? = some y := ⟨_, List.getElem?_eq_getElem (by rw [labRow_len _ _ (by have := HLn.out; omega)]; have := HLn.out; omega)⟩
      have hba := fun o => bl_alloc (Below.refl wr.heap.size wr) o
      have x0 := fun o => ((hA.out.1.stays (hba o)).cell i).trans hy
      have x1 := fun o => (hA.out.1.stays (hba o)).frozen
      obtain ⟨lab, fg, fb⟩ := f
      clear hf hx u0 u1 e2 e3 hy HF
      go_wp2
      go_roundw
      case rel => exact ⟨i + 1, by go_num, by omega, ⟨by rw [← HR.out]; exact (hA.out.1.stays (hba _)).set i _, (bl_alloc hA.out.2 _).setCell (p := ⟨w.heap.size, i, none⟩) (Nat.le_refl _) _⟩⟩
      case measure => simp [intOf]; omega
    · obtain rfl : i = n := by omega
      have hS : Hid (Calls Tryz.prog 109 #[.slice (some ⟨w.heap.size, 0, none⟩) i i, .func (.func 87) #[] #[]] wr fun e w' => e = .returned (.tuple #[]) ∧ (∃ zs : List (List UInt8), zs.length = i ∧ zs.Perm (bytesL (fs.map (·.lab))) ∧ SortedB zs ∧ Holds encStr w' w.heap.size 0 zs.toArray) ∧ w.heap.size < w'.heap.size ∧ Below w.heap.size wr w') := by
        refine (sort_row w.heap.size i i w.heap.size (bytesL ls).toArray wr (by simp [bytesL, HLn.out]) (fun j hj => ?_) hA.out.1.lt (Nat.le_refl _) (by omega)).mono ?_
        · have hj2 : j < ls.length := by simpa [bytesL] using hj
          have hr : (labRow ls i)[j]? = some (.string ls[j]) := by
            unfold labRow
            rw [← HLn.out, List.take_length, Nat.sub_self, List.replicate_zero, List.append_nil, List.getElem?_map, List.getElem?_eq_getElem hj2]
            rfl
          refine ⟨?_, ?_⟩
          · rw [Nat.zero_add, hA.out.1.cell, hr]
            simp [bytesL, encStr, hj2]
          · rw [Nat.zero_add]; exact hA.out.1.frozen j
        · rintro e w' ⟨rfl, zs, ⟨h1, h2, h3⟩, h4, h5, h6⟩
          exact ⟨rfl, ⟨zs, h1, by rw [HLS.out]; simpa using h2, h3, h4⟩, h5, h6⟩
      have HB := hid hA.out.2
      clear hA
      go_wp2_with (go_at_call 109; refine hS.out.mono ?_; rintro e w2 ⟨rfl, hz2, hg2, b2⟩; have HH := hid hz2; have HG := hid hg2; have HB2 := hid (HB.out.trans b2); clear hz2 hg2 b2)
      go_ret
      exact ⟨rfl, HH.out, HG.out, HB2.out⟩
end Go.Proofs.YtigliglmejkakaaGreat

namespace Go.Proofs.YtigliglmejkakaaGreat
open Go.Lib
set_option linter.unusedVariables false

/-- ys is the set of xs. -/
structure IsSet (xs ys : List (List UInt8)) : Prop where
  asc : ys.Pairwise fun a b => compareBytes a b = -1
  mem : ∀ x, x ∈ ys ↔ x ∈ xs

theorem Nm.compact_step (d : Array (List UInt8)) (hs : ∀ i j, i < j → j < d.size → ¬ compareBytes d[j]! d[i]! < 0) : ∀ m, m ≤ d.size →
    (compactUpTo d m).Pairwise (fun a b => compareBytes a b = -1) ∧ ∀ x, x ∈ compactUpTo d m ↔ ∃ j, j < m ∧ d[j]! = x
  | 0, _ => by
    refine ⟨by simp [compactUpTo], fun x => ?_⟩
    simp [compactUpTo]
  | m + 1, hm => by
    obtain ⟨h1, h2⟩ := Nm.compact_step d hs m (by omega)
    rw [compactUpTo_succ]
    have hle : ∀ i j, i ≤ j → j < d.size → compareBytes d[i]! d[j]! ≤ 0 := fun i j hij hj => by
      rcases Nat.lt_or_eq_of_le hij with h | h
      · have := hs i j h hj
        have e := Nm.cmp_swap d[i]! d[j]!
        omega
      · rw [h, Nm.cmp_refl]; omega
    by_cases hk : keeps d m = true
    · rw [if_pos hk]
      refine ⟨List.pairwise_append.2 ⟨h1, by simp, fun a ha b hb => ?_⟩, fun x => ?_⟩
      · obtain rfl : b = d[m]! := by simpa using hb
        obtain ⟨j, hj, rfl⟩ := (h2 a).1 ha
        have hl := hle j m (by omega) (by omega)
        rcases Nm.cmp_three d[j]! d[m]! with e | e | e
        · exact e
        · exfalso
          have e1 := Nm.cmp_eq e
          have l1 := hle j (m - 1) (by omega) (by omega)
          have l2 := hle (m - 1) m (by omega) (by omega)
          rw [← e1] at l2
          have e2 := Nm.cmp_swap d[j]! d[m - 1]!
          have e3 : d[j]! = d[m - 1]! := Nm.cmp_eq (by omega)
          have hk' := hk
          unfold keeps at hk'
          rw [← e1, e3] at hk'
          simp at hk'
          omega
        · omega
      · rw [List.mem_append, h2]
        constructor
        · rintro (⟨j, hj, rfl⟩ | h)
          · exact ⟨j, by omega, rfl⟩
          · exact ⟨m, by omega, (List.mem_singleton.1 h).symm⟩
        · rintro ⟨j, hj, rfl⟩
          rcases Nat.lt_or_eq_of_le (Nat.lt_succ_iff.1 hj) with h | h
          · exact .inl ⟨j, h, rfl⟩
          · exact .inr (by rw [h]; simp)
    · rw [if_neg hk, List.append_nil]
      refine ⟨h1, fun x => ?_⟩
      rw [h2]
      constructor
      · rintro ⟨j, hj, rfl⟩; exact ⟨j, by omega, rfl⟩
      · rintro ⟨j, hj, rfl⟩
        rcases Nat.lt_or_eq_of_le (Nat.lt_succ_iff.1 hj) with h | h
        · exact ⟨j, h, rfl⟩
        · have hk' := hk
          unfold keeps at hk'
          simp at hk'
          subst h
          exact ⟨j - 1, by omega, hk'.2.symm⟩

theorem Nm.isSet_compact {xs zs : List (List UInt8)} (hp : zs.Perm xs) (hs : ∀ i j, i < j → j < zs.length → ¬ compareBytes zs.toArray[j]! zs.toArray[i]! < 0) : IsSet xs (compact zs) := by
  obtain ⟨h1, h2⟩ := Nm.compact_step zs.toArray (by simpa using hs) zs.length (by simp)
  refine ⟨h1, fun x => ?_⟩
  show x ∈ compactUpTo _ _ ↔ _
  rw [h2, ← hp.mem_iff]
  constructor
  · rintro ⟨j, hj, rfl⟩
    have : zs.toArray[j]! = zs[j] := by simp [hj]
    rw [this]; exact List.getElem_mem hj
  · intro h
    obtain ⟨j, hj, rfl⟩ := List.mem_iff_getElem.1 h
    exact ⟨j, hj, by simp [hj]⟩

/-- Two sets of one list are the same. -/
theorem IsSet.unique : ∀ {xs ys zs : List (List UInt8)}, IsSet xs ys → IsSet xs zs → ys = zs := by
  intro xs ys zs h k
  have hp : ys.Perm zs := (List.perm_ext_iff_of_nodup (h.asc.imp fun e he => by rw [he, Nm.cmp_refl] at e; omega) (k.asc.imp fun e he => by rw [he, Nm.cmp_refl] at e; omega)).2 fun x => (h.mem x).trans (k.mem x).symm
  exact hp.eq_of_pairwise (le := fun a b => compareBytes a b = -1) (fun a b _ _ e1 e2 => by have := Nm.cmp_swap a b; omega) h.asc k.asc
end Go.Proofs.YtigliglmejkakaaGreat

namespace Go.Proofs.YtigliglmejkakaaGreat
open Go.RowKit Go.Shelf Go.Sort
set_option linter.unusedVariables false
set_option linter.unusedSimpArgs false

open Classical in
/-- The set of texts. -/
noncomputable def setOf (xs : List (List UInt8)) : List (List UInt8) := if h : ∃ ys, IsSet xs ys then Classical.choose h else []
theorem setOf_eq {xs ys : List (List UInt8)} (h : IsSet xs ys) : setOf xs = ys := by
  unfold setOf
  rw [dif_pos ⟨ys, h⟩]
  exact (Classical.choose_spec (⟨ys, h⟩ : ∃ ys, IsSet xs ys)).unique h
theorem IsSet.ascA {xs ys : List (List UInt8)} (h : IsSet xs ys) : Asc ys := by
  intro i j a b hij ha hb
  obtain ⟨hi, ea⟩ := List.getElem?_eq_some_iff.1 ha
  obtain ⟨hj, eb⟩ := List.getElem?_eq_some_iff.1 hb
  have := List.pairwise_iff_getElem.1 h.asc i j hi hj hij
  rw [ea, eb] at this
  exact this
theorem Asc.inj {ys : List (List UInt8)} (h : Asc ys) {p q : Nat} {z : List UInt8} (hp : ys[p]? = some z) (hq : ys[q]? = some z) : p = q := by
  rcases Nat.lt_trichotomy p q with hk | hk | hk
  · have := h p q z z hk hp hq; rw [Nm.cmp_refl] at this; cases this
  · exact hk
  · have := h q p z z hk hq hp; rw [Nm.cmp_refl] at this; cases this
/-- What stands at a place: the last of the fields that has its label. -/
def fillF (ys : List (List UInt8)) : List (ByteArray × An) → Nat → Option Tgt.Tt
  | [], _ => none
  | x :: r, p => match fillF ys r p with
    | some y => some y
    | none => if ys[p]? = some x.1.data.toList then some x.2.1 else none
theorem fillF_app (ys : List (List UInt8)) (l : List (ByteArray × An)) (x : ByteArray × An) (p : Nat) : fillF ys (l ++ [x]) p = if ys[p]? = some x.1.data.toList then some x.2.1 else fillF ys l p := by
  induction l with
  | nil => simp only [List.nil_append, fillF]
  | cons y r ih =>
    simp only [List.cons_append, fillF, ih]
    by_cases h : ys[p]? = some x.1.data.toList
    · simp [h]
    · simp [h]
theorem fillF_take {ys : List (List UInt8)} {l : List (ByteArray × An)} {i : Nat} {x : ByteArray × An} (hx : l[i]? = some x) (p : Nat) : fillF ys (l.take (i + 1)) p = if ys[p]? = some x.1.data.toList then some x.2.1 else fillF ys (l.take i) p := by
  rw [List.take_add_one, hx]; exact fillF_app ys _ x p
theorem fillF_some {ys : List (List UInt8)} : ∀ {l : List (ByteArray × An)} {p : Nat} {x : ByteArray × An}, x ∈ l → ys[p]? = some x.1.data.toList → ∃ y, fillF ys l p = some y
  | [], p, x, h, _ => by cases h
  | y :: r, p, x, h, hp => by
    simp only [fillF]
    cases hr : fillF ys r p with
    | some z => exact ⟨z, rfl⟩
    | none =>
      rcases List.mem_cons.1 h with rfl | h
      · exact ⟨_, if_pos hp⟩
      · obtain ⟨z, hz⟩ := fillF_some h hp
        rw [hr] at hz
        cases hz
def firstErr : List (ByteArray × An) → Int
  | [] => 0
  | x :: r => if x.2.2 = 0 then firstErr r else x.2.2
theorem firstErr_take {l : List (ByteArray × An)} : ∀ {i : Nat} {x : ByteArray × An}, l[i]? = some x → firstErr (l.take i) = 0 → firstErr (l.take (i + 1)) = x.2.2 ∧ (x.2.2 ≠ 0 → firstErr l = x.2.2) := by
  induction l with
  | nil => intro i x h; simp at h
  | cons y r ih =>
    intro i x h h0
    cases i with
    | zero =>
      simp at h
      subst h
      simp only [List.take_succ_cons, List.take_zero, firstErr]
      constructor
      · split <;> omega
      · intro hx; rw [if_neg hx]
    | succ i =>
      simp only [List.getElem?_cons_succ] at h
      simp only [List.take_succ_cons, firstErr] at h0 ⊢
      by_cases hy : y.2.2 = 0
      · rw [if_pos hy] at h0 ⊢
        have := ih h h0
        exact ⟨this.1, fun hx => by rw [if_pos hy]; exact this.2 hx⟩
      · rw [if_neg hy] at h0; exact absurd h0 hy
def labsOf (fl : List (ByteArray × An)) : List (List UInt8) := bytesL (fl.map (·.1))
noncomputable def kidsOf (ys : List (List UInt8)) (fl : List (ByteArray × An)) : List Tgt.Tt := (List.range ys.length).map fun p => (fillF ys fl p).getD zeroA
def toBA (ys : List (List UInt8)) : List ByteArray := ys.map fun z => ⟨z.toArray⟩
/-- What a structure with these labels comes to. -/
noncomputable def recA (fl : List (ByteArray × An)) : An :=
  if (setOf (labsOf fl)).length < fl.length then (zeroA, 20) else if firstErr fl ≠ 0 then (zeroA, firstErr fl) else (.mk 7 0 (toBA (setOf (labsOf fl))) (kidsOf (setOf (labsOf fl)) fl), 0)
theorem kidsOf_at {ys : List (List UInt8)} {fl : List (ByteArray × An)} (hs : IsSet (labsOf fl) ys) {i : Nat} {y : Tgt.Tt} (h : (kidsOf ys fl)[i]? = some y) : fillF ys fl i = some y := by
  unfold kidsOf at h
  rw [List.getElem?_map] at h
  obtain ⟨j, hj, e⟩ := Option.map_eq_some_iff.1 h
  obtain ⟨hi, ej⟩ := List.getElem?_eq_some_iff.1 hj
  rw [List.length_range] at hi
  rw [List.getElem_range] at ej
  subst ej
  have hmem : ys[i] ∈ labsOf fl := (hs.mem _).1 (List.getElem_mem hi)
  unfold labsOf bytesL at hmem
  obtain ⟨s, hs1, hs2⟩ := List.mem_map.1 hmem
  obtain ⟨x, hx1, hx2⟩ := List.mem_map.1 hs1
  have hp : ys[i]? = some x.1.data.toList := by rw [List.getElem?_eq_getElem hi, ← hs2, hx2]
  obtain ⟨z, hz⟩ := fillF_some hx1 hp
  rw [hz] at e ⊢
  simpa using e
theorem kidsOf_len (ys : List (List UInt8)) (fl : List (ByteArray × An)) : (kidsOf ys fl).length = ys.length := by unfold kidsOf; rw [List.length_map, List.length_range]
end Go.Proofs.YtigliglmejkakaaGreat
