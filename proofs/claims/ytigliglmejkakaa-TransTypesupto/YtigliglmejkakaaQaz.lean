/- Plain mathematics of the order of texts. DERIVED: THE SHELF's CONTRACTS AT THIS DUMP, IN PLAIN WORDS (tools/lay-plain.mjs out of 'TryCutShelfSet.lean', which tools/lay-shelf.mjs wrote): THE SAME DECLARATIONS UNDER THE SAME NAMES: 'import', 'namespace', 'open', 'def', 'theorem' AND NOTHING ELSE: no command of the shelf's: FOR A HAND-IN. Each laying: the table of numbers ('.._ren') and one theorem, a field a fact of the dump's own or the kernel's comparison; each contract: ONE APPLICATION. The document's Rep. -/
import Derived.Lib.Bytealg
import Derived.Below
import Derived.Shelf.Slices.CompactS
import Derived.Ground.SlsfProg
import Derived.Shelf.SlSortCmp.NoneTotal
import Derived.Shelf.Small.Strs
import Derived.Shelf.Small.Wraps
import Derived.Test.YtigliglmejkakaaProg
import Derived.Test.YtigliglmejkakaaQat
namespace Go.Proofs.Ytigliglmejkakaa
open Go.Lib
set_option linter.unusedVariables false

theorem Nm.cmp_refl : ∀ x : List UInt8, compareBytes x x = 0
  | [] => rfl
  | a :: ra => by
    rw [compareBytes, if_neg (UInt8.lt_irrefl a), if_neg (UInt8.lt_irrefl a)]
    exact Nm.cmp_refl ra
theorem Nm.u8_eq {a b : UInt8} (h1 : ¬ a < b) (h2 : ¬ b < a) : a = b := UInt8.le_antisymm (UInt8.not_lt.1 h2) (UInt8.not_lt.1 h1)
theorem Nm.cmp_eq : ∀ {x y : List UInt8}, compareBytes x y = 0 → x = y
  | [], [], _ => rfl
  | [], _ :: _, h => by simp [compareBytes] at h
  | _ :: _, [], h => by simp [compareBytes] at h
  | a :: ra, b :: bs, h => by
    rw [compareBytes] at h
    split at h
    · simp at h
    · split at h
      · simp at h
      · rename_i h1 h2
        rw [Nm.u8_eq h1 h2, Nm.cmp_eq h]
theorem Nm.cmp_swap : ∀ x y : List UInt8, compareBytes y x = - compareBytes x y
  | [], [] => rfl
  | [], _ :: _ => by simp [compareBytes]
  | _ :: _, [] => by simp [compareBytes]
  | a :: ra, b :: bs => by
    rw [compareBytes, compareBytes]
    by_cases h1 : a < b
    · rw [if_neg (UInt8.lt_asymm h1), if_pos h1, if_pos h1]; rfl
    · by_cases h2 : b < a
      · rw [if_pos h2, if_neg h1, if_pos h2]
      · rw [if_neg h2, if_neg h1, if_neg h1, if_neg h2, Nm.cmp_swap ra bs]
theorem Nm.cmp_three : ∀ x y : List UInt8, compareBytes x y = -1 ∨ compareBytes x y = 0 ∨ compareBytes x y = 1
  | [], [] => .inr (.inl rfl)
  | [], _ :: _ => .inl (by simp [compareBytes])
  | _ :: _, [] => .inr (.inr (by simp [compareBytes]))
  | a :: ra, b :: bs => by
    rw [compareBytes]
    split
    · exact .inl rfl
    · split
      · exact .inr (.inr rfl)
      · exact Nm.cmp_three ra bs
theorem Nm.cmp_trans : ∀ {x y z : List UInt8}, compareBytes x y = -1 → compareBytes y z = -1 → compareBytes x z = -1
  | [], [], _, h, _ => by simp [compareBytes] at h
  | [], _ :: _, [], _, h => by simp [compareBytes] at h
  | [], _ :: _, _ :: _, _, _ => by simp [compareBytes]
  | _ :: _, [], _, h, _ => by simp [compareBytes] at h
  | _ :: _, _ :: _, [], _, h => by simp [compareBytes] at h
  | a :: ra, b :: bs, c :: cs, h1, h2 => by
    rw [compareBytes] at h1 h2 ⊢
    by_cases hab : a < b
    · by_cases hbc : b < c
      · rw [if_pos (UInt8.lt_trans hab hbc)]
      · rw [if_neg hbc] at h2
        by_cases hcb : c < b
        · rw [if_pos hcb] at h2; simp at h2
        · rw [← Nm.u8_eq hbc hcb, if_pos hab]
    · rw [if_neg hab] at h1
      by_cases hba : b < a
      · rw [if_pos hba] at h1; simp at h1
      · rw [if_neg hba] at h1
        obtain rfl := Nm.u8_eq hab hba
        by_cases hbc : a < c
        · rw [if_pos hbc]
        · rw [if_neg hbc] at h2 ⊢
          by_cases hcb : c < a
          · rw [if_pos hcb] at h2; simp at h2
          · rw [if_neg hcb] at h2 ⊢
            exact Nm.cmp_trans h1 h2
/-- Less or the same goes through a third text. -/
theorem Nm.cmp_le {x y z : List UInt8} (h1 : compareBytes x y ≤ 0) (h2 : compareBytes y z ≤ 0) : compareBytes x z ≤ 0 := by
  rcases Nm.cmp_three x y with a | a | a
  · rcases Nm.cmp_three y z with b | b | b
    · rw [Nm.cmp_trans a b]; omega
    · rw [← Nm.cmp_eq b, a]; omega
    · omega
  · rw [Nm.cmp_eq a]; exact h2
  · omega
end Go.Proofs.Ytigliglmejkakaa

namespace Go.Proofs
open Go.Shelf
def Try.lays213_ren : Go.Shelf.Ren := ⟨fun | 213 => 84 | 265 => 98 | n => n, fun | 9 => 9 | 3 => 3 | n => n, fun | n => n⟩
theorem Try.lays213 : Go.Proofs.Lays.n213 Try.prog Try.lays213_ren := {
  mixed := by kernel_rfl
  f213 := Try.func84.trans (congrArg some (by kernel_rfl))
  f265 := Try.func98.trans (congrArg some (by kernel_rfl))
  t3 := Try.underlying3
  a3 := Try.isAgg3
  z3 := Try.sizeOf3
  v3 := Try.zeroValue3
  t9 := Try.underlying9
  a9 := Try.isAgg9
  z9 := Try.sizeOf9
  v9 := Try.zeroValue9 }
open Go.RowKit in
/-- internal/bytealg.CompareString (what strings.Compare calls): IT RETURNS 'Lib.compareBytes a b'; the world is as it was. (LAID: no walk: one application.) -/
theorem Try.bytealg_CompareString (a b : ByteArray) (w : World) :
    Calls Try.prog 84 #[.string a, .string b] w fun e w' => e = .returned (.int .i64 (Lib.compareBytes a.data.toList b.data.toList)) ∧ w' = w := Any.bytealg_CompareString Try.lays213 a b w
def Try.lays106_ren : Go.Shelf.Ren := ⟨fun | 106 => 71 | 213 => 84 | 265 => 98 | n => n, fun | 9 => 9 | 3 => 3 | n => n, fun | n => n⟩
theorem Try.lays106 : Go.Proofs.Lays.n106 Try.prog Try.lays106_ren := {
  mixed := by kernel_rfl
  f106 := Try.func71.trans (congrArg some (by kernel_rfl))
  f213 := Try.func84.trans (congrArg some (by kernel_rfl))
  f265 := Try.func98.trans (congrArg some (by kernel_rfl))
  t3 := Try.underlying3
  a3 := Try.isAgg3
  z3 := Try.sizeOf3
  v3 := Try.zeroValue3
  t9 := Try.underlying9
  a9 := Try.isAgg9
  z9 := Try.sizeOf9
  v9 := Try.zeroValue9 }
open Go.RowKit in
/-- strings.Compare: "Compare returns an integer comparing two strings lexicographically. The result will be 0 if a == b, -1 if a < b, and +1 if a > b.": IT RETURNS 'Lib.compareBytes a b'; the world is as it was. (LAID: no walk: one application.) -/
theorem Try.strings_Compare (a b : ByteArray) (w : World) :
    Calls Try.prog 71 #[.string a, .string b] w fun e w' => e = .returned (.int .i64 (Lib.compareBytes a.data.toList b.data.toList)) ∧ w' = w := Any.strings_Compare Try.lays106 a b w
def Try.lays194_ren : Go.Shelf.Ren := ⟨fun | 194 => 62 | n => n, fun | 31 => 27 | 9 => 9 | 3 => 3 | 4 => 4 | 0 => 0 | n => n, fun | n => n⟩
theorem Try.lays194 : Go.Proofs.Lays.n194 Try.prog Try.lays194_ren := {
  mixed := by kernel_rfl
  f194 := Try.func62.trans (congrArg some (by kernel_rfl))
  t0 := Try.underlying0
  a0 := Try.isAgg0
  z0 := Try.sizeOf0
  v0 := Try.zeroValue0
  t3 := Try.underlying3
  a3 := Try.isAgg3
  z3 := Try.sizeOf3
  v3 := Try.zeroValue3
  t4 := Try.underlying4
  a4 := Try.isAgg4
  z4 := Try.sizeOf4
  v4 := Try.zeroValue4
  t9 := Try.underlying9
  a9 := Try.isAgg9
  z9 := Try.sizeOf9
  v9 := Try.zeroValue9
  t31 := Try.underlying27
  a31 := Try.isAgg27
  z31 := Try.sizeOf27
  v31 := Try.zeroValue27 }
open Go.RowKit Go.Lib Go.Sort in
/-- slices.Compact at []string: "Compact replaces consecutive runs of equal elements with a single copy. This is like the uniq command found on Unix. Compact modifies the contents of the slice s and returns the modified slice, which may have a smaller length. Compact zeroes the elements between the new length and the original length. The result preserves the nilness of s.": IT RETURNS THE SLICE CUT TO 'Lib.compact zs'; ITS CELLS HOLD 'Lib.compact zs', THEN ZERO VALUES up to the old length; all else is as it was, but for the count of draws. IN THE WORDS OF slices.Sort's CONTRACT ('Holds', 'putRow'): so the everyday 'slices.Sort(xs); xs = slices.Compact(xs)' goes from the one contract to the other. It asks 'zs.length ≤ cap' (every slice's: the reslicing 's[:k]' looks at it). Length 0, nil: '.._empty'. (LAID: no walk: one application.) -/
theorem Try.slices_Compact_string (blk off cap : Nat) (zs : List (List UInt8)) (w : World) (hH : Holds encStr w blk off zs.toArray) (hsz : zs.length ≤ 9223372036854775807) (hcap : zs.length ≤ cap) :
    Calls Try.prog 62 #[.slice (some ⟨blk, off, none⟩) zs.length cap] w fun e w' => e = .returned (.slice (some ⟨blk, off, none⟩) (Lib.compact zs).length cap) ∧ ∃ q, w' = putRow encStr (Sort.ahead w q) blk off (Lib.compact zs ++ List.replicate (zs.length - (Lib.compact zs).length) []).toArray := Any.slices_Compact_string Try.lays194 blk off cap zs w hH hsz hcap
open Go.RowKit Go.Lib Go.Sort in
/-- The same at a slice of length 0, a nil one too: it comes back as it is. (LAID: no walk: one application.) -/
theorem Try.slices_Compact_string_empty (a : Option Addr) (cap : Nat) (w : World) :
    Calls Try.prog 62 #[.slice a 0 cap] w fun e w' => e = .returned (.slice a 0 cap) ∧ w' = w := Any.slices_Compact_string_empty Try.lays194 a cap w
def Try.laysSlF6_f70_ren : Go.Shelf.Ren := ⟨fun | 6 => 70 | 15 => 83 | 14 => 82 | 28 => 96 | 29 => 97 | 20 => 88 | 21 => 89 | 22 => 90 | 23 => 91 | 24 => 92 | 25 => 93 | 26 => 94 | 27 => 95 | 46 => 100 | 47 => 101 | 48 => 102 | 49 => 103 | 50 => 104 | 57 => 106 | n => n, fun | 22 => 27 | 24 => 9 | 25 => 99 | 3 => 3 | 39 => 108 | 0 => 0 | 53 => 141 | 55 => 143 | 4 => 4 | 46 => 135 | 45 => 134 | 50 => 97 | 5 => 5 | 9 => 9 | 66 => 147 | 70 => 151 | 76 => 154 | 77 => 155 | n => n, fun | n => n⟩
theorem Try.laysSlF6_f70 : Go.Proofs.SlLaysF.n6 Try.prog Try.laysSlF6_f70_ren := {
  mixed := by kernel_rfl
  f6 := ⟨Try.f70.name, by decide, Try.func70.trans (congrArg some (by kernel_rfl))⟩
  f14 := ⟨Try.f82.name, by decide, Try.func82.trans (congrArg some (by kernel_rfl))⟩
  f15 := Try.func83.trans (congrArg some (by kernel_rfl))
  f20 := ⟨Try.f88.name, by decide, Try.func88.trans (congrArg some (by kernel_rfl))⟩
  f21 := ⟨Try.f89.name, by decide, Try.func89.trans (congrArg some (by kernel_rfl))⟩
  f22 := ⟨Try.f90.name, by decide, Try.func90.trans (congrArg some (by kernel_rfl))⟩
  f23 := ⟨Try.f91.name, by decide, Try.func91.trans (congrArg some (by kernel_rfl))⟩
  f24 := ⟨Try.f92.name, by decide, Try.func92.trans (congrArg some (by kernel_rfl))⟩
  f25 := ⟨Try.f93.name, by decide, Try.func93.trans (congrArg some (by kernel_rfl))⟩
  f26 := ⟨Try.f94.name, by decide, Try.func94.trans (congrArg some (by kernel_rfl))⟩
  f27 := ⟨Try.f95.name, by decide, Try.func95.trans (congrArg some (by kernel_rfl))⟩
  f28 := Try.func96.trans (congrArg some (by kernel_rfl))
  f29 := Try.func97.trans (congrArg some (by kernel_rfl))
  f46 := ⟨Try.f100.name, by decide, Try.func100.trans (congrArg some (by kernel_rfl))⟩
  f47 := Try.func101.trans (congrArg some (by kernel_rfl))
  f48 := Try.func102.trans (congrArg some (by kernel_rfl))
  f49 := ⟨Try.f103.name, by decide, Try.func103.trans (congrArg some (by kernel_rfl))⟩
  f50 := ⟨Try.f104.name, by decide, Try.func104.trans (congrArg some (by kernel_rfl))⟩
  f57 := ⟨Try.f106.name, by decide, Try.func106.trans (congrArg some (by kernel_rfl))⟩
  t0 := Try.underlying0
  a0 := Try.isAgg0
  z0 := Try.sizeOf0
  v0 := Try.zeroValue0
  t3 := Try.underlying3
  a3 := Try.isAgg3
  z3 := Try.sizeOf3
  v3 := Try.zeroValue3
  t4 := Try.underlying4
  a4 := Try.isAgg4
  z4 := Try.sizeOf4
  v4 := Try.zeroValue4
  t5 := Try.underlying5
  a5 := Try.isAgg5
  z5 := Try.sizeOf5
  v5 := Try.zeroValue5
  t9 := Try.underlying9
  a9 := Try.isAgg9
  z9 := Try.sizeOf9
  v9 := Try.zeroValue9
  t22 := Try.underlying27
  a22 := Try.isAgg27
  z22 := Try.sizeOf27
  v22 := Try.zeroValue27
  a24 := Try.isAgg9
  z24 := Try.sizeOf9
  t25 := Try.underlying99
  a25 := Try.isAgg99
  z25 := Try.sizeOf99
  v25 := Try.zeroValue99
  t39 := Try.underlying108
  a39 := Try.isAgg108
  z39 := Try.sizeOf108
  v39 := Try.zeroValue108
  t45 := Try.underlying134
  a45 := Try.isAgg134
  z45 := Try.sizeOf134
  v45 := Try.zeroValue134
  t46 := Try.underlying135
  a46 := Try.isAgg135
  z46 := Try.sizeOf135
  v46 := Try.zeroValue135
  t50 := Try.underlying97
  a50 := Try.isAgg97
  z50 := Try.sizeOf97
  v50 := Try.zeroValue97
  t53 := Try.underlying141
  a53 := Try.isAgg141
  z53 := Try.sizeOf141
  v53 := Try.zeroValue141
  t55 := Try.underlying143
  a55 := Try.isAgg143
  z55 := Try.sizeOf143
  v55 := Try.zeroValue143
  t66 := Try.underlying147
  a66 := Try.isAgg147
  z66 := Try.sizeOf147
  v66 := Try.zeroValue147
  t70 := Try.underlying151
  a70 := Try.isAgg151
  z70 := Try.sizeOf151
  v70 := Try.zeroValue151
  t76 := Try.underlying154
  a76 := Try.isAgg154
  z76 := Try.sizeOf154
  v76 := Try.zeroValue154
  t77 := Try.underlying155
  a77 := Try.isAgg155
  z77 := Try.sizeOf155
  v77 := Try.zeroValue155 }
open Go.RowKit Go.Lib Go.Sort in
/-- **slices.SortFunc, IN THE DOCUMENTATION's OWN TERMS: A PERMUTATION OF WHAT THE ROW HELD, SORTED BY 'cmp(a, b) < 0'.** Which of two equals comes first is left open ("The sort is not guaranteed to be stable"). (LAID AT THE INSTANCE 'slices.SortFunc[[]string,string]': no walk: one application.) -/
theorem Try.slices_SortFunc {α : Type} [Inhabited α] (enc : α → Value) (h1 : OneCell enc) (cf : α → α → Int) (hO : SWO (ltOf cf)) (g : Nat) (cb : Array Value) (blk off cap : Nat) (d : Array α) (w : World) (eg : ∀ args w, (callFunc g args).run Try.prog w = .ok (.enter g args) w) (hcmp : CmpLays1 Try.prog g cb enc cf blk off d.size w) (hH : Holds enc w blk off d) (hblk : blk < w.heap.size) (hsz : d.size < 4611686018427387904) :
    Calls Try.prog 70 #[.slice (some ⟨blk, off, none⟩) d.size cap, .func (.func g) #[] cb] w fun e w' =>
      e = .returned (.tuple #[]) ∧ ∃ d' n os, PermIn 0 d.size d d' ∧ SortedIn (ltOf cf) 0 d.size d' ∧ w' = sortWorld enc w blk off n d' os := Any.slices_SortFunc Try.laysSlF6_f70 enc h1 cf hO g cb blk off cap d w eg hcmp hH hblk hsz
end Go.Proofs

namespace Go.Proofs.Ytigliglmejkakaa
open Go.RowKit
set_option linter.unusedVariables false
set_option linter.unusedSimpArgs false

def okRep (s : Int) (l : List Ct) : Bool := okSum l && decide (0 ≤ s ∧ s ≤ 2147483647)
def repT (s : Int) (l : List Ct) : Tgt.Tt := .mk 9 s [] [sumT l]

set_option maxHeartbeats 4000000 in
set_option maxRecDepth 100000 in
theorem refRep_any (w : World) (n : Nat) (s : Int) (v : Value) (l : List Ct) (h : CtL w Any n v l) (hcnt : Ct.cntL l ≤ 1048576) (hlen : l.length ≤ 1048576) : Calls Try.prog 14 #[.int .i64 s, v] w fun e w' => TtAns2 (okRep s l) (repT s l) w e w' ∧ Below w.heap.size w w' := by
  obtain ⟨a1, c1, rfl, -⟩ := h.form
  have hQ := fun wz (hz : Below w.heap.size w wz) => refSum_any wz n _ l (h.below hz) hcnt hlen
  have HB1 : Hid (Below w.heap.size w (w.alloc (.cells #[.int .i64 0, .int .i64 0, .slice none 0 0, .slice none 0 0] 30))) := bl_alloc (Below.refl _ _) _
  have Y1 : Hid (Arr (w.alloc (.cells #[.int .i64 0, .int .i64 0, .slice none 0 0, .slice none 0 0] 30)) w.heap.size 30 [.int .i64 0, .int .i64 0, .slice none 0 0, .slice none 0 0]) := ⟨heap_alloc_at _ _⟩
  have hs : ∀ (W : World) i u, Below w.heap.size w W → Below w.heap.size w (W.setCell ⟨w.heap.size, i, none⟩ u) := fun W i u h => bl_set _ _ h (Nat.le_refl _)
  have HSS := hid hs
  clear h hs
  have hRT : repT s l = .mk 9 s [] [sumT l] := rfl
  have hOK : okRep s l = (okSum l && decide (0 ≤ s ∧ s ≤ 2147483647)) := rfl
  cases hos : okSum l with
  | false =>
    have HQ : Hid (∀ wz, Below w.heap.size w wz → Calls Try.prog 12 #[.slice a1 l.length c1] wz fun e w' => e = .returned (.tuple #[.agg #[.int .i64 0, .int .i64 0, .slice none 0 0, .slice none 0 0], .int .i64 1]) ∧ Below wz.heap.size wz w') := fun wz hz => (hQ wz hz).mono fun e w' ⟨h1, h2⟩ => ⟨h1.resolve_left (fun h => by have := h.1; rw [hos] at this; cases this) |>.2, h2⟩
    have HK : Hid (okRep s l = false) := by show _ = _; rw [hOK, hos]; rfl
    clear hQ hos hRT hOK
    go_enter Try.func14, Try.ntmps14
    go_wp2_with (go_at_call 12; refine (HQ.out _ HB1.out).mono ?_; rintro e w4 ⟨rfl, b4⟩; have HB4 := hid (bl_tr HB1.out b4); have HS4 := hid b4.size; have y4 := fun o => ((Y1.out.stays b4).stays (bl_alloc (Below.refl _ _) o)).cell; have z4 := fun o => ((Y1.out.stays b4).stays (bl_alloc (Below.refl _ _) o)).frozen; clear b4)
    refine bodyPost_ret (v := .tuple #[.agg #[.int .i64 0, .int .i64 0, .slice none 0 0, .slice none 0 0], .int .i64 1]) (by rw [results_cell2t (fn := Try.f14) (p := 4) (a := 5) (ty := 30) (by kernel_rfl)]; simp [go_sem, y4, z4]) rfl ?_
    exact ⟨.inr ⟨HK.out, rfl⟩, HSS.out _ _ _ (HSS.out _ _ _ (HSS.out _ _ _ (HSS.out _ _ _ (bl_alloc HB4.out _))))⟩
  | true =>
    rw [hos, Bool.true_and] at hOK
    obtain ⟨y, hy⟩ : ∃ y, sumT l = y := ⟨_, rfl⟩
    rw [hy] at hQ hRT
    have HQ : Hid (∀ wz, Below w.heap.size w wz → Calls Try.prog 12 #[.slice a1 l.length c1] wz fun e w' => (∃ a4' c4' a4 c4 N4, e = .returned (.tuple #[.agg #[.int .i64 y.k, .int .i64 y.n, .slice a4' y.ls.length c4', .slice a4 y.ks.length c4], .int .i64 0]) ∧ Tgt.TAt w' (fun b => wz.heap.size ≤ b) N4 [.int .i64 y.k, .int .i64 y.n, .slice a4' y.ls.length c4', .slice a4 y.ks.length c4] y) ∧ Below wz.heap.size wz w') := fun wz hz => (hQ wz hz).mono fun e w' ⟨h1, h2⟩ => ⟨(h1.resolve_right (fun h => by have := h.1; rw [hos] at this; cases this)).2, h2⟩
    clear hQ hos hy
    by_cases h2 : s < 0
    · have HK : Hid (okRep s l = false) := by show _ = _; rw [hOK, decide_eq_false (by omega)]
      clear hRT hOK
      go_enter Try.func14, Try.ntmps14
      go_wp2_with (go_at_call 12; refine (HQ.out _ HB1.out).mono ?_; rintro e w4 ⟨⟨a4', c4', a4, c4, N4, rfl, -⟩, b4⟩; have HB4 := hid (bl_tr HB1.out b4); have HS4 := hid b4.size; have y4 := fun o => ((Y1.out.stays b4).stays (bl_alloc (Below.refl _ _) o)).cell; have z4 := fun o => ((Y1.out.stays b4).stays (bl_alloc (Below.refl _ _) o)).frozen; clear b4)
      refine bodyPost_ret (v := .tuple #[.agg #[.int .i64 0, .int .i64 0, .slice none 0 0, .slice none 0 0], .int .i64 1]) (by rw [results_cell2t (fn := Try.f14) (p := 4) (a := 5) (ty := 30) (by kernel_rfl)]; simp [go_sem, y4, z4]) rfl ?_
      exact ⟨.inr ⟨HK.out, rfl⟩, HSS.out _ _ _ (HSS.out _ _ _ (HSS.out _ _ _ (HSS.out _ _ _ (bl_alloc HB4.out _))))⟩
    · by_cases h3 : 2147483647 < s
      · have HK : Hid (okRep s l = false) := by show _ = _; rw [hOK, decide_eq_false (by omega)]
        clear hRT hOK
        go_enter Try.func14, Try.ntmps14
        go_wp2_with (go_at_call 12; refine (HQ.out _ HB1.out).mono ?_; rintro e w4 ⟨⟨a4', c4', a4, c4, N4, rfl, -⟩, b4⟩; have HB4 := hid (bl_tr HB1.out b4); have HS4 := hid b4.size; have y4 := fun o => ((Y1.out.stays b4).stays (bl_alloc (Below.refl _ _) o)).cell; have z4 := fun o => ((Y1.out.stays b4).stays (bl_alloc (Below.refl _ _) o)).frozen; clear b4)
        refine bodyPost_ret (v := .tuple #[.agg #[.int .i64 0, .int .i64 0, .slice none 0 0, .slice none 0 0], .int .i64 1]) (by rw [results_cell2t (fn := Try.f14) (p := 4) (a := 5) (ty := 30) (by kernel_rfl)]; simp [go_sem, y4, z4]) rfl ?_
        exact ⟨.inr ⟨HK.out, rfl⟩, HSS.out _ _ _ (HSS.out _ _ _ (HSS.out _ _ _ (HSS.out _ _ _ (bl_alloc HB4.out _))))⟩
      · have HK : Hid (okRep s l = true) := by show _ = _; rw [hOK, decide_eq_true (by omega)]
        have hs64 : Tgt.R64 s := ⟨by omega, by omega⟩
        have HRT := hid hRT
        have hz1 : (w.alloc (.cells #[.int .i64 0, .int .i64 0, .slice none 0 0, .slice none 0 0] 30)).heap.size = w.heap.size + 1 := size_alloc _ _
        have HZ1 := hid hz1
        clear hRT hOK hz1
        go_enter Try.func14, Try.ntmps14
        go_wp2_with (go_at_call 12; refine (HQ.out _ HB1.out).mono ?_; rintro e w4 ⟨⟨a4', c4', a4, c4, N4, rfl, hT4⟩, b4⟩; have HB4 := hid (bl_tr HB1.out b4); have HS4 := hid b4.size; have y4 := fun o => ((Y1.out.stays b4).stays (bl_alloc (Below.refl _ _) o)).cell; have z4 := fun o => ((Y1.out.stays b4).stays (bl_alloc (Below.refl _ _) o)).frozen; have HT4 := hid hT4; have y5 := fun o o' => (((Y1.out.stays b4).stays (bl_alloc (Below.refl _ _) o)).stays (bl_alloc (Below.refl _ _) o')).cell; have z5 := fun o o' => (((Y1.out.stays b4).stays (bl_alloc (Below.refl _ _) o)).stays (bl_alloc (Below.refl _ _) o')).frozen; clear hT4; clear b4)
        refine bodyPost_ret (v := .tuple #[.agg #[.int .i64 9, .int .i64 s, .slice none 0 0, .slice (some ⟨w4.heap.size + 1, 0, none⟩) 1 1], .int .i64 0]) (by rw [results_cell2t (fn := Try.f14) (p := 4) (a := 5) (ty := 30) (by kernel_rfl)]; simp [go_sem, y5, z5]) rfl ?_
        rw [HRT.out]
        have hsz := HS4.out
        rw [HZ1.out] at hsz
        have hK : ∀ (W : World) i u, Tgt.Keeps (fun b => w.heap.size + 1 ≤ b) W (W.setCell ⟨w.heap.size, i, none⟩ u) := fun W i u b o v hb hv => by have hb : w.heap.size + 1 ≤ b := hb; rw [World.cell?_of_block (w := W) (Below.heap_setCell _ _ _ _ (by show b ≠ w.heap.size; omega))]; exact hv
        have hTy : Tgt.TAt ((w4.alloc (.cells #[.int .i64 y.k, .int .i64 y.n, .slice a4' y.ls.length c4', .slice a4 y.ks.length c4] 30)).alloc (.cells #[.int .i64 y.k, .int .i64 y.n, .slice a4' y.ls.length c4', .slice a4 y.ks.length c4] 30)) (fun b => w.heap.size + 1 ≤ b) N4 [.int .i64 y.k, .int .i64 y.n, .slice a4' y.ls.length c4', .slice a4 y.ks.length c4] y := (((HT4.out.move (Tgt.Keeps.refl _ _) (fun b hb => by have hb := hb; rw [HZ1.out] at hb; exact hb)).below (bl_alloc (Below.refl _ _) _)).below (bl_alloc (Below.refl _ _) _))
        have hcl : Tgt.Cells ((w4.alloc (.cells #[.int .i64 y.k, .int .i64 y.n, .slice a4' y.ls.length c4', .slice a4 y.ks.length c4] 30)).alloc (.cells #[.int .i64 y.k, .int .i64 y.n, .slice a4' y.ls.length c4', .slice a4 y.ks.length c4] 30)) (w4.heap.size + 1) 0 [.int .i64 y.k, .int .i64 y.n, .slice a4' y.ls.length c4', .slice a4 y.ks.length c4] := fun j u hu => by
          have hh := heap_alloc_at (w4.alloc (.cells #[.int .i64 y.k, .int .i64 y.n, .slice a4' y.ls.length c4', .slice a4 y.ks.length c4] 30)) (.cells #[.int .i64 y.k, .int .i64 y.n, .slice a4' y.ls.length c4', .slice a4 y.ks.length c4] 30)
          rw [size_alloc] at hh
          rw [Nat.zero_add, cell_at hh]
          simpa using hu
        have hfin := (tat_wrap (kind := 9) (x := s) (⟨by omega, by omega⟩ : Tgt.R64 9) hs64 hTy (by show w.heap.size + 1 ≤ w4.heap.size + 1; omega) hcl).move (((hK _ 0 (.int .i64 9)).trans (hK _ 1 (.int .i64 s))).trans ((hK _ 2 (.slice none 0 0)).trans (hK _ 3 (.slice (some ⟨w4.heap.size + 1, 0, none⟩) 1 1)))) (K' := fun b => w.heap.size ≤ b) (fun b hb => by have hb : w.heap.size + 1 ≤ b := hb; show w.heap.size ≤ b; omega)
        exact ⟨.inl ⟨HK.out, none, 0, some ⟨w4.heap.size + 1, 0, none⟩, 1, _, rfl, hfin⟩, HSS.out _ _ _ (HSS.out _ _ _ (HSS.out _ _ _ (HSS.out _ _ _ (bl_alloc (bl_alloc HB4.out _) _))))⟩
end Go.Proofs.Ytigliglmejkakaa
