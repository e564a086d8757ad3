/- DERIVED: THE SHELF's CONTRACTS AT THIS DUMP, IN PLAIN WORDS (tools/lay-plain.mjs out of 'TryzCutShelfSet.lean', which tools/lay-shelf.mjs wrote): THE SAME DECLARATIONS UNDER THE SAME NAMES: 'import', 'namespace', 'open', 'def', 'theorem' AND NOTHING ELSE: no command of the shelf's: FOR A HAND-IN. Each laying: the table of numbers ('.._ren') and one theorem, a field a fact of the dump's own or the kernel's comparison; each contract: ONE APPLICATION. Target types as plain data. How target types lie in memory; what calls leave as it was. -/
import Derived.Shelf.Slices.CompactS
import Derived.Ground.SlsfProg
import Derived.Shelf.SlSortCmp.NoneTotal
import Derived.Shelf.Small.Strs
import Derived.Shelf.Small.Wraps
import Derived.Test.YtigliglmejkakaaGreatProg
import Derived.WalkKit
import Derived.Below
import Derived.Deep.Draws
namespace Go.Proofs
open Go.Shelf
def Tryz.lays213_ren : Go.Shelf.Ren := ⟨fun | 213 => 137 | 265 => 151 | n => n, fun | 9 => 9 | 3 => 3 | n => n, fun | n => n⟩
theorem Tryz.lays213 : Go.Proofs.Lays.n213 Tryz.prog Tryz.lays213_ren := {
  mixed := by kernel_rfl
  f213 := Tryz.func137.trans (congrArg some (by kernel_rfl))
  f265 := Tryz.func151.trans (congrArg some (by kernel_rfl))
  t3 := Tryz.underlying3
  a3 := Tryz.isAgg3
  z3 := Tryz.sizeOf3
  v3 := Tryz.zeroValue3
  t9 := Tryz.underlying9
  a9 := Tryz.isAgg9
  z9 := Tryz.sizeOf9
  v9 := Tryz.zeroValue9 }
open Go.RowKit in
/-- internal/bytealg.CompareString (what strings.Compare calls): IT RETURNS 'Lib.compareBytes a b'; the world is as it was. (LAID: no walk: one application.) -/
theorem Tryz.bytealg_CompareString (a b : ByteArray) (w : World) :
    Calls Tryz.prog 137 #[.string a, .string b] w fun e w' => e = .returned (.int .i64 (Lib.compareBytes a.data.toList b.data.toList)) ∧ w' = w := Any.bytealg_CompareString Tryz.lays213 a b w
def Tryz.lays106_ren : Go.Shelf.Ren := ⟨fun | 106 => 110 | 213 => 137 | 265 => 151 | n => n, fun | 9 => 9 | 3 => 3 | n => n, fun | n => n⟩
theorem Tryz.lays106 : Go.Proofs.Lays.n106 Tryz.prog Tryz.lays106_ren := {
  mixed := by kernel_rfl
  f106 := Tryz.func110.trans (congrArg some (by kernel_rfl))
  f213 := Tryz.func137.trans (congrArg some (by kernel_rfl))
  f265 := Tryz.func151.trans (congrArg some (by kernel_rfl))
  t3 := Tryz.underlying3
  a3 := Tryz.isAgg3
  z3 := Tryz.sizeOf3
  v3 := Tryz.zeroValue3
  t9 := Tryz.underlying9
  a9 := Tryz.isAgg9
  z9 := Tryz.sizeOf9
  v9 := Tryz.zeroValue9 }
open Go.RowKit in
/-- strings.Compare: "Compare returns an integer comparing two strings lexicographically. The result will be 0 if a == b, -1 if a < b, and +1 if a > b.": IT RETURNS 'Lib.compareBytes a b'; the world is as it was. (LAID: no walk: one application.) -/
theorem Tryz.strings_Compare (a b : ByteArray) (w : World) :
    Calls Tryz.prog 110 #[.string a, .string b] w fun e w' => e = .returned (.int .i64 (Lib.compareBytes a.data.toList b.data.toList)) ∧ w' = w := Any.strings_Compare Tryz.lays106 a b w
def Tryz.lays194_ren : Go.Shelf.Ren := ⟨fun | 194 => 85 | n => n, fun | 31 => 25 | 9 => 9 | 3 => 3 | 4 => 4 | 0 => 0 | n => n, fun | n => n⟩
theorem Tryz.lays194 : Go.Proofs.Lays.n194 Tryz.prog Tryz.lays194_ren := {
  mixed := by kernel_rfl
  f194 := Tryz.func85.trans (congrArg some (by kernel_rfl))
  t0 := Tryz.underlying0
  a0 := Tryz.isAgg0
  z0 := Tryz.sizeOf0
  v0 := Tryz.zeroValue0
  t3 := Tryz.underlying3
  a3 := Tryz.isAgg3
  z3 := Tryz.sizeOf3
  v3 := Tryz.zeroValue3
  t4 := Tryz.underlying4
  a4 := Tryz.isAgg4
  z4 := Tryz.sizeOf4
  v4 := Tryz.zeroValue4
  t9 := Tryz.underlying9
  a9 := Tryz.isAgg9
  z9 := Tryz.sizeOf9
  v9 := Tryz.zeroValue9
  t31 := Tryz.underlying25
  a31 := Tryz.isAgg25
  z31 := Tryz.sizeOf25
  v31 := Tryz.zeroValue25 }
open Go.RowKit Go.Lib Go.Sort in
/-- slices.Compact at []string: "Compact replaces consecutive runs of equal elements with a single copy. This is like the uniq command found on Unix. Compact modifies the contents of the slice s and returns the modified slice, which may have a smaller length. Compact zeroes the elements between the new length and the original length. The result preserves the nilness of s.": IT RETURNS THE SLICE CUT TO 'Lib.compact zs'; ITS CELLS HOLD 'Lib.compact zs', THEN ZERO VALUES up to the old length; all else is as it was, but for the count of draws. IN THE WORDS OF slices.Sort's CONTRACT ('Holds', 'putRow'): so the everyday 'slices.Sort(xs); xs = slices.Compact(xs)' goes from the one contract to the other. It asks 'zs.length ≤ cap' (every slice's: the reslicing 's[:k]' looks at it). Length 0, nil: '.._empty'. (LAID: no walk: one application.) -/
theorem Tryz.slices_Compact_string (blk off cap : Nat) (zs : List (List UInt8)) (w : World) (hH : Holds encStr w blk off zs.toArray) (hsz : zs.length ≤ 9223372036854775807) (hcap : zs.length ≤ cap) :
    Calls Tryz.prog 85 #[.slice (some ⟨blk, off, none⟩) zs.length cap] w fun e w' => e = .returned (.slice (some ⟨blk, off, none⟩) (Lib.compact zs).length cap) ∧ ∃ q, w' = putRow encStr (Sort.ahead w q) blk off (Lib.compact zs ++ List.replicate (zs.length - (Lib.compact zs).length) []).toArray := Any.slices_Compact_string Tryz.lays194 blk off cap zs w hH hsz hcap
open Go.RowKit Go.Lib Go.Sort in
/-- The same at a slice of length 0, a nil one too: it comes back as it is. (LAID: no walk: one application.) -/
theorem Tryz.slices_Compact_string_empty (a : Option Addr) (cap : Nat) (w : World) :
    Calls Tryz.prog 85 #[.slice a 0 cap] w fun e w' => e = .returned (.slice a 0 cap) ∧ w' = w := Any.slices_Compact_string_empty Tryz.lays194 a cap w
def Tryz.laysSlF6_f109_ren : Go.Shelf.Ren := ⟨fun | 6 => 109 | 15 => 103 | 14 => 136 | 28 => 122 | 29 => 123 | 20 => 143 | 21 => 144 | 22 => 145 | 23 => 146 | 24 => 147 | 25 => 148 | 26 => 149 | 27 => 150 | 46 => 153 | 47 => 139 | 48 => 140 | 49 => 154 | 50 => 155 | 57 => 156 | n => n, fun | 22 => 25 | 24 => 9 | 25 => 172 | 3 => 3 | 39 => 190 | 0 => 0 | 53 => 212 | 55 => 214 | 4 => 4 | 46 => 205 | 45 => 204 | 50 => 170 | 5 => 5 | 9 => 9 | 66 => 234 | 70 => 238 | 76 => 245 | 77 => 246 | n => n, fun | n => n⟩
theorem Tryz.laysSlF6_f109 : Go.Proofs.SlLaysF.n6 Tryz.prog Tryz.laysSlF6_f109_ren := {
  mixed := by kernel_rfl
  f6 := ⟨Tryz.f109.name, by decide, Tryz.func109.trans (congrArg some (by kernel_rfl))⟩
  f14 := ⟨Tryz.f136.name, by decide, Tryz.func136.trans (congrArg some (by kernel_rfl))⟩
  f15 := Tryz.func103.trans (congrArg some (by kernel_rfl))
  f20 := ⟨Tryz.f143.name, by decide, Tryz.func143.trans (congrArg some (by kernel_rfl))⟩
  f21 := ⟨Tryz.f144.name, by decide, Tryz.func144.trans (congrArg some (by kernel_rfl))⟩
  f22 := ⟨Tryz.f145.name, by decide, Tryz.func145.trans (congrArg some (by kernel_rfl))⟩
  f23 := ⟨Tryz.f146.name, by decide, Tryz.func146.trans (congrArg some (by kernel_rfl))⟩
  f24 := ⟨Tryz.f147.name, by decide, Tryz.func147.trans (congrArg some (by kernel_rfl))⟩
  f25 := ⟨Tryz.f148.name, by decide, Tryz.func148.trans (congrArg some (by kernel_rfl))⟩
  f26 := ⟨Tryz.f149.name, by decide, Tryz.func149.trans (congrArg some (by kernel_rfl))⟩
  f27 := ⟨Tryz.f150.name, by decide, Tryz.func150.trans (congrArg some (by kernel_rfl))⟩
  f28 := Tryz.func122.trans (congrArg some (by kernel_rfl))
  f29 := Tryz.func123.trans (congrArg some (by kernel_rfl))
  f46 := ⟨Tryz.f153.name, by decide, Tryz.func153.trans (congrArg some (by kernel_rfl))⟩
  f47 := Tryz.func139.trans (congrArg some (by kernel_rfl))
  f48 := Tryz.func140.trans (congrArg some (by kernel_rfl))
  f49 := ⟨Tryz.f154.name, by decide, Tryz.func154.trans (congrArg some (by kernel_rfl))⟩
  f50 := ⟨Tryz.f155.name, by decide, Tryz.func155.trans (congrArg some (by kernel_rfl))⟩
  f57 := ⟨Tryz.f156.name, by decide, Tryz.func156.trans (congrArg some (by kernel_rfl))⟩
  t0 := Tryz.underlying0
  a0 := Tryz.isAgg0
  z0 := Tryz.sizeOf0
  v0 := Tryz.zeroValue0
  t3 := Tryz.underlying3
  a3 := Tryz.isAgg3
  z3 := Tryz.sizeOf3
  v3 := Tryz.zeroValue3
  t4 := Tryz.underlying4
  a4 := Tryz.isAgg4
  z4 := Tryz.sizeOf4
  v4 := Tryz.zeroValue4
  t5 := Tryz.underlying5
  a5 := Tryz.isAgg5
  z5 := Tryz.sizeOf5
  v5 := Tryz.zeroValue5
  t9 := Tryz.underlying9
  a9 := Tryz.isAgg9
  z9 := Tryz.sizeOf9
  v9 := Tryz.zeroValue9
  t22 := Tryz.underlying25
  a22 := Tryz.isAgg25
  z22 := Tryz.sizeOf25
  v22 := Tryz.zeroValue25
  a24 := Tryz.isAgg9
  z24 := Tryz.sizeOf9
  t25 := Tryz.underlying172
  a25 := Tryz.isAgg172
  z25 := Tryz.sizeOf172
  v25 := Tryz.zeroValue172
  t39 := Tryz.underlying190
  a39 := Tryz.isAgg190
  z39 := Tryz.sizeOf190
  v39 := Tryz.zeroValue190
  t45 := Tryz.underlying204
  a45 := Tryz.isAgg204
  z45 := Tryz.sizeOf204
  v45 := Tryz.zeroValue204
  t46 := Tryz.underlying205
  a46 := Tryz.isAgg205
  z46 := Tryz.sizeOf205
  v46 := Tryz.zeroValue205
  t50 := Tryz.underlying170
  a50 := Tryz.isAgg170
  z50 := Tryz.sizeOf170
  v50 := Tryz.zeroValue170
  t53 := Tryz.underlying212
  a53 := Tryz.isAgg212
  z53 := Tryz.sizeOf212
  v53 := Tryz.zeroValue212
  t55 := Tryz.underlying214
  a55 := Tryz.isAgg214
  z55 := Tryz.sizeOf214
  v55 := Tryz.zeroValue214
  t66 := Tryz.underlying234
  a66 := Tryz.isAgg234
  z66 := Tryz.sizeOf234
  v66 := Tryz.zeroValue234
  t70 := Tryz.underlying238
  a70 := Tryz.isAgg238
  z70 := Tryz.sizeOf238
  v70 := Tryz.zeroValue238
  t76 := Tryz.underlying245
  a76 := Tryz.isAgg245
  z76 := Tryz.sizeOf245
  v76 := Tryz.zeroValue245
  t77 := Tryz.underlying246
  a77 := Tryz.isAgg246
  z77 := Tryz.sizeOf246
  v77 := Tryz.zeroValue246 }
open Go.RowKit Go.Lib Go.Sort in
/-- **slices.SortFunc, IN THE DOCUMENTATION's OWN TERMS: A PERMUTATION OF WHAT THE ROW HELD, SORTED BY 'cmp(a, b) < 0'.** Which of two equals comes first is left open ("The sort is not guaranteed to be stable"). (LAID AT THE INSTANCE 'slices.SortFunc[[]string,string]': no walk: one application.) -/
theorem Tryz.slices_SortFunc {α : Type} [Inhabited α] (enc : α → Value) (h1 : OneCell enc) (cf : α → α → Int) (hO : SWO (ltOf cf)) (g : Nat) (cb : Array Value) (blk off cap : Nat) (d : Array α) (w : World) (eg : ∀ args w, (callFunc g args).run Tryz.prog w = .ok (.enter g args) w) (hcmp : CmpLays1 Tryz.prog g cb enc cf blk off d.size w) (hH : Holds enc w blk off d) (hblk : blk < w.heap.size) (hsz : d.size < 4611686018427387904) :
    Calls Tryz.prog 109 #[.slice (some ⟨blk, off, none⟩) d.size cap, .func (.func g) #[] cb] w fun e w' =>
      e = .returned (.tuple #[]) ∧ ∃ d' n os, PermIn 0 d.size d d' ∧ SortedIn (ltOf cf) 0 d.size d' ∧ w' = sortWorld enc w blk off n d' os := Any.slices_SortFunc Tryz.laysSlF6_f109 enc h1 cf hO g cb blk off cap d w eg hcmp hH hblk hsz
end Go.Proofs

namespace Go.Proofs.YtigliglmejkakaaGreat.Tgt
open Go.RowKit
set_option linter.unusedVariables false

/-- A target type: its kind, its number, its labels, its parts. -/
inductive Tt where
  | mk (k n : Int) (ls : List ByteArray) (ks : List Tt)
def Tt.k : Tt → Int | .mk k _ _ _ => k
def Tt.n : Tt → Int | .mk _ n _ _ => n
def Tt.ls : Tt → List ByteArray | .mk _ _ ls _ => ls
def Tt.ks : Tt → List Tt | .mk _ _ _ ks => ks
theorem Tt.eta (t : Tt) : Tt.mk t.k t.n t.ls t.ks = t := by cases t; rfl
mutual
def Tt.cnt : Tt → Nat
  | .mk _ _ _ ks => Tt.cntL ks + 1
def Tt.cntL : List Tt → Nat
  | [] => 0
  | x :: r => Tt.cnt x + Tt.cntL r
end
theorem Tt.cnt_ks (t : Tt) : t.cnt = Tt.cntL t.ks + 1 := by cases t; rw [Tt.cnt]; rfl
theorem Tt.cnt_pos (t : Tt) : 1 ≤ t.cnt := by rw [Tt.cnt_ks]; omega
theorem Tt.drop_at {l : List Tt} {k : Nat} {x : Tt} (hx : l[k]? = some x) : l.drop k = x :: l.drop (k + 1) := by
  obtain ⟨hk, rfl⟩ := List.getElem?_eq_some_iff.1 hx
  exact List.drop_eq_getElem_cons hk
theorem Tt.cntL_drop {l : List Tt} {k : Nat} {x : Tt} (hx : l[k]? = some x) : Tt.cntL (l.drop k) = x.cnt + Tt.cntL (l.drop (k + 1)) := by
  rw [Tt.drop_at hx, Tt.cntL]
/-- Is its number bound in its parts? -/
def Tt.binds (t : Tt) : Bool := decide (t.k = 9) || decide (t.k = 10) || decide (t.k = 11)
mutual
def Tt.deepest : Tt → Nat
  | .mk _ _ _ ks => Tt.deepestL ks + 1
def Tt.deepestL : List Tt → Nat
  | [] => 0
  | x :: r => max (Tt.deepest x) (Tt.deepestL r)
end
theorem Tt.deepest_ks (t : Tt) : t.deepest = Tt.deepestL t.ks + 1 := by cases t; rw [Tt.deepest]; rfl
theorem Tt.deepestL_drop {l : List Tt} {k : Nat} {x : Tt} (hx : l[k]? = some x) : Tt.deepestL (l.drop k) = max x.deepest (Tt.deepestL (l.drop (k + 1))) := by
  rw [Tt.drop_at hx, Tt.deepestL]
mutual
theorem Tt.deepest_le : ∀ t : Tt, t.deepest ≤ t.cnt
  | .mk k n ls ks => by rw [Tt.deepest, Tt.cnt]; have := Tt.deepestL_le ks; omega
theorem Tt.deepestL_le : ∀ l : List Tt, Tt.deepestL l ≤ Tt.cntL l
  | [] => by rw [Tt.deepestL, Tt.cntL]; exact Nat.le_refl _
  | x :: r => by rw [Tt.deepestL, Tt.cntL]; have := Tt.deepest_le x; have := Tt.deepestL_le r; omega
end
/-- What stands for a key: the first pair. -/
def lk : List (Int × Int) → Int → Option Int
  | [], _ => none
  | p :: r, x => if p.1 = x then some p.2 else lk r x
theorem lk_cons (p : Int × Int) (r : List (Int × Int)) (x : Int) : lk (p :: r) x = if p.1 = x then some p.2 else lk r x := rfl
theorem lk_mem {e : List (Int × Int)} {x a : Int} (h : lk e x = some a) : (x, a) ∈ e := by
  induction e with
  | nil => cases h
  | cons p r ih =>
    rw [lk_cons] at h
    split at h
    · rename_i h1
      injection h with h2
      subst h1 h2
      exact List.mem_cons_self
    · exact List.mem_cons_of_mem _ (ih h)
end Go.Proofs.YtigliglmejkakaaGreat.Tgt

namespace Go.Proofs.YtigliglmejkakaaGreat.Tgt
open Go.RowKit
set_option linter.unusedVariables false

/-- The cells from a place on hold these values. -/
def Cells (w : World) (b o : Nat) (vs : List Value) : Prop := ∀ (j : Nat) v, vs[j]? = some v → w.cell? ⟨b, o + j, none⟩ = some v
/-- An int's range. -/
def R64 (n : Int) : Prop := -9223372036854775808 ≤ n ∧ n ≤ 9223372036854775807
/-- A slice of texts. -/
def Sl (w : World) (K : Nat → Prop) (v : Value) (l : List ByteArray) : Prop :=
  (∃ b o c, v = .slice (some ⟨b, o, none⟩) l.length c ∧ K b ∧ l.length ≤ c ∧ l.length ≤ maxLen ∧ ∀ (j : Nat) s, l[j]? = some s → w.cell? ⟨b, o + j, none⟩ = some (.string s)) ∨ (l = [] ∧ ∃ p c, v = .slice p 0 c)
/-- A slice of types, in a block of K. -/
def TRow (w : World) (K : Nat → Prop) (R : List Value → Tt → Prop) (v : Value) (l : List Tt) : Prop :=
  (∃ b o c, v = .slice (some ⟨b, o, none⟩) l.length c ∧ K b ∧ l.length ≤ c ∧ l.length ≤ maxLen ∧ ∀ (i : Nat) x, l[i]? = some x → ∃ vs, Cells w b (o + i * 4) vs ∧ R vs x) ∨ (l = [] ∧ ∃ p c, v = .slice p 0 c)
/-- The values vs are the type t. -/
def TAt (w : World) (K : Nat → Prop) : Nat → List Value → Tt → Prop
  | 0, _, _ => False
  | n + 1, vs, t => ∃ u v, vs = [.int .i64 t.k, .int .i64 t.n, u, v] ∧ R64 t.k ∧ R64 t.n ∧ Sl w K u t.ls ∧ TRow w K (TAt w K n) v t.ks
def TAtL (w : World) (K : Nat → Prop) (n : Nat) (v : Value) (l : List Tt) : Prop := TRow w K (TAt w K n) v l
/-- A type lies at a place. -/
def PAt (w : World) (K : Nat → Prop) (n b o : Nat) (t : Tt) : Prop := K b ∧ ∃ vs, Cells w b o vs ∧ TAt w K n vs t
def Keeps (K : Nat → Prop) (w w' : World) : Prop := ∀ (b o : Nat) v, K b → w.cell? ⟨b, o, none⟩ = some v → w'.cell? ⟨b, o, none⟩ = some v
theorem Keeps.refl (K : Nat → Prop) (w : World) : Keeps K w w := fun _ _ _ _ h => h
theorem Keeps.trans {K : Nat → Prop} {a b c : World} (h : Keeps K a b) (h' : Keeps K b c) : Keeps K a c := fun x o v hk hv => h' x o v hk (h x o v hk hv)
theorem Keeps.of_below {K : Nat → Prop} {w w' : World} (h : Below w.heap.size w w') : Keeps K w w' := fun b o v _ hv => (h.cell (World.block_lt_of_cell? w _ hv)).trans hv
theorem Sl.move {w w' : World} {K K' : Nat → Prop} {v : Value} {l : List ByteArray} (h : Sl w K v l) (hk : Keeps K w w') (hK : ∀ b, K b → K' b) : Sl w' K' v l := by
  rcases h with ⟨b, o, c, hv, hb, hl, hm, hc⟩ | h
  · exact .inl ⟨b, o, c, hv, hK b hb, hl, hm, fun j s hs => hk _ _ _ hb (hc j s hs)⟩
  · exact .inr h
theorem Sl.form {w : World} {K : Nat → Prop} {v : Value} {l : List ByteArray} (h : Sl w K v l) : ∃ a c, v = .slice a l.length c ∧ l.length ≤ maxLen := by
  rcases h with ⟨b, o, c, rfl, -, -, hm, -⟩ | ⟨rfl, p, c, rfl⟩
  · exact ⟨_, _, rfl, hm⟩
  · exact ⟨_, _, rfl, Nat.zero_le _⟩
theorem TRow.move {w w' : World} {K K' : Nat → Prop} {R R' : List Value → Tt → Prop} {v : Value} {l : List Tt} (h : TRow w K R v l) (hk : Keeps K w w') (hK : ∀ b, K b → K' b) (hR : ∀ vs x, R vs x → R' vs x) : TRow w' K' R' v l := by
  rcases h with ⟨b, o, c, hv, hb, hl, hm, hc⟩ | h
  · refine .inl ⟨b, o, c, hv, hK b hb, hl, hm, fun i x hx => ?_⟩
    obtain ⟨vs, h1, h2⟩ := hc i x hx
    exact ⟨vs, fun j u hu => hk _ _ _ hb (h1 j u hu), hR _ _ h2⟩
  · exact .inr h
theorem TAt.move {w w' : World} {K K' : Nat → Prop} (hk : Keeps K w w') (hK : ∀ b, K b → K' b) : ∀ {n : Nat} {vs : List Value} {t : Tt}, TAt w K n vs t → TAt w' K' n vs t
  | 0, _, _, h => h
  | n + 1, vs, t, ⟨u, v, h1, h2, h3, h5, h4⟩ => ⟨u, v, h1, h2, h3, h5.move hk hK, h4.move hk hK fun _ _ q => TAt.move hk hK q⟩
theorem TAt.succ {w : World} {K : Nat → Prop} : ∀ {n : Nat} {vs : List Value} {t : Tt}, TAt w K n vs t → TAt w K (n + 1) vs t
  | 0, _, _, h => h.elim
  | n + 1, vs, t, ⟨u, v, h1, h2, h3, h5, h4⟩ => ⟨u, v, h1, h2, h3, h5, h4.move (Keeps.refl _ _) (fun _ h => h) fun _ _ q => TAt.succ q⟩
theorem TAt.le {w : World} {K : Nat → Prop} {n m : Nat} {vs : List Value} {t : Tt} (h : TAt w K n vs t) (hm : n ≤ m) : TAt w K m vs t := by
  induction m with
  | zero => obtain rfl : n = 0 := by omega
            exact h
  | succ m ih =>
    by_cases he : n = m + 1
    · subst he; exact h
    · exact (ih (by omega)).succ
theorem TAtL.move {w w' : World} {K K' : Nat → Prop} {n : Nat} {v : Value} {l : List Tt} (h : TAtL w K n v l) (hk : Keeps K w w') (hK : ∀ b, K b → K' b) : TAtL w' K' n v l := TRow.move h hk hK fun _ _ q => TAt.move hk hK q
theorem TAtL.le {w : World} {K : Nat → Prop} {n m : Nat} {v : Value} {l : List Tt} (h : TAtL w K n v l) (hm : n ≤ m) : TAtL w K m v l := TRow.move h (Keeps.refl _ _) (fun _ h => h) fun _ _ q => TAt.le q hm
theorem TAtL.form {w : World} {K : Nat → Prop} {n : Nat} {v : Value} {l : List Tt} (h : TAtL w K n v l) : ∃ a c, v = .slice a l.length c ∧ l.length ≤ maxLen := by
  rcases h with ⟨b, o, c, rfl, -, -, hm, -⟩ | ⟨rfl, p, c, rfl⟩
  · exact ⟨_, _, rfl, hm⟩
  · exact ⟨_, _, rfl, Nat.zero_le _⟩
theorem TAt.open_ {w : World} {K : Nat → Prop} {n : Nat} {vs : List Value} {t : Tt} (h : TAt w K (n + 1) vs t) : ∃ u v, vs = [.int .i64 t.k, .int .i64 t.n, u, v] ∧ R64 t.k ∧ R64 t.n ∧ Sl w K u t.ls ∧ TAtL w K n v t.ks := h
theorem TAt.form {w : World} {K : Nat → Prop} {n : Nat} {vs : List Value} {t : Tt} (h : TAt w K n vs t) : ∃ a' c' a c, vs = [.int .i64 t.k, .int .i64 t.n, .slice a' t.ls.length c', .slice a t.ks.length c] := by
  cases n with
  | zero => exact h.elim
  | succ n =>
    obtain ⟨u, v, rfl, -, -, h5, h4⟩ := h
    obtain ⟨a, c, rfl, -⟩ := TAtL.form h4
    obtain ⟨a', c', rfl, -⟩ := h5.form
    exact ⟨a', c', a, c, rfl⟩
abbrev Any : Nat → Prop := fun _ => True
theorem TAt.any {w : World} {K : Nat → Prop} {n : Nat} {vs : List Value} {t : Tt} (h : TAt w K n vs t) : TAt w Any n vs t := h.move (Keeps.refl _ _) fun _ _ => trivial
theorem TAtL.any {w : World} {K : Nat → Prop} {n : Nat} {v : Value} {l : List Tt} (h : TAtL w K n v l) : TAtL w Any n v l := h.move (Keeps.refl _ _) fun _ _ => trivial
theorem Sl.below {w w' : World} {K : Nat → Prop} {v : Value} {l : List ByteArray} (h : Sl w K v l) (hb : Below w.heap.size w w') : Sl w' K v l := h.move (Keeps.of_below hb) fun _ h => h
theorem TAt.below {w w' : World} {K : Nat → Prop} {n : Nat} {vs : List Value} {t : Tt} (h : TAt w K n vs t) (hb : Below w.heap.size w w') : TAt w' K n vs t := h.move (Keeps.of_below hb) fun _ h => h
theorem TAtL.below {w w' : World} {K : Nat → Prop} {n : Nat} {v : Value} {l : List Tt} (h : TAtL w K n v l) (hb : Below w.heap.size w w') : TAtL w' K n v l := h.move (Keeps.of_below hb) fun _ h => h
theorem bl_alloc {w w1 : World} (h : Below w.heap.size w w1) (o : Obj) : Below w.heap.size w (w1.alloc o) := h.alloc h.size o
theorem bl_tr {w w1 w2 : World} (h : Below w.heap.size w w1) (h2 : Below w1.heap.size w1 w2) : Below w.heap.size w w2 := h.trans (h2.mono h.size)
theorem bl_drewN (w : World) (n : Nat) : Below w.heap.size w (w.drewN n) := by
  induction n with
  | zero => exact Below.refl _ _
  | succ k ih => exact ih.drew
theorem heap_alloc_at (w : World) (o : Obj) : (w.alloc o).heap[w.heap.size]? = some o := by
  show (w.heap.push o)[w.heap.size]? = some o
  rw [Array.getElem?_push_size]
theorem cell_at {w : World} {b : Nat} {cs : Array Value} {T : TypeId} {z : Nat × Nat} (h : w.heap[b]? = some (.cells cs T z)) (j : Nat) : w.cell? ⟨b, j, none⟩ = cs[j]? := by simp [World.cell?, h]
theorem size_alloc (w : World) (o : Obj) : (w.alloc o).heap.size = w.heap.size + 1 := by simp
/-- What blocks below a number abide. -/
theorem Keeps.lt {B : Nat} {w w' : World} (h : Below B w w') : Keeps (fun b => b < B) w w' := fun b o v hb hv => (h.cell (p := ⟨b, o, none⟩) hb).trans hv
theorem PAt.move {w w' : World} {K K' : Nat → Prop} {n b o : Nat} {t : Tt} (h : PAt w K n b o t) (hk : Keeps K w w') (hK : ∀ b, K b → K' b) : PAt w' K' n b o t := by
  obtain ⟨h0, vs, h1, h2⟩ := h
  exact ⟨hK b h0, vs, fun j v hv => hk b _ _ h0 (h1 j v hv), h2.move hk hK⟩
theorem PAt.le {w : World} {K : Nat → Prop} {n m b o : Nat} {t : Tt} (h : PAt w K n b o t) (hm : n ≤ m) : PAt w K m b o t := by
  obtain ⟨h0, vs, h1, h2⟩ := h
  exact ⟨h0, vs, h1, h2.le hm⟩
/-- What lies at the place. -/
theorem PAt.cells {w : World} {K : Nat → Prop} {n b o : Nat} {t : Tt} (h : PAt w K (n + 1) b o t) : ∃ a' c' a c, w.cell? ⟨b, o, none⟩ = some (.int .i64 t.k) ∧ w.cell? ⟨b, o + 1, none⟩ = some (.int .i64 t.n) ∧ w.cell? ⟨b, o + 2, none⟩ = some (.slice a' t.ls.length c') ∧ w.cell? ⟨b, o + 3, none⟩ = some (.slice a t.ks.length c) ∧ R64 t.k ∧ R64 t.n ∧ Sl w K (.slice a' t.ls.length c') t.ls ∧ TAtL w K n (.slice a t.ks.length c) t.ks := by
  obtain ⟨h0, vs, h1, u, v, rfl, h3, h4, h5, h6⟩ := h
  obtain ⟨a, c, rfl, -⟩ := TAtL.form h6
  obtain ⟨a', c', rfl, -⟩ := h5.form
  exact ⟨a', c', a, c, h1 0 _ rfl, h1 1 _ rfl, h1 2 _ rfl, h1 3 _ rfl, h3, h4, h5, h6⟩
theorem PAt.pos {w : World} {K : Nat → Prop} {n b o : Nat} {t : Tt} (h : PAt w K n b o t) : ∃ m, n = m + 1 := by
  cases n with
  | zero => obtain ⟨-, vs, -, h⟩ := h; exact h.elim
  | succ m => exact ⟨m, rfl⟩
theorem PAt.lt {w : World} {K : Nat → Prop} {n b o : Nat} {t : Tt} (h : PAt w K n b o t) : b < w.heap.size := by
  obtain ⟨m, rfl⟩ := h.pos
  obtain ⟨-, -, -, -, h1, -⟩ := h.cells
  exact World.block_lt_of_cell? w _ h1
/-- The i-th element of a slice of types: where it lies. -/
theorem TAtL.elem {w : World} {K : Nat → Prop} {n : Nat} {a : Option Addr} {c m : Nat} {l : List Tt} (h : TAtL w K n (.slice a m c) l) {i : Nat} {x : Tt} (hx : l[i]? = some x) : ∃ b o, a = some ⟨b, o, none⟩ ∧ PAt w K n b (o + i * 4) x := by
  rcases h with ⟨b', o', c', hv, hb, hl, hm, hc⟩ | ⟨rfl, -⟩
  · injection hv with e1 e2 e3
    obtain ⟨vs, h1, h2⟩ := hc i x hx
    exact ⟨b', o', e1, hb, vs, h1, h2⟩
  · simp at hx
theorem PAt.box {w : World} {K : Nat → Prop} {n : Nat} {vs : List Value} {t : Tt} (h : TAt w K n vs t) (T : TypeId) (hK : K w.heap.size) : PAt (w.alloc (.cells vs.toArray T)) K n w.heap.size 0 t := by
  refine ⟨hK, vs, fun j v hv => ?_, h.below (bl_alloc (Below.refl _ _) _)⟩
  rw [cell_at (heap_alloc_at _ _), Nat.zero_add]
  simpa using hv

/-- What a step leaves alone: every block but those of own; new ones may be its own. -/
structure Ev (own : Nat → Prop) (w : World) (own' : Nat → Prop) (w' : World) : Prop where
  os : w'.os = w.os
  tape : w'.tape = w.tape
  output : w'.output = w.output
  size : w.heap.size ≤ w'.heap.size
  mine : ∀ b, own' b → own b ∨ w.heap.size ≤ b
  block : ∀ b, b < w.heap.size → ¬ own b → w'.heap[b]? = w.heap[b]?
theorem Ev.refl (own : Nat → Prop) (w : World) : Ev own w own w := ⟨rfl, rfl, rfl, Nat.le_refl _, fun _ h => .inl h, fun _ _ _ => rfl⟩
theorem Ev.trans {o0 o1 o2 : Nat → Prop} {a b c : World} (h : Ev o0 a o1 b) (k : Ev o1 b o2 c) : Ev o0 a o2 c :=
  ⟨k.os.trans h.os, k.tape.trans h.tape, k.output.trans h.output, Nat.le_trans h.size k.size,
   fun x hx => (k.mine x hx).elim (h.mine x) (fun h2 => .inr (Nat.le_trans h.size h2)),
   fun x hx hn => (k.block x (Nat.lt_of_lt_of_le hx h.size) (fun h1 => (h.mine x h1).elim hn (fun h2 => by omega))).trans (h.block x hx hn)⟩
theorem Ev.of_below {own : Nat → Prop} {w w' : World} (h : Below w.heap.size w w') : Ev own w own w' := ⟨h.os, h.tape, h.output, h.size, fun _ h => .inl h, fun x hx _ => h.block x hx⟩
theorem Ev.alloc {own o1 : Nat → Prop} {w w1 : World} (h : Ev own w o1 w1) (o : Obj) : Ev own w o1 (w1.alloc o) := h.trans (Ev.of_below (bl_alloc (Below.refl _ _) o))
theorem Ev.drew {own o1 : Nat → Prop} {w w1 : World} (h : Ev own w o1 w1) : Ev own w o1 w1.drew := h.trans (Ev.of_below (Below.refl _ _).drew)
theorem Ev.below {own : Nat → Prop} {w w' : World} {own' : Nat → Prop} {B : Nat} (h : Ev own w own' w') (hB : B ≤ w.heap.size) (ho : ∀ b, own b → B ≤ b) : Below B w w' :=
  ⟨h.os, h.tape, h.output, h.size, fun k hk => h.block k (by omega) (fun hq => by have := ho k hq; omega)⟩
theorem Ev.cell {own : Nat → Prop} {w w' : World} {own' : Nat → Prop} (h : Ev own w own' w') {p : Addr} (hp : p.block < w.heap.size) (hn : ¬ own p.block) : w'.cell? p = w.cell? p := World.cell?_of_block (w := w) (h.block p.block hp hn)
/-- The blocks that w has and that are not in own. -/
def Free (own : Nat → Prop) (w : World) : Nat → Prop := fun b => b < w.heap.size ∧ ¬ own b
theorem Ev.keeps {own : Nat → Prop} {w w' : World} {own' : Nat → Prop} (h : Ev own w own' w') : Keeps (Free own w) w w' := fun b o v hb hv => (h.cell (p := ⟨b, o, none⟩) hb.1 hb.2).trans hv

theorem Sl.old {w : World} {K : Nat → Prop} {v : Value} {l : List ByteArray} (h : Sl w K v l) : Sl w (fun b => K b ∧ b < w.heap.size) v l := by
  rcases h with ⟨b, o, c, hv, hb, hl, hm, hc⟩ | h
  · cases l with
    | nil => exact .inr ⟨rfl, _, _, hv⟩
    | cons s r => exact .inl ⟨b, o, c, hv, ⟨hb, World.block_lt_of_cell? w _ (hc 0 s rfl)⟩, hl, hm, hc⟩
  · exact .inr h
theorem TAt.old {w : World} {K : Nat → Prop} : ∀ {n : Nat} {vs : List Value} {t : Tt}, TAt w K n vs t → TAt w (fun b => K b ∧ b < w.heap.size) n vs t
  | 0, _, _, h => h
  | n + 1, vs, t, ⟨u, v, h1, h2, h3, h5, h4⟩ => by
    refine ⟨u, v, h1, h2, h3, h5.old, ?_⟩
    rcases h4 with ⟨b, o, c, hv, hb, hl, hm, hc⟩ | h4
    · cases hks : t.ks with
      | nil => exact .inr ⟨rfl, _, _, by rw [hv, hks]; rfl⟩
      | cons x r =>
        rw [hks] at hv hl hm hc
        refine .inl ⟨b, o, c, hv, ⟨hb, ?_⟩, hl, hm, fun i y hy => ?_⟩
        · obtain ⟨vs', g1, g2⟩ := hc 0 x rfl
          obtain ⟨a', c', a, c2, rfl⟩ := g2.form
          exact World.block_lt_of_cell? w _ (g1 0 _ rfl)
        · obtain ⟨vs', g1, g2⟩ := hc i y hy
          exact ⟨vs', g1, TAt.old g2⟩
    · exact .inr h4
end Go.Proofs.YtigliglmejkakaaGreat.Tgt
