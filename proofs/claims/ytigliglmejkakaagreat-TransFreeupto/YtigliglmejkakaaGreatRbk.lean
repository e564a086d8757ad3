/- Str, Abs: what record and hidden answer. DERIVED: THE SHELF's CONTRACTS AT THIS DUMP, IN PLAIN WORDS (tools/lay-plain.mjs out of 'TryzCutShelfKeys.lean', which tools/lay-shelf.mjs wrote): THE SAME DECLARATIONS UNDER THE SAME NAMES: 'import', 'namespace', 'open', 'def', 'theorem' AND NOTHING ELSE: no command of the shelf's: FOR A HAND-IN. Each laying: the table of numbers ('.._ren') and one theorem, a field a fact of the dump's own or the kernel's comparison; each contract: ONE APPLICATION. -/
import Derived.Shelf.SlIterI.Nil
import Derived.Shelf.SortM.Plain
import Derived.Shelf.SortM.SortNone
import Derived.Ground.GgzProg
import Derived.Ground.SlgmProg
import Derived.Test.YtigliglmejkakaaGreatProg
import Derived.Test.YtigliglmejkakaaGreatRbj
namespace Go.Proofs.YtigliglmejkakaaGreat
open Go.RowKit Go.Shelf Go.Sort
set_option linter.unusedVariables false
set_option linter.unusedSimpArgs false

set_option maxHeartbeats 1000000 in
set_option maxRecDepth 100000 in
theorem Str_of (w : World) (v0 v1 v2 v3 v4 : Value) (a : An) (HR : ∀ wz pb po, Below w.heap.size w wz → Cells wz pb po [v0, v1, v2, v3, v4] → Calls Tryz.prog 43 #[.pointer (some ⟨pb, po, none⟩)] wz (AnsOf wz a)) :
    Calls Tryz.prog 18 #[.agg #[v0, v1, v2, v3, v4]] w (AnsOf w a) := by
  have HB2 : Hid (Below w.heap.size w ((w.alloc (.cells #[v0, v1, v2, v3, v4] 49)).alloc (.cells #[.int .i64 0, .int .i64 0, .slice none 0 0, .slice none 0 0] 28))) := bl_alloc (bl_alloc (Below.refl _ _) _) _
  have X2 : Hid (Arr ((w.alloc (.cells #[v0, v1, v2, v3, v4] 49)).alloc (.cells #[.int .i64 0, .int .i64 0, .slice none 0 0, .slice none 0 0] 28)) w.heap.size 49 [v0, v1, v2, v3, v4]) := Arr.stays ⟨heap_alloc_at _ _⟩ (bl_alloc (Below.refl _ _) _)
  have Y2 : Hid (Arr ((w.alloc (.cells #[v0, v1, v2, v3, v4] 49)).alloc (.cells #[.int .i64 0, .int .i64 0, .slice none 0 0, .slice none 0 0] 28)) (w.heap.size + 1) 28 [.int .i64 0, .int .i64 0, .slice none 0 0, .slice none 0 0]) := ⟨by have := heap_alloc_at (w.alloc (.cells #[v0, v1, v2, v3, v4] 49)) (.cells #[.int .i64 0, .int .i64 0, .slice none 0 0, .slice none 0 0] 28); rw [size_alloc] at this; exact this⟩
  have HQ := hid (HR ((w.alloc (.cells #[v0, v1, v2, v3, v4] 49)).alloc (.cells #[.int .i64 0, .int .i64 0, .slice none 0 0, .slice none 0 0] 28)) w.heap.size 0 HB2.out (fun j u hu => by have := X2.out.cell j; rw [hu] at this; rw [Nat.zero_add]; exact this))
  have HSS : Hid (∀ (W : World) i u, Below w.heap.size w W → Below w.heap.size w (W.setCell ⟨w.heap.size + 1, i, none⟩ u)) := fun W i u h => bl_set _ _ h (by show _ ≤ w.heap.size + 1; omega)
  clear HR
  go_enter Tryz.func18, Tryz.ntmps18
  go_wp2_with (go_at_call 43; refine HQ.out.mono ?_; rintro e w3 ⟨⟨p', q', p, q, N, rfl, hT⟩, b3⟩; have HB3 := hid (bl_tr HB2.out b3); have r3 := (Y2.out.stays b3).cell; have s3 := (Y2.out.stays b3).frozen; have HT := hid hT; clear b3 hT)
  refine bodyPost_ret (v := .tuple #[.agg #[.int .i64 a.1.k, .int .i64 a.1.n, .slice p' a.1.ls.length q', .slice p a.1.ks.length q], .int .i64 a.2]) (by rw [results_cell2t (fn := Tryz.f18) (p := 2) (a := 3) (ty := 28) (by kernel_rfl)]; simp [go_sem, r3, s3]) rfl ?_
  have hK : ∀ (W : World) i u, Tgt.Keeps (fun b => w.heap.size + 2 ≤ b) W (W.setCell ⟨w.heap.size + 1, i, none⟩ u) := fun W i u b o v hb hv => by have hb : w.heap.size + 2 ≤ b := hb; rw [World.cell?_of_block (w := W) (Below.heap_setCell _ _ _ _ (by show b ≠ w.heap.size + 1; omega))]; exact hv
  have HT2 : Tgt.TAt w3 (fun b => w.heap.size + 2 ≤ b) N [.int .i64 a.1.k, .int .i64 a.1.n, .slice p' a.1.ls.length q', .slice p a.1.ks.length q] a.1 := HT.out.move (Tgt.Keeps.refl _ _) (fun b hb => by have hb : ((w.alloc (.cells #[v0, v1, v2, v3, v4] 49)).alloc (.cells #[.int .i64 0, .int .i64 0, .slice none 0 0, .slice none 0 0] 28)).heap.size ≤ b := hb; rw [size_alloc, size_alloc] at hb; exact hb)
  exact ⟨⟨p', q', p, q, N, rfl, HT2.move (((hK _ _ _).trans (hK _ _ _)).trans ((hK _ _ _).trans (hK _ _ _))) (fun b hb => by have hb : w.heap.size + 2 ≤ b := hb; show w.heap.size ≤ b; omega)⟩, HSS.out _ _ _ (HSS.out _ _ _ (HSS.out _ _ _ (HSS.out _ _ _ HB3.out)))⟩

set_option maxHeartbeats 1000000 in
set_option maxRecDepth 100000 in
theorem Abs_of (w : World) (u0 v0 v1 v2 v3 v4 : Value) (a : An) (HR : ∀ wz pb po, Below w.heap.size w wz → Cells wz pb po [u0, v0, v1, v2, v3, v4] → Calls Tryz.prog 42 #[.pointer (some ⟨pb, po, none⟩)] wz (AnsOf wz a)) :
    Calls Tryz.prog 17 #[.agg #[u0, v0, v1, v2, v3, v4]] w (AnsOf w a) := by
  have HB2 : Hid (Below w.heap.size w ((w.alloc (.cells #[u0, v0, v1, v2, v3, v4] 51)).alloc (.cells #[.int .i64 0, .int .i64 0, .slice none 0 0, .slice none 0 0] 28))) := bl_alloc (bl_alloc (Below.refl _ _) _) _
  have X2 : Hid (Arr ((w.alloc (.cells #[u0, v0, v1, v2, v3, v4] 51)).alloc (.cells #[.int .i64 0, .int .i64 0, .slice none 0 0, .slice none 0 0] 28)) w.heap.size 51 [u0, v0, v1, v2, v3, v4]) := Arr.stays ⟨heap_alloc_at _ _⟩ (bl_alloc (Below.refl _ _) _)
  have Y2 : Hid (Arr ((w.alloc (.cells #[u0, v0, v1, v2, v3, v4] 51)).alloc (.cells #[.int .i64 0, .int .i64 0, .slice none 0 0, .slice none 0 0] 28)) (w.heap.size + 1) 28 [.int .i64 0, .int .i64 0, .slice none 0 0, .slice none 0 0]) := ⟨by have := heap_alloc_at (w.alloc (.cells #[u0, v0, v1, v2, v3, v4] 51)) (.cells #[.int .i64 0, .int .i64 0, .slice none 0 0, .slice none 0 0] 28); rw [size_alloc] at this; exact this⟩
  have HQ := hid (HR ((w.alloc (.cells #[u0, v0, v1, v2, v3, v4] 51)).alloc (.cells #[.int .i64 0, .int .i64 0, .slice none 0 0, .slice none 0 0] 28)) w.heap.size 0 HB2.out (fun j u hu => by have := X2.out.cell j; rw [hu] at this; rw [Nat.zero_add]; exact this))
  have HSS : Hid (∀ (W : World) i u, Below w.heap.size w W → Below w.heap.size w (W.setCell ⟨w.heap.size + 1, i, none⟩ u)) := fun W i u h => bl_set _ _ h (by show _ ≤ w.heap.size + 1; omega)
  clear HR
  go_enter Tryz.func17, Tryz.ntmps17
  go_wp2_with (go_at_call 42; refine HQ.out.mono ?_; rintro e w3 ⟨⟨p', q', p, q, N, rfl, hT⟩, b3⟩; have HB3 := hid (bl_tr HB2.out b3); have r3 := (Y2.out.stays b3).cell; have s3 := (Y2.out.stays b3).frozen; have HT := hid hT; clear b3 hT)
  refine bodyPost_ret (v := .tuple #[.agg #[.int .i64 a.1.k, .int .i64 a.1.n, .slice p' a.1.ls.length q', .slice p a.1.ks.length q], .int .i64 a.2]) (by rw [results_cell2t (fn := Tryz.f17) (p := 2) (a := 3) (ty := 28) (by kernel_rfl)]; simp [go_sem, r3, s3]) rfl ?_
  have hK : ∀ (W : World) i u, Tgt.Keeps (fun b => w.heap.size + 2 ≤ b) W (W.setCell ⟨w.heap.size + 1, i, none⟩ u) := fun W i u b o v hb hv => by have hb : w.heap.size + 2 ≤ b := hb; rw [World.cell?_of_block (w := W) (Below.heap_setCell _ _ _ _ (by show b ≠ w.heap.size + 1; omega))]; exact hv
  have HT2 : Tgt.TAt w3 (fun b => w.heap.size + 2 ≤ b) N [.int .i64 a.1.k, .int .i64 a.1.n, .slice p' a.1.ls.length q', .slice p a.1.ks.length q] a.1 := HT.out.move (Tgt.Keeps.refl _ _) (fun b hb => by have hb : ((w.alloc (.cells #[u0, v0, v1, v2, v3, v4] 51)).alloc (.cells #[.int .i64 0, .int .i64 0, .slice none 0 0, .slice none 0 0] 28)).heap.size ≤ b := hb; rw [size_alloc, size_alloc] at hb; exact hb)
  exact ⟨⟨p', q', p, q, N, rfl, HT2.move (((hK _ _ _).trans (hK _ _ _)).trans ((hK _ _ _).trans (hK _ _ _))) (fun b hb => by have hb : w.heap.size + 2 ≤ b := hb; show w.heap.size ≤ b; omega)⟩, HSS.out _ _ _ (HSS.out _ _ _ (HSS.out _ _ _ (HSS.out _ _ _ HB3.out)))⟩
end Go.Proofs.YtigliglmejkakaaGreat

namespace Go.Proofs
open Go.Shelf
def Tryz.keysA_ren : Go.Shelf.Ren := ⟨fun | 7 => 37 | 10 => 78 | n => n, fun | 23 => 106 | 26 => 3 | 3 => 107 | 28 => 104 | 0 => 0 | 27 => 103 | 33 => 122 | 4 => 4 | n => n, fun | n => n⟩
theorem Tryz.keysA : Go.Proofs.SlLaysZI.n7 Tryz.prog Tryz.keysA_ren := {
  mixed := by kernel_rfl
  f7 := ⟨Tryz.f37.name, by decide, Tryz.func37.trans (congrArg some (by kernel_rfl))⟩
  f10 := ⟨Tryz.f78.name, by decide, Tryz.func78.trans (congrArg some (by kernel_rfl))⟩
  t0 := Tryz.underlying0
  a0 := Tryz.isAgg0
  z0 := Tryz.sizeOf0
  v0 := Tryz.zeroValue0
  t4 := Tryz.underlying4
  a4 := Tryz.isAgg4
  z4 := Tryz.sizeOf4
  v4 := Tryz.zeroValue4
  t23 := Tryz.underlying106
  a23 := Tryz.isAgg106
  z23 := Tryz.sizeOf106
  v23 := Tryz.zeroValue106
  t26 := Tryz.underlying3
  a26 := Tryz.isAgg3
  z26 := Tryz.sizeOf3
  v26 := Tryz.zeroValue3
  t27 := Tryz.underlying103
  a27 := Tryz.isAgg103
  z27 := Tryz.sizeOf103
  v27 := Tryz.zeroValue103
  t28 := Tryz.underlying104
  a28 := Tryz.isAgg104
  z28 := Tryz.sizeOf104
  v28 := Tryz.zeroValue104
  t33 := Tryz.underlying122
  a33 := Tryz.isAgg122
  z33 := Tryz.sizeOf122
  v33 := Tryz.zeroValue122 }
def Tryz.sortedA_ren : Go.Shelf.Ren := ⟨fun | 6 => 36 | 8 => 76 | 9 => 77 | 11 => 101 | 13 => 103 | 12 => 102 | 23 => 122 | 24 => 123 | 14 => 113 | 15 => 114 | 16 => 115 | 17 => 116 | 18 => 117 | 19 => 118 | 20 => 119 | 21 => 120 | 22 => 121 | 25 => 138 | 26 => 139 | 27 => 140 | 28 => 141 | 29 => 142 | 30 => 95 | 31 => 152 | n => n, fun | 26 => 3 | 28 => 104 | 24 => 38 | 0 => 0 | 3 => 3 | 37 => 190 | 48 => 212 | 50 => 214 | 4 => 4 | 40 => 205 | 39 => 204 | 45 => 170 | 5 => 5 | 9 => 9 | 51 => 234 | 55 => 238 | 57 => 245 | 58 => 246 | 33 => 122 | n => n, fun | n => n⟩
theorem Tryz.sortedA : Go.Proofs.SlLaysZI.n6 Tryz.prog Tryz.sortedA_ren := {
  mixed := by kernel_rfl
  f6 := ⟨Tryz.f36.name, by decide, Tryz.func36.trans (congrArg some (by kernel_rfl))⟩
  f8 := ⟨Tryz.f76.name, by decide, Tryz.func76.trans (congrArg some (by kernel_rfl))⟩
  f11 := ⟨Tryz.f101.name, by decide, Tryz.func101.trans (congrArg some (by kernel_rfl))⟩
  t0 := Tryz.underlying0
  a0 := Tryz.isAgg0
  z0 := Tryz.sizeOf0
  v0 := Tryz.zeroValue0
  t24 := Tryz.underlying38
  a24 := Tryz.isAgg38
  z24 := Tryz.sizeOf38
  v24 := Tryz.zeroValue38
  t26 := Tryz.underlying3
  a26 := Tryz.isAgg3
  z26 := Tryz.sizeOf3
  v26 := Tryz.zeroValue3
  t28 := Tryz.underlying104
  a28 := Tryz.isAgg104
  z28 := Tryz.sizeOf104
  v28 := Tryz.zeroValue104
  i26 := by kernel_rfl }
def Tryz.sortA_ren : Go.Shelf.Ren := ⟨fun | 5 => 77 | 8 => 103 | 7 => 102 | 19 => 122 | 20 => 123 | 10 => 113 | 11 => 114 | 12 => 115 | 13 => 116 | 14 => 117 | 15 => 118 | 16 => 119 | 17 => 120 | 18 => 121 | 30 => 138 | 31 => 139 | 32 => 140 | 33 => 141 | 34 => 142 | 35 => 95 | 40 => 152 | n => n, fun | 23 => 38 | 25 => 3 | 3 => 3 | 32 => 190 | 22 => 38 | 0 => 0 | 44 => 212 | 46 => 214 | 4 => 4 | 36 => 205 | 35 => 204 | 41 => 170 | 5 => 5 | 9 => 9 | 53 => 234 | 57 => 238 | 63 => 245 | 64 => 246 | n => n, fun | n => n⟩
theorem Tryz.sortA : Go.Proofs.SlLaysM.n5 Tryz.prog Tryz.sortA_ren := {
  mixed := by kernel_rfl
  f5 := ⟨Tryz.f77.name, by decide, Tryz.func77.trans (congrArg some (by kernel_rfl))⟩
  f7 := ⟨Tryz.f102.name, by decide, Tryz.func102.trans (congrArg some (by kernel_rfl))⟩
  f8 := Tryz.func103.trans (congrArg some (by kernel_rfl))
  f10 := ⟨Tryz.f113.name, by decide, Tryz.func113.trans (congrArg some (by kernel_rfl))⟩
  f11 := ⟨Tryz.f114.name, by decide, Tryz.func114.trans (congrArg some (by kernel_rfl))⟩
  f12 := ⟨Tryz.f115.name, by decide, Tryz.func115.trans (congrArg some (by kernel_rfl))⟩
  f13 := ⟨Tryz.f116.name, by decide, Tryz.func116.trans (congrArg some (by kernel_rfl))⟩
  f14 := ⟨Tryz.f117.name, by decide, Tryz.func117.trans (congrArg some (by kernel_rfl))⟩
  f15 := ⟨Tryz.f118.name, by decide, Tryz.func118.trans (congrArg some (by kernel_rfl))⟩
  f16 := ⟨Tryz.f119.name, by decide, Tryz.func119.trans (congrArg some (by kernel_rfl))⟩
  f17 := ⟨Tryz.f120.name, by decide, Tryz.func120.trans (congrArg some (by kernel_rfl))⟩
  f18 := ⟨Tryz.f121.name, by decide, Tryz.func121.trans (congrArg some (by kernel_rfl))⟩
  f19 := Tryz.func122.trans (congrArg some (by kernel_rfl))
  f20 := Tryz.func123.trans (congrArg some (by kernel_rfl))
  f30 := ⟨Tryz.f138.name, by decide, Tryz.func138.trans (congrArg some (by kernel_rfl))⟩
  f31 := Tryz.func139.trans (congrArg some (by kernel_rfl))
  f32 := Tryz.func140.trans (congrArg some (by kernel_rfl))
  f33 := ⟨Tryz.f141.name, by decide, Tryz.func141.trans (congrArg some (by kernel_rfl))⟩
  f34 := ⟨Tryz.f142.name, by decide, Tryz.func142.trans (congrArg some (by kernel_rfl))⟩
  f35 := ⟨Tryz.f95.name, by decide, Tryz.func95.trans (congrArg some (by kernel_rfl))⟩
  f40 := ⟨Tryz.f152.name, by decide, Tryz.func152.trans (congrArg some (by kernel_rfl))⟩
  t0 := Tryz.underlying0
  a0 := Tryz.isAgg0
  z0 := Tryz.sizeOf0
  v0 := Tryz.zeroValue0
  t3 := Tryz.underlying3
  a3 := Tryz.isAgg3
  z3 := Tryz.sizeOf3
  v3 := Tryz.zeroValue3
  t4 := Tryz.underlying4
  a4 := Tryz.isAgg4
  z4 := Tryz.sizeOf4
  v4 := Tryz.zeroValue4
  t5 := Tryz.underlying5
  a5 := Tryz.isAgg5
  z5 := Tryz.sizeOf5
  v5 := Tryz.zeroValue5
  t9 := Tryz.underlying9
  a9 := Tryz.isAgg9
  z9 := Tryz.sizeOf9
  v9 := Tryz.zeroValue9
  t22 := Tryz.underlying38
  a22 := Tryz.isAgg38
  z22 := Tryz.sizeOf38
  v22 := Tryz.zeroValue38
  t23 := Tryz.underlying38
  a23 := Tryz.isAgg38
  z23 := Tryz.sizeOf38
  v23 := Tryz.zeroValue38
  t25 := Tryz.underlying3
  a25 := Tryz.isAgg3
  z25 := Tryz.sizeOf3
  v25 := Tryz.zeroValue3
  t32 := Tryz.underlying190
  a32 := Tryz.isAgg190
  z32 := Tryz.sizeOf190
  v32 := Tryz.zeroValue190
  t35 := Tryz.underlying204
  a35 := Tryz.isAgg204
  z35 := Tryz.sizeOf204
  v35 := Tryz.zeroValue204
  t36 := Tryz.underlying205
  a36 := Tryz.isAgg205
  z36 := Tryz.sizeOf205
  v36 := Tryz.zeroValue205
  t41 := Tryz.underlying170
  a41 := Tryz.isAgg170
  z41 := Tryz.sizeOf170
  v41 := Tryz.zeroValue170
  t44 := Tryz.underlying212
  a44 := Tryz.isAgg212
  z44 := Tryz.sizeOf212
  v44 := Tryz.zeroValue212
  t46 := Tryz.underlying214
  a46 := Tryz.isAgg214
  z46 := Tryz.sizeOf214
  v46 := Tryz.zeroValue214
  t53 := Tryz.underlying234
  a53 := Tryz.isAgg234
  z53 := Tryz.sizeOf234
  v53 := Tryz.zeroValue234
  t57 := Tryz.underlying238
  a57 := Tryz.isAgg238
  z57 := Tryz.sizeOf238
  v57 := Tryz.zeroValue238
  t63 := Tryz.underlying245
  a63 := Tryz.isAgg245
  z63 := Tryz.sizeOf245
  v63 := Tryz.zeroValue245
  t64 := Tryz.underlying246
  a64 := Tryz.isAgg246
  z64 := Tryz.sizeOf246
  v64 := Tryz.zeroValue246 }
end Go.Proofs
