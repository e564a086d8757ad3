/- A scope's own: depth, find, bind. -/
import Derived.Carry
import Derived.Test.YtigliglmejkakaaGreatRaq
namespace Go.Proofs.YtigliglmejkakaaGreat.Tgt
open Go.RowKit
set_option linter.unusedVariables false
set_option linter.unusedSimpArgs false

/-- What a scope in block M may write. -/
def Om (M : Nat) (mv lv : Value) : Nat → Prop := fun b => b = M ∨ Os mv lv b
theorem Scp.look {w : World} {B : Nat} {mv lv : Value} {e : List (Int × Int)} {n : Nat} (h : Scp w B mv lv e n) (x : Int) (hx : R64 x) : (Instr.lookup IM mv (.int .i64 x) true).run Tryz.prog w = .ok (.tuple #[.int .i64 ((lk e x).getD 0), .bool (lk e x).isSome]) w := by
  rcases h.map with ⟨rfl, rfl⟩ | ⟨C, rfl, h1, h2⟩
  · exact Maps.look_nil true int_key Tryz.underlying72 (zero_int w) (Maps.keyOf_int_mk Tryz.underlying3 (wf_of hx))
  · exact h2.look x hx

set_option maxHeartbeats 1000000 in
set_option maxRecDepth 100000 in
theorem depth_any (w : World) (M o : Nat) (T : TypeId) (vs : List Value) (a : Option Addr) (k c : Nat) (hA : Arr w M T vs) (h1 : vs[o + 1]? = some (.slice a k c)) : Calls Tryz.prog 72 #[.pointer (some ⟨M, o, none⟩)] w fun e w' => e = .returned (.int .i64 k) ∧ w' = w := by
  have c1 := (hA.cell (o + 1)).trans h1
  clear hA h1
  go_enter Tryz.func72, Tryz.ntmps72
  go_wp2
  go_ret
  exact ⟨rfl, rfl⟩

set_option maxHeartbeats 1000000 in
set_option maxRecDepth 100000 in
theorem depthS_any (w : World) (M o : Nat) (T : TypeId) (vs : List Value) (a : Option Addr) (k c : Nat) (hA : Arr w M T vs) (h1 : vs[o + 1]? = some (.slice a k c)) : Calls Tryz.prog 112 #[.pointer (some ⟨M, o, none⟩)] w fun e w' => e = .returned (.int .i64 k) ∧ w' = w := by
  have c1 := (hA.cell (o + 1)).trans h1
  clear hA h1
  go_enter Tryz.func112, Tryz.ntmps112
  go_wp2
  go_ret
  exact ⟨rfl, rfl⟩

set_option maxHeartbeats 1000000 in
set_option maxRecDepth 100000 in
theorem find_any (w : World) (M o B : Nat) (T : TypeId) (vs : List Value) (mv lv : Value) (e : List (Int × Int)) (n : Nat) (x : Int) (hx : R64 x) (hA : Arr w M T vs) (h1 : vs[o]? = some mv) (hS : Scp w B mv lv e n) : Calls Tryz.prog 98 #[.pointer (some ⟨M, o, none⟩), .int .i64 x] w fun r w' => r = .returned (.tuple #[.int .i64 ((lk e x).getD 0), .bool (lk e x).isSome]) ∧ w' = w := by
  have c1 := (hA.cell o).trans h1
  have q1 := hS.look x hx
  clear hA h1 hS
  go_enter Tryz.func98, Tryz.ntmps98
  go_wp2
  go_ret2
  exact ⟨rfl, rfl⟩
theorem eql_map_nil (w : World) (mb : Option Nat) : (binOp .eql IM (.map mb) (.map none)).run Tryz.prog w = .ok (.bool mb.isNone) w := by
  cases mb
  · kernel_rfl
  · kernel_rfl
theorem info_hid : (Tryz.prog.info? HT).map (fun i => (i.zero, i.size, i.bytes)) = some (some (.agg #[.int .i64 0, .int .i64 0, .bool false]), 3, 24) := by kernel_rfl
theorem cells3 (w : World) (x y z : Value) (T : TypeId) : ∀ (j : Nat) u, [x, y, z][j]? = some u → (w.alloc (.cells #[x, y, z] T)).cell? ((⟨w.heap.size, 0, none⟩ : Addr).add j) = some u := by
  intro j u hu
  rw [addr_add', cell_at (heap_alloc_at _ _), Nat.zero_add]
  simpa using hu
/-- Binding, behind the map's making. -/
theorem Scp.bound {w : World} {M o B : Nat} {T : TypeId} {vs : List Value} {C : Nat} {lv : Value} {e : List (Int × Int)} {n : Nat} (hA : Arr w M T vs) (h0 : vs[o]? = some (.map (some C))) (h1 : vs[o + 1]? = some lv) (hS : Scp w B (.map (some C)) lv e n) (hM : M < B) (hB : B ≤ w.heap.size) (x y : Int) (hx : R64 x) (hy : R64 y) (hn : n < 4611686018427387904) (he : e.length < 1099511627776) (z : Nat) (hzz : w.heap.size = z) :
    ∃ v' w2 w4, (Builtin.append_ #[73, 73] 73 #[lv, .slice (some ⟨z, 0, none⟩) 1 1]).run Tryz.prog (w.alloc (.cells #[.int .i64 x, .int .i64 ((lk e x).getD 0), .bool (lk e x).isSome] HT)) = .ok v' w2
      ∧ (Instr.mapUpdate IM (.map (some C)) (.int .i64 x) (.int .i64 y)).run Tryz.prog (w2.setCell ⟨M, o + 1, none⟩ v') = .ok () w4
      ∧ Arr w2 M T vs ∧ Arr (w2.setCell ⟨M, o + 1, none⟩ v') M T (vs.set (o + 1) v') ∧ (vs.set (o + 1) v')[o]? = some (.map (some C))
      ∧ (∃ a c, v' = .slice a (e.length + 1) c)
      ∧ Arr w4 M T ((vs.set o (.map (some C))).set (o + 1) v') ∧ Scp w4 B (.map (some C)) v' ((x, y) :: e) (n + 1) ∧ Ev (Om M (.map (some C)) lv) w (Om M (.map (some C)) v') w4 := by
  subst hzz
  obtain ⟨i, hi, hz, hsz, hby⟩ := info_parts0 info_hid
  obtain ⟨v', w2, hr, h2, h3, h4⟩ := append_own2 (P := Tryz.prog) (w.alloc (.cells #[.int .i64 x, .int .i64 ((lk e x).getD 0), .bool (lk e x).isSome] HT)) B 73 73 HT i _ 3 24 Tryz.underlying73 hi hz hsz hby rfl (by decide) lv e.length (hidc e) ((hS.stays (bl_alloc (Below.refl _ _) _)).row) ⟨w.heap.size, 0, none⟩ 1 1 [.int .i64 x, .int .i64 ((lk e x).getD 0), .bool (lk e x).isSome] rfl (cells3 w _ _ _ _) (by simp [Value.oneCell']) (by unfold maxLen; omega) (by omega) (by rw [size_alloc]; omega)
  have hlvM : lv.ownBlock ≠ some M := fun h => by have := (hS.ge (.inr h)).1; omega
  have hlv2 : ∀ b, lv.ownBlock = some b → B ≤ b ∧ b < w.heap.size := fun b h => hS.ge (.inr h)
  have hv2 : ∀ b, v'.ownBlock = some b → B ≤ b ∧ b < w2.heap.size := fun b h => h2.lt b h
  have hCM : C ≠ M := fun h => by have := (hS.ge (b := C) (.inl rfl)).1; omega
  have hCw : B ≤ C ∧ C < w.heap.size := hS.ge (b := C) (.inl rfl)
  obtain ⟨g1, g2, g3, g4, g5⟩ := h3
  rw [size_alloc] at g4
  have hA2 : Arr w2 M T vs := ⟨by
    rw [g5 M (by rw [size_alloc]; have := hA.lt; omega) (fun e => hlvM e.symm), (bl_alloc (Below.refl _ _) _).block M hA.lt]; exact hA.b⟩
  have hm0 : MapIs w C n e := by
    rcases hS.map with ⟨h, -⟩ | ⟨C', h, -, h5⟩
    · cases h
    · injection h with h; injection h with h; subst h; exact h5
  have hCl : lv.ownBlock ≠ some C := fun h => by
    rcases hS.row.2 with ⟨rfl, -⟩ | ⟨g, cap, cur, rfl, -, h6, -⟩
    · cases h
    · injection h with h
      obtain ⟨D, ⟨es, cl, h7, -⟩, -⟩ := hm0
      simp only at h
      rw [h, h7] at h6
      cases h6
  have hm2 : MapIs w2 C n e := hm0.block (by rw [g5 C (by rw [size_alloc]; omega) (fun e => hCl e.symm), (bl_alloc (Below.refl _ _) _).block C hCw.2])
  have hm3 : MapIs (w2.setCell ⟨M, o + 1, none⟩ v') C n e := hm2.block (Below.heap_setCell _ _ _ _ hCM)
  obtain ⟨w4, hr4, hm4, hg4⟩ := hm3.put x y hx hy (by unfold maxLen; omega)
  have hA3 := hA2.set (o + 1) v'
  have hs0 : (vs.set (o + 1) v')[o]? = some (.map (some C)) := by rw [List.getElem?_set_ne (by omega)]; exact h0
  have hv3 : ∀ b, v'.ownBlock = some b → b ≠ M ∧ b ≠ C := fun b hb => ⟨by have := (hv2 b hb).1; omega, fun h => by
    subst h
    rcases h4 with h4 | h4
    · rw [h4] at hb; exact hCl hb
    · have := h4 b hb; rw [size_alloc] at this; omega⟩
  obtain ⟨k1, k2, k3, k4, k5⟩ := hg4
  simp only [World.setCell, Array.size_modify] at k4
  have hA4 : Arr w4 M T (vs.set (o + 1) v') := ⟨by rw [k5 M (by simp only [World.setCell, Array.size_modify]; have := hA2.lt; omega) (fun e => hCM (Option.some.inj e).symm)]; exact hA3.b⟩
  have hvs : vs.set o (.map (some C)) = vs := by
    apply List.ext_getElem?
    intro j
    rw [List.getElem?_set]
    split
    · rename_i h; subst h
      rw [h0]
      have := List.getElem?_eq_some_iff.1 h0
      obtain ⟨h5, -⟩ := this
      simp [h5]
    · rfl
  refine ⟨v', w2, w4, hr, hr4, hA2, hA3, hs0, ?_, by rw [hvs]; exact hA4, ⟨?_, .inr ⟨C, rfl, hCw.1, hm4⟩, ?_⟩, ?_⟩
  · rcases h2.2 with ⟨rfl, h⟩ | ⟨g, cap, cur, rfl, -⟩
    · omega
    · exact ⟨_, _, rfl⟩
  · have : w2.ownsRow B HT 3 v' (((x, y) :: e).length) (hidc ((x, y) :: e)) := h2
    refine own_block this (fun b hb => ?_)
    rw [k5 b (by simp only [World.setCell, Array.size_modify]; exact (hv2 b hb).2) (fun e => (hv3 b hb).2 (Option.some.inj e)), Below.heap_setCell _ _ _ _ (hv3 b hb).1]
  · intro p hp
    rcases List.mem_cons.1 hp with rfl | hp
    · exact ⟨hx, hy⟩
    · exact hS.good p hp
  · refine ⟨k1.trans g1, k2.trans g2, k3.trans g3, by omega, fun b hb => ?_, fun b hb hn => ?_⟩
    · rcases hb with rfl | hb | hb
      · exact .inl (.inl rfl)
      · exact .inl (.inr (.inl hb))
      · rcases h4 with h4 | h4
        · exact .inl (.inr (.inr (by rw [← h4]; exact hb)))
        · have := h4 b hb; rw [size_alloc] at this; exact .inr (by omega)
    · have n1 : b ≠ M := fun e => hn (.inl e)
      have n2 : b ≠ C := fun e => hn (.inr (.inl (by rw [e]; rfl)))
      have n3 : lv.ownBlock ≠ some b := fun e => hn (.inr (.inr e))
      rw [k5 b (by simp only [World.setCell, Array.size_modify]; omega) (fun e => n2 (Option.some.inj e)), Below.heap_setCell _ _ _ _ n1, g5 b (by rw [size_alloc]; omega) (fun e => n3 e.symm), (bl_alloc (Below.refl _ _) _).block b hb]

set_option maxHeartbeats 2000000 in
set_option maxRecDepth 100000 in
theorem bind_any (w : World) (M o B : Nat) (T : TypeId) (vs : List Value) (mv lv : Value) (e : List (Int × Int)) (n : Nat) (x y : Int) (hx : R64 x) (hy : R64 y) (hA : Arr w M T vs) (h0 : vs[o]? = some mv) (h1 : vs[o + 1]? = some lv) (hS : Scp w B mv lv e n) (hM : M < B) (hB : B ≤ w.heap.size) (hn : n < 4611686018427387904) (he : e.length < 1099511627776) :
    Calls Tryz.prog 100 #[.pointer (some ⟨M, o, none⟩), .int .i64 x, .int .i64 y] w fun r w' => r = .returned (.tuple #[]) ∧ ∃ mv' lv', Arr w' M T ((vs.set o mv').set (o + 1) lv') ∧ Scp w' B mv' lv' ((x, y) :: e) (n + 1) ∧ Ev (Om M mv lv) w (Om M mv' lv') w' := by
  have c0 := (hA.cell o).trans h0
  have c1 := (hA.cell (o + 1)).trans h1
  obtain ⟨la, lc, rfl⟩ := hS.form
  rcases hS.map with ⟨rfl, rfl⟩ | ⟨C, rfl, -, -⟩
  · have hmm := @run_makeMap Tryz.prog
    have hnil := fun w => eql_map_nil w none
    have hf : ∀ ob, (w.alloc ob).frozen? ⟨M, o, none⟩ = false := fun ob => (hA.stays (bl_alloc (Below.refl _ _) ob)).frozen o
    have hc : ∀ ob, (w.alloc ob).cell? ⟨M, o, none⟩ = some (.map none) := fun ob => ((hA.stays (bl_alloc (Below.refl _ _) ob)).cell o).trans h0
    have hA1 : Arr ((w.alloc (.map #[] 0)).setCell ⟨M, o, none⟩ (.map (some w.heap.size))) M T (vs.set o (.map (some w.heap.size))) := (hA.stays (bl_alloc (Below.refl _ _) _)).set o _
    have hlen : o < vs.length := (List.getElem?_eq_some_iff.1 h0).1
    have z0 : (vs.set o (.map (some w.heap.size)))[o]? = some (.map (some w.heap.size)) := by rw [List.getElem?_set_self hlen]
    have z1 : (vs.set o (.map (some w.heap.size)))[o + 1]? = some (.slice la 0 lc) := by rw [List.getElem?_set_ne (by omega)]; exact h1
    have hml := hA.lt
    have hS1 : Scp ((w.alloc (.map #[] 0)).setCell ⟨M, o, none⟩ (.map (some w.heap.size))) B (.map (some w.heap.size)) (.slice la 0 lc) [] n := by
      have r1 : (w.alloc (.map #[] 0)).ownsRow B HT 3 (.slice la 0 lc) 0 (hidc []) := (hS.stays (bl_alloc (Below.refl _ _) _)).row
      refine ⟨own_block r1 (fun b hb => ?_), .inr ⟨_, rfl, hB, ?_⟩, hS.good⟩
      · exact Below.heap_setCell _ _ _ _ (by have := (hS.ge (.inr hb)).1; show b ≠ M; omega)
      · exact ((map_new w).block (Below.heap_setCell _ _ _ _ (by show w.heap.size ≠ M; omega))).le (Nat.zero_le _)
    have hE1 : Ev (Om M (.map none) (.slice la 0 lc)) w (Om M (.map (some w.heap.size)) (.slice la 0 lc)) ((w.alloc (.map #[] 0)).setCell ⟨M, o, none⟩ (.map (some w.heap.size))) := by
      refine ⟨rfl, rfl, rfl, by simp [World.setCell], fun b hb => ?_, fun b hb hn => ?_⟩
      · rcases hb with rfl | hb | hb
        · exact .inl (.inl rfl)
        · injection hb with hb; exact .inr (by omega)
        · exact .inl (.inr (.inr hb))
      · rw [Below.heap_setCell _ _ _ _ (fun e => hn (.inl e)), (bl_alloc (Below.refl _ _) _).block b hb]
    have hcm : (w.alloc (.map #[] 0)).setCell ⟨M, o, none⟩ (.map (some w.heap.size)) = (w.setCell ⟨M, o, none⟩ (.map (some w.heap.size))).alloc (.map #[] 0) := by simp [go_sem, hml]
    rw [hcm] at hA1 hS1 hE1
    clear hcm
    have hq := hS1.look x hx
    obtain ⟨v', w2, w4, r1, r2, a2, a3, s0, ⟨va, vc, rfl⟩, a4, s4, ev4⟩ := Scp.bound hA1 z0 z1 hS1 hM (by simp only [World.setCell, Array.size_modify, size_alloc]; omega) x y hx hy hn he (w.heap.size + 1) (by simp only [World.setCell, Array.size_modify, size_alloc])
    have R0 : Hid ((∃ mv' lv', Arr w4 M T ((vs.set o mv').set (o + 1) lv') ∧ Scp w4 B mv' lv' [(x, y)] (n + 1) ∧ Ev (Om M (.map none) (.slice la 0 lc)) w (Om M mv' lv') w4)) := ⟨_, _, by rw [List.set_set] at a4; exact a4, s4, hE1.trans ev4⟩
    have y0 := hA1.cell
    have y1 := a2.frozen
    have y2 := a2.cell
    have y3 := a3.cell
    clear hA h0 h1 hS hA1 hS1 hE1 a2 a3 a4 s4 ev4 hx hy hn he
    go_enter Tryz.func100, Tryz.ntmps100
    have R1 := hid r1
    clear r1
    simp only [List.length_nil, Nat.zero_add] at r2
    go_wp2_with (at_builtin; refine wpList_app rfl _ _ 73 rfl _ _ rfl rfl _ _ R1.out ?_)
    go_end0
    exact ⟨rfl, R0.out⟩
  · have hnil := fun w => eql_map_nil w (some C)
    have hq := hS.look x hx
    obtain ⟨v', w2, w4, r1, r2, a2, a3, s0, ⟨va, vc, rfl⟩, a4, s4, ev4⟩ := Scp.bound hA h0 h1 hS hM hB x y hx hy hn he w.heap.size rfl
    have R0 : Hid ((∃ mv' lv', Arr w4 M T ((vs.set o mv').set (o + 1) lv') ∧ Scp w4 B mv' lv' ((x, y) :: e) (n + 1) ∧ Ev (Om M (.map (some C)) (.slice la e.length lc)) w (Om M mv' lv') w4)) := ⟨_, _, a4, s4, ev4⟩
    have y1 := a2.frozen
    have y2 := a2.cell
    have y3 := a3.cell
    have R1 := hid r1
    have k0 : ∀ ob, (w.alloc ob).cell? ⟨M, o, none⟩ = some (.map (some C)) := fun ob => ((hA.stays (bl_alloc (Below.refl _ _) ob)).cell o).trans h0
    have k1 : ∀ ob, (w.alloc ob).cell? ⟨M, o + 1, none⟩ = some (.slice la e.length lc) := fun ob => ((hA.stays (bl_alloc (Below.refl _ _) ob)).cell (o + 1)).trans h1
    clear hA hS a2 a3 a4 s4 ev4 hx hy hn he r1
    go_enter Tryz.func100, Tryz.ntmps100
    go_wp2_with (at_builtin; refine wpList_app rfl _ _ 73 rfl _ _ rfl rfl _ _ R1.out ?_)
    go_end0
    exact ⟨rfl, R0.out⟩
end Go.Proofs.YtigliglmejkakaaGreat.Tgt
