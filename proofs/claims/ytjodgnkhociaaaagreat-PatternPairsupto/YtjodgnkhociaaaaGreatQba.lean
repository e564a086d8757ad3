/- alone of a name: two rows grow. -/
import Derived.OrdersHeld
import Derived.Deep.Cut
import Derived.Deep.CutRange
import Derived.Test.YtjodgnkhociaaaaGreatQaz
namespace Go.Proofs.YtjodgnkhociaaaaGreat
open Go.RowKit
set_option linter.unusedVariables false
set_option linter.unusedSimpArgs false

set_option maxHeartbeats 4000000 in
set_option maxRecDepth 100000 in
theorem alone_var (W : World) (F base : Nat) (nv pv : Value) (ns : List ByteArray) (ps : List Vl) (xs : List Value) (N : Nat) (h : Ft W F base nv pv ns ps xs N) (hln : ns.length ≤ 2097152) (hlp : ps.length ≤ 2097152)
    (b o : Nat) (s : ByteArray) (n : Int) (pa pc : Value) (hp : Cells W b o [.int .i64 2, .string s, pa, .int .i64 n, pc]) (hb : b < F) (b' o' : Nat) (v : Vl) (va : Option Addr) (vc : Nat) (M : Nat) (hv : Cells W b' o' [.int .i64 v.k, .int .i64 v.n, .string v.s, .slice va v.ks.length vc]) (hvt : VAt W (· < F) M [.int .i64 v.k, .int .i64 v.n, .string v.s, .slice va v.ks.length vc] v) (hb' : b' < F) :
    Calls Tryz.prog 18 #[.pointer (some ⟨F, 0, none⟩), .pointer (some ⟨b, o, none⟩), .pointer (some ⟨b', o', none⟩)] W fun e w' => e = .returned (.bool true) ∧ (∃ nv' pv' xs' N', Ft w' F base nv' pv' (ns ++ [s]) (ps ++ [v]) xs' N') ∧ Fe F base W w' := by
  have hlo := h.lo
  have p0 := hp 0 _ rfl
  have p1 := hp 1 _ rfl
  rw [Nat.add_zero] at p0
  obtain ⟨na, nc, rfl⟩ := own_form h.nown
  obtain ⟨qa, qc, rfl⟩ := own_form h.pown
  have HF : Hid (Ft W.drew F base (.slice na ns.length nc) (.slice qa ps.length qc) ns ps xs N) := h.stays (Below.refl _ _).drew
  have HP := hid hp
  have HV := hid hv
  have HVT := hid hvt
  have HD : Hid (Below W.heap.size W W.drew) := (Below.refl _ _).drew
  obtain ⟨a', c', w1, hr, hA1, hb1, hF2, hfe⟩ := HF.out.name hln s
  have HF2 := hid hF2
  have HFE := hid ((Fe.of_below HD.out h.le).trans hfe)
  have s5 : W.drew.cell? ⟨b, o + 1, none⟩ = some (.string s) := p1
  have hbl := World.block_lt_of_cell? W _ p1
  have s5a : ∀ ob, (W.drew.alloc ob).cell? ⟨b, o + 1, none⟩ = some (.string s) := fun ob => ((bl_alloc (Below.refl _ W.drew) ob).cell hbl).trans p1
  have l0 : W.drew.cell? ⟨F, 0, none⟩ = some (.slice na ns.length nc) := HF.out.bx.cell 0
  have lc0 : ∀ ob, (W.drew.alloc ob).cell? ⟨F, 0, none⟩ = some (.slice na ns.length nc) := fun ob => (HF.out.stays (bl_alloc (Below.refl _ _) ob)).bx.cell 0
  have s5b : w1.cell? ⟨b, o + 1, none⟩ = some (.string s) := (World.cell?_of_block (w := W.drew) (hb1 b (by omega))).trans s5
  have s5c : (w1.setCell ⟨F, 0, none⟩ (.slice a' (ns.length + 1) c')).cell? ⟨b, o + 1, none⟩ = some (.string s) := (World.cell?_of_block (w := w1) (Below.heap_setCell _ _ _ _ (by show b ≠ F; omega))).trans s5b
  have sc := hA1.cell
  have fz := hA1.frozen
  have kF : b ≠ F := by omega
  have kF' : b' ≠ F := by omega
  clear h hp hv hvt hF2 hb1 hA1 HD p1
  go_enter Tryz.func18, Tryz.ntmps18
  go_wp2
  go_cut [7] from 15 to 27 (fun u7 wx => Hid (Ft wx F base (.slice a' (ns.length + 1) c') (.slice qa ps.length qc) (ns ++ [s]) ps xs N) ∧ Hid (Fe F base W wx))
  case first =>
    refine wp_region_held_drew (S := fun wz => wz.cell? ⟨b, o + 1, none⟩ = some (.string s)) (by kernel_rfl) (s5) (fun hS => ?_)
    generalize W.drew = wd at hS HF hr s5a s5b s5c lc0 l0 sc fz hfe HF2 ⊢
    refine wpAnyH_take (i := 0) (v := ?_) rfl (by kernel_rfl) (by kernel_rfl) (by kernel_rfl) (fun _ _ _ h => h) (Or.inl ⟨by rfl, ?_⟩) hS ?_
    rotate_left
    · intro wz hz; go_simp; try with_reducible rfl
    try simp only [Act.put, List.setIfInBounds_toArray, List.set_cons_zero, List.set_cons_succ, List.getElem_toArray, List.getElem_cons_succ, List.getElem_cons_zero]
    refine wpAnyH_take (i := 1) (v := ?_) rfl (by kernel_rfl) (by kernel_rfl) (by kernel_rfl) (fun _ _ _ h => h) (Or.inl ⟨by rfl, ?_⟩) hS ?_
    rotate_left
    · intro wz hz; go_simp; try with_reducible rfl
    try simp only [Act.put, List.setIfInBounds_toArray, List.set_cons_zero, List.set_cons_succ, List.getElem_toArray, List.getElem_cons_succ, List.getElem_cons_zero]
    refine wpAnyH_take (i := 2) (v := ?_) rfl (by kernel_rfl) (by kernel_rfl) (by kernel_rfl) (fun _ _ _ h => h) (Or.inl ⟨by rfl, ?_⟩) hS ?_
    rotate_left
    · intro wz hz; go_simp; try with_reducible rfl
    try simp only [Act.put, List.setIfInBounds_toArray, List.set_cons_zero, List.set_cons_succ, List.getElem_toArray, List.getElem_cons_succ, List.getElem_cons_zero]
    refine wpAnyH_take (i := 3) (v := ?_) rfl (by kernel_rfl) (by kernel_rfl) (by kernel_rfl) (fun _ _ _ h => h) (Or.inl ⟨by rfl, ?_⟩) hS ?_
    rotate_left
    · intro wz hz; go_simp; try with_reducible rfl
    try simp only [Act.put, List.setIfInBounds_toArray, List.set_cons_zero, List.set_cons_succ, List.getElem_toArray, List.getElem_cons_succ, List.getElem_cons_zero]
    refine wpAnyH_take (i := 5) (v := ?_) rfl (by kernel_rfl) (by kernel_rfl) (by kernel_rfl) (fun _ _ _ h => h) (Or.inl ⟨by rfl, ?_⟩) hS ?_
    rotate_left
    · intro wz hz; go_simp; try with_reducible rfl
    try simp only [Act.put, List.setIfInBounds_toArray, List.set_cons_zero, List.set_cons_succ, List.getElem_toArray, List.getElem_cons_succ, List.getElem_cons_zero]
    refine wpAnyH_take (i := 6) (v := ?_) rfl (by kernel_rfl) (by kernel_rfl) (by kernel_rfl) (fun _ _ _ h => h) (Or.inl ⟨by rfl, ?_⟩) hS ?_
    rotate_left
    · intro wz hz; go_simp; try with_reducible rfl
    try simp only [Act.put, List.setIfInBounds_toArray, List.set_cons_zero, List.set_cons_succ, List.getElem_toArray, List.getElem_cons_succ, List.getElem_cons_zero]
    refine wpAnyH_take (i := 7) (v := ?_) rfl (by kernel_rfl) (by kernel_rfl) (by kernel_rfl) (fun _ _ _ h => h) (Or.inl ⟨by rfl, ?_⟩) hS ?_
    rotate_left
    · intro wz hz; go_simp; try with_reducible rfl
    try simp only [Act.put, List.setIfInBounds_toArray, List.set_cons_zero, List.set_cons_succ, List.getElem_toArray, List.getElem_cons_succ, List.getElem_cons_zero]
    refine wpAnyH_take (i := 8) (v := ?_) rfl (by kernel_rfl) (by kernel_rfl) (by kernel_rfl) (fun _ _ _ h => h) (Or.inl ⟨by rfl, ?_⟩) hS ?_
    rotate_left
    · intro wz hz; go_simp; try with_reducible rfl
    try simp only [Act.put, List.setIfInBounds_toArray, List.set_cons_zero, List.set_cons_succ, List.getElem_toArray, List.getElem_cons_succ, List.getElem_cons_zero]
    refine wpAnyH_ready (rs := [4, 9]) (by kernel_rfl) (by simp) (AllReadyH.cons rfl (fun K hK => ?a1_4) (AllReadyH.cons rfl (fun K hK => ?a1_9) AllReadyH.nil))
    case' a1_4 =>
      go_simp
      refine hK.out _ _ (hS) (fun hSn => ?_)
      clear hK K hS
      have hS := hSn
      clear hSn
      try simp only [Act.put, List.setIfInBounds_toArray, List.set_cons_zero, List.set_cons_succ, List.getElem_toArray, List.getElem_cons_succ, List.getElem_cons_zero]
      refine wpAnyH_ready (rs := [9]) (by kernel_rfl) (by simp) (AllReadyH.cons rfl (fun K hK => ?a2_9) AllReadyH.nil)
      case' a2_9 =>
        go_simp
        refine hK.out _ _ (s5a _) (fun hSn => ?_)
        clear hK K hS
        have hS := hSn
        clear hSn
        try simp only [Act.put, List.setIfInBounds_toArray, List.set_cons_zero, List.set_cons_succ, List.getElem_toArray, List.getElem_cons_succ, List.getElem_cons_zero]
        refine wpAnyH_ready (rs := [10]) (by kernel_rfl) (by simp) (AllReadyH.cons rfl (fun K hK => ?a3_10) AllReadyH.nil)
        case' a3_10 =>
          refine step_app_eq rfl _ _ _ rfl _ _ rfl rfl _ _ hr ?_
          refine hK.out _ _ (s5b) (fun hSn => ?_)
          clear hK K hS
          have hS := hSn
          clear hSn
          try simp only [Act.put, List.setIfInBounds_toArray, List.set_cons_zero, List.set_cons_succ, List.getElem_toArray, List.getElem_cons_succ, List.getElem_cons_zero]
          refine wpAnyH_take (i := 11) (v := ?_) rfl (by kernel_rfl) (by kernel_rfl) (by kernel_rfl) (fun _ _ _ h => h) (Or.inl ⟨by rfl, ?_⟩) hS ?_
          rotate_left
          · intro wz hz; go_simp; try with_reducible rfl
          try simp only [Act.put, List.setIfInBounds_toArray, List.set_cons_zero, List.set_cons_succ, List.getElem_toArray, List.getElem_cons_succ, List.getElem_cons_zero]
          refine wpAnyH_take (i := 12) (v := ?_) rfl (by kernel_rfl) (by kernel_rfl) (by kernel_rfl) (fun _ _ _ h => h) (Or.inl ⟨by rfl, ?_⟩) hS ?_
          rotate_left
          · intro wz hz; go_simp; try with_reducible rfl
          try simp only [Act.put, List.setIfInBounds_toArray, List.set_cons_zero, List.set_cons_succ, List.getElem_toArray, List.getElem_cons_succ, List.getElem_cons_zero]
          refine wpAnyH_ready (rs := [13]) (by kernel_rfl) (by simp) (AllReadyH.cons rfl (fun K hK => ?a4_13) AllReadyH.nil)
          case' a4_13 =>
            go_simp
            refine hK.out _ _ (s5c) (fun hSn => ?_)
            clear hK K hS
            have hS := hSn
            clear hSn
            try simp only [Act.put, List.setIfInBounds_toArray, List.set_cons_zero, List.set_cons_succ, List.getElem_toArray, List.getElem_cons_succ, List.getElem_cons_zero]
            refine wpAnyH_done (by kernel_rfl) ?_ _
    case' a1_9 =>
      go_simp
      refine hK.out _ _ (s5a _) (fun hSn => ?_)
      clear hK K hS
      have hS := hSn
      clear hSn
      try simp only [Act.put, List.setIfInBounds_toArray, List.set_cons_zero, List.set_cons_succ, List.getElem_toArray, List.getElem_cons_succ, List.getElem_cons_zero]
      refine wpAnyH_ready (rs := [4]) (by kernel_rfl) (by simp) (AllReadyH.cons rfl (fun K hK => ?a5_4) AllReadyH.nil)
      case' a5_4 =>
        go_simp
        refine hK.out _ _ (hS) (fun hSn => ?_)
        clear hK K hS
        have hS := hSn
        clear hSn
        try simp only [Act.put, List.setIfInBounds_toArray, List.set_cons_zero, List.set_cons_succ, List.getElem_toArray, List.getElem_cons_succ, List.getElem_cons_zero]
        refine wpAnyH_ready (rs := [10]) (by kernel_rfl) (by simp) (AllReadyH.cons rfl (fun K hK => ?a6_10) AllReadyH.nil)
        case' a6_10 =>
          refine step_app_eq rfl _ _ _ rfl _ _ rfl rfl _ _ hr ?_
          refine hK.out _ _ (s5b) (fun hSn => ?_)
          clear hK K hS
          have hS := hSn
          clear hSn
          try simp only [Act.put, List.setIfInBounds_toArray, List.set_cons_zero, List.set_cons_succ, List.getElem_toArray, List.getElem_cons_succ, List.getElem_cons_zero]
          refine wpAnyH_take (i := 11) (v := ?_) rfl (by kernel_rfl) (by kernel_rfl) (by kernel_rfl) (fun _ _ _ h => h) (Or.inl ⟨by rfl, ?_⟩) hS ?_
          rotate_left
          · intro wz hz; go_simp; try with_reducible rfl
          try simp only [Act.put, List.setIfInBounds_toArray, List.set_cons_zero, List.set_cons_succ, List.getElem_toArray, List.getElem_cons_succ, List.getElem_cons_zero]
          refine wpAnyH_take (i := 12) (v := ?_) rfl (by kernel_rfl) (by kernel_rfl) (by kernel_rfl) (fun _ _ _ h => h) (Or.inl ⟨by rfl, ?_⟩) hS ?_
          rotate_left
          · intro wz hz; go_simp; try with_reducible rfl
          try simp only [Act.put, List.setIfInBounds_toArray, List.set_cons_zero, List.set_cons_succ, List.getElem_toArray, List.getElem_cons_succ, List.getElem_cons_zero]
          refine wpAnyH_ready (rs := [13]) (by kernel_rfl) (by simp) (AllReadyH.cons rfl (fun K hK => ?a7_13) AllReadyH.nil)
          case' a7_13 =>
            go_simp
            refine hK.out _ _ (s5c) (fun hSn => ?_)
            clear hK K hS
            have hS := hSn
            clear hSn
            try simp only [Act.put, List.setIfInBounds_toArray, List.set_cons_zero, List.set_cons_succ, List.getElem_toArray, List.getElem_cons_succ, List.getElem_cons_zero]
            refine wpAnyH_done (by kernel_rfl) ?_ _
    all_goals (
      go_wp2
      go_meet
      exact ⟨HF2, HFE⟩)
  case rest =>
    clear hr s5 s5a s5b s5c lc0 l0 sc fz hfe HF HF2 HFE
    obtain ⟨HF2, HFE⟩ := hcut
    have hk := HFE.out
    have lo2 : b' < base := by omega
    have s6 : wc.drew.cell? ⟨b', o', none⟩ = some (.int .i64 v.k) ∧ wc.drew.cell? ⟨b', o' + 1, none⟩ = some (.int .i64 v.n) ∧ wc.drew.cell? ⟨b', o' + 2, none⟩ = some (.string v.s) ∧ wc.drew.cell? ⟨b', o' + 3, none⟩ = some (.slice va v.ks.length vc) := by
      have hc := hk.cells (Nat.le_of_lt hlo) hb' HV.out
      exact ⟨by simpa using hc 0 _ rfl, hc 1 _ rfl, hc 2 _ rfl, hc 3 _ rfl⟩
    have hv2 : VAt wc.drew (· < F) M [.int .i64 v.k, .int .i64 v.n, .string v.s, .slice va v.ks.length vc] v := (HVT.out.move (hk.keeps (Nat.le_of_lt hlo)) (fun _ h => h)).below (Below.refl _ _).drew
    have HF3 := hid (HF2.out.stays ((Below.refl _ _).drew : Below wc.heap.size wc wc.drew))
    have HFE3 := hid (hk.trans (Fe.of_below ((Below.refl _ _).drew : Below wc.heap.size wc wc.drew) HF2.out.le))
    clear hk
    obtain ⟨g, c6, w6, hr6, hcap, hFg, hbg, hA6, hb6, hz6, hx6, hfin⟩ := HF3.out.part hlp hv2 rfl
    have HFIN : Hid (∀ w9, w9 = (((((w6.setCell ⟨g, ps.length * 4, none⟩ (.int .i64 v.k)).setCell ⟨g, ps.length * 4 + 1, none⟩ (.int .i64 v.n)).setCell ⟨g, ps.length * 4 + 2, none⟩ (.string v.s)).setCell ⟨g, ps.length * 4 + 3, none⟩ (.slice va v.ks.length vc)).setCell ⟨F, 1, none⟩ (.slice (some ⟨g, 0, none⟩) (ps.length + 1) c6)) ∨ w9 = (((((w6.setCell ⟨F, 1, none⟩ (.slice (some ⟨g, 0, none⟩) (ps.length + 1) c6)).setCell ⟨g, ps.length * 4, none⟩ (.int .i64 v.k)).setCell ⟨g, ps.length * 4 + 1, none⟩ (.int .i64 v.n)).setCell ⟨g, ps.length * 4 + 2, none⟩ (.string v.s)).setCell ⟨g, ps.length * 4 + 3, none⟩ (.slice va v.ks.length vc)) → (∃ nv' pv' xs' N', Ft w9 F base nv' pv' (ns ++ [s]) (ps ++ [v]) xs' N') ∧ Fe F base W w9) := fun w9 hw => by
      obtain ⟨⟨xs', N', q1⟩, q2⟩ := hfin w9 hw
      exact ⟨⟨_, _, xs', N', q1⟩, HFE3.out.trans q2⟩
    have s6a : ∀ ob, (wc.drew.alloc ob).cell? ⟨b', o', none⟩ = some (.int .i64 v.k) ∧ (wc.drew.alloc ob).cell? ⟨b', o' + 1, none⟩ = some (.int .i64 v.n) ∧ (wc.drew.alloc ob).cell? ⟨b', o' + 2, none⟩ = some (.string v.s) ∧ (wc.drew.alloc ob).cell? ⟨b', o' + 3, none⟩ = some (.slice va v.ks.length vc) := fun ob => by
      have hbl := World.block_lt_of_cell? _ _ s6.1
      have hB := bl_alloc (Below.refl _ wc.drew) ob
      have hq := hB.block b' hbl; exact ⟨(World.cell?_of_block (w := wc.drew) hq).trans s6.1, (World.cell?_of_block (w := wc.drew) hq).trans s6.2.1, (World.cell?_of_block (w := wc.drew) hq).trans s6.2.2.1, (World.cell?_of_block (w := wc.drew) hq).trans s6.2.2.2⟩
    have s6b : w6.cell? ⟨b', o', none⟩ = some (.int .i64 v.k) ∧ w6.cell? ⟨b', o' + 1, none⟩ = some (.int .i64 v.n) ∧ w6.cell? ⟨b', o' + 2, none⟩ = some (.string v.s) ∧ w6.cell? ⟨b', o' + 3, none⟩ = some (.slice va v.ks.length vc) := by
      have e := hb6 b' lo2
      exact ⟨(World.cell?_of_block (w := wc.drew) e).trans s6.1, (World.cell?_of_block (w := wc.drew) e).trans s6.2.1, (World.cell?_of_block (w := wc.drew) e).trans s6.2.2.1, (World.cell?_of_block (w := wc.drew) e).trans s6.2.2.2⟩
    have hgb : b' ≠ g := by omega
    have sset : ∀ (B : Nat), b' ≠ B → ∀ (wz : World) (j : Nat) (u : Value), (wz.cell? ⟨b', o', none⟩ = some (.int .i64 v.k) ∧ wz.cell? ⟨b', o' + 1, none⟩ = some (.int .i64 v.n) ∧ wz.cell? ⟨b', o' + 2, none⟩ = some (.string v.s) ∧ wz.cell? ⟨b', o' + 3, none⟩ = some (.slice va v.ks.length vc)) → ((wz.setCell ⟨B, j, none⟩ u).cell? ⟨b', o', none⟩ = some (.int .i64 v.k) ∧ (wz.setCell ⟨B, j, none⟩ u).cell? ⟨b', o' + 1, none⟩ = some (.int .i64 v.n) ∧ (wz.setCell ⟨B, j, none⟩ u).cell? ⟨b', o' + 2, none⟩ = some (.string v.s) ∧ (wz.setCell ⟨B, j, none⟩ u).cell? ⟨b', o' + 3, none⟩ = some (.slice va v.ks.length vc)) := fun B hB wz j u hz => by
      have e : (wz.setCell ⟨B, j, none⟩ u).heap[b']? = wz.heap[b']? := Below.heap_setCell _ _ _ _ hB
      exact ⟨(World.cell?_of_block (w := wz) e).trans hz.1, (World.cell?_of_block (w := wz) e).trans hz.2.1, (World.cell?_of_block (w := wz) e).trans hz.2.2.1, (World.cell?_of_block (w := wz) e).trans hz.2.2.2⟩
    have s6g := sset g hgb
    have s6f := sset F kF'
    have l1 : wc.drew.cell? ⟨F, 1, none⟩ = some (.slice qa ps.length qc) := HF3.out.bx.cell 1
    have lc1 : ∀ ob, (wc.drew.alloc ob).cell? ⟨F, 1, none⟩ = some (.slice qa ps.length qc) := fun ob => (HF3.out.stays (bl_alloc (Below.refl _ _) ob)).bx.cell 1
    obtain ⟨u0, hu0⟩ := hx6 0 (by omega)
    obtain ⟨u1, hu1⟩ := hx6 1 (by omega)
    obtain ⟨u2, hu2⟩ := hx6 2 (by omega)
    obtain ⟨u3, hu3⟩ := hx6 3 (by omega)
    rw [Nat.add_zero] at hu0
    have sc6 := hA6.cell
    have fz6 := hA6.frozen
    have kk6 : g ≠ F := fun e => hFg e.symm
    have hix : (ps.length : Int) < (ps.length : Int) + 1 := by omega
    clear hA6 hb6 hx6 hfin sset hv2
    go_wp2
    refine wp_region_held_drew (S := fun wz => wz.cell? ⟨b', o', none⟩ = some (.int .i64 v.k) ∧ wz.cell? ⟨b', o' + 1, none⟩ = some (.int .i64 v.n) ∧ wz.cell? ⟨b', o' + 2, none⟩ = some (.string v.s) ∧ wz.cell? ⟨b', o' + 3, none⟩ = some (.slice va v.ks.length vc)) (by kernel_rfl) (s6) (fun hS => ?_)
    generalize wc.drew = wd at hS HF2 hr6 s6a s6b l1 lc1 kk6 ⊢
    refine wpAnyH_take (i := 0) (v := ?_) rfl (by kernel_rfl) (by kernel_rfl) (by kernel_rfl) (fun _ _ _ h => h) (Or.inl ⟨by rfl, ?_⟩) hS ?_
    rotate_left
    · intro wz hz; go_simp; try with_reducible rfl
    try simp only [Act.put, List.setIfInBounds_toArray, List.set_cons_zero, List.set_cons_succ, List.getElem_toArray, List.getElem_cons_succ, List.getElem_cons_zero]
    refine wpAnyH_take (i := 1) (v := ?_) rfl (by kernel_rfl) (by kernel_rfl) (by kernel_rfl) (fun _ _ _ h => h) (Or.inl ⟨by rfl, ?_⟩) hS ?_
    rotate_left
    · intro wz hz; go_simp; try with_reducible rfl
    try simp only [Act.put, List.setIfInBounds_toArray, List.set_cons_zero, List.set_cons_succ, List.getElem_toArray, List.getElem_cons_succ, List.getElem_cons_zero]
    refine wpAnyH_take (i := 2) (v := ?_) rfl (by kernel_rfl) (by kernel_rfl) (by kernel_rfl) (fun _ _ _ h => h) (Or.inl ⟨by rfl, ?_⟩) hS ?_
    rotate_left
    · intro wz hz; go_simp; try with_reducible rfl
    try simp only [Act.put, List.setIfInBounds_toArray, List.set_cons_zero, List.set_cons_succ, List.getElem_toArray, List.getElem_cons_succ, List.getElem_cons_zero]
    refine wpAnyH_take (i := 4) (v := ?_) rfl (by kernel_rfl) (by kernel_rfl) (by kernel_rfl) (fun _ _ _ h => h) (Or.inl ⟨by rfl, ?_⟩) hS ?_
    rotate_left
    · intro wz hz; go_simp; try with_reducible rfl
    try simp only [Act.put, List.setIfInBounds_toArray, List.set_cons_zero, List.set_cons_succ, List.getElem_toArray, List.getElem_cons_succ, List.getElem_cons_zero]
    refine wpAnyH_take (i := 5) (v := ?_) rfl (by kernel_rfl) (by kernel_rfl) (by kernel_rfl) (fun _ _ _ h => h) (Or.inl ⟨by rfl, ?_⟩) hS ?_
    rotate_left
    · intro wz hz; go_simp; try with_reducible rfl
    try simp only [Act.put, List.setIfInBounds_toArray, List.set_cons_zero, List.set_cons_succ, List.getElem_toArray, List.getElem_cons_succ, List.getElem_cons_zero]
    refine wpAnyH_take (i := 6) (v := ?_) rfl (by kernel_rfl) (by kernel_rfl) (by kernel_rfl) (fun _ _ _ h => h) (Or.inl ⟨by rfl, ?_⟩) hS ?_
    rotate_left
    · intro wz hz; obtain ⟨yy0, yy1, yy2, yy3⟩ := hz; go_simp; try with_reducible rfl
    try simp only [Act.put, List.setIfInBounds_toArray, List.set_cons_zero, List.set_cons_succ, List.getElem_toArray, List.getElem_cons_succ, List.getElem_cons_zero]
    refine wpAnyH_ready (rs := [3, 8]) (by kernel_rfl) (by simp) (AllReadyH.cons rfl (fun K hK => ?a8_3) (AllReadyH.cons rfl (fun K hK => ?a8_8) AllReadyH.nil))
    case' a8_3 =>
      go_simp
      refine hK.out _ _ (hS) (fun hSn => ?_)
      clear hK K hS
      have hS := hSn
      clear hSn
      try simp only [Act.put, List.setIfInBounds_toArray, List.set_cons_zero, List.set_cons_succ, List.getElem_toArray, List.getElem_cons_succ, List.getElem_cons_zero]
      refine wpAnyH_take (i := 7) (v := ?_) rfl (by kernel_rfl) (by kernel_rfl) (by kernel_rfl) (fun _ _ _ h => h) (Or.inl ⟨by rfl, ?_⟩) hS ?_
      rotate_left
      · intro wz hz; go_simp; try with_reducible rfl
      try simp only [Act.put, List.setIfInBounds_toArray, List.set_cons_zero, List.set_cons_succ, List.getElem_toArray, List.getElem_cons_succ, List.getElem_cons_zero]
      refine wpAnyH_ready (rs := [8]) (by kernel_rfl) (by simp) (AllReadyH.cons rfl (fun K hK => ?a9_8) AllReadyH.nil)
      case' a9_8 =>
        go_simp
        refine hK.out _ _ (s6a _) (fun hSn => ?_)
        clear hK K hS
        have hS := hSn
        clear hSn
        try simp only [Act.put, List.setIfInBounds_toArray, List.set_cons_zero, List.set_cons_succ, List.getElem_toArray, List.getElem_cons_succ, List.getElem_cons_zero]
        refine wpAnyH_ready (rs := [9]) (by kernel_rfl) (by simp) (AllReadyH.cons rfl (fun K hK => ?a10_9) AllReadyH.nil)
        case' a10_9 =>
          refine step_app_eq rfl _ _ _ rfl _ _ rfl rfl _ _ hr6 ?_
          refine hK.out _ _ (s6b) (fun hSn => ?_)
          clear hK K hS
          have hS := hSn
          clear hSn
          try simp only [Act.put, List.setIfInBounds_toArray, List.set_cons_zero, List.set_cons_succ, List.getElem_toArray, List.getElem_cons_succ, List.getElem_cons_zero]
          refine wpAnyH_take (i := 10) (v := ?_) rfl (by kernel_rfl) (by kernel_rfl) (by kernel_rfl) (fun _ _ _ h => h) (Or.inl ⟨by rfl, ?_⟩) hS ?_
          rotate_left
          · intro wz hz; go_simp; try with_reducible rfl
          try simp only [Act.put, List.setIfInBounds_toArray, List.set_cons_zero, List.set_cons_succ, List.getElem_toArray, List.getElem_cons_succ, List.getElem_cons_zero]
          refine wpAnyH_take (i := 12) (v := ?_) rfl (by kernel_rfl) (by kernel_rfl) (by kernel_rfl) (fun _ _ _ h => h) (Or.inl ⟨by rfl, ?_⟩) hS ?_
          rotate_left
          · intro wz hz; go_simp; try with_reducible rfl
          try simp only [Act.put, List.setIfInBounds_toArray, List.set_cons_zero, List.set_cons_succ, List.getElem_toArray, List.getElem_cons_succ, List.getElem_cons_zero]
          refine wpAnyH_take (i := 13) (v := ?_) rfl (by kernel_rfl) (by kernel_rfl) (by kernel_rfl) (fun _ _ _ h => h) (Or.inl ⟨by rfl, ?_⟩) hS ?_
          rotate_left
          · intro wz hz; go_simp; try with_reducible rfl
          try simp only [Act.put, List.setIfInBounds_toArray, List.set_cons_zero, List.set_cons_succ, List.getElem_toArray, List.getElem_cons_succ, List.getElem_cons_zero]
          refine wpAnyH_ready (rs := [11, 14]) (by kernel_rfl) (by simp) (AllReadyH.cons rfl (fun K hK => ?a11_11) (AllReadyH.cons rfl (fun K hK => ?a11_14) AllReadyH.nil))
          case' a11_11 =>
            go_simp
            refine hK.out _ _ ((s6g _ _ _ (s6g _ _ _ (s6g _ _ _ (s6g _ _ _ hS))))) (fun hSn => ?_)
            clear hK K hS
            have hS := hSn
            clear hSn
            try simp only [Act.put, List.setIfInBounds_toArray, List.set_cons_zero, List.set_cons_succ, List.getElem_toArray, List.getElem_cons_succ, List.getElem_cons_zero]
            refine wpAnyH_ready (rs := [14]) (by kernel_rfl) (by simp) (AllReadyH.cons rfl (fun K hK => ?a12_14) AllReadyH.nil)
            case' a12_14 =>
              go_simp
              refine hK.out _ _ (s6f _ _ _ hS) (fun hSn => ?_)
              clear hK K hS
              have hS := hSn
              clear hSn
              try simp only [Act.put, List.setIfInBounds_toArray, List.set_cons_zero, List.set_cons_succ, List.getElem_toArray, List.getElem_cons_succ, List.getElem_cons_zero]
              refine wpAnyH_done (by kernel_rfl) ?_ _
          case' a11_14 =>
            go_simp
            refine hK.out _ _ (s6f _ _ _ hS) (fun hSn => ?_)
            clear hK K hS
            have hS := hSn
            clear hSn
            try simp only [Act.put, List.setIfInBounds_toArray, List.set_cons_zero, List.set_cons_succ, List.getElem_toArray, List.getElem_cons_succ, List.getElem_cons_zero]
            refine wpAnyH_ready (rs := [11]) (by kernel_rfl) (by simp) (AllReadyH.cons rfl (fun K hK => ?a13_11) AllReadyH.nil)
            case' a13_11 =>
              go_simp
              refine hK.out _ _ ((s6g _ _ _ (s6g _ _ _ (s6g _ _ _ (s6g _ _ _ hS))))) (fun hSn => ?_)
              clear hK K hS
              have hS := hSn
              clear hSn
              try simp only [Act.put, List.setIfInBounds_toArray, List.set_cons_zero, List.set_cons_succ, List.getElem_toArray, List.getElem_cons_succ, List.getElem_cons_zero]
              refine wpAnyH_done (by kernel_rfl) ?_ _
    case' a8_8 =>
      go_simp
      refine hK.out _ _ (s6a _) (fun hSn => ?_)
      clear hK K hS
      have hS := hSn
      clear hSn
      try simp only [Act.put, List.setIfInBounds_toArray, List.set_cons_zero, List.set_cons_succ, List.getElem_toArray, List.getElem_cons_succ, List.getElem_cons_zero]
      refine wpAnyH_ready (rs := [3]) (by kernel_rfl) (by simp) (AllReadyH.cons rfl (fun K hK => ?a14_3) AllReadyH.nil)
      case' a14_3 =>
        go_simp
        refine hK.out _ _ (hS) (fun hSn => ?_)
        clear hK K hS
        have hS := hSn
        clear hSn
        try simp only [Act.put, List.setIfInBounds_toArray, List.set_cons_zero, List.set_cons_succ, List.getElem_toArray, List.getElem_cons_succ, List.getElem_cons_zero]
        refine wpAnyH_take (i := 7) (v := ?_) rfl (by kernel_rfl) (by kernel_rfl) (by kernel_rfl) (fun _ _ _ h => h) (Or.inl ⟨by rfl, ?_⟩) hS ?_
        rotate_left
        · intro wz hz; go_simp; try with_reducible rfl
        try simp only [Act.put, List.setIfInBounds_toArray, List.set_cons_zero, List.set_cons_succ, List.getElem_toArray, List.getElem_cons_succ, List.getElem_cons_zero]
        refine wpAnyH_ready (rs := [9]) (by kernel_rfl) (by simp) (AllReadyH.cons rfl (fun K hK => ?a15_9) AllReadyH.nil)
        case' a15_9 =>
          refine step_app_eq rfl _ _ _ rfl _ _ rfl rfl _ _ hr6 ?_
          refine hK.out _ _ (s6b) (fun hSn => ?_)
          clear hK K hS
          have hS := hSn
          clear hSn
          try simp only [Act.put, List.setIfInBounds_toArray, List.set_cons_zero, List.set_cons_succ, List.getElem_toArray, List.getElem_cons_succ, List.getElem_cons_zero]
          refine wpAnyH_take (i := 10) (v := ?_) rfl (by kernel_rfl) (by kernel_rfl) (by kernel_rfl) (fun _ _ _ h => h) (Or.inl ⟨by rfl, ?_⟩) hS ?_
          rotate_left
          · intro wz hz; go_simp; try with_reducible rfl
          try simp only [Act.put, List.setIfInBounds_toArray, List.set_cons_zero, List.set_cons_succ, List.getElem_toArray, List.getElem_cons_succ, List.getElem_cons_zero]
          refine wpAnyH_take (i := 12) (v := ?_) rfl (by kernel_rfl) (by kernel_rfl) (by kernel_rfl) (fun _ _ _ h => h) (Or.inl ⟨by rfl, ?_⟩) hS ?_
          rotate_left
          · intro wz hz; go_simp; try with_reducible rfl
          try simp only [Act.put, List.setIfInBounds_toArray, List.set_cons_zero, List.set_cons_succ, List.getElem_toArray, List.getElem_cons_succ, List.getElem_cons_zero]
          refine wpAnyH_take (i := 13) (v := ?_) rfl (by kernel_rfl) (by kernel_rfl) (by kernel_rfl) (fun _ _ _ h => h) (Or.inl ⟨by rfl, ?_⟩) hS ?_
          rotate_left
          · intro wz hz; go_simp; try with_reducible rfl
          try simp only [Act.put, List.setIfInBounds_toArray, List.set_cons_zero, List.set_cons_succ, List.getElem_toArray, List.getElem_cons_succ, List.getElem_cons_zero]
          refine wpAnyH_ready (rs := [11, 14]) (by kernel_rfl) (by simp) (AllReadyH.cons rfl (fun K hK => ?a16_11) (AllReadyH.cons rfl (fun K hK => ?a16_14) AllReadyH.nil))
          case' a16_11 =>
            go_simp
            refine hK.out _ _ ((s6g _ _ _ (s6g _ _ _ (s6g _ _ _ (s6g _ _ _ hS))))) (fun hSn => ?_)
            clear hK K hS
            have hS := hSn
            clear hSn
            try simp only [Act.put, List.setIfInBounds_toArray, List.set_cons_zero, List.set_cons_succ, List.getElem_toArray, List.getElem_cons_succ, List.getElem_cons_zero]
            refine wpAnyH_ready (rs := [14]) (by kernel_rfl) (by simp) (AllReadyH.cons rfl (fun K hK => ?a17_14) AllReadyH.nil)
            case' a17_14 =>
              go_simp
              refine hK.out _ _ (s6f _ _ _ hS) (fun hSn => ?_)
              clear hK K hS
              have hS := hSn
              clear hSn
              try simp only [Act.put, List.setIfInBounds_toArray, List.set_cons_zero, List.set_cons_succ, List.getElem_toArray, List.getElem_cons_succ, List.getElem_cons_zero]
              refine wpAnyH_done (by kernel_rfl) ?_ _
          case' a16_14 =>
            go_simp
            refine hK.out _ _ (s6f _ _ _ hS) (fun hSn => ?_)
            clear hK K hS
            have hS := hSn
            clear hSn
            try simp only [Act.put, List.setIfInBounds_toArray, List.set_cons_zero, List.set_cons_succ, List.getElem_toArray, List.getElem_cons_succ, List.getElem_cons_zero]
            refine wpAnyH_ready (rs := [11]) (by kernel_rfl) (by simp) (AllReadyH.cons rfl (fun K hK => ?a18_11) AllReadyH.nil)
            case' a18_11 =>
              go_simp
              refine hK.out _ _ ((s6g _ _ _ (s6g _ _ _ (s6g _ _ _ (s6g _ _ _ hS))))) (fun hSn => ?_)
              clear hK K hS
              have hS := hSn
              clear hSn
              try simp only [Act.put, List.setIfInBounds_toArray, List.set_cons_zero, List.set_cons_succ, List.getElem_toArray, List.getElem_cons_succ, List.getElem_cons_zero]
              refine wpAnyH_done (by kernel_rfl) ?_ _
    all_goals (
      try clear hS
      go_wp2
      go_ret
      refine ⟨rfl, ?_⟩
      first
        | exact HFIN.out _ (.inl rfl)
        | exact HFIN.out _ (.inr rfl))
end Go.Proofs.YtjodgnkhociaaaaGreat
