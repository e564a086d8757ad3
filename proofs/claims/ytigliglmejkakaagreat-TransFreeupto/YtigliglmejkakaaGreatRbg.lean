/- record of any structure. mayBind. A range over slices.Backward of ints; bound. -/
import Derived.RangeFuncNested
import Derived.RangeFuncBound
import Derived.RangeFuncCalls
import Derived.RangeFuncLeaves
import Derived.Shelf.RegionOpen
import Derived.WalkKit
import Derived.OwnWalkIn
import Derived.TacticsInMore
import Derived.LoopNIn
import Derived.LoopIn
import Derived.Test.YtigliglmejkakaaGreatRbf
namespace Go.Proofs.YtigliglmejkakaaGreat
open Go.RowKit Go.Shelf Go.Sort
set_option linter.unusedVariables false
set_option linter.unusedSimpArgs false

theorem compact_len (zs : List (List UInt8)) : (Lib.compact zs).length ≤ zs.length := by
  unfold Lib.compact Lib.compactUpTo
  rw [List.length_map]
  exact Nat.le_trans (List.length_filter_le _ _) (by simp)
theorem compact_gen (g n B : Nat) (zs : List (List UInt8)) (w : World) (hn : zs.length = n) (hsz : n < 4611686018427387904) (hH : Holds encStr w g 0 zs.toArray) (hg : g < w.heap.size) (hB : B ≤ g) :
    Calls Tryz.prog 85 #[.slice (some ⟨g, 0, none⟩) n n] w fun e w' => e = .returned (.slice (some ⟨g, 0, none⟩) (Lib.compact zs).length n) ∧ ((Lib.compact zs).length = n → Holds encStr w' g 0 (Lib.compact zs).toArray) ∧ g < w'.heap.size ∧ Below B w w' := by
  subst hn
  refine (Tryz.slices_Compact_string g 0 zs.length zs w hH (by omega) (Nat.le_refl _)).mono ?_
  rintro e w' ⟨rfl, q, rfl⟩
  refine ⟨rfl, fun hl => ?_, Nat.lt_of_lt_of_le hg (Lib.below_putRow (Below.refl 0 w) (Nat.zero_le _)).size, Lib.below_putRow (Below.refl B w) hB⟩
  rw [show Lib.compact zs ++ List.replicate (zs.length - (Lib.compact zs).length) [] = Lib.compact zs by rw [hl]; simp]
  exact fun j hj => holds_putRow encStr (Sort.ahead w q) g 0 zs.toArray (Lib.compact zs).toArray (fun j hj => hH j hj) (by simp [hl]) j hj
theorem arr_on {w w' : World} {B b : Nat} {T : TypeId} {cur : List Value} (h : Arr w b T cur) (hb : Below B w w') (hl : b < B) : Arr w' b T cur := ⟨(hb.block b hl).trans h.b⟩
theorem gs_labs {w0 w : World} {G base : Nat} {P : Addr} {fl : List (ByteArray × An)} {fs : List Fd} {v : Value} (h : GS w0 G base P fl fs v w) : fs.map (·.lab) = fl.map (·.1) := by
  apply List.ext_getElem?
  intro i
  rw [List.getElem?_map, List.getElem?_map]
  by_cases hi : i < fs.length
  · have hi2 : i < fl.length := by have := h.len; omega
    rw [List.getElem?_eq_getElem hi, List.getElem?_eq_getElem hi2]
    have := (h.mks i fs[i] fl[i] (List.getElem?_eq_getElem hi) (List.getElem?_eq_getElem hi2)).1
    simp [this]
  · rw [List.getElem?_eq_none (by omega), List.getElem?_eq_none (by have := h.len; omega)]
    rfl
theorem gs_cells {w0 w : World} {G base : Nat} {P : Addr} {fl : List (ByteArray × An)} {fs : List Fd} {v : Value} (h : GS w0 G base P fl fs v w) {i : Nat} {f : Fd} (hf : fs[i]? = some f) : ∃ g c, v = .slice (some ⟨g, 0, none⟩) fl.length c ∧ g < w.heap.size ∧ w.cell? ⟨g, i * 2, none⟩ = some (.string f.lab) ∧ w.cell? ⟨g, i * 2 + 1, none⟩ = some (.func (.func f.g) #[] f.bs) := by
  have hn : 0 < fl.length := by have := (List.getElem?_eq_some_iff.1 hf).1; have := h.len; omega
  obtain ⟨g, c, h1, h2, h3⟩ := own_cells h.gt.own hn
  have := flatF_at hf
  exact ⟨g, c, h1, h2, h3 _ _ this.1, h3 _ _ this.2⟩
theorem made_tts4 (n : Nat) : ∃ M : Array Value, M.size = n * 4 ∧ ∀ (w : World), n ≤ 4194304 → (Instr.makeSlice 26 (.int .i64 (n : Int)) (.int .i64 (n : Int))).run Tryz.prog w = .ok (.slice (some ⟨w.heap.size, 0, none⟩) n n) (w.alloc (.cells M 28)) := by
  obtain ⟨i, hi, he⟩ := Option.map_eq_some_iff.1 info_tt
  injection he with hz he
  injection he with hs hb
  refine ⟨madeCells (Value.agg #[.int .i64 0, .int .i64 0, .slice none 0 0, .slice none 0 0]).cells (n * 4), size_madeCells _ _, fun w hn => ?_⟩
  have h := run_make (P := Tryz.prog) w 26 28 i _ Tryz.underlying26 hi hz .i64 .i64 n n (by omega) (Int.le_refl _) (by rw [hb]; omega) (by omega)
  simp only [Int.toNat_natCast, hs] at h
  exact h
theorem ba_eta (s : ByteArray) : ByteArray.mk s.data.toList.toArray = s := by simp

set_option maxHeartbeats 4000000 in
set_option maxRecDepth 100000 in
theorem record_all (w : World) (n pb po : Nat) (tms : List Tm) (vms : List Vm) (sa fa : List (ByteArray × An)) (h : SO w n pb po tms vms sa fa) :
    Calls Tryz.prog 43 #[.pointer (some ⟨pb, po, none⟩)] w fun e w' => AnsOf w (recA (flS tms vms sa fa)) e w' := by
  have HB1 : Hid (Below w.heap.size w (w.alloc (.cells #[.int .i64 0, .int .i64 0, .slice none 0 0, .slice none 0 0] 28))) := bl_alloc (Below.refl _ _) _
  have Y1 : Hid (Arr (w.alloc (.cells #[.int .i64 0, .int .i64 0, .slice none 0 0, .slice none 0 0] 28)) w.heap.size 28 [.int .i64 0, .int .i64 0, .slice none 0 0, .slice none 0 0]) := ⟨heap_alloc_at _ _⟩
  have HQ1 := hid (gathered_all (w.alloc (.cells #[.int .i64 0, .int .i64 0, .slice none 0 0, .slice none 0 0] 28)) n pb po tms vms sa fa (h.below HB1.out))
  have hNb : (flS tms vms sa fa).length ≤ 4194304 := by
    have h1 := flT_len tms
    have h2 := h.bt
    have h3 := h.bv.1
    have h4 := h.bs
    have h5 := h.bf
    rw [flS_len]
    omega
  generalize flS tms vms sa fa = FL at HQ1 hNb ⊢
  obtain ⟨N, hN⟩ : ∃ N, FL.length = N := ⟨_, rfl⟩
  rw [hN] at hNb
  have HN := hid hN
  have HSS : Hid (∀ (W : World) i u, Below w.heap.size w W → Below w.heap.size w (W.setCell ⟨w.heap.size, i, none⟩ u)) := fun W i u h => bl_set _ _ h (Nat.le_refl _)
  obtain ⟨M, hM, hmk⟩ := made_tts4 N
  have hmk2 : ∀ wz, (Instr.makeSlice 26 (.int .i64 (N : Int)) (.int .i64 (N : Int))).run Tryz.prog wz = .ok (.slice (some ⟨wz.heap.size, 0, none⟩) N N) (wz.alloc (.cells M 28)) := fun wz => hmk wz hNb
  have HM := hid hM
  clear h hN hmk hM
  go_enter Tryz.func43, Tryz.ntmps43
  go_wp2_with (first | (go_at_call 83; refine HQ1.out.mono ?_; rintro e w2 ⟨⟨v2, fs, rfl, hg2⟩, bl2⟩; obtain ⟨va, vc, hv2⟩ := own_form hg2.gt.own; rw [HN.out] at hv2; subst hv2; have HG2 := hid hg2; have HB2 := hid (bl_tr HB1.out bl2); have Y2 := hid (Y1.out.stays bl2); clear hg2 bl2) | (go_at_call 84; refine (inOrder_all w2 _ N fs (by rw [HG2.out.len, HN.out]) hNb ⟨_, _, rfl⟩ (fun i f hf => by have := gs_cells HG2.out hf; rw [HN.out] at this; exact this)).mono ?_; rintro e w3 ⟨rfl, ⟨zs, hz1, hz2, hz3, hz4⟩, hg3, bl3⟩; have HH3 := hid hz4; have HZL := hid hz1; have HZP := hid hz2; have HZS := hid hz3; have HZ3 := hid hg3; have HL3 := hid bl3; clear hz1 hz2 hz3 hz4 hg3 bl3) | (go_at_call 85; refine (compact_gen w2.heap.size N w2.heap.size zs w3 HZL.out (by omega) HH3.out HZ3.out (Nat.le_refl _)).mono ?_; rintro e w4 ⟨rfl, hH4, hg4, bl4⟩; have HH4 := hid hH4; have HZ4 := hid hg4; have HL4 := hid (HL3.out.trans bl4); obtain ⟨ys, hys⟩ : ∃ ys, Lib.compact zs = ys := ⟨_, rfl⟩; rw [hys] at HH4; have HIS : Hid (IsSet (labsOf FL) ys) := (by have h9 := Nm.isSet_compact HZP.out HZS.out; rw [hys, gs_labs HG2.out] at h9; exact h9); have HYL : Hid (ys.length ≤ N) := (by have h9 := compact_len zs; rw [hys, HZL.out] at h9; exact h9); rw [hys]; generalize hml : ys.length = ml at HH4 HYL; have HML := hid hml; have Y4 := hid (Y2.out.stays HL4.out); have y4 := Y4.out.cell; have z4 := Y4.out.frozen; have HG4 := hid (HG2.out.stays HL4.out); have HB4 := hid (HB2.out.trans (HL4.out.mono HB2.out.size)); clear hH4 hg4 bl4 hys hml HH3 HZP HZS HZL HZ3))
  · have hlt : ml < N := by omega
    have HR : Hid (recA FL = (zeroA, 20)) := by show _ = _; unfold recA; rw [setOf_eq HIS.out, HML.out, HN.out, if_pos hlt]
    refine bodyPost_ret (v := .tuple #[.agg #[.int .i64 0, .int .i64 0, .slice none 0 0, .slice none 0 0], .int .i64 20]) (by rw [results_cell2t (fn := Tryz.f43) (p := 2) (a := 3) (ty := 28) (by kernel_rfl)]; simp [go_sem, y4, z4]) rfl ?_
    rw [HR.out]
    exact AnsOf.err 20 (HSS.out _ _ _ (HSS.out _ _ _ (HSS.out _ _ _ (HSS.out _ _ _ HB4.out))))
  · have hmN : ml = N := by have := HYL.out; omega
    subst hmN
    have hYN : ys.length = ml := HML.out
    have HHY := hid (HH4.out rfl)
    have HAS := hid HIS.out.ascA
    have HSE := hid (setOf_eq HIS.out)
    have X5 : Hid (Fil w4.heap.size ml (fillF ys (FL.take 0)) 0 M.toList (w4.alloc (.cells M 28))) := (Fil.start (w := w4) ml M HM.out).congr (fun i => rfl)
    have B5 : Hid (Below w4.heap.size w4 (w4.alloc (.cells M 28))) := bl_alloc (Below.refl _ _) _
    have hLk : w2.heap.size < w4.heap.size := HZ4.out
    have hwL : w.heap.size < w2.heap.size := Y2.out.lt
    have HHYL := hid hYN
    have HNN := hid HN.out
    clear HH4 HYL HML hmk2 HG2 Y2 HB2 HL3 HL4 HB1 Y1 HQ1 y4 z4 hYN HM
    generalize (w4.alloc (.cells M 28)) = W5 at X5 B5 ⊢
    generalize M.toList = cur0 at X5
    obtain ⟨kb, hkb⟩ : ∃ kb, w4.heap.size = kb := ⟨_, rfl⟩
    rw [hkb] at X5 B5 hLk ⊢
    have HKB := hid hkb
    generalize w2.heap.size = lb at HHY hLk hwL ⊢
    clear hkb
    simp only [Nat.lt_irrefl, decide_false]
    go_loopw [29] (fun u wr => ∃ (i K : Nat) (cur : List Value), u = .int .i64 i ∧ i ≤ ml ∧ Hid (Fil kb ml (fillF ys (FL.take i)) K cur wr) ∧ Hid (Below kb w4 wr) ∧ Hid (firstErr (FL.take i) = 0)) (fun u _ => ml - (intOf u).toNat)
    case atStart => exact ⟨0, 0, _, rfl, Nat.zero_le _, X5, B5, rfl⟩
    case round =>
      obtain ⟨i, K, cur, rfl, hil, hP, hB, hE⟩ := hrel
      clear X5 B5 W5 cur0
      have hkw : kb < wr.heap.size := hP.out.arr.lt
      have HBw : Hid (Below w.heap.size w wr) := HB4.out.trans (hB.out.mono (by omega))
      have Yr := hid (arr_on Y4.out hB.out (by omega))
      by_cases hlt : i < ml
      · obtain ⟨x, hx⟩ : ∃ x, FL[i]? = some x := ⟨_, List.getElem?_eq_getElem (by have := HNN.out; omega)⟩
        obtain ⟨f, hf⟩ : ∃ f, fs[i]? = some f := ⟨_, List.getElem?_eq_getElem (by have := HG4.out.len; have := HNN.out; omega)⟩
        obtain ⟨hlab, hent, bx, hbx, hcall⟩ := HG4.out.mks i f x hf hx
        obtain ⟨g, c, hv, hg, u0, u1⟩ := gs_cells HG4.out hf
        rw [HNN.out] at hv
        injection hv with e1 e2 e3
        subst e1
        rw [HKB.out] at hg
        have k0 := (hB.out.cell (p := ⟨g, i * 2, none⟩) hg).trans u0
        have k1 := (hB.out.cell (p := ⟨g, i * 2 + 1, none⟩) hg).trans u1
        obtain ⟨lab, fg, fb⟩ := f
        obtain ⟨xl, y, xe⟩ := x
        have hlab : lab = xl := hlab
        subst hlab
        simp only at k0 k1 hent hcall
        unfold Enters at hent
        have D : Below wr.heap.size wr (wr.alloc (.cells #[.string lab, .func (.func fg) #[] fb] 169)) := bl_alloc (Below.refl _ _) _
        have HDk : Hid (Below kb w4 (wr.alloc (.cells #[.string lab, .func (.func fg) #[] fb] 169))) := hB.out.trans (D.mono (by omega))
        have HDw : Hid (Below w.heap.size w (wr.alloc (.cells #[.string lab, .func (.func fg) #[] fb] 169))) := bl_tr HBw.out D
        have HQ : Hid (Calls Tryz.prog fg fb (wr.alloc (.cells #[.string lab, .func (.func fg) #[] fb] 169)) (AnsOf (wr.alloc (.cells #[.string lab, .func (.func fg) #[] fb] 169)) (y, xe))) := hcall _ (HG4.out.bl.trans (HDk.out.mono (Nat.le_trans HG4.out.lo (by have := HG4.out.gt.g.lt; rw [HKB.out] at this; omega)))) (fun z hz => arr_on (hbx z hz).2.2 HDk.out (by have := (hbx z hz).2.2.lt; rw [HKB.out] at this; exact this))
        have HPa := hid (hP.out.stays D)
        have Ya := hid (Yr.out.stays D)
        have Xa : Hid (Arr (wr.alloc (.cells #[.string lab, .func (.func fg) #[] fb] 169)) wr.heap.size 169 [.string lab, .func (.func fg) #[] fb]) := ⟨heap_alloc_at _ _⟩
        have HFE := hid (firstErr_take hx hE.out)
        have HFT := hid (fun p => fillF_take (ys := ys) hx p)
        have hmem : lab.data.toList ∈ ys := by
          rw [HIS.out.mem]
          unfold labsOf bytesL
          exact List.mem_map.2 ⟨lab, List.mem_map.2 ⟨_, List.mem_of_getElem? hx, rfl⟩, rfl⟩
        obtain ⟨pp, hpp⟩ := List.getElem?_of_mem hmem
        have hppn : pp < ml := by have := (List.getElem?_eq_some_iff.1 hpp).1; have := HHYL.out; omega
        have HPP := hid hpp
        have HSr : Hid (∀ wz, Below kb w4 wz → Calls Tryz.prog 86 #[.slice (some ⟨lb, 0, none⟩) ml ml, .string lab, .func (.func 87) #[] #[]] wz fun e w' => e = .returned (.tuple #[.int .i64 pp, .bool true]) ∧ w' = wz) := fun wz hz => by
          have := search_all wz lb ml pp ys _ HHYL.out hNb (holds_on HHY.out hz hLk) HAS.out hpp
          rw [ba_eta] at this
          exact this
        have hcl : ∀ k, k < 4 → pp * 4 + k < cur.length := fun k hk => by have := hP.out.len; omega
        obtain ⟨t0, ht0⟩ : ∃ u, cur[pp * 4]? = some u := ⟨_, List.getElem?_eq_getElem (hcl 0 (by omega))⟩
        obtain ⟨t1, ht1⟩ : ∃ u, cur[pp * 4 + 1]? = some u := ⟨_, List.getElem?_eq_getElem (hcl 1 (by omega))⟩
        obtain ⟨t2, ht2⟩ : ∃ u, cur[pp * 4 + 2]? = some u := ⟨_, List.getElem?_eq_getElem (hcl 2 (by omega))⟩
        obtain ⟨t3, ht3⟩ : ∃ u, cur[pp * 4 + 3]? = some u := ⟨_, List.getElem?_eq_getElem (hcl 3 (by omega))⟩
        have hka : kb < (wr.alloc (.cells #[.string lab, .func (.func fg) #[] fb] 169)).heap.size := by rw [size_alloc]; omega
        have HKA := hid hka
        have hppb : pp ≤ 4194304 := by omega
        clear hcall hbx bx u0 u1 e2 e3 hf hx hcl hpp hmem D hP hE hka
        by_cases hxe : xe = 0
        · subst hxe
          have HFE0 : Hid (firstErr (FL.take (i + 1)) = 0) := HFE.out.1
          go_wp2_with (first | (go_at_call 86; refine (HSr.out _ HDk2.out).mono ?_; rintro e w' ⟨rfl, hw⟩; rw [hw]; clear hw w') | (refine HQ.out.mono ?_; rintro e w6 ⟨⟨p', q', p2, q2, N6, rfl, hT6⟩, b6⟩; have hb6 := bl_alloc b6 (.cells #[.int .i64 y.k, .int .i64 y.n, .slice p' y.ls.length q', .slice p2 y.ks.length q2] 28); have HDk2 : Hid (Below kb w4 (w6.alloc (.cells #[.int .i64 y.k, .int .i64 y.n, .slice p' y.ls.length q', .slice p2 y.ks.length q2] 28))) := HDk.out.trans (hb6.mono (by have := HKA.out; omega)); have HP6 := hid (HPa.out.stays hb6); have X6 := hid (Xa.out.stays hb6); have x6 := X6.out.cell; have A6 : Hid (Arr (w6.alloc (.cells #[.int .i64 y.k, .int .i64 y.n, .slice p' y.ls.length q', .slice p2 y.ks.length q2] 28)) w6.heap.size 28 [.int .i64 y.k, .int .i64 y.n, .slice p' y.ls.length q', .slice p2 y.ks.length q2]) := ⟨heap_alloc_at _ _⟩; have a6 := A6.out.cell; have T6 : Hid (Tgt.TAt (w6.alloc (.cells #[.int .i64 y.k, .int .i64 y.n, .slice p' y.ls.length q', .slice p2 y.ks.length q2] 28)) (fun b => kb < b) N6 [.int .i64 y.k, .int .i64 y.n, .slice p' y.ls.length q', .slice p2 y.ks.length q2] y) := (hT6.below (bl_alloc (Below.refl _ _) _)).move (Tgt.Keeps.refl _ _) (fun b hb => Nat.lt_of_lt_of_le HKA.out hb); have fz := HP6.out.arr.frozen; have z0 := (HP6.out.arr.cell (pp * 4)).trans ht0; have z1 := (HP6.out.arr.cell (pp * 4 + 1)).trans ht1; have z2 := (HP6.out.arr.cell (pp * 4 + 2)).trans ht2; have z3 := (HP6.out.arr.cell (pp * 4 + 3)).trans ht3; clear b6 hb6 hT6 HQ k0 k1))
          go_roundw
          case rel =>
            have hsk : ∀ (W : World) q u, Below kb w4 W → Below kb w4 (W.setCell ⟨kb, q, none⟩ u) := fun W q u h => h.setCell (p := ⟨kb, q, none⟩) (Nat.le_refl _) u
            refine ⟨i + 1, _, _, by go_num, by omega, (HP6.out.store hppn T6.out).congr (fun j => ?_), hsk _ _ _ (hsk _ _ _ (hsk _ _ _ (hsk _ _ _ HDk2.out))), HFE0⟩
            rw [HFT.out j]
            by_cases hj : j = pp
            · subst hj; rw [if_pos HPP.out, if_pos rfl]
            · rw [if_neg hj, if_neg (fun h9 => hj (HAS.out.inj h9 HPP.out))]
          case measure => simp [intOf]; omega
        · have hxb : (xe != 0) = true := by rw [bne_iff_ne]; exact hxe
          have HR : Hid (recA FL = (zeroA, xe)) := by
            have h9 := HFE.out.2 hxe
            have h9 : firstErr FL = xe := h9
            show _ = _
            unfold recA
            rw [HSE.out, HHYL.out, HNN.out, if_neg (Nat.lt_irrefl _), if_pos (by rw [h9]; exact hxe), h9]
          clear hxe
          go_wp2_with (refine HQ.out.mono ?_; rintro e w6 ⟨⟨p', q', p2, q2, N6, rfl, -⟩, b6⟩; have hb6 := bl_alloc b6 (.cells #[.int .i64 y.k, .int .i64 y.n, .slice p' y.ls.length q', .slice p2 y.ks.length q2] 28); have HB6 := hid (bl_tr HDw.out hb6); have r6 := (Ya.out.stays hb6).cell; have s6 := (Ya.out.stays hb6).frozen; clear b6 hb6 HQ k0 k1)
          refine bodyPost_ret (v := .tuple #[.agg #[.int .i64 0, .int .i64 0, .slice none 0 0, .slice none 0 0], .int .i64 xe]) (by rw [results_cell2t (fn := Tryz.f43) (p := 2) (a := 3) (ty := 28) (by kernel_rfl)]; simp [go_sem, r6, s6]) rfl ?_
          rw [HR.out]
          exact AnsOf.err xe (HSS.out _ _ _ (HSS.out _ _ _ (HSS.out _ _ _ (HSS.out _ _ _ HB6.out))))
      · obtain rfl : i = ml := by omega
        have hfe : firstErr FL = 0 := by have h9 := hE.out; rw [List.take_of_length_le (by rw [HNN.out]; exact Nat.le_refl _)] at h9; exact h9
        rw [List.take_of_length_le (by rw [HNN.out]; exact Nat.le_refl _)] at hP
        have HR : Hid (recA FL = (.mk 7 0 (toBA ys) (kidsOf ys FL), 0)) := by
          show _ = _
          unfold recA
          rw [HSE.out, HHYL.out, HNN.out, if_neg (Nat.lt_irrefl _), if_neg (by rw [hfe]; simp)]
        have r0 := Yr.out.cell
        have r1 := Yr.out.frozen
        go_wp2
        refine bodyPost_ret (v := .tuple #[.agg #[.int .i64 7, .int .i64 0, .slice (some ⟨lb, 0, none⟩) i i, .slice (some ⟨kb, 0, none⟩) i i], .int .i64 0]) (by rw [results_cell2t (fn := Tryz.f43) (p := 2) (a := 3) (ty := 28) (by kernel_rfl)]; simp [go_sem, r0, r1]) rfl ?_
        rw [HR.out]
        have hK : ∀ (W : World) q u, Tgt.Keeps (fun b => w.heap.size + 1 ≤ b) W (W.setCell ⟨w.heap.size, q, none⟩ u) := fun W q u b o v hb hv => by have hb : w.heap.size + 1 ≤ b := hb; rw [World.cell?_of_block (w := W) (Below.heap_setCell _ _ _ _ (by show b ≠ w.heap.size; omega))]; exact hv
        have hKK := fun W u0 u1 u2 u3 => (((hK W 0 u0).trans (hK _ 1 u1)).trans ((hK _ 2 u2).trans (hK _ 3 u3)))
        have hKW := hKK wr (.int .i64 7) (.int .i64 0) (.slice (some ⟨lb, 0, none⟩) i i) (.slice (some ⟨kb, 0, none⟩) i i)
        have hlT : (toBA ys).length = i := by unfold toBA; rw [List.length_map]; exact HHYL.out
        have hlK : (kidsOf ys FL).length = i := by rw [kidsOf_len]; exact HHYL.out
        have hTL := hP.out.fin (fun b o v hb hv => hKW b o v (by have hb : kb ≤ b := hb; show _ ≤ b; omega) hv) (l := kidsOf ys FL) hlK (fun j y hy => kidsOf_at HIS.out hy) (by omega)
        refine ⟨⟨some ⟨lb, 0, none⟩, i, some ⟨kb, 0, none⟩, i, K + 1, ?_, ?_⟩, HSS.out _ _ _ (HSS.out _ _ _ (HSS.out _ _ _ (HSS.out _ _ _ HBw.out)))⟩
        · show _ = Ending.returned (.tuple #[.agg #[.int .i64 7, .int .i64 0, .slice (some ⟨lb, 0, none⟩) (toBA ys).length i, .slice (some ⟨kb, 0, none⟩) (kidsOf ys FL).length i], .int .i64 0])
          rw [hlT, hlK]
        · show Tgt.TAt _ _ _ [.int .i64 7, .int .i64 0, .slice (some ⟨lb, 0, none⟩) (toBA ys).length i, .slice (some ⟨kb, 0, none⟩) (kidsOf ys FL).length i] _
          rw [hlT, hlK]
          refine ⟨_, _, rfl, (⟨by omega, by omega⟩ : Tgt.R64 7), (⟨by omega, by omega⟩ : Tgt.R64 0), .inl ⟨lb, 0, i, by show _ = Value.slice _ (toBA ys).length i; rw [hlT], by show w.heap.size ≤ lb; omega, by show (toBA ys).length ≤ i; omega, by show (toBA ys).length ≤ maxLen; unfold maxLen; omega, fun j s hs => ?_⟩, Tgt.TAtL.move hTL (Tgt.Keeps.refl _ _) (fun b hb => by have hb : kb ≤ b := hb; show w.heap.size ≤ b; omega)⟩
          have hs : (toBA ys)[j]? = some s := hs
          unfold toBA at hs
          rw [List.getElem?_map] at hs
          obtain ⟨z, hz, e⟩ := Option.map_eq_some_iff.1 hs
          obtain ⟨hj, ez⟩ := List.getElem?_eq_some_iff.1 hz
          refine hKW lb _ _ (by show _ ≤ lb; omega) ?_
          have h9 := (holds_on HHY.out hB.out hLk j (by simpa using hj)).1
          rw [h9, ← e]
          simp [encStr, hj, ez]
end Go.Proofs.YtigliglmejkakaaGreat

namespace Go.Proofs.YtigliglmejkakaaGreat
open Go.RowKit
set_option linter.unusedVariables false
set_option linter.unusedSimpArgs false

/-- The error of stamps that are bound, from the first one on. -/
def bindE (s : List Int) : List Int → Int
  | [] => 0
  | x :: r => if ¬ (0 ≤ x ∧ x ≤ 2147483647) then 1 else if x ∈ s then 20 else bindE (s ++ [x]) r

set_option maxHeartbeats 2000000 in
set_option maxRecDepth 100000 in
theorem mayBind_all (w : World) (v : Value) (l : List Int) (h : Ls w Any v l) (h64 : ∀ x ∈ l, R64 x) (hn : l.length ≤ 1048576) : Calls Tryz.prog 81 #[v] w fun e w' => e = .returned (.int .i64 (bindE [] l)) ∧ Below w.heap.size w w' := by
  obtain ⟨a, c, rfl, hm⟩ := h.form
  unfold maxLen at hm
  have hmm := run_makeMap_some l.length
  have HL := hid h
  have H64 := hid h64
  have X : Hid (Told (w.alloc (.map #[] 0)) w.heap.size 0 [] ∧ Below w.heap.size w (w.alloc (.map #[] 0))) := ⟨told_new w, bl_alloc (Below.refl _ _) _⟩
  clear h h64
  go_enter Tryz.func81, Tryz.ntmps81
  go_wp2
  generalize (w.alloc (.map #[] 0)) = W1 at X ⊢
  clear hmm
  go_loopw [13] (fun u wr => ∃ k : Nat, u = .int .i64 k ∧ k ≤ l.length ∧ Hid (Told wr w.heap.size k (l.take k)) ∧ Hid (Below w.heap.size w wr) ∧ Hid (bindE [] l = bindE (l.take k) (l.drop k))) (fun u _ => l.length - (intOf u).toNat)
  case atStart => exact ⟨0, rfl, Nat.zero_le _, X.out.1, X.out.2, rfl⟩
  case round =>
    obtain ⟨k, rfl, hk, hT, hB, hE⟩ := hrel
    clear X W1
    by_cases hlt : k < l.length
    · obtain ⟨b, o, c', hv, -, -, -, hl⟩ := HL.out.resolve_right (fun h => by rw [h.1] at hlt; exact absurd hlt (Nat.not_lt_zero _))
      injection hv with e1 e2 e3
      subst e1
      obtain ⟨x, hx⟩ : ∃ x, l[k]? = some x := ⟨_, List.getElem?_eq_getElem hlt⟩
      have hc := (hB.out.cell (p := ⟨b, o + k, none⟩) (World.block_lt_of_cell? _ _ (hl k x hx))).trans (hl k x hx)
      have hdr : l.drop k = x :: l.drop (k + 1) := by obtain ⟨h1, e1⟩ := List.getElem?_eq_some_iff.1 hx; rw [List.drop_eq_getElem_cons h1, e1]
      have hEE := hE.out
      rw [hdr, bindE] at hEE
      have HEE := hid hEE
      have HFi : Hid (∀ wz, Calls Tryz.prog 50 #[.int .i64 x] wz fun e w' => e = .returned (.bool (decide (0 ≤ x ∧ x ≤ 2147483647))) ∧ w' = wz) := fun wz => fits_any wz x
      have hx64 := H64.out x (List.mem_of_getElem? hx)
      clear hl e2 e3 hdr hEE hE
      by_cases hf : 0 ≤ x ∧ x ≤ 2147483647
      · rw [decide_eq_true hf] at HFi
        have hE1 : Hid (bindE [] l = if x ∈ l.take k then 20 else bindE (l.take k ++ [x]) (l.drop (k + 1))) := by show _ = _; rw [HEE.out, if_neg (fun h9 => h9 hf)]
        have hlk := hT.out.look x hx64
        clear HEE hf
        by_cases hs : x ∈ l.take k
        · have HR : Hid (bindE [] l = 20) := by show _ = _; rw [hE1.out, if_pos hs]
          rw [decide_eq_true hs] at hlk
          clear hE1 hs hx
          go_wp2_with (go_at_call 50; refine (HFi.out _).mono ?_; rintro e w2 ⟨rfl, hw⟩; rw [hw]; clear hw w2)
          go_ret
          exact ⟨by rw [HR.out]; rfl, bl_alloc hB.out _⟩
        · have HR : Hid (bindE [] l = bindE (l.take k ++ [x]) (l.drop (k + 1))) := by show _ = _; rw [hE1.out, if_neg hs]
          rw [decide_eq_false hs] at hlk
          obtain ⟨w2, hr2, hT2, hG2⟩ := (hT.out.stays (bl_alloc (Below.refl wr.heap.size wr) (.cells #[] 107))).put x hx64 (by unfold maxLen; omega)
          have hCw : w.heap.size < wr.heap.size := by obtain ⟨_, hm, -⟩ := hT.out; exact hm.lt
          have hB2 : Below w.heap.size w w2 := by
            obtain ⟨g1, g2, g3, g4, g5⟩ := hG2
            exact (bl_alloc hB.out _).trans ⟨g1, g2, g3, g4, fun j hj => g5 j (by simp; omega) (fun e => by injection e with e; omega)⟩
          have HT2 : Hid (Told w2 w.heap.size (k + 1) (l.take (k + 1))) := by show Told _ _ _ _; rw [take_next hx]; exact hT2
          have HB2 := hid hB2
          have HTK : Hid (l.take (k + 1) = l.take k ++ [x]) := by show _ = _; rw [List.take_add_one, hx]; rfl
          clear hE1 hs hx hT2 hG2 hB2 hT
          go_wp2_with (first | (go_at_call 50; refine (HFi.out _).mono ?_; rintro e w2 ⟨rfl, hw⟩; rw [hw]; clear hw w2) | (at_mapUpdate; refine wpList_mapUp rfl _ _ _ _ rfl _ _ _ rfl rfl rfl _ hr2 ?_))
          go_roundw
          case rel => exact ⟨k + 1, by go_num, by omega, HT2, HB2, by show _ = _; rw [HTK.out]; exact HR.out⟩
          case measure => simp [intOf]; omega
      · rw [decide_eq_false hf] at HFi
        have HR : Hid (bindE [] l = 1) := by show _ = _; rw [HEE.out, if_pos hf]
        clear HEE hf hx
        go_wp2_with (go_at_call 50; refine (HFi.out _).mono ?_; rintro e w2 ⟨rfl, hw⟩; rw [hw]; clear hw w2)
        go_ret
        exact ⟨by rw [HR.out]; rfl, hB.out⟩
    · obtain rfl : k = l.length := by omega
      have HR : Hid (bindE [] l = 0) := by show _ = _; rw [hE.out, List.drop_length]; rfl
      clear hE
      go_wp2
      go_ret
      exact ⟨by rw [HR.out]; rfl, hB.out⟩
end Go.Proofs.YtigliglmejkakaaGreat

namespace Go.Proofs.YtigliglmejkakaaGreat
open Go.RowKit Go.Shelf
set_option linter.unusedVariables false
set_option linter.unusedSimpArgs false
attribute [local go_sem] Oper.semAt_some

abbrev bkEnc (x : Nat × Int) : Array Value := #[.int .i64 (x.1 : Nat), .int .i64 x.2]
/-- The places below one, from the last on, with their numbers. -/
def restL (l : List Int) : Nat → List (Nat × Int)
  | 0 => []
  | j + 1 => (j, l.getD j 0) :: restL l j
theorem restL_len (l : List Int) : ∀ j, (restL l j).length = j
  | 0 => rfl
  | j + 1 => by rw [restL, List.length_cons, restL_len l j]
set_option maxHeartbeats 400000 in
theorem backward_in (n : Nat) (a : Option Addr) (k c : Nat) (w : World) :
    CallsIn Fence.wide n Tryz.prog 104 #[.slice a k c] w fun e w' => e = .returned (.func (.func 124) #[] #[.pointer (some ⟨w.heap.size, 0, none⟩)]) ∧ w' = w.alloc (.cells #[.slice a k c] 38) := by
  refine callsIn_of_wp Tryz.func104 rfl trivial ?_ rfl
  simp only [Tryz.ntmps104, List.size_toArray, List.length_cons, List.length_nil, Nat.reduceAdd, Nat.reduceSub, Array.replicate_succ, Array.replicate_zero, List.push_toArray, List.append_toArray, List.nil_append, List.cons_append]
  gi_wp2
  go_ret
  exact ⟨rfl, rfl⟩
/-- What a round must keep: the iterator's box, and the numbers. -/
def KpI (B : Nat) (v : Value) (l : List Int) (W W' : World) : Prop := (Arr W B 38 [v] ∧ Ls W Any v l) → (Arr W' B 38 [v] ∧ Ls W' Any v l)
theorem KpI.t {B : Nat} {v : Value} {l : List Int} {X Y Z : World} (h : KpI B v l X Y) (k : KpI B v l Y Z) : KpI B v l X Z := fun x => k (h x)
/-- Where a block that is no cells changes, every cell stays. -/
theorem keeps_row {W W' : World} {row : Option Nat} (hg : W.grownBy W' row) (hr : ∀ r, row = some r → ∃ o : Obj, W.heap[r]? = some o ∧ o.isCells = false) : (∀ (b o : Nat) v, W.cell? ⟨b, o, none⟩ = some v → W'.cell? ⟨b, o, none⟩ = some v) ∧ ∀ (b : Nat) T cur, Arr W b T cur → Arr W' b T cur := by
  refine ⟨fun b o v hv => ?_, fun b T cur h => ?_⟩
  · have hb : b < W.heap.size := World.block_lt_of_cell? _ _ hv
    refine (World.cell?_of_block (w := W) (hg.block b hb (fun e => ?_))).trans hv
    obtain ⟨ob, h1, h2⟩ := hr b e.symm
    rw [World.cell?] at hv
    simp only [h1] at hv
    cases ob <;> first | (simp at hv; done) | (cases h2; done)
  · refine h.grown hg (fun e => ?_)
    obtain ⟨ob, h1, h2⟩ := hr b e.symm
    rw [h.b] at h1
    injection h1 with h1
    subst h1
    cases h2
theorem KpI.b {B : Nat} {v : Value} {l : List Int} {w : World} (W : World) (k : Nat) (o o' : Obj) (_ : w.heap.size ≤ k) (h : W.heap[k]? = some o) (hc : o.isCells = false) (_ : o.isWalk = false) : KpI B v l W (W.putObj k o') := fun x => by
  have := keeps_row (grownBy_putObj' W k o') (fun r e => by cases e; exact ⟨o, h, hc⟩)
  exact ⟨this.2 _ _ _ x.1, x.2.move (fun b o v _ hv => this.1 b o v hv) fun _ h => h⟩

set_option maxRecDepth 100000 in
set_option maxHeartbeats 1000000 in
theorem backward1_in (n : Nat) (hn : 1 ≤ n) (y B : Nat) (v : Value) (l : List Int) (hl : l.length ≤ 1048576) (J Jx : List (Nat × Int) → World → Prop)
    (hY : ∀ pre x W, x.2 ∈ l → J pre W → pre.length < l.length → YieldAt Fence.wide (n - 1) Tryz.prog y (bkEnc x) W fun e W' =>
      (e = .returned (.bool true) ∧ J (pre ++ [x]) W' ∧ KpI B v l W W') ∨ (e = .returned (.bool false) ∧ Jx (pre ++ [x]) W'))
    (W : World) (hB : Arr W B 38 [v] ∧ Ls W Any v l) (h0 : J [] W) :
    CallsIn Fence.wide n Tryz.prog 124 #[.func (.yield y) #[] #[], .pointer (some ⟨B, 0, none⟩)] W fun e W' => (∃ v, e = .returned v) ∧
      ((∃ ys : List (Nat × Int), ys = restL l l.length ∧ J ys W') ∨ (∃ pre : List (Nat × Int), True ∧ Jx pre W')) := by
  obtain ⟨a, c, rfl, hm⟩ := hB.2.form
  have c0 := hB.1.cell 0
  simp only [List.getElem?_cons_zero] at c0
  have hws : IntKind.i64.wrap ((l.length : Int) - 1) = (l.length : Int) - 1 := by rw [IntKind.wrap_i64]; omega
  refine callsIn_of_wp Tryz.func124 rfl trivial ?_ rfl
  simp only [Tryz.ntmps124, List.size_toArray, List.length_cons, List.length_nil, Nat.reduceAdd, Nat.reduceSub, Array.replicate_succ, Array.replicate_zero, List.push_toArray, List.append_toArray, List.nil_append, List.cons_append]
  gi_wp2
  gi_loopw [3] (fun p wr => ∃ (j : Nat) (pre : List (Nat × Int)), p = .int .i64 ((j : Int) - 1) ∧ j ≤ l.length ∧ Hid (pre ++ restL l j = restL l l.length) ∧ Hid (J pre wr) ∧ Hid (Arr wr B 38 [.slice a l.length c] ∧ Ls wr Any (.slice a l.length c) l))
    (fun p _ => (intOf p + 1).toNat)
  case atStart => exact ⟨l.length, [], by first | rfl | (rw [hws]), Nat.le_refl _, rfl, h0, hB⟩
  case round =>
    obtain ⟨j, pre, rfl, hj, hx, hJs, hbx⟩ := hrel
    have d0 := hbx.out.1.cell 0
    simp only [List.getElem?_cons_zero] at d0
    by_cases h0' : 0 < j
    · obtain ⟨i, rfl⟩ : ∃ i, j = i + 1 := ⟨j - 1, by omega⟩
      have hji : ((i + 1 : Nat) : Int) - 1 = (i : Int) := by omega
      rw [hji]
      obtain ⟨x, hxi⟩ : ∃ x, l[i]? = some x := ⟨_, List.getElem?_eq_getElem (by omega)⟩
      obtain ⟨b, o, c', hv, -, -, -, hlc⟩ := hbx.out.2.resolve_right (fun h => by rw [h.1] at hj; exact absurd hj (by simp))
      injection hv with e1 e2 e3
      subst e1
      have hc := hlc i x hxi
      have hgd : l.getD i 0 = x := by rw [List.getD_eq_getElem?_getD, hxi]; rfl
      have HX : Hid ((pre ++ [(i, x)]) ++ restL l i = restL l l.length) := by show _ = _; rw [← hx.out, restL, hgd, List.append_assoc]; rfl
      have hpl : pre.length < l.length := by have := congrArg List.length hx.out; rw [List.length_append, restL_len, restL_len] at this; omega
      obtain ⟨fn, tmps, assign, body, hy, hR⟩ := hY pre (i, x) wr (List.mem_of_getElem? hxi) hJs.out hpl
      have hws2 : IntKind.i64.wrap ((i : Int) - 1) = (i : Int) - 1 := by rw [IntKind.wrap_i64]; omega
      have hlt : i < l.length := by omega
      dsimp only [bkEnc] at hy
      clear hlc e2 e3 hxi hgd hx hY
      gi_wp2
      refine hR.mono ?_
      rintro e W3 (⟨rfl, hJ3, hk3⟩ | ⟨rfl, hJx3⟩)
      · have hb3 := hk3 hbx.out
        gi_wp2
        go_roundw
        case rel => exact ⟨i, _, by first | rfl | (rw [hws2]), by omega, HX, hJ3, hb3⟩
        case measure => simp [intOf] <;> omega
      · gi_wp2
        first | refine bodyPost_ret (results_none rfl _ _ _) rfl ?_ | refine bodyPost_end (results_none rfl _ _ _) rfl ?_
        exact ⟨⟨_, rfl⟩, .inr ⟨_, trivial, hJx3⟩⟩
    · obtain rfl : j = 0 := by omega
      gi_wp2
      first | refine bodyPost_ret (results_none rfl _ _ _) rfl ?_ | refine bodyPost_end (results_none rfl _ _ _) rfl ?_
      exact ⟨⟨_, rfl⟩, .inl ⟨_, by have := hx.out; rw [restL, List.append_nil] at this; exact this, hJs.out⟩⟩
theorem backward_stops (n : Nat) (hn : 1 ≤ n) (B : Nat) (v : Value) (l : List Int) (hl : l.length ≤ 1048576) (h64 : ∀ x ∈ l, Tgt.R64 x) (w : World) (hc : Arr w B 38 [v] ∧ Ls w Any v l) :
    SeqStopsK (α := {p : Nat × Int // Tgt.R64 p.2}) Fence.wide n Tryz.prog 124 #[.pointer (some ⟨B, 0, none⟩)] (fun x => bkEnc x.1) (KpI B v l) (fun ys => ys.map (·.1) = restL l l.length) (fun pre => True) l.length w := fun y J Jx W hW _ _ hY h0 => by
  refine (backward1_in n hn y B v l hl (fun pre W => ∃ p', p'.map (·.1) = pre ∧ J p' W) (fun pre W => ∃ p', p'.map (·.1) = pre ∧ Jx p' W) ?_ W ⟨hc.1.stays hW, hc.2.below hW⟩ ⟨[], rfl, h0⟩).mono ?_
  · rintro pre x W1 hx ⟨p', rfl, hJ⟩ hlt
    refine (hY p' ⟨x, h64 _ hx⟩ W1 hJ (by simpa using hlt)).mono ?_
    rintro e W' (⟨rfl, h1, h2⟩ | ⟨rfl, h1⟩)
    · exact .inl ⟨rfl, ⟨_, by simp, h1⟩, h2⟩
    · exact .inr ⟨rfl, ⟨_, by simp, h1⟩⟩
  · rintro e W' ⟨hv, h⟩
    refine ⟨hv, ?_⟩
    rcases h with ⟨ys, rfl, p', hp, hJ⟩ | ⟨pre, -, p', -, hJ⟩
    · exact .inl ⟨p', hp, hJ⟩
    · exact .inr ⟨p', trivial, hJ⟩
end Go.Proofs.YtigliglmejkakaaGreat
