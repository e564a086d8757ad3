/- The gatherer's method types on any structure. The gatherer's methods vals, subs, funs on any structure. -/
import Derived.Test.YtigliglmejkakaaGreatRbd
namespace Go.Proofs.YtigliglmejkakaaGreat
open Go.RowKit
set_option linter.unusedVariables false
set_option linter.unusedSimpArgs false

def labO (s : ByteArray) : ByteArray := ⟨#[111, 117, 116, 32]⟩ ++ s
def labC (s : ByteArray) : ByteArray := s ++ ⟨#[40, 41]⟩
/-- A datatype's labels. -/
def flT1 (x : Tm) : List (ByteArray × An) := if x.cs.length = 0 then [] else (labO x.nm, outA x) :: x.cs.map fun c => (labC c.nm, conA x.t.n c)
def flT : List Tm → List (ByteArray × An)
  | [] => []
  | x :: r => flT1 x ++ flT r
theorem flT_app (l : List Tm) (x : Tm) : flT (l ++ [x]) = flT l ++ flT1 x := by
  induction l with
  | nil => simp [flT]
  | cons y r ih => simp only [List.cons_append, flT, ih, List.append_assoc]
theorem flT_take {l : List Tm} {i : Nat} {x : Tm} (hx : l[i]? = some x) : flT (l.take (i + 1)) = flT (l.take i) ++ flT1 x := by
  rw [List.take_add_one, hx]; exact flT_app _ _
theorem flT1_len (x : Tm) : (flT1 x).length ≤ x.wt := by
  unfold flT1 Tm.wt
  have := Ct.wt_le x.cs
  split
  · simp
  · simp; have : 1 ≤ x.t.cnt := by cases x.t; rw [Tp.cnt]; omega
    omega
theorem flT_len : ∀ l : List Tm, (flT l).length ≤ Tm.wtL l
  | [] => by simp [flT]
  | x :: r => by
    have h1 := flT1_len x
    have h2 := flT_len r
    simp only [flT, List.length_append, Tm.wtL, List.map_cons, List.sum_cons] at *
    omega
theorem wtL_take (l : List Tm) (i : Nat) : Tm.wtL (l.take i) ≤ Tm.wtL l := by
  unfold Tm.wtL
  induction l generalizing i with
  | nil => simp
  | cons x r ih =>
    cases i with
    | zero => simp
    | succ i => simp only [List.take_succ_cons, List.map_cons, List.sum_cons]; have := ih i; omega
theorem wt_le_L {l : List Tm} {x : Tm} (h : x ∈ l) : x.wt ≤ Tm.wtL l := by
  unfold Tm.wtL
  induction l with
  | nil => cases h
  | cons y r ih =>
    simp only [List.map_cons, List.sum_cons]
    rcases List.mem_cons.1 h with rfl | h
    · omega
    · have := ih h; omega

set_option maxHeartbeats 4000000 in
set_option maxRecDepth 100000 in
theorem gtypes_all (w0 w : World) (G base pb po n : Nat) (v0 v : Value) (tms : List Tm) (fl : List (ByteArray × An)) (fs : List Fd) (h : GS w0 G base ⟨pb, po, none⟩ fl fs v w) (hP : w0.cell? ⟨pb, po, none⟩ = some v0) (hR : RowAt w0 5 (ETy w0 n) v0 tms) (hfl : fl.length ≤ 1048576) (hwt : Tm.wtL tms ≤ 1048576) :
    Calls Tryz.prog 105 #[.pointer (some ⟨G, 0, none⟩)] w fun e w' => e = .returned (.tuple #[]) ∧ (∃ v' fs', GS w0 G base ⟨pb, po, none⟩ (fl ++ flT tms) fs' v' w') ∧ Below G w w' := by
  obtain ⟨ta, tc, rfl, hlm⟩ := hR.form
  unfold maxLen at hlm
  have HP : Hid (∀ wz, Below w0.heap.size w0 wz → wz.cell? ⟨pb, po, none⟩ = some (.slice ta tms.length tc)) := fun wz hz => (hz.cell (p := ⟨pb, po, none⟩) (World.block_lt_of_cell? _ _ hP)).trans hP
  have HR := hid hR
  have HG := hid h
  have g0 := h.gt.g.cell 0
  have q0 := HP.out w h.bl
  simp only [List.getElem?_cons_succ, List.getElem?_cons_zero] at g0
  have hlen : tms.length ≤ 1048576 := by
    have : tms.length ≤ Tm.wtL tms := by
      clear HR HG HP hR h hwt hlm q0 hP
      unfold Tm.wtL
      induction tms with
      | nil => simp
      | cons x r ih => simp only [List.length_cons, List.map_cons, List.sum_cons]; have : 1 ≤ x.wt := by unfold Tm.wt; omega
                       omega
    omega
  have HW := hid hwt
  have HLn := hid hlen
  have HFL := hid hfl
  clear hR h hP hwt hlen hfl
  go_enter Tryz.func105, Tryz.ntmps105
  go_wp2
  go_loopw [14] (fun u wr => ∃ (i : Nat) (v' : Value) (fs' : List Fd), u = .int .i64 i ∧ i ≤ tms.length ∧ Hid (GS w0 G base ⟨pb, po, none⟩ (fl ++ flT (tms.take i)) fs' v' wr) ∧ Hid (Below G w wr)) (fun u _ => tms.length - (intOf u).toNat)
  case atStart => exact ⟨0, v, fs, rfl, Nat.zero_le _, by simpa [flT] using HG, Below.refl _ _⟩
  case round =>
    obtain ⟨i, v', fs', rfl, hil, hS, hB⟩ := hrel
    clear HG
    have hib : i ≤ 1048576 := by have := HLn.out; omega
    by_cases hlt : i < tms.length
    · obtain ⟨x, hx⟩ : ∃ x, tms[i]? = some x := ⟨_, List.getElem?_eq_getElem hlt⟩
      obtain ⟨tb, to_, rfl, htb, vs, hvl, hcells, tvs, cv, rfl, hT, hC, hNM⟩ := HR.out.elem hx
      obtain ⟨a1, c1, rfl⟩ := hT.form
      obtain ⟨a2, c2, rfl, hcm⟩ := hC.form
      unfold maxLen at hcm
      have hxw := wt_le_L (List.mem_of_getElem? hx)
      have hxl : x.nm.size + x.t.cnt + Ct.wt x.cs + 1 ≤ 1048576 := by have := HW.out; unfold Tm.wt at hxw; omega
      have hcwt := Ct.wt_le x.cs
      have HU : Hid (∀ wz, Below w0.heap.size w0 wz → wz.cell? ⟨tb, to_ + i * 5, none⟩ = some (.string x.nm) ∧ wz.cell? ⟨tb, to_ + i * 5 + 1, none⟩ = some (.int .i64 x.t.k) ∧ wz.cell? ⟨tb, to_ + i * 5 + 2, none⟩ = some (.int .i64 x.t.n) ∧ wz.cell? ⟨tb, to_ + i * 5 + 3, none⟩ = some (.slice a1 x.t.ks.length c1) ∧ wz.cell? ⟨tb, to_ + i * 5 + 4, none⟩ = some (.slice a2 x.cs.length c2)) := fun wz hz => ⟨(hz.cell (p := ⟨tb, to_ + i * 5, none⟩) htb).trans (hcells 0 _ rfl), (hz.cell (p := ⟨tb, to_ + i * 5 + 1, none⟩) htb).trans (hcells 1 _ rfl), (hz.cell (p := ⟨tb, to_ + i * 5 + 2, none⟩) htb).trans (hcells 2 _ rfl), (hz.cell (p := ⟨tb, to_ + i * 5 + 3, none⟩) htb).trans (hcells 3 _ rfl), (hz.cell (p := ⟨tb, to_ + i * 5 + 4, none⟩) htb).trans (hcells 4 _ rfl)⟩
      have HO : Hid (∀ wz, Below w0.heap.size w0 wz → Calls Tryz.prog 128 #[.pointer (some ⟨tb, to_ + i * 5, none⟩)] wz fun e w' => AnsOf wz (outA x) e w') := fun wz hz => out_all wz n tb (to_ + i * 5) x a1 a2 c1 c2 (HU.out wz hz).2 (hT.below hz) (hC.below hz) (by omega) (by omega)
      have HC := hid hC
      have HNM := hid hNM
      have HTK := hid (flT_take hx)
      have HL2 : Hid ((fl ++ flT (tms.take i)).length ≤ 2097152) := by
        have h1 := flT_len (tms.take i)
        have h2 := wtL_take tms i
        have h3 := HW.out
        have h4 := HFL.out
        show _ ≤ _
        rw [List.length_append]
        omega
      obtain ⟨FL, hFL⟩ : ∃ FL, fl ++ flT (tms.take i) = FL := ⟨_, rfl⟩
      have HNX : Hid (fl ++ flT (tms.take (i + 1)) = FL ++ flT1 x) := by show _ = _; rw [HTK.out, ← List.append_assoc, hFL]
      rw [hFL] at hS HL2
      have b1 : Below wr.heap.size wr (wr.alloc (.cells #[.pointer (some ⟨tb, to_ + i * 5, none⟩)] 216)) := bl_alloc (Below.refl _ _) _
      have HS1 := hid (hS.out.stays b1)
      have hGw : G < wr.heap.size := hS.out.gt.g.lt
      have M1 : Hid (Arr (wr.alloc (.cells #[.pointer (some ⟨tb, to_ + i * 5, none⟩)] 216)) wr.heap.size 216 [.pointer (some ⟨tb, to_ + i * 5, none⟩)]) := ⟨heap_alloc_at _ _⟩
      have HB1 : Hid (Below G w (wr.alloc (.cells #[.pointer (some ⟨tb, to_ + i * 5, none⟩)] 216))) := hB.out.trans (b1.mono (by omega))
      have gr := hS.out.gt.g.cell 0
      simp only [List.getElem?_cons_zero] at gr
      have pr := HP.out wr hS.out.bl
      obtain ⟨k0, k1, k2, k3, k4⟩ := HU.out _ HS1.out.bl
      have hWG : wr.heap.size ≠ G := by omega
      clear hT hC hNM hcells hx HTK b1 hFL hvl g0 q0 hB hS
      by_cases h0 : x.cs.length = 0
      · have e0 : ((x.cs.length : Int) == 0) = true := by rw [h0]; rfl
        have HF : Hid (flT1 x = []) := by show _ = _; unfold flT1; rw [if_pos h0]
        clear h0
        go_wp2
        go_roundw
        case rel => exact ⟨i + 1, _, _, by go_num, by omega, by rw [HNX.out, HF.out, List.append_nil]; exact HS1, HB1⟩
        case measure => simp [intOf]; omega
      · have e0 : ((x.cs.length : Int) == 0) = false := by rw [beq_eq_false_iff_ne]; omega
        have HF : Hid (flT1 x = (labO x.nm, outA x) :: x.cs.map fun c => (labC c.nm, conA x.t.n c)) := by show _ = _; unfold flT1; rw [if_neg h0]
        have hcl : x.cs.length ≤ 1048576 := by omega
        clear h0
        go_wp2_with (first | (go_at_call 126; refine (nOut_any _ (by omega) _).mono ?_; rintro e w' ⟨rfl, hw⟩; rw [hw]; clear hw w') | (go_at_call 125; refine (gs_add w0 _ G base ⟨pb, po, none⟩ FL fs' v' _ _ _ (outA x) HS1.out (cl1_mk hWG M1.out HO.out) (by have := HL2.out; omega)).mono ?_; rintro e w2 ⟨rfl, ⟨v2, hg2⟩, ad2⟩; have HG2 := hid hg2; have M2 := hid (ad2.arr _ _ _ hWG (by decide) M1.out); have HB2 := hid (HB1.out.trans ad2.bl); obtain ⟨n0, n1, n2, n3, n4⟩ := HU.out _ hg2.bl; have m2 := M2.out.cell; clear hg2 ad2 HS1 M1 HB1 gr pr k0 k1 k2 k3 k4))
        generalize wr.heap.size = mb at M2 hWG HG2 ⊢
        go_loopw [45] (fun u wz => ∃ (k : Nat) (v3 : Value) (fs3 : List Fd), u = .int .i64 k ∧ k ≤ x.cs.length ∧ Hid (GS w0 G base ⟨pb, po, none⟩ (FL ++ (labO x.nm, outA x) :: (x.cs.take k).map fun c => (labC c.nm, conA x.t.n c)) fs3 v3 wz) ∧ Hid (Arr wz mb 216 [.pointer (some ⟨tb, to_ + i * 5, none⟩)] ∧ Below G w wz)) (fun u _ => x.cs.length - (intOf u).toNat)
        case atStart => exact ⟨0, _, _, rfl, Nat.zero_le _, HG2, ⟨M2.out, HB2.out⟩⟩
        case round =>
          obtain ⟨k, v3, fs3, rfl, hkl, hS3, hM3⟩ := hrel
          clear HG2 M2 HB2 n0 n1 n2 n3 n4 m2
          have hkb : k ≤ 1048576 := by omega
          by_cases hlk : k < x.cs.length
          · obtain ⟨c, hck⟩ : ∃ c, x.cs[k]? = some c := ⟨_, List.getElem?_eq_getElem hlk⟩
            obtain ⟨cb, co, rfl, hcc⟩ : ∃ b o, a2 = some ⟨b, o, none⟩ ∧ ∀ (i : Nat) c, x.cs[i]? = some c → ∃ vs, Cells w0 b (o + i * 2) vs ∧ CtAt w0 Any n vs c := by
              rcases HC.out with ⟨b, o, cp, hv, -, -, -, h5⟩ | ⟨h0, -⟩
              · injection hv with e1 e2 e3; exact ⟨b, o, e1, h5⟩
              · rw [h0] at hlk; exact absurd hlk (Nat.not_lt_zero _)
            obtain ⟨cvs, hcells, hct⟩ := hcc k c hck
            obtain ⟨ga, gc, rfl, -⟩ := hct.form
            have hcbw : cb < w0.heap.size := World.block_lt_of_cell? _ _ (hcells 0 _ rfl)
            have j0 : wr.cell? ⟨cb, co + k * 2, none⟩ = some (.string c.nm) := (hS3.out.bl.cell (p := ⟨cb, co + k * 2, none⟩) hcbw).trans (hcells 0 _ rfl)
            have j1 : wr.cell? ⟨cb, co + k * 2 + 1, none⟩ = some (.slice ga c.args.length gc) := (hS3.out.bl.cell (p := ⟨cb, co + k * 2 + 1, none⟩) hcbw).trans (hcells 1 _ rfl)
            have hcn := Ct.cntL_mem hck
            have hnm : c.nm.size ≤ 9223372036854775800 := by have := HNM.out c (List.mem_of_getElem? hck); omega
            have b4 : Below wr.heap.size wr (wr.alloc (.cells #[.string c.nm, .slice ga c.args.length gc] 125)) := bl_alloc (Below.refl _ _) _
            have HS4 := hid (hS3.out.stays b4)
            have hG2 : G < wr.heap.size := hS3.out.gt.g.lt
            have M4 := hid (hM3.out.1.stays b4)
            have C4 : Hid (Arr (wr.alloc (.cells #[.string c.nm, .slice ga c.args.length gc] 125)) wr.heap.size 125 [.string c.nm, .slice ga c.args.length gc]) := ⟨heap_alloc_at _ _⟩
            have HB4 : Hid (Below G w (wr.alloc (.cells #[.string c.nm, .slice ga c.args.length gc] 125))) := hM3.out.2.trans (b4.mono (by omega))
            have HCT := hid hct
            have hN2 : w0.cell? ⟨tb, to_ + i * 5 + 2, none⟩ = some (.int .i64 x.t.n) := (HU.out w0 (Below.refl _ _)).2.2.1
            have HMk := hid (cl2_mk (w0 := w0) hWG (by omega) (by omega) M4.out hN2 C4.out HCT.out)
            have HTT : Hid ((x.cs.take (k + 1)).map (fun c => (labC c.nm, conA x.t.n c)) = (x.cs.take k).map (fun c => (labC c.nm, conA x.t.n c)) ++ [(labC c.nm, conA x.t.n c)]) := by show _ = _; rw [List.take_add_one, hck, List.map_append]; rfl
            have HLL : Hid ((FL ++ (labO x.nm, outA x) :: (x.cs.take k).map fun c => (labC c.nm, conA x.t.n c)).length ≤ 1048576 * 4) := by
              have := HL2.out
              show _ ≤ _
              rw [List.length_append, List.length_cons, List.length_map, List.length_take]
              omega
            clear hct hcells hcc hck b4 hS3 hM3 hN2
            go_wp2_with (first | (go_at_call 129; refine (nCon_any _ hnm _).mono ?_; rintro e w' ⟨rfl, hw⟩; rw [hw]; clear hw w') | (go_at_call 125; refine (gs_add w0 _ G base ⟨pb, po, none⟩ _ fs3 v3 _ _ _ (conA x.t.n c) HS4.out HMk.out HLL.out).mono ?_; rintro e w5 ⟨rfl, ⟨v5, hg5⟩, ad5⟩; have HG5 := hid hg5; have M5 := hid (ad5.arr _ _ _ hWG (by decide) M4.out); have HB5 := hid (HB4.out.trans ad5.bl); clear hg5 ad5 HS4 M4 HB4 HMk C4 j0 j1))
            go_roundw
            case rel => exact ⟨k + 1, _, _, by go_num, by omega, by rw [HTT.out, ← List.cons_append, ← List.append_assoc]; exact HG5, ⟨M5.out, HB5.out⟩⟩
            case measure => simp [intOf]; omega
          · obtain rfl : k = x.cs.length := by omega
            rw [List.take_length] at hS3
            go_wp2
            go_roundw
            case rel => exact ⟨i + 1, _, _, by go_num, by omega, by rw [HNX.out, HF.out]; exact hS3, hM3.out.2⟩
            case measure => simp [intOf]; omega
    · obtain rfl : i = tms.length := by omega
      rw [List.take_length] at hS
      go_wp2
      first | refine bodyPost_end (results_none rfl _ _ _) rfl ?_ | refine bodyPost_ret (results_none rfl _ _ _) rfl ?_
      exact ⟨rfl, ⟨_, _, hS.out⟩, hB.out⟩
end Go.Proofs.YtigliglmejkakaaGreat

namespace Go.Proofs.YtigliglmejkakaaGreat
open Go.RowKit
set_option linter.unusedVariables false
set_option linter.unusedSimpArgs false

theorem map_take1 {α β : Type} (f : α → β) {l : List α} {i : Nat} {x : α} (hx : l[i]? = some x) : (l.take (i + 1)).map f = (l.take i).map f ++ [f x] := by
  rw [List.take_add_one, hx, List.map_append]; rfl

set_option maxHeartbeats 4000000 in
set_option maxRecDepth 100000 in
theorem gvals_all (w0 w : World) (G base pb po : Nat) (n : Nat) (v0 : Value) (vms : List Vm) (hR : RowAt w0 5 (EVal w0 n) v0 vms) (hcn : ∀ x ∈ vms, x.t.cnt ≤ 1048576) (v : Value) (fl : List (ByteArray × An)) (fs : List Fd) (h : GS w0 G base ⟨pb, po, none⟩ fl fs v w) (hP : w0.cell? ⟨pb, po + 1, none⟩ = some v0) (hfl : fl.length + vms.length ≤ 1048576 * 4) (hln : vms.length ≤ 1048576) :
    Calls Tryz.prog 106 #[.pointer (some ⟨G, 0, none⟩)] w fun e w' => e = .returned (.tuple #[]) ∧ (∃ v' fs', GS w0 G base ⟨pb, po, none⟩ (fl ++ vms.map (fun x => (x.nm, valA x))) fs' v' w') ∧ Below G w w' := by
  obtain ⟨ta, tc, rfl, hlm⟩ := hR.form
  unfold maxLen at hlm
  have HR := hid hR
  have HCN := hid hcn
  clear hR hcn
  have HP : Hid (∀ wz, Below w0.heap.size w0 wz → wz.cell? ⟨pb, po + 1, none⟩ = some (.slice ta vms.length tc)) := fun wz hz => (hz.cell (p := ⟨pb, po + 1, none⟩) (World.block_lt_of_cell? _ _ hP)).trans hP
  have HG := hid h
  have g0 := h.gt.g.cell 0
  have q0 := HP.out w h.bl
  simp only [List.getElem?_cons_succ, List.getElem?_cons_zero] at g0
  have HLn := hid hln
  have HFL := hid hfl
  clear h hP hln hfl
  go_enter Tryz.func106, Tryz.ntmps106
  go_wp2
  go_loopw [12] (fun u wr => ∃ (i : Nat) (v' : Value) (fs' : List Fd), u = .int .i64 i ∧ i ≤ vms.length ∧ Hid (GS w0 G base ⟨pb, po, none⟩ (fl ++ (vms.take i).map (fun x => (x.nm, valA x))) fs' v' wr) ∧ Hid (Below G w wr)) (fun u _ => vms.length - (intOf u).toNat)
  case atStart => exact ⟨0, v, fs, rfl, Nat.zero_le _, by simpa using HG, Below.refl _ _⟩
  case round =>
    obtain ⟨i, v', fs', rfl, hil, hS, hB⟩ := hrel
    clear HG
    have hib : i ≤ 1048576 := by have := HLn.out; omega
    by_cases hlt : i < vms.length
    · obtain ⟨x, hx⟩ : ∃ x, vms[i]? = some x := ⟨_, List.getElem?_eq_getElem hlt⟩
      obtain ⟨tb, to_, rfl, htb, vs, hvl, hcells, tvs, rfl, hg64, hT⟩ := HR.out.elem hx
      obtain ⟨a1, c1, rfl⟩ := hT.form
      have k0 := (hS.out.bl.cell (p := ⟨tb, to_ + i * 5, none⟩) htb).trans (hcells 0 _ rfl)
      have k1 := (hS.out.bl.cell (p := ⟨tb, to_ + i * 5 + 1, none⟩) htb).trans (hcells 1 _ rfl)
      have k2 := (hS.out.bl.cell (p := ⟨tb, to_ + i * 5 + 2, none⟩) htb).trans (hcells 2 _ rfl)
      have k3 := (hS.out.bl.cell (p := ⟨tb, to_ + i * 5 + 3, none⟩) htb).trans (hcells 3 _ rfl)
      have k4 := (hS.out.bl.cell (p := ⟨tb, to_ + i * 5 + 4, none⟩) htb).trans (hcells 4 _ rfl)
      have HLL : Hid ((fl ++ (vms.take i).map (fun x => (x.nm, valA x))).length ≤ 1048576 * 4) := by
        have := HFL.out
        show _ ≤ _
        rw [List.length_append, List.length_map, List.length_take]
        omega
      have HTT := hid (map_take1 (fun x => (x.nm, valA x)) hx)
      have b1 : Below wr.heap.size wr (wr.alloc (.cells #[.string x.nm, .int .i64 x.g, .int .i64 x.t.k, .int .i64 x.t.n, .slice a1 x.t.ks.length c1] 222)) := bl_alloc (Below.refl _ _) _
      have HS1 := hid (hS.out.stays b1)
      have hGw : G < wr.heap.size := hS.out.gt.g.lt
      have M1 : Hid (Arr (wr.alloc (.cells #[.string x.nm, .int .i64 x.g, .int .i64 x.t.k, .int .i64 x.t.n, .slice a1 x.t.ks.length c1] 222)) wr.heap.size 222 [.string x.nm, .int .i64 x.g, .int .i64 x.t.k, .int .i64 x.t.n, .slice a1 x.t.ks.length c1]) := ⟨heap_alloc_at _ _⟩
      have HB1 : Hid (Below G w (wr.alloc (.cells #[.string x.nm, .int .i64 x.g, .int .i64 x.t.k, .int .i64 x.t.n, .slice a1 x.t.ks.length c1] 222))) := hB.out.trans (b1.mono (by omega))
      have gr := hS.out.gt.g.cell 0
      simp only [List.getElem?_cons_zero] at gr
      have pr := HP.out wr hS.out.bl
      have hWG : wr.heap.size ≠ G := by omega
      have HMk := hid (cl3_mk hWG M1.out hT hg64 (HCN.out x (List.mem_of_getElem? hx)))
      clear hT hg64 hcells hvl
      clear hx b1 g0 q0 hB hS
      go_wp2_with (go_at_call 125; refine (gs_add w0 _ G base ⟨pb, po, none⟩ _ fs' v' _ _ _ _ HS1.out HMk.out HLL.out).mono ?_; rintro e w2 ⟨rfl, ⟨v2, hg2⟩, ad2⟩; have HG2 := hid hg2; have HB2 := hid (HB1.out.trans ad2.bl); clear hg2 ad2)
      go_roundw
      case rel => exact ⟨i + 1, _, _, by go_num, by omega, by rw [HTT.out, ← List.append_assoc]; exact HG2, HB2⟩
      case measure => simp [intOf]; omega
    · obtain rfl : i = vms.length := by omega
      rw [List.take_length] at hS
      go_wp2
      first | refine bodyPost_end (results_none rfl _ _ _) rfl ?_ | refine bodyPost_ret (results_none rfl _ _ _) rfl ?_
      exact ⟨rfl, ⟨_, _, hS.out⟩, hB.out⟩

set_option maxHeartbeats 4000000 in
set_option maxRecDepth 100000 in
theorem gsubs_all (w0 w : World) (G base pb po : Nat) (sa : List (ByteArray × An)) (ta : Option Addr) (tc : Nat) (v0 : Value) (hv0 : v0 = .slice ta sa.length tc) (hE : ∀ (i : Nat) x, sa[i]? = some x → ∃ b o, ta = some ⟨b, o, none⟩ ∧ b < w0.heap.size ∧ w0.cell? ⟨b, o + i * 6, none⟩ = some (.string x.1) ∧ ∀ wz, Below w0.heap.size w0 wz → Calls Tryz.prog 43 #[.pointer (some ⟨b, o + i * 6 + 1, none⟩)] wz fun e w' => AnsOf wz x.2 e w') (v : Value) (fl : List (ByteArray × An)) (fs : List Fd) (h : GS w0 G base ⟨pb, po, none⟩ fl fs v w) (hP : w0.cell? ⟨pb, po + 2, none⟩ = some v0) (hfl : fl.length + sa.length ≤ 1048576 * 4) (hln : sa.length ≤ 1048576) :
    Calls Tryz.prog 107 #[.pointer (some ⟨G, 0, none⟩)] w fun e w' => e = .returned (.tuple #[]) ∧ (∃ v' fs', GS w0 G base ⟨pb, po, none⟩ (fl ++ sa.map (fun x => (x.1, x.2))) fs' v' w') ∧ Below G w w' := by
  subst hv0
  have HE := hid hE
  clear hE
  have HP : Hid (∀ wz, Below w0.heap.size w0 wz → wz.cell? ⟨pb, po + 2, none⟩ = some (.slice ta sa.length tc)) := fun wz hz => (hz.cell (p := ⟨pb, po + 2, none⟩) (World.block_lt_of_cell? _ _ hP)).trans hP
  have HG := hid h
  have g0 := h.gt.g.cell 0
  have q0 := HP.out w h.bl
  simp only [List.getElem?_cons_succ, List.getElem?_cons_zero] at g0
  have HLn := hid hln
  have HFL := hid hfl
  clear h hP hln hfl
  go_enter Tryz.func107, Tryz.ntmps107
  go_wp2
  go_loopw [12] (fun u wr => ∃ (i : Nat) (v' : Value) (fs' : List Fd), u = .int .i64 i ∧ i ≤ sa.length ∧ Hid (GS w0 G base ⟨pb, po, none⟩ (fl ++ (sa.take i).map (fun x => (x.1, x.2))) fs' v' wr) ∧ Hid (Below G w wr)) (fun u _ => sa.length - (intOf u).toNat)
  case atStart => exact ⟨0, v, fs, rfl, Nat.zero_le _, by simpa using HG, Below.refl _ _⟩
  case round =>
    obtain ⟨i, v', fs', rfl, hil, hS, hB⟩ := hrel
    clear HG
    have hib : i ≤ 1048576 := by have := HLn.out; omega
    by_cases hlt : i < sa.length
    · obtain ⟨x, hx⟩ : ∃ x, sa[i]? = some x := ⟨_, List.getElem?_eq_getElem hlt⟩
      obtain ⟨tb, to_, rfl, htb, hc0, hQ⟩ := HE.out i x hx
      have k0 := fun o => ((bl_tr hS.out.bl (bl_alloc (Below.refl wr.heap.size wr) o)).cell (p := ⟨tb, to_ + i * 6, none⟩) htb).trans hc0
      have HLL : Hid ((fl ++ (sa.take i).map (fun x => (x.1, x.2))).length ≤ 1048576 * 4) := by
        have := HFL.out
        show _ ≤ _
        rw [List.length_append, List.length_map, List.length_take]
        omega
      have HTT := hid (map_take1 (fun x => (x.1, x.2)) hx)
      have b1 : Below wr.heap.size wr (wr.alloc (.cells #[.pointer (some ⟨tb, to_ + i * 6, none⟩)] 223)) := bl_alloc (Below.refl _ _) _
      have HS1 := hid (hS.out.stays b1)
      have hGw : G < wr.heap.size := hS.out.gt.g.lt
      have M1 : Hid (Arr (wr.alloc (.cells #[.pointer (some ⟨tb, to_ + i * 6, none⟩)] 223)) wr.heap.size 223 [.pointer (some ⟨tb, to_ + i * 6, none⟩)]) := ⟨heap_alloc_at _ _⟩
      have HB1 : Hid (Below G w (wr.alloc (.cells #[.pointer (some ⟨tb, to_ + i * 6, none⟩)] 223))) := hB.out.trans (b1.mono (by omega))
      have gr := hS.out.gt.g.cell 0
      simp only [List.getElem?_cons_zero] at gr
      have pr := HP.out wr hS.out.bl
      have hWG : wr.heap.size ≠ G := by omega
      have HMk := hid (cl4_mk hWG M1.out hQ)
      clear hQ hc0
      clear hx b1 g0 q0 hB hS
      go_wp2_with (go_at_call 125; refine (gs_add w0 _ G base ⟨pb, po, none⟩ _ fs' v' _ _ _ _ HS1.out HMk.out HLL.out).mono ?_; rintro e w2 ⟨rfl, ⟨v2, hg2⟩, ad2⟩; have HG2 := hid hg2; have HB2 := hid (HB1.out.trans ad2.bl); clear hg2 ad2)
      go_roundw
      case rel => exact ⟨i + 1, _, _, by go_num, by omega, by rw [HTT.out, ← List.append_assoc]; exact HG2, HB2⟩
      case measure => simp [intOf]; omega
    · obtain rfl : i = sa.length := by omega
      rw [List.take_length] at hS
      go_wp2
      first | refine bodyPost_end (results_none rfl _ _ _) rfl ?_ | refine bodyPost_ret (results_none rfl _ _ _) rfl ?_
      exact ⟨rfl, ⟨_, _, hS.out⟩, hB.out⟩

set_option maxHeartbeats 4000000 in
set_option maxRecDepth 100000 in
theorem gfuns_all (w0 w : World) (G base pb po : Nat) (sa : List (ByteArray × An)) (ta : Option Addr) (tc : Nat) (v0 : Value) (hv0 : v0 = .slice ta sa.length tc) (hE : ∀ (i : Nat) x, sa[i]? = some x → ∃ b o, ta = some ⟨b, o, none⟩ ∧ b < w0.heap.size ∧ w0.cell? ⟨b, o + i * 13, none⟩ = some (.string x.1) ∧ ∀ wz, Below w0.heap.size w0 wz → Calls Tryz.prog 135 #[.pointer (some ⟨b, o + i * 13 + 1, none⟩)] wz fun e w' => AnsOf wz x.2 e w') (v : Value) (fl : List (ByteArray × An)) (fs : List Fd) (h : GS w0 G base ⟨pb, po, none⟩ fl fs v w) (hP : w0.cell? ⟨pb, po + 3, none⟩ = some v0) (hfl : fl.length + sa.length ≤ 1048576 * 4) (hln : sa.length ≤ 1048576) :
    Calls Tryz.prog 108 #[.pointer (some ⟨G, 0, none⟩)] w fun e w' => e = .returned (.tuple #[]) ∧ (∃ v' fs', GS w0 G base ⟨pb, po, none⟩ (fl ++ sa.map (fun x => (x.1, x.2))) fs' v' w') ∧ Below G w w' := by
  subst hv0
  have HE := hid hE
  clear hE
  have HP : Hid (∀ wz, Below w0.heap.size w0 wz → wz.cell? ⟨pb, po + 3, none⟩ = some (.slice ta sa.length tc)) := fun wz hz => (hz.cell (p := ⟨pb, po + 3, none⟩) (World.block_lt_of_cell? _ _ hP)).trans hP
  have HG := hid h
  have g0 := h.gt.g.cell 0
  have q0 := HP.out w h.bl
  simp only [List.getElem?_cons_succ, List.getElem?_cons_zero] at g0
  have HLn := hid hln
  have HFL := hid hfl
  clear h hP hln hfl
  go_enter Tryz.func108, Tryz.ntmps108
  go_wp2
  go_loopw [12] (fun u wr => ∃ (i : Nat) (v' : Value) (fs' : List Fd), u = .int .i64 i ∧ i ≤ sa.length ∧ Hid (GS w0 G base ⟨pb, po, none⟩ (fl ++ (sa.take i).map (fun x => (x.1, x.2))) fs' v' wr) ∧ Hid (Below G w wr)) (fun u _ => sa.length - (intOf u).toNat)
  case atStart => exact ⟨0, v, fs, rfl, Nat.zero_le _, by simpa using HG, Below.refl _ _⟩
  case round =>
    obtain ⟨i, v', fs', rfl, hil, hS, hB⟩ := hrel
    clear HG
    have hib : i ≤ 1048576 := by have := HLn.out; omega
    by_cases hlt : i < sa.length
    · obtain ⟨x, hx⟩ : ∃ x, sa[i]? = some x := ⟨_, List.getElem?_eq_getElem hlt⟩
      obtain ⟨tb, to_, rfl, htb, hc0, hQ⟩ := HE.out i x hx
      have k0 := fun o => ((bl_tr hS.out.bl (bl_alloc (Below.refl wr.heap.size wr) o)).cell (p := ⟨tb, to_ + i * 13, none⟩) htb).trans hc0
      have HLL : Hid ((fl ++ (sa.take i).map (fun x => (x.1, x.2))).length ≤ 1048576 * 4) := by
        have := HFL.out
        show _ ≤ _
        rw [List.length_append, List.length_map, List.length_take]
        omega
      have HTT := hid (map_take1 (fun x => (x.1, x.2)) hx)
      have b1 : Below wr.heap.size wr (wr.alloc (.cells #[.pointer (some ⟨tb, to_ + i * 13, none⟩)] 226)) := bl_alloc (Below.refl _ _) _
      have HS1 := hid (hS.out.stays b1)
      have hGw : G < wr.heap.size := hS.out.gt.g.lt
      have M1 : Hid (Arr (wr.alloc (.cells #[.pointer (some ⟨tb, to_ + i * 13, none⟩)] 226)) wr.heap.size 226 [.pointer (some ⟨tb, to_ + i * 13, none⟩)]) := ⟨heap_alloc_at _ _⟩
      have HB1 : Hid (Below G w (wr.alloc (.cells #[.pointer (some ⟨tb, to_ + i * 13, none⟩)] 226))) := hB.out.trans (b1.mono (by omega))
      have gr := hS.out.gt.g.cell 0
      simp only [List.getElem?_cons_zero] at gr
      have pr := HP.out wr hS.out.bl
      have hWG : wr.heap.size ≠ G := by omega
      have HMk := hid (cl5_mk hWG M1.out hQ)
      clear hQ hc0
      clear hx b1 g0 q0 hB hS
      go_wp2_with (go_at_call 125; refine (gs_add w0 _ G base ⟨pb, po, none⟩ _ fs' v' _ _ _ _ HS1.out HMk.out HLL.out).mono ?_; rintro e w2 ⟨rfl, ⟨v2, hg2⟩, ad2⟩; have HG2 := hid hg2; have HB2 := hid (HB1.out.trans ad2.bl); clear hg2 ad2)
      go_roundw
      case rel => exact ⟨i + 1, _, _, by go_num, by omega, by rw [HTT.out, ← List.append_assoc]; exact HG2, HB2⟩
      case measure => simp [intOf]; omega
    · obtain rfl : i = sa.length := by omega
      rw [List.take_length] at hS
      go_wp2
      first | refine bodyPost_end (results_none rfl _ _ _) rfl ?_ | refine bodyPost_ret (results_none rfl _ _ _) rfl ?_
      exact ⟨rfl, ⟨_, _, hS.out⟩, hB.out⟩
end Go.Proofs.YtigliglmejkakaaGreat
