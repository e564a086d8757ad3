/- The closures behind the labels, as makers. -/
import Derived.Test.YtigliglmejkakaaGreatRbc
namespace Go.Proofs.YtigliglmejkakaaGreat
open Go.RowKit
set_option linter.unusedVariables false
set_option linter.unusedSimpArgs false

set_option maxHeartbeats 1000000 in
set_option maxRecDepth 100000 in
theorem cl1_all (w : World) (m b o : Nat) (a : An) (hp : Arr w m 216 [.pointer (some ⟨b, o, none⟩)]) (HO : ∀ wz, Below w.heap.size w wz → Calls Tryz.prog 128 #[.pointer (some ⟨b, o, none⟩)] wz fun e w' => AnsOf wz a e w') :
    Calls Tryz.prog 127 #[.pointer (some ⟨m, 0, none⟩)] w fun e w' => AnsOf w a e w' := by
  have HB1 : Hid (Below w.heap.size w (w.alloc (.cells #[.int .i64 0, .int .i64 0, .slice none 0 0, .slice none 0 0] 28))) := bl_alloc (Below.refl _ _) _
  have Y1 : Hid (Arr (w.alloc (.cells #[.int .i64 0, .int .i64 0, .slice none 0 0, .slice none 0 0] 28)) w.heap.size 28 [.int .i64 0, .int .i64 0, .slice none 0 0, .slice none 0 0]) := ⟨heap_alloc_at _ _⟩
  have HQ := hid (HO (w.alloc (.cells #[.int .i64 0, .int .i64 0, .slice none 0 0, .slice none 0 0] 28)) HB1.out)
  have p1 := (hp.stays HB1.out).cell
  have HSS : Hid (∀ (W : World) i u, Below w.heap.size w W → Below w.heap.size w (W.setCell ⟨w.heap.size, i, none⟩ u)) := fun W i u h => bl_set _ _ h (Nat.le_refl _)
  have HZ1 : Hid ((w.alloc (.cells #[.int .i64 0, .int .i64 0, .slice none 0 0, .slice none 0 0] 28)).heap.size = w.heap.size + 1) := size_alloc _ _
  obtain ⟨y, x⟩ := a
  clear hp HO
  go_enter Tryz.func127, Tryz.ntmps127
  go_wp2_with (go_at_call 128; refine HQ.out.mono ?_; rintro e w2 ⟨⟨p', q', p, q, N, rfl, hT2⟩, b2⟩; have HT2 : Hid (Tgt.TAt w2 (fun b => w.heap.size + 1 ≤ b) N [.int .i64 y.k, .int .i64 y.n, .slice p' y.ls.length q', .slice p y.ks.length q] y) := hT2.move (Tgt.Keeps.refl _ _) (fun b hb => by have hb := hb; rw [HZ1.out] at hb; exact hb); have HB2 := hid (bl_tr HB1.out b2); have r2 := (Y1.out.stays b2).cell; have s2 := (Y1.out.stays b2).frozen; clear b2 hT2)
  refine bodyPost_ret (v := .tuple #[.agg #[.int .i64 y.k, .int .i64 y.n, .slice p' y.ls.length q', .slice p y.ks.length q], .int .i64 x]) (by rw [results_cell2t (fn := Tryz.f127) (p := 1) (a := 2) (ty := 28) (by kernel_rfl)]; simp [go_sem, r2, s2]) rfl ?_
  have hK : ∀ (W : World) i u, Tgt.Keeps (fun b => w.heap.size + 1 ≤ b) W (W.setCell ⟨w.heap.size, i, none⟩ u) := fun W i u b o v hb hv => by have hb : w.heap.size + 1 ≤ b := hb; rw [World.cell?_of_block (w := W) (Below.heap_setCell _ _ _ _ (by show b ≠ w.heap.size; omega))]; exact hv
  exact ⟨⟨p', q', p, q, _, rfl, HT2.out.move (((hK _ _ _).trans (hK _ _ _)).trans ((hK _ _ _).trans (hK _ _ _))) (fun b hb => by have hb : w.heap.size + 1 ≤ b := hb; show w.heap.size ≤ b; omega)⟩, HSS.out _ _ _ (HSS.out _ _ _ (HSS.out _ _ _ (HSS.out _ _ _ HB2.out)))⟩

theorem cl1_mk {w0 w : World} {G m b o : Nat} {a : An} (hG : m ≠ G) (hp : Arr w m 216 [.pointer (some ⟨b, o, none⟩)]) (HO : ∀ wz, Below w0.heap.size w0 wz → Calls Tryz.prog 128 #[.pointer (some ⟨b, o, none⟩)] wz fun e w' => AnsOf wz a e w') : Mk w0 w G 127 #[.pointer (some ⟨m, 0, none⟩)] a :=
  ⟨enters_of Tryz.func127 (by kernel_rfl) rfl, [(m, 216, [.pointer (some ⟨b, o, none⟩)])], fun x hx => by rw [List.mem_singleton] at hx; subst hx; exact ⟨hG, by simp, hp⟩, fun wz hz hb => cl1_all wz m b o a (hb _ (List.mem_singleton.2 rfl)) (fun wy hy => HO wy (bl_tr hz hy))⟩

set_option maxHeartbeats 1000000 in
set_option maxRecDepth 100000 in
theorem cl4_all (w : World) (m b o : Nat) (a : An) (hp : Arr w m 223 [.pointer (some ⟨b, o, none⟩)]) (HO : ∀ wz, Below w.heap.size w wz → Calls Tryz.prog 43 #[.pointer (some ⟨b, o + 1, none⟩)] wz fun e w' => AnsOf wz a e w') :
    Calls Tryz.prog 133 #[.pointer (some ⟨m, 0, none⟩)] w fun e w' => AnsOf w a e w' := by
  have HB1 : Hid (Below w.heap.size w (w.alloc (.cells #[.int .i64 0, .int .i64 0, .slice none 0 0, .slice none 0 0] 28))) := bl_alloc (Below.refl _ _) _
  have Y1 : Hid (Arr (w.alloc (.cells #[.int .i64 0, .int .i64 0, .slice none 0 0, .slice none 0 0] 28)) w.heap.size 28 [.int .i64 0, .int .i64 0, .slice none 0 0, .slice none 0 0]) := ⟨heap_alloc_at _ _⟩
  have HQ := hid (HO (w.alloc (.cells #[.int .i64 0, .int .i64 0, .slice none 0 0, .slice none 0 0] 28)) HB1.out)
  have p1 := (hp.stays HB1.out).cell
  have HSS : Hid (∀ (W : World) i u, Below w.heap.size w W → Below w.heap.size w (W.setCell ⟨w.heap.size, i, none⟩ u)) := fun W i u h => bl_set _ _ h (Nat.le_refl _)
  have HZ1 : Hid ((w.alloc (.cells #[.int .i64 0, .int .i64 0, .slice none 0 0, .slice none 0 0] 28)).heap.size = w.heap.size + 1) := size_alloc _ _
  obtain ⟨y, x⟩ := a
  clear hp HO
  go_enter Tryz.func133, Tryz.ntmps133
  go_wp2_with (go_at_call 43; refine HQ.out.mono ?_; rintro e w2 ⟨⟨p', q', p, q, N, rfl, hT2⟩, b2⟩; have HT2 : Hid (Tgt.TAt w2 (fun b => w.heap.size + 1 ≤ b) N [.int .i64 y.k, .int .i64 y.n, .slice p' y.ls.length q', .slice p y.ks.length q] y) := hT2.move (Tgt.Keeps.refl _ _) (fun b hb => by have hb := hb; rw [HZ1.out] at hb; exact hb); have HB2 := hid (bl_tr HB1.out b2); have r2 := (Y1.out.stays b2).cell; have s2 := (Y1.out.stays b2).frozen; clear b2 hT2)
  refine bodyPost_ret (v := .tuple #[.agg #[.int .i64 y.k, .int .i64 y.n, .slice p' y.ls.length q', .slice p y.ks.length q], .int .i64 x]) (by rw [results_cell2t (fn := Tryz.f133) (p := 1) (a := 2) (ty := 28) (by kernel_rfl)]; simp [go_sem, r2, s2]) rfl ?_
  have hK : ∀ (W : World) i u, Tgt.Keeps (fun b => w.heap.size + 1 ≤ b) W (W.setCell ⟨w.heap.size, i, none⟩ u) := fun W i u b o v hb hv => by have hb : w.heap.size + 1 ≤ b := hb; rw [World.cell?_of_block (w := W) (Below.heap_setCell _ _ _ _ (by show b ≠ w.heap.size; omega))]; exact hv
  exact ⟨⟨p', q', p, q, _, rfl, HT2.out.move (((hK _ _ _).trans (hK _ _ _)).trans ((hK _ _ _).trans (hK _ _ _))) (fun b hb => by have hb : w.heap.size + 1 ≤ b := hb; show w.heap.size ≤ b; omega)⟩, HSS.out _ _ _ (HSS.out _ _ _ (HSS.out _ _ _ (HSS.out _ _ _ HB2.out)))⟩

theorem cl4_mk {w0 w : World} {G m b o : Nat} {a : An} (hG : m ≠ G) (hp : Arr w m 223 [.pointer (some ⟨b, o, none⟩)]) (HO : ∀ wz, Below w0.heap.size w0 wz → Calls Tryz.prog 43 #[.pointer (some ⟨b, o + 1, none⟩)] wz fun e w' => AnsOf wz a e w') : Mk w0 w G 133 #[.pointer (some ⟨m, 0, none⟩)] a :=
  ⟨enters_of Tryz.func133 (by kernel_rfl) rfl, [(m, 223, [.pointer (some ⟨b, o, none⟩)])], fun x hx => by rw [List.mem_singleton] at hx; subst hx; exact ⟨hG, by simp, hp⟩, fun wz hz hb => cl4_all wz m b o a (hb _ (List.mem_singleton.2 rfl)) (fun wy hy => HO wy (bl_tr hz hy))⟩

set_option maxHeartbeats 1000000 in
set_option maxRecDepth 100000 in
theorem cl5_all (w : World) (m b o : Nat) (a : An) (hp : Arr w m 226 [.pointer (some ⟨b, o, none⟩)]) (HO : ∀ wz, Below w.heap.size w wz → Calls Tryz.prog 135 #[.pointer (some ⟨b, o + 1, none⟩)] wz fun e w' => AnsOf wz a e w') :
    Calls Tryz.prog 134 #[.pointer (some ⟨m, 0, none⟩)] w fun e w' => AnsOf w a e w' := by
  have HB1 : Hid (Below w.heap.size w (w.alloc (.cells #[.int .i64 0, .int .i64 0, .slice none 0 0, .slice none 0 0] 28))) := bl_alloc (Below.refl _ _) _
  have Y1 : Hid (Arr (w.alloc (.cells #[.int .i64 0, .int .i64 0, .slice none 0 0, .slice none 0 0] 28)) w.heap.size 28 [.int .i64 0, .int .i64 0, .slice none 0 0, .slice none 0 0]) := ⟨heap_alloc_at _ _⟩
  have HQ := hid (HO (w.alloc (.cells #[.int .i64 0, .int .i64 0, .slice none 0 0, .slice none 0 0] 28)) HB1.out)
  have p1 := (hp.stays HB1.out).cell
  have HSS : Hid (∀ (W : World) i u, Below w.heap.size w W → Below w.heap.size w (W.setCell ⟨w.heap.size, i, none⟩ u)) := fun W i u h => bl_set _ _ h (Nat.le_refl _)
  have HZ1 : Hid ((w.alloc (.cells #[.int .i64 0, .int .i64 0, .slice none 0 0, .slice none 0 0] 28)).heap.size = w.heap.size + 1) := size_alloc _ _
  obtain ⟨y, x⟩ := a
  clear hp HO
  go_enter Tryz.func134, Tryz.ntmps134
  go_wp2_with (go_at_call 135; refine HQ.out.mono ?_; rintro e w2 ⟨⟨p', q', p, q, N, rfl, hT2⟩, b2⟩; have HT2 : Hid (Tgt.TAt w2 (fun b => w.heap.size + 1 ≤ b) N [.int .i64 y.k, .int .i64 y.n, .slice p' y.ls.length q', .slice p y.ks.length q] y) := hT2.move (Tgt.Keeps.refl _ _) (fun b hb => by have hb := hb; rw [HZ1.out] at hb; exact hb); have HB2 := hid (bl_tr HB1.out b2); have r2 := (Y1.out.stays b2).cell; have s2 := (Y1.out.stays b2).frozen; clear b2 hT2)
  refine bodyPost_ret (v := .tuple #[.agg #[.int .i64 y.k, .int .i64 y.n, .slice p' y.ls.length q', .slice p y.ks.length q], .int .i64 x]) (by rw [results_cell2t (fn := Tryz.f134) (p := 1) (a := 2) (ty := 28) (by kernel_rfl)]; simp [go_sem, r2, s2]) rfl ?_
  have hK : ∀ (W : World) i u, Tgt.Keeps (fun b => w.heap.size + 1 ≤ b) W (W.setCell ⟨w.heap.size, i, none⟩ u) := fun W i u b o v hb hv => by have hb : w.heap.size + 1 ≤ b := hb; rw [World.cell?_of_block (w := W) (Below.heap_setCell _ _ _ _ (by show b ≠ w.heap.size; omega))]; exact hv
  exact ⟨⟨p', q', p, q, _, rfl, HT2.out.move (((hK _ _ _).trans (hK _ _ _)).trans ((hK _ _ _).trans (hK _ _ _))) (fun b hb => by have hb : w.heap.size + 1 ≤ b := hb; show w.heap.size ≤ b; omega)⟩, HSS.out _ _ _ (HSS.out _ _ _ (HSS.out _ _ _ (HSS.out _ _ _ HB2.out)))⟩

theorem cl5_mk {w0 w : World} {G m b o : Nat} {a : An} (hG : m ≠ G) (hp : Arr w m 226 [.pointer (some ⟨b, o, none⟩)]) (HO : ∀ wz, Below w0.heap.size w0 wz → Calls Tryz.prog 135 #[.pointer (some ⟨b, o + 1, none⟩)] wz fun e w' => AnsOf wz a e w') : Mk w0 w G 134 #[.pointer (some ⟨m, 0, none⟩)] a :=
  ⟨enters_of Tryz.func134 (by kernel_rfl) rfl, [(m, 226, [.pointer (some ⟨b, o, none⟩)])], fun x hx => by rw [List.mem_singleton] at hx; subst hx; exact ⟨hG, by simp, hp⟩, fun wz hz hb => cl5_all wz m b o a (hb _ (List.mem_singleton.2 rfl)) (fun wy hy => HO wy (bl_tr hz hy))⟩

def valA (x : Vm) : An := ansB (Tp.okS x.g x.t) (Tp.schemeT x.g x.t)
set_option maxHeartbeats 1000000 in
set_option maxRecDepth 100000 in
theorem cl3_all (w : World) (n m : Nat) (x : Vm) (a1 : Option Addr) (c1 : Nat) (hp : Arr w m 222 [.string x.nm, .int .i64 x.g, .int .i64 x.t.k, .int .i64 x.t.n, .slice a1 x.t.ks.length c1]) (hT : TAt w Any n [.int .i64 x.t.k, .int .i64 x.t.n, .slice a1 x.t.ks.length c1] x.t) (hg : R64 x.g) (hc : x.t.cnt ≤ 1048576) :
    Calls Tryz.prog 132 #[.pointer (some ⟨m, 0, none⟩)] w fun e w' => AnsOf w (valA x) e w' := by
  have HB1 : Hid (Below w.heap.size w (w.alloc (.cells #[.int .i64 0, .int .i64 0, .slice none 0 0, .slice none 0 0] 28))) := bl_alloc (Below.refl _ _) _
  have Y1 : Hid (Arr (w.alloc (.cells #[.int .i64 0, .int .i64 0, .slice none 0 0, .slice none 0 0] 28)) w.heap.size 28 [.int .i64 0, .int .i64 0, .slice none 0 0, .slice none 0 0]) := ⟨heap_alloc_at _ _⟩
  have HQ : Hid (Calls Tryz.prog 16 #[.agg #[.int .i64 x.g, .int .i64 x.t.k, .int .i64 x.t.n, .slice a1 x.t.ks.length c1]] (w.alloc (.cells #[.int .i64 0, .int .i64 0, .slice none 0 0, .slice none 0 0] 28)) fun e w' => AnsOf (w.alloc (.cells #[.int .i64 0, .int .i64 0, .slice none 0 0, .slice none 0 0] 28)) (valA x) e w') := (TScheme_any (w.alloc (.cells #[.int .i64 0, .int .i64 0, .slice none 0 0, .slice none 0 0] 28)) n x.g _ x.t (hT.below HB1.out) hg hc).mono fun e w' ⟨h1, h2⟩ => h1.ans h2
  have p1 := (hp.stays HB1.out).cell
  have HSS : Hid (∀ (W : World) i u, Below w.heap.size w W → Below w.heap.size w (W.setCell ⟨w.heap.size, i, none⟩ u)) := fun W i u h => bl_set _ _ h (Nat.le_refl _)
  have HZ1 : Hid ((w.alloc (.cells #[.int .i64 0, .int .i64 0, .slice none 0 0, .slice none 0 0] 28)).heap.size = w.heap.size + 1) := size_alloc _ _
  generalize valA x = a at HQ ⊢
  obtain ⟨y, xe⟩ := a
  clear hp hT hg hc
  go_enter Tryz.func132, Tryz.ntmps132
  go_wp2_with (go_at_call 16; refine HQ.out.mono ?_; rintro e w2 ⟨⟨p', q', p, q, N, rfl, hT2⟩, b2⟩; have HT2 : Hid (Tgt.TAt w2 (fun b => w.heap.size + 1 ≤ b) N [.int .i64 y.k, .int .i64 y.n, .slice p' y.ls.length q', .slice p y.ks.length q] y) := hT2.move (Tgt.Keeps.refl _ _) (fun b hb => by have hb := hb; rw [HZ1.out] at hb; exact hb); have HB2 := hid (bl_tr HB1.out b2); have r2 := (Y1.out.stays b2).cell; have s2 := (Y1.out.stays b2).frozen; clear b2 hT2)
  refine bodyPost_ret (v := .tuple #[.agg #[.int .i64 y.k, .int .i64 y.n, .slice p' y.ls.length q', .slice p y.ks.length q], .int .i64 xe]) (by rw [results_cell2t (fn := Tryz.f132) (p := 1) (a := 2) (ty := 28) (by kernel_rfl)]; simp [go_sem, r2, s2]) rfl ?_
  have hK : ∀ (W : World) i u, Tgt.Keeps (fun b => w.heap.size + 1 ≤ b) W (W.setCell ⟨w.heap.size, i, none⟩ u) := fun W i u b o v hb hv => by have hb : w.heap.size + 1 ≤ b := hb; rw [World.cell?_of_block (w := W) (Below.heap_setCell _ _ _ _ (by show b ≠ w.heap.size; omega))]; exact hv
  exact ⟨⟨p', q', p, q, _, rfl, HT2.out.move (((hK _ _ _).trans (hK _ _ _)).trans ((hK _ _ _).trans (hK _ _ _))) (fun b hb => by have hb : w.heap.size + 1 ≤ b := hb; show w.heap.size ≤ b; omega)⟩, HSS.out _ _ _ (HSS.out _ _ _ (HSS.out _ _ _ (HSS.out _ _ _ HB2.out)))⟩

theorem cl3_mk {w0 w : World} {n G m : Nat} {x : Vm} {a1 : Option Addr} {c1 : Nat} (hG : m ≠ G) (hp : Arr w m 222 [.string x.nm, .int .i64 x.g, .int .i64 x.t.k, .int .i64 x.t.n, .slice a1 x.t.ks.length c1]) (hT : TAt w0 Any n [.int .i64 x.t.k, .int .i64 x.t.n, .slice a1 x.t.ks.length c1] x.t) (hg : R64 x.g) (hc : x.t.cnt ≤ 1048576) : Mk w0 w G 132 #[.pointer (some ⟨m, 0, none⟩)] (valA x) :=
  ⟨enters_of Tryz.func132 (by kernel_rfl) rfl, [(m, 222, [.string x.nm, .int .i64 x.g, .int .i64 x.t.k, .int .i64 x.t.n, .slice a1 x.t.ks.length c1])], fun z hz => by rw [List.mem_singleton] at hz; subst hz; exact ⟨hG, by simp, hp⟩, fun wz hz hb => cl3_all wz n m x a1 c1 (hb _ (List.mem_singleton.2 rfl)) (hT.below hz) hg hc⟩

def conA (s : Int) (c : Ct) : An := ansB (okC s c) (conT s c)
set_option maxHeartbeats 2000000 in
set_option maxRecDepth 100000 in
theorem cl2_all (w : World) (m b o cb n : Nat) (s : Int) (c : Ct) (ga : Option Addr) (gc : Nat) (hcc : Tp.cntL c.args ≤ 1048576) (hp : Arr w m 216 [.pointer (some ⟨b, o, none⟩)]) (hm : w.cell? ⟨b, o + 2, none⟩ = some (.int .i64 s)) (hc : Arr w cb 125 [.string c.nm, .slice ga c.args.length gc]) (hct : CtAt w Any n [.string c.nm, .slice ga c.args.length gc] c) :
    Calls Tryz.prog 130 #[.pointer (some ⟨m, 0, none⟩), .pointer (some ⟨cb, 0, none⟩)] w fun e w' => AnsOf w (conA s c) e w' := by
  have HB1 : Hid (Below w.heap.size w (w.alloc (.cells #[.int .i64 0, .int .i64 0, .slice none 0 0, .slice none 0 0] 28))) := bl_alloc (Below.refl _ _) _
  have Y1 : Hid (Arr (w.alloc (.cells #[.int .i64 0, .int .i64 0, .slice none 0 0, .slice none 0 0] 28)) w.heap.size 28 [.int .i64 0, .int .i64 0, .slice none 0 0, .slice none 0 0]) := ⟨heap_alloc_at _ _⟩
  have HQ : Hid (∀ wz, Below w.heap.size w wz → Calls Tryz.prog 131 #[.int .i64 s, .agg #[.string c.nm, .slice ga c.args.length gc]] wz fun e w' => AnsOf wz (conA s c) e w') := fun wz hz => (Con_any wz n s _ c (hct.below hz) hcc).mono fun e w' ⟨h1, h2⟩ => h1.ans h2
  have HSS : Hid (∀ (W : World) i u, Below w.heap.size w W → Below w.heap.size w (W.setCell ⟨w.heap.size, i, none⟩ u)) := fun W i u h => bl_set _ _ h (Nat.le_refl _)
  have hml : m ≠ w.heap.size := Nat.ne_of_lt hp.lt
  have htl : b < w.heap.size := World.block_lt_of_cell? _ _ hm
  have hcl : cb ≠ w.heap.size := Nat.ne_of_lt hc.lt
  have HDB : Hid (Below (w.alloc (.cells #[.int .i64 0, .int .i64 0, .slice none 0 0, .slice none 0 0] 28)).heap.size (w.alloc (.cells #[.int .i64 0, .int .i64 0, .slice none 0 0, .slice none 0 0] 28)) (w.alloc (.cells #[.int .i64 0, .int .i64 0, .slice none 0 0, .slice none 0 0] 28)).drew) := (Below.refl _ _).drew
  have HBD := hid (bl_tr HB1.out HDB.out)
  have hs0 : Hid (Arr (w.alloc (.cells #[.int .i64 0, .int .i64 0, .slice none 0 0, .slice none 0 0] 28)).drew m 216 [.pointer (some ⟨b, o, none⟩)] ∧ (w.alloc (.cells #[.int .i64 0, .int .i64 0, .slice none 0 0, .slice none 0 0] 28)).drew.cell? ⟨b, o + 2, none⟩ = some (.int .i64 s) ∧ Arr (w.alloc (.cells #[.int .i64 0, .int .i64 0, .slice none 0 0, .slice none 0 0] 28)).drew cb 125 [.string c.nm, .slice ga c.args.length gc] ∧ Below w.heap.size w (w.alloc (.cells #[.int .i64 0, .int .i64 0, .slice none 0 0, .slice none 0 0] 28)).drew) := ⟨(hp.stays HB1.out).stays HDB.out, (HBD.out.cell (p := ⟨b, o + 2, none⟩) htl).trans hm, (hc.stays HB1.out).stays HDB.out, HBD.out⟩
  have Y2 := hid (Y1.out.stays HDB.out)
  have HZD : Hid (w.heap.size + 1 ≤ (w.alloc (.cells #[.int .i64 0, .int .i64 0, .slice none 0 0, .slice none 0 0] 28)).drew.heap.size) := Y2.out.lt
  have HO : Hid (∀ (W : World) i u, (Arr W m 216 [.pointer (some ⟨b, o, none⟩)] ∧ W.cell? ⟨b, o + 2, none⟩ = some (.int .i64 s) ∧ Arr W cb 125 [.string c.nm, .slice ga c.args.length gc] ∧ Below w.heap.size w W) → (Arr (W.setCell ⟨w.heap.size, i, none⟩ u) m 216 [.pointer (some ⟨b, o, none⟩)] ∧ (W.setCell ⟨w.heap.size, i, none⟩ u).cell? ⟨b, o + 2, none⟩ = some (.int .i64 s) ∧ Arr (W.setCell ⟨w.heap.size, i, none⟩ u) cb 125 [.string c.nm, .slice ga c.args.length gc] ∧ Below w.heap.size w (W.setCell ⟨w.heap.size, i, none⟩ u))) := fun W i u h => ⟨h.1.other (p := ⟨w.heap.size, i, none⟩) hml u, (World.cell?_of_block (w := W) (Below.heap_setCell _ _ _ _ (by show b ≠ w.heap.size; omega))).trans h.2.1, h.2.2.1.other (p := ⟨w.heap.size, i, none⟩) hcl u, HSS.out _ _ _ h.2.2.2⟩
  generalize conA s c = a at HQ ⊢
  obtain ⟨y, xe⟩ := a
  clear hp hm hc hct hcc HDB Y1 HB1 HBD
  go_enter Tryz.func130, Tryz.ntmps130
  go_wp2
  refine wp_region_held_drew (S := fun wz => Arr wz m 216 [.pointer (some ⟨b, o, none⟩)] ∧ wz.cell? ⟨b, o + 2, none⟩ = some (.int .i64 s) ∧ Arr wz cb 125 [.string c.nm, .slice ga c.args.length gc] ∧ Below w.heap.size w wz) (by kernel_rfl) (hs0.out) (fun hS => ?_)
  generalize (w.alloc (.cells #[.int .i64 0, .int .i64 0, .slice none 0 0, .slice none 0 0] 28)).drew = wd at hS Y2 HZD ⊢
  refine wpAnyH_take (i := 0) (v := ?_) rfl (by kernel_rfl) (by kernel_rfl) (by kernel_rfl) (fun _ _ _ h => h) (Or.inl ⟨by rfl, ?_⟩) hS ?_
  rotate_left
  · intro wz hz; have yy0 := hz.1.cell; have yy1 := hz.2.1; have yy2 := hz.2.2.1.cell; go_simp; try with_reducible rfl
  try simp only [Act.put, List.setIfInBounds_toArray, List.set_cons_zero, List.set_cons_succ, List.getElem_toArray, List.getElem_cons_succ, List.getElem_cons_zero]
  refine wpAnyH_take (i := 5) (v := ?_) rfl (by kernel_rfl) (by kernel_rfl) (by kernel_rfl) (fun _ _ _ h => h) (Or.inl ⟨by rfl, ?_⟩) hS ?_
  rotate_left
  · intro wz hz; have yy0 := hz.1.cell; have yy1 := hz.2.1; have yy2 := hz.2.2.1.cell; go_simp; try with_reducible rfl
  try simp only [Act.put, List.setIfInBounds_toArray, List.set_cons_zero, List.set_cons_succ, List.getElem_toArray, List.getElem_cons_succ, List.getElem_cons_zero]
  refine wpAnyH_ready (rs := [1]) (by kernel_rfl) (by simp) (AllReadyH.cons rfl (fun K hK => ?a1_1) AllReadyH.nil)
  case' a1_1 =>
    go_simp
    refine hK.out _ _ (hS) (fun hSn => ?_)
    clear hK K hS
    have hS := hSn
    clear hSn
    try simp only [Act.put, List.setIfInBounds_toArray, List.set_cons_zero, List.set_cons_succ, List.getElem_toArray, List.getElem_cons_succ, List.getElem_cons_zero]
    refine wpAnyH_take (i := 2) (v := ?_) rfl (by kernel_rfl) (by kernel_rfl) (by kernel_rfl) (fun _ _ _ h => h) (Or.inl ⟨by rfl, ?_⟩) hS ?_
    rotate_left
    · intro wz hz; go_simp; try with_reducible rfl
    try simp only [Act.put, List.setIfInBounds_toArray, List.set_cons_zero, List.set_cons_succ, List.getElem_toArray, List.getElem_cons_succ, List.getElem_cons_zero]
    refine wpAnyH_take (i := 3) (v := ?_) rfl (by kernel_rfl) (by kernel_rfl) (by kernel_rfl) (fun _ _ _ h => h) (Or.inl ⟨by rfl, ?_⟩) hS ?_
    rotate_left
    · intro wz hz; go_simp; try with_reducible rfl
    try simp only [Act.put, List.setIfInBounds_toArray, List.set_cons_zero, List.set_cons_succ, List.getElem_toArray, List.getElem_cons_succ, List.getElem_cons_zero]
    refine wpAnyH_take (i := 4) (v := ?_) rfl (by kernel_rfl) (by kernel_rfl) (by kernel_rfl) (fun _ _ _ h => h) (Or.inl ⟨by rfl, ?_⟩) hS ?_
    rotate_left
    · intro wz hz; have yy0 := hz.1.cell; have yy1 := hz.2.1; have yy2 := hz.2.2.1.cell; go_simp; try with_reducible rfl
    try simp only [Act.put, List.setIfInBounds_toArray, List.set_cons_zero, List.set_cons_succ, List.getElem_toArray, List.getElem_cons_succ, List.getElem_cons_zero]
    refine wpAnyH_ready (rs := [6]) (by kernel_rfl) (by simp) (AllReadyH.cons rfl (fun K hK => ?a2_6) AllReadyH.nil)
    case' a2_6 =>
      go_simp
      refine (HQ.out _ hS.2.2.2).mono ?_
      rintro e w4 ⟨⟨p', q', p, q, N, rfl, hT4⟩, b4⟩
      have Y4 := hid (Y2.out.stays b4)
      have HT4 := hid (hT4.move (K' := fun b => w.heap.size + 1 ≤ b) (Tgt.Keeps.refl _ _) (fun b hb => Nat.le_trans HZD.out hb))
      have y4 := Y4.out.cell
      have z4 := Y4.out.frozen
      refine hK.out _ _ (⟨hS.1.stays b4, (b4.cell (p := ⟨b, o + 2, none⟩) (World.block_lt_of_cell? _ _ hS.2.1)).trans hS.2.1, hS.2.2.1.stays b4, bl_tr hS.2.2.2 b4⟩) (fun hSn => ?_)
      clear hK K hS
      have hS := hSn
      clear hSn
      try simp only [Act.put, List.setIfInBounds_toArray, List.set_cons_zero, List.set_cons_succ, List.getElem_toArray, List.getElem_cons_succ, List.getElem_cons_zero]
      clear b4 Y2 hT4
      refine wpAnyH_take (i := 7) (v := ?_) rfl (by kernel_rfl) (by kernel_rfl) (by kernel_rfl) (fun _ _ _ h => h) (Or.inl ⟨by rfl, ?_⟩) hS ?_
      rotate_left
      · intro wz hz; go_simp; try with_reducible rfl
      try simp only [Act.put, List.setIfInBounds_toArray, List.set_cons_zero, List.set_cons_succ, List.getElem_toArray, List.getElem_cons_succ, List.getElem_cons_zero]
      refine wpAnyH_take (i := 8) (v := ?_) rfl (by kernel_rfl) (by kernel_rfl) (by kernel_rfl) (fun _ _ _ h => h) (Or.inl ⟨by rfl, ?_⟩) hS ?_
      rotate_left
      · intro wz hz; go_simp; try with_reducible rfl
      try simp only [Act.put, List.setIfInBounds_toArray, List.set_cons_zero, List.set_cons_succ, List.getElem_toArray, List.getElem_cons_succ, List.getElem_cons_zero]
      refine wpAnyH_ready (rs := [9]) (by kernel_rfl) (by simp) (AllReadyH.cons rfl (fun K hK => ?a3_9) AllReadyH.nil)
      case' a3_9 =>
        go_simp
        refine hK.out _ _ (HO.out _ _ _ (HO.out _ _ _ (HO.out _ _ _ (HO.out _ _ _ hS)))) (fun hSn => ?_)
        clear hK K hS
        have hS := hSn
        clear hSn
        try simp only [Act.put, List.setIfInBounds_toArray, List.set_cons_zero, List.set_cons_succ, List.getElem_toArray, List.getElem_cons_succ, List.getElem_cons_zero]
        refine wpAnyH_ready (rs := [10]) (by kernel_rfl) (by simp) (AllReadyH.cons rfl (fun K hK => ?a4_10) AllReadyH.nil)
        case' a4_10 =>
          go_simp
          refine hK.out _ _ (hS) (fun hSn => ?_)
          clear hK K hS
          have hS := hSn
          clear hSn
          try simp only [Act.put, List.setIfInBounds_toArray, List.set_cons_zero, List.set_cons_succ, List.getElem_toArray, List.getElem_cons_succ, List.getElem_cons_zero]
          refine wpAnyH_done (by kernel_rfl) ?_ _
  all_goals (
    go_wp2
    refine bodyPost_ret (v := .tuple #[.agg #[.int .i64 y.k, .int .i64 y.n, .slice p' y.ls.length q', .slice p y.ks.length q], .int .i64 xe]) (by rw [results_cell2t (fn := Tryz.f130) (p := 2) (a := 3) (ty := 28) (by kernel_rfl)]; simp [go_sem, y4, z4]) rfl ?_
    have hK : ∀ (W : World) i u, Tgt.Keeps (fun b => w.heap.size + 1 ≤ b) W (W.setCell ⟨w.heap.size, i, none⟩ u) := fun W i u b o v hb hv => by have hb : w.heap.size + 1 ≤ b := hb; rw [World.cell?_of_block (w := W) (Below.heap_setCell _ _ _ _ (by show b ≠ w.heap.size; omega))]; exact hv
    exact ⟨⟨p', q', p, q, _, rfl, HT4.out.move (((hK _ _ _).trans (hK _ _ _)).trans ((hK _ _ _).trans (hK _ _ _))) (fun b hb => by have hb : w.heap.size + 1 ≤ b := hb; show w.heap.size ≤ b; omega)⟩, hS.2.2.2⟩)
theorem cl2_mk {w0 w : World} {G m b o cb n : Nat} {s : Int} {c : Ct} {ga : Option Addr} {gc : Nat} (hG : m ≠ G) (hG2 : cb ≠ G) (hcc : Tp.cntL c.args ≤ 1048576) (hp : Arr w m 216 [.pointer (some ⟨b, o, none⟩)]) (hm : w0.cell? ⟨b, o + 2, none⟩ = some (.int .i64 s)) (hc : Arr w cb 125 [.string c.nm, .slice ga c.args.length gc]) (hct : CtAt w0 Any n [.string c.nm, .slice ga c.args.length gc] c) : Mk w0 w G 130 #[.pointer (some ⟨m, 0, none⟩), .pointer (some ⟨cb, 0, none⟩)] (conA s c) :=
  ⟨enters_of Tryz.func130 (by kernel_rfl) rfl, [(m, 216, [.pointer (some ⟨b, o, none⟩)]), (cb, 125, [.string c.nm, .slice ga c.args.length gc])], fun z hz => by
    rcases List.mem_cons.1 hz with rfl | hz
    · exact ⟨hG, by simp, hp⟩
    · rw [List.mem_singleton] at hz; subst hz; exact ⟨hG2, by simp, hc⟩, fun wz hz hb => cl2_all wz m b o cb n s c ga gc hcc (hb _ List.mem_cons_self) ((hz.cell (p := ⟨b, o + 2, none⟩) (World.block_lt_of_cell? _ _ hm)).trans hm) (hb _ (List.mem_cons_of_mem _ List.mem_cons_self)) (hct.below hz)⟩
end Go.Proofs.YtigliglmejkakaaGreat
