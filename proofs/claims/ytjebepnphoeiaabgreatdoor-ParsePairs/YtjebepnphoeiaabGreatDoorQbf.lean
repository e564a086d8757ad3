/- Pieces: GrSt GrH GrI. -/
import Derived.Test.YtjebepnphoeiaabGreatDoorQbe
namespace Go.Proofs.YtjebepnphoeiaabGreatDoor
open Go.RowKit
set_option linter.unusedVariables false

def Stab (B L : Nat) (P : World → Prop) : Prop := (∀ W W', Bes B W W' → P W → P W') ∧ ∀ W W', Save L W W' → P W → P W'
theorem Stab.and {B L : Nat} {P Q : World → Prop} (h : Stab B L P) (k : Stab B L Q) : Stab B L (fun W => P W ∧ Q W) :=
 ⟨fun W W' hb hp => ⟨h.1 W W' hb hp.1, k.1 W W' hb hp.2⟩, fun W W' hs hp => ⟨h.2 W W' hs hp.1, k.2 W W' hs hp.2⟩⟩
theorem Stab.bx {B L b : Nat} {vs : List Value} (hv : vs ≠ []) (hb : b ≠ B) (hl : b ≠ L) : Stab B L (fun W => Bx W b vs) := by
 cases vs with
 | nil => exact absurd rfl hv
 | cons v vs => exact ⟨fun W W' hB h => h.bes hB hb, fun W W' hs h => h.save hs hl⟩
theorem Stab.at {B L m n s : Nat} {vs : List Value} {nd : Nd} (hm : B < m) : Stab B L (fun W => At W (Gx m L) n s vs nd) := ⟨fun W W' hB h => hB.atx hm h, fun W W' hs h => Save.atx hs h⟩
theorem Stab.atl {B L m n s : Nat} {v : Value} {l : List Nd} (hm : B < m) : Stab B L (fun W => AtL W (Gx m L) n s v l) := ⟨fun W W' hB h => hB.atlx hm h, fun W W' hs h => Save.atlx hs h⟩
theorem Stab.tx {B L m : Nat} {v : Value} {l : List ByteArray} {q : Prop} (hm : B < m) : Stab B L (fun W => Tx W (Gx m L) v l ∧ q) := ⟨fun W W' hB h => hB.txx hm h, fun W W' hs h => Save.txx hs h⟩
theorem Stab.nr {B L m : Nat} {eU eV : TypeId} {sU sV n : Nat} {u v : Value} {lU lV : List Nd} (hm : B < m) : Stab B L (fun W => Nr W m L eU sU u lU eV sV v lV n) := ⟨fun W W' hB h => h.bes hB hm, fun W W' hs h => h.save hs⟩
theorem Save.keepz {m L : Nat} {w w' : World} {u v : Value} (h : Save L w w') : Keeps (Gz m L u v) w w' := Keeps.of_save h (fun h => h.2.1 rfl)
theorem Stab.gz {B L m n s : Nat} {u v : Value} {vs : List Value} {nd : Nd} (hm : B < m) : Stab B L (fun W => At W (Gz m L u v) n s vs nd) := ⟨fun W W' hB h => hB.gz hm h, fun W W' hs h => At.move hs.keepz (fun _ h => h) _ _ _ _ h⟩
theorem Bx.nil (w : World) (b : Nat) : Bx w b [] := ⟨fun j v hv => by simp at hv, fun j hj => by simp at hj⟩

structure Stt (w : World) (B S L : Nat) (V : List Value) (P : World → Prop) (ts : Gr.Ts) (W : World) : Prop where
 r : Rd W B S ts
 b : Bes B w W
 l : Bx W L V
 p : P W
 k : (V = [] ∧ L = B) ∨ (V ≠ [] ∧ B < L ∧ w.heap.size < L)
 s : Stab B L P
 lt : B < w.heap.size
 sz : w.heap.size < W.heap.size
section
variable {w W W' : World} {B S L : Nat} {V : List Value} {P : World → Prop} {ts ts' : Gr.Ts}
theorem Stt.ll (h : Stt w B S L V P ts W) : L < W.heap.size := by
 rcases h.k with ⟨-, e⟩ | ⟨hv, -⟩
 ·
  rw [e]; exact h.r.lt
 ·
  have hl := h.l
  cases V with
  | nil => exact absurd rfl hv
  | cons v V => exact hl.lt
theorem Stt.init (h : Rd w B S ts) (Z : List Value) (t : TypeId) (hz : Z ≠ []) : Hid (Stt w B S B [] (fun W => Bx W w.heap.size Z) ts (w.alloc (.cells Z.toArray t))) :=
 have := h.lt
 ⟨h.alloc _, (Bes.refl _ _).alloc _, Bx.nil _ _, Bx.new w Z t, .inl ⟨rfl, rfl⟩, Stab.bx hz (by omega) (by omega), h.lt, by simp⟩
theorem Stt.init2 (h : Rd w B S ts) (Z V : List Value) (t : TypeId) (hz : Z ≠ []) (hv : V ≠ []) : Hid (Stt w B S (w.heap.size + 1) V (fun W => Bx W w.heap.size Z) ts ((w.alloc (.cells Z.toArray t)).alloc (.cells V.toArray t))) :=
 have := h.lt
 ⟨(h.alloc _).alloc _, ((Bes.refl _ _).alloc _).alloc _, Bx.newAt _ _ _ (by simp), (Stab.bx hz (by omega) (by omega) : Stab B B _).1 _ _ (Bes.of_below (bl_new _ _)) (Bx.new w Z t), .inr ⟨hv, by omega, by omega⟩, Stab.bx hz (by omega) (by omega), h.lt, by simp; omega⟩
theorem Stt.next (h : Stt w B S L V P ts W) (hr : Rd W' B S ts') (hb : Bes B W W') : Hid (Stt w B S L V P ts' W') := by
 refine ⟨hr, h.b.trans hb, ?_, h.s.1 _ _ hb h.p, h.k, h.s, h.lt, Nat.lt_of_lt_of_le h.sz hb.size⟩
 have hl := h.l
 cases V with
 | nil => exact Bx.nil _ _
 | cons v V =>
  rcases h.k with ⟨e, -⟩ | ⟨-, hB, -⟩
  ·
   cases e
  ·
   exact hl.bes hb (by omega)
theorem Stt.bel (h : Stt w B S L V P ts W) (hb : Below W.heap.size W W') : Hid (Stt w B S L V P ts W') := h.next (h.r.below hb) (Bes.of_below hb)
theorem Stt.drew (h : Stt w B S L V P ts W) : Hid (Stt w B S L V P ts W.drew) := h.bel (bl_drew _)
theorem Stt.more (h : Stt w B S L V P ts W) {Q : World → Prop} (hq : Q W) (hs : Stab B L Q) : Hid (Stt w B S L V (fun X => P X ∧ Q X) ts W) := ⟨h.r, h.b, h.l, ⟨h.p, hq⟩, h.k, h.s.and hs, h.lt, h.sz⟩
theorem Stt.new (h : Stt w B S L V P ts W) (vs : List Value) (t : TypeId) (hv : vs ≠ []) : Hid (Stt w B S L V (fun X => P X ∧ Bx X W.heap.size vs) ts (W.alloc (.cells vs.toArray t))) :=
 have h1 := h.r.lt
 have h2 := h.ll
 (h.bel (bl_new _ _)).out.more (Bx.new W vs t) (Stab.bx hv (by omega) (by omega))
theorem Stt.addAt (h : Stt w B S L V P ts W) {n s : Nat} {vs : List Value} {nd : Nd} (hr : Rd W' B S ts') (hb : Bes B W W') (ha : At W' (Ge W.heap.size) n s vs nd) : Hid (Stt w B S L V (fun X => P X ∧ At X (Gx (w.heap.size + 1) L) n s vs nd) ts' W') :=
 (h.next hr hb).out.more (At.gx2 ha h.sz h.ll) (Stab.at (Nat.lt_succ_of_lt h.lt))
theorem Stt.addTx (h : Stt w B S L V P ts W) {v : Value} {l : List ByteArray} {q : Prop} (hr : Rd W' B S ts') (hb : Bes B W W') (hv : Tx W' (Ge W.heap.size) v l) (hq : q) : Hid (Stt w B S L V (fun X => P X ∧ (Tx X (Gx (w.heap.size + 1) L) v l ∧ q)) ts' W') :=
 (h.next hr hb).out.more ⟨hv.move (Keeps.refl _ _) (fun b hb => ⟨Nat.le_trans h.sz hb, Nat.ne_of_gt (Nat.lt_of_lt_of_le h.ll hb)⟩), hq⟩ (Stab.tx (Nat.lt_succ_of_lt h.lt))
theorem Stt.sl1 (h : Stt w B S L V P ts W) {n s : Nat} {va : List Value} {a : Nd} (ha : At W (Gx (w.heap.size + 1) L) n s va a) (t : TypeId) (b : Nat) (hs : va.length = Nd.size s) (hb : W.heap.size = b) :
  Hid (Stt w B S L V (fun X => P X ∧ AtL X (Gx (w.heap.size + 1) L) n s (.slice (some ⟨b, 0, none⟩) 1 1) [a]) ts (W.alloc (.cells va.toArray t))) :=
 (h.bel (bl_new _ _)).out.more (hb ▸ AtL.mk1x ha ⟨h.sz, Nat.ne_of_gt h.ll⟩ t hs) (Stab.atl (Nat.lt_succ_of_lt h.lt))
theorem Stt.sl2 (h : Stt w B S L V P ts W) {n m s : Nat} {va vb : List Value} {x y : Nd} (ha : At W (Gx (w.heap.size + 1) L) n s va x) (hc : At W (Gx (w.heap.size + 1) L) m s vb y) (t : TypeId) (b : Nat) (hs : va.length = Nd.size s) (hs2 : vb.length = Nd.size s) (hb : W.heap.size = b) :
  Hid (Stt w B S L V (fun X => P X ∧ AtL X (Gx (w.heap.size + 1) L) (max n m) s (.slice (some ⟨b, 0, none⟩) 2 2) [x, y]) ts (W.alloc (.cells (va ++ vb).toArray t))) :=
 (h.bel (bl_new _ _)).out.more (hb ▸ AtL.mk2x (At.le ha (Nat.le_max_left n m)) (At.le hc (Nat.le_max_right n m)) ⟨h.sz, Nat.ne_of_gt h.ll⟩ t hs hs2) (Stab.atl (Nat.lt_succ_of_lt h.lt))
theorem AtL.mk3x {w : World} {K : Nat → Prop} {n s : Nat} {va vb vc : List Value} {a b c : Nd} (ha : At w K n s va a) (hb : At w K n s vb b) (hc : At w K n s vc c) (hK : K w.heap.size) (t : TypeId) (hs : va.length = Nd.size s) (hs2 : vb.length = Nd.size s) (hs3 : vc.length = Nd.size s) : AtL (w.alloc (.cells (va ++ vb ++ vc).toArray t)) K n s (.slice (some ⟨w.heap.size, 0, none⟩) 3 3) [a, b, c] := by
 refine .inl ⟨w.heap.size, 0, 3, rfl, hK, Nat.le_refl _, by unfold maxLen; simp, fun i x hx => ?_⟩
 match i, hx with
 | 0, hx =>
  cases hx
  refine ⟨va, hs, fun j v hv => ?_, At.move (Keeps.of_below (bl_alloc (Below.refl _ _) _)) (fun _ h => h) _ _ _ _ ha⟩
  rw [World.cell?_alloc_at _ _ _ _ rfl]
  have hj := (List.getElem?_eq_some_iff.1 hv).1
  simp [List.getElem?_append_left hj, hv]
 | 1, hx =>
  cases hx
  refine ⟨vb, hs2, fun j v hv => ?_, At.move (Keeps.of_below (bl_alloc (Below.refl _ _) _)) (fun _ h => h) _ _ _ _ hb⟩
  rw [World.cell?_alloc_at _ _ _ _ rfl]
  have hj := (List.getElem?_eq_some_iff.1 hv).1
  simp [← hs, List.getElem?_append_right, List.getElem?_append_left hj, hv]
 | 2, hx =>
  cases hx
  refine ⟨vc, hs3, fun j v hv => ?_, At.move (Keeps.of_below (bl_alloc (Below.refl _ _) _)) (fun _ h => h) _ _ _ _ hc⟩
  rw [World.cell?_alloc_at _ _ _ _ rfl]
  have e : (va ++ (vb ++ vc))[2 * va.length + j]? = some v := by
   rw [List.getElem?_append_right (by omega), List.getElem?_append_right (by omega), show 2 * va.length + j - va.length - vb.length = j by omega]; exact hv
  simp [← hs]
  simpa using e
theorem Stt.sl3 (h : Stt w B S L V P ts W) {n m k s : Nat} {va vb vc : List Value} {x y z : Nd} (ha : At W (Gx (w.heap.size + 1) L) n s va x) (hc : At W (Gx (w.heap.size + 1) L) m s vb y) (hd : At W (Gx (w.heap.size + 1) L) k s vc z) (t : TypeId) (b : Nat) (hs : va.length = Nd.size s) (hs2 : vb.length = Nd.size s) (hs3 : vc.length = Nd.size s) (hb : W.heap.size = b) :
  Hid (Stt w B S L V (fun X => P X ∧ AtL X (Gx (w.heap.size + 1) L) (max n (max m k)) s (.slice (some ⟨b, 0, none⟩) 3 3) [x, y, z]) ts (W.alloc (.cells (va ++ vb ++ vc).toArray t))) :=
 (h.bel (bl_new _ _)).out.more (hb ▸ AtL.mk3x (At.le ha (Nat.le_max_left _ _)) (At.le hc (Nat.le_trans (Nat.le_max_left _ _) (Nat.le_max_right _ _))) (At.le hd (Nat.le_trans (Nat.le_max_right _ _) (Nat.le_max_right _ _))) ⟨h.sz, Nat.ne_of_gt h.ll⟩ t hs hs2 hs3) (Stab.atl (Nat.lt_succ_of_lt h.lt))
theorem Stt.own {Z : List Value} (h : Stt w B S B [] (fun X => Bx X w.heap.size Z) ts W) (hz : Z ≠ []) {n s : Nat} {vs : List Value} {nd : Nd} (hr : Rd W' B S ts') (hb : Bes B W W') (ha : At W' (Ge W.heap.size) n s vs nd) (t : TypeId) (hv : vs ≠ []) :
  Hid (Stt w B S W'.heap.size vs (fun X => Bx X w.heap.size Z ∧ At X (Gx (w.heap.size + 1) W'.heap.size) n s vs nd) ts' (W'.alloc (.cells vs.toArray t))) := by
 have h1 := (h.next hr hb).out
 have hlt := h.lt
 have hsz := h1.sz
 have hm : B < w.heap.size + 1 := by omega
 have hs : Stab B W'.heap.size (fun X => Bx X w.heap.size Z ∧ At X (Gx (w.heap.size + 1) W'.heap.size) n s vs nd) := (Stab.bx hz (by omega) (by omega)).and (Stab.at hm)
 exact ⟨hr.alloc _, h1.b.alloc _, Bx.new _ _ _, hs.1 _ _ (Bes.of_below (bl_new _ _)) ⟨h1.p, At.gx (At.move (Keeps.refl _ _) (Ge.le h.sz) _ _ _ _ ha) (Nat.le_refl _)⟩, .inr ⟨hv, hr.lt, hsz⟩, hs, hlt, by simp; omega⟩
theorem Stt.set (h : Stt w B S L V P ts W) (j : Nat) (u : Value) (hj : j < V.length) : Hid (Stt w B S L (V.set j u) P ts (W.setCell ⟨L, j, none⟩ u)) := by
 rcases h.k with ⟨e, -⟩ | ⟨hv, hB, hw⟩
 ·
  rw [e] at hj; cases hj
 ·
  have hs := Save.one W L j u
  refine ⟨h.r.save hs hB, h.b.save hs (Nat.le_of_lt hw), h.l.set j u hj, h.s.2 _ _ hs h.p, .inr ⟨fun e => ?_, hB, hw⟩, h.s, h.lt, by rw [hs.size]; exact h.sz⟩
  rw [List.set_eq_nil_iff] at e
  exact hv e
theorem Stt.rd (h : Hid (Stt w B S L V P ts W)) : Rd W B S ts := h.out.r
theorem Stt.tkT (h : Stt w B S L V P ts W) (x : ByteArray) (hb : Gr.isT x.data.toList ts = true) : Calls Tryz.prog 15 #[.pointer (some ⟨B, 0, none⟩), .string x] W fun e W' => e = .returned (.bool true) ∧ Hid (Stt w B S L V P ts.tail W') :=
 (gr_take W B S ts h.r x true hb).mono fun e W' ⟨he, hr, hb⟩ => ⟨he, h.next hr hb⟩
theorem Stt.tkF (h : Stt w B S L V P ts W) (x : ByteArray) (hb : Gr.isT x.data.toList ts = false) : Calls Tryz.prog 15 #[.pointer (some ⟨B, 0, none⟩), .string x] W fun e W' => e = .returned (.bool false) ∧ Hid (Stt w B S L V P ts W') :=
 (gr_take W B S ts h.r x false hb).mono fun e W' ⟨he, hr, hb⟩ => ⟨he, h.next hr hb⟩
theorem Stt.is (h : Stt w B S L V P ts W) (x : ByteArray) (b : Bool) (hb : Gr.isT x.data.toList ts = b) : Calls Tryz.prog 33 #[.pointer (some ⟨B, 0, none⟩), .string x] W fun e W' => e = .returned (.bool b) ∧ Hid (Stt w B S L V P ts W') :=
 (gr_is W B S ts h.r x b hb).mono fun e W' ⟨he, hb⟩ => ⟨he, h.bel hb⟩
theorem Stt.nd (h : Stt w B S L V P ts W) (x : ByteArray) (hb : Gr.isT x.data.toList ts = true) : Calls Tryz.prog 17 #[.pointer (some ⟨B, 0, none⟩), .string x] W fun e W' => e = .returned (.tuple #[]) ∧ Hid (Stt w B S L V P ts.tail W') :=
 (gr_need_yes W B S ts h.r x hb).mono fun e W' ⟨he, hr, hb⟩ => ⟨he, h.next hr hb⟩
theorem Stt.step {t : Lx.Tok} {r : Gr.Ts} (h : Stt w B S L V P (t :: r) W) : Calls Tryz.prog 34 #[.pointer (some ⟨B, 0, none⟩)] W fun e W' => e = .returned (.tuple #[]) ∧ Hid (Stt w B S L V P r W') :=
 (gr_step W B S t r h.r).mono fun e W' ⟨he, hr, hb⟩ => ⟨he, h.next hr hb⟩
theorem Stt.low (h : Stt w B S L V P ts W) (hk : Gr.kd ts = 1) : Calls Tryz.prog 137 #[.pointer (some ⟨B, 0, none⟩)] W fun e W' => e = .returned (.string (Gr.hd ts)) ∧ Hid (Stt w B S L V P ts.tail W') :=
 (gr_low_yes W B S ts h.r hk).mono fun e W' ⟨he, hr, hb⟩ => ⟨he, h.next hr hb⟩
theorem Stt.ans (h : Stt w B S L V P ts W) {W1 : World} {n s : Nat} {vs : List Value} {nd : Nd} (hs : Save w.heap.size W W1) (ha : At W (Gx (w.heap.size + 1) L) n s vs nd) : Gr.Ans B S s w (.ok nd ts) (.returned (.agg vs.toArray)) W1 := Gr.Ans.mk h.lt hs h.r h.b ha.ge
theorem Stt.ans2 (h : Stt w B S L V P ts W) {W1 : World} {n s : Nat} {vs : List Value} {nd : Nd} (hs : Save w.heap.size W W1) (ha : At W (Gx (w.heap.size + 1) L) n s vs nd) : Gr.Ans2 B S s w (.ok nd ts) (.returned (.tuple #[.agg vs.toArray, .bool true])) W1 := Gr.Ans2.mk h.lt hs h.r h.b ha.ge
theorem Stt.app (h : Stt w B S L V P ts W) {Z : List Value} (hz : Bx W w.heap.size Z) (hZ : Z ≠ []) {eU eV : TypeId} {sU sV n n' : Nat} {u v u' : Value} {lU lV : List Nd} {xs vs : List Value} {nd : Nd} (hN : Nr W (w.heap.size + 1) L eU sU u lU eV sV v lV n) (h1 : W.ownsRow (w.heap.size + 1) eU (Nd.size sU) u lU.length xs) (h2 : NrE W (Gz (w.heap.size + 1) L u v) n sU xs lU)
  (hown : W'.ownsRow (w.heap.size + 1) eU (Nd.size sU) u' (lU.length + 1) (xs ++ vs)) (hg : W.grownBy W' u.ownBlock) (hf : Fresh W u u') (ha : At W (Gz (w.heap.size + 1) L u v) n' sU vs nd) (hlen : vs.length = Nd.size sU) :
  Hid (Stt w B S L V (fun X => Bx X w.heap.size Z ∧ Nr X (w.heap.size + 1) L eU sU u' (lU ++ [nd]) eV sV v lV (max n n')) ts W') := by
 have hrow : ∀ j, u.ownBlock = some j → w.heap.size + 1 ≤ j := own_row h1
 have hlt := h.lt
 have hsz := h.sz
 have hne : w.heap.size ≠ L := by rcases h.k with ⟨-, e⟩ | ⟨-, hB, hw⟩ <;> omega
 refine ⟨h.r.grown hg (fun j ej => by have := hrow j ej; omega), h.b.grown hg (fun j ej => by have := hrow j ej; omega), ?_, ⟨?_, Nr.app hN h1 h2 hown hg hf ha hlen h.ll⟩, h.k, (Stab.bx hZ (by omega) hne).and (Stab.nr (by omega)), h.lt, Nat.lt_of_lt_of_le h.sz hg.size⟩
 ·
  have hl := h.l
  cases V with
  | nil => exact Bx.nil _ _
  | cons v V => exact hl.grown hg (fun e => hN.lu e.symm)
 ·
  cases Z with
  | nil => exact absurd rfl hZ
  | cons z Z => exact hz.grown hg (fun e => by have := hrow _ e.symm; omega)
theorem Stt.appV (h : Stt w B S L V P ts W) {Z : List Value} (hz : Bx W w.heap.size Z) (hZ : Z ≠ []) {eU eV : TypeId} {sU sV n n' : Nat} {u v v' : Value} {lU lV : List Nd} {xs vs : List Value} {nd : Nd} (hN : Nr W (w.heap.size + 1) L eU sU u lU eV sV v lV n) (h1 : W.ownsRow (w.heap.size + 1) eV (Nd.size sV) v lV.length xs) (h2 : NrE W (Gz (w.heap.size + 1) L v u) n sV xs lV)
  (hown : W'.ownsRow (w.heap.size + 1) eV (Nd.size sV) v' (lV.length + 1) (xs ++ vs)) (hg : W.grownBy W' v.ownBlock) (hf : Fresh W v v') (ha : At W (Gz (w.heap.size + 1) L u v) n' sV vs nd) (hlen : vs.length = Nd.size sV) :
  Hid (Stt w B S L V (fun X => Bx X w.heap.size Z ∧ Nr X (w.heap.size + 1) L eU sU u lU eV sV v' (lV ++ [nd]) (max n n')) ts W') := by
 have k := (h.app hz hZ hN.swap h1 h2 hown hg hf (At.move (Keeps.refl _ _) Gz.swap _ _ _ _ ha) hlen).out
 have hlt := h.lt
 have hne : w.heap.size ≠ L := by rcases h.k with ⟨-, e⟩ | ⟨-, hB, hw⟩ <;> omega
 exact ⟨k.r, k.b, k.l, ⟨k.p.1, k.p.2.swap⟩, k.k, (Stab.bx hZ (by omega) hne).and (Stab.nr (by omega)), k.lt, k.sz⟩
theorem Stt.addGz (h : Stt w B S L V P ts W) {eU eV : TypeId} {sU sV n n' s : Nat} {u v : Value} {lU lV : List Nd} {vs : List Value} {nd : Nd} (hN : Nr W (w.heap.size + 1) L eU sU u lU eV sV v lV n) (hr : Rd W' B S ts') (hb : Bes B W W') (ha : At W' (Ge W.heap.size) n' s vs nd) :
  Hid (Stt w B S L V (fun X => P X ∧ At X (Gz (w.heap.size + 1) L u v) n' s vs nd) ts' W') :=
 (h.next hr hb).out.more (hN.new ha (Nat.le_refl _) h.sz h.ll) (Stab.gz (Nat.lt_succ_of_lt h.lt))
theorem Stt.made (h : Stt w B S L V P ts W) (vs : List Value) (t : TypeId) (b : Nat) (hb : W.heap.size = b) : Hid (Stt w B S L V P ts (W.alloc (.cells vs.toArray t))) ∧ Hid (NewC (W.alloc (.cells vs.toArray t)) b vs) := ⟨h.bel (bl_new _ _), NewC.mk W vs t hb⟩
theorem Stt.con {v : Value} {l : List ByteArray} {q : Prop} {Z V : List Value} {Q : World → Prop} (h : Stt w B S B [] (fun X => Bx X w.heap.size Z ∧ Q X) ts W) (hz : Z ≠ []) (hr : Rd W' B S ts') (hb : Bes B W W') (hv : Tx W' (Ge W.heap.size) v l) (hq : q) (t : TypeId) (hV : V ≠ []) :
  Hid (Stt w B S W'.heap.size V (fun X => Bx X w.heap.size Z ∧ (Tx X (Gx (w.heap.size + 1) W'.heap.size) v l ∧ q)) ts' (W'.alloc (.cells V.toArray t))) := by
 have h1 := (h.next hr hb).out
 have hlt := h.lt
 have hsz := h1.sz
 have hs : Stab B W'.heap.size (fun X => Bx X w.heap.size Z ∧ (Tx X (Gx (w.heap.size + 1) W'.heap.size) v l ∧ q)) := (Stab.bx hz (by omega) (by omega)).and (Stab.tx (by omega))
 exact ⟨hr.alloc _, h1.b.alloc _, Bx.new _ _ _, hs.1 _ _ (Bes.of_below (bl_new _ _)) ⟨h1.p.1, Tx.gx (hv.move (Keeps.refl _ _) (Ge.le h.sz)) (Nat.le_refl _), hq⟩, .inr ⟨hV, hr.lt, hsz⟩, hs, hlt, by simp; omega⟩
theorem Stt.put {v0 : Value} {V0 : List Value} (h : Stt w B S L (v0 :: V0) P ts W) {W1 : World} (V' : List Value) (hs : Save L W W1) (hl : Bx W1 L V') {Z : List Value} (hz : Bx W w.heap.size Z) (hZ : Z ≠ []) (hV : V' ≠ []) {n s : Nat} {nd : Nd} (ha : At W (Gx (w.heap.size + 1) L) n s V' nd) :
  Hid (Stt w B S L V' (fun X => Bx X w.heap.size Z ∧ At X (Gx (w.heap.size + 1) L) n s V' nd) ts W1) := by
 have hlt := h.lt
 rcases h.k with ⟨e, e2⟩ | ⟨hv, hB, hw⟩
 ·
  cases e
 ·
  have hS : Stab B L (fun X => Bx X w.heap.size Z ∧ At X (Gx (w.heap.size + 1) L) n s V' nd) := (Stab.bx hZ (by omega) (by omega)).and (Stab.at (by omega))
  exact ⟨h.r.save hs hB, h.b.save hs (Nat.le_of_lt hw), hl, hS.2 _ _ hs ⟨hz, ha⟩, .inr ⟨hV, hB, hw⟩, hS, h.lt, by rw [hs.size]; exact h.sz⟩
end
set_option linter.unusedSimpArgs false
set_option maxHeartbeats 1600000 in
set_option maxRecDepth 100000 in
theorem gr_atomTy (f : Nat) (ihT : Gr.Rule 23 .ty 0 f) : Gr.Rule 89 .atomTy 0 (f + 1) := by
  intro w B S ts h hne
  rw [show Gr.g (f + 1) .atomTy ts = (if Gr.kd ts = 5 then .ok (Gr.tyN 1 ((Gr.hd ts).extract 1 (Gr.hd ts).size) [] []) ts.tail
      else if Gr.isT [105, 110, 116] ts = true then .ok (Gr.tyN 2 Gr.none8 [Gr.hd ts] []) ts.tail
      else if Gr.isT [98, 111, 111, 108] ts = true then .ok (Gr.tyN 2 Gr.none8 [Gr.hd ts] []) ts.tail
      else if Gr.isT [117, 110, 105, 116] ts = true then .ok (Gr.tyN 2 Gr.none8 [Gr.hd ts] []) ts.tail
      else if Gr.isT [40] ts = true then (Gr.g f .ty ts.tail).bind fun a r => Gr.need [41] r fun r2 => .ok a r2
      else (Gr.low ts).bind fun p _ r => .ok (Gr.tyN 2 Gr.none8 p []) r) from rfl] at hne ⊢
  have hlt := h.lt
  have st0 := Stt.init h [.int .i64 0, .string ⟨#[]⟩, .slice none 0 0, .slice none 0 0] 41 (by simp)
  obtain ⟨K, hK⟩ : ∃ K : Int, (Gr.kd ts : Int) = K := ⟨_, rfl⟩
  obtain ⟨T, hTx⟩ : ∃ T : ByteArray, Gr.hd ts = T := ⟨_, rfl⟩
  obtain ⟨n1, hn1⟩ : ∃ K : Int, (Gr.hn ts : Int) = K := ⟨_, rfl⟩
  obtain ⟨n2, hn2⟩ : ∃ K : Int, Gr.at0 S ts = K := ⟨_, rfl⟩
  obtain ⟨nz, hnz⟩ : ∃ b : Bool, decide (ts ≠ []) = b := ⟨_, rfl⟩
  have qn : Hid (∀ ob, Calls Tryz.prog 32 #[.pointer (some ⟨B, 0, none⟩)] (w.alloc ob) fun e w' => e = .returned (.tuple #[.agg #[.int .i64 K, .string T, .int .i64 n1, .int .i64 n2], .bool nz]) ∧ Below (w.alloc ob).heap.size (w.alloc ob) w') := fun ob => by rw [← hK, ← hTx, ← hn1, ← hn2, ← hnz]; exact gr_next _ B S ts (h.alloc _)
  have hTs : T.size ≤ maxLen := by
    rw [← hTx]
    cases ts with
    | nil => show 0 ≤ maxLen; omega
    | cons t r =>
      have := (h.ok t (List.mem_cons_self ..)).len
      show t.text.toArray.size ≤ maxLen
      rw [List.size_toArray]; unfold maxLen; omega
  clear hn2 hnz
  by_cases h5 : Gr.kd ts = 5
  · rw [if_pos h5, hTx]
    cases ts with
    | nil => cases h5
    | cons t r =>
      have hT1 : 1 ≤ T.size := by
        rw [← hTx]
        have := (h.ok t (List.mem_cons_self ..)).tyv h5
        show 1 ≤ t.text.toArray.size
        rw [List.size_toArray]; exact this
      obtain rfl : K = 5 := by omega
      have hTe : (T.extract 1 T.size).size ≤ maxLen := by rw [ByteArray.size_extract]; omega
      unfold maxLen at hTs
      clear hne h hTx hK h5
      go_enter Tryz.func89, Tryz.ntmps89
      go_wp2_with (first | (go_at_call 34; refine st1.out.step.mono ?_; rintro e w2 ⟨rfl, st2⟩; obtain ⟨⟨k0, k1, k2, k3⟩, z0, z1, z2, z3⟩ := st2.out.p.1.e4; have hlw := st2.out.sz; obtain ⟨⟨htk0, htk1, htk2, htk3⟩, htz0, htz1, htz2, htz3⟩ := st2.out.p.2.e4; clear st1) | (go_at_call 32; refine (qn.out _).mono ?_; rintro e w0 ⟨rfl, hb00⟩; have st1 := (st0.out.bel hb00).out.new [.int .i64 5, .string T, .int .i64 n1, .int .i64 n2] 77 (by simp); clear hb00 st0))
      refine bodyPost_ret (v := .agg #[.int .i64 1, .string (T.extract 1 T.size), .slice none 0 0, .slice none 0 0]) (by rw [results_cell1 (fn := Tryz.f89) (p := 2) (ty := 41) (by kernel_rfl)]; simp [go_sem, k0, k1, k2, k3]) rfl ?_
      exact st2.out.ans (by simp only [sv]) (At.ty_mk (n := 0) (by decide) hTe (Tx.none0 ..) (fun x hx => by cases hx) (Nat.zero_le _) (AtL.none0 ..))
  have hK5 : ¬ K = 5 := by omega
  rw [if_neg h5] at hne ⊢
  clear h5
  cases hT0 : Gr.isT [105, 110, 116] ts with
  | true =>
    simp only [hT0, if_true]
    rw [hTx]
    clear hne h hTx hK
    go_enter Tryz.func89, Tryz.ntmps89
    go_wp2_with (first | (go_at_call 15; refine (st1.out.tkT ⟨#[105, 110, 116]⟩ hT0).mono ?_; rintro e w2 ⟨rfl, st2⟩; obtain ⟨⟨k0, k1, k2, k3⟩, z0, z1, z2, z3⟩ := st2.out.p.1.e4; have hlw := st2.out.sz; obtain ⟨⟨htk0, htk1, htk2, htk3⟩, htz0, htz1, htz2, htz3⟩ := st2.out.p.2.e4; clear st1) | (go_at_call 32; refine (qn.out _).mono ?_; rintro e w0 ⟨rfl, hb00⟩; have st1 := (st0.out.bel hb00).out.new [.int .i64 K, .string T, .int .i64 n1, .int .i64 n2] 77 (by simp); clear hb00 st0))
    refine bodyPost_ret (v := .agg #[.int .i64 2, .string ⟨#[]⟩, .slice (some ⟨w2.heap.size, 0, none⟩) 1 1, .slice none 0 0]) (by rw [results_cell1 (fn := Tryz.f89) (p := 2) (ty := 41) (by kernel_rfl)]; simp [go_sem, k0, k1, k2, k3, hlw]) rfl ?_
    exact (st2.out.bel (bl_new w2 (.cells #[.string T] 9))).out.ans (by simp only [sv]) (At.ty_mk (n := 0) (by decide) (by decide) (Tx.new1 ⟨st2.out.sz, Nat.ne_of_gt st2.out.ll⟩ 9) (fun x hx => by rw [List.mem_singleton] at hx; rw [hx]; exact hTs) (by unfold maxLen; simp) (AtL.none0 ..))
  | false =>
    simp only [hT0, Bool.false_eq_true, if_false] at hne ⊢
    cases hT1 : Gr.isT [98, 111, 111, 108] ts with
    | true =>
      simp only [hT1, if_true]
      rw [hTx]
      clear hne h hTx hK
      go_enter Tryz.func89, Tryz.ntmps89
      go_wp2_with (first | (go_at_call 15; refine (st2.out.tkT ⟨#[98, 111, 111, 108]⟩ hT1).mono ?_; rintro e w3 ⟨rfl, st3⟩; obtain ⟨⟨k0, k1, k2, k3⟩, z0, z1, z2, z3⟩ := st3.out.p.1.e4; have hlw := st3.out.sz; obtain ⟨⟨htk0, htk1, htk2, htk3⟩, htz0, htz1, htz2, htz3⟩ := st3.out.p.2.e4; clear st2) | (go_at_call 15; refine (st1.out.tkF ⟨#[105, 110, 116]⟩ hT0).mono ?_; rintro e w2 ⟨rfl, st2⟩; clear st1) | (go_at_call 32; refine (qn.out _).mono ?_; rintro e w0 ⟨rfl, hb00⟩; have st1 := (st0.out.bel hb00).out.new [.int .i64 K, .string T, .int .i64 n1, .int .i64 n2] 77 (by simp); clear hb00 st0))
      refine bodyPost_ret (v := .agg #[.int .i64 2, .string ⟨#[]⟩, .slice (some ⟨w3.heap.size, 0, none⟩) 1 1, .slice none 0 0]) (by rw [results_cell1 (fn := Tryz.f89) (p := 2) (ty := 41) (by kernel_rfl)]; simp [go_sem, k0, k1, k2, k3, hlw]) rfl ?_
      exact (st3.out.bel (bl_new w3 (.cells #[.string T] 9))).out.ans (by simp only [sv]) (At.ty_mk (n := 0) (by decide) (by decide) (Tx.new1 ⟨st3.out.sz, Nat.ne_of_gt st3.out.ll⟩ 9) (fun x hx => by rw [List.mem_singleton] at hx; rw [hx]; exact hTs) (by unfold maxLen; simp) (AtL.none0 ..))
    | false =>
      simp only [hT1, Bool.false_eq_true, if_false] at hne ⊢
      cases hT2 : Gr.isT [117, 110, 105, 116] ts with
      | true =>
        simp only [hT2, if_true]
        rw [hTx]
        clear hne h hTx hK
        go_enter Tryz.func89, Tryz.ntmps89
        go_wp2_with (first | (go_at_call 15; refine (st3.out.tkT ⟨#[117, 110, 105, 116]⟩ hT2).mono ?_; rintro e w4 ⟨rfl, st4⟩; obtain ⟨⟨k0, k1, k2, k3⟩, z0, z1, z2, z3⟩ := st4.out.p.1.e4; have hlw := st4.out.sz; obtain ⟨⟨htk0, htk1, htk2, htk3⟩, htz0, htz1, htz2, htz3⟩ := st4.out.p.2.e4; clear st3) | (go_at_call 15; refine (st2.out.tkF ⟨#[98, 111, 111, 108]⟩ hT1).mono ?_; rintro e w3 ⟨rfl, st3⟩; clear st2) | (go_at_call 15; refine (st1.out.tkF ⟨#[105, 110, 116]⟩ hT0).mono ?_; rintro e w2 ⟨rfl, st2⟩; clear st1) | (go_at_call 32; refine (qn.out _).mono ?_; rintro e w0 ⟨rfl, hb00⟩; have st1 := (st0.out.bel hb00).out.new [.int .i64 K, .string T, .int .i64 n1, .int .i64 n2] 77 (by simp); clear hb00 st0))
        refine bodyPost_ret (v := .agg #[.int .i64 2, .string ⟨#[]⟩, .slice (some ⟨w4.heap.size, 0, none⟩) 1 1, .slice none 0 0]) (by rw [results_cell1 (fn := Tryz.f89) (p := 2) (ty := 41) (by kernel_rfl)]; simp [go_sem, k0, k1, k2, k3, hlw]) rfl ?_
        exact (st4.out.bel (bl_new w4 (.cells #[.string T] 9))).out.ans (by simp only [sv]) (At.ty_mk (n := 0) (by decide) (by decide) (Tx.new1 ⟨st4.out.sz, Nat.ne_of_gt st4.out.ll⟩ 9) (fun x hx => by rw [List.mem_singleton] at hx; rw [hx]; exact hTs) (by unfold maxLen; simp) (AtL.none0 ..))
      | false =>
        simp only [hT2, Bool.false_eq_true, if_false] at hne ⊢
        cases hT3 : Gr.isT [40] ts with
        | true =>
          simp only [hT3, if_true] at hne ⊢
          clear h hTx hK
          cases hG : Gr.g f .ty ts.tail with
          | out => rw [hG] at hne; exact absurd rfl hne
          | bad r2 c =>
            have qG : Hid (∀ W, Rd W B S ts.tail → Calls Tryz.prog 23 #[.pointer (some ⟨B, 0, none⟩)] W (Gr.Ans B S 0 W (.bad r2 c))) := fun W hW => by rw [← hG]; exact ihT W B S ts.tail hW (by rw [hG]; simp)
            clear hne hG
            go_enter Tryz.func89, Tryz.ntmps89
            go_wp2_with (first | (go_at_call 23; refine (qG.out _ st5.out.r).mono ?_; rintro e w6 ⟨rfl, hRR, hBB⟩) | (go_at_call 15; refine (st4.out.tkT ⟨#[40]⟩ hT3).mono ?_; rintro e w5 ⟨rfl, st5⟩; clear st4) | (go_at_call 15; refine (st3.out.tkF ⟨#[117, 110, 105, 116]⟩ hT2).mono ?_; rintro e w4 ⟨rfl, st4⟩; clear st3) | (go_at_call 15; refine (st2.out.tkF ⟨#[98, 111, 111, 108]⟩ hT1).mono ?_; rintro e w3 ⟨rfl, st3⟩; clear st2) | (go_at_call 15; refine (st1.out.tkF ⟨#[105, 110, 116]⟩ hT0).mono ?_; rintro e w2 ⟨rfl, st2⟩; clear st1) | (go_at_call 32; refine (qn.out _).mono ?_; rintro e w0 ⟨rfl, hb00⟩; have st1 := (st0.out.bel hb00).out.new [.int .i64 K, .string T, .int .i64 n1, .int .i64 n2] 77 (by simp); clear hb00 st0))
            exact ⟨rfl, rfl, hRR, st5.out.b.trans hBB⟩
          | ok a r =>
            have qG : Hid (∀ W, Rd W B S ts.tail → Calls Tryz.prog 23 #[.pointer (some ⟨B, 0, none⟩)] W (Gr.Ans B S 0 W (.ok a r))) := fun W hW => by rw [← hG]; exact ihT W B S ts.tail hW (by rw [hG]; simp)
            simp only [hG, Gr.Res.bind] at hne ⊢
            clear hne hG
            cases hN : Gr.isT [41] r with
            | false =>
              rw [Gr.need, if_neg (by rw [hN]; simp)]
              go_enter Tryz.func89, Tryz.ntmps89
              go_wp2_with (first | (go_at_call 17; refine (gr_need_no _ B S r st7.out.r ⟨#[41]⟩ hN).mono ?_; rintro e w8 ⟨rfl, hRR, hBB⟩) | (go_at_call 23; refine (qG.out _ st5.out.r).mono ?_; rintro e w6 ⟨⟨vsx, nx, rfl, ha0⟩, hRR, hBB⟩; obtain ⟨xi, xs, xa, xn, xc, xd, xm, xe, rfl⟩ := ha0.ty_form; have st6 := st5.out.addAt hRR hBB ha0; have hqbx := st6.out.sz; have st7 := st6.out.new [.int .i64 xi, .string xs, .slice xa xn xc, .slice xd xm xe] 41 (by simp); clear st6; clear hRR hBB ha0 st5) | (go_at_call 15; refine (st4.out.tkT ⟨#[40]⟩ hT3).mono ?_; rintro e w5 ⟨rfl, st5⟩; clear st4) | (go_at_call 15; refine (st3.out.tkF ⟨#[117, 110, 105, 116]⟩ hT2).mono ?_; rintro e w4 ⟨rfl, st4⟩; clear st3) | (go_at_call 15; refine (st2.out.tkF ⟨#[98, 111, 111, 108]⟩ hT1).mono ?_; rintro e w3 ⟨rfl, st3⟩; clear st2) | (go_at_call 15; refine (st1.out.tkF ⟨#[105, 110, 116]⟩ hT0).mono ?_; rintro e w2 ⟨rfl, st2⟩; clear st1) | (go_at_call 32; refine (qn.out _).mono ?_; rintro e w0 ⟨rfl, hb00⟩; have st1 := (st0.out.bel hb00).out.new [.int .i64 K, .string T, .int .i64 n1, .int .i64 n2] 77 (by simp); clear hb00 st0))
              exact ⟨rfl, rfl, ⟨_, hRR⟩, st7.out.b.trans hBB⟩
            | true =>
              rw [Gr.need, if_pos hN]
              go_enter Tryz.func89, Tryz.ntmps89
              go_wp2_with (first | (go_at_call 17; refine (st7.out.nd ⟨#[41]⟩ hN).mono ?_; rintro e w8 ⟨rfl, st8⟩; obtain ⟨⟨k0, k1, k2, k3⟩, z0, z1, z2, z3⟩ := st8.out.p.1.1.1.e4; have hlw := st8.out.sz; obtain ⟨⟨htk0, htk1, htk2, htk3⟩, htz0, htz1, htz2, htz3⟩ := st8.out.p.1.1.2.e4; obtain ⟨⟨hlxk0, hlxk1, hlxk2, hlxk3⟩, hlxz0, hlxz1, hlxz2, hlxz3⟩ := st8.out.p.2.e4; clear st7) | (go_at_call 23; refine (qG.out _ st5.out.r).mono ?_; rintro e w6 ⟨⟨vsx, nx, rfl, ha0⟩, hRR, hBB⟩; obtain ⟨xi, xs, xa, xn, xc, xd, xm, xe, rfl⟩ := ha0.ty_form; have st6 := st5.out.addAt hRR hBB ha0; have hqbx := st6.out.sz; have st7 := st6.out.new [.int .i64 xi, .string xs, .slice xa xn xc, .slice xd xm xe] 41 (by simp); clear st6; clear hRR hBB ha0 st5) | (go_at_call 15; refine (st4.out.tkT ⟨#[40]⟩ hT3).mono ?_; rintro e w5 ⟨rfl, st5⟩; clear st4) | (go_at_call 15; refine (st3.out.tkF ⟨#[117, 110, 105, 116]⟩ hT2).mono ?_; rintro e w4 ⟨rfl, st4⟩; clear st3) | (go_at_call 15; refine (st2.out.tkF ⟨#[98, 111, 111, 108]⟩ hT1).mono ?_; rintro e w3 ⟨rfl, st3⟩; clear st2) | (go_at_call 15; refine (st1.out.tkF ⟨#[105, 110, 116]⟩ hT0).mono ?_; rintro e w2 ⟨rfl, st2⟩; clear st1) | (go_at_call 32; refine (qn.out _).mono ?_; rintro e w0 ⟨rfl, hb00⟩; have st1 := (st0.out.bel hb00).out.new [.int .i64 K, .string T, .int .i64 n1, .int .i64 n2] 77 (by simp); clear hb00 st0))
              refine bodyPost_ret (v := .agg #[.int .i64 xi, .string xs, .slice xa xn xc, .slice xd xm xe]) (by rw [results_cell1 (fn := Tryz.f89) (p := 2) (ty := 41) (by kernel_rfl)]; simp [go_sem, k0, k1, k2, k3]) rfl ?_
              exact st8.out.ans (by simp only [sv]) (st8.out.p.1.2)
        | false =>
          simp only [hT3, Bool.false_eq_true, if_false] at hne ⊢
          clear h hTx hK hne
          cases hL : Gr.low ts with
          | bad r2 c =>
            have qL : Hid (∀ W, Rd W B S ts → Calls Tryz.prog 110 #[.pointer (some ⟨B, 0, none⟩)] W (Gr.LAns B S W (.bad r2 c))) := fun W hW => by rw [← hL]; exact gr_lowPath W B S ts hW
            clear hL
            go_enter Tryz.func89, Tryz.ntmps89
            go_wp2_with (first | (go_at_call 110; refine (qL.out _ st5.out.r).mono ?_; rintro e w6 ⟨rfl, hRR, hBB⟩) | (go_at_call 15; refine (st4.out.tkF ⟨#[40]⟩ hT3).mono ?_; rintro e w5 ⟨rfl, st5⟩; clear st4) | (go_at_call 15; refine (st3.out.tkF ⟨#[117, 110, 105, 116]⟩ hT2).mono ?_; rintro e w4 ⟨rfl, st4⟩; clear st3) | (go_at_call 15; refine (st2.out.tkF ⟨#[98, 111, 111, 108]⟩ hT1).mono ?_; rintro e w3 ⟨rfl, st3⟩; clear st2) | (go_at_call 15; refine (st1.out.tkF ⟨#[105, 110, 116]⟩ hT0).mono ?_; rintro e w2 ⟨rfl, st2⟩; clear st1) | (go_at_call 32; refine (qn.out _).mono ?_; rintro e w0 ⟨rfl, hb00⟩; have st1 := (st0.out.bel hb00).out.new [.int .i64 K, .string T, .int .i64 n1, .int .i64 n2] 77 (by simp); clear hb00 st0))
            exact ⟨rfl, rfl, hRR, st5.out.b.trans hBB⟩
          | ok p low r =>
            have qL : Hid (∀ W, Rd W B S ts → Calls Tryz.prog 110 #[.pointer (some ⟨B, 0, none⟩)] W (Gr.LAns B S W (.ok p low r))) := fun W hW => by rw [← hL]; exact gr_lowPath W B S ts hW
            clear hL
            go_enter Tryz.func89, Tryz.ntmps89
            go_wp2_with (first | (go_at_call 110; refine (qL.out _ st5.out.r).mono ?_; rintro e w6 ⟨⟨v, rfl, hv, hvx⟩, hRR, hBB⟩; obtain ⟨va, vc, rfl⟩ := hv.form; have st6 := st5.out.addTx hRR hBB hv hvx; obtain ⟨⟨k0, k1, k2, k3⟩, z0, z1, z2, z3⟩ := st6.out.p.1.1.e4; have hlw := st6.out.sz; obtain ⟨⟨htk0, htk1, htk2, htk3⟩, htz0, htz1, htz2, htz3⟩ := st6.out.p.1.2.e4; clear hRR hBB hv hvx st5) | (go_at_call 15; refine (st4.out.tkF ⟨#[40]⟩ hT3).mono ?_; rintro e w5 ⟨rfl, st5⟩; clear st4) | (go_at_call 15; refine (st3.out.tkF ⟨#[117, 110, 105, 116]⟩ hT2).mono ?_; rintro e w4 ⟨rfl, st4⟩; clear st3) | (go_at_call 15; refine (st2.out.tkF ⟨#[98, 111, 111, 108]⟩ hT1).mono ?_; rintro e w3 ⟨rfl, st3⟩; clear st2) | (go_at_call 15; refine (st1.out.tkF ⟨#[105, 110, 116]⟩ hT0).mono ?_; rintro e w2 ⟨rfl, st2⟩; clear st1) | (go_at_call 32; refine (qn.out _).mono ?_; rintro e w0 ⟨rfl, hb00⟩; have st1 := (st0.out.bel hb00).out.new [.int .i64 K, .string T, .int .i64 n1, .int .i64 n2] 77 (by simp); clear hb00 st0))
            refine bodyPost_ret (v := .agg #[.int .i64 2, .string ⟨#[]⟩, .slice va p.length vc, .slice none 0 0]) (by rw [results_cell1 (fn := Tryz.f89) (p := 2) (ty := 41) (by kernel_rfl)]; simp [go_sem, k0, k1, k2, k3]) rfl ?_
            exact st6.out.ans (by simp only [sv]) (At.ty_mk (n := 0) (by decide) (by decide) (st6.out.p.2).1 (st6.out.p.2).2.1 (st6.out.p.2).2.2 (AtL.none0 ..))
set_option linter.unusedSimpArgs false
set_option maxHeartbeats 1600000 in
set_option maxRecDepth 100000 in
theorem gr_atomPat (f : Nat) (ihR : Gr.Rule 64 .restPat 1 f) : Gr.Rule2 36 .atomPat 1 Gr.begP (f + 1) := by
  intro w B S ts h hbeg hne
  rw [show Gr.g (f + 1) .atomPat ts = (if Gr.kd ts = 1 then .ok (Gr.patN 2 (Gr.hd ts) [] 0 []) ts.tail
      else if Gr.kd ts = 4 then .ok (Gr.patN 3 Gr.none8 [] (Gr.hn ts) []) ts.tail
      else if Gr.kd ts = 2 then (Gr.high ts).bind fun p _ r => .ok (Gr.patN 8 Gr.none8 p 0 []) r
      else if Gr.isT [95] ts = true then .ok (Gr.patN 1 Gr.none8 [] 0 []) ts.tail
      else if Gr.isT [116, 114, 117, 101] ts = true then .ok (Gr.patN 4 Gr.none8 [] 0 []) ts.tail
      else if Gr.isT [102, 97, 108, 115, 101] ts = true then .ok (Gr.patN 5 Gr.none8 [] 0 []) ts.tail
      else if Gr.isT [40] ts = true then Gr.g f .restPat ts.tail
      else .bad ts 11) from rfl] at hne ⊢
  have hlt := h.lt
  have st0 := Stt.init h [.int .i64 0, .string ⟨#[]⟩, .slice none 0 0, .int .i64 0, .slice none 0 0] 52 (by simp)
  obtain ⟨K, hK⟩ : ∃ K : Int, (Gr.kd ts : Int) = K := ⟨_, rfl⟩
  obtain ⟨T, hTx⟩ : ∃ T : ByteArray, Gr.hd ts = T := ⟨_, rfl⟩
  obtain ⟨n1, hn1⟩ : ∃ K : Int, (Gr.hn ts : Int) = K := ⟨_, rfl⟩
  obtain ⟨n2, hn2⟩ : ∃ K : Int, Gr.at0 S ts = K := ⟨_, rfl⟩
  obtain ⟨nz, hnz⟩ : ∃ b : Bool, decide (ts ≠ []) = b := ⟨_, rfl⟩
  have qn : Hid (∀ ob, Calls Tryz.prog 32 #[.pointer (some ⟨B, 0, none⟩)] (w.alloc ob) fun e w' => e = .returned (.tuple #[.agg #[.int .i64 K, .string T, .int .i64 n1, .int .i64 n2], .bool nz]) ∧ Below (w.alloc ob).heap.size (w.alloc ob) w') := fun ob => by rw [← hK, ← hTx, ← hn1, ← hn2, ← hnz]; exact gr_next _ B S ts (h.alloc _)
  have hTs : T.size ≤ maxLen := by
    rw [← hTx]
    cases ts with
    | nil => show 0 ≤ maxLen; omega
    | cons t r =>
      have := (h.ok t (List.mem_cons_self ..)).len
      show t.text.toArray.size ≤ maxLen
      rw [List.size_toArray]; unfold maxLen; omega
  clear hn2 hnz
  by_cases h1 : Gr.kd ts = 1
  · rw [if_pos h1, hTx]
    cases ts with
    | nil => cases h1
    | cons t r =>
      obtain rfl : K = 1 := by omega
      clear hne h hTx hK h1 hbeg
      go_enter Tryz.func36, Tryz.ntmps36
      go_wp2_with (first | (go_at_call 34; refine st1.out.step.mono ?_; rintro e w2 ⟨rfl, st2⟩; obtain ⟨⟨k0, k1, k2, k3, k4⟩, z0, z1, z2, z3, z4⟩ := st2.out.p.1.e5; have hlw := st2.out.sz; obtain ⟨⟨htk0, htk1, htk2, htk3⟩, htz0, htz1, htz2, htz3⟩ := st2.out.p.2.e4; clear st1) | (go_at_call 32; refine (qn.out _).mono ?_; rintro e w0 ⟨rfl, hb00⟩; have st1 := (st0.out.bel hb00).out.new [.int .i64 1, .string T, .int .i64 n1, .int .i64 n2] 77 (by simp); clear hb00 st0))
      refine bodyPost_ret (v := .tuple #[.agg #[.int .i64 2, .string T, .slice none 0 0, .int .i64 0, .slice none 0 0], .bool true]) (by rw [results_cell_tmp (fn := Tryz.f36) (p := 2) (u := 3) (ty := 52) (by kernel_rfl)]; simp [go_sem, k0, k1, k2, k3, k4]) rfl ?_
      exact st2.out.ans2 (by simp only [sv]) (At.pat_mk (n := 0) (by decide) hTs (Tx.none0 ..) (fun x hx => by cases hx) (Nat.zero_le _) (by decide) (AtL.none0 ..))
  have hK1 : ¬ K = 1 := by omega
  rw [if_neg h1] at hne ⊢
  by_cases h4 : Gr.kd ts = 4
  · rw [if_pos h4, hn1]
    cases ts with
    | nil => cases h4
    | cons t r =>
      have hnn : -9223372036854775808 ≤ n1 ∧ n1 ≤ 9223372036854775807 := by
        rw [← hn1]
        have := (h.ok t (List.mem_cons_self ..)).num
        show -9223372036854775808 ≤ (t.n : Int) ∧ (t.n : Int) ≤ 9223372036854775807
        omega
      obtain rfl : K = 4 := by omega
      have HNN : Hid (-9223372036854775808 ≤ n1 ∧ n1 ≤ 9223372036854775807) := hnn
      clear hne h hTx hK h1 h4 hbeg hnn hn1
      go_enter Tryz.func36, Tryz.ntmps36
      go_wp2_with (first | (go_at_call 34; refine st1.out.step.mono ?_; rintro e w2 ⟨rfl, st2⟩; obtain ⟨⟨k0, k1, k2, k3, k4⟩, z0, z1, z2, z3, z4⟩ := st2.out.p.1.e5; have hlw := st2.out.sz; obtain ⟨⟨htk0, htk1, htk2, htk3⟩, htz0, htz1, htz2, htz3⟩ := st2.out.p.2.e4; clear st1) | (go_at_call 32; refine (qn.out _).mono ?_; rintro e w0 ⟨rfl, hb00⟩; have st1 := (st0.out.bel hb00).out.new [.int .i64 4, .string T, .int .i64 n1, .int .i64 n2] 77 (by simp); clear hb00 st0))
      refine bodyPost_ret (v := .tuple #[.agg #[.int .i64 3, .string ⟨#[]⟩, .slice none 0 0, .int .i64 n1, .slice none 0 0], .bool true]) (by rw [results_cell_tmp (fn := Tryz.f36) (p := 2) (u := 3) (ty := 52) (by kernel_rfl)]; simp [go_sem, k0, k1, k2, k3, k4]) rfl ?_
      exact st2.out.ans2 (by simp only [sv]) (At.pat_mk (n := 0) (by decide) (by decide) (Tx.none0 ..) (fun x hx => by cases hx) (Nat.zero_le _) HNN.out (AtL.none0 ..))
  have hK4 : ¬ K = 4 := by omega
  rw [if_neg h4] at hne ⊢
  by_cases h2 : Gr.kd ts = 2
  · rw [if_pos h2]
    obtain rfl : K = 2 := by omega
    clear hne h hTx hK h1 h2 h4 hbeg
    cases hL : Gr.high ts with
    | bad r2 c =>
      have qL : Hid (∀ W, Rd W B S ts → Calls Tryz.prog 35 #[.pointer (some ⟨B, 0, none⟩)] W (Gr.LAns B S W (.bad r2 c))) := fun W hW => by rw [← hL]; exact gr_highPath W B S ts hW
      clear hL
      go_enter Tryz.func36, Tryz.ntmps36
      go_wp2_with (first | (go_at_call 35; refine (qL.out _ st1.out.r).mono ?_; rintro e w2 ⟨rfl, hRR, hBB⟩) | (go_at_call 32; refine (qn.out _).mono ?_; rintro e w0 ⟨rfl, hb00⟩; have st1 := (st0.out.bel hb00).out.new [.int .i64 2, .string T, .int .i64 n1, .int .i64 n2] 77 (by simp); clear hb00 st0))
      exact ⟨rfl, rfl, hRR, st1.out.b.trans hBB⟩
    | ok p low r =>
      have qL : Hid (∀ W, Rd W B S ts → Calls Tryz.prog 35 #[.pointer (some ⟨B, 0, none⟩)] W (Gr.LAns B S W (.ok p low r))) := fun W hW => by rw [← hL]; exact gr_highPath W B S ts hW
      clear hL
      go_enter Tryz.func36, Tryz.ntmps36
      go_wp2_with (first | (go_at_call 35; refine (qL.out _ st1.out.r).mono ?_; rintro e w2 ⟨⟨v, rfl, hv, hvx⟩, hRR, hBB⟩; obtain ⟨va, vc, rfl⟩ := hv.form; have st2 := st1.out.addTx hRR hBB hv hvx; obtain ⟨⟨k0, k1, k2, k3, k4⟩, z0, z1, z2, z3, z4⟩ := st2.out.p.1.1.e5; have hlw := st2.out.sz; obtain ⟨⟨htk0, htk1, htk2, htk3⟩, htz0, htz1, htz2, htz3⟩ := st2.out.p.1.2.e4; clear hRR hBB hv hvx st1) | (go_at_call 32; refine (qn.out _).mono ?_; rintro e w0 ⟨rfl, hb00⟩; have st1 := (st0.out.bel hb00).out.new [.int .i64 2, .string T, .int .i64 n1, .int .i64 n2] 77 (by simp); clear hb00 st0))
      refine bodyPost_ret (v := .tuple #[.agg #[.int .i64 8, .string ⟨#[]⟩, .slice va p.length vc, .int .i64 0, .slice none 0 0], .bool true]) (by rw [results_cell_tmp (fn := Tryz.f36) (p := 2) (u := 3) (ty := 52) (by kernel_rfl)]; simp [go_sem, k0, k1, k2, k3, k4]) rfl ?_
      exact st2.out.ans2 (by simp only [sv]) (At.pat_mk (n := 0) (by decide) (by decide) (st2.out.p.2).1 (st2.out.p.2).2.1 (st2.out.p.2).2.2 (by decide) (AtL.none0 ..))
  have hK2 : ¬ K = 2 := by omega
  rw [if_neg h2] at hne ⊢
  cases hT0 : Gr.isT [95] ts with
  | true =>
    simp only [hT0, if_true]
    clear hne h hTx hK h1 h2 h4 hbeg
    go_enter Tryz.func36, Tryz.ntmps36
    go_wp2_with (first | (go_at_call 15; refine (st1.out.tkT ⟨#[95]⟩ hT0).mono ?_; rintro e w2 ⟨rfl, st2⟩; obtain ⟨⟨k0, k1, k2, k3, k4⟩, z0, z1, z2, z3, z4⟩ := st2.out.p.1.e5; have hlw := st2.out.sz; obtain ⟨⟨htk0, htk1, htk2, htk3⟩, htz0, htz1, htz2, htz3⟩ := st2.out.p.2.e4; clear st1) | (go_at_call 32; refine (qn.out _).mono ?_; rintro e w0 ⟨rfl, hb00⟩; have st1 := (st0.out.bel hb00).out.new [.int .i64 K, .string T, .int .i64 n1, .int .i64 n2] 77 (by simp); clear hb00 st0))
    refine bodyPost_ret (v := .tuple #[.agg #[.int .i64 1, .string ⟨#[]⟩, .slice none 0 0, .int .i64 0, .slice none 0 0], .bool true]) (by rw [results_cell_tmp (fn := Tryz.f36) (p := 2) (u := 3) (ty := 52) (by kernel_rfl)]; simp [go_sem, k0, k1, k2, k3, k4]) rfl ?_
    exact st2.out.ans2 (by simp only [sv]) (At.pat_mk (n := 0) (by decide) (by decide) (Tx.none0 ..) (fun x hx => by cases hx) (Nat.zero_le _) (by decide) (AtL.none0 ..))
  | false =>
    simp only [hT0, Bool.false_eq_true, if_false] at hne ⊢
    cases hT1 : Gr.isT [116, 114, 117, 101] ts with
    | true =>
      simp only [hT1, if_true]
      clear hne h hTx hK h1 h2 h4 hbeg
      go_enter Tryz.func36, Tryz.ntmps36
      go_wp2_with (first | (go_at_call 15; refine (st2.out.tkT ⟨#[116, 114, 117, 101]⟩ hT1).mono ?_; rintro e w3 ⟨rfl, st3⟩; obtain ⟨⟨k0, k1, k2, k3, k4⟩, z0, z1, z2, z3, z4⟩ := st3.out.p.1.e5; have hlw := st3.out.sz; obtain ⟨⟨htk0, htk1, htk2, htk3⟩, htz0, htz1, htz2, htz3⟩ := st3.out.p.2.e4; clear st2) | (go_at_call 15; refine (st1.out.tkF ⟨#[95]⟩ hT0).mono ?_; rintro e w2 ⟨rfl, st2⟩; clear st1) | (go_at_call 32; refine (qn.out _).mono ?_; rintro e w0 ⟨rfl, hb00⟩; have st1 := (st0.out.bel hb00).out.new [.int .i64 K, .string T, .int .i64 n1, .int .i64 n2] 77 (by simp); clear hb00 st0))
      refine bodyPost_ret (v := .tuple #[.agg #[.int .i64 4, .string ⟨#[]⟩, .slice none 0 0, .int .i64 0, .slice none 0 0], .bool true]) (by rw [results_cell_tmp (fn := Tryz.f36) (p := 2) (u := 3) (ty := 52) (by kernel_rfl)]; simp [go_sem, k0, k1, k2, k3, k4]) rfl ?_
      exact st3.out.ans2 (by simp only [sv]) (At.pat_mk (n := 0) (by decide) (by decide) (Tx.none0 ..) (fun x hx => by cases hx) (Nat.zero_le _) (by decide) (AtL.none0 ..))
    | false =>
      simp only [hT1, Bool.false_eq_true, if_false] at hne ⊢
      cases hT2 : Gr.isT [102, 97, 108, 115, 101] ts with
      | true =>
        simp only [hT2, if_true]
        clear hne h hTx hK h1 h2 h4 hbeg
        go_enter Tryz.func36, Tryz.ntmps36
        go_wp2_with (first | (go_at_call 15; refine (st3.out.tkT ⟨#[102, 97, 108, 115, 101]⟩ hT2).mono ?_; rintro e w4 ⟨rfl, st4⟩; obtain ⟨⟨k0, k1, k2, k3, k4⟩, z0, z1, z2, z3, z4⟩ := st4.out.p.1.e5; have hlw := st4.out.sz; obtain ⟨⟨htk0, htk1, htk2, htk3⟩, htz0, htz1, htz2, htz3⟩ := st4.out.p.2.e4; clear st3) | (go_at_call 15; refine (st2.out.tkF ⟨#[116, 114, 117, 101]⟩ hT1).mono ?_; rintro e w3 ⟨rfl, st3⟩; clear st2) | (go_at_call 15; refine (st1.out.tkF ⟨#[95]⟩ hT0).mono ?_; rintro e w2 ⟨rfl, st2⟩; clear st1) | (go_at_call 32; refine (qn.out _).mono ?_; rintro e w0 ⟨rfl, hb00⟩; have st1 := (st0.out.bel hb00).out.new [.int .i64 K, .string T, .int .i64 n1, .int .i64 n2] 77 (by simp); clear hb00 st0))
        refine bodyPost_ret (v := .tuple #[.agg #[.int .i64 5, .string ⟨#[]⟩, .slice none 0 0, .int .i64 0, .slice none 0 0], .bool true]) (by rw [results_cell_tmp (fn := Tryz.f36) (p := 2) (u := 3) (ty := 52) (by kernel_rfl)]; simp [go_sem, k0, k1, k2, k3, k4]) rfl ?_
        exact st4.out.ans2 (by simp only [sv]) (At.pat_mk (n := 0) (by decide) (by decide) (Tx.none0 ..) (fun x hx => by cases hx) (Nat.zero_le _) (by decide) (AtL.none0 ..))
      | false =>
        simp only [hT2, Bool.false_eq_true, if_false] at hne ⊢
        cases hT3 : Gr.isT [40] ts with
        | false => simp [Gr.begP, h1, h2, h4, hT0, hT1, hT2, hT3] at hbeg
        | true =>
          simp only [hT3, if_true] at hne ⊢
          clear h hTx hK h1 h2 h4 hbeg
          cases hG : Gr.g f .restPat ts.tail with
          | out => exact absurd hG hne
          | bad r2 c =>
            have qG : Hid (∀ W, Rd W B S ts.tail → Calls Tryz.prog 64 #[.pointer (some ⟨B, 0, none⟩)] W (Gr.Ans B S 1 W (.bad r2 c))) := fun W hW => by rw [← hG]; exact ihR W B S ts.tail hW (by rw [hG]; simp)
            clear hne hG
            go_enter Tryz.func36, Tryz.ntmps36
            go_wp2_with (first | (go_at_call 64; refine (qG.out _ st5.out.r).mono ?_; rintro e w6 ⟨rfl, hRR, hBB⟩) | (go_at_call 15; refine (st4.out.tkT ⟨#[40]⟩ hT3).mono ?_; rintro e w5 ⟨rfl, st5⟩; clear st4) | (go_at_call 15; refine (st3.out.tkF ⟨#[102, 97, 108, 115, 101]⟩ hT2).mono ?_; rintro e w4 ⟨rfl, st4⟩; clear st3) | (go_at_call 15; refine (st2.out.tkF ⟨#[116, 114, 117, 101]⟩ hT1).mono ?_; rintro e w3 ⟨rfl, st3⟩; clear st2) | (go_at_call 15; refine (st1.out.tkF ⟨#[95]⟩ hT0).mono ?_; rintro e w2 ⟨rfl, st2⟩; clear st1) | (go_at_call 32; refine (qn.out _).mono ?_; rintro e w0 ⟨rfl, hb00⟩; have st1 := (st0.out.bel hb00).out.new [.int .i64 K, .string T, .int .i64 n1, .int .i64 n2] 77 (by simp); clear hb00 st0))
            exact ⟨rfl, rfl, hRR, st5.out.b.trans hBB⟩
          | ok a r =>
            have qG : Hid (∀ W, Rd W B S ts.tail → Calls Tryz.prog 64 #[.pointer (some ⟨B, 0, none⟩)] W (Gr.Ans B S 1 W (.ok a r))) := fun W hW => by rw [← hG]; exact ihR W B S ts.tail hW (by rw [hG]; simp)
            clear hne hG
            go_enter Tryz.func36, Tryz.ntmps36
            go_wp2_with (first | (go_at_call 64; refine (qG.out _ st5.out.r).mono ?_; rintro e w6 ⟨⟨vsx, nx, rfl, ha0⟩, hRR, hBB⟩; obtain ⟨xi, xs, xa, xn, xc, xj, xd, xm, xe, rfl⟩ := ha0.pat_form; have st6 := st5.out.addAt hRR hBB ha0; obtain ⟨⟨k0, k1, k2, k3, k4⟩, z0, z1, z2, z3, z4⟩ := st6.out.p.1.1.e5; have hlw := st6.out.sz; obtain ⟨⟨htk0, htk1, htk2, htk3⟩, htz0, htz1, htz2, htz3⟩ := st6.out.p.1.2.e4; clear hRR hBB ha0 st5) | (go_at_call 15; refine (st4.out.tkT ⟨#[40]⟩ hT3).mono ?_; rintro e w5 ⟨rfl, st5⟩; clear st4) | (go_at_call 15; refine (st3.out.tkF ⟨#[102, 97, 108, 115, 101]⟩ hT2).mono ?_; rintro e w4 ⟨rfl, st4⟩; clear st3) | (go_at_call 15; refine (st2.out.tkF ⟨#[116, 114, 117, 101]⟩ hT1).mono ?_; rintro e w3 ⟨rfl, st3⟩; clear st2) | (go_at_call 15; refine (st1.out.tkF ⟨#[95]⟩ hT0).mono ?_; rintro e w2 ⟨rfl, st2⟩; clear st1) | (go_at_call 32; refine (qn.out _).mono ?_; rintro e w0 ⟨rfl, hb00⟩; have st1 := (st0.out.bel hb00).out.new [.int .i64 K, .string T, .int .i64 n1, .int .i64 n2] 77 (by simp); clear hb00 st0))
            refine bodyPost_ret (v := .tuple #[.agg #[.int .i64 xi, .string xs, .slice xa xn xc, .int .i64 xj, .slice xd xm xe], .bool true]) (by rw [results_cell_tmp (fn := Tryz.f36) (p := 2) (u := 3) (ty := 52) (by kernel_rfl)]; simp [go_sem, k0, k1, k2, k3, k4]) rfl ?_
            exact st6.out.ans2 (by simp only [sv]) (st6.out.p.2)

set_option maxHeartbeats 1600000 in
set_option maxRecDepth 100000 in
theorem gr_atomPat0 : Gr.Rule0 36 (.agg #[.int .i64 0, .string ⟨#[]⟩, .slice none 0 0, .int .i64 0, .slice none 0 0]) Gr.begP := by
 intro w B S ts h hbeg
 have hlt := h.lt
 have st0 := Stt.init h [.int .i64 0, .string ⟨#[]⟩, .slice none 0 0, .int .i64 0, .slice none 0 0] 52 (by simp)
 obtain ⟨K, hK⟩ : ∃ K : Int, (Gr.kd ts : Int) = K := ⟨_, rfl⟩
 obtain ⟨T, hTx⟩ : ∃ T : ByteArray, Gr.hd ts = T := ⟨_, rfl⟩
 obtain ⟨n1, hn1⟩ : ∃ K : Int, (Gr.hn ts : Int) = K := ⟨_, rfl⟩
 obtain ⟨n2, hn2⟩ : ∃ K : Int, Gr.at0 S ts = K := ⟨_, rfl⟩
 obtain ⟨nz, hnz⟩ : ∃ b : Bool, decide (ts ≠ []) = b := ⟨_, rfl⟩
 have qn : Hid (∀ ob, Calls Tryz.prog 32 #[.pointer (some ⟨B, 0, none⟩)] (w.alloc ob) fun e w' => e = .returned (.tuple #[.agg #[.int .i64 K, .string T, .int .i64 n1, .int .i64 n2], .bool nz]) ∧ Below (w.alloc ob).heap.size (w.alloc ob) w') := fun ob => by rw [← hK, ← hTx, ← hn1, ← hn2, ← hnz]; exact gr_next _ B S ts (h.alloc _)
 have hTs : T.size ≤ maxLen := by
  rw [← hTx]
  cases ts with
  | nil => show 0 ≤ maxLen; omega
  | cons t r =>
   have := (h.ok t (List.mem_cons_self ..)).len
   show t.text.toArray.size ≤ maxLen
   rw [List.size_toArray]; unfold maxLen; omega
 clear hn2 hnz
 have hb : ¬ Gr.kd ts = 1 ∧ ¬ Gr.kd ts = 4 ∧ ¬ Gr.kd ts = 2 ∧ Gr.isT [95] ts = false ∧ Gr.isT [116, 114, 117, 101] ts = false ∧ Gr.isT [102, 97, 108, 115, 101] ts = false ∧ Gr.isT [40] ts = false := by
  simpa [Gr.begP] using hbeg
 obtain ⟨h1, h4, h2, hT0, hT1, hT2, hT3⟩ := hb
 have hK1 : ¬ K = 1 := by omega
 have hK4 : ¬ K = 4 := by omega
 have hK2 : ¬ K = 2 := by omega
 clear h hTx hK h1 h2 h4 hbeg hn1
 go_enter Tryz.func36, Tryz.ntmps36
 go_wp2_with (first | (go_at_call 15; refine (st4.out.tkF ⟨#[40]⟩ hT3).mono ?_; rintro e w5 ⟨rfl, st5⟩; obtain ⟨⟨k0, k1, k2, k3, k4⟩, z0, z1, z2, z3, z4⟩ := st5.out.p.1.e5; have hlw := st5.out.sz; obtain ⟨⟨htk0, htk1, htk2, htk3⟩, htz0, htz1, htz2, htz3⟩ := st5.out.p.2.e4; clear st4) | (go_at_call 15; refine (st3.out.tkF ⟨#[102, 97, 108, 115, 101]⟩ hT2).mono ?_; rintro e w4 ⟨rfl, st4⟩; clear st3) | (go_at_call 15; refine (st2.out.tkF ⟨#[116, 114, 117, 101]⟩ hT1).mono ?_; rintro e w3 ⟨rfl, st3⟩; clear st2) | (go_at_call 15; refine (st1.out.tkF ⟨#[95]⟩ hT0).mono ?_; rintro e w2 ⟨rfl, st2⟩; clear st1) | (go_at_call 32; refine (qn.out _).mono ?_; rintro e w0 ⟨rfl, hb00⟩; have st1 := (st0.out.bel hb00).out.new [.int .i64 K, .string T, .int .i64 n1, .int .i64 n2] 77 (by simp); clear hb00 st0))
 refine bodyPost_ret (v := .tuple #[.agg #[.int .i64 0, .string ⟨#[]⟩, .slice none 0 0, .int .i64 0, .slice none 0 0], .bool false]) (by rw [results_cell_tmp (fn := Tryz.f36) (p := 2) (u := 3) (ty := 52) (by kernel_rfl)]; simp [go_sem, k0, k1, k2, k3, k4]) rfl ?_
 exact Gr.No.mk hlt (by simp only [sv]) st5.out.r st5.out.b
end Go.Proofs.YtjebepnphoeiaabGreatDoor
