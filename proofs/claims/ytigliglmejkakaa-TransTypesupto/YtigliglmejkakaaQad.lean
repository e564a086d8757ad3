/- An append: the row is the old one, or a new one. The document's own: place, In, counted, Size, Fits, grown. renewed: the walk. fresh, replaced. The document's grown. -/
import Derived.Laws.AppendOwn
import Derived.Laws.AppendOwnNone
import Derived.Lib.SliceRun
import Derived.Test.YtigliglmejkakaaQac
namespace Go.Proofs.Ytigliglmejkakaa
open Go.RowKit
set_option linter.unusedVariables false

/-- The row of an append is the old one, or a new one. -/
def Fresh (w : World) (v v' : Value) : Prop := v'.ownBlock = v.ownBlock ∨ ∀ k, v'.ownBlock = some k → w.heap.size ≤ k
theorem append_own2 {P : Program} (w : World) (base : Nat) (t ty e : TypeId) (i : TypeInfo) (z : Value) (size bytes : Nat) (ht : P.underlying t = some (.slice e)) (hi : P.info? e = some i) (hz : i.zero = some z)
    (hsize : i.size = size) (hby : i.bytes = bytes) (hzs : z.cells.size = size) (hsz : 0 < size) (v : Value) (n : Nat) (xs : List Value) (hown : w.ownsRow base e size v n xs)
    (a : Addr) (m c : Nat) (news : List Value) (hl : news.length = m * size) (hnews : ∀ j u, news[j]? = some u → w.cell? (a.add j) = some u) (h1 : ∀ u ∈ news, u.oneCell' = true)
    (h63 : n + m ≤ maxLen) (hbytes : (n + m) * bytes ≤ 140737488355328) (hbase : base ≤ w.heap.size) :
    ∃ v' w', (Builtin.append_ #[t, t] ty #[v, .slice (some a) m c]).run P w = .ok v' w' ∧ w'.ownsRow base e size v' (n + m) (xs ++ news) ∧ w.grownBy w' v.ownBlock ∧ Fresh w v v' := by
  obtain ⟨v', w', hr, h2, h3, -⟩ := run_append_own (P := P) w base t ty e i z size bytes ht hi hz hsize hby hzs hsz v n xs hown a m c news hl hnews h1 h63 hbytes hbase
  refine ⟨v', w', hr, h2, h3, ?_⟩
  rcases hown.2 with ⟨hv, hn⟩ | ⟨g, cap, cur, hv, hbg, hg, hnc, hcm, hcs, htake⟩
  · have ho : w.ownsRow w.heap.size e size v n xs := ⟨hown.1, .inl ⟨hv, hn⟩⟩
    obtain ⟨v2, w2, hr2, h22, -, -⟩ := run_append_own (P := P) w w.heap.size t ty e i z size bytes ht hi hz hsize hby hzs hsz v n xs ho a m c news hl hnews h1 h63 hbytes (Nat.le_refl _)
    rw [hr] at hr2
    injection hr2 with e1 e2
    subst e1
    exact .inr fun k hk => (h22.lt k hk).1
  · subst hsize
    subst hby
    subst hv
    by_cases hroom : n + m ≤ cap
    · have hfit : n * i.size + news.length ≤ cur.size := by rw [hl, hcs, ← Nat.add_mul]; exact Nat.mul_le_mul_right _ hroom
      rw [run_append_room (P := P) w t ty e i ht hi g n cap cur hg a m c news hl hnews h1 hroom hfit] at hr
      injection hr with e1 e2
      subst e1
      exact .inl rfl
    · have h63' : ((n + m : Nat) : Int) ≤ 9223372036854775807 := by simp only [maxLen] at h63; omega
      rw [run_append_grow (P := P) w t ty e i z ht hi hz ⟨g, 0, none⟩ n cap xs hown.1 (hown.cells (g := g) rfl) a m c news hl hnews (by omega) h63' (growslice_fits (by omega) hbytes)] at hr
      injection hr with e1 e2
      subst e1
      refine .inr fun k hk => ?_
      simp [Value.ownBlock] at hk
      omega
/-- Such an append, as one operation of a region that draws its order. -/
theorem step_append2 {P : Program} {ops : Array Oper} {o : Oper} {a : Act} {w : World} {K : Act → World → Prop} {Q : Exit → Act → World → Prop} {E : Prop}
    (hgd : o.guard = none) (s x : Operand) (t : TypeId) (hop : o.op = .call { callee := .builtin .append, args := #[s, x], argTypes := #[t, t] })
    (base : Nat) (e : TypeId) (i : TypeInfo) (z : Value) (size bytes : Nat) (ht : P.underlying t = some (.slice e)) (hi : P.info? e = some i) (hz : i.zero = some z)
    (hsize : i.size = size) (hby : i.bytes = bytes) (hzs : z.cells.size = size) (hsz : 0 < size) (v : Value) (n : Nat) (xs : List Value) (hs : a.eval s = v) (hown : w.ownsRow base e size v n xs)
    (ad : Addr) (m c : Nat) (news : List Value) (hx : a.eval x = .slice (some ad) m c) (hl : news.length = m * size) (hnews : ∀ j u, news[j]? = some u → w.cell? (ad.add j) = some u) (h1 : ∀ u ∈ news, u.oneCell' = true)
    (h63 : n + m ≤ maxLen) (hbytes : (n + m) * bytes ≤ 140737488355328) (hbase : base ≤ w.heap.size)
    (hK : ∀ v' w', w'.ownsRow base e size v' (n + m) (xs ++ news) → w.grownBy w' v.ownBlock → Fresh w v v' → K (a.put o.dst v') w') :
    if Region.wanted o (yielded ops a.tmps) = true then Oper.wp P o a w K Q else E := by
  have hw : Region.wanted o (yielded ops a.tmps) = true := by simp [Region.wanted, hgd]
  rw [if_pos hw]
  obtain ⟨v', w', hr, h2, h3, h4⟩ := append_own2 (P := P) w base t o.type e i z size bytes ht hi hz hsize hby hzs hsz v n xs hown ad m c news hl hnews h1 h63 hbytes hbase
  unfold Oper.wp execOp
  simp only [hop, resolve, invoke, builtin, Sem.run_bind, Sem.run_pure, Result.andThen_ok, List.map_toArray, List.map_cons, List.map_nil, hs, hx, hr]
  exact hK v' w' h2 h3 h4
end Go.Proofs.Ytigliglmejkakaa

namespace Go.Proofs.Ytigliglmejkakaa
open Go.RowKit
set_option linter.unusedVariables false
set_option linter.unusedSimpArgs false

def Tp.has (n : Int) : List Int → Bool
  | [] => false
  | x :: r => if x = n then true else Tp.has n r
theorem Tp.has_at {n : Int} {l : List Int} {k : Nat} {x : Int} (hx : l[k]? = some x) : Tp.has n (l.drop k) = if x = n then true else Tp.has n (l.drop (k + 1)) := by
  obtain ⟨h1, e1⟩ := List.getElem?_eq_some_iff.1 hx
  rw [List.drop_eq_getElem_cons h1, e1, Tp.has]
theorem Tp.has_mem (n : Int) : ∀ l : List Int, Tp.has n l = decide (n ∈ l)
  | [] => by simp [Tp.has]
  | x :: r => by
    rw [Tp.has, Tp.has_mem n r]
    by_cases h : x = n
    · rw [if_pos h]; simp [h]
    · rw [if_neg h, decide_eq_decide, List.mem_cons]
      exact ⟨.inr, fun h2 => h2.elim (fun e => absurd e.symm h) id⟩

set_option maxHeartbeats 1000000 in
set_option maxRecDepth 100000 in
theorem refIn_any (w : World) (v : Value) (l : List Int) (n : Int) (h : Ls w Any v l) : Calls Try.prog 53 #[v, .int .i64 n] w fun e w' => e = .returned (.bool (Tp.has n l)) ∧ w' = w := by
  obtain ⟨a, c, rfl, hm⟩ := h.form
  unfold maxLen at hm
  go_enter Try.func53, Try.ntmps53
  go_wp2
  go_loopw [5] (fun v wr => ∃ k : Nat, v = .int .i64 k ∧ k ≤ l.length ∧ Hid (Tp.has n l = Tp.has n (l.drop k)) ∧ wr = w) (fun v _ => l.length - (intOf v).toNat)
  case atStart => exact ⟨0, rfl, Nat.zero_le _, rfl, rfl⟩
  case round =>
    obtain ⟨k, rfl, hk, hH, rfl⟩ := hrel
    by_cases hlt : k < l.length
    · obtain ⟨b, o, c', hv, -, -, -, hl⟩ := h.resolve_right (fun h => by rw [h.1] at hlt; exact absurd hlt (Nat.not_lt_zero _))
      injection hv with e1 e2 e3
      subst e1
      obtain ⟨x, hx⟩ : ∃ x, l[k]? = some x := ⟨_, List.getElem?_eq_getElem hlt⟩
      have hc := hl k x hx
      have HX := hH.out
      rw [Tp.has_at hx] at HX
      clear hl hx hH h e2 e3
      by_cases he : x = n
      · have HY : Hid (Tp.has n l = true) := by show _ = _; rw [HX]; rw [if_pos he]
        have he2 : (x == n) = true := by rw [beq_iff_eq]; exact he
        clear HX he
        go_wp2
        go_ret
        exact ⟨ret_bool HY.out.symm, rfl⟩
      · have HY : Hid (Tp.has n l = Tp.has n (l.drop (k + 1))) := by show _ = _; rw [HX]; rw [if_neg he]
        have he2 : (x == n) = false := by rw [beq_eq_false_iff_ne]; exact he
        clear HX he
        go_wp2
        go_roundw
        case rel => exact ⟨k + 1, by go_num, by omega, HY, by first | trivial | rfl⟩
        case measure => simp [intOf]; omega
    · have HX : Hid (Tp.has n l = false) := by
        show _ = _
        rw [hH.out, List.drop_eq_nil_of_le (by omega)]; rfl
      clear hH h
      go_wp2
      go_ret
      exact ⟨ret_bool HX.out.symm, rfl⟩

theorem Tp.cnt_ks' (t : Tp) : t.cnt = Tp.cntL t.ks + 1 := by cases t; rw [Tp.cnt]; rfl
def Tp.cap (n : Int) : Int := if 1000 < n then 1001 else n
theorem Tp.cap_small {n : Int} (h : n ≤ 1000) : Tp.cap n = n := by unfold Tp.cap; rw [if_neg (by omega)]
theorem Tp.cap_big {n : Int} (h : 1000 < n) : Tp.cap n = 1001 := by unfold Tp.cap; rw [if_pos h]
theorem Tp.upto_cap (n : Int) : (Tp.upto n).1 = Tp.cap n := by unfold Tp.upto Tp.cap; split <;> split <;> first | rfl | omega
theorem Tp.cntL_drop {l : List Tp} {k : Nat} {x : Tp} (hx : l[k]? = some x) : Tp.cntL (l.drop k) = x.cnt + Tp.cntL (l.drop (k + 1)) := by
  obtain ⟨h1, e1⟩ := List.getElem?_eq_some_iff.1 hx
  rw [List.drop_eq_getElem_cons h1, e1, Tp.cntL]
end Go.Proofs.Ytigliglmejkakaa

namespace Go.Proofs.Ytigliglmejkakaa
open Go.RowKit
set_option linter.unusedVariables false
set_option linter.unusedSimpArgs false

/-- What stands in the new list: what was made of the first k, then what was there. -/
structure Ren (w : World) (n : Nat) (m : Tp → Tp) (t : Tp) (v' : Value) (g : Nat) (k N : Nat) (cur : List Value) (wr : World) : Prop where
  bl : Below w.heap.size w wr
  box : Arr wr w.heap.size 24 [.int .i64 t.k, .int .i64 t.n, v']
  res : Arr wr (w.heap.size + 1) 24 [.int .i64 0, .int .i64 0, .slice none 0 0]
  arr : Arr wr g 24 cur
  hg : w.heap.size + 2 ≤ g
  done : ∀ (i : Nat) x, i < k → t.ks[i]? = some x → ∃ a c, TAt wr (fun b => g < b) N [.int .i64 (m x).k, .int .i64 (m x).n, .slice a (m x).ks.length c] (m x) ∧ Seg cur (i * 3) [.int .i64 (m x).k, .int .i64 (m x).n, .slice a (m x).ks.length c]
  todo : ∀ (i : Nat) x, k ≤ i → t.ks[i]? = some x → ∃ a c, TAt w (fun b => b < w.heap.size) n [.int .i64 x.k, .int .i64 x.n, .slice a x.ks.length c] x ∧ Seg cur (i * 3) [.int .i64 x.k, .int .i64 x.n, .slice a x.ks.length c]
theorem Ren.stays {w : World} {n : Nat} {m : Tp → Tp} {t : Tp} {v' : Value} {g k N : Nat} {cur : List Value} {wr wz : World} (h : Ren w n m t v' g k N cur wr) (hb : Below wr.heap.size wr wz) : Ren w n m t v' g k N cur wz :=
  ⟨bl_tr h.bl hb, h.box.stays hb, h.res.stays hb, h.arr.stays hb, h.hg, fun i x hi hx => by obtain ⟨a, c, h1, h2⟩ := h.done i x hi hx; exact ⟨a, c, h1.below hb, h2⟩, h.todo⟩
theorem Ren.store {w : World} {n : Nat} {m : Tp → Tp} {t : Tp} {v' : Value} {g k N : Nat} {cur : List Value} {wr : World} (h : Ren w n m t v' g k N cur wr) (hk : k < t.ks.length) {x : Tp} (hx : t.ks[k]? = some x) {N' : Nat} {a : Option Addr} {c : Nat} (hT : TAt wr (fun b => g < b) N' [.int .i64 (m x).k, .int .i64 (m x).n, .slice a (m x).ks.length c] (m x)) :
    Ren w n m t v' g (k + 1) (max N N') (((cur.set (k * 3) (.int .i64 (m x).k)).set (k * 3 + 1) (.int .i64 (m x).n)).set (k * 3 + 2) (.slice a (m x).ks.length c)) (((wr.setCell ⟨g, k * 3, none⟩ (.int .i64 (m x).k)).setCell ⟨g, k * 3 + 1, none⟩ (.int .i64 (m x).n)).setCell ⟨g, k * 3 + 2, none⟩ (.slice a (m x).ks.length c)) := by
  have hg := h.hg
  have hK : ∀ (W : World) j u, Keeps (fun b => g < b) W (W.setCell ⟨g, j, none⟩ u) := fun W j u => Keeps.set (K := fun b => g < b) (p := ⟨g, j, none⟩) (fun h => Nat.lt_irrefl g h) u
  have hKK : Keeps (fun b => g < b) wr (((wr.setCell ⟨g, k * 3, none⟩ (.int .i64 (m x).k)).setCell ⟨g, k * 3 + 1, none⟩ (.int .i64 (m x).n)).setCell ⟨g, k * 3 + 2, none⟩ (.slice a (m x).ks.length c)) := ((hK _ _ _).trans (hK _ _ _)).trans (hK _ _ _)
  obtain ⟨a0, c0, -, hs0⟩ := h.todo k x (Nat.le_refl _) hx
  have hlen : k * 3 + 2 < cur.length := (List.getElem?_eq_some_iff.1 (hs0 2 _ rfl)).1
  refine ⟨bl_set _ _ (bl_set _ _ (bl_set _ _ h.bl (by show _ ≤ g; omega)) (by show _ ≤ g; omega)) (by show _ ≤ g; omega), ((h.box.other (by show _ ≠ g; omega) _).other (by show _ ≠ g; omega) _).other (by show _ ≠ g; omega) _, ((h.res.other (by show _ ≠ g; omega) _).other (by show _ ≠ g; omega) _).other (by show _ ≠ g; omega) _, ((h.arr.set _ _).set _ _).set _ _, hg, fun i y hi hy => ?_, fun i y hi hy => ?_⟩
  · by_cases he : i = k
    · subst he
      rw [hx] at hy
      injection hy with hy
      subst hy
      exact ⟨a, c, (hT.move hKK (fun _ h => h)).le (Nat.le_max_right _ _), Seg.set3 hlen⟩
    · obtain ⟨a1, c1, h1, h2⟩ := h.done i y (by omega) hy
      exact ⟨a1, c1, (h1.move hKK (fun _ h => h)).le (Nat.le_max_left _ _), h2.other3 rfl (by omega)⟩
  · obtain ⟨a1, c1, h1, h2⟩ := h.todo i y (by omega) hy
    exact ⟨a1, c1, h1, h2.other3 rfl (by omega)⟩

theorem Ren.fin {w : World} {n : Nat} {m : Tp → Tp} {t : Tp} {g cap N : Nat} {cur : List Value} {wr W : World} (h : Ren w n m t (.slice (some ⟨g, 0, none⟩) t.ks.length cap) g t.ks.length N cur wr) (hk : Keeps (fun b => w.heap.size + 2 ≤ b) wr W) (h64 : R64 t.k ∧ R64 t.n) (hl : t.ks.length ≤ 1000) (hc : t.ks.length ≤ cap) : TAt W (fun b => w.heap.size ≤ b) (N + 1) [.int .i64 t.k, .int .i64 t.n, .slice (some ⟨g, 0, none⟩) t.ks.length cap] (.mk t.k t.n (t.ks.map m)) := by
  have hg := h.hg
  refine ⟨_, rfl, h64.1, h64.2, (show TRow _ _ _ _ (t.ks.map m) from .inl ⟨g, 0, cap, by rw [List.length_map], by omega, by rw [List.length_map]; exact hc, by rw [List.length_map]; unfold maxLen; omega, fun i y hy => ?_⟩)⟩
  rw [List.getElem?_map] at hy
  obtain ⟨x, hx, rfl⟩ := Option.map_eq_some_iff.1 hy
  obtain ⟨a, c, h1, h2⟩ := h.done i x (List.getElem?_eq_some_iff.1 hx).1 hx
  refine ⟨_, ?_, h1.move (fun b o v hb hv => hk b o v (show _ ≤ _ by omega) hv) (fun b hb => by omega)⟩
  rw [Nat.zero_add]
  exact fun j v hv => hk g _ _ hg (Seg.cells h.arr h2 j v hv)
theorem clone_form {w w' : World} {K : Nat → Prop} {n : Nat} {l : List Tp} {v' : Value} (h : (l = [] ∧ ∃ p c, v' = .slice p 0 c) ∨ ∃ g cap cur, v' = .slice (some ⟨g, 0, none⟩) l.length cap ∧ w.heap.size ≤ g ∧ l.length ≤ cap ∧ Arr w' g 24 cur ∧ ∀ (i : Nat) x, l[i]? = some x → ∃ a c, TAt w K n [.int .i64 x.k, .int .i64 x.n, .slice a x.ks.length c] x ∧ Seg cur (i * 3) [.int .i64 x.k, .int .i64 x.n, .slice a x.ks.length c]) : ∃ p c, v' = .slice p l.length c := by
  rcases h with ⟨rfl, p, c, rfl⟩ | ⟨g, cap, cur, rfl, -⟩
  · exact ⟨_, _, rfl⟩
  · exact ⟨_, _, rfl⟩
/-- Behind the copying. -/
theorem Ren.start {w W2 w3 : World} {n : Nat} {m : Tp → Tp} {t : Tp} {v v' : Value} {g : Nat} {cur : List Value} (hb : Below w.heap.size w W2) (h3 : Below W2.heap.size W2 w3) (hB : Arr W2 w.heap.size 24 [.int .i64 t.k, .int .i64 t.n, v]) (hR : Arr W2 (w.heap.size + 1) 24 [.int .i64 0, .int .i64 0, .slice none 0 0]) (hs : W2.heap.size = w.heap.size + 2) (hg : W2.heap.size ≤ g) (ha : Arr w3 g 24 cur)
    (hl : ∀ (i : Nat) x, t.ks[i]? = some x → ∃ a c, TAt W2 (fun b => b < w.heap.size) n [.int .i64 x.k, .int .i64 x.n, .slice a x.ks.length c] x ∧ Seg cur (i * 3) [.int .i64 x.k, .int .i64 x.n, .slice a x.ks.length c]) :
    Ren w n m t v' g 0 0 cur (w3.setCell ⟨w.heap.size, 2, none⟩ v') := by
  refine ⟨bl_set _ _ (bl_tr hb h3) (Nat.le_refl _), (hB.stays h3).set 2 v', (hR.stays h3).other (by show _ ≠ w.heap.size; omega) _, ha.other (by show _ ≠ w.heap.size; omega) _, by omega, fun i x hi => absurd hi (Nat.not_lt_zero _), fun i x _ hx => ?_⟩
  obtain ⟨a, c, h1, h2⟩ := hl i x hx
  exact ⟨a, c, h1.move (fun b o u hb' hu => by rw [← hb.cell (p := ⟨b, o, none⟩) hb']; exact hu) (fun _ h => h), h2⟩

end Go.Proofs.Ytigliglmejkakaa

namespace Go.Proofs.Ytigliglmejkakaa
open Go.RowKit
set_option linter.unusedVariables false
set_option linter.unusedSimpArgs false

def Made (w : World) (t : Tp) (e : Ending) (w' : World) : Prop := ∃ vs' n', e = .returned (.agg vs'.toArray) ∧ TAt w' (fun b => w.heap.size ≤ b) n' vs' t ∧ Below w.heap.size w w'
theorem Made.form {w w' : World} {t : Tp} {e : Ending} (h : Made w t e w') : ∃ a n' c, e = .returned (.agg #[.int .i64 t.k, .int .i64 t.n, .slice a t.ks.length c]) ∧ TAt w' (fun b => w.heap.size ≤ b) n' [.int .i64 t.k, .int .i64 t.n, .slice a t.ks.length c] t ∧ Below w.heap.size w w' := by
  obtain ⟨vs', n', rfl, h1, h2⟩ := h
  obtain ⟨a, c, rfl⟩ := h1.form
  exact ⟨a, n', c, rfl, h1, h2⟩
theorem Tp.eta (t : Tp) : Tp.mk t.k t.n t.ks = t := by cases t; rfl
theorem Tp.cnt_ks (t : Tp) : t.cnt = Tp.cntL t.ks + 1 := by cases t; rw [Tp.cnt]; rfl
/-- What was made is stored in the box of the answer. -/
theorem made_store {w W2 w' : World} {t : Tp} {n' : Nat} {vs : List Value} {u0 u1 u2 : Value} (hb : Below w.heap.size w W2) (hs : w.heap.size + 2 ≤ W2.heap.size) (h1 : TAt w' (fun b => W2.heap.size ≤ b) n' vs t) (h2 : Below W2.heap.size W2 w') :
    TAt (((w'.setCell ⟨w.heap.size + 1, 0, none⟩ u0).setCell ⟨w.heap.size + 1, 1, none⟩ u1).setCell ⟨w.heap.size + 1, 2, none⟩ u2) (fun b => w.heap.size ≤ b) n' vs t ∧ Below w.heap.size w (((w'.setCell ⟨w.heap.size + 1, 0, none⟩ u0).setCell ⟨w.heap.size + 1, 1, none⟩ u1).setCell ⟨w.heap.size + 1, 2, none⟩ u2) := by
  have hK : ∀ (W : World) j u, Keeps (fun b => W2.heap.size ≤ b) W (W.setCell ⟨w.heap.size + 1, j, none⟩ u) := fun W j u => Keeps.set (K := fun b => W2.heap.size ≤ b) (p := ⟨w.heap.size + 1, j, none⟩) (fun h => by simp at h; omega) u
  exact ⟨h1.move (((hK _ _ _).trans (hK _ _ _)).trans (hK _ _ _)) (fun b hb => by omega), bl_set _ _ (bl_set _ _ (bl_set _ _ (bl_tr hb h2) (by show _ ≤ w.heap.size + 1; omega)) (by show _ ≤ w.heap.size + 1; omega)) (by show _ ≤ w.heap.size + 1; omega)⟩
theorem res_box (w : World) (o : Obj) : Arr ((w.alloc o).alloc (.cells #[.int .i64 0, .int .i64 0, .slice none 0 0] 24)) (w.heap.size + 1) 24 [.int .i64 0, .int .i64 0, .slice none 0 0] := ⟨by have := heap_alloc_at (w.alloc o) (.cells #[.int .i64 0, .int .i64 0, .slice none 0 0] 24); rw [size_alloc] at this; exact this⟩

theorem Tp.putL_map (kind : Int) (fr : List Int) (to : List Tp) : ∀ l, Tp.putL kind fr to l = l.map (Tp.put kind fr to)
  | [] => by rw [Tp.putL]; rfl
  | x :: r => by rw [Tp.putL, Tp.putL_map kind fr to r]; rfl
theorem Tp.put_none {kind : Int} {fr : List Int} {to : List Tp} {t : Tp} (h : Tp.by kind fr to t.k t.n = none) : Tp.put kind fr to t = .mk t.k t.n (t.ks.map (Tp.put kind fr to)) := by
  obtain ⟨k, n, ks⟩ := t
  simp only [Tp.k, Tp.n, Tp.ks] at h ⊢
  rw [Tp.put, h, Tp.putL_map]
theorem Tp.put_some {kind : Int} {fr : List Int} {to : List Tp} {t u : Tp} (h : Tp.by kind fr to t.k t.n = some u) : Tp.put kind fr to t = u := by
  obtain ⟨k, n, ks⟩ := t
  simp only [Tp.k, Tp.n] at h
  rw [Tp.put, h]
end Go.Proofs.Ytigliglmejkakaa

namespace Go.Proofs.Ytigliglmejkakaa
open Go.RowKit
set_option linter.unusedVariables false
set_option linter.unusedSimpArgs false

end Go.Proofs.Ytigliglmejkakaa
