/- Rows of entries in memory (an alarm's five numbers, and one more); append by its run; what stays behind draws and new blocks. -/
import Derived.Test.YtpognlidhppnaaaRowK
import Derived.Test.YtpognlidhppnaaaRest
import Derived.Test.YtpognlidhppnaaaHpMath
import Derived.Sort.Grow
import Derived.Deep.QuietTactic
import Derived.Laws.CopyRow
import Derived.Deep.AppendLies
namespace Go.Proofs.Ytpognlidhppnaaa
open Go.RowKit Go.Sort

namespace Hp
/-- An entry's cells. -/
def enc (a : En) : List Value := [.int .i64 a.t, .int .i64 a.c, .int .i64 a.s, .int .i64 a.g, .int .i64 a.x, .int .i64 a.n]
/-- .. and its alarm's. -/
def alarm (a : En) : List Value := [.int .i64 a.t, .int .i64 a.c, .int .i64 a.s, .int .i64 a.g, .int .i64 a.x]
end Hp

/-- Six cells of a block. -/
theorem six_cells {w : World} {B : Nat} {t : TypeId} {c0 c1 c2 c3 c4 c5 : Value} (h : w.heap[B]? = some (.cells #[c0, c1, c2, c3, c4, c5] t (0, 0))) :
    w.cell? ⟨B, 0, none⟩ = some c0 ∧ w.cell? ⟨B, 1, none⟩ = some c1 ∧ w.cell? ⟨B, 2, none⟩ = some c2 ∧ w.cell? ⟨B, 3, none⟩ = some c3 ∧ w.cell? ⟨B, 4, none⟩ = some c4 ∧ w.cell? ⟨B, 5, none⟩ = some c5 :=
  ⟨cell_of_row _ _ _ _ _ _ h, cell_of_row _ _ _ _ _ _ h, cell_of_row _ _ _ _ _ _ h, cell_of_row _ _ _ _ _ _ h, cell_of_row _ _ _ _ _ _ h, cell_of_row _ _ _ _ _ _ h⟩
theorem cell_old {w : World} {b o : Nat} {v : Value} (h : w.cell? ⟨b, o, none⟩ = some v) : b < w.heap.size := by
  by_cases hb : b < w.heap.size
  · exact hb
  · have : w.heap[b]? = none := Array.getElem?_eq_none (by omega)
    simp [World.cell?, this] at h
theorem Rest.drewN (own : Nat → Prop) (w : World) (n : Nat) : Rest own w (w.drewN n) := ⟨rfl, rfl, rfl, Nat.le_refl _, fun _ _ _ => rfl⟩
theorem cells_some {W : World} {g k : Nat} {t : TypeId} {cur : Array Value} (hg : W.heap[g]? = some (.cells cur t (0, 0))) (hk : k < cur.size) : ∃ v, W.cell? ⟨g, k, none⟩ = some v := ⟨cur[k], (cell_of_row _ _ _ _ _ _ hg).trans (Array.getElem?_eq_getElem hk)⟩
/-- The cells of entries, one behind the other. -/
def flat : List En → List Value
  | [] => []
  | a :: r => .int .i64 a.t :: .int .i64 a.c :: .int .i64 a.s :: .int .i64 a.g :: .int .i64 a.x :: .int .i64 a.n :: flat r
theorem flat_length : ∀ q : List En, (flat q).length = q.length * 6
  | [] => rfl
  | a :: r => by simp [flat, flat_length r]; omega
theorem flat_append (a : En) : ∀ q : List En, flat (q ++ [a]) = flat q ++ Hp.enc a
  | [] => rfl
  | b :: r => by simp [flat, flat_append a r]
theorem flat_at : ∀ (q : List En) (i c : Nat), i < q.length → c < 6 → (flat q)[i * 6 + c]? = (Hp.enc (Hp.e q i))[c]?
  | [], i, c, h, _ => absurd h (Nat.not_lt_zero _)
  | a :: r, 0, c, _, hc => by
    match c, hc with
    | 0, _ => rfl
    | 1, _ => rfl
    | 2, _ => rfl
    | 3, _ => rfl
    | 4, _ => rfl
    | 5, _ => rfl
  | a :: r, i + 1, c, h, hc => by
    have := flat_at r i c (by simpa using h) hc
    rw [show (i + 1) * 6 + c = i * 6 + c + 6 by omega]
    exact this
theorem enc_length (a : En) : (Hp.enc a).length = 6 := rfl
theorem enc_one (a : En) : ∀ u ∈ Hp.enc a, u.oneCell' = true := by
  intro u hu
  simp only [Hp.enc, List.mem_cons, List.not_mem_nil, or_false] at hu
  rcases hu with rfl | rfl | rfl | rfl | rfl | rfl <;> rfl
theorem flat_one : ∀ (q : List En), ∀ u ∈ flat q, u.oneCell' = true
  | [], u, h => by simp [flat] at h
  | a :: r, u, h => by
    simp only [flat, List.mem_cons] at h
    rcases h with rfl | rfl | rfl | rfl | rfl | rfl | h
    iterate 6 rfl
    exact flat_one r u h

/-- Stores one behind the other: what a block holds then. -/
theorem setCells_all (b : Nat) {t : TypeId} : ∀ (vs : List Value) (o : Nat) (w : World) (cur : Array Value), w.heap[b]? = some (.cells cur t (0, 0)) → o + vs.length ≤ cur.size →
    ∃ cur', (w.setCells b o vs).heap[b]? = some (.cells cur' t (0, 0)) ∧ cur'.size = cur.size ∧ ∀ k, cur'[k]? = if o ≤ k ∧ k < o + vs.length then vs[k - o]? else cur[k]?
  | [], o, _, cur, h, _ => ⟨cur, h, rfl, fun k => by rw [if_neg (by simp only [List.length_nil]; omega)]⟩
  | v :: r, o, w, cur, h, hs => by
    simp only [List.length_cons] at hs
    obtain ⟨cur', h1, h2, h3⟩ := setCells_all b r (o + 1) (w.setCell ⟨b, o, none⟩ v) (cur.setIfInBounds o v) (heap_setCell_same w b o _ _ _ h) (by simp; omega)
    refine ⟨cur', h1, by simpa using h2, fun k => ?_⟩
    rw [h3 k]
    by_cases c1 : o + 1 ≤ k ∧ k < o + 1 + r.length
    · rw [if_pos c1, if_pos (by simp only [List.length_cons]; omega)]
      obtain ⟨m, rfl⟩ : ∃ m, k = o + 1 + m := ⟨k - (o + 1), by omega⟩
      rw [show o + 1 + m - (o + 1) = m by omega, show o + 1 + m - o = m + 1 by omega]
      rfl
    · rw [if_neg c1]
      by_cases c2 : k = o
      · subst c2
        rw [if_pos (by simp only [List.length_cons]; omega), Array.getElem?_setIfInBounds_self_of_lt (by omega)]
        simp
      · rw [if_neg (by simp only [List.length_cons]; omega), Array.getElem?_setIfInBounds_ne (by omega)]

theorem Rest.grow (own : Nat → Prop) (w : World) (m : Nat) (os : Array Obj) : Rest own w (Go.Sort.grow (w.drewN m) os) :=
  ⟨rfl, rfl, rfl, by simp [Go.Sort.grow, World.drewN], fun k hk _ => by simp only [Go.Sort.grow, World.drewN]; rw [Array.getElem?_append_left hk]⟩

/-- Two entries have changed their places. -/
theorem RowK.swapped {w : World} {B g off cap : Nat} {t : TypeId} {q : List En} (h : RowK w B t 6 g off q.length cap (flat q)) {i j : Nat} (hi : i < q.length) (hj : j < q.length) :
    RowK ((w.setCells g (off + i * 6) (Hp.enc (Hp.e q j))).setCells g (off + j * 6) (Hp.enc (Hp.e q i))) B t 6 g off (Hp.sw q i j).length cap (flat (Hp.sw q i j)) := by
  obtain ⟨cur, hg, hs, hc⟩ := h.block
  have hr := h.room
  obtain ⟨c1, k1, k2, k3⟩ := setCells_all g (t := t) (Hp.enc (Hp.e q j)) (off + i * 6) w cur hg (by rw [enc_length]; omega)
  obtain ⟨c2, m1, m2, m3⟩ := setCells_all g (t := t) (Hp.enc (Hp.e q i)) (off + j * 6) _ c1 k1 (by rw [enc_length]; omega)
  rw [Hp.sw_length]
  refine ⟨by rw [flat_length, Hp.sw_length], h.from_, h.room, h.most, c2, m1, by omega, fun x u hx => ?_⟩
  have hxl := (List.getElem?_eq_some_iff.1 hx).1
  rw [flat_length, Hp.sw_length] at hxl
  obtain ⟨k, c, hk, hcl, rfl⟩ : ∃ k c, k < q.length ∧ c < 6 ∧ x = k * 6 + c := ⟨x / 6, x % 6, by omega, by omega, by omega⟩
  rw [flat_at _ _ _ (by rw [Hp.sw_length]; exact hk) hcl, Hp.e_sw hi hj] at hx
  rw [m3, k3]
  by_cases e1 : k = j
  · subst e1
    rw [if_pos rfl] at hx
    rw [enc_length, if_pos (by omega), show off + (k * 6 + c) - (off + k * 6) = c by omega]
    exact hx
  · rw [if_neg e1] at hx
    rw [enc_length, if_neg (by omega)]
    by_cases e2 : k = i
    · subst e2
      rw [if_pos rfl] at hx
      rw [enc_length, if_pos (by omega), show off + (k * 6 + c) - (off + k * 6) = c by omega]
      exact hx
    · rw [if_neg e2] at hx
      rw [enc_length, if_neg (by omega)]
      exact hc _ _ (by rw [flat_at _ _ _ hk hcl]; exact hx)

theorem flat_take : ∀ (q : List En) (n : Nat), flat (q.take n) = (flat q).take (n * 6)
  | [], n => by simp [flat]
  | a :: r, 0 => by simp [flat]
  | a :: r, n + 1 => by
    rw [List.take_succ_cons, show (n + 1) * 6 = n * 6 + 1 + 1 + 1 + 1 + 1 + 1 by omega]
    simp only [flat, List.take_succ_cons, flat_take r n]
/-- The last one is left out. -/
theorem RowK.but {w : World} {B g off cap n : Nat} {t : TypeId} {q : List En} (h : RowK w B t 6 g off (n + 1) cap (flat q)) (hl : q.length = n + 1) : RowK w B t 6 g off n cap (flat (q.take n)) := by
  obtain ⟨cur, hg, hs, hc⟩ := h.block
  refine ⟨by rw [flat_length, List.length_take]; omega, h.from_, by have := h.room; omega, h.most, cur, hg, hs, fun j u hj => ?_⟩
  rw [flat_take, List.getElem?_take] at hj
  split at hj
  · exact hc j u hj
  · cases hj
/-- An entry's six cells. -/
theorem RowK.en {w : World} {B g off cap : Nat} {t : TypeId} {q : List En} (h : RowK w B t 6 g off q.length cap (flat q)) {i : Nat} (hi : i < q.length) :
    w.cell? ⟨g, off + i * 6, none⟩ = some (.int .i64 (Hp.e q i).t) ∧ w.cell? ⟨g, off + i * 6 + 1, none⟩ = some (.int .i64 (Hp.e q i).c) ∧ w.cell? ⟨g, off + i * 6 + 2, none⟩ = some (.int .i64 (Hp.e q i).s) ∧ w.cell? ⟨g, off + i * 6 + 3, none⟩ = some (.int .i64 (Hp.e q i).g) ∧ w.cell? ⟨g, off + i * 6 + 4, none⟩ = some (.int .i64 (Hp.e q i).x) ∧ w.cell? ⟨g, off + i * 6 + 5, none⟩ = some (.int .i64 (Hp.e q i).n) := by
  have hh := fun c (hc : c < 6) (u : Value) (hu : (Hp.enc (Hp.e q i))[c]? = some u) => h.cell (j := i * 6 + c) (u := u) (by rw [flat_at _ _ _ hi hc]; exact hu)
  refine ⟨?_, ?_, ?_, ?_, ?_, ?_⟩
  · have := hh 0 (by omega) _ rfl; simpa using this
  · have := hh 1 (by omega) _ rfl; rw [← Nat.add_assoc] at this; exact this
  · have := hh 2 (by omega) _ rfl; rw [← Nat.add_assoc] at this; exact this
  · have := hh 3 (by omega) _ rfl; rw [← Nat.add_assoc] at this; exact this
  · have := hh 4 (by omega) _ rfl; rw [← Nat.add_assoc] at this; exact this
  · have := hh 5 (by omega) _ rfl; rw [← Nat.add_assoc] at this; exact this

/-- append, run: its end grows, where it lay or in a new block. -/
theorem run_append_rowK {P : Program} (w : World) (t ty : TypeId) (B k : Nat) (e : TypeId) (i : TypeInfo) (z : Value) (bytes : Nat) (ht : P.underlying t = some (.slice e)) (hi : P.info? e = some i) (hz : i.zero = some z)
    (hsize : i.size = k) (hby : i.bytes = bytes) (hzs : z.cells.size = k) (hk : 0 < k)
    (g off n cap : Nat) (xs : List Value) (hl : RowK w B e k g off n cap xs)
    (ad : Addr) (m c : Nat) (news : List Value) (hn : news.length = m * k) (hnews : ∀ j u, news[j]? = some u → w.cell? (ad.add j) = some u) (h1 : ∀ u ∈ news, u.oneCell' = true)
    (h63 : n + m ≤ maxLen) (hbytes : (n + m) * bytes ≤ 140737488355328) (hB : B ≤ w.heap.size) :
    ∃ g' off' cap' w', (Builtin.append_ #[t, t] ty #[.slice (some ⟨g, off, none⟩) n cap, .slice (some ad) m c]).run P w = .ok (.slice (some ⟨g', off', none⟩) (n + m) cap') w' ∧ RowK w' B e k g' off' (n + m) cap' (xs ++ news) ∧ w.grownBy w' (some g) ∧ (g' = g ∨ w.heap.size ≤ g') := by
  obtain ⟨cur, hg, hcs, hc⟩ := hl.block
  have hll := hl.len
  by_cases hr : n + m ≤ cap
  · subst hsize
    have hmk : (n + m) * i.size ≤ cap * i.size := Nat.mul_le_mul_right i.size hr
    rw [Nat.add_mul] at hmk
    have hrun := run_append_room_cells (P := P) w t ty e i ht hi g off n cap ad m c news hn hnews h1 hr (fun j hj => by
      rw [cell_of_row _ _ _ _ _ _ hg, Array.getElem?_eq_getElem (by omega)]; rfl) (fun j hj => frozen_of_row _ _ _ _ _ hg)
    obtain ⟨cur', k1, k2, k3, k4⟩ := heap_setCells g (t := e) news (off + n * i.size) w cur hg
    refine ⟨_, _, _, _, hrun, ⟨by rw [List.length_append, hll, hn, Nat.add_mul], hl.from_, hr, hl.most, cur', k1, by omega, fun j u hj => ?_⟩, grown_setCells g news _ w, .inl rfl⟩
    rcases Nat.lt_or_ge j xs.length with hlt | hge
    · rw [List.getElem?_append_left hlt] at hj
      rw [k3 _ (by omega)]
      exact hc j u hj
    · rw [List.getElem?_append_right hge] at hj
      have hjn := (List.getElem?_eq_some_iff.1 hj).1
      have := k4 (j - xs.length) u hj (by omega)
      rw [show off + j = off + n * i.size + (j - xs.length) by omega]
      exact this
  · obtain ⟨v', w', hrun, r1, r2⟩ := run_append_arg_grows (P := P) w t ty e i z k bytes ht hi hz hsize hby hzs hk ⟨g, off, none⟩ n cap xs hll (fun j u hj => by rw [Addr.add_lit, cell_of_row _ _ _ _ _ _ hg]; exact hc j u hj) ad m c news hn hnews (by omega) h63 hbytes
    obtain ⟨g', cap', rfl, hrow⟩ := RowK.owned r1 (by omega)
    exact ⟨_, _, _, _, hrun, hrow.lower hB, grownBy_any r2, .inr hrow.from_⟩
/-- .. onto nil. -/
theorem run_append_nilK {P : Program} (w : World) (t ty : TypeId) (B k : Nat) (e : TypeId) (i : TypeInfo) (z : Value) (bytes : Nat) (ht : P.underlying t = some (.slice e)) (hi : P.info? e = some i) (hz : i.zero = some z)
    (hsize : i.size = k) (hby : i.bytes = bytes) (hzs : z.cells.size = k) (hk : 0 < k)
    (ad : Addr) (m c : Nat) (news : List Value) (hn : news.length = m * k) (hm : 0 < m) (hnews : ∀ j u, news[j]? = some u → w.cell? (ad.add j) = some u) (h1 : ∀ u ∈ news, u.oneCell' = true)
    (h63 : m ≤ maxLen) (hbytes : m * bytes ≤ 140737488355328) (hB : B ≤ w.heap.size) :
    ∃ g' off' cap' w', (Builtin.append_ #[t, t] ty #[.slice none 0 0, .slice (some ad) m c]).run P w = .ok (.slice (some ⟨g', off', none⟩) m cap') w' ∧ RowK w' B e k g' off' m cap' news ∧ w.grownBy w' none ∧ w.heap.size ≤ g' := by
  obtain ⟨v', w', hr, h2, h3, -, h5⟩ := run_append_own_at (P := P) w w.heap.size t ty e i z k bytes ht hi hz hsize hby hzs hk (.slice none 0 0) 0 [] ⟨by simp, .inl ⟨rfl, rfl⟩⟩ ad m c news hn hnews h1 (by rw [Nat.zero_add]; exact h63) (by rw [Nat.zero_add]; exact hbytes) (Nat.le_refl _)
  rw [Nat.zero_add] at h2
  obtain ⟨g', cap', rfl, hrow⟩ := RowK.owned h2 hm
  exact ⟨_, _, _, _, hr, hrow.lower hB, h3, hrow.from_⟩
/-- At a step of a drawn region: append by its run. -/
theorem step_append_run {P : Program} {w : World} {ops : Array Oper} {o : Oper} {a : Act} {K : Act → World → Prop} {Q : Exit → Act → World → Prop} {E : Prop} (hgd : o.guard = none) (s x : Operand) (t : TypeId)
    (ho : o.op = .call { callee := .builtin .append, args := #[s, x], argTypes := #[t, t] }) {v vx v' : Value} {w' : World} (hs : a.eval s = v) (hx : a.eval x = vx)
    (hr : (Builtin.append_ #[t, t] o.type #[v, vx]).run P w = .ok v' w') (h : K (a.put o.dst v') w') :
    if Region.wanted o (yielded ops a.tmps) = true then Oper.wp P o a w K Q else E := by
  have hw : Region.wanted o (yielded ops a.tmps) = true := by simp [Region.wanted, hgd]
  rw [if_pos hw]
  unfold Oper.wp execOp
  simp only [ho, resolve, invoke, builtin, Sem.run_bind, Sem.run_pure, Result.andThen_ok, List.map_toArray, List.map_cons, List.map_nil, hs, hx, hr]
  exact h

/-- append in a plain region, by its run. -/
theorem wpList_append_run {P : Program} {w : World} {ops : Array Oper} {rest : List Oper} {o : Oper} {a : Act} {Q : Exit → Act → World → Prop} (hgd : o.guard = none) (s x : Operand) (t : TypeId)
    (ho : o.op = .call { callee := .builtin .append, args := #[s, x], argTypes := #[t, t] }) {v vx v' : Value} {w' : World} (hs : a.eval s = v) (hx : a.eval x = vx)
    (hr : (Builtin.append_ #[t, t] o.type #[v, vx]).run P w = .ok v' w') (h : wpList P ops Q rest (a.put o.dst v') w') : wpList P ops Q (o :: rest) a w := by
  refine wpList_plain hgd fun K hK => ?_
  unfold Oper.wp execOp
  simp only [ho, resolve, invoke, builtin, Sem.run_bind, Sem.run_pure, Result.andThen_ok, List.map_toArray, List.map_cons, List.map_nil, hs, hx, hr]
  exact hK _ _ h
end Go.Proofs.Ytpognlidhppnaaa
