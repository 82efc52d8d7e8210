/- A queue of entries in memory; what its own methods come to. -/
import Derived.Test.YtfjhknmpolhfeaaDueB
import Derived.Laws.CopyRow
namespace Go.Proofs.Ytfjhknmpolhfeaa
open Go.RowKit Go.Sort

/-- The cells of entries, one behind the other. -/
def flat : List En → List Value
  | [] => []
  | a :: r => .int .i64 a.t :: .int .i64 a.c :: .int .i64 a.s :: .int .i64 a.g :: .int .i64 a.x :: .int .i64 a.n :: flat r
theorem flat_length : ∀ q : List En, (flat q).length = q.length * 6
  | [] => rfl
  | a :: r => by simp [flat, flat_length r]; omega
theorem flat_append (a : En) : ∀ q : List En, flat (q ++ [a]) = flat q ++ Hp.enc a
  | [] => rfl
  | b :: r => by simp [flat, flat_append a r]
theorem flat_at : ∀ (q : List En) (i c : Nat), i < q.length → c < 6 → (flat q)[i * 6 + c]? = (Hp.enc (Hp.e q i))[c]?
  | [], i, c, h, _ => absurd h (Nat.not_lt_zero _)
  | a :: r, 0, c, _, hc => by
    match c, hc with
    | 0, _ => rfl
    | 1, _ => rfl
    | 2, _ => rfl
    | 3, _ => rfl
    | 4, _ => rfl
    | 5, _ => rfl
  | a :: r, i + 1, c, h, hc => by
    have := flat_at r i c (by simpa using h) hc
    rw [show (i + 1) * 6 + c = i * 6 + c + 6 by omega]
    exact this
theorem enc_length (a : En) : (Hp.enc a).length = 6 := rfl
theorem enc_one (a : En) : ∀ u ∈ Hp.enc a, u.oneCell' = true := by
  intro u hu
  simp only [Hp.enc, List.mem_cons, List.not_mem_nil, or_false] at hu
  rcases hu with rfl | rfl | rfl | rfl | rfl | rfl <;> rfl
theorem flat_one : ∀ (q : List En), ∀ u ∈ flat q, u.oneCell' = true
  | [], u, h => by simp [flat] at h
  | a :: r, u, h => by
    simp only [flat, List.mem_cons] at h
    rcases h with rfl | rfl | rfl | rfl | rfl | rfl | h
    iterate 6 rfl
    exact flat_one r u h

/-- Stores one behind the other: what a block holds then. -/
theorem setCells_all (b : Nat) {t : TypeId} : ∀ (vs : List Value) (o : Nat) (w : World) (cur : Array Value), w.heap[b]? = some (.cells cur t (0, 0)) → o + vs.length ≤ cur.size →
    ∃ cur', (w.setCells b o vs).heap[b]? = some (.cells cur' t (0, 0)) ∧ cur'.size = cur.size ∧ ∀ k, cur'[k]? = if o ≤ k ∧ k < o + vs.length then vs[k - o]? else cur[k]?
  | [], o, _, cur, h, _ => ⟨cur, h, rfl, fun k => by rw [if_neg (by simp only [List.length_nil]; omega)]⟩
  | v :: r, o, w, cur, h, hs => by
    simp only [List.length_cons] at hs
    obtain ⟨cur', h1, h2, h3⟩ := setCells_all b r (o + 1) (w.setCell ⟨b, o, none⟩ v) (cur.setIfInBounds o v) (heap_setCell_same w b o _ _ _ h) (by simp; omega)
    refine ⟨cur', h1, by simpa using h2, fun k => ?_⟩
    rw [h3 k]
    by_cases c1 : o + 1 ≤ k ∧ k < o + 1 + r.length
    · rw [if_pos c1, if_pos (by simp only [List.length_cons]; omega)]
      obtain ⟨m, rfl⟩ : ∃ m, k = o + 1 + m := ⟨k - (o + 1), by omega⟩
      rw [show o + 1 + m - (o + 1) = m by omega, show o + 1 + m - o = m + 1 by omega]
      rfl
    · rw [if_neg c1]
      by_cases c2 : k = o
      · subst c2
        rw [if_pos (by simp only [List.length_cons]; omega), Array.getElem?_setIfInBounds_self_of_lt (by omega)]
        simp
      · rw [if_neg (by simp only [List.length_cons]; omega), Array.getElem?_setIfInBounds_ne (by omega)]

theorem Rest.grow (own : Nat → Prop) (w : World) (m : Nat) (os : Array Obj) : Rest own w (Go.Sort.grow (w.drewN m) os) :=
  ⟨rfl, rfl, rfl, by simp [Go.Sort.grow, World.drewN], fun k hk _ => by simp only [Go.Sort.grow, World.drewN]; rw [Array.getElem?_append_left hk]⟩

/-- Two entries have changed their places. -/
theorem RowK.swapped {w : World} {B g off cap : Nat} {t : TypeId} {q : List En} (h : RowK w B t 6 g off q.length cap (flat q)) {i j : Nat} (hi : i < q.length) (hj : j < q.length) :
    RowK ((w.setCells g (off + i * 6) (Hp.enc (Hp.e q j))).setCells g (off + j * 6) (Hp.enc (Hp.e q i))) B t 6 g off (Hp.sw q i j).length cap (flat (Hp.sw q i j)) := by
  obtain ⟨cur, hg, hs, hc⟩ := h.block
  have hr := h.room
  obtain ⟨c1, k1, k2, k3⟩ := setCells_all g (t := t) (Hp.enc (Hp.e q j)) (off + i * 6) w cur hg (by rw [enc_length]; omega)
  obtain ⟨c2, m1, m2, m3⟩ := setCells_all g (t := t) (Hp.enc (Hp.e q i)) (off + j * 6) _ c1 k1 (by rw [enc_length]; omega)
  rw [Hp.sw_length]
  refine ⟨by rw [flat_length, Hp.sw_length], h.from_, h.room, h.most, c2, m1, by omega, fun x u hx => ?_⟩
  have hxl := (List.getElem?_eq_some_iff.1 hx).1
  rw [flat_length, Hp.sw_length] at hxl
  obtain ⟨k, c, hk, hcl, rfl⟩ : ∃ k c, k < q.length ∧ c < 6 ∧ x = k * 6 + c := ⟨x / 6, x % 6, by omega, by omega, by omega⟩
  rw [flat_at _ _ _ (by rw [Hp.sw_length]; exact hk) hcl, Hp.e_sw hi hj] at hx
  rw [m3, k3]
  by_cases e1 : k = j
  · subst e1
    rw [if_pos rfl] at hx
    rw [enc_length, if_pos (by omega), show off + (k * 6 + c) - (off + k * 6) = c by omega]
    exact hx
  · rw [if_neg e1] at hx
    rw [enc_length, if_neg (by omega)]
    by_cases e2 : k = i
    · subst e2
      rw [if_pos rfl] at hx
      rw [enc_length, if_pos (by omega), show off + (k * 6 + c) - (off + k * 6) = c by omega]
      exact hx
    · rw [if_neg e2] at hx
      rw [enc_length, if_neg (by omega)]
      exact hc _ _ (by rw [flat_at _ _ _ hk hcl]; exact hx)

theorem flat_take : ∀ (q : List En) (n : Nat), flat (q.take n) = (flat q).take (n * 6)
  | [], n => by simp [flat]
  | a :: r, 0 => by simp [flat]
  | a :: r, n + 1 => by
    rw [List.take_succ_cons, show (n + 1) * 6 = n * 6 + 1 + 1 + 1 + 1 + 1 + 1 by omega]
    simp only [flat, List.take_succ_cons, flat_take r n]
/-- The last one is left out. -/
theorem RowK.but {w : World} {B g off cap n : Nat} {t : TypeId} {q : List En} (h : RowK w B t 6 g off (n + 1) cap (flat q)) (hl : q.length = n + 1) : RowK w B t 6 g off n cap (flat (q.take n)) := by
  obtain ⟨cur, hg, hs, hc⟩ := h.block
  refine ⟨by rw [flat_length, List.length_take]; omega, h.from_, by have := h.room; omega, h.most, cur, hg, hs, fun j u hj => ?_⟩
  rw [flat_take, List.getElem?_take] at hj
  split at hj
  · exact hc j u hj
  · cases hj
/-- An entry's six cells. -/
theorem RowK.en {w : World} {B g off cap : Nat} {t : TypeId} {q : List En} (h : RowK w B t 6 g off q.length cap (flat q)) {i : Nat} (hi : i < q.length) :
    w.cell? ⟨g, off + i * 6, none⟩ = some (.int .i64 (Hp.e q i).t) ∧ w.cell? ⟨g, off + i * 6 + 1, none⟩ = some (.int .i64 (Hp.e q i).c) ∧ w.cell? ⟨g, off + i * 6 + 2, none⟩ = some (.int .i64 (Hp.e q i).s) ∧ w.cell? ⟨g, off + i * 6 + 3, none⟩ = some (.int .i64 (Hp.e q i).g) ∧ w.cell? ⟨g, off + i * 6 + 4, none⟩ = some (.int .i64 (Hp.e q i).x) ∧ w.cell? ⟨g, off + i * 6 + 5, none⟩ = some (.int .i64 (Hp.e q i).n) := by
  have hh := fun c (hc : c < 6) (u : Value) (hu : (Hp.enc (Hp.e q i))[c]? = some u) => h.cell (j := i * 6 + c) (u := u) (by rw [flat_at _ _ _ hi hc]; exact hu)
  refine ⟨?_, ?_, ?_, ?_, ?_, ?_⟩
  · have := hh 0 (by omega) _ rfl; simpa using this
  · have := hh 1 (by omega) _ rfl; rw [← Nat.add_assoc] at this; exact this
  · have := hh 2 (by omega) _ rfl; rw [← Nat.add_assoc] at this; exact this
  · have := hh 3 (by omega) _ rfl; rw [← Nat.add_assoc] at this; exact this
  · have := hh 4 (by omega) _ rfl; rw [← Nat.add_assoc] at this; exact this
  · have := hh 5 (by omega) _ rfl; rw [← Nat.add_assoc] at this; exact this

theorem qlen_any (a : Option Addr) (n c : Nat) (w : World) : Calls Try.prog 61 #[.slice a n c] w fun e w' => e = .returned (.int .i64 (n : Nat)) ∧ w = w' := by
  go_enter Try.func61, Try.ntmps61
  go_wp2
  go_ret
  exact ⟨rfl, rfl⟩

/-- Two change their places. -/
theorem qswap_any {B g off cap : Nat} {t : TypeId} {q : List En} (w : World) (h : RowK w B t 6 g off q.length cap (flat q)) (hm : q.length ≤ 1000000) {i j : Nat} (hi : i < q.length) (hj : j < q.length) :
    Calls Try.prog 63 #[.slice (some ⟨g, off, none⟩) q.length cap, .int .i64 i, .int .i64 j] w fun e w' => e = .returned (.tuple #[]) ∧ RowK w' B t 6 g off q.length cap (flat (Hp.sw q i j)) ∧ Rest (fun k => k = g) w w' := by
  obtain ⟨cur, hg, hs, hc⟩ := h.block
  have hr := h.room
  have hx := fun (i : Nat) (hi : i < q.length) c (hcl : c < 6) (u : Value) (hu : (Hp.enc (Hp.e q i))[c]? = some u) => hc (i * 6 + c) u (by rw [flat_at _ _ _ hi hcl]; exact hu)
  refine (swap_raw g off cap q.length i j w hi hj hm (Hp.e q i).t (Hp.e q i).c (Hp.e q i).s (Hp.e q i).g (Hp.e q i).x (Hp.e q i).n (Hp.e q j).t (Hp.e q j).c (Hp.e q j).s (Hp.e q j).g (Hp.e q j).x (Hp.e q j).n hg (by omega)
    (by simpa using hx i hi 0 (by omega) _ rfl) (by rw [Nat.add_assoc]; exact hx i hi 1 (by omega) _ rfl) (by rw [Nat.add_assoc]; exact hx i hi 2 (by omega) _ rfl) (by rw [Nat.add_assoc]; exact hx i hi 3 (by omega) _ rfl) (by rw [Nat.add_assoc]; exact hx i hi 4 (by omega) _ rfl) (by rw [Nat.add_assoc]; exact hx i hi 5 (by omega) _ rfl)
    (by simpa using hx j hj 0 (by omega) _ rfl) (by rw [Nat.add_assoc]; exact hx j hj 1 (by omega) _ rfl) (by rw [Nat.add_assoc]; exact hx j hj 2 (by omega) _ rfl) (by rw [Nat.add_assoc]; exact hx j hj 3 (by omega) _ rfl) (by rw [Nat.add_assoc]; exact hx j hj 4 (by omega) _ rfl) (by rw [Nat.add_assoc]; exact hx j hj 5 (by omega) _ rfl)).mono ?_
  rintro e w' ⟨rfl, hw⟩
  have hw : w' = ((w.setCells g (off + i * 6) (Hp.enc (Hp.e q j))).setCells g (off + j * 6) (Hp.enc (Hp.e q i))).drew := hw
  subst hw
  have hsw := h.swapped hi hj
  rw [Hp.sw_length] at hsw
  have hd : ∀ X : World, X.drew.heap = X.heap := fun _ => rfl
  refine ⟨rfl, hsw.kept (by rw [hd]), ?_⟩
  have g1 := grown_setCells g (Hp.enc (Hp.e q j)) (off + i * 6) w
  have g2 := grown_setCells g (Hp.enc (Hp.e q i)) (off + j * 6) (w.setCells g (off + i * 6) (Hp.enc (Hp.e q j)))
  exact ((Rest.grown (own := fun k => k = g) g1 (fun k e => by cases e; rfl)).trans (o3 := fun k => k = g) (Rest.grown (own := fun k => k = g) g2 (fun k e => by cases e; rfl)) (fun _ _ => id) (fun _ _ => id)).trans (o3 := fun k => k = g) (Rest.drew (fun k => k = g) _) (fun _ _ => id) (fun _ _ => id)

set_option maxHeartbeats 2000000 in
/-- The one comes ahead of the other. -/
theorem qless_any {B g off cap : Nat} {t : TypeId} {q : List En} (w : World) (h : RowK w B t 6 g off q.length cap (flat q)) (_hm : q.length ≤ 1000000) {i j : Nat} (hi : i < q.length) (hj : j < q.length) :
    Calls Try.prog 62 #[.slice (some ⟨g, off, none⟩) q.length cap, .int .i64 i, .int .i64 j] w fun e w' => e = .returned (.bool (En.lt (Hp.e q i) (Hp.e q j))) ∧ ∃ m os, w' = grow (w.drewN m) os := by
  have hb : g < w.heap.size := h.lt
  obtain ⟨a0, a1, a2, a3, a4, a5⟩ := h.en hi
  obtain ⟨b0, b1, b2, b3, b4, b5⟩ := h.en hj
  have a0 := cell_grown (w := w) (a := ⟨g, off + i * 6, none⟩) hb a0
  have a1 := cell_grown (w := w) (a := ⟨g, off + i * 6 + 1, none⟩) hb a1
  have a2 := cell_grown (w := w) (a := ⟨g, off + i * 6 + 2, none⟩) hb a2
  have a3 := cell_grown (w := w) (a := ⟨g, off + i * 6 + 3, none⟩) hb a3
  have a4 := cell_grown (w := w) (a := ⟨g, off + i * 6 + 4, none⟩) hb a4
  have a5 := cell_grown (w := w) (a := ⟨g, off + i * 6 + 5, none⟩) hb a5
  have b0 := cell_grown (w := w) (a := ⟨g, off + j * 6, none⟩) hb b0
  have b1 := cell_grown (w := w) (a := ⟨g, off + j * 6 + 1, none⟩) hb b1
  have b2 := cell_grown (w := w) (a := ⟨g, off + j * 6 + 2, none⟩) hb b2
  have b3 := cell_grown (w := w) (a := ⟨g, off + j * 6 + 3, none⟩) hb b3
  have b4 := cell_grown (w := w) (a := ⟨g, off + j * 6 + 4, none⟩) hb b4
  have b5 := cell_grown (w := w) (a := ⟨g, off + j * 6 + 5, none⟩) hb b5
  have ho := fun w => order_any (Hp.e q i) (Hp.e q j) w
  rw [← Hp.cmpE_lt]
  generalize Hp.cmpE (Hp.e q i) (Hp.e q j) = r at ho ⊢
  simp only [Hp.enc] at ho
  generalize Hp.e q i = x at *
  generalize Hp.e q j = y at *
  obtain ⟨x0, x1, x2, x3, x4, x5⟩ := x
  obtain ⟨y0, y1, y2, y3, y4, y5⟩ := y
  dsimp only at *
  have mixed : Try.prog.follows .mixedOrders = true := by kernel_rfl
  clear h hb
  go_enter Try.func62, Try.ntmps62
  go_wp2_with fail
  go_quiet_grown (first | (go_at_call 19; exact Calls.grown_of (ho _)))
  go_wp2
  go_ret
  exact ⟨rfl, nq, osq, rfl⟩
end Go.Proofs.Ytfjhknmpolhfeaa
