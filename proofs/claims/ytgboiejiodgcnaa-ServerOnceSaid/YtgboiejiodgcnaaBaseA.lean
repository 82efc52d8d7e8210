/- Line, Rest, RowK, HpMath, EnRow: several texts in one. -/
import Derived.Test.YtgboiejiodgcnaaRows
import Derived.WalkKit
import Derived.Below
import Derived.OneCell
import Derived.Lib.Hide
import Derived.ArgAppend
import Derived.Maps.AppendAt
import Derived.Sort.Grow
import Derived.Deep.QuietTactic
import Derived.Laws.CopyRow
import Derived.Deep.AppendLies
/- A row behind a slice that may begin anywhere in its block: its head is taken off, its end grows; what else the world does leaves it. -/
namespace Go.Proofs.Ytgboiejiodgcnaa
open Go.RowKit

/-- The values lie behind the slice, which is not nil, in a block from B on. -/
def Row (w : World) (B : Nat) (t : TypeId) (v : Value) (xs : List Value) : Prop :=
  ∃ g off cap cur, v = .slice (some ⟨g, off, none⟩) xs.length cap ∧ B ≤ g ∧ w.heap[g]? = some (.cells cur t (0, 0)) ∧ xs.length ≤ cap ∧ cap ≤ maxLen ∧ off + cap ≤ cur.size ∧ ∀ j u, xs[j]? = some u → cur[off + j]? = some u

/-- .. or it is nil, and there are none. -/
def Line (w : World) (B : Nat) (t : TypeId) (v : Value) (xs : List Value) : Prop := (v = .slice none 0 0 ∧ xs = []) ∨ Row w B t v xs

theorem Line.nil (w : World) (B : Nat) (t : TypeId) : Line w B t (.slice none 0 0) [] := .inl ⟨rfl, rfl⟩
theorem Row.line {w : World} {B : Nat} {t : TypeId} {v : Value} {xs : List Value} (h : Row w B t v xs) : Line w B t v xs := .inr h

theorem Row.owned {w : World} {B : Nat} {t : TypeId} {v : Value} {n : Nat} {xs : List Value} (h : w.ownsRow B t 1 v n xs) (hv : v ≠ .slice none 0 0) : Row w B t v xs := by
  obtain ⟨h1, h2⟩ := h
  have hn : xs.length = n := by simpa using h1
  rcases h2 with ⟨e, _⟩ | ⟨g, cap, cur, rfl, hb, hg, hnc, hcm, hcs, htake⟩
  · exact absurd e hv
  · refine ⟨g, 0, cap, cur, by rw [hn], hb, hg, by omega, hcm, by rw [hcs]; omega, fun j u hj => ?_⟩
    have hk : (cur.toList.take (n * 1))[j]? = some u := by rw [htake]; exact hj
    rw [List.getElem?_take] at hk
    split at hk
    · simpa using hk
    · cases hk
theorem Line.owned {w : World} {B : Nat} {t : TypeId} {v : Value} {n : Nat} {xs : List Value} (h : w.ownsRow B t 1 v n xs) : Line w B t v xs := by
  by_cases hv : v = .slice none 0 0
  · subst hv
    obtain ⟨h1, h2⟩ := h
    rcases h2 with ⟨_, rfl⟩ | ⟨g, cap, cur, e, _⟩
    · exact .inl ⟨rfl, List.eq_nil_of_length_eq_zero (by simpa using h1)⟩
    · cases e
  · exact .inr (Row.owned h hv)

theorem Row.lt {w : World} {B : Nat} {t : TypeId} {v : Value} {xs : List Value} (h : Row w B t v xs) {k : Nat} (hk : v.ownBlock = some k) : B ≤ k ∧ k < w.heap.size := by
  obtain ⟨g, off, cap, cur, rfl, hb, hg, -⟩ := h
  simp only [Value.ownBlock, Option.some.injEq] at hk
  subst hk
  exact ⟨hb, lt_of_block hg⟩
theorem Line.lt {w : World} {B : Nat} {t : TypeId} {v : Value} {xs : List Value} (h : Line w B t v xs) {k : Nat} (hk : v.ownBlock = some k) : B ≤ k ∧ k < w.heap.size := by
  rcases h with ⟨rfl, _⟩ | h
  · cases hk
  · exact h.lt hk

theorem Row.kept {w w' : World} {B : Nat} {t : TypeId} {v : Value} {xs : List Value} (h : Row w B t v xs) (hb : ∀ k, v.ownBlock = some k → w'.heap[k]? = w.heap[k]?) : Row w' B t v xs := by
  obtain ⟨g, off, cap, cur, rfl, h1, hg, r⟩ := h
  exact ⟨g, off, cap, cur, rfl, h1, (hb g rfl).trans hg, r⟩
theorem Line.kept {w w' : World} {B : Nat} {t : TypeId} {v : Value} {xs : List Value} (h : Line w B t v xs) (hb : ∀ k, v.ownBlock = some k → w'.heap[k]? = w.heap[k]?) : Line w' B t v xs := by
  rcases h with h | h
  · exact .inl h
  · exact .inr (h.kept hb)
theorem Row.lower {w : World} {B B' : Nat} {t : TypeId} {v : Value} {xs : List Value} (h : Row w B t v xs) (hB : B' ≤ B) : Row w B' t v xs := by
  obtain ⟨g, off, cap, cur, rfl, h1, r⟩ := h
  exact ⟨g, off, cap, cur, rfl, by omega, r⟩
theorem Line.lower {w : World} {B B' : Nat} {t : TypeId} {v : Value} {xs : List Value} (h : Line w B t v xs) (hB : B' ≤ B) : Line w B' t v xs := by
  rcases h with h | h
  · exact .inl h
  · exact .inr (h.lower hB)

/-- Its cells. -/
theorem Row.cells {w : World} {B : Nat} {t : TypeId} {v : Value} {xs : List Value} (h : Row w B t v xs) : ∃ g off cap, v = .slice (some ⟨g, off, none⟩) xs.length cap ∧ xs.length ≤ cap ∧ cap ≤ maxLen ∧ ∀ j u, xs[j]? = some u → w.cell? ⟨g, off + j, none⟩ = some u := by
  obtain ⟨g, off, cap, cur, rfl, h1, hg, hl, hm, hs, hc⟩ := h
  exact ⟨g, off, cap, rfl, hl, hm, fun j u hj => by rw [cell_of_row _ _ _ _ _ _ hg]; exact hc j u hj⟩
theorem Line.shape {w : World} {B : Nat} {t : TypeId} {v : Value} {xs : List Value} (h : Line w B t v xs) : ∃ a cap, v = .slice a xs.length cap := by
  rcases h with ⟨rfl, rfl⟩ | ⟨g, off, cap, cur, rfl, -⟩
  · exact ⟨none, 0, rfl⟩
  · exact ⟨_, cap, rfl⟩

/-- Its head is taken off. -/
theorem Row.tail {w : World} {B : Nat} {t : TypeId} {g off cap : Nat} {x : Value} {xs : List Value} (h : Row w B t (.slice (some ⟨g, off, none⟩) (xs.length + 1) cap) (x :: xs)) :
    Row w B t (sliced (some ⟨g, off, none⟩) 1 (xs.length + 1) cap 1) xs := by
  obtain ⟨g', off', cap', cur, e, h1, hg, hl, hm, hs, hc⟩ := h
  simp only [Value.slice.injEq, Option.some.injEq, Addr.mk.injEq, and_true] at e
  obtain ⟨⟨rfl, rfl⟩, _, rfl⟩ := e
  simp only [List.length_cons] at hl
  by_cases e1 : cap = 1
  · subst e1
    have hx : xs = [] := List.eq_nil_of_length_eq_zero (by omega)
    subst hx
    exact ⟨g, off, 0, cur, by simp [sliced], h1, hg, Nat.le_refl _, Nat.zero_le _, by omega, fun j u hj => by simp at hj⟩
  · refine ⟨g, off + 1, cap - 1, cur, by simp [sliced, e1, Addr.add], h1, hg, by omega, by omega, by omega, fun j u hj => ?_⟩
    have := hc (j + 1) u (by simpa using hj)
    rw [show off + 1 + j = off + (j + 1) by omega]
    exact this
theorem sliced_block (g off n cap s : Nat) (l : Nat) : (sliced (some ⟨g, off, none⟩) l n cap s).ownBlock = some g := by
  unfold sliced
  split
  · rfl
  · simp [Value.ownBlock, Addr.add]
    split <;> rfl

theorem heap_setCells (b : Nat) {t : TypeId} : ∀ (vs : List Value) (o : Nat) (w : World) (cur : Array Value), w.heap[b]? = some (.cells cur t (0, 0)) →
    ∃ cur', (w.setCells b o vs).heap[b]? = some (.cells cur' t (0, 0)) ∧ cur'.size = cur.size ∧ (∀ k, k < o → cur'[k]? = cur[k]?) ∧ ∀ j u, vs[j]? = some u → o + j < cur.size → cur'[o + j]? = some u
  | [], _, _, cur, h => ⟨cur, h, rfl, fun _ _ => rfl, fun j u hj => by simp at hj⟩
  | v :: r, o, w, cur, h => by
    obtain ⟨cur', h1, h2, h3, h4⟩ := heap_setCells b r (o + 1) (w.setCell ⟨b, o, none⟩ v) (cur.setIfInBounds o v) (heap_setCell_same w b o _ _ _ h)
    refine ⟨cur', h1, by simpa using h2, fun k hk => ?_, fun j u hj hlt => ?_⟩
    · rw [h3 k (by omega), Array.getElem?_setIfInBounds_ne (by omega)]
    · match j, hj with
      | 0, hj =>
        simp at hj
        subst hj
        rw [h3 (o + 0) (by omega)]
        simp at hlt
        simp [hlt]
      | j + 1, hj =>
        have := h4 j u (by simpa using hj) (by simp; omega)
        rw [show o + (j + 1) = o + 1 + j by omega]
        exact this
theorem grown_setCells (b : Nat) : ∀ (vs : List Value) (o : Nat) (w : World), w.grownBy (w.setCells b o vs) (some b)
  | [], _, w => ⟨rfl, rfl, rfl, Nat.le_refl _, fun _ _ _ => rfl⟩
  | v :: r, o, w => by
    have h1 : w.grownBy (w.setCell ⟨b, o, none⟩ v) (some b) := ⟨rfl, rfl, rfl, by simp [World.setCell], fun k _ hk => Below.heap_setCell _ _ _ _ (fun e => hk (by rw [e]))⟩
    exact h1.trans (grown_setCells b r (o + 1) _)
theorem grownBy_any {w w' : World} {row : Option Nat} (h : w.grownBy w' none) : w.grownBy w' row :=
  ⟨h.os, h.tape, h.output, h.size, fun k hk _ => h.block k hk (by simp)⟩

/-- Its end grows, where it lay or in a new block. -/
theorem wpList_append_row {P : Program} (w : World) {ops : Array Oper} {rest : List Oper} {o : Oper} {a : Act} {Q : Exit → Act → World → Prop} (hgd : o.guard = none) (s x : Operand) (t : TypeId)
    (ho : o.op = .call { callee := .builtin .append, args := #[s, x], argTypes := #[t, t] })
    (B : Nat) (e : TypeId) (i : TypeInfo) (z : Value) (bytes : Nat) (ht : P.underlying t = some (.slice e)) (hi : P.info? e = some i) (hz : i.zero = some z)
    (hsize : i.size = 1) (hby : i.bytes = bytes) (hzs : z.cells.size = 1)
    (v : Value) (xs : List Value) (hs : a.eval s = v) (hl : Row w B e v xs)
    (ad : Addr) (m c : Nat) (news : List Value) (hx : a.eval x = .slice (some ad) m c) (hn : news.length = m) (hnews : ∀ j u, news[j]? = some u → w.cell? (ad.add j) = some u) (h1 : ∀ u ∈ news, u.oneCell' = true)
    (h63 : xs.length + m ≤ maxLen) (hbytes : (xs.length + m) * bytes ≤ 140737488355328) (hB : B ≤ w.heap.size)
    (h : ∀ v' w', Row w' B e v' (xs ++ news) → w.grownBy w' v.ownBlock → (v'.ownBlock = v.ownBlock ∨ ∀ k, v'.ownBlock = some k → w.heap.size ≤ k) → wpList P ops Q rest (a.put o.dst v') w') :
    wpList P ops Q (o :: rest) a w := by
  obtain ⟨g, off, cap, cur, rfl, hb, hg, hlc, hcm, hcs, hc⟩ := hl
  refine wpList_append_arg w hgd s x t ho e i z 1 bytes ht hi hz hsize hby hzs (by decide) g off xs.length cap xs hs (by simp) (fun j u hj => by rw [cell_of_row _ _ _ _ _ _ hg]; exact hc j u hj)
    ad m c news hx (by simp [hn]) hnews h1 (fun hr j hj => ?_) h63 hbytes (fun hr => ?_) (fun hr v' w' hown hgr => ?_)
  · refine ⟨?_, frozen_of_row _ _ _ _ _ hg⟩
    rw [cell_of_row _ _ _ _ _ _ hg]
    simp
    omega
  · obtain ⟨cur', k1, k2, k3, k4⟩ := heap_setCells g (t := e) news (off + xs.length * 1) w cur hg
    refine h _ _ ⟨g, off, cap, cur', by simp [hn], hb, k1, by simp [hn]; exact hr, hcm, by omega, fun j u hj => ?_⟩ (grown_setCells g news _ w) (.inl rfl)
    rcases Nat.lt_or_ge j xs.length with hlt | hge
    · rw [List.getElem?_append_left hlt] at hj
      rw [k3 _ (by omega)]
      exact hc j u hj
    · rw [List.getElem?_append_right hge] at hj
      have hjn := (List.getElem?_eq_some_iff.1 hj).1
      have := k4 (j - xs.length) u hj (by omega)
      rw [show off + j = off + xs.length * 1 + (j - xs.length) by omega]
      exact this
  · rcases hown.2 with ⟨_, h0⟩ | ⟨g', cap', cur', rfl, hb', r⟩
    · omega
    · exact h _ _ ((Row.owned hown (by simp)).lower hB) (grownBy_any hgr) (.inr (fun k hk => by simp [Value.ownBlock] at hk; omega))

theorem wpList_append_line {P : Program} (w : World) {ops : Array Oper} {rest : List Oper} {o : Oper} {a : Act} {Q : Exit → Act → World → Prop} (hgd : o.guard = none) (s x : Operand) (t : TypeId)
    (ho : o.op = .call { callee := .builtin .append, args := #[s, x], argTypes := #[t, t] })
    (B : Nat) (e : TypeId) (i : TypeInfo) (z : Value) (bytes : Nat) (ht : P.underlying t = some (.slice e)) (hi : P.info? e = some i) (hz : i.zero = some z)
    (hsize : i.size = 1) (hby : i.bytes = bytes) (hzs : z.cells.size = 1)
    (v : Value) (xs : List Value) (hs : a.eval s = v) (hl : Line w B e v xs)
    (ad : Addr) (m c : Nat) (news : List Value) (hx : a.eval x = .slice (some ad) m c) (hn : news.length = m) (hnews : ∀ j u, news[j]? = some u → w.cell? (ad.add j) = some u) (h1 : ∀ u ∈ news, u.oneCell' = true)
    (h63 : xs.length + m ≤ maxLen) (hbytes : (xs.length + m) * bytes ≤ 140737488355328) (hB : B ≤ w.heap.size)
    (h : ∀ v' w', Line w' B e v' (xs ++ news) → w.grownBy w' v.ownBlock → (v'.ownBlock = v.ownBlock ∨ ∀ k, v'.ownBlock = some k → w.heap.size ≤ k) → wpList P ops Q rest (a.put o.dst v') w') :
    wpList P ops Q (o :: rest) a w := by
  rcases hl with ⟨rfl, rfl⟩ | hl
  · refine wpList_append_own_at w hgd s x t ho w.heap.size e i z 1 bytes ht hi hz hsize hby hzs (by decide) _ 0 [] hs (World.ownsRow_nil w w.heap.size e 1) ad m c news hx (by simp [hn]) hnews h1 (by simpa using h63) (by simpa using hbytes) (Nat.le_refl _) (fun v' w' hown hgr _ _ => ?_)
    refine h v' w' ((Line.owned hown).lower hB) (grownBy_any hgr) (.inr (fun k hk => ((Line.owned hown).lt hk).1))
  · exact wpList_append_row w hgd s x t ho B e i z bytes ht hi hz hsize hby hzs v xs hs hl ad m c news hx hn hnews h1 h63 hbytes hB (fun v' w' h2 h3 h4 => h v' w' h2.line h3 h4)

end Go.Proofs.Ytgboiejiodgcnaa

/- What all else in the world is behind a call: all blocks but those named are as they were; rows of marks and of numbers. -/
namespace Go.Proofs.Ytgboiejiodgcnaa
open Go.RowKit

def markCells (n : Nat) (td : List Nat) : Array Value := ((List.range n).map fun i => Value.bool (td.contains i)).toArray
def numCells (l : List Nat) : List Value := l.map fun (i : Nat) => Value.int .i64 (i : Int)

/-- All blocks that were there, but those named, are as they were. -/
structure Rest (own : Nat → Prop) (w w' : World) : Prop where
  os : w'.os = w.os
  tape : w'.tape = w.tape
  output : w'.output = w.output
  size : w.heap.size ≤ w'.heap.size
  block : ∀ k, k < w.heap.size → ¬ own k → w'.heap[k]? = w.heap[k]?

theorem Rest.refl (own : Nat → Prop) (w : World) : Rest own w w := ⟨rfl, rfl, rfl, Nat.le_refl _, fun _ _ _ => rfl⟩
theorem Rest.trans {o1 o2 o3 : Nat → Prop} {a b c : World} (h : Rest o1 a b) (k : Rest o2 b c) (m1 : ∀ i, i < a.heap.size → o1 i → o3 i) (m2 : ∀ i, i < a.heap.size → o2 i → o3 i) : Rest o3 a c :=
  ⟨k.os.trans h.os, k.tape.trans h.tape, k.output.trans h.output, Nat.le_trans h.size k.size,
   fun i hi hn => (k.block i (Nat.lt_of_lt_of_le hi h.size) (fun x => hn (m2 i hi x))).trans (h.block i hi (fun x => hn (m1 i hi x)))⟩
theorem Rest.mono {o1 o2 : Nat → Prop} {a b : World} (h : Rest o1 a b) (m : ∀ i, i < a.heap.size → o1 i → o2 i) : Rest o2 a b :=
  ⟨h.os, h.tape, h.output, h.size, fun i hi hn => h.block i hi (fun x => hn (m i hi x))⟩
theorem Rest.alloc (own : Nat → Prop) (w : World) (o : Obj) : Rest own w (w.alloc o) := ⟨rfl, rfl, rfl, by simp, fun k hk _ => Below.heap_alloc _ _ _ hk⟩
theorem Rest.drew (own : Nat → Prop) (w : World) : Rest own w w.drew := ⟨rfl, rfl, rfl, Nat.le_refl _, fun _ _ _ => rfl⟩
theorem Rest.setCell {own : Nat → Prop} (w : World) (p : Addr) (u : Value) (h : own p.block) : Rest own w (w.setCell p u) :=
  ⟨rfl, rfl, rfl, by simp [World.setCell], fun k _ hn => Below.heap_setCell _ _ _ _ (fun e => hn (e ▸ h))⟩
theorem Rest.grown {own : Nat → Prop} {w w' : World} {row : Option Nat} (hg : w.grownBy w' row) (h : ∀ k, row = some k → own k) : Rest own w w' :=
  ⟨hg.os, hg.tape, hg.output, hg.size, fun k hk hn => hg.block k hk (fun e => hn (h k e.symm))⟩
theorem Rest.below {own : Nat → Prop} {w w' : World} (h : Rest own w w') {B : Nat} (hB : B ≤ w.heap.size) (m : ∀ k, own k → B ≤ k) : Below B w w' :=
  ⟨h.os, h.tape, h.output, h.size, fun k hk => h.block k (by omega) (fun x => by have := m k x; omega)⟩
theorem Rest.of_below {w w' : World} {own : Nat → Prop} (h : Below w.heap.size w w') : Rest own w w' := ⟨h.os, h.tape, h.output, h.size, fun k hk _ => h.block k hk⟩

/-- A row is as it was, where nothing of it was named. -/
theorem Row.rest {own : Nat → Prop} {w w' : World} {B : Nat} {t : TypeId} {v : Value} {xs : List Value} (h : Row w B t v xs) (hr : Rest own w w') (hd : ∀ k, v.ownBlock = some k → ¬ own k) : Row w' B t v xs :=
  h.kept fun k hk => hr.block k (h.lt hk).2 (hd k hk)
theorem Line.rest {own : Nat → Prop} {w w' : World} {B : Nat} {t : TypeId} {v : Value} {xs : List Value} (h : Line w B t v xs) (hr : Rest own w w') (hd : ∀ k, v.ownBlock = some k → ¬ own k) : Line w' B t v xs :=
  h.kept fun k hk => hr.block k (h.lt hk).2 (hd k hk)

/-- Different numbers below n are no more than n. -/
theorem few {n : Nat} : ∀ {l : List Nat}, l.Nodup → (∀ i, i ∈ l → i < n) → l.length ≤ n := by
  induction n with
  | zero =>
    intro l _ h
    match l with
    | [] => simp
    | x :: l => exact absurd (h x (by simp)) (Nat.not_lt_zero _)
  | succ n ih =>
    intro l hl h
    have h1 := ih (l := l.erase n) (hl.erase n) (fun i hi => by
      have hm := (List.Nodup.mem_erase_iff hl).1 hi
      have := h i hm.2
      have := hm.1
      omega)
    have h2 : (l.erase n).length = if n ∈ l then l.length - 1 else l.length := by rw [List.length_erase]
    split at h2 <;> omega

theorem markCells_at (n : Nat) (td : List Nat) (i : Nat) (h : i < n) : (markCells n td)[i]? = some (.bool (td.contains i)) := by
  simp [markCells, h]
theorem markCells_set (n : Nat) (td : List Nat) (i : Nat) : (markCells n td).setIfInBounds i (.bool true) = markCells n (td ++ [i]) := by
  unfold markCells
  rw [List.setIfInBounds_toArray]
  congr 1
  apply List.ext_getElem?
  intro j
  rw [List.getElem?_set]
  by_cases hj : i = j
  · subst hj; by_cases hi : i < n <;> simp [hi]
  · rw [if_neg hj]
    by_cases hjn : j < n
    · simp [hjn, Ne.symm hj]
    · simp [hjn]
theorem markCells_clear (n : Nat) (i : Nat) (td : List Nat) (h : i ∉ td) : (markCells n (i :: td)).setIfInBounds i (.bool false) = markCells n td := by
  unfold markCells
  rw [List.setIfInBounds_toArray]
  congr 1
  apply List.ext_getElem?
  intro j
  rw [List.getElem?_set]
  by_cases hj : i = j
  · subst hj; by_cases hi : i < n <;> simp [hi, h]
  · rw [if_neg hj]
    by_cases hjn : j < n
    · simp [hjn, Ne.symm hj]
    · simp [hjn]

theorem made_one (v : Value) (n : Nat) (h : v.cells = #[v]) : madeCells v.cells n = (List.replicate n v).toArray := by
  unfold madeCells
  rw [h]
  apply Array.ext
  · simp
  · intro i h1 h2
    simp [Nat.mod_one]

theorem retb {a b : Bool} (h : a = b) : Ending.returned (.bool a) = .returned (.bool b) := by rw [h]
theorem reti {k : IntKind} {a b : Int} (h : a = b) : Ending.returned (.int k a) = .returned (.int k b) := by rw [h]

theorem numCells_append (l m : List Nat) : numCells (l ++ m) = numCells l ++ numCells m := by simp [numCells]
theorem numCells_length (l : List Nat) : (numCells l).length = l.length := by simp [numCells]
theorem numCells_at (l : List Nat) (j : Nat) (h : j < l.length) : (numCells l)[j]? = some (.int .i64 ((l.getD j 0 : Nat) : Int)) := by simp [numCells, List.getD, h]
theorem numCells_one {l : List Nat} : ∀ u ∈ numCells l, u.oneCell' = true := by
  intro u hu; simp only [numCells, List.mem_map] at hu; obtain ⟨x, _, rfl⟩ := hu; rfl

end Go.Proofs.Ytgboiejiodgcnaa

/- A row of items of several cells each behind a slice that may begin anywhere in its block: its head is taken off, its end grows. -/
namespace Go.Proofs.Ytgboiejiodgcnaa
open Go.RowKit

/-- n items of k cells each lie behind the slice ⟨g, off⟩, in a block from B on. -/
structure RowK (w : World) (B : Nat) (t : TypeId) (k g off n cap : Nat) (xs : List Value) : Prop where
  len : xs.length = n * k
  from_ : B ≤ g
  room : n ≤ cap
  most : cap ≤ maxLen
  block : ∃ cur, w.heap[g]? = some (.cells cur t (0, 0)) ∧ off + cap * k ≤ cur.size ∧ ∀ j u, xs[j]? = some u → cur[off + j]? = some u

namespace RowK
theorem lt {w : World} {B k g off n cap : Nat} {t : TypeId} {xs : List Value} (h : RowK w B t k g off n cap xs) : g < w.heap.size := by
  obtain ⟨cur, hg, _⟩ := h.block
  exact lt_of_block hg
theorem kept {w w' : World} {B k g off n cap : Nat} {t : TypeId} {xs : List Value} (h : RowK w B t k g off n cap xs) (hb : w'.heap[g]? = w.heap[g]?) : RowK w' B t k g off n cap xs := by
  obtain ⟨cur, hg, r⟩ := h.block
  exact { h with block := ⟨cur, hb.trans hg, r⟩ }
theorem lower {w : World} {B B' k g off n cap : Nat} {t : TypeId} {xs : List Value} (h : RowK w B t k g off n cap xs) (hB : B' ≤ B) : RowK w B' t k g off n cap xs := { h with from_ := Nat.le_trans hB h.from_ }
theorem cell {w : World} {B k g off n cap : Nat} {t : TypeId} {xs : List Value} (h : RowK w B t k g off n cap xs) {j : Nat} {u : Value} (hj : xs[j]? = some u) : w.cell? ⟨g, off + j, none⟩ = some u := by
  obtain ⟨cur, hg, _, hc⟩ := h.block
  exact cell_of_row _ _ _ _ _ _ hg |>.trans (hc j u hj)
/-- An empty one. -/
theorem nil (w : World) (B k : Nat) (t : TypeId) (hB : B ≤ w.heap.size) : RowK (w.alloc (.cells #[] t)) B t k w.heap.size 0 0 0 [] :=
  ⟨by simp, hB, Nat.le_refl _, Nat.zero_le _, #[], heap_alloc_new _ _, by simp, fun j u hj => by simp at hj⟩
/-- Its head is taken off. -/
theorem tail {w : World} {B k g off n cap : Nat} {t : TypeId} {xs : List Value} (h : RowK w B t k g off (n + 1) cap xs) :
    ∃ off', sliced (some ⟨g, off, none⟩) 1 (n + 1) cap k = .slice (some ⟨g, off', none⟩) n (cap - 1) ∧ RowK w B t k g off' n (cap - 1) (xs.drop k) := by
  obtain ⟨cur, hg, hs, hc⟩ := h.block
  have hr := h.room
  have hl := h.len
  rw [Nat.succ_mul] at hl
  by_cases e : cap = 1
  · obtain rfl : n = 0 := by omega
    exact ⟨off, by simp [sliced, e], by simp [hl], h.from_, Nat.zero_le _, by have := h.most; omega, cur, hg, by rw [e] at hs ⊢; simp; omega, fun j u hj => by
      rw [List.getElem?_drop] at hj
      have := (List.getElem?_eq_some_iff.1 hj).1
      omega⟩
  · refine ⟨off + k, by simp [sliced, e, Addr.add], by simp [hl], h.from_, by omega, by have := h.most; omega, cur, hg, ?_, fun j u hj => ?_⟩
    · obtain ⟨c, rfl⟩ : ∃ c, cap = c + 1 := ⟨cap - 1, by omega⟩
      rw [Nat.succ_mul] at hs
      simp only [Nat.add_sub_cancel]
      omega
    · rw [List.getElem?_drop] at hj
      rw [Nat.add_assoc]
      exact hc _ _ hj
theorem owned {w : World} {B k n : Nat} {t : TypeId} {v : Value} {xs : List Value} (h : w.ownsRow B t k v n xs) (hn : 0 < n) : ∃ g cap, v = .slice (some ⟨g, 0, none⟩) n cap ∧ RowK w B t k g 0 n cap xs := by
  obtain ⟨h1, h2⟩ := h
  rcases h2 with ⟨_, e⟩ | ⟨g, cap, cur, rfl, hb, hg, hnc, hcm, hcs, htake⟩
  · omega
  · refine ⟨g, cap, rfl, h1, hb, hnc, hcm, cur, hg, by rw [hcs]; omega, fun j u hj => ?_⟩
    have hk : (cur.toList.take (n * k))[j]? = some u := by rw [htake]; exact hj
    rw [List.getElem?_take] at hk
    split at hk
    · simpa using hk
    · cases hk
end RowK

/-- Its end grows, where it lay or in a new block. -/
theorem wpList_append_rowK {P : Program} (w : World) {ops : Array Oper} {rest : List Oper} {o : Oper} {a : Act} {Q : Exit → Act → World → Prop} (hgd : o.guard = none) (s x : Operand) (t : TypeId)
    (ho : o.op = .call { callee := .builtin .append, args := #[s, x], argTypes := #[t, t] })
    (B k : Nat) (e : TypeId) (i : TypeInfo) (z : Value) (bytes : Nat) (ht : P.underlying t = some (.slice e)) (hi : P.info? e = some i) (hz : i.zero = some z)
    (hsize : i.size = k) (hby : i.bytes = bytes) (hzs : z.cells.size = k) (hk : 0 < k)
    (g off n cap : Nat) (xs : List Value) (hs : a.eval s = .slice (some ⟨g, off, none⟩) n cap) (hl : RowK w B e k g off n cap xs)
    (ad : Addr) (m c : Nat) (news : List Value) (hx : a.eval x = .slice (some ad) m c) (hn : news.length = m * k) (_hm : 0 < m) (hnews : ∀ j u, news[j]? = some u → w.cell? (ad.add j) = some u) (h1 : ∀ u ∈ news, u.oneCell' = true)
    (h63 : n + m ≤ maxLen) (hbytes : (n + m) * bytes ≤ 140737488355328) (hB : B ≤ w.heap.size)
    (h : ∀ g' off' cap' w', RowK w' B e k g' off' (n + m) cap' (xs ++ news) → w.grownBy w' (some g) → (g' = g ∨ w.heap.size ≤ g') → wpList P ops Q rest (a.put o.dst (.slice (some ⟨g', off', none⟩) (n + m) cap')) w') :
    wpList P ops Q (o :: rest) a w := by
  obtain ⟨cur, hg, hcs, hc⟩ := hl.block
  have hll := hl.len
  refine wpList_append_arg w hgd s x t ho e i z k bytes ht hi hz hsize hby hzs hk g off n cap xs hs hll (fun j u hj => by rw [cell_of_row _ _ _ _ _ _ hg]; exact hc j u hj)
    ad m c news hx hn hnews h1 (fun hr j hj => ?_) h63 hbytes (fun hr => ?_) (fun hr v' w' hown hgr => ?_)
  · refine ⟨?_, frozen_of_row _ _ _ _ _ hg⟩
    rw [cell_of_row _ _ _ _ _ _ hg]
    have : (n + m) * k ≤ cap * k := Nat.mul_le_mul_right k hr
    rw [Nat.add_mul] at this
    simp
    omega
  · obtain ⟨cur', k1, k2, k3, k4⟩ := heap_setCells g (t := e) news (off + n * k) w cur hg
    have hmk : (n + m) * k ≤ cap * k := Nat.mul_le_mul_right k hr
    rw [Nat.add_mul] at hmk
    refine h _ _ _ _ ⟨by rw [List.length_append, hll, hn, Nat.add_mul], hl.from_, hr, hl.most, cur', k1, by omega, fun j u hj => ?_⟩ (grown_setCells g news _ w) (.inl rfl)
    rcases Nat.lt_or_ge j xs.length with hlt | hge
    · rw [List.getElem?_append_left hlt] at hj
      rw [k3 _ (by omega)]
      exact hc j u hj
    · rw [List.getElem?_append_right hge] at hj
      have hjn := (List.getElem?_eq_some_iff.1 hj).1
      have := k4 (j - xs.length) u hj (by omega)
      rw [show off + j = off + n * k + (j - xs.length) by omega]
      exact this
  · obtain ⟨g', cap', rfl, hrow⟩ := RowK.owned hown (by omega)
    exact h _ _ _ _ (hrow.lower hB) (grownBy_any hgr) (.inr hrow.from_)

end Go.Proofs.Ytgboiejiodgcnaa

/- A heap of entries by a time and a number, as plain lists: what goes up, what goes down, and that the root is the least. -/
namespace Go.Proofs.Ytgboiejiodgcnaa

/-- An entry: an alarm's five numbers, and its own. -/
structure En where
  t : Int
  c : Int
  s : Int
  g : Int
  x : Int
  n : Int
deriving Inhabited

namespace En
/-- The one comes ahead of the other. -/
def lt (a b : En) : Bool := decide (a.t < b.t ∨ (a.t = b.t ∧ a.n < b.n))
theorem lt_iff {a b : En} : lt a b = true ↔ (a.t < b.t ∨ (a.t = b.t ∧ a.n < b.n)) := by simp [lt]
theorem not_lt {a b : En} : lt a b = false ↔ ¬ (a.t < b.t ∨ (a.t = b.t ∧ a.n < b.n)) := by simp [lt]
theorem lt_irrefl (a : En) : lt a a = false := by rw [not_lt]; omega
theorem le_trans {a b c : En} (h : lt b a = false) (k : lt c b = false) : lt c a = false := by rw [not_lt] at *; omega
theorem lt_trans {a b c : En} (h : lt a b = true) (k : lt b c = true) : lt a c = true := by rw [lt_iff] at *; omega
theorem lt_le {a b : En} (h : lt a b = true) : lt b a = false := by rw [not_lt]; rw [lt_iff] at h; omega
end En

namespace Hp
/-- The i-th. -/
def e (q : List En) (i : Nat) : En := q.getD i default
/-- Two change their places. -/
def sw (q : List En) (i j : Nat) : List En := (q.set i (e q j)).set j (e q i)
/-- Of so many none comes ahead of the one above it. -/
def Heap (q : List En) (n : Nat) : Prop := ∀ k, 0 < k → k < n → En.lt (e q k) (e q ((k - 1) / 2)) = false

theorem e_in {q : List En} {i : Nat} (h : i < q.length) : e q i = q[i] := by simp [e, List.getD, h]
theorem e_get? {q : List En} {i : Nat} (h : i < q.length) : q[i]? = some (e q i) := by rw [e_in h]; simp [h]
theorem sw_length (q : List En) (i j : Nat) : (sw q i j).length = q.length := by simp [sw]
theorem e_sw {q : List En} {i j : Nat} (hi : i < q.length) (hj : j < q.length) (k : Nat) : e (sw q i j) k = if k = j then e q i else if k = i then e q j else e q k := by
  unfold sw
  simp only [e, List.getD, List.getElem?_set, List.length_set]
  by_cases h1 : j = k
  · subst h1; simp [hj]
  · rw [if_neg h1, if_neg (Ne.symm h1)]
    by_cases h2 : i = k
    · subst h2; simp [hi]
    · simp [h2, Ne.symm h2]
theorem e_append_left {q : List En} {a : En} {k : Nat} (h : k < q.length) : e (q ++ [a]) k = e q k := by simp [e, List.getD, List.getElem?_append_left h]
theorem e_append_last (q : List En) (a : En) : e (q ++ [a]) q.length = a := by simp [e, List.getD]
theorem e_take {q : List En} {n k : Nat} (h : k < n) : e (q.take n) k = e q k := by simp [e, List.getD, h]
theorem sw_perm {q : List En} {i j : Nat} (hi : i < q.length) (hj : j < q.length) : (sw q i j).Perm q := by
  unfold sw
  rw [e_in hi, e_in hj]
  exact List.set_set_perm hi hj

theorem Heap.take {q : List En} {n : Nat} (h : Heap q n) : Heap (q.take n) n := fun k h0 hk => by rw [e_take hk, e_take (by omega)]; exact h k h0 hk
theorem Heap.less {q : List En} {n m : Nat} (h : Heap q n) (hm : m ≤ n) : Heap q m := fun k h0 hk => h k h0 (by omega)
theorem heap_nil : Heap [] 0 := fun _ _ h => absurd h (Nat.not_lt_zero _)

/-- The root is the least. -/
theorem Heap.root {q : List En} {n : Nat} (h : Heap q n) : ∀ k, k < n → En.lt (e q k) (e q 0) = false := by
  intro k
  induction k using Nat.strongRecOn with
  | _ k ih =>
    intro hk
    by_cases h0 : k = 0
    · subst h0; exact En.lt_irrefl _
    · exact En.le_trans (ih ((k - 1) / 2) (by omega) (by omega)) (h k (by omega) hk)

/-- One goes up: it stands at j, all others as they must. -/
structure Up (q0 q : List En) (j : Nat) : Prop where
  perm : q.Perm q0
  lt : j < q.length
  rest : ∀ k, 0 < k → k < q.length → k ≠ j → En.lt (e q k) (e q ((k - 1) / 2)) = false
  kids : ∀ k, 0 < k → k < q.length → (k - 1) / 2 = j → 0 < j → En.lt (e q k) (e q ((j - 1) / 2)) = false

theorem Up.start {q : List En} {a : En} (h : Heap q q.length) : Up (q ++ [a]) (q ++ [a]) q.length :=
  ⟨List.Perm.refl _, by simp, fun k h0 hk hj => by
    have hl : k < q.length := by simp at hk; omega
    rw [e_append_left hl, e_append_left (by omega)]
    exact h k h0 hl, fun k h0 hk hj => by simp at hk; omega⟩
theorem Up.length {q0 q : List En} {j : Nat} (h : Up q0 q j) : q.length = q0.length := h.perm.length_eq
theorem Up.stop {q0 q : List En} {j : Nat} (h : Up q0 q j) (hs : j = 0 ∨ En.lt (e q j) (e q ((j - 1) / 2)) = false) : Heap q q.length := fun k h0 hk => by
  by_cases hj : k = j
  · subst hj
    rcases hs with hs | hs
    · omega
    · exact hs
  · exact h.rest k h0 hk hj
theorem Up.step {q0 q : List En} {j : Nat} (h : Up q0 q j) (h0 : 0 < j) (hs : En.lt (e q j) (e q ((j - 1) / 2)) = true) : Up q0 (sw q ((j - 1) / 2) j) ((j - 1) / 2) := by
  have hl := h.lt
  have hp : (j - 1) / 2 < q.length := by omega
  have hne : (j - 1) / 2 ≠ j := by omega
  refine ⟨(sw_perm hp hl).trans h.perm, by rw [sw_length]; exact hp, fun k k0 hk hkj => ?_, fun k k0 hk hkj hj0 => ?_⟩
  · rw [sw_length] at hk
    rw [e_sw hp hl, e_sw hp hl]
    by_cases c1 : k = j
    · subst c1
      rw [if_pos rfl, if_neg hne, if_pos rfl]
      exact En.lt_le hs
    · rw [if_neg c1, if_neg hkj]
      by_cases c2 : (k - 1) / 2 = j
      · rw [if_pos c2]
        exact h.kids k k0 hk c2 h0
      · rw [if_neg c2]
        by_cases c3 : (k - 1) / 2 = (j - 1) / 2
        · rw [if_pos c3]
          have := h.rest k k0 hk c1
          rw [c3] at this
          exact En.le_trans (En.lt_le hs) this
        · rw [if_neg c3]
          exact h.rest k k0 hk c1
  · rw [sw_length] at hk
    have r := h.rest ((j - 1) / 2) hj0 hp hne
    rw [e_sw hp hl, e_sw hp hl, if_neg (show ¬ ((j - 1) / 2 - 1) / 2 = j by omega), if_neg (show ¬ ((j - 1) / 2 - 1) / 2 = (j - 1) / 2 by omega)]
    by_cases c1 : k = j
    · subst c1
      rw [if_pos rfl]
      exact r
    · rw [if_neg c1, if_neg (by omega)]
      have := h.rest k k0 hk c1
      rw [hkj] at this
      exact En.le_trans r this

/-- One goes down among the first n: it stands at i, all others as they must. -/
structure Down (q0 q : List En) (n i : Nat) : Prop where
  perm : q.Perm q0
  most : n ≤ q.length
  far : ∀ k, n ≤ k → e q k = e q0 k
  rest : ∀ k, 0 < k → k < n → (k - 1) / 2 ≠ i → En.lt (e q k) (e q ((k - 1) / 2)) = false
  kids : ∀ k, 0 < k → k < n → (k - 1) / 2 = i → 0 < i → En.lt (e q k) (e q ((i - 1) / 2)) = false

theorem Down.length {q0 q : List En} {n i : Nat} (h : Down q0 q n i) : q.length = q0.length := h.perm.length_eq
/-- The child that comes first. -/
def kid (q : List En) (n i : Nat) : Nat := if 2 * i + 2 < n ∧ En.lt (e q (2 * i + 2)) (e q (2 * i + 1)) = true then 2 * i + 2 else 2 * i + 1
theorem kid_lt {q : List En} {n i : Nat} (h : 2 * i + 1 < n) : kid q n i < n ∧ 0 < kid q n i ∧ (kid q n i - 1) / 2 = i := by
  unfold kid; split <;> omega
theorem kid_le {q : List En} {n i k : Nat} (hk : k < n) (h0 : 0 < k) (hp : (k - 1) / 2 = i) : En.lt (e q k) (e q (kid q n i)) = false := by
  have : k = 2 * i + 1 ∨ k = 2 * i + 2 := by omega
  unfold kid
  by_cases h : 2 * i + 2 < n ∧ En.lt (e q (2 * i + 2)) (e q (2 * i + 1)) = true
  · rw [if_pos h]
    rcases this with rfl | rfl
    · exact En.lt_le h.2
    · exact En.lt_irrefl _
  · rw [if_neg h]
    rcases this with rfl | rfl
    · exact En.lt_irrefl _
    · by_cases hl : En.lt (e q (2 * i + 2)) (e q (2 * i + 1)) = true
      · exact absurd ⟨hk, hl⟩ h
      · simpa using hl
theorem Down.stop {q0 q : List En} {n i : Nat} (h : Down q0 q n i) (hs : n ≤ 2 * i + 1 ∨ En.lt (e q (kid q n i)) (e q i) = false) : Heap q n := fun k k0 hk => by
  by_cases hp : (k - 1) / 2 = i
  · rcases hs with hs | hs
    · omega
    · rw [hp]
      exact En.le_trans hs (kid_le hk k0 hp)
  · exact h.rest k k0 hk hp
theorem Down.step {q0 q : List En} {n i : Nat} (h : Down q0 q n i) (hn : 2 * i + 1 < n) (hs : En.lt (e q (kid q n i)) (e q i) = true) : Down q0 (sw q i (kid q n i)) n (kid q n i) := by
  obtain ⟨k1, k2, k3⟩ := kid_lt (q := q) hn
  have hkl : ∀ k, k < n → 0 < k → (k - 1) / 2 = i → En.lt (e q k) (e q (kid q n i)) = false := fun k => kid_le
  have hm := h.most
  generalize kid q n i = j at *
  have hi : i < q.length := by omega
  have hj : j < q.length := by omega
  have hij : i ≠ j := by omega
  refine ⟨(sw_perm hi hj).trans h.perm, by rw [sw_length]; exact hm, fun k hk => ?_, fun k k0 hk hp => ?_, fun k k0 hk hp j0 => ?_⟩
  · rw [e_sw hi hj, if_neg (by omega), if_neg (by omega)]
    exact h.far k hk
  · rw [e_sw hi hj, e_sw hi hj, if_neg hp]
    by_cases c1 : k = j
    · subst c1
      rw [if_pos rfl, if_pos k3]
      exact En.lt_le hs
    · rw [if_neg c1]
      by_cases c2 : k = i
      · subst c2
        rw [if_pos rfl, if_neg (by omega)]
        exact h.kids j k2 k1 k3 k0
      · rw [if_neg c2]
        by_cases c3 : (k - 1) / 2 = i
        · rw [if_pos c3]
          exact hkl k hk k0 c3
        · rw [if_neg c3]
          exact h.rest k k0 hk c3
  · have r := h.rest k k0 hk (by omega)
    rw [hp] at r
    rw [e_sw hi hj, e_sw hi hj, if_neg (by omega), if_neg (by omega), k3, if_neg hij, if_pos rfl]
    exact r

/-- The root goes to the end, what stood there goes down from the root. -/
theorem Down.start {q : List En} {n : Nat} (hl : q.length = n + 1) (h : Heap q q.length) : Down (sw q 0 n) (sw q 0 n) n 0 := by
  have h0 : 0 < q.length := by omega
  have hn : n < q.length := by omega
  refine ⟨List.Perm.refl _, by rw [sw_length]; omega, fun _ _ => rfl, fun k k0 hk hp => ?_, fun k k0 hk hp i0 => by omega⟩
  rw [e_sw h0 hn, e_sw h0 hn, if_neg (by omega), if_neg (by omega), if_neg (by omega), if_neg hp]
  exact h k k0 (by omega)

theorem split_last {q : List En} {n : Nat} (h : q.length = n + 1) : q = q.take n ++ [e q n] := by
  rw [e_in (by omega)]
  have := List.take_append_getElem (l := q) (i := n) (by omega)
  rw [this, List.take_of_length_le (by omega)]

/-- What is left when the root was taken. -/
theorem popped {q q1 : List En} {n : Nat} (hl : q.length = n + 1) {i : Nat} (h : Down (sw q 0 n) q1 n i) : q1.length = n + 1 ∧ e q1 n = e q 0 ∧ q.Perm (e q 0 :: q1.take n) := by
  have h0 : 0 < q.length := by omega
  have hn : n < q.length := by omega
  have l1 : q1.length = n + 1 := by rw [h.length, sw_length]; exact hl
  have e1 : e q1 n = e q 0 := by rw [h.far n (Nat.le_refl _), e_sw h0 hn, if_pos rfl]
  refine ⟨l1, e1, ?_⟩
  have p := h.perm.trans (sw_perm h0 hn)
  have sp := split_last l1
  rw [e1] at sp
  rw [sp] at p
  exact (p.symm.trans List.perm_append_comm)
end Hp
end Go.Proofs.Ytgboiejiodgcnaa

/- Rows of entries in memory (an alarm's five numbers, and one more); append by its run; what stays behind draws and new blocks. -/
namespace Go.Proofs.Ytgboiejiodgcnaa
open Go.RowKit Go.Sort

namespace Hp
/-- An entry's cells. -/
def enc (a : En) : List Value := [.int .i64 a.t, .int .i64 a.c, .int .i64 a.s, .int .i64 a.g, .int .i64 a.x, .int .i64 a.n]
/-- .. and its alarm's. -/
def alarm (a : En) : List Value := [.int .i64 a.t, .int .i64 a.c, .int .i64 a.s, .int .i64 a.g, .int .i64 a.x]
end Hp

/-- Six cells of a block. -/
theorem six_cells {w : World} {B : Nat} {t : TypeId} {c0 c1 c2 c3 c4 c5 : Value} (h : w.heap[B]? = some (.cells #[c0, c1, c2, c3, c4, c5] t (0, 0))) :
    w.cell? ⟨B, 0, none⟩ = some c0 ∧ w.cell? ⟨B, 1, none⟩ = some c1 ∧ w.cell? ⟨B, 2, none⟩ = some c2 ∧ w.cell? ⟨B, 3, none⟩ = some c3 ∧ w.cell? ⟨B, 4, none⟩ = some c4 ∧ w.cell? ⟨B, 5, none⟩ = some c5 :=
  ⟨cell_of_row _ _ _ _ _ _ h, cell_of_row _ _ _ _ _ _ h, cell_of_row _ _ _ _ _ _ h, cell_of_row _ _ _ _ _ _ h, cell_of_row _ _ _ _ _ _ h, cell_of_row _ _ _ _ _ _ h⟩
theorem cell_old {w : World} {b o : Nat} {v : Value} (h : w.cell? ⟨b, o, none⟩ = some v) : b < w.heap.size := by
  by_cases hb : b < w.heap.size
  · exact hb
  · have : w.heap[b]? = none := Array.getElem?_eq_none (by omega)
    simp [World.cell?, this] at h
theorem Rest.drewN (own : Nat → Prop) (w : World) (n : Nat) : Rest own w (w.drewN n) := ⟨rfl, rfl, rfl, Nat.le_refl _, fun _ _ _ => rfl⟩
theorem cells_some {W : World} {g k : Nat} {t : TypeId} {cur : Array Value} (hg : W.heap[g]? = some (.cells cur t (0, 0))) (hk : k < cur.size) : ∃ v, W.cell? ⟨g, k, none⟩ = some v := ⟨cur[k], (cell_of_row _ _ _ _ _ _ hg).trans (Array.getElem?_eq_getElem hk)⟩
/-- The cells of entries, one behind the other. -/
def flat : List En → List Value
  | [] => []
  | a :: r => .int .i64 a.t :: .int .i64 a.c :: .int .i64 a.s :: .int .i64 a.g :: .int .i64 a.x :: .int .i64 a.n :: flat r
theorem flat_length : ∀ q : List En, (flat q).length = q.length * 6
  | [] => rfl
  | a :: r => by simp [flat, flat_length r]; omega
theorem flat_append (a : En) : ∀ q : List En, flat (q ++ [a]) = flat q ++ Hp.enc a
  | [] => rfl
  | b :: r => by simp [flat, flat_append a r]
theorem flat_at : ∀ (q : List En) (i c : Nat), i < q.length → c < 6 → (flat q)[i * 6 + c]? = (Hp.enc (Hp.e q i))[c]?
  | [], i, c, h, _ => absurd h (Nat.not_lt_zero _)
  | a :: r, 0, c, _, hc => by
    match c, hc with
    | 0, _ => rfl
    | 1, _ => rfl
    | 2, _ => rfl
    | 3, _ => rfl
    | 4, _ => rfl
    | 5, _ => rfl
  | a :: r, i + 1, c, h, hc => by
    have := flat_at r i c (by simpa using h) hc
    rw [show (i + 1) * 6 + c = i * 6 + c + 6 by omega]
    exact this
theorem enc_length (a : En) : (Hp.enc a).length = 6 := rfl
theorem enc_one (a : En) : ∀ u ∈ Hp.enc a, u.oneCell' = true := by
  intro u hu
  simp only [Hp.enc, List.mem_cons, List.not_mem_nil, or_false] at hu
  rcases hu with rfl | rfl | rfl | rfl | rfl | rfl <;> rfl
theorem flat_one : ∀ (q : List En), ∀ u ∈ flat q, u.oneCell' = true
  | [], u, h => by simp [flat] at h
  | a :: r, u, h => by
    simp only [flat, List.mem_cons] at h
    rcases h with rfl | rfl | rfl | rfl | rfl | rfl | h
    iterate 6 rfl
    exact flat_one r u h

/-- Stores one behind the other: what a block holds then. -/
theorem setCells_all (b : Nat) {t : TypeId} : ∀ (vs : List Value) (o : Nat) (w : World) (cur : Array Value), w.heap[b]? = some (.cells cur t (0, 0)) → o + vs.length ≤ cur.size →
    ∃ cur', (w.setCells b o vs).heap[b]? = some (.cells cur' t (0, 0)) ∧ cur'.size = cur.size ∧ ∀ k, cur'[k]? = if o ≤ k ∧ k < o + vs.length then vs[k - o]? else cur[k]?
  | [], o, _, cur, h, _ => ⟨cur, h, rfl, fun k => by rw [if_neg (by simp only [List.length_nil]; omega)]⟩
  | v :: r, o, w, cur, h, hs => by
    simp only [List.length_cons] at hs
    obtain ⟨cur', h1, h2, h3⟩ := setCells_all b r (o + 1) (w.setCell ⟨b, o, none⟩ v) (cur.setIfInBounds o v) (heap_setCell_same w b o _ _ _ h) (by simp; omega)
    refine ⟨cur', h1, by simpa using h2, fun k => ?_⟩
    rw [h3 k]
    by_cases c1 : o + 1 ≤ k ∧ k < o + 1 + r.length
    · rw [if_pos c1, if_pos (by simp only [List.length_cons]; omega)]
      obtain ⟨m, rfl⟩ : ∃ m, k = o + 1 + m := ⟨k - (o + 1), by omega⟩
      rw [show o + 1 + m - (o + 1) = m by omega, show o + 1 + m - o = m + 1 by omega]
      rfl
    · rw [if_neg c1]
      by_cases c2 : k = o
      · subst c2
        rw [if_pos (by simp only [List.length_cons]; omega), Array.getElem?_setIfInBounds_self_of_lt (by omega)]
        simp
      · rw [if_neg (by simp only [List.length_cons]; omega), Array.getElem?_setIfInBounds_ne (by omega)]

theorem Rest.grow (own : Nat → Prop) (w : World) (m : Nat) (os : Array Obj) : Rest own w (Go.Sort.grow (w.drewN m) os) :=
  ⟨rfl, rfl, rfl, by simp [Go.Sort.grow, World.drewN], fun k hk _ => by simp only [Go.Sort.grow, World.drewN]; rw [Array.getElem?_append_left hk]⟩

/-- Two entries have changed their places. -/
theorem RowK.swapped {w : World} {B g off cap : Nat} {t : TypeId} {q : List En} (h : RowK w B t 6 g off q.length cap (flat q)) {i j : Nat} (hi : i < q.length) (hj : j < q.length) :
    RowK ((w.setCells g (off + i * 6) (Hp.enc (Hp.e q j))).setCells g (off + j * 6) (Hp.enc (Hp.e q i))) B t 6 g off (Hp.sw q i j).length cap (flat (Hp.sw q i j)) := by
  obtain ⟨cur, hg, hs, hc⟩ := h.block
  have hr := h.room
  obtain ⟨c1, k1, k2, k3⟩ := setCells_all g (t := t) (Hp.enc (Hp.e q j)) (off + i * 6) w cur hg (by rw [enc_length]; omega)
  obtain ⟨c2, m1, m2, m3⟩ := setCells_all g (t := t) (Hp.enc (Hp.e q i)) (off + j * 6) _ c1 k1 (by rw [enc_length]; omega)
  rw [Hp.sw_length]
  refine ⟨by rw [flat_length, Hp.sw_length], h.from_, h.room, h.most, c2, m1, by omega, fun x u hx => ?_⟩
  have hxl := (List.getElem?_eq_some_iff.1 hx).1
  rw [flat_length, Hp.sw_length] at hxl
  obtain ⟨k, c, hk, hcl, rfl⟩ : ∃ k c, k < q.length ∧ c < 6 ∧ x = k * 6 + c := ⟨x / 6, x % 6, by omega, by omega, by omega⟩
  rw [flat_at _ _ _ (by rw [Hp.sw_length]; exact hk) hcl, Hp.e_sw hi hj] at hx
  rw [m3, k3]
  by_cases e1 : k = j
  · subst e1
    rw [if_pos rfl] at hx
    rw [enc_length, if_pos (by omega), show off + (k * 6 + c) - (off + k * 6) = c by omega]
    exact hx
  · rw [if_neg e1] at hx
    rw [enc_length, if_neg (by omega)]
    by_cases e2 : k = i
    · subst e2
      rw [if_pos rfl] at hx
      rw [enc_length, if_pos (by omega), show off + (k * 6 + c) - (off + k * 6) = c by omega]
      exact hx
    · rw [if_neg e2] at hx
      rw [enc_length, if_neg (by omega)]
      exact hc _ _ (by rw [flat_at _ _ _ hk hcl]; exact hx)

theorem flat_take : ∀ (q : List En) (n : Nat), flat (q.take n) = (flat q).take (n * 6)
  | [], n => by simp [flat]
  | a :: r, 0 => by simp [flat]
  | a :: r, n + 1 => by
    rw [List.take_succ_cons, show (n + 1) * 6 = n * 6 + 1 + 1 + 1 + 1 + 1 + 1 by omega]
    simp only [flat, List.take_succ_cons, flat_take r n]
/-- The last one is left out. -/
theorem RowK.but {w : World} {B g off cap n : Nat} {t : TypeId} {q : List En} (h : RowK w B t 6 g off (n + 1) cap (flat q)) (hl : q.length = n + 1) : RowK w B t 6 g off n cap (flat (q.take n)) := by
  obtain ⟨cur, hg, hs, hc⟩ := h.block
  refine ⟨by rw [flat_length, List.length_take]; omega, h.from_, by have := h.room; omega, h.most, cur, hg, hs, fun j u hj => ?_⟩
  rw [flat_take, List.getElem?_take] at hj
  split at hj
  · exact hc j u hj
  · cases hj
/-- An entry's six cells. -/
theorem RowK.en {w : World} {B g off cap : Nat} {t : TypeId} {q : List En} (h : RowK w B t 6 g off q.length cap (flat q)) {i : Nat} (hi : i < q.length) :
    w.cell? ⟨g, off + i * 6, none⟩ = some (.int .i64 (Hp.e q i).t) ∧ w.cell? ⟨g, off + i * 6 + 1, none⟩ = some (.int .i64 (Hp.e q i).c) ∧ w.cell? ⟨g, off + i * 6 + 2, none⟩ = some (.int .i64 (Hp.e q i).s) ∧ w.cell? ⟨g, off + i * 6 + 3, none⟩ = some (.int .i64 (Hp.e q i).g) ∧ w.cell? ⟨g, off + i * 6 + 4, none⟩ = some (.int .i64 (Hp.e q i).x) ∧ w.cell? ⟨g, off + i * 6 + 5, none⟩ = some (.int .i64 (Hp.e q i).n) := by
  have hh := fun c (hc : c < 6) (u : Value) (hu : (Hp.enc (Hp.e q i))[c]? = some u) => h.cell (j := i * 6 + c) (u := u) (by rw [flat_at _ _ _ hi hc]; exact hu)
  refine ⟨?_, ?_, ?_, ?_, ?_, ?_⟩
  · have := hh 0 (by omega) _ rfl; simpa using this
  · have := hh 1 (by omega) _ rfl; rw [← Nat.add_assoc] at this; exact this
  · have := hh 2 (by omega) _ rfl; rw [← Nat.add_assoc] at this; exact this
  · have := hh 3 (by omega) _ rfl; rw [← Nat.add_assoc] at this; exact this
  · have := hh 4 (by omega) _ rfl; rw [← Nat.add_assoc] at this; exact this
  · have := hh 5 (by omega) _ rfl; rw [← Nat.add_assoc] at this; exact this

/-- append, run: its end grows, where it lay or in a new block. -/
theorem run_append_rowK {P : Program} (w : World) (t ty : TypeId) (B k : Nat) (e : TypeId) (i : TypeInfo) (z : Value) (bytes : Nat) (ht : P.underlying t = some (.slice e)) (hi : P.info? e = some i) (hz : i.zero = some z)
    (hsize : i.size = k) (hby : i.bytes = bytes) (hzs : z.cells.size = k) (hk : 0 < k)
    (g off n cap : Nat) (xs : List Value) (hl : RowK w B e k g off n cap xs)
    (ad : Addr) (m c : Nat) (news : List Value) (hn : news.length = m * k) (hnews : ∀ j u, news[j]? = some u → w.cell? (ad.add j) = some u) (h1 : ∀ u ∈ news, u.oneCell' = true)
    (h63 : n + m ≤ maxLen) (hbytes : (n + m) * bytes ≤ 140737488355328) (hB : B ≤ w.heap.size) :
    ∃ g' off' cap' w', (Builtin.append_ #[t, t] ty #[.slice (some ⟨g, off, none⟩) n cap, .slice (some ad) m c]).run P w = .ok (.slice (some ⟨g', off', none⟩) (n + m) cap') w' ∧ RowK w' B e k g' off' (n + m) cap' (xs ++ news) ∧ w.grownBy w' (some g) ∧ (g' = g ∨ w.heap.size ≤ g') := by
  obtain ⟨cur, hg, hcs, hc⟩ := hl.block
  have hll := hl.len
  by_cases hr : n + m ≤ cap
  · subst hsize
    have hmk : (n + m) * i.size ≤ cap * i.size := Nat.mul_le_mul_right i.size hr
    rw [Nat.add_mul] at hmk
    have hrun := run_append_room_cells (P := P) w t ty e i ht hi g off n cap ad m c news hn hnews h1 hr (fun j hj => by
      rw [cell_of_row _ _ _ _ _ _ hg, Array.getElem?_eq_getElem (by omega)]; rfl) (fun j hj => frozen_of_row _ _ _ _ _ hg)
    obtain ⟨cur', k1, k2, k3, k4⟩ := heap_setCells g (t := e) news (off + n * i.size) w cur hg
    refine ⟨_, _, _, _, hrun, ⟨by rw [List.length_append, hll, hn, Nat.add_mul], hl.from_, hr, hl.most, cur', k1, by omega, fun j u hj => ?_⟩, grown_setCells g news _ w, .inl rfl⟩
    rcases Nat.lt_or_ge j xs.length with hlt | hge
    · rw [List.getElem?_append_left hlt] at hj
      rw [k3 _ (by omega)]
      exact hc j u hj
    · rw [List.getElem?_append_right hge] at hj
      have hjn := (List.getElem?_eq_some_iff.1 hj).1
      have := k4 (j - xs.length) u hj (by omega)
      rw [show off + j = off + n * i.size + (j - xs.length) by omega]
      exact this
  · obtain ⟨v', w', hrun, r1, r2⟩ := run_append_arg_grows (P := P) w t ty e i z k bytes ht hi hz hsize hby hzs hk ⟨g, off, none⟩ n cap xs hll (fun j u hj => by rw [Addr.add_lit, cell_of_row _ _ _ _ _ _ hg]; exact hc j u hj) ad m c news hn hnews (by omega) h63 hbytes
    obtain ⟨g', cap', rfl, hrow⟩ := RowK.owned r1 (by omega)
    exact ⟨_, _, _, _, hrun, hrow.lower hB, grownBy_any r2, .inr hrow.from_⟩
/-- .. onto nil. -/
theorem run_append_nilK {P : Program} (w : World) (t ty : TypeId) (B k : Nat) (e : TypeId) (i : TypeInfo) (z : Value) (bytes : Nat) (ht : P.underlying t = some (.slice e)) (hi : P.info? e = some i) (hz : i.zero = some z)
    (hsize : i.size = k) (hby : i.bytes = bytes) (hzs : z.cells.size = k) (hk : 0 < k)
    (ad : Addr) (m c : Nat) (news : List Value) (hn : news.length = m * k) (hm : 0 < m) (hnews : ∀ j u, news[j]? = some u → w.cell? (ad.add j) = some u) (h1 : ∀ u ∈ news, u.oneCell' = true)
    (h63 : m ≤ maxLen) (hbytes : m * bytes ≤ 140737488355328) (hB : B ≤ w.heap.size) :
    ∃ g' off' cap' w', (Builtin.append_ #[t, t] ty #[.slice none 0 0, .slice (some ad) m c]).run P w = .ok (.slice (some ⟨g', off', none⟩) m cap') w' ∧ RowK w' B e k g' off' m cap' news ∧ w.grownBy w' none ∧ w.heap.size ≤ g' := by
  obtain ⟨v', w', hr, h2, h3, -, h5⟩ := run_append_own_at (P := P) w w.heap.size t ty e i z k bytes ht hi hz hsize hby hzs hk (.slice none 0 0) 0 [] ⟨by simp, .inl ⟨rfl, rfl⟩⟩ ad m c news hn hnews h1 (by rw [Nat.zero_add]; exact h63) (by rw [Nat.zero_add]; exact hbytes) (Nat.le_refl _)
  rw [Nat.zero_add] at h2
  obtain ⟨g', cap', rfl, hrow⟩ := RowK.owned h2 hm
  exact ⟨_, _, _, _, hr, hrow.lower hB, h3, hrow.from_⟩
/-- At a step of a drawn region: append by its run. -/
theorem step_append_run {P : Program} {w : World} {ops : Array Oper} {o : Oper} {a : Act} {K : Act → World → Prop} {Q : Exit → Act → World → Prop} {E : Prop} (hgd : o.guard = none) (s x : Operand) (t : TypeId)
    (ho : o.op = .call { callee := .builtin .append, args := #[s, x], argTypes := #[t, t] }) {v vx v' : Value} {w' : World} (hs : a.eval s = v) (hx : a.eval x = vx)
    (hr : (Builtin.append_ #[t, t] o.type #[v, vx]).run P w = .ok v' w') (h : K (a.put o.dst v') w') :
    if Region.wanted o (yielded ops a.tmps) = true then Oper.wp P o a w K Q else E := by
  have hw : Region.wanted o (yielded ops a.tmps) = true := by simp [Region.wanted, hgd]
  rw [if_pos hw]
  unfold Oper.wp execOp
  simp only [ho, resolve, invoke, builtin, Sem.run_bind, Sem.run_pure, Result.andThen_ok, List.map_toArray, List.map_cons, List.map_nil, hs, hx, hr]
  exact h

/-- append in a plain region, by its run. -/
theorem wpList_append_run {P : Program} {w : World} {ops : Array Oper} {rest : List Oper} {o : Oper} {a : Act} {Q : Exit → Act → World → Prop} (hgd : o.guard = none) (s x : Operand) (t : TypeId)
    (ho : o.op = .call { callee := .builtin .append, args := #[s, x], argTypes := #[t, t] }) {v vx v' : Value} {w' : World} (hs : a.eval s = v) (hx : a.eval x = vx)
    (hr : (Builtin.append_ #[t, t] o.type #[v, vx]).run P w = .ok v' w') (h : wpList P ops Q rest (a.put o.dst v') w') : wpList P ops Q (o :: rest) a w := by
  refine wpList_plain hgd fun K hK => ?_
  unfold Oper.wp execOp
  simp only [ho, resolve, invoke, builtin, Sem.run_bind, Sem.run_pure, Result.andThen_ok, List.map_toArray, List.map_cons, List.map_nil, hs, hx, hr]
  exact hK _ _ h
end Go.Proofs.Ytgboiejiodgcnaa
