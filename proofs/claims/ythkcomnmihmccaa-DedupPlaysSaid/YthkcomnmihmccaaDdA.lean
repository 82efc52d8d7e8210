/- A cache's calls in memory: what it knows of each, one behind the other; the contracts of of, at, find, Len, Value, Runs. -/
import Derived.Test.YthkcomnmihmccaaItmK
import Derived.Test.YthkcomnmihmccaaUpn
import Derived.Test.YthkcomnmihmccaaSkip
import Derived.RegionTactic
import Derived.BigRegion
import Derived.BigQuiet
import Derived.Deep.RegionWith
import Derived.Deep.DeepCutAuto
import Derived.Deep.LoopGhost
namespace Go.Proofs.Ythkcomnmihmccaa
open Go.RowKit Go.Sort

namespace Dd
/-- What is known of a call: its client's number and its own, which tries were met, how often it was begun, what became of it. -/
structure Cl where
  c : Int
  k : Int
  m : Nat → Bool
  r : Int
  d : Bool
  o : Bool
  v : Int
def Cl.cells (a : Cl) : List Value := [.int .i64 a.c, .int .u32 a.k, .bool (a.m 0), .bool (a.m 1), .bool (a.m 2), .bool (a.m 3), .bool (a.m 4), .bool (a.m 5), .bool (a.m 6), .bool (a.m 7), .bool (a.m 8), .bool (a.m 9), .bool (a.m 10), .bool (a.m 11), .bool (a.m 12), .bool (a.m 13), .bool (a.m 14), .bool (a.m 15), .int .i64 a.r, .bool a.d, .bool a.o, .int .u32 a.v]
/-- One more try was met. -/
def tick (m : Nat → Bool) (t i : Nat) : Bool := if i = t then true else m i
def Cl.tick (a : Cl) (t : Nat) : Cl := { a with m := Dd.tick a.m t }
def Cl.run (a : Cl) : Cl := { a with r := wrap64 (a.r + 1) }
/-- What became of it. -/
def Cl.done (a : Cl) (ok : Bool) (v : Int) : Cl := { a with d := true, o := ok, v := v }
/-- It is this one. -/
def Cl.is (a : Cl) (c k : Int) : Prop := a.c = c ∧ a.k = k
/-- One that is met for the first time. -/
def first (c k : Int) (t : Nat) : Cl := ⟨c, k, Dd.tick (fun _ => false) t, 1, false, false, 0⟩
def itm : Itm Cl 22 := ⟨Cl.cells, fun _ => rfl, fun a u hu => by
  simp only [Cl.cells, List.mem_cons, List.not_mem_nil, or_false] at hu
  rcases hu with rfl | rfl | rfl | rfl | rfl | rfl | rfl | rfl | rfl | rfl | rfl | rfl | rfl | rfl | rfl | rfl | rfl | rfl | rfl | rfl | rfl | rfl <;> rfl⟩
theorem cells_met (a : Cl) : ∀ t, t < 16 → a.cells[2 + t]? = some (.bool (a.m t)) := fun t h => by
  rcases (show t = 0 ∨ t = 1 ∨ t = 2 ∨ t = 3 ∨ t = 4 ∨ t = 5 ∨ t = 6 ∨ t = 7 ∨ t = 8 ∨ t = 9 ∨ t = 10 ∨ t = 11 ∨ t = 12 ∨ t = 13 ∨ t = 14 ∨ t = 15 by omega) with rfl | rfl | rfl | rfl | rfl | rfl | rfl | rfl | rfl | rfl | rfl | rfl | rfl | rfl | rfl | rfl <;> rfl
theorem cells_tick (a : Cl) {t : Nat} (h : t < 16) : (a.tick t).cells = a.cells.set (2 + t) (.bool true) := by
  rcases (show t = 0 ∨ t = 1 ∨ t = 2 ∨ t = 3 ∨ t = 4 ∨ t = 5 ∨ t = 6 ∨ t = 7 ∨ t = 8 ∨ t = 9 ∨ t = 10 ∨ t = 11 ∨ t = 12 ∨ t = 13 ∨ t = 14 ∨ t = 15 by omega) with rfl | rfl | rfl | rfl | rfl | rfl | rfl | rfl | rfl | rfl | rfl | rfl | rfl | rfl | rfl | rfl <;> rfl
/-- The i-th is the first one of this name. -/
structure At (q : List Cl) (c k : Int) (i : Nat) (x : Cl) : Prop where
  at_ : q[i]? = some x
  is : x.is c k
  first : ∀ (j : Nat) (y : Cl), j < i → q[j]? = some y → ¬y.is c k
/-- There is none of this name. -/
def Non (q : List Cl) (c k : Int) : Prop := ∀ (j : Nat) (y : Cl), q[j]? = some y → ¬y.is c k
/-- Where it is: its place, or -1. -/
def Res (q : List Cl) (c k : Int) (z : Int) : Prop := (∃ (i : Nat) (x : Cl), At q c k i x ∧ z = i) ∨ (Non q c k ∧ z = -1)
theorem Res.hit {q : List Cl} {c k z : Int} (h : Res q c k z) {i : Nat} {x : Cl} (hx : q[i]? = some x) (he : x.is c k) (hf : ∀ (j : Nat) (y : Cl), j < i → q[j]? = some y → ¬y.is c k) : (i : Int) = z := by
  rcases h with ⟨j, y, hj, rfl⟩ | ⟨hn, -⟩
  · rcases Nat.lt_trichotomy i j with e | e | e
    · exact absurd he (hj.first i x e hx)
    · rw [e]
    · exact absurd hj.is (hf j y e hj.at_)
  · exact absurd he (hn i x hx)
theorem Res.end_ {q : List Cl} {c k z : Int} (h : Res q c k z) (hf : ∀ (j : Nat) (y : Cl), j < q.length → q[j]? = some y → ¬y.is c k) : -1 = z := by
  rcases h with ⟨j, y, hj, rfl⟩ | ⟨-, rfl⟩
  · exact absurd hj.is (hf j y (List.getElem?_eq_some_iff.1 hj.at_).1 hj.at_)
  · rfl
theorem At.lt {q : List Cl} {c k : Int} {i : Nat} {x : Cl} (h : At q c k i x) : i < q.length := (List.getElem?_eq_some_iff.1 h.at_).1
end Dd

/-- A cache at P with a row of these calls at g. -/
structure Dq (w : World) (P : Nat) (n : Int) (q : List Dd.Cl) (g off cap : Nat) : Prop where
  ne : g ≠ P
  blk : w.heap[P]? = some (.cells #[.int .i64 n, .slice (some ⟨g, off, none⟩) q.length cap] 45 (0, 0))
  row : RowK w 0 51 22 g off q.length cap (Dd.itm.flat q)
/-- A cache at P: so much room, these calls; L: their row, where they have one. -/
def Dc (w : World) (P : Nat) (n : Int) (q : List Dd.Cl) (L : Option Nat) : Prop :=
  (L = none ∧ q = [] ∧ w.heap[P]? = some (.cells #[.int .i64 n, .slice none 0 0] 45 (0, 0))) ∨
  ∃ g off cap, L = some g ∧ Dq w P n q g off cap
theorem Dq.dc {w : World} {P : Nat} {n : Int} {q : List Dd.Cl} {g off cap : Nat} (h : Dq w P n q g off cap) : Dc w P n q (some g) := .inr ⟨g, off, cap, rfl, h⟩
theorem Dq.kept {own : Nat → Prop} {w w' : World} {P : Nat} {n : Int} {q : List Dd.Cl} {g off cap : Nat} (h : Dq w P n q g off cap) (hr : Rest own w w') (hp : ¬own P) (hg : ¬own g) : Dq w' P n q g off cap :=
  ⟨h.ne, (hr.block _ (lt_of_block h.blk) hp).trans h.blk, h.row.kept (hr.block _ h.row.lt hg)⟩
theorem Dq.call {w w' : World} {P : Nat} {n : Int} {q : List Dd.Cl} {g off cap : Nat} (h : Dq w P n q g off cap) (hb : Below w.heap.size w w') : Dq w' P n q g off cap := h.kept (Rest.of_below (own := fun _ => False) hb) (fun x => x) (fun x => x)
/-- What lies at a call's place. -/
theorem Dq.item {w : World} {P : Nat} {n : Int} {q : List Dd.Cl} {g off cap : Nat} (h : Dq w P n q g off cap) {i : Nat} {x : Dd.Cl} (hi : q[i]? = some x) :
    w.cell? ⟨g, off + i * 22, none⟩ = some (.int .i64 x.c) ∧ w.cell? ⟨g, off + i * 22 + 1, none⟩ = some (.int .u32 x.k) ∧ w.cell? ⟨g, off + i * 22 + 18, none⟩ = some (.int .i64 x.r) ∧ w.cell? ⟨g, off + i * 22 + 19, none⟩ = some (.bool x.d) ∧ w.cell? ⟨g, off + i * 22 + 20, none⟩ = some (.bool x.o) ∧ w.cell? ⟨g, off + i * 22 + 21, none⟩ = some (.int .u32 x.v) ∧ (∀ t, t < 16 → w.cell? ⟨g, off + i * 22 + 2 + t, none⟩ = some (.bool (x.m t))) ∧ ∀ j, w.frozen? ⟨g, j, none⟩ = false := by
  refine ⟨Dd.itm.cell h.row hi 0 (by decide) rfl, Dd.itm.cell h.row hi 1 (by decide) rfl, Dd.itm.cell h.row hi 18 (by decide) rfl, Dd.itm.cell h.row hi 19 (by decide) rfl, Dd.itm.cell h.row hi 20 (by decide) rfl, Dd.itm.cell h.row hi 21 (by decide) rfl, fun t ht => ?_, Dd.itm.free h.row⟩
  have := Dd.itm.cell h.row hi (2 + t) (by omega) (Dd.cells_met x t ht)
  rw [← Nat.add_assoc] at this
  exact this
/-- One of its cells is written. -/
theorem Dq.write {w : World} {P : Nat} {n : Int} {q : List Dd.Cl} {g off cap : Nat} (h : Dq w P n q g off cap) {i : Nat} {x : Dd.Cl} (hi : q[i]? = some x) (x' : Dd.Cl) (c : Nat) (hc : c < 22) {o : Nat} (ho : o = off + i * 22 + c) {v : Value} (hx : x'.cells = x.cells.set c v) : Dq (w.setCell ⟨g, o, none⟩ v) P n (q.set i x') g off cap := by
  subst ho
  exact ⟨h.ne, by rw [List.length_set]; exact (heap_setCell_other _ _ _ _ (Ne.symm h.ne)).trans h.blk, by rw [List.length_set]; exact Dd.itm.put h.row hi c hc hx⟩
/-- A call's whole place is written. -/
theorem Dq.over {w : World} {P : Nat} {n : Int} {q : List Dd.Cl} {g off cap : Nat} (h : Dq w P n q g off cap) {i : Nat} (hi : i < q.length) (y : Dd.Cl) : Dq (w.setCells g (off + i * 22) y.cells) P n (q.set i y) g off cap :=
  ⟨h.ne, by rw [List.length_set]; exact ((grown_setCells g y.cells (off + i * 22) w).block _ (lt_of_block h.blk) (fun e => h.ne (by cases e; rfl))).trans h.blk, by rw [List.length_set]; exact Dd.itm.over h.row hi y⟩
theorem Dq.there {w : World} {P : Nat} {n : Int} {q : List Dd.Cl} {g off cap : Nat} (h : Dq w P n q g off cap) {i : Nat} {x : Dd.Cl} (hi : q[i]? = some x) : w.there g (off + i * 22) 22 := Dd.itm.there h.row hi
namespace Dc
variable {w w' : World} {P : Nat} {n : Int} {q : List Dd.Cl} {L : Option Nat}
theorem lt (h : Dc w P n q L) : P < w.heap.size := by
  rcases h with ⟨-, -, h⟩ | ⟨g, off, cap, -, h⟩
  · exact lt_of_block h
  · exact lt_of_block h.blk
theorem row (h : Dc w P n q L) {g : Nat} (e : L = some g) : g < w.heap.size ∧ g ≠ P := by
  rcases h with ⟨e2, -⟩ | ⟨g2, off, cap, e2, h⟩
  · rw [e] at e2; cases e2
  · rw [e] at e2; cases e2; exact ⟨h.row.lt, h.ne⟩
theorem kept {own : Nat → Prop} (h : Dc w P n q L) (hr : Rest own w w') (hp : ¬own P) (hl : ∀ g, L = some g → ¬own g) : Dc w' P n q L := by
  have hP := h.lt
  rcases h with ⟨e, e2, h⟩ | ⟨g, off, cap, e, h⟩
  · exact .inl ⟨e, e2, (hr.block _ hP hp).trans h⟩
  · exact .inr ⟨g, off, cap, e, h.kept hr hp (hl g e)⟩
theorem call (h : Dc w P n q L) (hb : Below w.heap.size w w') : Dc w' P n q L := h.kept (Rest.of_below (own := fun _ => False) hb) (fun x => x) (fun _ _ x => x)
/-- What stands behind the pointer. -/
theorem shape (h : Dc w P n q L) : ∃ a c, w.heap[P]? = some (.cells #[.int .i64 n, .slice a q.length c] 45 (0, 0)) := by
  rcases h with ⟨-, rfl, h⟩ | ⟨g, off, cap, -, h⟩
  · exact ⟨none, 0, h⟩
  · exact ⟨some ⟨g, off, none⟩, cap, h.blk⟩
/-- .. where there is a call. -/
theorem some_ (h : Dc w P n q L) {i : Nat} (hi : i < q.length) : ∃ g off cap, L = some g ∧ Dq w P n q g off cap := by
  rcases h with ⟨-, rfl, h⟩ | h
  · simp at hi
  · exact h
end Dc

theorem whose_eq (a b c d : Int) (w : World) : (binOp .eql 49 (.agg #[.int .i64 a, .int .u32 b]) (.agg #[.int .i64 c, .int .u32 d])).run Try.prog w = .ok (.bool (decide (a = c ∧ b = d))) w := by
  go_simp
  by_cases h : a = c <;> by_cases k : b = d <;> simp [h, k]
theorem Try.sizeWhose : (Try.prog.info? 49).map (·.size) = some 2 := by kernel_rfl

/-- of. -/
theorem dof_any (k c s t g a r q v : Int) (su st : Bool) (w : World) : Calls Try.prog 16 #[.agg #[.int .i64 k, .int .i64 c, .int .i64 s, .int .i64 t, .int .i64 g, .int .u32 a, .int .i64 r, .bool su, .bool st, .int .i64 q, .int .u32 v]] w fun e w' => e = .returned (.agg #[.int .i64 c, .int .u32 a]) ∧ Below w.heap.size w w' := by
  have H := ((Upon.start (fun _ => False) w).lay (.cells #[.int .i64 k, .int .i64 c, .int .i64 s, .int .i64 t, .int .i64 g, .int .u32 a, .int .i64 r, .bool su, .bool st, .int .i64 q, .int .u32 v] 28)).lay (.cells #[.int .i64 c, .int .u32 a] 49)
  go_enter Try.func16, Try.ntmps16
  go_wp2
  have hl := (Upon.start (fun _ => False) w).lay2 (.cells #[.int .i64 k, .int .i64 c, .int .i64 s, .int .i64 t, .int .i64 g, .int .u32 a, .int .i64 r, .bool su, .bool st, .int .i64 q, .int .u32 v] 28) (.cells #[.int .i64 c, .int .u32 a] 49) |>.get 0 rfl
  exact bodyPost_ret (results_cell_row Try.results16 _ _ (w.heap.size + 1) 49 _ (0, 0) _ rfl hl Try.underlying49 rfl Try.sizeWhose) rfl ⟨rfl, H.below (fun _ => id)⟩

/-- at. -/
theorem dat_nil (k c s t g a r q v : Int) (su st : Bool) (w : World) : Calls Try.prog 15 #[.pointer none, .agg #[.int .i64 k, .int .i64 c, .int .i64 s, .int .i64 t, .int .i64 g, .int .u32 a, .int .i64 r, .bool su, .bool st, .int .i64 q, .int .u32 v]] w fun e w' => e = .returned (.int .i64 (-1)) ∧ Below w.heap.size w w' := by
  have H := (Upon.start (fun _ => False) w).lay (.cells #[.int .i64 k, .int .i64 c, .int .i64 s, .int .i64 t, .int .i64 g, .int .u32 a, .int .i64 r, .bool su, .bool st, .int .i64 q, .int .u32 v] 28)
  go_enter Try.func15, Try.ntmps15
  go_wp2_with fail
  go_ret
  exact ⟨rfl, H.below (fun _ => id)⟩
set_option maxHeartbeats 1000000 in
theorem dat_any {P : Nat} {n z : Int} {Q : List Dd.Cl} {L : Option Nat} (k c s t g a r q v : Int) (su st : Bool) (hQ : Q.length ≤ 1000000) (hz : Dd.Res Q c a z) (w : World) (h : Dc w P n Q L) : Calls Try.prog 15 #[.pointer (some ⟨P, 0, none⟩), .agg #[.int .i64 k, .int .i64 c, .int .i64 s, .int .i64 t, .int .i64 g, .int .u32 a, .int .i64 r, .bool su, .bool st, .int .i64 q, .int .u32 v]] w fun e w' => e = .returned (.int .i64 z) ∧ Below w.heap.size w w' := by
  have H := Lib.hid ((Upon.start (fun _ => False) w).lay (.cells #[.int .i64 k, .int .i64 c, .int .i64 s, .int .i64 t, .int .i64 g, .int .u32 a, .int .i64 r, .bool su, .bool st, .int .i64 q, .int .u32 v] 28))
  obtain ⟨f0, f1, f2, f3, f4, f5, f6, f7, f8, f9, f10⟩ := frame_cells (H.out.get 0 rfl)
  have HC := Lib.hid h
  have HZ := Lib.hid hz
  clear h hz
  go_enter Try.func15, Try.ntmps15
  go_upto_region 3 with fail
  generalize w.alloc _ = w1 at H f0 f1 f2 f3 f4 f5 f6 f7 f8 f9 f10 ⊢
  generalize w.heap.size = bF at H f0 f1 f2 f3 f4 f5 f6 f7 f8 f9 f10 ⊢
  go_wp2_with fail
  refine (dof_any k c s t g a r q v su st w1).mono ?_
  rintro e w2 ⟨rfl, hb⟩
  have H2 := Lib.hid ((H.out.call hb).lay (.cells #[.int .i64 c, .int .u32 a] 49))
  clear hb H f0 f1 f2 f3 f4 f5 f6 f7 f8 f9 f10
  go_upto_region 4 with fail
  generalize w2.alloc _ = w3 at H2 ⊢
  generalize w2.heap.size = bW at H2 ⊢
  obtain ⟨sa, sc, hP⟩ := (HC.out.call (H2.out.below (fun _ => id))).shape
  obtain ⟨p0, p1⟩ := two_cells hP
  go_wp2_with fail
  clear p0 p1 hP
  go_loopg [6, 16] (Q.length + 1 : Nat) (fun gh s6 s16 wx => ∃ i : Nat, s16 = .int .i64 (i : Int) ∧ i ≤ Q.length ∧ Q.length + 1 - i ≤ gh ∧ Hid (∀ (j : Nat) (y : Dd.Cl), j < i → Q[j]? = some y → ¬y.is c a) ∧ Hid (Upon (fun _ => False) w wx [(bW, .cells #[.int .i64 c, .int .u32 a] 49 (0, 0)), (bF, .cells #[.int .i64 k, .int .i64 c, .int .i64 s, .int .i64 t, .int .i64 g, .int .u32 a, .int .i64 r, .bool su, .bool st, .int .i64 q, .int .u32 v] 28 (0, 0))]))
  case atStart => exact ⟨0, rfl, by omega, by omega, Lib.hid (fun j _ hj => absurd hj (Nat.not_lt_zero _)), H2⟩
  case round =>
    obtain ⟨i, rfl, hi, hg, HF, HU⟩ := hrel
    clear H2
    have hw : IntKind.i64.wrap ((i : Int) + 1) = (i : Int) + 1 := by rw [IntKind.wrap_i64]; omega
    by_cases hin : i < Q.length
    · have hin' : (i : Int) < (Q.length : Int) := by omega
      obtain ⟨G, off, cap, -, hdq⟩ := (HC.out.call (HU.out.below (fun _ => id))).some_ hin
      obtain ⟨x, hx⟩ : ∃ x, Q[i]? = some x := ⟨Q[i], List.getElem?_eq_getElem hin⟩
      obtain ⟨p0, p1⟩ := two_cells hdq.blk
      obtain ⟨x0, x1, -⟩ := hdq.item hx
      obtain ⟨b0, b1⟩ := two_cells (HU.out.get 0 rfl)
      have heq := fun w => whose_eq x.c x.k c a w
      have HX := Lib.hid hx
      clear hx hdq
      by_cases hxe : x.is c a
      · have hd : decide (x.c = c ∧ x.k = a) = true := decide_eq_true hxe
        rw [hd] at heq
        have HE := Lib.hid hxe
        obtain rfl := HZ.out.hit HX.out hxe HF.out
        clear hd hxe
        go_wp2_with fail
        go_quiet (fail)
        have HU2 := Lib.hid (HU.out.drewN nq)
        clear HU
        go_wp2_with fail
        go_ret
        exact ⟨rfl, HU2.out.below (fun _ => id)⟩
      · have hd : decide (x.c = c ∧ x.k = a) = false := decide_eq_false hxe
        rw [hd] at heq
        have HE := Lib.hid hxe
        clear hd hxe
        go_wp2_with fail
        go_quiet (fail)
        have HU2 := Lib.hid (HU.out.drewN nq)
        clear HU
        go_wp2_with fail
        go_roundg (Q.length + 1 - (i + 1))
        case measure => omega
        case rel =>
          refine ⟨i + 1, by push_cast; rfl, by omega, by omega, Lib.hid (fun j y hj hy => ?_), HU2⟩
          by_cases e : j = i
          · subst e
            rw [HX.out] at hy
            cases hy
            exact HE.out
          · exact HF.out j y (by omega) hy
    · obtain rfl : i = Q.length := by omega
      obtain rfl := HZ.out.end_ HF.out
      go_wp2_with fail
      go_ret
      exact ⟨rfl, HU.out.below (fun _ => id)⟩

/-- find. -/
theorem dfind_nil (k c s t g a r q v : Int) (su st : Bool) (w : World) : Calls Try.prog 13 #[.pointer none, .agg #[.int .i64 k, .int .i64 c, .int .i64 s, .int .i64 t, .int .i64 g, .int .u32 a, .int .i64 r, .bool su, .bool st, .int .i64 q, .int .u32 v]] w fun e w' => e = .returned (.pointer none) ∧ Below w.heap.size w w' := by
  have H := Lib.hid ((Upon.start (fun _ => False) w).lay (.cells #[.int .i64 k, .int .i64 c, .int .i64 s, .int .i64 t, .int .i64 g, .int .u32 a, .int .i64 r, .bool su, .bool st, .int .i64 q, .int .u32 v] 28))
  obtain ⟨f0, f1, f2, f3, f4, f5, f6, f7, f8, f9, f10⟩ := frame_cells (H.out.get 0 rfl)
  go_enter Try.func13, Try.ntmps13
  go_upto_region 1 with fail
  generalize w.alloc _ = w1 at H f0 f1 f2 f3 f4 f5 f6 f7 f8 f9 f10 ⊢
  generalize w.heap.size = bF at H f0 f1 f2 f3 f4 f5 f6 f7 f8 f9 f10 ⊢
  go_wp2_with fail
  refine (dat_nil k c s t g a r q v su st w1).mono ?_
  rintro e w2 ⟨rfl, hb⟩
  have H2 := Lib.hid (H.out.call hb)
  clear hb H f0 f1 f2 f3 f4 f5 f6 f7 f8 f9 f10
  go_wp2_with fail
  go_ret
  exact ⟨rfl, H2.out.below (fun _ => id)⟩
theorem dfind_no {P : Nat} {n : Int} {Q : List Dd.Cl} {L : Option Nat} (k c s t g a r q v : Int) (su st : Bool) (hQ : Q.length ≤ 1000000) (hz : Dd.Non Q c a) (w : World) (h : Dc w P n Q L) : Calls Try.prog 13 #[.pointer (some ⟨P, 0, none⟩), .agg #[.int .i64 k, .int .i64 c, .int .i64 s, .int .i64 t, .int .i64 g, .int .u32 a, .int .i64 r, .bool su, .bool st, .int .i64 q, .int .u32 v]] w fun e w' => e = .returned (.pointer none) ∧ Below w.heap.size w w' := by
  have H := Lib.hid ((Upon.start (fun _ => False) w).lay (.cells #[.int .i64 k, .int .i64 c, .int .i64 s, .int .i64 t, .int .i64 g, .int .u32 a, .int .i64 r, .bool su, .bool st, .int .i64 q, .int .u32 v] 28))
  obtain ⟨f0, f1, f2, f3, f4, f5, f6, f7, f8, f9, f10⟩ := frame_cells (H.out.get 0 rfl)
  have HC := Lib.hid (h.call (H.out.below (fun _ => id)))
  clear h
  go_enter Try.func13, Try.ntmps13
  go_upto_region 1 with fail
  generalize w.alloc _ = w1 at HC H f0 f1 f2 f3 f4 f5 f6 f7 f8 f9 f10 ⊢
  generalize w.heap.size = bF at H f0 f1 f2 f3 f4 f5 f6 f7 f8 f9 f10 ⊢
  go_wp2_with fail
  refine (dat_any k c s t g a r q v su st hQ (.inr ⟨hz, rfl⟩) w1 HC.out).mono ?_
  rintro e w2 ⟨rfl, hb⟩
  have H2 := Lib.hid (H.out.call hb)
  clear hb H f0 f1 f2 f3 f4 f5 f6 f7 f8 f9 f10
  go_wp2_with fail
  go_ret
  exact ⟨rfl, H2.out.below (fun _ => id)⟩
theorem dfind_yes {P : Nat} {n : Int} {Q : List Dd.Cl} {G off cap i : Nat} {x : Dd.Cl} (k c s t g a r q v : Int) (su st : Bool) (hQ : Q.length ≤ 1000000) (hz : Dd.At Q c a i x) (w : World) (h : Dq w P n Q G off cap) : Calls Try.prog 13 #[.pointer (some ⟨P, 0, none⟩), .agg #[.int .i64 k, .int .i64 c, .int .i64 s, .int .i64 t, .int .i64 g, .int .u32 a, .int .i64 r, .bool su, .bool st, .int .i64 q, .int .u32 v]] w fun e w' => e = .returned (.pointer (some ⟨G, off + i * 22, none⟩)) ∧ Below w.heap.size w w' := by
  have H := Lib.hid ((Upon.start (fun _ => False) w).lay (.cells #[.int .i64 k, .int .i64 c, .int .i64 s, .int .i64 t, .int .i64 g, .int .u32 a, .int .i64 r, .bool su, .bool st, .int .i64 q, .int .u32 v] 28))
  obtain ⟨f0, f1, f2, f3, f4, f5, f6, f7, f8, f9, f10⟩ := frame_cells (H.out.get 0 rfl)
  have hi0 : ¬(i : Int) < 0 := by omega
  have hi1 : (0 : Int) ≤ (i : Int) := by omega
  have hi2 : (i : Int) < (Q.length : Int) := by have := hz.lt; omega
  have HC := Lib.hid (h.call (H.out.below (fun _ => id)))
  have HZ := Lib.hid hz
  clear h hz
  go_enter Try.func13, Try.ntmps13
  go_upto_region 1 with fail
  generalize w.alloc _ = w1 at HC H f0 f1 f2 f3 f4 f5 f6 f7 f8 f9 f10 ⊢
  generalize w.heap.size = bF at H f0 f1 f2 f3 f4 f5 f6 f7 f8 f9 f10 ⊢
  go_wp2_with fail
  refine (dat_any k c s t g a r q v su st hQ (.inl ⟨i, x, HZ.out, rfl⟩) w1 HC.out.dc).mono ?_
  rintro e w2 ⟨rfl, hb⟩
  have H2 := Lib.hid (H.out.call hb)
  obtain ⟨p0, p1⟩ := two_cells (HC.out.call hb).blk
  clear hb H f0 f1 f2 f3 f4 f5 f6 f7 f8 f9 f10 HC
  go_wp2_with fail
  go_ret
  exact ⟨rfl, H2.out.below (fun _ => id)⟩

/-- Len. -/
theorem dlen_nil (w : World) : Calls Try.prog 10 #[.pointer none] w fun e w' => e = .returned (.int .i64 0) ∧ w = w' := by
  go_enter Try.func10, Try.ntmps10
  go_wp2
  all_goals (go_ret; exact ⟨rfl, rfl⟩)
theorem dlen_any {P : Nat} {n : Int} {Q : List Dd.Cl} {L : Option Nat} (w : World) (h : Dc w P n Q L) : Calls Try.prog 10 #[.pointer (some ⟨P, 0, none⟩)] w fun e w' => e = .returned (.int .i64 (Q.length : Int)) ∧ w = w' := by
  obtain ⟨sa, sc, hP⟩ := h.shape
  obtain ⟨p0, p1⟩ := two_cells hP
  clear h hP
  go_enter Try.func10, Try.ntmps10
  go_wp2
  all_goals (go_ret; exact ⟨rfl, rfl⟩)
end Go.Proofs.Ythkcomnmihmccaa
