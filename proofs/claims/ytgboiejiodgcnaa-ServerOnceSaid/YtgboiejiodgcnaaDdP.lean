/- DdA, DdB, DdC: several texts in one. -/
import Derived.Test.YtgboiejiodgcnaaItmK
import Derived.Test.YtgboiejiodgcnaaBaseB
import Derived.Test.YtgboiejiodgcnaaSkip
import Derived.RegionTactic
import Derived.BigRegion
import Derived.BigQuiet
import Derived.Deep.RegionWith
import Derived.Deep.DeepCutAuto
import Derived.Deep.LoopGhost
import Derived.Test.YtgboiejiodgcnaaMid
import Derived.OwnWalk
/- A cache's calls in memory: what it knows of each, one behind the other; the contracts of of, at, find, Len, Value, Runs. -/
namespace Go.Proofs.Ytgboiejiodgcnaa
open Go.RowKit Go.Sort

namespace Dd
/-- What is known of a call: its client's number and its own, which tries were met, how often it was begun, what became of it. -/
structure Cl where
  c : Int
  k : Int
  m : Nat → Bool
  r : Int
  d : Bool
  o : Bool
  v : Int
def Cl.cells (a : Cl) : List Value := [.int .i64 a.c, .int .u32 a.k, .bool (a.m 0), .bool (a.m 1), .bool (a.m 2), .bool (a.m 3), .bool (a.m 4), .bool (a.m 5), .bool (a.m 6), .bool (a.m 7), .bool (a.m 8), .bool (a.m 9), .bool (a.m 10), .bool (a.m 11), .bool (a.m 12), .bool (a.m 13), .bool (a.m 14), .bool (a.m 15), .int .i64 a.r, .bool a.d, .bool a.o, .int .u32 a.v]
/-- One more try was met. -/
def tick (m : Nat → Bool) (t i : Nat) : Bool := if i = t then true else m i
def Cl.tick (a : Cl) (t : Nat) : Cl := { a with m := Dd.tick a.m t }
def Cl.run (a : Cl) : Cl := { a with r := wrap64 (a.r + 1) }
/-- What became of it. -/
def Cl.done (a : Cl) (ok : Bool) (v : Int) : Cl := { a with d := true, o := ok, v := v }
/-- It is this one. -/
def Cl.is (a : Cl) (c k : Int) : Prop := a.c = c ∧ a.k = k
/-- One that is met for the first time. -/
def first (c k : Int) (t : Nat) : Cl := ⟨c, k, Dd.tick (fun _ => false) t, 1, false, false, 0⟩
def itm : Itm Cl 22 := ⟨Cl.cells, fun _ => rfl, fun a u hu => by
  simp only [Cl.cells, List.mem_cons, List.not_mem_nil, or_false] at hu
  rcases hu with rfl | rfl | rfl | rfl | rfl | rfl | rfl | rfl | rfl | rfl | rfl | rfl | rfl | rfl | rfl | rfl | rfl | rfl | rfl | rfl | rfl | rfl <;> rfl⟩
theorem cells_met (a : Cl) : ∀ t, t < 16 → a.cells[2 + t]? = some (.bool (a.m t)) := fun t h => by
  rcases (show t = 0 ∨ t = 1 ∨ t = 2 ∨ t = 3 ∨ t = 4 ∨ t = 5 ∨ t = 6 ∨ t = 7 ∨ t = 8 ∨ t = 9 ∨ t = 10 ∨ t = 11 ∨ t = 12 ∨ t = 13 ∨ t = 14 ∨ t = 15 by omega) with rfl | rfl | rfl | rfl | rfl | rfl | rfl | rfl | rfl | rfl | rfl | rfl | rfl | rfl | rfl | rfl <;> rfl
theorem cells_tick (a : Cl) {t : Nat} (h : t < 16) : (a.tick t).cells = a.cells.set (2 + t) (.bool true) := by
  rcases (show t = 0 ∨ t = 1 ∨ t = 2 ∨ t = 3 ∨ t = 4 ∨ t = 5 ∨ t = 6 ∨ t = 7 ∨ t = 8 ∨ t = 9 ∨ t = 10 ∨ t = 11 ∨ t = 12 ∨ t = 13 ∨ t = 14 ∨ t = 15 by omega) with rfl | rfl | rfl | rfl | rfl | rfl | rfl | rfl | rfl | rfl | rfl | rfl | rfl | rfl | rfl | rfl <;> rfl
/-- The i-th is the first one of this name. -/
structure At (q : List Cl) (c k : Int) (i : Nat) (x : Cl) : Prop where
  at_ : q[i]? = some x
  is : x.is c k
  first : ∀ (j : Nat) (y : Cl), j < i → q[j]? = some y → ¬y.is c k
/-- There is none of this name. -/
def Non (q : List Cl) (c k : Int) : Prop := ∀ (j : Nat) (y : Cl), q[j]? = some y → ¬y.is c k
/-- Where it is: its place, or -1. -/
def Res (q : List Cl) (c k : Int) (z : Int) : Prop := (∃ (i : Nat) (x : Cl), At q c k i x ∧ z = i) ∨ (Non q c k ∧ z = -1)
theorem Res.hit {q : List Cl} {c k z : Int} (h : Res q c k z) {i : Nat} {x : Cl} (hx : q[i]? = some x) (he : x.is c k) (hf : ∀ (j : Nat) (y : Cl), j < i → q[j]? = some y → ¬y.is c k) : (i : Int) = z := by
  rcases h with ⟨j, y, hj, rfl⟩ | ⟨hn, -⟩
  · rcases Nat.lt_trichotomy i j with e | e | e
    · exact absurd he (hj.first i x e hx)
    · rw [e]
    · exact absurd hj.is (hf j y e hj.at_)
  · exact absurd he (hn i x hx)
theorem Res.end_ {q : List Cl} {c k z : Int} (h : Res q c k z) (hf : ∀ (j : Nat) (y : Cl), j < q.length → q[j]? = some y → ¬y.is c k) : -1 = z := by
  rcases h with ⟨j, y, hj, rfl⟩ | ⟨-, rfl⟩
  · exact absurd hj.is (hf j y (List.getElem?_eq_some_iff.1 hj.at_).1 hj.at_)
  · rfl
theorem At.lt {q : List Cl} {c k : Int} {i : Nat} {x : Cl} (h : At q c k i x) : i < q.length := (List.getElem?_eq_some_iff.1 h.at_).1
end Dd

/-- A cache at P with a row of these calls at g. -/
structure Dq (w : World) (P : Nat) (n : Int) (q : List Dd.Cl) (g off cap : Nat) : Prop where
  ne : g ≠ P
  blk : w.heap[P]? = some (.cells #[.int .i64 n, .slice (some ⟨g, off, none⟩) q.length cap] 64 (0, 0))
  row : RowK w 0 84 22 g off q.length cap (Dd.itm.flat q)
/-- A cache at P: so much room, these calls; L: their row, where they have one. -/
def Dc (w : World) (P : Nat) (n : Int) (q : List Dd.Cl) (L : Option Nat) : Prop :=
  (L = none ∧ q = [] ∧ w.heap[P]? = some (.cells #[.int .i64 n, .slice none 0 0] 64 (0, 0))) ∨
  ∃ g off cap, L = some g ∧ Dq w P n q g off cap
theorem Dq.dc {w : World} {P : Nat} {n : Int} {q : List Dd.Cl} {g off cap : Nat} (h : Dq w P n q g off cap) : Dc w P n q (some g) := .inr ⟨g, off, cap, rfl, h⟩
theorem Dq.kept {own : Nat → Prop} {w w' : World} {P : Nat} {n : Int} {q : List Dd.Cl} {g off cap : Nat} (h : Dq w P n q g off cap) (hr : Rest own w w') (hp : ¬own P) (hg : ¬own g) : Dq w' P n q g off cap :=
  ⟨h.ne, (hr.block _ (lt_of_block h.blk) hp).trans h.blk, h.row.kept (hr.block _ h.row.lt hg)⟩
theorem Dq.call {w w' : World} {P : Nat} {n : Int} {q : List Dd.Cl} {g off cap : Nat} (h : Dq w P n q g off cap) (hb : Below w.heap.size w w') : Dq w' P n q g off cap := h.kept (Rest.of_below (own := fun _ => False) hb) (fun x => x) (fun x => x)
/-- What lies at a call's place. -/
theorem Dq.item {w : World} {P : Nat} {n : Int} {q : List Dd.Cl} {g off cap : Nat} (h : Dq w P n q g off cap) {i : Nat} {x : Dd.Cl} (hi : q[i]? = some x) :
    w.cell? ⟨g, off + i * 22, none⟩ = some (.int .i64 x.c) ∧ w.cell? ⟨g, off + i * 22 + 1, none⟩ = some (.int .u32 x.k) ∧ w.cell? ⟨g, off + i * 22 + 18, none⟩ = some (.int .i64 x.r) ∧ w.cell? ⟨g, off + i * 22 + 19, none⟩ = some (.bool x.d) ∧ w.cell? ⟨g, off + i * 22 + 20, none⟩ = some (.bool x.o) ∧ w.cell? ⟨g, off + i * 22 + 21, none⟩ = some (.int .u32 x.v) ∧ (∀ t, t < 16 → w.cell? ⟨g, off + i * 22 + 2 + t, none⟩ = some (.bool (x.m t))) ∧ ∀ j, w.frozen? ⟨g, j, none⟩ = false := by
  refine ⟨Dd.itm.cell h.row hi 0 (by decide) rfl, Dd.itm.cell h.row hi 1 (by decide) rfl, Dd.itm.cell h.row hi 18 (by decide) rfl, Dd.itm.cell h.row hi 19 (by decide) rfl, Dd.itm.cell h.row hi 20 (by decide) rfl, Dd.itm.cell h.row hi 21 (by decide) rfl, fun t ht => ?_, Dd.itm.free h.row⟩
  have := Dd.itm.cell h.row hi (2 + t) (by omega) (Dd.cells_met x t ht)
  rw [← Nat.add_assoc] at this
  exact this
/-- One of its cells is written. -/
theorem Dq.write {w : World} {P : Nat} {n : Int} {q : List Dd.Cl} {g off cap : Nat} (h : Dq w P n q g off cap) {i : Nat} {x : Dd.Cl} (hi : q[i]? = some x) (x' : Dd.Cl) (c : Nat) (hc : c < 22) {o : Nat} (ho : o = off + i * 22 + c) {v : Value} (hx : x'.cells = x.cells.set c v) : Dq (w.setCell ⟨g, o, none⟩ v) P n (q.set i x') g off cap := by
  subst ho
  exact ⟨h.ne, by rw [List.length_set]; exact (heap_setCell_other _ _ _ _ (Ne.symm h.ne)).trans h.blk, by rw [List.length_set]; exact Dd.itm.put h.row hi c hc hx⟩
/-- A call's whole place is written. -/
theorem Dq.over {w : World} {P : Nat} {n : Int} {q : List Dd.Cl} {g off cap : Nat} (h : Dq w P n q g off cap) {i : Nat} (hi : i < q.length) (y : Dd.Cl) : Dq (w.setCells g (off + i * 22) y.cells) P n (q.set i y) g off cap :=
  ⟨h.ne, by rw [List.length_set]; exact ((grown_setCells g y.cells (off + i * 22) w).block _ (lt_of_block h.blk) (fun e => h.ne (by cases e; rfl))).trans h.blk, by rw [List.length_set]; exact Dd.itm.over h.row hi y⟩
theorem Dq.there {w : World} {P : Nat} {n : Int} {q : List Dd.Cl} {g off cap : Nat} (h : Dq w P n q g off cap) {i : Nat} {x : Dd.Cl} (hi : q[i]? = some x) : w.there g (off + i * 22) 22 := Dd.itm.there h.row hi
namespace Dc
variable {w w' : World} {P : Nat} {n : Int} {q : List Dd.Cl} {L : Option Nat}
theorem lt (h : Dc w P n q L) : P < w.heap.size := by
  rcases h with ⟨-, -, h⟩ | ⟨g, off, cap, -, h⟩
  · exact lt_of_block h
  · exact lt_of_block h.blk
theorem row (h : Dc w P n q L) {g : Nat} (e : L = some g) : g < w.heap.size ∧ g ≠ P := by
  rcases h with ⟨e2, -⟩ | ⟨g2, off, cap, e2, h⟩
  · rw [e] at e2; cases e2
  · rw [e] at e2; cases e2; exact ⟨h.row.lt, h.ne⟩
theorem kept {own : Nat → Prop} (h : Dc w P n q L) (hr : Rest own w w') (hp : ¬own P) (hl : ∀ g, L = some g → ¬own g) : Dc w' P n q L := by
  have hP := h.lt
  rcases h with ⟨e, e2, h⟩ | ⟨g, off, cap, e, h⟩
  · exact .inl ⟨e, e2, (hr.block _ hP hp).trans h⟩
  · exact .inr ⟨g, off, cap, e, h.kept hr hp (hl g e)⟩
theorem call (h : Dc w P n q L) (hb : Below w.heap.size w w') : Dc w' P n q L := h.kept (Rest.of_below (own := fun _ => False) hb) (fun x => x) (fun _ _ x => x)
/-- What stands behind the pointer. -/
theorem shape (h : Dc w P n q L) : ∃ a c, w.heap[P]? = some (.cells #[.int .i64 n, .slice a q.length c] 64 (0, 0)) := by
  rcases h with ⟨-, rfl, h⟩ | ⟨g, off, cap, -, h⟩
  · exact ⟨none, 0, h⟩
  · exact ⟨some ⟨g, off, none⟩, cap, h.blk⟩
/-- .. where there is a call. -/
theorem some_ (h : Dc w P n q L) {i : Nat} (hi : i < q.length) : ∃ g off cap, L = some g ∧ Dq w P n q g off cap := by
  rcases h with ⟨-, rfl, h⟩ | h
  · simp at hi
  · exact h
end Dc

theorem whose_eq (a b c d : Int) (w : World) : (binOp .eql 81 (.agg #[.int .i64 a, .int .u32 b]) (.agg #[.int .i64 c, .int .u32 d])).run Try.prog w = .ok (.bool (decide (a = c ∧ b = d))) w := by
  go_simp
  by_cases h : a = c <;> by_cases k : b = d <;> simp [h, k]
theorem Try.sizeWhose : (Try.prog.info? 81).map (·.size) = some 2 := by kernel_rfl

/-- of. -/
theorem dof_any (k c s t g a r q v : Int) (su st : Bool) (w : World) : Calls Try.prog 61 #[.agg #[.int .i64 k, .int .i64 c, .int .i64 s, .int .i64 t, .int .i64 g, .int .u32 a, .int .i64 r, .bool su, .bool st, .int .i64 q, .int .u32 v]] w fun e w' => e = .returned (.agg #[.int .i64 c, .int .u32 a]) ∧ Below w.heap.size w w' := by
  have H := ((Upon.start (fun _ => False) w).lay (.cells #[.int .i64 k, .int .i64 c, .int .i64 s, .int .i64 t, .int .i64 g, .int .u32 a, .int .i64 r, .bool su, .bool st, .int .i64 q, .int .u32 v] 29)).lay (.cells #[.int .i64 c, .int .u32 a] 81)
  go_enter Try.func61, Try.ntmps61
  go_wp2
  have hl := (Upon.start (fun _ => False) w).lay2 (.cells #[.int .i64 k, .int .i64 c, .int .i64 s, .int .i64 t, .int .i64 g, .int .u32 a, .int .i64 r, .bool su, .bool st, .int .i64 q, .int .u32 v] 29) (.cells #[.int .i64 c, .int .u32 a] 81) |>.get 0 rfl
  exact bodyPost_ret (results_cell_row Try.results61 _ _ (w.heap.size + 1) 81 _ (0, 0) _ rfl hl Try.underlying81 rfl Try.sizeWhose) rfl ⟨rfl, H.below (fun _ => id)⟩

/-- at. -/
theorem dat_nil (k c s t g a r q v : Int) (su st : Bool) (w : World) : Calls Try.prog 49 #[.pointer none, .agg #[.int .i64 k, .int .i64 c, .int .i64 s, .int .i64 t, .int .i64 g, .int .u32 a, .int .i64 r, .bool su, .bool st, .int .i64 q, .int .u32 v]] w fun e w' => e = .returned (.int .i64 (-1)) ∧ Below w.heap.size w w' := by
  have H := (Upon.start (fun _ => False) w).lay (.cells #[.int .i64 k, .int .i64 c, .int .i64 s, .int .i64 t, .int .i64 g, .int .u32 a, .int .i64 r, .bool su, .bool st, .int .i64 q, .int .u32 v] 29)
  go_enter Try.func49, Try.ntmps49
  go_wp2_with fail
  go_ret
  exact ⟨rfl, H.below (fun _ => id)⟩
set_option maxHeartbeats 1000000 in
theorem dat_any {P : Nat} {n z : Int} {Q : List Dd.Cl} {L : Option Nat} (k c s t g a r q v : Int) (su st : Bool) (hQ : Q.length ≤ 1000000) (hz : Dd.Res Q c a z) (w : World) (h : Dc w P n Q L) : Calls Try.prog 49 #[.pointer (some ⟨P, 0, none⟩), .agg #[.int .i64 k, .int .i64 c, .int .i64 s, .int .i64 t, .int .i64 g, .int .u32 a, .int .i64 r, .bool su, .bool st, .int .i64 q, .int .u32 v]] w fun e w' => e = .returned (.int .i64 z) ∧ Below w.heap.size w w' := by
  have H := Lib.hid ((Upon.start (fun _ => False) w).lay (.cells #[.int .i64 k, .int .i64 c, .int .i64 s, .int .i64 t, .int .i64 g, .int .u32 a, .int .i64 r, .bool su, .bool st, .int .i64 q, .int .u32 v] 29))
  obtain ⟨f0, f1, f2, f3, f4, f5, f6, f7, f8, f9, f10⟩ := frame_cells (H.out.get 0 rfl)
  have HC := Lib.hid h
  have HZ := Lib.hid hz
  clear h hz
  go_enter Try.func49, Try.ntmps49
  go_upto_region 3 with fail
  generalize w.alloc _ = w1 at H f0 f1 f2 f3 f4 f5 f6 f7 f8 f9 f10 ⊢
  generalize w.heap.size = bF at H f0 f1 f2 f3 f4 f5 f6 f7 f8 f9 f10 ⊢
  go_wp2_with fail
  refine (dof_any k c s t g a r q v su st w1).mono ?_
  rintro e w2 ⟨rfl, hb⟩
  have H2 := Lib.hid ((H.out.call hb).lay (.cells #[.int .i64 c, .int .u32 a] 81))
  clear hb H f0 f1 f2 f3 f4 f5 f6 f7 f8 f9 f10
  go_upto_region 4 with fail
  generalize w2.alloc _ = w3 at H2 ⊢
  generalize w2.heap.size = bW at H2 ⊢
  obtain ⟨sa, sc, hP⟩ := (HC.out.call (H2.out.below (fun _ => id))).shape
  obtain ⟨p0, p1⟩ := two_cells hP
  go_wp2_with fail
  clear p0 p1 hP
  go_loopg [6, 16] (Q.length + 1 : Nat) (fun gh s6 s16 wx => ∃ i : Nat, s16 = .int .i64 (i : Int) ∧ i ≤ Q.length ∧ Q.length + 1 - i ≤ gh ∧ Hid (∀ (j : Nat) (y : Dd.Cl), j < i → Q[j]? = some y → ¬y.is c a) ∧ Hid (Upon (fun _ => False) w wx [(bW, .cells #[.int .i64 c, .int .u32 a] 81 (0, 0)), (bF, .cells #[.int .i64 k, .int .i64 c, .int .i64 s, .int .i64 t, .int .i64 g, .int .u32 a, .int .i64 r, .bool su, .bool st, .int .i64 q, .int .u32 v] 29 (0, 0))]))
  case atStart => exact ⟨0, rfl, by omega, by omega, Lib.hid (fun j _ hj => absurd hj (Nat.not_lt_zero _)), H2⟩
  case round =>
    obtain ⟨i, rfl, hi, hg, HF, HU⟩ := hrel
    clear H2
    have hw : IntKind.i64.wrap ((i : Int) + 1) = (i : Int) + 1 := by rw [IntKind.wrap_i64]; omega
    by_cases hin : i < Q.length
    · have hin' : (i : Int) < (Q.length : Int) := by omega
      obtain ⟨G, off, cap, -, hdq⟩ := (HC.out.call (HU.out.below (fun _ => id))).some_ hin
      obtain ⟨x, hx⟩ : ∃ x, Q[i]? = some x := ⟨Q[i], List.getElem?_eq_getElem hin⟩
      obtain ⟨p0, p1⟩ := two_cells hdq.blk
      obtain ⟨x0, x1, -⟩ := hdq.item hx
      obtain ⟨b0, b1⟩ := two_cells (HU.out.get 0 rfl)
      have heq := fun w => whose_eq x.c x.k c a w
      have HX := Lib.hid hx
      clear hx hdq
      by_cases hxe : x.is c a
      · have hd : decide (x.c = c ∧ x.k = a) = true := decide_eq_true hxe
        rw [hd] at heq
        have HE := Lib.hid hxe
        obtain rfl := HZ.out.hit HX.out hxe HF.out
        clear hd hxe
        go_wp2_with fail
        go_quiet (fail)
        have HU2 := Lib.hid (HU.out.drewN nq)
        clear HU
        go_wp2_with fail
        go_ret
        exact ⟨rfl, HU2.out.below (fun _ => id)⟩
      · have hd : decide (x.c = c ∧ x.k = a) = false := decide_eq_false hxe
        rw [hd] at heq
        have HE := Lib.hid hxe
        clear hd hxe
        go_wp2_with fail
        go_quiet (fail)
        have HU2 := Lib.hid (HU.out.drewN nq)
        clear HU
        go_wp2_with fail
        go_roundg (Q.length + 1 - (i + 1))
        case measure => omega
        case rel =>
          refine ⟨i + 1, by push_cast; rfl, by omega, by omega, Lib.hid (fun j y hj hy => ?_), HU2⟩
          by_cases e : j = i
          · subst e
            rw [HX.out] at hy
            cases hy
            exact HE.out
          · exact HF.out j y (by omega) hy
    · obtain rfl : i = Q.length := by omega
      obtain rfl := HZ.out.end_ HF.out
      go_wp2_with fail
      go_ret
      exact ⟨rfl, HU.out.below (fun _ => id)⟩

/-- find. -/
theorem dfind_nil (k c s t g a r q v : Int) (su st : Bool) (w : World) : Calls Try.prog 54 #[.pointer none, .agg #[.int .i64 k, .int .i64 c, .int .i64 s, .int .i64 t, .int .i64 g, .int .u32 a, .int .i64 r, .bool su, .bool st, .int .i64 q, .int .u32 v]] w fun e w' => e = .returned (.pointer none) ∧ Below w.heap.size w w' := by
  have H := Lib.hid ((Upon.start (fun _ => False) w).lay (.cells #[.int .i64 k, .int .i64 c, .int .i64 s, .int .i64 t, .int .i64 g, .int .u32 a, .int .i64 r, .bool su, .bool st, .int .i64 q, .int .u32 v] 29))
  obtain ⟨f0, f1, f2, f3, f4, f5, f6, f7, f8, f9, f10⟩ := frame_cells (H.out.get 0 rfl)
  go_enter Try.func54, Try.ntmps54
  go_upto_region 1 with fail
  generalize w.alloc _ = w1 at H f0 f1 f2 f3 f4 f5 f6 f7 f8 f9 f10 ⊢
  generalize w.heap.size = bF at H f0 f1 f2 f3 f4 f5 f6 f7 f8 f9 f10 ⊢
  go_wp2_with fail
  refine (dat_nil k c s t g a r q v su st w1).mono ?_
  rintro e w2 ⟨rfl, hb⟩
  have H2 := Lib.hid (H.out.call hb)
  clear hb H f0 f1 f2 f3 f4 f5 f6 f7 f8 f9 f10
  go_wp2_with fail
  go_ret
  exact ⟨rfl, H2.out.below (fun _ => id)⟩
theorem dfind_no {P : Nat} {n : Int} {Q : List Dd.Cl} {L : Option Nat} (k c s t g a r q v : Int) (su st : Bool) (hQ : Q.length ≤ 1000000) (hz : Dd.Non Q c a) (w : World) (h : Dc w P n Q L) : Calls Try.prog 54 #[.pointer (some ⟨P, 0, none⟩), .agg #[.int .i64 k, .int .i64 c, .int .i64 s, .int .i64 t, .int .i64 g, .int .u32 a, .int .i64 r, .bool su, .bool st, .int .i64 q, .int .u32 v]] w fun e w' => e = .returned (.pointer none) ∧ Below w.heap.size w w' := by
  have H := Lib.hid ((Upon.start (fun _ => False) w).lay (.cells #[.int .i64 k, .int .i64 c, .int .i64 s, .int .i64 t, .int .i64 g, .int .u32 a, .int .i64 r, .bool su, .bool st, .int .i64 q, .int .u32 v] 29))
  obtain ⟨f0, f1, f2, f3, f4, f5, f6, f7, f8, f9, f10⟩ := frame_cells (H.out.get 0 rfl)
  have HC := Lib.hid (h.call (H.out.below (fun _ => id)))
  clear h
  go_enter Try.func54, Try.ntmps54
  go_upto_region 1 with fail
  generalize w.alloc _ = w1 at HC H f0 f1 f2 f3 f4 f5 f6 f7 f8 f9 f10 ⊢
  generalize w.heap.size = bF at H f0 f1 f2 f3 f4 f5 f6 f7 f8 f9 f10 ⊢
  go_wp2_with fail
  refine (dat_any k c s t g a r q v su st hQ (.inr ⟨hz, rfl⟩) w1 HC.out).mono ?_
  rintro e w2 ⟨rfl, hb⟩
  have H2 := Lib.hid (H.out.call hb)
  clear hb H f0 f1 f2 f3 f4 f5 f6 f7 f8 f9 f10
  go_wp2_with fail
  go_ret
  exact ⟨rfl, H2.out.below (fun _ => id)⟩
theorem dfind_yes {P : Nat} {n : Int} {Q : List Dd.Cl} {G off cap i : Nat} {x : Dd.Cl} (k c s t g a r q v : Int) (su st : Bool) (hQ : Q.length ≤ 1000000) (hz : Dd.At Q c a i x) (w : World) (h : Dq w P n Q G off cap) : Calls Try.prog 54 #[.pointer (some ⟨P, 0, none⟩), .agg #[.int .i64 k, .int .i64 c, .int .i64 s, .int .i64 t, .int .i64 g, .int .u32 a, .int .i64 r, .bool su, .bool st, .int .i64 q, .int .u32 v]] w fun e w' => e = .returned (.pointer (some ⟨G, off + i * 22, none⟩)) ∧ Below w.heap.size w w' := by
  have H := Lib.hid ((Upon.start (fun _ => False) w).lay (.cells #[.int .i64 k, .int .i64 c, .int .i64 s, .int .i64 t, .int .i64 g, .int .u32 a, .int .i64 r, .bool su, .bool st, .int .i64 q, .int .u32 v] 29))
  obtain ⟨f0, f1, f2, f3, f4, f5, f6, f7, f8, f9, f10⟩ := frame_cells (H.out.get 0 rfl)
  have hi0 : ¬(i : Int) < 0 := by omega
  have hi1 : (0 : Int) ≤ (i : Int) := by omega
  have hi2 : (i : Int) < (Q.length : Int) := by have := hz.lt; omega
  have HC := Lib.hid (h.call (H.out.below (fun _ => id)))
  have HZ := Lib.hid hz
  clear h hz
  go_enter Try.func54, Try.ntmps54
  go_upto_region 1 with fail
  generalize w.alloc _ = w1 at HC H f0 f1 f2 f3 f4 f5 f6 f7 f8 f9 f10 ⊢
  generalize w.heap.size = bF at H f0 f1 f2 f3 f4 f5 f6 f7 f8 f9 f10 ⊢
  go_wp2_with fail
  refine (dat_any k c s t g a r q v su st hQ (.inl ⟨i, x, HZ.out, rfl⟩) w1 HC.out.dc).mono ?_
  rintro e w2 ⟨rfl, hb⟩
  have H2 := Lib.hid (H.out.call hb)
  obtain ⟨p0, p1⟩ := two_cells (HC.out.call hb).blk
  clear hb H f0 f1 f2 f3 f4 f5 f6 f7 f8 f9 f10 HC
  go_wp2_with fail
  go_ret
  exact ⟨rfl, H2.out.below (fun _ => id)⟩

/-- Len. -/
theorem dlen_nil (w : World) : Calls Try.prog 30 #[.pointer none] w fun e w' => e = .returned (.int .i64 0) ∧ w = w' := by
  go_enter Try.func30, Try.ntmps30
  go_wp2
  all_goals (go_ret; exact ⟨rfl, rfl⟩)
theorem dlen_any {P : Nat} {n : Int} {Q : List Dd.Cl} {L : Option Nat} (w : World) (h : Dc w P n Q L) : Calls Try.prog 30 #[.pointer (some ⟨P, 0, none⟩)] w fun e w' => e = .returned (.int .i64 (Q.length : Int)) ∧ w = w' := by
  obtain ⟨sa, sc, hP⟩ := h.shape
  obtain ⟨p0, p1⟩ := two_cells hP
  clear h hP
  go_enter Try.func30, Try.ntmps30
  go_wp2
  all_goals (go_ret; exact ⟨rfl, rfl⟩)
end Go.Proofs.Ytgboiejiodgcnaa

/- The contracts of New, Value, Runs, Done and first: a call is met for the first time. -/
namespace Go.Proofs.Ytgboiejiodgcnaa
open Go.RowKit Go.Sort

theorem Try.infoCall : (Try.prog.info? 84).map (fun i => (i.zero.map (·.cells.size), i.size, i.bytes)) = some (some 22, 22, 48) := by kernel_rfl
theorem Try.bigCall : Big Try.prog 84 22 := Big.of Try.underlying84 rfl Try.infoCall (by decide)

/-- New. -/
def Dd.room (r : Int) : Int := max 0 (min r 64)
theorem dnew_any (r : Int) (w : World) : Calls Try.prog 17 #[.int .i64 r] w fun e w' => e = .returned (.pointer (some ⟨w.heap.size, 0, none⟩)) ∧ Dc w' w.heap.size (Dd.room r) [] none ∧ Below w.heap.size w w' := by
  have H := (Upon.start (fun _ => False) w).lay (.cells #[.int .i64 (Dd.room r), .slice none 0 0] 64)
  go_enter Try.func17, Try.ntmps17
  go_wp2
  all_goals (go_ret; exact ⟨rfl, .inl ⟨rfl, rfl, H.get 0 rfl⟩, H.below (fun _ => id)⟩)

/-- Value. -/
theorem dvalue_nil (k c s t g a r q v : Int) (su st : Bool) (w : World) : Calls Try.prog 59 #[.pointer none, .agg #[.int .i64 k, .int .i64 c, .int .i64 s, .int .i64 t, .int .i64 g, .int .u32 a, .int .i64 r, .bool su, .bool st, .int .i64 q, .int .u32 v]] w fun e w' => e = .returned (.tuple #[.int .u32 0, .bool false, .bool false]) ∧ Below w.heap.size w w' := by
  have H := Lib.hid ((Upon.start (fun _ => False) w).lay (.cells #[.int .i64 k, .int .i64 c, .int .i64 s, .int .i64 t, .int .i64 g, .int .u32 a, .int .i64 r, .bool su, .bool st, .int .i64 q, .int .u32 v] 29))
  obtain ⟨f0, f1, f2, f3, f4, f5, f6, f7, f8, f9, f10⟩ := frame_cells (H.out.get 0 rfl)
  go_enter Try.func59, Try.ntmps59
  go_upto_region 1 with fail
  generalize w.alloc _ = w1 at H f0 f1 f2 f3 f4 f5 f6 f7 f8 f9 f10 ⊢
  generalize w.heap.size = bF at H f0 f1 f2 f3 f4 f5 f6 f7 f8 f9 f10 ⊢
  go_wp2_with fail
  refine (dfind_nil k c s t g a r q v su st w1).mono ?_
  rintro e w2 ⟨rfl, hb⟩
  have H2 := Lib.hid (H.out.call hb)
  clear hb H f0 f1 f2 f3 f4 f5 f6 f7 f8 f9 f10
  go_wp2_with fail
  go_ret3
  exact ⟨rfl, H2.out.below (fun _ => id)⟩
theorem dvalue_no {P : Nat} {n : Int} {Q : List Dd.Cl} {L : Option Nat} (k c s t g a r q v : Int) (su st : Bool) (hQ : Q.length ≤ 1000000) (hz : Dd.Non Q c a) (w : World) (h : Dc w P n Q L) : Calls Try.prog 59 #[.pointer (some ⟨P, 0, none⟩), .agg #[.int .i64 k, .int .i64 c, .int .i64 s, .int .i64 t, .int .i64 g, .int .u32 a, .int .i64 r, .bool su, .bool st, .int .i64 q, .int .u32 v]] w fun e w' => e = .returned (.tuple #[.int .u32 0, .bool false, .bool false]) ∧ Below w.heap.size w w' := by
  have H := Lib.hid ((Upon.start (fun _ => False) w).lay (.cells #[.int .i64 k, .int .i64 c, .int .i64 s, .int .i64 t, .int .i64 g, .int .u32 a, .int .i64 r, .bool su, .bool st, .int .i64 q, .int .u32 v] 29))
  obtain ⟨f0, f1, f2, f3, f4, f5, f6, f7, f8, f9, f10⟩ := frame_cells (H.out.get 0 rfl)
  have HC := Lib.hid (h.call (H.out.below (fun _ => id)))
  clear h
  go_enter Try.func59, Try.ntmps59
  go_upto_region 1 with fail
  generalize w.alloc _ = w1 at HC H f0 f1 f2 f3 f4 f5 f6 f7 f8 f9 f10 ⊢
  generalize w.heap.size = bF at H f0 f1 f2 f3 f4 f5 f6 f7 f8 f9 f10 ⊢
  go_wp2_with fail
  refine (dfind_no k c s t g a r q v su st hQ hz w1 HC.out).mono ?_
  rintro e w2 ⟨rfl, hb⟩
  have H2 := Lib.hid (H.out.call hb)
  clear hb H f0 f1 f2 f3 f4 f5 f6 f7 f8 f9 f10
  go_wp2_with fail
  go_ret3
  exact ⟨rfl, H2.out.below (fun _ => id)⟩
theorem dvalue_yes {P : Nat} {n : Int} {Q : List Dd.Cl} {L : Option Nat} {i : Nat} {x : Dd.Cl} (k c s t g a r q v : Int) (su st : Bool) (hQ : Q.length ≤ 1000000) (hz : Dd.At Q c a i x) (w : World) (h : Dc w P n Q L) : Calls Try.prog 59 #[.pointer (some ⟨P, 0, none⟩), .agg #[.int .i64 k, .int .i64 c, .int .i64 s, .int .i64 t, .int .i64 g, .int .u32 a, .int .i64 r, .bool su, .bool st, .int .i64 q, .int .u32 v]] w fun e w' => e = .returned (.tuple #[.int .u32 x.v, .bool x.o, .bool x.d]) ∧ Below w.heap.size w w' := by
  obtain ⟨G, off, cap, -, hd⟩ := h.some_ hz.lt
  have H := Lib.hid ((Upon.start (fun _ => False) w).lay (.cells #[.int .i64 k, .int .i64 c, .int .i64 s, .int .i64 t, .int .i64 g, .int .u32 a, .int .i64 r, .bool su, .bool st, .int .i64 q, .int .u32 v] 29))
  obtain ⟨f0, f1, f2, f3, f4, f5, f6, f7, f8, f9, f10⟩ := frame_cells (H.out.get 0 rfl)
  have HC := Lib.hid (hd.call (H.out.below (fun _ => id)))
  have HZ := Lib.hid hz
  clear h hd hz
  go_enter Try.func59, Try.ntmps59
  go_upto_region 1 with fail
  generalize w.alloc _ = w1 at HC H f0 f1 f2 f3 f4 f5 f6 f7 f8 f9 f10 ⊢
  generalize w.heap.size = bF at H f0 f1 f2 f3 f4 f5 f6 f7 f8 f9 f10 ⊢
  go_wp2_with fail
  refine (dfind_yes k c s t g a r q v su st hQ HZ.out w1 HC.out).mono ?_
  rintro e w2 ⟨rfl, hb⟩
  have H2 := Lib.hid (H.out.call hb)
  obtain ⟨-, -, -, x19, x20, x21, -⟩ := (HC.out.call hb).item HZ.out.at_
  clear hb H f0 f1 f2 f3 f4 f5 f6 f7 f8 f9 f10 HC
  go_wp2_with fail
  go_quiet (fail)
  have H3 := Lib.hid (H2.out.drewN nq)
  clear H2
  go_wp2_with fail
  go_ret3
  exact ⟨rfl, H3.out.below (fun _ => id)⟩

/-- Runs. -/
theorem druns_nil (k c s t g a r q v : Int) (su st : Bool) (w : World) : Calls Try.prog 38 #[.pointer none, .agg #[.int .i64 k, .int .i64 c, .int .i64 s, .int .i64 t, .int .i64 g, .int .u32 a, .int .i64 r, .bool su, .bool st, .int .i64 q, .int .u32 v]] w fun e w' => e = .returned (.int .i64 0) ∧ Below w.heap.size w w' := by
  have H := Lib.hid ((Upon.start (fun _ => False) w).lay (.cells #[.int .i64 k, .int .i64 c, .int .i64 s, .int .i64 t, .int .i64 g, .int .u32 a, .int .i64 r, .bool su, .bool st, .int .i64 q, .int .u32 v] 29))
  obtain ⟨f0, f1, f2, f3, f4, f5, f6, f7, f8, f9, f10⟩ := frame_cells (H.out.get 0 rfl)
  go_enter Try.func38, Try.ntmps38
  go_upto_region 1 with fail
  generalize w.alloc _ = w1 at H f0 f1 f2 f3 f4 f5 f6 f7 f8 f9 f10 ⊢
  generalize w.heap.size = bF at H f0 f1 f2 f3 f4 f5 f6 f7 f8 f9 f10 ⊢
  go_wp2_with fail
  refine (dfind_nil k c s t g a r q v su st w1).mono ?_
  rintro e w2 ⟨rfl, hb⟩
  have H2 := Lib.hid (H.out.call hb)
  clear hb H f0 f1 f2 f3 f4 f5 f6 f7 f8 f9 f10
  go_wp2_with fail
  go_ret
  exact ⟨rfl, H2.out.below (fun _ => id)⟩
theorem druns_no {P : Nat} {n : Int} {Q : List Dd.Cl} {L : Option Nat} (k c s t g a r q v : Int) (su st : Bool) (hQ : Q.length ≤ 1000000) (hz : Dd.Non Q c a) (w : World) (h : Dc w P n Q L) : Calls Try.prog 38 #[.pointer (some ⟨P, 0, none⟩), .agg #[.int .i64 k, .int .i64 c, .int .i64 s, .int .i64 t, .int .i64 g, .int .u32 a, .int .i64 r, .bool su, .bool st, .int .i64 q, .int .u32 v]] w fun e w' => e = .returned (.int .i64 0) ∧ Below w.heap.size w w' := by
  have H := Lib.hid ((Upon.start (fun _ => False) w).lay (.cells #[.int .i64 k, .int .i64 c, .int .i64 s, .int .i64 t, .int .i64 g, .int .u32 a, .int .i64 r, .bool su, .bool st, .int .i64 q, .int .u32 v] 29))
  obtain ⟨f0, f1, f2, f3, f4, f5, f6, f7, f8, f9, f10⟩ := frame_cells (H.out.get 0 rfl)
  have HC := Lib.hid (h.call (H.out.below (fun _ => id)))
  clear h
  go_enter Try.func38, Try.ntmps38
  go_upto_region 1 with fail
  generalize w.alloc _ = w1 at HC H f0 f1 f2 f3 f4 f5 f6 f7 f8 f9 f10 ⊢
  generalize w.heap.size = bF at H f0 f1 f2 f3 f4 f5 f6 f7 f8 f9 f10 ⊢
  go_wp2_with fail
  refine (dfind_no k c s t g a r q v su st hQ hz w1 HC.out).mono ?_
  rintro e w2 ⟨rfl, hb⟩
  have H2 := Lib.hid (H.out.call hb)
  clear hb H f0 f1 f2 f3 f4 f5 f6 f7 f8 f9 f10
  go_wp2_with fail
  go_ret
  exact ⟨rfl, H2.out.below (fun _ => id)⟩
theorem druns_yes {P : Nat} {n : Int} {Q : List Dd.Cl} {L : Option Nat} {i : Nat} {x : Dd.Cl} (k c s t g a r q v : Int) (su st : Bool) (hQ : Q.length ≤ 1000000) (hz : Dd.At Q c a i x) (w : World) (h : Dc w P n Q L) : Calls Try.prog 38 #[.pointer (some ⟨P, 0, none⟩), .agg #[.int .i64 k, .int .i64 c, .int .i64 s, .int .i64 t, .int .i64 g, .int .u32 a, .int .i64 r, .bool su, .bool st, .int .i64 q, .int .u32 v]] w fun e w' => e = .returned (.int .i64 x.r) ∧ Below w.heap.size w w' := by
  obtain ⟨G, off, cap, -, hd⟩ := h.some_ hz.lt
  have H := Lib.hid ((Upon.start (fun _ => False) w).lay (.cells #[.int .i64 k, .int .i64 c, .int .i64 s, .int .i64 t, .int .i64 g, .int .u32 a, .int .i64 r, .bool su, .bool st, .int .i64 q, .int .u32 v] 29))
  obtain ⟨f0, f1, f2, f3, f4, f5, f6, f7, f8, f9, f10⟩ := frame_cells (H.out.get 0 rfl)
  have HC := Lib.hid (hd.call (H.out.below (fun _ => id)))
  have HZ := Lib.hid hz
  clear h hd hz
  go_enter Try.func38, Try.ntmps38
  go_upto_region 1 with fail
  generalize w.alloc _ = w1 at HC H f0 f1 f2 f3 f4 f5 f6 f7 f8 f9 f10 ⊢
  generalize w.heap.size = bF at H f0 f1 f2 f3 f4 f5 f6 f7 f8 f9 f10 ⊢
  go_wp2_with fail
  refine (dfind_yes k c s t g a r q v su st hQ HZ.out w1 HC.out).mono ?_
  rintro e w2 ⟨rfl, hb⟩
  have H2 := Lib.hid (H.out.call hb)
  obtain ⟨-, -, x18, -⟩ := (HC.out.call hb).item HZ.out.at_
  clear hb H f0 f1 f2 f3 f4 f5 f6 f7 f8 f9 f10 HC
  go_wp2_with fail
  go_ret
  exact ⟨rfl, H2.out.below (fun _ => id)⟩

/-- Done. -/
theorem ddone_nil (k c s t g a r q v : Int) (su st ok : Bool) (V : Int) (w : World) : Calls Try.prog 34 #[.pointer none, .agg #[.int .i64 k, .int .i64 c, .int .i64 s, .int .i64 t, .int .i64 g, .int .u32 a, .int .i64 r, .bool su, .bool st, .int .i64 q, .int .u32 v], .bool ok, .int .u32 V] w fun e w' => e = .returned (.tuple #[]) ∧ Below w.heap.size w w' := by
  have H := Lib.hid ((Upon.start (fun _ => False) w).lay (.cells #[.int .i64 k, .int .i64 c, .int .i64 s, .int .i64 t, .int .i64 g, .int .u32 a, .int .i64 r, .bool su, .bool st, .int .i64 q, .int .u32 v] 29))
  obtain ⟨f0, f1, f2, f3, f4, f5, f6, f7, f8, f9, f10⟩ := frame_cells (H.out.get 0 rfl)
  go_enter Try.func34, Try.ntmps34
  go_upto_region 1 with fail
  generalize w.alloc _ = w1 at H f0 f1 f2 f3 f4 f5 f6 f7 f8 f9 f10 ⊢
  generalize w.heap.size = bF at H f0 f1 f2 f3 f4 f5 f6 f7 f8 f9 f10 ⊢
  go_wp2_with fail
  refine (dfind_nil k c s t g a r q v su st w1).mono ?_
  rintro e w2 ⟨rfl, hb⟩
  have H2 := Lib.hid (H.out.call hb)
  clear hb H f0 f1 f2 f3 f4 f5 f6 f7 f8 f9 f10
  go_wp2_with fail
  refine bodyPost_ret (results_none rfl _ _ _) rfl ?_
  exact ⟨rfl, H2.out.below (fun _ => id)⟩
theorem ddone_no {P : Nat} {n : Int} {Q : List Dd.Cl} {L : Option Nat} (k c s t g a r q v : Int) (su st ok : Bool) (V : Int) (hQ : Q.length ≤ 1000000) (hz : Dd.Non Q c a) (w : World) (h : Dc w P n Q L) : Calls Try.prog 34 #[.pointer (some ⟨P, 0, none⟩), .agg #[.int .i64 k, .int .i64 c, .int .i64 s, .int .i64 t, .int .i64 g, .int .u32 a, .int .i64 r, .bool su, .bool st, .int .i64 q, .int .u32 v], .bool ok, .int .u32 V] w fun e w' => e = .returned (.tuple #[]) ∧ Below w.heap.size w w' := by
  have H := Lib.hid ((Upon.start (fun _ => False) w).lay (.cells #[.int .i64 k, .int .i64 c, .int .i64 s, .int .i64 t, .int .i64 g, .int .u32 a, .int .i64 r, .bool su, .bool st, .int .i64 q, .int .u32 v] 29))
  obtain ⟨f0, f1, f2, f3, f4, f5, f6, f7, f8, f9, f10⟩ := frame_cells (H.out.get 0 rfl)
  have HC := Lib.hid (h.call (H.out.below (fun _ => id)))
  clear h
  go_enter Try.func34, Try.ntmps34
  go_upto_region 1 with fail
  generalize w.alloc _ = w1 at HC H f0 f1 f2 f3 f4 f5 f6 f7 f8 f9 f10 ⊢
  generalize w.heap.size = bF at H f0 f1 f2 f3 f4 f5 f6 f7 f8 f9 f10 ⊢
  go_wp2_with fail
  refine (dfind_no k c s t g a r q v su st hQ hz w1 HC.out).mono ?_
  rintro e w2 ⟨rfl, hb⟩
  have H2 := Lib.hid (H.out.call hb)
  clear hb H f0 f1 f2 f3 f4 f5 f6 f7 f8 f9 f10
  go_wp2_with fail
  refine bodyPost_ret (results_none rfl _ _ _) rfl ?_
  exact ⟨rfl, H2.out.below (fun _ => id)⟩
theorem ddone_old {P : Nat} {n : Int} {Q : List Dd.Cl} {L : Option Nat} {i : Nat} {x : Dd.Cl} (k c s t g a r q v : Int) (su st ok : Bool) (V : Int) (hQ : Q.length ≤ 1000000) (hz : Dd.At Q c a i x) (hx : x.d = true) (w : World) (h : Dc w P n Q L) : Calls Try.prog 34 #[.pointer (some ⟨P, 0, none⟩), .agg #[.int .i64 k, .int .i64 c, .int .i64 s, .int .i64 t, .int .i64 g, .int .u32 a, .int .i64 r, .bool su, .bool st, .int .i64 q, .int .u32 v], .bool ok, .int .u32 V] w fun e w' => e = .returned (.tuple #[]) ∧ Below w.heap.size w w' := by
  obtain ⟨G, off, cap, -, hd⟩ := h.some_ hz.lt
  have H := Lib.hid ((Upon.start (fun _ => False) w).lay (.cells #[.int .i64 k, .int .i64 c, .int .i64 s, .int .i64 t, .int .i64 g, .int .u32 a, .int .i64 r, .bool su, .bool st, .int .i64 q, .int .u32 v] 29))
  obtain ⟨f0, f1, f2, f3, f4, f5, f6, f7, f8, f9, f10⟩ := frame_cells (H.out.get 0 rfl)
  have HC := Lib.hid (hd.call (H.out.below (fun _ => id)))
  have HZ := Lib.hid hz
  clear h hd hz
  go_enter Try.func34, Try.ntmps34
  go_upto_region 1 with fail
  generalize w.alloc _ = w1 at HC H f0 f1 f2 f3 f4 f5 f6 f7 f8 f9 f10 ⊢
  generalize w.heap.size = bF at H f0 f1 f2 f3 f4 f5 f6 f7 f8 f9 f10 ⊢
  go_wp2_with fail
  refine (dfind_yes k c s t g a r q v su st hQ HZ.out w1 HC.out).mono ?_
  rintro e w2 ⟨rfl, hb⟩
  have H2 := Lib.hid (H.out.call hb)
  obtain ⟨-, -, -, x19, -⟩ := (HC.out.call hb).item HZ.out.at_
  rw [hx] at x19
  clear hb H f0 f1 f2 f3 f4 f5 f6 f7 f8 f9 f10 HC
  go_wp2_with fail
  refine bodyPost_ret (results_none rfl _ _ _) rfl ?_
  exact ⟨rfl, H2.out.below (fun _ => id)⟩
set_option maxHeartbeats 1000000 in
theorem ddone_yes {P : Nat} {n : Int} {Q : List Dd.Cl} {L : Option Nat} {i : Nat} {x : Dd.Cl} (k c s t g a r q v : Int) (su st ok : Bool) (V : Int) (hQ : Q.length ≤ 1000000) (hz : Dd.At Q c a i x) (hx : x.d = false) (w : World) (h : Dc w P n Q L) : Calls Try.prog 34 #[.pointer (some ⟨P, 0, none⟩), .agg #[.int .i64 k, .int .i64 c, .int .i64 s, .int .i64 t, .int .i64 g, .int .u32 a, .int .i64 r, .bool su, .bool st, .int .i64 q, .int .u32 v], .bool ok, .int .u32 V] w fun e w' => e = .returned (.tuple #[]) ∧ Dc w' P n (Q.set i (x.done ok V)) L ∧ Rest (fun k => L = some k) w w' := by
  obtain ⟨G, off, cap, rfl, hd⟩ := h.some_ hz.lt
  have H := Lib.hid ((Upon.start (fun _ => False) w).lay (.cells #[.int .i64 k, .int .i64 c, .int .i64 s, .int .i64 t, .int .i64 g, .int .u32 a, .int .i64 r, .bool su, .bool st, .int .i64 q, .int .u32 v] 29))
  obtain ⟨f0, f1, f2, f3, f4, f5, f6, f7, f8, f9, f10⟩ := frame_cells (H.out.get 0 rfl)
  have HC := Lib.hid (hd.call (H.out.below (fun _ => id)))
  have HZ := Lib.hid hz
  clear h hd hz
  go_enter Try.func34, Try.ntmps34
  go_upto_region 1 with fail
  generalize w.alloc _ = w1 at HC H f0 f1 f2 f3 f4 f5 f6 f7 f8 f9 f10 ⊢
  generalize w.heap.size = bF at H f0 f1 f2 f3 f4 f5 f6 f7 f8 f9 f10 ⊢
  go_wp2_with fail
  refine (dfind_yes k c s t g a r q v su st hQ HZ.out w1 HC.out).mono ?_
  rintro e w2 ⟨rfl, hb⟩
  have H2 := Lib.hid (H.out.call hb).rest
  have HD := Lib.hid (HC.out.call hb)
  obtain ⟨-, -, -, x19, x20, x21, -, fz⟩ := HD.out.item HZ.out.at_
  have e19 := fz (off + i * 22 + 19)
  have e20 := fz (off + i * 22 + 20)
  have e21 := fz (off + i * 22 + 21)
  have h1 := HD.out.write HZ.out.at_ (x' := { x with d := true }) 19 (by decide) rfl (v := .bool true) rfl
  have h2 := h1.write (List.getElem?_set_self HZ.out.lt) (x' := { x with d := true, o := ok }) 20 (by decide) rfl (v := .bool ok) rfl
  have h3 := h2.write (List.getElem?_set_self (by rw [List.length_set]; exact HZ.out.lt)) (x' := x.done ok V) 21 (by decide) rfl (v := .int .u32 V) rfl
  rw [List.set_set, List.set_set] at h3
  have H3 := Lib.hid h3
  rw [hx] at x19
  clear hb H f0 f1 f2 f3 f4 f5 f6 f7 f8 f9 f10 HC h1 h2 h3 fz HD
  go_wp2_with fail
  go_end0
  have s : ∀ (w : World) (i : Nat) (v : Value), Rest (fun k => some G = some k) w (w.setCell ⟨G, i, none⟩ v) := fun w i v => Rest.setCell _ _ _ rfl
  have u : ∀ {a b c : World}, Rest (fun k => some G = some k) a b → Rest (fun k => some G = some k) b c → Rest (fun k => some G = some k) a c := fun h k => h.trans k (fun _ _ x => x) (fun _ _ x => x)
  exact ⟨rfl, H3.out.dc, u (H2.out.mono (fun _ _ => False.elim)) (u (u (s _ _ _) (s _ _ _)) (s _ _ _))⟩
end Go.Proofs.Ytgboiejiodgcnaa

/- The contracts of first and Meet: what becomes of a request. -/
namespace Go.Proofs.Ytgboiejiodgcnaa
open Go.RowKit Go.Sort

/-- One is put behind the row, or into the first one. -/
theorem Dc.add {w : World} {P : Nat} {n : Int} {q : List Dd.Cl} {L : Option Nat} (h : Dc w P n q L) (hq : q.length ≤ 1000) (x : Dd.Cl) {b : Nat} (hb : w.heap[b]? = some (.cells x.cells.toArray 84 (0, 0))) {a : Option Addr} {c : Nat} (hP : w.heap[P]? = some (.cells #[.int .i64 n, .slice a q.length c] 64 (0, 0))) (ty : TypeId) :
    ∃ g' off' cap' w', (Builtin.append_ #[62, 62] ty #[.slice a q.length c, .slice (some ⟨b, 0, none⟩) 1 1]).run Try.prog w = .ok (.slice (some ⟨g', off', none⟩) (q.length + 1) cap') w' ∧ w'.heap[P]? = w.heap[P]? ∧ Rest (fun k => L = some k) w w' ∧ w'.frozen? ⟨P, 1, none⟩ = false ∧
      Dc (w'.setCell ⟨P, 1, none⟩ (.slice (some ⟨g', off', none⟩) (q.length + 1) cap')) P n (q ++ [x]) (some g') ∧ (L = some g' ∨ w.heap.size ≤ g') ∧ Rest (fun k => k = P ∨ L = some k) w (w'.setCell ⟨P, 1, none⟩ (.slice (some ⟨g', off', none⟩) (q.length + 1) cap')) := by
  obtain ⟨i, z, hi, hz, hzs, hs, hby⟩ := Try.bigCall.info
  have hl : (q ++ [x]).length = q.length + 1 := by simp
  have hPl := lt_of_block hP
  rcases h with ⟨rfl, rfl, hblk⟩ | ⟨g, off, cap, rfl, hd⟩
  · rw [hP] at hblk
    obtain ⟨rfl, rfl⟩ : a = none ∧ c = 0 := by simpa using hblk
    obtain ⟨g', off', cap', w', h1, h2, h3, h4⟩ := run_append_nilK (P := Try.prog) w 62 ty 0 22 84 i z i.bytes Try.underlying62 hi hz hs rfl hzs (by decide) ⟨b, 0, none⟩ 1 1 (Dd.itm.flat [x]) (by rw [Dd.itm.flat_length]; rfl) (by decide) (Dd.itm.box x hb) (Dd.itm.flat_ones _) (by unfold maxLen; omega) (by omega) (Nat.zero_le _)
    have hP' : w'.heap[P]? = w.heap[P]? := h3.block P hPl (fun e => by cases e)
    have hgP : g' ≠ P := by omega
    refine ⟨g', off', cap', w', h1, hP', Rest.grown h3 (fun _ e => by cases e), frozen_of_row _ _ _ _ _ (hP'.trans hP), .inr ⟨g', off', cap', rfl, hgP, ?_, ?_⟩, .inr h4, ?_⟩
    · exact heap_setCell_same _ P 1 _ _ _ (hP'.trans hP)
    · exact h2.kept (heap_setCell_other _ _ _ _ hgP)
    · exact (Rest.grown (own := fun _ => False) h3 (fun _ e => by cases e)).trans (o3 := fun k => k = P ∨ none = some k) (Rest.setCell (own := fun k => k = P) _ _ _ rfl) (fun _ _ => False.elim) (fun _ _ => .inl)
  · have hblk := hd.blk
    rw [hP] at hblk
    obtain ⟨rfl, rfl⟩ : a = some ⟨g, off, none⟩ ∧ c = cap := by simpa using hblk
    obtain ⟨g', off', cap', w', h1, h2, h3, h4⟩ := Dd.itm.run_add (P := Try.prog) (ts := 62) (ty := ty) Try.underlying62 hi hz hs rfl hzs (by decide) hby hd.row (by omega) (ys := [x]) (m := 1) (c := 1) rfl (by decide) (ad := ⟨b, 0, none⟩) (Dd.itm.box x hb) (Nat.zero_le _)
    have hP' : w'.heap[P]? = w.heap[P]? := h3.block P hPl (fun e => by cases e; exact hd.ne rfl)
    have hgP : g' ≠ P := by
      rcases h4 with e | e
      · rw [e]; exact hd.ne
      · omega
    refine ⟨g', off', cap', w', h1, hP', Rest.grown h3 (fun _ e => e), frozen_of_row _ _ _ _ _ (hP'.trans hP), .inr ⟨g', off', cap', rfl, hgP, ?_, ?_⟩, ?_, ?_⟩
    · rw [hl]; exact heap_setCell_same _ P 1 _ _ _ (hP'.trans hP)
    · rw [hl]; exact h2.kept (heap_setCell_other _ _ _ _ hgP)
    · exact h4.imp (fun e => by rw [e]) id
    · exact (Rest.grown (own := fun k => some g = some k) h3 (fun _ e => e)).trans (o3 := fun k => k = P ∨ some g = some k) (Rest.setCell (own := fun k => k = P) _ _ _ rfl) (fun _ _ => .inr) (fun _ _ => .inl)

theorem Try.builtCall (c a : Int) : Try.prog.built 84 [(0, .agg #[.int .i64 c, .int .u32 a]), (2, .int .i64 1)] = some (Dd.Cl.cells ⟨c, a, fun _ => false, 1, false, false, 0⟩).toArray := by kernel_rfl
/-- first. -/
theorem dfirst_full {P : Nat} {n : Int} {Q : List Dd.Cl} {L : Option Nat} (k c s t g a r q v : Int) (su st : Bool) (hn : n ≤ (Q.length : Int)) (w : World) (h : Dc w P n Q L) : Calls Try.prog 58 #[.pointer (some ⟨P, 0, none⟩), .agg #[.int .i64 k, .int .i64 c, .int .i64 s, .int .i64 t, .int .i64 g, .int .u32 a, .int .i64 r, .bool su, .bool st, .int .i64 q, .int .u32 v]] w fun e w' => e = .returned (.int .i64 4) ∧ Below w.heap.size w w' := by
  have H := Lib.hid ((Upon.start (fun _ => False) w).lay (.cells #[.int .i64 k, .int .i64 c, .int .i64 s, .int .i64 t, .int .i64 g, .int .u32 a, .int .i64 r, .bool su, .bool st, .int .i64 q, .int .u32 v] 29))
  have HC := Lib.hid (h.call (H.out.below (fun _ => id)))
  have hd : decide (n ≤ (Q.length : Int)) = true := decide_eq_true hn
  clear h
  go_enter Try.func58, Try.ntmps58
  go_upto_region 1 with fail
  generalize w.alloc _ = w1 at HC H ⊢
  generalize w.heap.size = bF at H ⊢
  obtain ⟨sa, sc, hP⟩ := HC.out.shape
  obtain ⟨p0, p1⟩ := two_cells hP
  have hL := fun m => dlen_any (w1.drewN m) (HC.out.call ⟨rfl, rfl, rfl, Nat.le_refl _, fun _ _ => rfl⟩)
  clear hP
  go_quiet (first | (go_at_call 30; exact Calls.quiet_of_same ((hL _).mono (fun _ _ h => And.intro h.1 h.2.symm))) | fail)
  have H3 := Lib.hid (H.out.drewN nq)
  clear H
  go_wp2_with fail
  go_ret
  exact ⟨rfl, H3.out.below (fun _ => id)⟩

set_option maxRecDepth 10000 in
set_option maxHeartbeats 2000000 in
theorem dfirst_yes {P : Nat} {n : Int} {Q : List Dd.Cl} {L : Option Nat} {T : Nat} (k c s t g a q v : Int) (su st : Bool) (hT : T < 16) (hn : (Q.length : Int) < n) (hQ : Q.length ≤ 1000) (w : World) (h : Dc w P n Q L) : Calls Try.prog 58 #[.pointer (some ⟨P, 0, none⟩), .agg #[.int .i64 k, .int .i64 c, .int .i64 s, .int .i64 t, .int .i64 g, .int .u32 a, .int .i64 (T : Int), .bool su, .bool st, .int .i64 q, .int .u32 v]] w fun e w' => e = .returned (.int .i64 0) ∧ ∃ L', Dc w' P n (Q ++ [Dd.first c a T]) L' ∧ (L' = L ∨ ∀ j, L' = some j → w.heap.size ≤ j) ∧ Rest (fun j => j = P ∨ L = some j) w w' := by
  have H := Lib.hid ((Upon.start (fun _ => False) w).lay (.cells #[.int .i64 k, .int .i64 c, .int .i64 s, .int .i64 t, .int .i64 g, .int .u32 a, .int .i64 (T : Int), .bool su, .bool st, .int .i64 q, .int .u32 v] 29))
  have HC := Lib.hid (h.call (H.out.below (fun _ => id)))
  have hd : decide (n ≤ (Q.length : Int)) = false := decide_eq_false (by omega)
  have HC0 := Lib.hid h
  have HPL := Lib.hid h.lt
  clear h hn
  go_enter Try.func58, Try.ntmps58
  go_upto_region 1 with fail
  generalize w.alloc _ = w1 at HC H ⊢
  generalize w.heap.size = bF at H ⊢
  obtain ⟨sa, sc, hP⟩ := HC.out.shape
  obtain ⟨p0, p1⟩ := two_cells hP
  have hL := fun m => dlen_any (w1.drewN m) (HC.out.call ⟨rfl, rfl, rfl, Nat.le_refl _, fun _ _ => rfl⟩)
  have HP := Lib.hid hP
  clear hP
  go_quiet (first | (go_at_call 30; exact Calls.quiet_of_same ((hL _).mono (fun _ _ h => And.intro h.1 h.2.symm))) | fail)
  have H2 := Lib.hid (H.out.drewN nq)
  have HC2 := Lib.hid (HC.out.call (w' := w1.drewN nq) ⟨rfl, rfl, rfl, Nat.le_refl _, fun _ _ => rfl⟩)
  have HP2 : Hid ((w1.drewN nq).heap[P]? = _) := HP
  clear H HC p0 p1 hL HP
  generalize w1.drewN nq = w2 at H2 HC2 HP2 ⊢
  obtain ⟨f0, f1, f2, f3, f4, f5, f6, f7, f8, f9, f10⟩ := frame_cells (H2.out.get 0 rfl)
  go_wp2_with fail
  refine (dof_any k c s t g a (T : Int) q v su st w2).mono ?_
  rintro e w3 ⟨rfl, hb⟩
  dsimp only
  refine ‹∀ (a : Act) (w : World), wpList _ _ _ _ a w → _› _ _ ?_
  refine Great.wpList_runTo rfl _ rfl (.agg (Dd.Cl.cells ⟨c, a, fun _ => false, 1, false, false, 0⟩).toArray) _ (exec_build_is [(0, .tmp 14), (2, .const (.int .i64 1))] rfl (by exact Try.builtCall c a)) ?_
  simp only [Act.put, List.setIfInBounds_toArray, List.set_cons_zero, List.set_cons_succ]
  obtain ⟨z, hz, hal⟩ := exec_alloc_big Try.bigCall
  refine Great.wpList_runTo rfl _ rfl _ _ (by exact hal _ _ rfl _) ?_
  simp only [Act.put, List.setIfInBounds_toArray, List.set_cons_zero, List.set_cons_succ]
  refine wpList_store_new Try.bigCall rfl (.tmp 5) (.tmp 15) rfl rfl rfl hz rfl (Dd.itm.one _) ?_
  try simp only [Act.put]
  have H3 := Lib.hid ((H2.out.call hb).lay (.cells (Dd.Cl.cells ⟨c, a, fun _ => false, 1, false, false, 0⟩).toArray 84))
  have hb2 := on hb (below_box w3 (.cells (Dd.Cl.cells ⟨c, a, fun _ => false, 1, false, false, 0⟩).toArray 84))
  have HC3 := Lib.hid (HC2.out.call hb2)
  have HP3 := Lib.hid (keep HP2.out hb2)
  clear hb hb2 H2 HC2 HP2 f0 f1 f2 f3 f4 f5 f6 f7 f8 f9 f10
  go_upto_region 4 with fail
  generalize w3.alloc _ = w4 at H3 HC3 HP3 ⊢
  generalize w3.heap.size = bK at H3 ⊢
  obtain ⟨f0, f1, f2, f3, f4, f5, f6, f7, f8, f9, f10⟩ := frame_cells (H3.out.get 1 rfl)
  have m0 := (cell_of_row _ _ _ _ _ _ (H3.out.get 0 rfl)).trans ((List.getElem?_toArray).trans (Dd.cells_met _ T hT))
  have fz := frozen_of_row _ _ (2 + T) _ _ (H3.out.get 0 rfl)
  go_upto_region 5 with fail
  have hK : (w4.setCell ⟨bK, 2 + T, none⟩ (.bool true)).heap[bK]? = some (.cells (Dd.first c a T).cells.toArray 84 (0, 0)) := by
    refine (heap_setCell_same _ _ (2 + T) _ _ _ (H3.out.get 0 rfl)).trans ?_
    rw [List.setIfInBounds_toArray, ← Dd.cells_tick _ hT]
    rfl
  have h5 := (H3.out.set hK).drew
  have hne : P ≠ bK := by
    have h1 := H3.out.of 0 rfl
    have h2 := HPL.out
    rcases h1 with h1 | h1
    · exact h1.elim
    · omega
  have hP5 := (Below.heap_setCell w4 ⟨bK, 2 + T, none⟩ (.bool true) P hne).trans HP3.out
  have hr5 : Rest (fun _ => False) w (w4.setCell ⟨bK, 2 + T, none⟩ (.bool true)).drew := h5.rest
  have hc5 : Dc (w4.setCell ⟨bK, 2 + T, none⟩ (.bool true)).drew P n Q L := HC0.out.kept hr5 (fun x => x) (fun _ _ x => x)
  have H5 := Lib.hid h5
  have HC5 := Lib.hid hc5
  have HR5 := Lib.hid hr5
  have HSZ := Lib.hid HC0.out.lt
  clear h5 hc5 hr5 H3 HC3 HP3 f0 f1 f2 f3 f4 f5 f6 f7 f8 f9 f10 m0 fz hne HPL
  refine wp_region_Z_drew 10 (S := fun w' => w'.heap[P]? = some (.cells #[.int .i64 n, .slice sa Q.length sc] 64 (0, 0)) ∧ w'.heap[bK]? = some (.cells (Dd.first c a T).cells.toArray 84 (0, 0))) (by kernel_rfl) ⟨hP5, hK⟩ (fun hHeld => ?_)
  generalize (w4.setCell ⟨bK, 2 + T, none⟩ (.bool true)).drew = w5 at H5 HC5 HR5 hHeld ⊢
  clear hK hP5
  refine wpAnyZ_yield 0 (.pointer (some ⟨P, 0, none⟩)) rfl (by kernel_rfl) (by kernel_rfl) (by kernel_rfl) (fun d _ _ _ h => by cases d <;> exact h) (by rfl) (by assumption) (fun _ _ => by go_simp) ?_
  simp only [Act.put, List.setIfInBounds_toArray, List.set_cons_zero, List.set_cons_succ]
  refine wpAnyZ_yield 1 (.pointer (some ⟨P, 0, none⟩)) rfl (by kernel_rfl) (by kernel_rfl) (by kernel_rfl) (fun d _ _ _ h => by cases d <;> exact h) (by rfl) (by assumption) (fun _ _ => by go_simp) ?_
  simp only [Act.put, List.setIfInBounds_toArray, List.set_cons_zero, List.set_cons_succ]
  refine wpAnyZ_yield 2 (.pointer (some ⟨P, 0, none⟩)) rfl (by kernel_rfl) (by kernel_rfl) (by kernel_rfl) (fun d _ _ _ h => by cases d <;> exact h) (by rfl) (by assumption) (fun _ _ => by go_simp) ?_
  simp only [Act.put, List.setIfInBounds_toArray, List.set_cons_zero, List.set_cons_succ]
  refine wpAnyZ_yield 3 (.pointer (some ⟨P, 1, none⟩)) rfl (by kernel_rfl) (by kernel_rfl) (by kernel_rfl) (fun d _ _ _ h => by cases d <;> exact h) (by rfl) (by assumption) (fun _ _ => by go_simp) ?_
  simp only [Act.put, List.setIfInBounds_toArray, List.set_cons_zero, List.set_cons_succ]
  refine wpAnyZ_yield 4 (.slice sa Q.length sc) rfl (by kernel_rfl) (by kernel_rfl) (by kernel_rfl) (fun d _ _ _ h => by cases d <;> exact h) (by rfl) (by assumption) (fun _ hSw => by have hcs := two_cells hSw.1; go_simp) ?_
  simp only [Act.put, List.setIfInBounds_toArray, List.set_cons_zero, List.set_cons_succ]
  refine wpAnyZ_yield 5 (.agg (Dd.first c a T).cells.toArray) rfl (by kernel_rfl) (by kernel_rfl) (by kernel_rfl) (fun d _ _ _ h => by cases d <;> exact h) (by rfl) (by assumption) (fun _ hSw => exec_load_mid Try.bigCall (.tmp 5) rfl rfl rfl (range_of_box hSw.2)) ?_
  simp only [Act.put, List.setIfInBounds_toArray, List.set_cons_zero, List.set_cons_succ]
  refine wpAnyZ_ready (rs := [6]) (by kernel_rfl) (by simp) (AllReadyZ.cons rfl (fun K hK => ?_) AllReadyZ.nil)
  refine step_slice_one Try.bigCall (by decide) (by decide) Try.underlying62 rfl (.tmp 25) rfl rfl rfl ?_
  have hb6 := below_box w5 (.cells (Dd.first c a T).cells.toArray 84)
  have hB6 := heap_alloc_new w5 (.cells (Dd.first c a T).cells.toArray 84)
  have hS6 : _ ∧ _ := ⟨keep hHeld.1 hb6, keep hHeld.2 hb6⟩
  have hc6 := HC5.out.call hb6
  have hr6 := HR5.out.trans (o3 := fun _ => False) (Rest.of_below (own := fun _ => False) hb6) (fun _ _ => id) (fun _ _ => id)
  have hK6 := H5.out.of 0 rfl
  generalize w5.alloc _ = w6 at hB6 hS6 hc6 hr6 ⊢
  generalize w5.heap.size = bN at hB6 ⊢
  clear hb6 HC5 HR5 H5 hHeld
  refine hK.out _ _ (fun _ => hS6) (fun hZ => ?_)
  have hHeld := hZ (by decide)
  clear hK K hZ
  try simp only [Act.put, List.setIfInBounds_toArray]
  obtain ⟨g', off', cap', w7, hrun, hP7, hx7, hf7, hc7, hl7, hr7⟩ := hc6.add hQ (Dd.first c a T) hB6 hS6.1 62
  have hLK : L ≠ some bK := fun e => by
    have h1 := (HC0.out.row e).1
    rcases hK6 with h2 | h2
    · exact h2
    · omega
  have hS7 : _ ∧ _ := ⟨hP7.trans hS6.1, (hx7.block _ (lt_of_block hS6.2) hLK).trans hS6.2⟩
  have HE := Lib.hid (And.intro hc7 (And.intro hl7 (And.intro hr7 hr6)))
  have c7 := (two_cells hS7.1).2
  clear hc7 hl7 hr7 hr6 hK6 hLK hc6 hP7 hx7 hS6 hB6
  refine wpAnyZ_ready (rs := [7]) (by kernel_rfl) (by simp) (AllReadyZ.cons rfl (fun K hK => ?_) AllReadyZ.nil)
  refine step_append_run rfl _ _ 62 rfl rfl rfl hrun ?_
  refine hK.out _ _ (fun _ => hS7) (fun hZ => ?_)
  have hHeld := hZ (by decide)
  clear hK K hZ hrun
  try simp only [Act.put]
  refine wpAnyZ_ready (rs := [8]) (by kernel_rfl) (by simp) (AllReadyZ.cons rfl (fun K hK => ?_) AllReadyZ.nil)
  go_simp
  refine hK.out _ _ (fun _ => hHeld) (fun hZ => ?_)
  have hHeld := hZ (by decide)
  clear hK K hZ
  try simp only [Act.put, List.setIfInBounds_toArray, List.set_cons_zero, List.set_cons_succ]
  refine wpAnyZ_yield 9 (.pointer (some ⟨P, 1, none⟩)) rfl (by kernel_rfl) (by kernel_rfl) (by kernel_rfl) (fun d _ _ _ h => by cases d <;> exact h) (by rfl) (by assumption) (fun _ _ => by go_simp) ?_
  simp only [Act.put, List.setIfInBounds_toArray, List.set_cons_zero, List.set_cons_succ]
  refine wpAnyZ_ready (rs := [10]) (by kernel_rfl) (by simp) (AllReadyZ.cons rfl (fun K hK => ?_) AllReadyZ.nil)
  go_simp
  refine hK.out _ _ (fun h => absurd rfl h) (fun _ => ?_)
  clear hK K
  try simp only [Act.put, List.setIfInBounds_toArray, List.set_cons_zero, List.set_cons_succ]
  refine wpAnyZ_done (by kernel_rfl) ?_ _
  clear hHeld hS7 c7 hf7
  go_wp2_with fail
  go_ret
  obtain ⟨hc7, hl7, hr7, hr6⟩ := HE.out
  refine ⟨rfl, some g', hc7, ?_, hr6.trans hr7 (fun _ _ => False.elim) (fun _ _ => id)⟩
  rcases hl7 with e | e
  · exact .inl e.symm
  · exact .inr (fun j hj => by cases hj; have := hr6.size; omega)
end Go.Proofs.Ytgboiejiodgcnaa
