/- The document's own list of alarms: Put. -/
import Derived.Test.YtcjidobdbdfjlaaRfB
import Derived.Test.YtcjidobdbdfjlaaResT
namespace Go.Proofs.Ytcjidobdbdfjlaa
open Go.RowKit Go.Sort

namespace Rf
/-- Laid before the first one that is later. -/
def put (x : En) : List En → List En
  | [] => [x]
  | b :: r => if x.t < b.t then x :: b :: r else b :: put x r
/-- Has one later come by? -/
def seen (x : En) (l : List En) : Bool := l.any fun b => decide (x.t < b.t)
theorem seen_next (x : En) {l : List En} {k : Nat} (h : k < l.length) : seen x (l.take (k + 1)) = (seen x (l.take k) || decide (x.t < (Hp.e l k).t)) := by
  rw [take_next h]; simp [seen]
theorem put_seen (x : En) (r : List En) : ∀ {l}, seen x l = true → put x (l ++ r) = put x l ++ r
  | [], h => by simp [seen] at h
  | b :: l, h => by
    by_cases hb : x.t < b.t
    · simp [put, hb]
    · have : seen x l = true := by simpa [seen, hb] using h
      simp [put, hb, put_seen x r this]
theorem put_none (x : En) (r : List En) : ∀ {l}, seen x l = false → put x (l ++ r) = l ++ put x r
  | [], _ => rfl
  | b :: l, h => by
    have hb : ¬x.t < b.t := fun hb => by simp [seen, hb] at h
    have : seen x l = false := by simpa [seen, hb] using h
    simp [put, hb, put_none x r this]
/-- What lies there when k have come by. -/
def part (x : En) (l : List En) (k : Nat) : List En := if seen x (l.take k) then put x (l.take k) else l.take k
theorem part_zero (x : En) (l : List En) : part x l 0 = [] := by simp [part, seen]
theorem part_end (x : En) (l : List En) : put x l = if seen x (l.take l.length) then part x l l.length else part x l l.length ++ [x] := by
  unfold part
  rw [List.take_length]
  cases h : seen x l
  · have := put_none x [] h
    rw [List.append_nil] at this
    simpa [put] using this
  · simp
theorem part_seen (x : En) {l : List En} {k : Nat} (h : k < l.length) (hs : seen x (l.take k) = true) : part x l (k + 1) = part x l k ++ [Hp.e l k] := by
  unfold part
  rw [seen_next x h, hs, Bool.true_or, if_pos rfl, if_pos rfl, take_next h, put_seen x _ hs]
theorem part_first (x : En) {l : List En} {k : Nat} (h : k < l.length) (hs : seen x (l.take k) = false) (ht : x.t < (Hp.e l k).t) : part x l (k + 1) = (part x l k ++ [x]) ++ [Hp.e l k] := by
  unfold part
  rw [seen_next x h, hs, decide_eq_true ht, Bool.or_true, if_pos rfl, if_neg Bool.false_ne_true, take_next h, put_none x _ hs]
  simp [put, ht]
theorem part_past (x : En) {l : List En} {k : Nat} (h : k < l.length) (hs : seen x (l.take k) = false) (ht : ¬x.t < (Hp.e l k).t) : part x l (k + 1) = part x l k ++ [Hp.e l k] := by
  unfold part
  rw [seen_next x h, hs, decide_eq_false ht, Bool.or_false, if_neg Bool.false_ne_true, if_neg Bool.false_ne_true, take_next h]
theorem put_length (x : En) : ∀ l, (put x l).length = l.length + 1
  | [] => rfl
  | b :: r => by unfold put; split <;> simp [put_length x r]
theorem part_le (x : En) (l : List En) (k : Nat) : (part x l k).length ≤ l.length + 1 := by
  unfold part
  split
  · rw [put_length, List.length_take]; omega
  · rw [List.length_take]; omega
end Rf

/-- Two cells of a block. -/
theorem two_cells13 {w : World} {B : Nat} {t : TypeId} {c0 c1 : Value} (h : w.heap[B]? = some (.cells #[c0, c1] t (0, 0))) :
    w.cell? ⟨B, 0, none⟩ = some c0 ∧ w.cell? ⟨B, 1, none⟩ = some c1 := ⟨cell_of_row _ _ _ _ _ _ h, cell_of_row _ _ _ _ _ _ h⟩

set_option maxHeartbeats 1000000 in
/-- One that never comes, or one too many: nothing is laid. -/
theorem put_no {B : Nat} {a : Option Addr} {c : Nat} {l : List En} (n : Int) (x : En) (w : World) (_ : Lz w B a c l) (hm : l.length ≤ 1000) (hx : Tk.clamp x.t = 1099511627776 ∨ 256 ≤ l.length) :
    Calls Try.prog 11 #[.agg #[.slice a l.length c, .int .i64 n], .agg (Hp.alarm x).toArray] w fun e w' => e = .returned (.tuple #[.agg #[.slice a l.length c, .int .i64 n], .bool false]) ∧ Rest (fun _ => False) w w' := by
  have hcl := fun w => rclamp_any x.t w
  simp only [Hp.alarm]
  have hk : (256 ≤ (l.length : Int)) = (256 ≤ l.length) := by simp only [eq_iff_iff]; omega
  generalize Tk.clamp x.t = y at hcl hx
  go_enter Try.func11, Try.ntmps11
  go_wp2_with fail
  refine (hcl _).mono ?_
  rintro e w1 ⟨rfl, rfl⟩
  obtain ⟨hb1, hb2, hb3, hsz, hrs⟩ := three_boxes w (.cells #[.slice a l.length c, .int .i64 n] 28) (.cells #[.int .i64 x.t, .int .i64 x.c, .int .i64 x.s, .int .i64 x.g, .int .i64 x.x] 30) (.cells #[.slice none 0 0, .int .i64 0] 28)
  generalize ((w.alloc (.cells #[.slice a l.length c, .int .i64 n] 28)).alloc (.cells #[.int .i64 x.t, .int .i64 x.c, .int .i64 x.s, .int .i64 x.g, .int .i64 x.x] 30)).alloc (.cells #[.slice none 0 0, .int .i64 0] 28) = w3 at hb1 hb2 hb3 hsz hrs ⊢
  obtain ⟨z0, z1, z2, z3, z4⟩ := five_cells13 hb2
  obtain ⟨l0, l1⟩ := two_cells13 hb1
  obtain ⟨r0, r1⟩ := two_cells13 hb3
  have f1 : ∀ i, w3.frozen? ⟨w.heap.size, i, none⟩ = false := fun _ => frozen_of_row _ _ _ _ _ hb1
  have f2 : ∀ i, w3.frozen? ⟨w.heap.size + 1, i, none⟩ = false := fun _ => frozen_of_row _ _ _ _ _ hb2
  have f3 : ∀ i, w3.frozen? ⟨w.heap.size + 1 + 1, i, none⟩ = false := fun _ => frozen_of_row _ _ _ _ _ hb3
  have HB3 := Lib.hid hb3
  clear hb1 hb2 hb3
  have end_ : ∀ u0, Rest (fun _ => False) w (((w3.setCell ⟨w.heap.size + 1, 0, none⟩ u0).setCell ⟨w.heap.size + 1 + 1, 0, none⟩ (.slice a l.length c)).setCell ⟨w.heap.size + 1 + 1, 1, none⟩ (.int .i64 n)) ∧ (((w3.setCell ⟨w.heap.size + 1, 0, none⟩ u0).setCell ⟨w.heap.size + 1 + 1, 0, none⟩ (.slice a l.length c)).setCell ⟨w.heap.size + 1 + 1, 1, none⟩ (.int .i64 n)).heap[w.heap.size + 1 + 1]? = some (.cells #[.slice a l.length c, .int .i64 n] 28 (0, 0)) := fun u0 => by
    obtain ⟨hb, hr⟩ := two_out (b := w.heap.size + 1) HB3.out (by omega) u0 (.slice a l.length c) (.int .i64 n)
    exact ⟨hrs.trans (o3 := fun _ => False) hr (fun _ _ => id) (fun i hi e => by omega), hb⟩
  have HE := Lib.hid end_
  clear end_ hrs hsz
  by_cases hy : y = 1099511627776
  · subst hy
    go_wp2_with fail
    obtain ⟨hr, hb⟩ := HE.out (.int .i64 1099511627776)
    exact bodyPost_ret (results_row_tmp Try.results11 _ _ (w.heap.size + 1 + 1) 28 _ (0, 0) _ rfl hb Try.underlying28 rfl Try.sizeL13) rfl ⟨rfl, hr⟩
  · have hy2 : 256 ≤ l.length := hx.resolve_left hy
    have hk2 : (256 : Int) ≤ l.length := by omega
    go_wp2_with fail
    obtain ⟨hr, hb⟩ := HE.out (.int .i64 y)
    exact bodyPost_ret (results_row_tmp Try.results11 _ _ (w.heap.size + 1 + 1) 28 _ (0, 0) _ rfl hb Try.underlying28 rfl Try.sizeL13) rfl ⟨rfl, hr⟩

/-- The alarm's time and the list's number are written anew. -/
theorem set_two {w : World} {p q r : Nat} {t u : TypeId} {c0 c1 a0 a1 a2 a3 a4 : Value} {o : Obj} (hp : w.heap[p]? = some (.cells #[c0, c1] t (0, 0))) (hq : w.heap[q]? = some (.cells #[a0, a1, a2, a3, a4] u (0, 0))) (hr : w.heap[r]? = some o) (hpq : p ≠ q) (hpr : p ≠ r) (hqr : q ≠ r) (y m : Value) :
    ((w.setCell ⟨q, 0, none⟩ y).setCell ⟨p, 1, none⟩ m).heap[p]? = some (.cells #[c0, m] t (0, 0)) ∧ ((w.setCell ⟨q, 0, none⟩ y).setCell ⟨p, 1, none⟩ m).heap[q]? = some (.cells #[y, a1, a2, a3, a4] u (0, 0)) ∧ ((w.setCell ⟨q, 0, none⟩ y).setCell ⟨p, 1, none⟩ m).heap[r]? = some o ∧ Rest (fun k => k = p ∨ k = q) w ((w.setCell ⟨q, 0, none⟩ y).setCell ⟨p, 1, none⟩ m) ∧ ((w.setCell ⟨q, 0, none⟩ y).setCell ⟨p, 1, none⟩ m).heap.size = w.heap.size := by
  have q1 := heap_setCell_same _ q 0 _ _ y hq
  have p1 : (w.setCell ⟨q, 0, none⟩ y).heap[p]? = some (.cells #[c0, c1] t (0, 0)) := by rw [heap_setCell_other _ _ _ _ hpq]; exact hp
  have r1 : (w.setCell ⟨q, 0, none⟩ y).heap[r]? = some o := by rw [heap_setCell_other _ _ _ _ (fun e => hqr e.symm)]; exact hr
  refine ⟨heap_setCell_same _ p 1 _ _ m p1, ?_, ?_, (Rest.setCell (own := fun k => k = p ∨ k = q) w ⟨q, 0, none⟩ y (.inr rfl)).trans (o3 := fun k => k = p ∨ k = q) (Rest.setCell (own := fun k => k = p ∨ k = q) _ ⟨p, 1, none⟩ m (.inl rfl)) (fun _ _ => id) (fun _ _ => id), by simp⟩
  · rw [heap_setCell_other _ _ _ _ (fun e => hpq e.symm)]; exact q1
  · rw [heap_setCell_other _ _ _ _ (fun e => hpr e.symm)]; exact r1

set_option maxHeartbeats 2000000 in
set_option maxRecDepth 100000 in
/-- One is laid before the first one that is later. -/
theorem put_yes {B : Nat} {a : Option Addr} {c : Nat} {l : List En} (n : Int) (x : En) (w : World) (h : Lz w B a c l) (hm : l.length < 256) (hx : Tk.clamp x.t ≠ 1099511627776) (hn : 0 ≤ n ∧ n ≤ 1000000000) :
    Calls Try.prog 11 #[.agg #[.slice a l.length c, .int .i64 n], .agg (Hp.alarm x).toArray] w fun e w' => ∃ g off cap, e = .returned (.tuple #[.agg #[.slice (some ⟨g, off, none⟩) (l.length + 1) cap, .int .i64 (n + 1)], .bool true]) ∧ RowK w' w.heap.size 63 6 g off (l.length + 1) cap (flat (Rf.put ⟨Tk.clamp x.t, x.c, x.s, x.g, x.x, n + 1⟩ l)) ∧ Rest (fun _ => False) w w' := by
  have hcl := fun w => rclamp_any x.t w
  simp only [Hp.alarm]
  have hk : (256 ≤ (l.length : Int)) = (256 ≤ l.length) := by simp only [eq_iff_iff]; omega
  have hk1 : ¬(256 : Int) ≤ l.length := by omega
  have hk3 : ¬256 ≤ l.length := by omega
  have hwn : IntKind.i64.wrap (n + 1) = n + 1 := by rw [IntKind.wrap_i64]; omega
  generalize Tk.clamp x.t = y at hcl hx ⊢
  have hyb : (y == 1099511627776) = false := by simpa using hx
  go_enter Try.func11, Try.ntmps11
  go_wp2_with fail
  refine (hcl _).mono ?_
  rintro e w1 ⟨rfl, rfl⟩
  obtain ⟨hb1, hb2, hb3, hsz, hrs⟩ := three_boxes w (.cells #[.slice a l.length c, .int .i64 n] 28) (.cells #[.int .i64 x.t, .int .i64 x.c, .int .i64 x.s, .int .i64 x.g, .int .i64 x.x] 30) (.cells #[.slice none 0 0, .int .i64 0] 28)
  generalize ((w.alloc (.cells #[.slice a l.length c, .int .i64 n] 28)).alloc (.cells #[.int .i64 x.t, .int .i64 x.c, .int .i64 x.s, .int .i64 x.g, .int .i64 x.x] 30)).alloc (.cells #[.slice none 0 0, .int .i64 0] 28) = w3 at hb1 hb2 hb3 hsz hrs ⊢
  obtain ⟨z0, z1, z2, z3, z4⟩ := five_cells13 hb2
  obtain ⟨l0, l1⟩ := two_cells13 hb1
  obtain ⟨r0, r1⟩ := two_cells13 hb3
  have f1 : ∀ i, w3.frozen? ⟨w.heap.size, i, none⟩ = false := fun _ => frozen_of_row _ _ _ _ _ hb1
  have f2 : ∀ i, w3.frozen? ⟨w.heap.size + 1, i, none⟩ = false := fun _ => frozen_of_row _ _ _ _ _ hb2
  have HB := Lib.hid (set_two hb1 hb2 hb3 (by omega) (by omega) (by omega) (.int .i64 y) (.int .i64 (n + 1)))
  have HRs := Lib.hid hrs
  have HSz := Lib.hid hsz
  clear hb1 hb2 hb3 hrs hsz
  go_wp2_with fail
  clear hyb hk3 hk1 hx z1 z2 z3 z4 r0 r1 z0
  have HLz := Lib.hid h
  clear h
  generalize hxe : (⟨y, x.c, x.s, x.g, x.x, n + 1⟩ : En) = xe
  have e1 : xe.t = y := by rw [← hxe]
  have e2 : xe.c = x.c := by rw [← hxe]
  have e3 : xe.s = x.s := by rw [← hxe]
  have e4 : xe.g = x.g := by rw [← hxe]
  have e5 : xe.x = x.x := by rw [← hxe]
  have e6 : xe.n = n + 1 := by rw [← hxe]
  obtain ⟨hb1, hb2, hb3, hr4, hs4⟩ := HB.out
  clear HB
  generalize (w3.setCell ⟨w.heap.size + 1, 0, none⟩ (.int .i64 y)).setCell ⟨w.heap.size, 1, none⟩ (.int .i64 (n + 1)) = w4 at hb1 hb2 hb3 hr4 hs4 ⊢
  rw [← e1, ← e2, ← e3, ← e4, ← e5] at hb2
  rw [← e6] at hb1 ⊢
  rw [← e1] at ⊢
  have hs4' : w4.heap.size = w.heap.size + 1 + 1 + 1 := by rw [hs4, HSz.out]
  have HR4 := Lib.hid (show Rest (fun _ => False) w w4 from HRs.out.trans (o3 := fun _ => False) hr4 (fun _ _ => id) (fun i hi e => by omega))
  have hnw := Nw.start w4
  rw [hs4] at hnw
  have HFin : Hid (∀ wx (g o q : Nat) w', Nw w4 wx g o q (Rf.put xe l) → Rest (fun k => k = w.heap.size ∨ k = w.heap.size + 1 + 1) wx w' → ∃ g1 off cap, Ending.returned (.tuple #[.agg #[.slice (some ⟨g, o, none⟩) (l.length + 1) q, .int .i64 xe.n], .bool true]) = .returned (.tuple #[.agg #[.slice (some ⟨g1, off, none⟩) (l.length + 1) cap, .int .i64 (n + 1)], .bool true]) ∧ RowK w' w.heap.size 63 6 g1 off (l.length + 1) cap (flat (Rf.put ⟨y, x.c, x.s, x.g, x.x, n + 1⟩ l)) ∧ Rest (fun _ => False) w w') := Lib.hid (fun wx g o q w' hN hr => by
    have hrow := hN.row
    have hfr := hrow.from_
    have hlt := hrow.lt
    rw [Rf.put_length, hs4'] at hrow
    rw [hs4'] at hfr
    rw [hxe, e6]
    exact ⟨g, o, q, rfl, (hrow.kept (hr.block _ hlt (fun e => by omega))).lower (by omega),
      (HR4.out.trans (o3 := fun k => w.heap.size ≤ k ∧ k < w4.heap.size) hN.rest (fun _ _ => False.elim) (fun _ _ => False.elim)).trans (o3 := fun _ => False) hr (fun i hi e => by omega) (fun i hi e => by omega)⟩)
  clear HRs hr4 hs4 HSz l0 l1 f1 f2
  clear e1 e2 e3 e4 e5 e6 hxe
  generalize w4.alloc (.cells #[] 63) = w5 at hnw ⊢
  have HN4 := Lib.hid hnw
  have HB1 := Lib.hid hb1
  have HB2 := Lib.hid hb2
  have HB3 := Lib.hid hb3
  have HSz := Lib.hid hs4'
  clear hnw hb1 hb2 hb3 hs4'
  have HCL : Hid (∀ wx g o q P, Nw w4 wx g o q P → wx.cell? ⟨w.heap.size, 0, none⟩ = some (.slice a l.length c) ∧ wx.cell? ⟨w.heap.size, 1, none⟩ = some (.int .i64 xe.n) ∧ wx.cell? ⟨w.heap.size + 1, 0, none⟩ = some (.int .i64 xe.t) ∧ wx.cell? ⟨w.heap.size + 1, 1, none⟩ = some (.int .i64 xe.c) ∧ wx.cell? ⟨w.heap.size + 1, 2, none⟩ = some (.int .i64 xe.s) ∧ wx.cell? ⟨w.heap.size + 1, 3, none⟩ = some (.int .i64 xe.g) ∧ wx.cell? ⟨w.heap.size + 1, 4, none⟩ = some (.int .i64 xe.x)) := Lib.hid (fun wx g o q P hN => by
    obtain ⟨c0, c1⟩ := two_cells13 ((hN.rest.block _ (lt_of_block HB1.out) (fun x => x)).trans HB1.out)
    exact ⟨c0, c1, five_cells13 ((hN.rest.block _ (lt_of_block HB2.out) (fun x => x)).trans HB2.out)⟩)
  have HP0 := Lib.hid (Rf.part_zero xe l)
  have HPE := Lib.hid (Rf.part_end xe l)
  have HPS := Lib.hid (fun k (hk : k < l.length) => Rf.part_seen xe hk)
  have HPF := Lib.hid (fun k (hk : k < l.length) => Rf.part_first xe hk)
  have HPN := Lib.hid (fun k (hk : k < l.length) => Rf.part_past xe hk)
  have HSN := Lib.hid (fun k (hk : k < l.length) => Rf.seen_next xe hk)
  have HS0 := Lib.hid (show Rf.seen xe (l.take 0) = false by simp [Rf.seen])
  have HPL := Lib.hid (fun k => Nat.le_trans (Rf.part_le xe l k) (show l.length + 1 ≤ 999 by omega))
  generalize hW : (fun k => Rf.part xe l k) = W
  generalize hS : (fun k => Rf.seen xe (l.take k)) = S
  have hWk : ∀ k, Rf.part xe l k = W k := fun k => by rw [← hW]
  have hSk : ∀ k, Rf.seen xe (l.take k) = S k := fun k => by rw [← hS]
  simp only [hWk, hSk] at HP0 HPE HPS HPF HPN HSN HS0 HPL
  clear hW hS hWk hSk
  go_loopg [6, 7, 8] (1000 : Nat) (fun g1 s6 s7 s8 wx => ∃ k g o q : Nat, s8 = .int .i64 k ∧ s7 = .bool (S k) ∧ s6 = .slice (some ⟨g, o, none⟩) (W k).length q ∧ k ≤ l.length ∧ 1000 - k ≤ g1 ∧ Hid (Nw w4 wx g o q (W k)))
  case atStart => exact ⟨0, _, 0, 0, rfl, by rw [HS0.out], by rw [HP0.out]; rfl, by omega, by omega, by rw [HP0.out]; exact HN4⟩
  case round =>
    obtain ⟨k, g, o, q, rfl, rfl, rfl, hkl, hk1, HNk⟩ := hrel
    clear HN4 HP0 HS0
    have hcl := HCL.out _ _ _ _ _ HNk.out
    obtain ⟨c0, c1, z0, z1, z2, z3, z4⟩ := hcl
    by_cases hk : k < l.length
    · have hk' : (k : Int) < ((l.length : Nat) : Int) := by omega
      have hwk : IntKind.i64.wrap ((k : Int) + 1) = (k : Int) + 1 := by rw [IntKind.wrap_i64]; omega
      obtain ⟨gl, ol, rfl, hrow⟩ := HLz.out.some_ (by omega)
      have HRow := Lib.hid (fun wx g o q P (hN : Nw w4 wx g o q P) => (hrow.kept ((hN.rest.block _ (Nat.lt_of_lt_of_le hrow.lt HR4.out.size) (fun x => x)).trans (HR4.out.block _ hrow.lt (fun x => x)))).en hk)
      clear hrow
      have HSk := HSN.out k hk
      have a0 := (HRow.out _ _ _ _ _ HNk.out).1
      cases hs : S k with
      | true =>
        have HWe := Lib.hid (HPS.out k hk hs)
        have HSe := Lib.hid (show S (k + 1) = true by rw [HSk, hs, Bool.true_or])
        clear HSk c1 z0 z1 z2 z3 z4 a0
        go_wp2_with fail
        go_quiet (fail)
        have HNq := Lib.hid (HNk.out.past (Rest.drewN (fun _ => False) wr nq))
        clear HNk c0
        generalize wr.drewN nq = wq at HNq ⊢
        have c0 := (HCL.out _ _ _ _ _ HNq.out).1
        obtain ⟨a0, a1, a2, a3, a4, a5⟩ := HRow.out _ _ _ _ _ HNq.out
        obtain ⟨g', o', q', w6, hrun, hnw6⟩ := (HNq.out.past (Rest.alloc (fun _ => False) wq (.cells (Hp.enc (Hp.e l k)).toArray 63))).more (Nat.le_trans (HPL.out k) (by decide)) (Hp.e l k) (heap_alloc_new wq _) 26
        have HN6 := Lib.hid hnw6
        simp only [Hp.enc] at hrun
        clear hnw6 HNq
        go_wp2_with (at_builtin; refine wpList_append_run rfl _ _ 26 rfl rfl rfl hrun ?_)
        go_roundg (1000 - (k + 1))
        case measure => omega
        case rel => exact ⟨k + 1, g', o', q', by go_num, by rw [HSe.out], by rw [HWe.out, List.length_append]; rfl, by omega, by omega, by rw [HWe.out]; exact HN6⟩
      | false =>
        by_cases ht : xe.t < (Hp.e l k).t
        · have HWe := Lib.hid (HPF.out k hk hs ht)
          have HSe := Lib.hid (show S (k + 1) = true by rw [HSk, hs, decide_eq_true ht]; rfl)
          clear HSk c1 z1 z2 z3 z4
          go_wp2_with fail
          go_quiet (fail)
          have HNq := Lib.hid (HNk.out.past (Rest.drewN (fun _ => False) wr nq))
          clear HNk c0 z0 a0
          generalize wr.drewN nq = wq at HNq ⊢
          obtain ⟨c0, c1, z0, z1, z2, z3, z4⟩ := HCL.out _ _ _ _ _ HNq.out
          obtain ⟨g', o', q', w6, hrun, hnw6⟩ := (HNq.out.past (Rest.alloc (fun _ => False) wq (.cells (Hp.enc xe).toArray 63))).more (Nat.le_trans (HPL.out k) (by decide)) xe (heap_alloc_new wq _) 26
          have HN6 := Lib.hid hnw6
          simp only [Hp.enc] at hrun
          clear hnw6 HNq ht
          have HC6 := Lib.hid (HCL.out _ _ _ _ _ HN6.out).1
          have HR6 := Lib.hid (HRow.out _ _ _ _ _ HN6.out)
          obtain ⟨g2, o2, q2, w8, hrun2, hnw8⟩ := (HN6.out.past (Rest.alloc (fun _ => False) w6 (.cells (Hp.enc (Hp.e l k)).toArray 63))).more (by have := HPL.out k; rw [List.length_append, List.length_singleton]; omega) (Hp.e l k) (heap_alloc_new w6 _) 26
          have HN8 := Lib.hid hnw8
          simp only [Hp.enc, List.length_append, List.length_singleton] at hrun2
          have HU2 := Lib.hid hrun2
          clear hnw8 HN6 hrun2
          go_wp2_with (at_builtin; first | (refine wpList_append_run rfl _ _ 26 rfl rfl rfl hrun ?_; clear c0 c1 z0 z1 z2 z3 z4 hrun; have c6 := HC6.out; obtain ⟨b0, b1, b2, b3, b4, b5⟩ := HR6.out; have hrun2 := HU2.out; clear HC6 HR6) | refine wpList_append_run rfl _ _ 26 rfl rfl rfl hrun2 ?_)
          go_roundg (1000 - (k + 1))
          case measure => omega
          case rel => exact ⟨k + 1, g2, o2, q2, by go_num, by rw [HSe.out], by rw [HWe.out, List.length_append, List.length_append]; rfl, by omega, by omega, by rw [HWe.out]; exact HN8⟩
        · have HWe := Lib.hid (HPN.out k hk hs ht)
          have HSe := Lib.hid (show S (k + 1) = false by rw [HSk, hs, decide_eq_false ht]; rfl)
          clear HSk c1 z1 z2 z3 z4
          go_wp2_with fail
          go_quiet (fail)
          have HNq := Lib.hid (HNk.out.past (Rest.drewN (fun _ => False) wr nq))
          clear HNk c0 z0 a0
          generalize wr.drewN nq = wq at HNq ⊢
          have c0 := (HCL.out _ _ _ _ _ HNq.out).1
          obtain ⟨a0, a1, a2, a3, a4, a5⟩ := HRow.out _ _ _ _ _ HNq.out
          obtain ⟨g', o', q', w6, hrun, hnw6⟩ := (HNq.out.past (Rest.alloc (fun _ => False) wq (.cells (Hp.enc (Hp.e l k)).toArray 63))).more (Nat.le_trans (HPL.out k) (by decide)) (Hp.e l k) (heap_alloc_new wq _) 26
          have HN6 := Lib.hid hnw6
          simp only [Hp.enc] at hrun
          clear hnw6 HNq
          go_wp2_with (at_builtin; refine wpList_append_run rfl _ _ 26 rfl rfl rfl hrun ?_)
          go_roundg (1000 - (k + 1))
          case measure => omega
          case rel => exact ⟨k + 1, g', o', q', by go_num, by rw [HSe.out], by rw [HWe.out, List.length_append]; rfl, by omega, by omega, by rw [HWe.out]; exact HN6⟩
    · obtain rfl : k = l.length := by omega
      cases hs : S l.length with
      | true =>
        have hwe : W l.length = Rf.put xe l := by rw [HPE.out, if_pos hs]
        rw [hwe] at HNk ⊢
        rw [Rf.put_length]
        clear hwe HCL HPS HPF HPN HSN HPL HPE HLz hs
        have hB3 := (HNk.out.rest.block _ (lt_of_block HB3.out) (fun x => x)).trans HB3.out
        have hB1 := (HNk.out.rest.block _ (lt_of_block HB1.out) (fun x => x)).trans HB1.out
        have f1 : ∀ i, wr.frozen? ⟨w.heap.size, i, none⟩ = false := fun _ => frozen_of_row _ _ _ _ _ hB1
        have f3 : ∀ i, wr.frozen? ⟨w.heap.size + 1 + 1, i, none⟩ = false := fun _ => frozen_of_row _ _ _ _ _ hB3
        obtain ⟨y0, y1⟩ := two_cells13 hB3
        clear z0 z1 z2 z3 z4
        go_wp2_with fail
        obtain ⟨hb, hr⟩ := two_out (b := w.heap.size) hB3 (by omega) (.slice (some ⟨g, o, none⟩) (l.length + 1) q) (.slice (some ⟨g, o, none⟩) (l.length + 1) q) (.int .i64 xe.n)
        exact bodyPost_ret (results_row_tmp Try.results11 _ _ (w.heap.size + 1 + 1) 28 _ (0, 0) _ rfl hb Try.underlying28 rfl Try.sizeL13) rfl (HFin.out _ _ _ _ _ HNk.out hr)
      | false =>
        have hwe : W l.length ++ [xe] = Rf.put xe l := by rw [HPE.out, hs]; rfl
        have hwl : (W l.length).length + 1 = l.length + 1 := by rw [← Rf.put_length xe l, ← hwe, List.length_append]; rfl
        obtain ⟨g', o', q', w6, hrun, hnw6⟩ := (HNk.out.past (Rest.alloc (fun _ => False) wr (.cells (Hp.enc xe).toArray 63))).more (Nat.le_trans (HPL.out l.length) (by decide)) xe (heap_alloc_new wr _) 26
        simp only [Hp.enc] at hrun
        rw [hwl] at hrun
        rw [hwe] at hnw6
        have hB3 := (hnw6.rest.block _ (lt_of_block HB3.out) (fun x => x)).trans HB3.out
        have hB1 := (hnw6.rest.block _ (lt_of_block HB1.out) (fun x => x)).trans HB1.out
        have HF1 := Lib.hid (show ∀ i, w6.frozen? ⟨w.heap.size, i, none⟩ = false from fun _ => frozen_of_row _ _ _ _ _ hB1)
        have HF3 := Lib.hid (show ∀ i, w6.frozen? ⟨w.heap.size + 1 + 1, i, none⟩ = false from fun _ => frozen_of_row _ _ _ _ _ hB3)
        have HY := Lib.hid (two_cells13 hB3)
        have HX := Lib.hid (two_cells13 hB1)
        have HN6 := Lib.hid hnw6
        have HB36 := Lib.hid hB3
        clear hwe hwl HCL HPS HPF HPN HSN HPL HPE HLz hnw6 HNk hB1 hB3
        go_wp2_with (at_builtin; refine wpList_append_run rfl _ _ 26 rfl rfl rfl hrun ?_; clear c0 c1 z0 z1 z2 z3 z4 hrun; have f1 := HF1.out; have f3 := HF3.out; obtain ⟨y0, y1⟩ := HY.out; obtain ⟨x0, x1⟩ := HX.out)
        obtain ⟨hb, hr⟩ := two_out (b := w.heap.size) HB36.out (by omega) (.slice (some ⟨g', o', none⟩) (l.length + 1) q') (.slice (some ⟨g', o', none⟩) (l.length + 1) q') (.int .i64 xe.n)
        exact bodyPost_ret (results_row_tmp Try.results11 _ _ (w.heap.size + 1 + 1) 28 _ (0, 0) _ rfl hb Try.underlying28 rfl Try.sizeL13) rfl (HFin.out _ _ _ _ _ HN6.out hr)
end Go.Proofs.Ytcjidobdbdfjlaa
