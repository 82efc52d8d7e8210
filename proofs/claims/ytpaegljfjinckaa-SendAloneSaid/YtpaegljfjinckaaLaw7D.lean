/- The law on frames that are sent one behind the other into a ring of two or four places. -/
import Derived.Test.YtpaegljfjinckaaLaw7C
import Derived.Test.YtpaegljfjinckaaLaw7A
import Derived.Test.YtpaegljfjinckaaLaw7B
import Derived.Test.YtpaegljfjinckaaLow
import Derived.Test.YtpaegljfjinckaaSkip
import Derived.Deep.DeepCutAuto
import Derived.Deep.CutRange
import Derived.StillTailTactics
namespace Go.Proofs.Ytpaegljfjinckaa
open Go.RowKit
attribute [local go_sem ↓] Go.wp_at_zero Go.wp_at_succ

/-- How many places the law takes. -/
theorem shl_one (p : Int) : ∃ n : Nat, (n = 2 ∨ n = 4) ∧ wrap64 (2 * 2 ^ min (IntKind.u64.wrap (bits .and .i64 p 1)).toNat 64) = (n : Int) := by
  rw [show bits .and .i64 p 1 = p % 2 from i64_low p 1 (by omega)]
  have h0 : p % 2 = 0 ∨ p % 2 = 1 := by omega
  rcases h0 with h | h <;> rw [h]
  · exact ⟨2, by omega, by kernel_rfl⟩
  · exact ⟨4, by omega, by kernel_rfl⟩

/-- Behind so many: the ring's box, the arena, what came in. -/
structure Way (w w1 wr : World) (s : Spot) (n : Nat) (lone : Bool) (i : Nat) (X : Nat → Nat → Nat) (bk o len : Nat) (a' : Ar) : Prop where
  old : ∃ a0, Arena w1 (w.heap.size + 1) s a0
  first : Below w.heap.size w w1
  r0 : w1.cell? ⟨w.heap.size, 0, none⟩ = some (.int .i64 3)
  r1 : w1.cell? ⟨w.heap.size, 1, none⟩ = some (.int .i64 (n : Nat))
  now : Now w1 wr (w.heap.size + 1) s a'
  sent : Sent n lone i a'.cs
  words : ∀ i, i < len → w.cell? ⟨bk, o + i * 3, none⟩ = some (.int .u64 (X i 0 : Nat)) ∧ w.cell? ⟨bk, o + i * 3 + 1, none⟩ = some (.int .u64 (X i 1 : Nat)) ∧ w.cell? ⟨bk, o + i * 3 + 2, none⟩ = some (.int .u64 (X i 2 : Nat))

theorem Way.behind {w w1 wr wn : World} {s : Spot} {n i bk o len : Nat} {lone : Bool} {X : Nat → Nat → Nat} {a' : Ar} (h : Way w w1 wr s n lone i X bk o len a') (hb : Below wr.heap.size wr wn) : Way w w1 wn s n lone i X bk o len a' :=
  { h with now := h.now.behind hb }
theorem Way.below {w w1 wr : World} {s : Spot} {n i bk o len : Nat} {lone : Bool} {X : Nat → Nat → Nat} {a' : Ar} (h : Way w w1 wr s n lone i X bk o len a') : Below w.heap.size w wr := by
  obtain ⟨a0, h0⟩ := h.old
  exact h.first.trans ((Now.below h0 h.now).mono (by omega))
theorem Way.ring {w w1 wr : World} {s : Spot} {n i bk o len : Nat} {lone : Bool} {X : Nat → Nat → Nat} {a' : Ar} (h : Way w w1 wr s n lone i X bk o len a') :
    wr.cell? ⟨w.heap.size, 0, none⟩ = some (.int .i64 3) ∧ wr.cell? ⟨w.heap.size, 1, none⟩ = some (.int .i64 (n : Nat)) := by
  obtain ⟨a0, h0⟩ := h.old
  have hn : ¬ s.has w.heap.size := fun hk => by have := h0.from _ hk; omega
  have hl := cell_block h.r0
  exact ⟨(h.now.cell (p := ⟨w.heap.size, 0, none⟩) hl hn).trans h.r0, (h.now.cell (p := ⟨w.heap.size, 1, none⟩) hl hn).trans h.r1⟩
theorem Way.word {w w1 wr : World} {s : Spot} {n i bk o len : Nat} {lone : Bool} {X : Nat → Nat → Nat} {a' : Ar} (h : Way w w1 wr s n lone i X bk o len a') {k : Nat} (hk : k < len) :
    wr.cell? ⟨bk, o + k * 3, none⟩ = some (.int .u64 (X k 0 : Nat)) ∧ wr.cell? ⟨bk, o + k * 3 + 1, none⟩ = some (.int .u64 (X k 1 : Nat)) ∧ wr.cell? ⟨bk, o + k * 3 + 2, none⟩ = some (.int .u64 (X k 2 : Nat)) := by
  obtain ⟨g0, g1, g2⟩ := h.words k hk
  exact ⟨(h.below.cell (cell_block g0)).trans g0, (h.below.cell (cell_block g0)).trans g1, (h.below.cell (cell_block g0)).trans g2⟩
theorem Way.five {w w1 wr : World} {s : Spot} {n i bk o len : Nat} {lone : Bool} {X : Nat → Nat → Nat} {a' : Ar} (h : Way w w1 wr s n lone i X bk o len a') {k : Nat} (hk : k < len) :
    wr.cell? ⟨w.heap.size, 0, none⟩ = some (.int .i64 3) ∧ wr.cell? ⟨w.heap.size, 1, none⟩ = some (.int .i64 (n : Nat)) ∧ wr.cell? ⟨bk, o + k * 3, none⟩ = some (.int .u64 (X k 0 : Nat)) ∧ wr.cell? ⟨bk, o + k * 3 + 1, none⟩ = some (.int .u64 (X k 1 : Nat)) ∧ wr.cell? ⟨bk, o + k * 3 + 2, none⟩ = some (.int .u64 (X k 2 : Nat)) :=
  ⟨h.ring.1, h.ring.2, h.word hk⟩
theorem Way.three {w w1 wr : World} {s : Spot} {n i bk o len : Nat} {lone : Bool} {X : Nat → Nat → Nat} {a' : Ar} (h : Way w w1 wr s n lone i X bk o len a') {k j : Nat} (hk : k < len) (hj : j < 3) :
    wr.cell? ⟨w.heap.size, 0, none⟩ = some (.int .i64 3) ∧ wr.cell? ⟨w.heap.size, 1, none⟩ = some (.int .i64 (n : Nat)) ∧ wr.cell? ⟨bk, o + k * 3 + j, none⟩ = some (.int .u64 (X k j : Nat)) := by
  obtain ⟨g0, g1, g2⟩ := h.word hk
  refine ⟨h.ring.1, h.ring.2, ?_⟩
  obtain rfl | rfl | rfl : j = 0 ∨ j = 1 ∨ j = 2 := by omega
  · exact g0
  · exact g1
  · exact g2
/-- The arena at hand, and what is behind a call that sends. -/
theorem Way.arena {w w1 wr : World} {s : Spot} {n i bk o len : Nat} {lone : Bool} {X : Nat → Nat → Nat} {a' : Ar} (h : Way w w1 wr s n lone i X bk o len a') :
    ∃ T, Arena wr (w.heap.size + 1) { s with T := T } a' ∧ ∀ (wn : World) (an : Ar), Now wr wn (w.heap.size + 1) { s with T := T } an → Sent n lone (i + 1) an.cs → Way w w1 wn s n lone (i + 1) X bk o len an := by
  obtain ⟨T, hA, hN⟩ := h.now.arena
  exact ⟨T, hA, fun wn an hn hs => { h with now := hN _ _ hn, sent := hs }⟩

theorem sdone_sent (b p x y z t j : Int) (l : Bool) (w : World) : Calls Try.prog 11 #[.agg #[.int .i64 b, .int .i64 p, .int .u64 x, .int .u64 y, .int .u64 z, .bool l, .int .u64 t, .int .i64 5, .int .i64 j]] w fun e w' => e = .returned (.tuple #[.int .i64 0, .bool true]) ∧ Below w.heap.size w w' := sdone_any b p x y z t 5 j l w
theorem sclaimed_sent (b p x y z t j : Int) (l : Bool) (w : World) : Calls Try.prog 12 #[.agg #[.int .i64 b, .int .i64 p, .int .u64 x, .int .u64 y, .int .u64 z, .bool l, .int .u64 t, .int .i64 5, .int .i64 j]] w fun e w' => e = .returned (.bool true) ∧ Below w.heap.size w w' := sclaimed_any b p x y z t 5 j l w

/-- What comes of one that finds its place empty. -/
theorem run_sent_many {B : Nat} {s : Spot} {a : Ar} {n i : Nat} (hn : n = 2 ∨ n = 4) (hi : i < n) (x y z : Nat) (hx : x < 18446744073709551616) (hy : y < 18446744073709551616) (hz : z < 18446744073709551616) (h : Sent n false i a.cs) (w : World) (hA : Arena w B s a) :
    Calls Try.prog 10 #[.pointer (some ⟨s.P, 0, none⟩), .agg #[.int .i64 3, .int .i64 n, .int .u64 x, .int .u64 y, .int .u64 z, .bool false, .int .u64 0, .int .i64 0, .int .i64 0]] w fun e w' => ∃ (K : Nat) (a' : Ar), e = .returned (.tuple #[.agg #[.int .i64 3, .int .i64 n, .int .u64 x, .int .u64 y, .int .u64 z, .bool false, .int .u64 i, .int .i64 5, .int .i64 3], .int .i64 K]) ∧ 1 ≤ K ∧ Now w w' B s a' ∧ Sent n false (i + 1) a'.cs ∧ a'.cs.getD (4 + 4 * i) 0 = i + 1 ∧ a'.cs.getD (4 + 4 * i + 1 + 0) 0 = x ∧ a'.cs.getD (4 + 4 * i + 1 + 1) 0 = y ∧ a'.cs.getD (4 + 4 * i + 1 + 2) 0 = z := by
  obtain ⟨K, a', h1, h40, hr, hk, hrest⟩ := turn_sent (x := x) (y := y) (z := z) hn hi h
  refine (run_any (first n i false x y z) (first_good hn (by omega) hx hy hz h.len) K h40 hk (.inl (by rw [hr])) w hA).mono ?_
  rintro e w' ⟨rfl, hN⟩
  rw [hr] at hN ⊢
  exact ⟨K, a', rfl, h1, hN, hrest⟩
/-- .. that finds no room. -/
theorem run_none_many {B : Nat} {s : Spot} {a : Ar} {n i : Nat} (hn : n = 2 ∨ n = 4) (hi : n ≤ i) (hi8 : i < 8) (x y z : Nat) (hx : x < 18446744073709551616) (hy : y < 18446744073709551616) (hz : z < 18446744073709551616) (h : Sent n false i a.cs) (w : World) (hA : Arena w B s a) :
    Calls Try.prog 10 #[.pointer (some ⟨s.P, 0, none⟩), .agg #[.int .i64 3, .int .i64 n, .int .u64 x, .int .u64 y, .int .u64 z, .bool false, .int .u64 0, .int .i64 0, .int .i64 0]] w fun e w' => ∃ (K t : Nat) (a' : Ar), e = .returned (.tuple #[.agg #[.int .i64 3, .int .i64 n, .int .u64 x, .int .u64 y, .int .u64 z, .bool false, .int .u64 t, .int .i64 6, .int .i64 0], .int .i64 K]) ∧ 1 ≤ K ∧ Now w w' B s a' ∧ Sent n false (i + 1) a'.cs := by
  obtain ⟨K, t, a', h1, h40, hr, hk, hrest⟩ := turn_full (x := x) (y := y) (z := z) hn hi hi8 h
  refine (run_any (first n i false x y z) (first_good hn hi8 hx hy hz h.len) K h40 hk (.inr (by rw [hr])) w hA).mono ?_
  rintro e w' ⟨rfl, hN⟩
  rw [hr] at hN ⊢
  exact ⟨K, t, a', rfl, h1, hN, hrest⟩

/-- What comes of one that finds its place empty. -/
theorem run_sent_lone {B : Nat} {s : Spot} {a : Ar} {n i : Nat} (hn : n = 2 ∨ n = 4) (hi : i < n) (x y z : Nat) (hx : x < 18446744073709551616) (hy : y < 18446744073709551616) (hz : z < 18446744073709551616) (h : Sent n true i a.cs) (w : World) (hA : Arena w B s a) :
    Calls Try.prog 10 #[.pointer (some ⟨s.P, 0, none⟩), .agg #[.int .i64 3, .int .i64 n, .int .u64 x, .int .u64 y, .int .u64 z, .bool true, .int .u64 i, .int .i64 1, .int .i64 0]] w fun e w' => ∃ (K : Nat) (a' : Ar), e = .returned (.tuple #[.agg #[.int .i64 3, .int .i64 n, .int .u64 x, .int .u64 y, .int .u64 z, .bool true, .int .u64 i, .int .i64 5, .int .i64 3], .int .i64 K]) ∧ 1 ≤ K ∧ Now w w' B s a' ∧ Sent n true (i + 1) a'.cs ∧ a'.cs.getD (4 + 4 * i) 0 = i + 1 ∧ a'.cs.getD (4 + 4 * i + 1 + 0) 0 = x ∧ a'.cs.getD (4 + 4 * i + 1 + 1) 0 = y ∧ a'.cs.getD (4 + 4 * i + 1 + 2) 0 = z := by
  obtain ⟨K, a', h1, h40, hr, hk, hrest⟩ := turn_sent (x := x) (y := y) (z := z) hn hi h
  refine (run_any (first n i true x y z) (first_good hn (by omega) hx hy hz h.len) K h40 hk (.inl (by rw [hr])) w hA).mono ?_
  rintro e w' ⟨rfl, hN⟩
  rw [hr] at hN ⊢
  exact ⟨K, a', rfl, h1, hN, hrest⟩
/-- .. that finds no room. -/
theorem run_none_lone {B : Nat} {s : Spot} {a : Ar} {n i : Nat} (hn : n = 2 ∨ n = 4) (hi : n ≤ i) (hi8 : i < 8) (x y z : Nat) (hx : x < 18446744073709551616) (hy : y < 18446744073709551616) (hz : z < 18446744073709551616) (h : Sent n true i a.cs) (w : World) (hA : Arena w B s a) :
    Calls Try.prog 10 #[.pointer (some ⟨s.P, 0, none⟩), .agg #[.int .i64 3, .int .i64 n, .int .u64 x, .int .u64 y, .int .u64 z, .bool true, .int .u64 i, .int .i64 1, .int .i64 0]] w fun e w' => ∃ (K t : Nat) (a' : Ar), e = .returned (.tuple #[.agg #[.int .i64 3, .int .i64 n, .int .u64 x, .int .u64 y, .int .u64 z, .bool true, .int .u64 t, .int .i64 6, .int .i64 0], .int .i64 K]) ∧ 1 ≤ K ∧ Now w w' B s a' ∧ Sent n true (i + 1) a'.cs := by
  obtain ⟨K, t, a', h1, h40, hr, hk, hrest⟩ := turn_full (x := x) (y := y) (z := z) hn hi hi8 h
  refine (run_any (first n i true x y z) (first_good hn hi8 hx hy hz h.len) K h40 hk (.inr (by rw [hr])) w hA).mono ?_
  rintro e w' ⟨rfl, hN⟩
  rw [hr] at hN ⊢
  exact ⟨K, t, a', rfl, h1, hN, hrest⟩

set_option maxHeartbeats 4000000 in
set_option maxRecDepth 100000 in
theorem alone_many (X : Nat → Nat → Nat) (len : Nat) (hX : ∀ i, i < len → X i 0 < 18446744073709551616 ∧ X i 1 < 18446744073709551616 ∧ X i 2 < 18446744073709551616) (places : Int) (sa : Option Addr) (cap bk o : Nat) (hsa : 0 < len → sa = some ⟨bk, o, none⟩) (w : World)
    (hc : ∀ i, i < len → w.cell? ⟨bk, o + i * 3, none⟩ = some (.int .u64 (X i 0 : Nat)) ∧ w.cell? ⟨bk, o + i * 3 + 1, none⟩ = some (.int .u64 (X i 1 : Nat)) ∧ w.cell? ⟨bk, o + i * 3 + 2, none⟩ = some (.int .u64 (X i 2 : Nat))) :
    Calls Try.prog 3 #[.int .i64 places, .slice sa len cap, .bool false] w fun e w' => e = .returned (.bool true) ∧ Below w.heap.size w w' := by
  obtain ⟨n, hn, hsh⟩ := shl_one places
  have HO : Hid (Rg.Ok 3 n) := by show Rg.Ok 3 n; unfold Rg.Ok; omega
  have HC := Lib.hid hc
  have HX := Lib.hid hX
  have HS := Lib.hid hsa
  have j1 : IntKind.i64.wrap (3 + (1 + 4 * (n : Int))) = 3 + (1 + 4 * (n : Int)) := by rw [IntKind.wrap_i64]; omega
  have HJ : Hid (3 + (1 + 4 * (n : Int)) = ((4 + 4 * n : Nat) : Int)) := by show 3 + (1 + 4 * (n : Int)) = _; omega
  clear hc hX hsa
  go_enter Try.func3, Try.ntmps3
  go_wp2_with fail
  rw [hsh]
  refine (rcells_in n (by omega) _).mono ?_
  rintro e w2 ⟨rfl, rfl⟩
  clear hsh
  go_wp2_with fail
  rw [HJ.out]
  refine (new_yes (4 + 4 * n) _ (by omega) (by omega)).mono ?_
  rintro e w1 ⟨s, rfl, hA, hR⟩
  clear j1 HJ
  rw [show (w.alloc (.cells #[.int .i64 3, .int .i64 (n : Int)] 25)).heap.size = w.heap.size + 1 by simp] at hA
  have HA := Lib.hid hA
  have hb1 : Below (w.alloc (.cells #[.int .i64 3, .int .i64 (n : Int)] 25)).heap.size (w.alloc (.cells #[.int .i64 3, .int .i64 (n : Int)] 25)) w1 := hR.below (Nat.le_refl _) (fun k hk => hk.elim)
  obtain ⟨c0, c1, hb2⟩ := kept hb1
  have HK := Lib.hid (And.intro c0 (And.intro c1 hb2))
  clear hA hR hb1 hb2
  go_wp2_with fail
  refine (init_yes 3 n HO.out _ HA.out (by simp [Ar.new])).mono ?_
  rintro e w2 ⟨rfl, a0, hcs, hN⟩
  have HW0 : Hid (Way w w1 w2 s n false 0 X bk o len a0) := ⟨⟨_, HA.out⟩, HK.out.2.2, HK.out.1, HK.out.2.1, hN, by rw [hcs]; exact Sent.start n false _ (by simp [Ar.new]), HC.out⟩
  clear hcs hN HK c0 c1
  have hm0 : min len 8 ≤ 8 := Nat.min_le_right _ _
  go_wp2_with fail
  go_loopg [10] (min len 8) (fun g s10 wr => ∃ i : Nat, i ≤ min len 8 ∧ g = min len 8 - i ∧ s10 = .int .i64 i ∧ Hid (∃ a', Way w w1 wr s n false i X bk o len a'))
  case atStart => exact ⟨0, Nat.zero_le _, rfl, rfl, a0, HW0.out⟩
  case round =>
    clear HW0
    obtain ⟨i, hi, rfl, rfl, hR⟩ := hrel
    obtain ⟨a, hW⟩ := hR.out
    have HWay := Lib.hid hW
    clear hR hW
    by_cases h1 : i < len
    rotate_left
    · have h1i : ¬ (i : Int) < (len : Int) := by omega
      go_wp2_with fail
      refine (awake7_any _).mono ?_
      rintro e v ⟨rfl, hv⟩
      have hbe := HWay.out.below.trans (hv.mono HWay.out.below.size)
      go_wp2
      go_ret
      exact ⟨rfl, hbe⟩
    by_cases h2 : i < 8
    rotate_left
    · have h1i : (i : Int) < (len : Int) := by omega
      have h2i : ¬ (i : Int) < 8 := by omega
      go_wp2_with fail
      refine (awake7_any _).mono ?_
      rintro e v ⟨rfl, hv⟩
      have hbe := HWay.out.below.trans (hv.mono HWay.out.below.size)
      go_wp2
      go_ret
      exact ⟨rfl, hbe⟩
    have h1i : (i : Int) < (len : Int) := by omega
    have h2i : (i : Int) < 8 := by omega
    have e := HS.out (by omega)
    subst e
    obtain ⟨c0, c1⟩ := HWay.out.ring
    obtain ⟨x0, x1, x2⟩ := HWay.out.word h1
    have hX3 := HX.out i h1
    have HX3 := Lib.hid hX3
    clear hX3
    have hwi : IntKind.u64.wrap (i : Int) = (i : Int) := by rw [IntKind.wrap_u64]; omega
    go_upto_region 8 with fail
    go_cut [11] (fun s11 wx => ∃ g : Nat, s11 = .pointer (some ⟨g, 0, none⟩) ∧ Hid (wr.heap.size ≤ g ∧ wx.heap[g]? = some (.cells #[.int .i64 3, .int .i64 n, .int .u64 (X i 0), .int .u64 (X i 1), .int .u64 (X i 2), .bool false, .int .u64 0, .int .i64 0, .int .i64 0] 35 (0, 0)) ∧ Below wr.heap.size wr wx))
    case first =>
      have HW1 := Lib.hid (HWay.out.behind (Below.refl _ _).drew)
      have hs1 : wr.heap.size = wr.drew.heap.size := rfl
      have hbd : Below wr.heap.size wr wr.drew := (Below.refl _ _).drew
      clear c0 c1 x0 x1 x2
      go_wp2_with fail
      refine wp_region_held_drew (S := fun w' => w'.cell? ⟨w.heap.size, 0, none⟩ = some (.int .i64 3) ∧ w'.cell? ⟨w.heap.size, 1, none⟩ = some (.int .i64 n) ∧ w'.cell? ⟨bk, o + i * 3, none⟩ = some (.int .u64 (X i 0 : Nat)) ∧ w'.cell? ⟨bk, o + i * 3 + 1, none⟩ = some (.int .u64 (X i 1 : Nat)) ∧ w'.cell? ⟨bk, o + i * 3 + 2, none⟩ = some (.int .u64 (X i 2 : Nat))) (by kernel_rfl) (HW1.out.five h1) (fun hHeld => ?_)
      refine wpAnyH_yield 0 (.agg #[.int .i64 3, .int .i64 n]) rfl (by kernel_rfl) (by kernel_rfl) (by kernel_rfl) (fun d _ _ _ h => by cases d <;> exact h) (by rfl) (by assumption) (fun _ hSw => by (try dsimp only at hSw); go_simp) ?_
      simp only [Act.put, List.setIfInBounds_toArray, List.set_cons_zero, List.set_cons_succ]
      refine wpAnyH_yield 1 (.slice (some ⟨bk, o, none⟩) len cap) rfl (by kernel_rfl) (by kernel_rfl) (by kernel_rfl) (fun d _ _ _ h => by cases d <;> exact h) (by rfl) (by assumption) (fun _ _ => by go_simp) ?_
      simp only [Act.put, List.setIfInBounds_toArray, List.set_cons_zero, List.set_cons_succ]
      refine wpAnyH_yield 2 (.int .i64 i) rfl (by kernel_rfl) (by kernel_rfl) (by kernel_rfl) (fun d _ _ _ h => by cases d <;> exact h) (by rfl) (by assumption) (fun _ _ => by go_simp) ?_
      simp only [Act.put, List.setIfInBounds_toArray, List.set_cons_zero, List.set_cons_succ]
      refine wpAnyH_yield 3 (.pointer (some ⟨bk, o + i * 3, none⟩)) rfl (by kernel_rfl) (by kernel_rfl) (by kernel_rfl) (fun d _ _ _ h => by cases d <;> exact h) (by rfl) (by assumption) (fun _ _ => by go_simp) ?_
      simp only [Act.put, List.setIfInBounds_toArray, List.set_cons_zero, List.set_cons_succ]
      refine wpAnyH_yield 4 (.agg #[.int .u64 (X i 0), .int .u64 (X i 1), .int .u64 (X i 2)]) rfl (by kernel_rfl) (by kernel_rfl) (by kernel_rfl) (fun d _ _ _ h => by cases d <;> exact h) (by rfl) (by assumption) (fun _ hSw => by (try dsimp only at hSw); go_simp) ?_
      simp only [Act.put, List.setIfInBounds_toArray, List.set_cons_zero, List.set_cons_succ]
      generalize wr.drew = wd at HW1 hs1 hbd hHeld ⊢
      refine wpAnyH_ready (rs := [5, 6]) (by kernel_rfl) (by simp) (AllReadyH.cons rfl (fun K hK => ?_) (AllReadyH.cons rfl (fun K hK => ?_) AllReadyH.nil))
      · go_simp
        go_at_call 8
        refine (snew_any 3 n (X i 0) (X i 1) (X i 2) _).mono ?_
        rintro e w3 ⟨rfl, hb3⟩
        have HW3 := Lib.hid (HW1.out.behind hb3)
        have HB3 := Lib.hid (hbd.trans (hb3.mono hbd.size))
        clear hb3
        refine hK.out _ _ (HW3.out.five h1) (fun hHeld => ?_)
        clear hK K
        try simp only [Act.put, List.setIfInBounds_toArray, List.set_cons_zero, List.set_cons_succ]
        refine wpAnyH_ready (rs := [6]) (by kernel_rfl) (by simp) (AllReadyH.cons rfl (fun K hK => ?_) AllReadyH.nil)
        go_simp
        refine hK.out _ _ ((HW3.out.behind (below_box _ _)).five h1) (fun hHeld => ?_)
        clear hK K
        try simp only [Act.put, List.setIfInBounds_toArray, List.set_cons_zero, List.set_cons_succ]
        refine wpAnyH_ready (rs := [7]) (by kernel_rfl) (by simp) (AllReadyH.cons rfl (fun K hK => ?_) AllReadyH.nil)
        go_simp
        refine hK.out _ _ ((HW3.out.behind (below_box _ _)).five h1) (fun hHeld => ?_)
        clear hK K
        try simp only [Act.put, List.setIfInBounds_toArray, List.set_cons_zero, List.set_cons_succ]
        refine wpAnyH_done (by kernel_rfl) ?_ _
        go_wp2_with fail
        go_meet
        case rel => exact ⟨w3.heap.size, rfl, HB3.out.size, heap_alloc_new _ _, HB3.out.alloc HB3.out.size _⟩
      · go_simp
        refine hK.out _ _ ((HW1.out.behind (below_box _ _)).five h1) (fun hHeld => ?_)
        clear hK K
        try simp only [Act.put, List.setIfInBounds_toArray, List.set_cons_zero, List.set_cons_succ]
        refine wpAnyH_ready (rs := [5]) (by kernel_rfl) (by simp) (AllReadyH.cons rfl (fun K hK => ?_) AllReadyH.nil)
        go_simp
        go_at_call 8
        refine (snew_any 3 n (X i 0) (X i 1) (X i 2) _).mono ?_
        rintro e w3 ⟨rfl, hb3⟩
        have h93 := block_held (heap_alloc_new wd _) hb3
        have HW3 := Lib.hid ((HW1.out.behind (below_box _ _)).behind hb3)
        have HB3 := Lib.hid ((hbd.alloc hbd.size _).trans (hb3.mono (hbd.alloc hbd.size _).size))
        obtain ⟨r0, r1, r2, r3, r4, r5, r6, r7, r8⟩ := nine_cells h93
        obtain ⟨f0, f1, f2, f3, f4, f5, f6, f7, f8⟩ := nine_free h93
        have H93 := Lib.hid h93
        clear hb3 h93
        refine hK.out _ _ (HW3.out.five h1) (fun hHeld => ?_)
        clear hK K
        try simp only [Act.put, List.setIfInBounds_toArray, List.set_cons_zero, List.set_cons_succ]
        refine wpAnyH_ready (rs := [7]) (by kernel_rfl) (by simp) (AllReadyH.cons rfl (fun K hK => ?_) AllReadyH.nil)
        go_simp
        have HB4 := Lib.hid (nine_below (B := wd.heap.size) (c0 := .int .i64 3) (c1 := .int .i64 n) (c2 := .int .u64 (X i 0)) (c3 := .int .u64 (X i 1)) (c4 := .int .u64 (X i 2)) (c5 := .bool false) (c6 := .int .u64 0) (c7 := .int .i64 0) (c8 := .int .i64 0) HB3.out hbd.size)
        refine hK.out _ _ ((HWay.out.behind HB4.out).five h1) (fun hHeld => ?_)
        clear hK K
        try simp only [Act.put, List.setIfInBounds_toArray, List.set_cons_zero, List.set_cons_succ]
        refine wpAnyH_done (by kernel_rfl) ?_ _
        go_wp2_with fail
        go_meet
        case rel => exact ⟨wd.heap.size, rfl, hbd.size, nine_laid H93.out, HB4.out⟩
    clear c0 c1 x0 x1 x2
    obtain ⟨g, rfl, hcut2⟩ := hcut
    have HW3 := Lib.hid (HWay.out.behind hcut2.out.2.2)
    have HG := Lib.hid hcut2.out.1
    have HBc := Lib.hid hcut2.out.2.2
    have H93 := Lib.hid hcut2.out.2.1
    clear hcut2
    have h93 := H93.out
    obtain ⟨q0, q1, q2, q3, q4, q5, q6, q7, q8⟩ := nine_cells h93
    clear h93
    go_wp2_with fail
    have HWR := HW3
    obtain ⟨T, hA5, hN5⟩ := HWR.out.arena
    by_cases hin : i < n
    · have hini : (i : Int) < (n : Int) := by omega
      refine (run_sent_many hn hin (X i 0) (X i 1) (X i 2) HX3.out.1 HX3.out.2.1 HX3.out.2.2 HWR.out.sent _ hA5).mono ?_
      rintro e w6 ⟨K, a6, rfl, hK, hN6, hS6, hd, hd0, hd1, hd2⟩
      have HW6 := Lib.hid (hN5 _ _ hN6 hS6)
      have hKi : ¬ (K : Int) < 1 := by omega
      have HD := Lib.hid hd
      have HDD : Hid (∀ j, j < 3 → a6.cs.getD (4 + 4 * i + 1 + j) 0 = X i j) := by
        intro j hj
        obtain rfl | rfl | rfl : j = 0 ∨ j = 1 ∨ j = 2 := by omega
        · exact hd0
        · exact hd1
        · exact hd2
      clear hA5 hN5 hN6 hS6 hd hd0 hd1 hd2 HWR HW3 HWay H93 HG HBc q0 q1 q2 q3 q4 q5 q6 q7 q8
      go_wp2_with fail
      refine (sdone_sent 3 n (X i 0) (X i 1) (X i 2) i 3 false _).mono ?_
      rintro e w7 ⟨rfl, hb7⟩
      have h97 := block_held (heap_alloc_new w6 _) hb7
      have HW7 := Lib.hid ((HW6.out.behind (below_box w6 (.cells #[.int .i64 3, .int .i64 n, .int .u64 (X i 0), .int .u64 (X i 1), .int .u64 (X i 2), .bool false, .int .u64 i, .int .i64 5, .int .i64 3] 35))).behind hb7)
      obtain ⟨c0, c1, c2, c3, c4, c5, c6, c7, c8⟩ := nine_cells h97
      have H97 := Lib.hid h97
      clear h97 hb7 HW6
      go_wp2_with fail
      refine (sclaimed_sent 3 n (X i 0) (X i 1) (X i 2) i 3 false _).mono ?_
      rintro e w8 ⟨rfl, hb8⟩
      have h98 := block_held H97.out hb8
      have HW8 := Lib.hid (HW7.out.behind hb8)
      clear c0 c1 c2 c3 c4 c5 c6 c7 c8 hb8 HW7 H97
      obtain ⟨c0, c1, c2, c3, c4, c5, c6, c7, c8⟩ := nine_cells h98
      clear h98
      go_wp2_with fail
      refine (sturn_any 3 n (X i 0) (X i 1) (X i 2) i 5 3 false _).mono ?_
      rintro e w9 ⟨rfl, hb9⟩
      have HW9 := Lib.hid (HW8.out.behind hb9)
      clear c0 c1 c2 c3 c4 c5 c6 c7 c8 hb9 HW8
      obtain ⟨c0, c1⟩ := HW9.out.ring
      go_wp2_with fail
      obtain ⟨T2, hA9, -⟩ := HW9.out.arena
      refine (ready_in 3 n i HO.out (by omega) _ hA9 (by have := HW9.out.sent.len; omega)).mono ?_
      rintro e w10 ⟨rfl, hb10⟩
      rw [show (a6.cs.getD (Rg.stand 3 n i) 0 == i + 1) = true by rw [stand3 hin, HD.out]; simp]
      have HW10 := Lib.hid (HW9.out.behind hb10)
      clear c0 c1 hA9 hb10 HW9
      go_wp2_with fail
      go_loopg [16] 3 (fun g2 s16 wr2 => ∃ j : Nat, j ≤ 3 ∧ g2 = 3 - j ∧ s16 = .int .i64 j ∧ Hid (Way w w1 wr2 s n false (i + 1) X bk o len a6))
      case atStart => exact ⟨0, by omega, rfl, rfl, HW10.out⟩
      case round =>
        clear HW10
        obtain ⟨j, hj, rfl, rfl, HWj⟩ := hrel
        by_cases hj3 : j < 3
        · have hj3i : (j : Int) < 3 := by omega
          have HVj := Lib.hid (HDD.out j hj3)
          go_wp2_with fail
          have HWd := Lib.hid (HWj.out.behind (Below.refl _ _).drew)
          have hk0 := HWd.out.three h1 hj3
          go_region_held3 (fun w' => w'.cell? ⟨w.heap.size, 0, none⟩ = some (.int .i64 3) ∧ w'.cell? ⟨w.heap.size, 1, none⟩ = some (.int .i64 n) ∧ w'.cell? ⟨bk, o + i * 3 + j, none⟩ = some (.int .u64 (X i j : Nat)))
            (with_reducible assumption)
            (first
              | (go_at_call 16; refine (data_yes 3 n i j HO.out (by omega) hj3 _).mono ?_; rintro e v1 ⟨rfl, hv1⟩; have HWe := Lib.hid (HWd.out.behind hv1); have hk1 := HWe.out.three h1 hj3; clear hv1)
              | (go_at_call 15; obtain ⟨T3, hA11, -⟩ := HWe.out.arena; refine (look_any (Rg.stand 3 n i + 1 + j) _ hA11 (by have := HWe.out.sent.len; rw [stand3 hin]; omega)).mono ?_; rintro e v2 ⟨rfl, rfl⟩; rw [stand3 hin, HVj.out]; clear hA11))
          clear hk0 hk1 HWd
          go_wp2_with fail
          go_roundg (3 - (j + 1))
          case measure => go_light; omega
          case rel => exact ⟨j + 1, by omega, rfl, by go_num, HWe.out⟩
        · obtain rfl : j = 3 := by omega
          go_wp2_with fail
          go_roundg (min len 8 - (i + 1))
          case measure => go_light; omega
          case rel => exact ⟨i + 1, by omega, rfl, by go_num, a6, HWj.out⟩
    · have hini : ¬ (i : Int) < (n : Int) := by omega
      refine (run_none_many hn (by omega) h2 (X i 0) (X i 1) (X i 2) HX3.out.1 HX3.out.2.1 HX3.out.2.2 HWR.out.sent _ hA5).mono ?_
      rintro e w6 ⟨K, t, a6, rfl, hK, hN6, hS6⟩
      have HW6 := Lib.hid (hN5 _ _ hN6 hS6)
      have hKi : ¬ (K : Int) < 1 := by omega
      clear hA5 hN5 hN6 hS6 HWR HW3 HWay H93 HG HBc q0 q1 q2 q3 q4 q5 q6 q7 q8
      go_wp2_with fail
      refine (sdone_lit 3 n (X i 0) (X i 1) (X i 2) t 0 false _).mono ?_
      rintro e w7 ⟨rfl, hb7⟩
      have h97 := block_held (heap_alloc_new w6 _) hb7
      have HW7 := Lib.hid ((HW6.out.behind (below_box w6 (.cells #[.int .i64 3, .int .i64 n, .int .u64 (X i 0), .int .u64 (X i 1), .int .u64 (X i 2), .bool false, .int .u64 t, .int .i64 6, .int .i64 0] 35))).behind hb7)
      obtain ⟨c0, c1, c2, c3, c4, c5, c6, c7, c8⟩ := nine_cells h97
      clear h97 hb7 HW6
      go_wp2_with fail
      refine (sclaimed_lit 3 n (X i 0) (X i 1) (X i 2) t 0 false _).mono ?_
      rintro e w8 ⟨rfl, hb8⟩
      have HW8 := Lib.hid (HW7.out.behind hb8)
      clear c0 c1 c2 c3 c4 c5 c6 c7 c8 hb8 HW7
      go_wp2_with fail
      go_roundg (min len 8 - (i + 1))
      case measure => go_light; omega
      case rel => exact ⟨i + 1, by omega, rfl, by go_num, a6, HW8.out⟩

set_option maxHeartbeats 4000000 in
set_option maxRecDepth 100000 in
theorem alone_lone (X : Nat → Nat → Nat) (len : Nat) (hX : ∀ i, i < len → X i 0 < 18446744073709551616 ∧ X i 1 < 18446744073709551616 ∧ X i 2 < 18446744073709551616) (places : Int) (sa : Option Addr) (cap bk o : Nat) (hsa : 0 < len → sa = some ⟨bk, o, none⟩) (w : World)
    (hc : ∀ i, i < len → w.cell? ⟨bk, o + i * 3, none⟩ = some (.int .u64 (X i 0 : Nat)) ∧ w.cell? ⟨bk, o + i * 3 + 1, none⟩ = some (.int .u64 (X i 1 : Nat)) ∧ w.cell? ⟨bk, o + i * 3 + 2, none⟩ = some (.int .u64 (X i 2 : Nat))) :
    Calls Try.prog 3 #[.int .i64 places, .slice sa len cap, .bool true] w fun e w' => e = .returned (.bool true) ∧ Below w.heap.size w w' := by
  obtain ⟨n, hn, hsh⟩ := shl_one places
  have HO : Hid (Rg.Ok 3 n) := by show Rg.Ok 3 n; unfold Rg.Ok; omega
  have HC := Lib.hid hc
  have HX := Lib.hid hX
  have HS := Lib.hid hsa
  have j1 : IntKind.i64.wrap (3 + (1 + 4 * (n : Int))) = 3 + (1 + 4 * (n : Int)) := by rw [IntKind.wrap_i64]; omega
  have HJ : Hid (3 + (1 + 4 * (n : Int)) = ((4 + 4 * n : Nat) : Int)) := by show 3 + (1 + 4 * (n : Int)) = _; omega
  clear hc hX hsa
  go_enter Try.func3, Try.ntmps3
  go_wp2_with fail
  rw [hsh]
  refine (rcells_in n (by omega) _).mono ?_
  rintro e w2 ⟨rfl, rfl⟩
  clear hsh
  go_wp2_with fail
  rw [HJ.out]
  refine (new_yes (4 + 4 * n) _ (by omega) (by omega)).mono ?_
  rintro e w1 ⟨s, rfl, hA, hR⟩
  clear j1 HJ
  rw [show (w.alloc (.cells #[.int .i64 3, .int .i64 (n : Int)] 25)).heap.size = w.heap.size + 1 by simp] at hA
  have HA := Lib.hid hA
  have hb1 : Below (w.alloc (.cells #[.int .i64 3, .int .i64 (n : Int)] 25)).heap.size (w.alloc (.cells #[.int .i64 3, .int .i64 (n : Int)] 25)) w1 := hR.below (Nat.le_refl _) (fun k hk => hk.elim)
  obtain ⟨c0, c1, hb2⟩ := kept hb1
  have HK := Lib.hid (And.intro c0 (And.intro c1 hb2))
  clear hA hR hb1 hb2
  go_wp2_with fail
  refine (init_yes 3 n HO.out _ HA.out (by simp [Ar.new])).mono ?_
  rintro e w2 ⟨rfl, a0, hcs, hN⟩
  have HW0 : Hid (Way w w1 w2 s n true 0 X bk o len a0) := ⟨⟨_, HA.out⟩, HK.out.2.2, HK.out.1, HK.out.2.1, hN, by rw [hcs]; exact Sent.start n true _ (by simp [Ar.new]), HC.out⟩
  clear hcs hN HK c0 c1
  have hm0 : min len 8 ≤ 8 := Nat.min_le_right _ _
  go_wp2_with fail
  go_loopg [10] (min len 8) (fun g s10 wr => ∃ i : Nat, i ≤ min len 8 ∧ g = min len 8 - i ∧ s10 = .int .i64 i ∧ Hid (∃ a', Way w w1 wr s n true i X bk o len a'))
  case atStart => exact ⟨0, Nat.zero_le _, rfl, rfl, a0, HW0.out⟩
  case round =>
    clear HW0
    obtain ⟨i, hi, rfl, rfl, hR⟩ := hrel
    obtain ⟨a, hW⟩ := hR.out
    have HWay := Lib.hid hW
    clear hR hW
    by_cases h1 : i < len
    rotate_left
    · have h1i : ¬ (i : Int) < (len : Int) := by omega
      go_wp2_with fail
      refine (awake7_any _).mono ?_
      rintro e v ⟨rfl, hv⟩
      have hbe := HWay.out.below.trans (hv.mono HWay.out.below.size)
      go_wp2
      go_ret
      exact ⟨rfl, hbe⟩
    by_cases h2 : i < 8
    rotate_left
    · have h1i : (i : Int) < (len : Int) := by omega
      have h2i : ¬ (i : Int) < 8 := by omega
      go_wp2_with fail
      refine (awake7_any _).mono ?_
      rintro e v ⟨rfl, hv⟩
      have hbe := HWay.out.below.trans (hv.mono HWay.out.below.size)
      go_wp2
      go_ret
      exact ⟨rfl, hbe⟩
    have h1i : (i : Int) < (len : Int) := by omega
    have h2i : (i : Int) < 8 := by omega
    have e := HS.out (by omega)
    subst e
    obtain ⟨c0, c1⟩ := HWay.out.ring
    obtain ⟨x0, x1, x2⟩ := HWay.out.word h1
    have hX3 := HX.out i h1
    have HX3 := Lib.hid hX3
    clear hX3
    have hwi : IntKind.u64.wrap (i : Int) = (i : Int) := by rw [IntKind.wrap_u64]; omega
    go_upto_region 8 with fail
    go_cut [11] (fun s11 wx => ∃ g : Nat, s11 = .pointer (some ⟨g, 0, none⟩) ∧ Hid (wr.heap.size ≤ g ∧ wx.heap[g]? = some (.cells #[.int .i64 3, .int .i64 n, .int .u64 (X i 0), .int .u64 (X i 1), .int .u64 (X i 2), .bool false, .int .u64 0, .int .i64 0, .int .i64 0] 35 (0, 0)) ∧ Below wr.heap.size wr wx))
    case first =>
      have HW1 := Lib.hid (HWay.out.behind (Below.refl _ _).drew)
      have hs1 : wr.heap.size = wr.drew.heap.size := rfl
      have hbd : Below wr.heap.size wr wr.drew := (Below.refl _ _).drew
      clear c0 c1 x0 x1 x2
      go_wp2_with fail
      refine wp_region_held_drew (S := fun w' => w'.cell? ⟨w.heap.size, 0, none⟩ = some (.int .i64 3) ∧ w'.cell? ⟨w.heap.size, 1, none⟩ = some (.int .i64 n) ∧ w'.cell? ⟨bk, o + i * 3, none⟩ = some (.int .u64 (X i 0 : Nat)) ∧ w'.cell? ⟨bk, o + i * 3 + 1, none⟩ = some (.int .u64 (X i 1 : Nat)) ∧ w'.cell? ⟨bk, o + i * 3 + 2, none⟩ = some (.int .u64 (X i 2 : Nat))) (by kernel_rfl) (HW1.out.five h1) (fun hHeld => ?_)
      refine wpAnyH_yield 0 (.agg #[.int .i64 3, .int .i64 n]) rfl (by kernel_rfl) (by kernel_rfl) (by kernel_rfl) (fun d _ _ _ h => by cases d <;> exact h) (by rfl) (by assumption) (fun _ hSw => by (try dsimp only at hSw); go_simp) ?_
      simp only [Act.put, List.setIfInBounds_toArray, List.set_cons_zero, List.set_cons_succ]
      refine wpAnyH_yield 1 (.slice (some ⟨bk, o, none⟩) len cap) rfl (by kernel_rfl) (by kernel_rfl) (by kernel_rfl) (fun d _ _ _ h => by cases d <;> exact h) (by rfl) (by assumption) (fun _ _ => by go_simp) ?_
      simp only [Act.put, List.setIfInBounds_toArray, List.set_cons_zero, List.set_cons_succ]
      refine wpAnyH_yield 2 (.int .i64 i) rfl (by kernel_rfl) (by kernel_rfl) (by kernel_rfl) (fun d _ _ _ h => by cases d <;> exact h) (by rfl) (by assumption) (fun _ _ => by go_simp) ?_
      simp only [Act.put, List.setIfInBounds_toArray, List.set_cons_zero, List.set_cons_succ]
      refine wpAnyH_yield 3 (.pointer (some ⟨bk, o + i * 3, none⟩)) rfl (by kernel_rfl) (by kernel_rfl) (by kernel_rfl) (fun d _ _ _ h => by cases d <;> exact h) (by rfl) (by assumption) (fun _ _ => by go_simp) ?_
      simp only [Act.put, List.setIfInBounds_toArray, List.set_cons_zero, List.set_cons_succ]
      refine wpAnyH_yield 4 (.agg #[.int .u64 (X i 0), .int .u64 (X i 1), .int .u64 (X i 2)]) rfl (by kernel_rfl) (by kernel_rfl) (by kernel_rfl) (fun d _ _ _ h => by cases d <;> exact h) (by rfl) (by assumption) (fun _ hSw => by (try dsimp only at hSw); go_simp) ?_
      simp only [Act.put, List.setIfInBounds_toArray, List.set_cons_zero, List.set_cons_succ]
      generalize wr.drew = wd at HW1 hs1 hbd hHeld ⊢
      refine wpAnyH_ready (rs := [5, 6]) (by kernel_rfl) (by simp) (AllReadyH.cons rfl (fun K hK => ?_) (AllReadyH.cons rfl (fun K hK => ?_) AllReadyH.nil))
      · go_simp
        go_at_call 8
        refine (snew_any 3 n (X i 0) (X i 1) (X i 2) _).mono ?_
        rintro e w3 ⟨rfl, hb3⟩
        have HW3 := Lib.hid (HW1.out.behind hb3)
        have HB3 := Lib.hid (hbd.trans (hb3.mono hbd.size))
        clear hb3
        refine hK.out _ _ (HW3.out.five h1) (fun hHeld => ?_)
        clear hK K
        try simp only [Act.put, List.setIfInBounds_toArray, List.set_cons_zero, List.set_cons_succ]
        refine wpAnyH_ready (rs := [6]) (by kernel_rfl) (by simp) (AllReadyH.cons rfl (fun K hK => ?_) AllReadyH.nil)
        go_simp
        refine hK.out _ _ ((HW3.out.behind (below_box _ _)).five h1) (fun hHeld => ?_)
        clear hK K
        try simp only [Act.put, List.setIfInBounds_toArray, List.set_cons_zero, List.set_cons_succ]
        refine wpAnyH_ready (rs := [7]) (by kernel_rfl) (by simp) (AllReadyH.cons rfl (fun K hK => ?_) AllReadyH.nil)
        go_simp
        refine hK.out _ _ ((HW3.out.behind (below_box _ _)).five h1) (fun hHeld => ?_)
        clear hK K
        try simp only [Act.put, List.setIfInBounds_toArray, List.set_cons_zero, List.set_cons_succ]
        refine wpAnyH_done (by kernel_rfl) ?_ _
        go_wp2_with fail
        go_meet
        case rel => exact ⟨w3.heap.size, rfl, HB3.out.size, heap_alloc_new _ _, HB3.out.alloc HB3.out.size _⟩
      · go_simp
        refine hK.out _ _ ((HW1.out.behind (below_box _ _)).five h1) (fun hHeld => ?_)
        clear hK K
        try simp only [Act.put, List.setIfInBounds_toArray, List.set_cons_zero, List.set_cons_succ]
        refine wpAnyH_ready (rs := [5]) (by kernel_rfl) (by simp) (AllReadyH.cons rfl (fun K hK => ?_) AllReadyH.nil)
        go_simp
        go_at_call 8
        refine (snew_any 3 n (X i 0) (X i 1) (X i 2) _).mono ?_
        rintro e w3 ⟨rfl, hb3⟩
        have h93 := block_held (heap_alloc_new wd _) hb3
        have HW3 := Lib.hid ((HW1.out.behind (below_box _ _)).behind hb3)
        have HB3 := Lib.hid ((hbd.alloc hbd.size _).trans (hb3.mono (hbd.alloc hbd.size _).size))
        obtain ⟨r0, r1, r2, r3, r4, r5, r6, r7, r8⟩ := nine_cells h93
        obtain ⟨f0, f1, f2, f3, f4, f5, f6, f7, f8⟩ := nine_free h93
        have H93 := Lib.hid h93
        clear hb3 h93
        refine hK.out _ _ (HW3.out.five h1) (fun hHeld => ?_)
        clear hK K
        try simp only [Act.put, List.setIfInBounds_toArray, List.set_cons_zero, List.set_cons_succ]
        refine wpAnyH_ready (rs := [7]) (by kernel_rfl) (by simp) (AllReadyH.cons rfl (fun K hK => ?_) AllReadyH.nil)
        go_simp
        have HB4 := Lib.hid (nine_below (B := wd.heap.size) (c0 := .int .i64 3) (c1 := .int .i64 n) (c2 := .int .u64 (X i 0)) (c3 := .int .u64 (X i 1)) (c4 := .int .u64 (X i 2)) (c5 := .bool false) (c6 := .int .u64 0) (c7 := .int .i64 0) (c8 := .int .i64 0) HB3.out hbd.size)
        refine hK.out _ _ ((HWay.out.behind HB4.out).five h1) (fun hHeld => ?_)
        clear hK K
        try simp only [Act.put, List.setIfInBounds_toArray, List.set_cons_zero, List.set_cons_succ]
        refine wpAnyH_done (by kernel_rfl) ?_ _
        go_wp2_with fail
        go_meet
        case rel => exact ⟨wd.heap.size, rfl, hbd.size, nine_laid H93.out, HB4.out⟩
    clear c0 c1 x0 x1 x2
    obtain ⟨g, rfl, hcut2⟩ := hcut
    have HW3 := Lib.hid (HWay.out.behind hcut2.out.2.2)
    have HG := Lib.hid hcut2.out.1
    have HBc := Lib.hid hcut2.out.2.2
    have H93 := Lib.hid hcut2.out.2.1
    clear hcut2
    have h93 := H93.out
    obtain ⟨q0, q1, q2, q3, q4, q5, q6, q7, q8⟩ := nine_cells h93
    clear h93
    obtain ⟨c0, c1, x0, x1, x2⟩ := HW3.out.five h1
    go_wp2_with fail
    refine wp_region_still_tail 7 (by kernel_rfl) (by kernel_rfl) ?_
    change wpStill _ _ wc.drew (fun a => wpList _ _ _ _ a wc.drew) _ _
    have HW4 := Lib.hid (HW3.out.behind (Below.refl _ _).drew)
    have h94 : wc.drew.heap[g]? = _ := H93.out
    have hs4 : Below wc.heap.size wc wc.drew := (Below.refl _ _).drew
    generalize wc.drew = wd4 at HW4 h94 hs4 ⊢
    have H94 := Lib.hid h94
    have HS4 := Lib.hid hs4
    clear c0 c1 x0 x1 x2 q0 q1 q2 q3 q4 q5 q6 q7 q8 h94 hs4 H93
    obtain ⟨c0, c1, x0, x1, x2⟩ := HW4.out.five h1
    simp only [List.take_succ_cons, List.take_zero, List.drop_succ_cons, List.drop_zero]
    still_step
    still_step
    still_step
    still_step
    still_step
    still_step
    still_step
    refine wpStill_nil ?_
    go_wp2_with fail
    refine (slone_any 3 n (X i 0) (X i 1) (X i 2) i _).mono ?_
    rintro e w5 ⟨rfl, hb5⟩
    have h95 := block_held H94.out hb5
    have hbc5 := (HBc.out.trans (HS4.out.mono HBc.out.size))
    have HB5 := Lib.hid (hbc5.trans (hb5.mono hbc5.size))
    clear c0 c1 x0 x1 x2 hb5 hbc5 HW4 H94 HS4
    obtain ⟨c0, c1, c2, c3, c4, c5, c6, c7, c8⟩ := nine_cells h95
    obtain ⟨f0, f1, f2, f3, f4, f5, f6, f7, f8⟩ := nine_free h95
    clear h95
    go_wp2_with fail
    have HWR := Lib.hid (HWay.out.behind (nine_below (B := g) (c0 := .int .i64 3) (c1 := .int .i64 n) (c2 := .int .u64 (X i 0)) (c3 := .int .u64 (X i 1)) (c4 := .int .u64 (X i 2)) (c5 := .bool true) (c6 := .int .u64 i) (c7 := .int .i64 1) (c8 := .int .i64 0) HB5.out HG.out))
    obtain ⟨T, hA5, hN5⟩ := HWR.out.arena
    by_cases hin : i < n
    · have hini : (i : Int) < (n : Int) := by omega
      refine (run_sent_lone hn hin (X i 0) (X i 1) (X i 2) HX3.out.1 HX3.out.2.1 HX3.out.2.2 HWR.out.sent _ hA5).mono ?_
      rintro e w6 ⟨K, a6, rfl, hK, hN6, hS6, hd, hd0, hd1, hd2⟩
      have HW6 := Lib.hid (hN5 _ _ hN6 hS6)
      have hKi : ¬ (K : Int) < 1 := by omega
      have HD := Lib.hid hd
      have HDD : Hid (∀ j, j < 3 → a6.cs.getD (4 + 4 * i + 1 + j) 0 = X i j) := by
        intro j hj
        obtain rfl | rfl | rfl : j = 0 ∨ j = 1 ∨ j = 2 := by omega
        · exact hd0
        · exact hd1
        · exact hd2
      clear hA5 hN5 hN6 hS6 hd hd0 hd1 hd2 HWR HW3 HWay HG HBc HB5 c0 c1 c2 c3 c4 c5 c6 c7 c8 f0 f1 f2 f3 f4 f5 f6 f7 f8
      go_wp2_with fail
      refine (sdone_sent 3 n (X i 0) (X i 1) (X i 2) i 3 true _).mono ?_
      rintro e w7 ⟨rfl, hb7⟩
      have h97 := block_held (heap_alloc_new w6 _) hb7
      have HW7 := Lib.hid ((HW6.out.behind (below_box w6 (.cells #[.int .i64 3, .int .i64 n, .int .u64 (X i 0), .int .u64 (X i 1), .int .u64 (X i 2), .bool true, .int .u64 i, .int .i64 5, .int .i64 3] 35))).behind hb7)
      obtain ⟨c0, c1, c2, c3, c4, c5, c6, c7, c8⟩ := nine_cells h97
      have H97 := Lib.hid h97
      clear h97 hb7 HW6
      go_wp2_with fail
      refine (sclaimed_sent 3 n (X i 0) (X i 1) (X i 2) i 3 true _).mono ?_
      rintro e w8 ⟨rfl, hb8⟩
      have h98 := block_held H97.out hb8
      have HW8 := Lib.hid (HW7.out.behind hb8)
      clear c0 c1 c2 c3 c4 c5 c6 c7 c8 hb8 HW7 H97
      obtain ⟨c0, c1, c2, c3, c4, c5, c6, c7, c8⟩ := nine_cells h98
      clear h98
      go_wp2_with fail
      refine (sturn_any 3 n (X i 0) (X i 1) (X i 2) i 5 3 true _).mono ?_
      rintro e w9 ⟨rfl, hb9⟩
      have HW9 := Lib.hid (HW8.out.behind hb9)
      clear c0 c1 c2 c3 c4 c5 c6 c7 c8 hb9 HW8
      obtain ⟨c0, c1⟩ := HW9.out.ring
      go_wp2_with fail
      obtain ⟨T2, hA9, -⟩ := HW9.out.arena
      refine (ready_in 3 n i HO.out (by omega) _ hA9 (by have := HW9.out.sent.len; omega)).mono ?_
      rintro e w10 ⟨rfl, hb10⟩
      rw [show (a6.cs.getD (Rg.stand 3 n i) 0 == i + 1) = true by rw [stand3 hin, HD.out]; simp]
      have HW10 := Lib.hid (HW9.out.behind hb10)
      clear c0 c1 hA9 hb10 HW9
      go_wp2_with fail
      go_loopg [16] 3 (fun g2 s16 wr2 => ∃ j : Nat, j ≤ 3 ∧ g2 = 3 - j ∧ s16 = .int .i64 j ∧ Hid (Way w w1 wr2 s n true (i + 1) X bk o len a6))
      case atStart => exact ⟨0, by omega, rfl, rfl, HW10.out⟩
      case round =>
        clear HW10
        obtain ⟨j, hj, rfl, rfl, HWj⟩ := hrel
        by_cases hj3 : j < 3
        · have hj3i : (j : Int) < 3 := by omega
          have HVj := Lib.hid (HDD.out j hj3)
          go_wp2_with fail
          have HWd := Lib.hid (HWj.out.behind (Below.refl _ _).drew)
          have hk0 := HWd.out.three h1 hj3
          go_region_held3 (fun w' => w'.cell? ⟨w.heap.size, 0, none⟩ = some (.int .i64 3) ∧ w'.cell? ⟨w.heap.size, 1, none⟩ = some (.int .i64 n) ∧ w'.cell? ⟨bk, o + i * 3 + j, none⟩ = some (.int .u64 (X i j : Nat)))
            (with_reducible assumption)
            (first
              | (go_at_call 16; refine (data_yes 3 n i j HO.out (by omega) hj3 _).mono ?_; rintro e v1 ⟨rfl, hv1⟩; have HWe := Lib.hid (HWd.out.behind hv1); have hk1 := HWe.out.three h1 hj3; clear hv1)
              | (go_at_call 15; obtain ⟨T3, hA11, -⟩ := HWe.out.arena; refine (look_any (Rg.stand 3 n i + 1 + j) _ hA11 (by have := HWe.out.sent.len; rw [stand3 hin]; omega)).mono ?_; rintro e v2 ⟨rfl, rfl⟩; rw [stand3 hin, HVj.out]; clear hA11))
          clear hk0 hk1 HWd
          go_wp2_with fail
          go_roundg (3 - (j + 1))
          case measure => go_light; omega
          case rel => exact ⟨j + 1, by omega, rfl, by go_num, HWe.out⟩
        · obtain rfl : j = 3 := by omega
          go_wp2_with fail
          go_roundg (min len 8 - (i + 1))
          case measure => go_light; omega
          case rel => exact ⟨i + 1, by omega, rfl, by go_num, a6, HWj.out⟩
    · have hini : ¬ (i : Int) < (n : Int) := by omega
      refine (run_none_lone hn (by omega) h2 (X i 0) (X i 1) (X i 2) HX3.out.1 HX3.out.2.1 HX3.out.2.2 HWR.out.sent _ hA5).mono ?_
      rintro e w6 ⟨K, t, a6, rfl, hK, hN6, hS6⟩
      have HW6 := Lib.hid (hN5 _ _ hN6 hS6)
      have hKi : ¬ (K : Int) < 1 := by omega
      clear hA5 hN5 hN6 hS6 HWR HW3 HWay HG HBc HB5 c0 c1 c2 c3 c4 c5 c6 c7 c8 f0 f1 f2 f3 f4 f5 f6 f7 f8
      go_wp2_with fail
      refine (sdone_lit 3 n (X i 0) (X i 1) (X i 2) t 0 true _).mono ?_
      rintro e w7 ⟨rfl, hb7⟩
      have h97 := block_held (heap_alloc_new w6 _) hb7
      have HW7 := Lib.hid ((HW6.out.behind (below_box w6 (.cells #[.int .i64 3, .int .i64 n, .int .u64 (X i 0), .int .u64 (X i 1), .int .u64 (X i 2), .bool true, .int .u64 t, .int .i64 6, .int .i64 0] 35))).behind hb7)
      obtain ⟨c0, c1, c2, c3, c4, c5, c6, c7, c8⟩ := nine_cells h97
      clear h97 hb7 HW6
      go_wp2_with fail
      refine (sclaimed_lit 3 n (X i 0) (X i 1) (X i 2) t 0 true _).mono ?_
      rintro e w8 ⟨rfl, hb8⟩
      have HW8 := Lib.hid (HW7.out.behind hb8)
      clear c0 c1 c2 c3 c4 c5 c6 c7 c8 hb8 HW7
      go_wp2_with fail
      go_roundg (min len 8 - (i + 1))
      case measure => go_light; omega
      case rel => exact ⟨i + 1, by omega, rfl, by go_num, a6, HW8.out⟩

end Go.Proofs.Ytpaegljfjinckaa
