/- Frames there and back, whatever they are; the frame that the laws of frame ask for each time. -/
import Derived.Test.YtcpgigmnmlmpjaaDoorFrmP
import Derived.Test.YtcpgigmnmlmpjaaDoorFrmGet
import Derived.Test.YtcpgigmnmlmpjaaDoorFrmRG
import Derived.Test.YtcpgigmnmlmpjaaDoorFrmN
namespace Go.Proofs.YtcpgigmnmlmpjaaDoor
open Go.RowKit

/-- A block that is there is there behind all that lays its own blocks. -/
theorem keep {w wk : World} {b : Nat} {o : Obj} (h : w.heap[b]? = some o) (hb : Below w.heap.size w wk) : wk.heap[b]? = some o := (hb.block _ (heap_lt h)).trans h
theorem keep1 {w : World} {b : Nat} {o : Obj} (h : w.heap[b]? = some o) (o' : Obj) : (w.alloc o').heap[b]? = some o := keep h (below_box w o')
theorem laid_last (w wk : World) (o : Obj) (hb : Below (w.alloc o).heap.size (w.alloc o) wk) : wk.heap[w.heap.size]? = some o := keep (heap_alloc_new w o) hb

/-- The cells of a frame's block, and of a block of words. -/
theorem frame_cells {w : World} {b : Nat} {t : TypeId} {c0 c1 c2 c3 c4 c5 c6 c7 c8 c9 c10 : Value} (h : w.heap[b]? = some (.cells #[c0, c1, c2, c3, c4, c5, c6, c7, c8, c9, c10] t (0, 0))) :
    w.cell? ⟨b, 0, none⟩ = some c0 ∧ w.cell? ⟨b, 1, none⟩ = some c1 ∧ w.cell? ⟨b, 2, none⟩ = some c2 ∧ w.cell? ⟨b, 3, none⟩ = some c3 ∧ w.cell? ⟨b, 4, none⟩ = some c4 ∧ w.cell? ⟨b, 5, none⟩ = some c5 ∧ w.cell? ⟨b, 6, none⟩ = some c6 ∧ w.cell? ⟨b, 7, none⟩ = some c7 ∧ w.cell? ⟨b, 8, none⟩ = some c8 ∧ w.cell? ⟨b, 9, none⟩ = some c9 ∧ w.cell? ⟨b, 10, none⟩ = some c10 :=
  ⟨cell_of_row _ _ _ _ _ _ h, cell_of_row _ _ _ _ _ _ h, cell_of_row _ _ _ _ _ _ h, cell_of_row _ _ _ _ _ _ h, cell_of_row _ _ _ _ _ _ h, cell_of_row _ _ _ _ _ _ h, cell_of_row _ _ _ _ _ _ h, cell_of_row _ _ _ _ _ _ h, cell_of_row _ _ _ _ _ _ h, cell_of_row _ _ _ _ _ _ h, cell_of_row _ _ _ _ _ _ h⟩
theorem frame_cells1 {w : World} {b : Nat} {t : TypeId} {c0 c1 c2 c3 c4 c5 c6 c7 c8 c9 c10 : Value} (h : w.heap[b]? = some (.cells #[c0, c1, c2, c3, c4, c5, c6, c7, c8, c9, c10] t (0, 0))) :
    (∀ o, (w.alloc o).cell? ⟨b, 0, none⟩ = some c0) ∧ (∀ o, (w.alloc o).cell? ⟨b, 1, none⟩ = some c1) ∧ (∀ o, (w.alloc o).cell? ⟨b, 2, none⟩ = some c2) ∧ (∀ o, (w.alloc o).cell? ⟨b, 3, none⟩ = some c3) ∧ (∀ o, (w.alloc o).cell? ⟨b, 4, none⟩ = some c4) ∧ (∀ o, (w.alloc o).cell? ⟨b, 5, none⟩ = some c5) ∧ (∀ o, (w.alloc o).cell? ⟨b, 6, none⟩ = some c6) ∧ (∀ o, (w.alloc o).cell? ⟨b, 7, none⟩ = some c7) ∧ (∀ o, (w.alloc o).cell? ⟨b, 8, none⟩ = some c8) ∧ (∀ o, (w.alloc o).cell? ⟨b, 9, none⟩ = some c9) ∧ (∀ o, (w.alloc o).cell? ⟨b, 10, none⟩ = some c10) :=
  ⟨fun o => cell_of_row _ _ _ _ _ _ (keep1 h o), fun o => cell_of_row _ _ _ _ _ _ (keep1 h o), fun o => cell_of_row _ _ _ _ _ _ (keep1 h o), fun o => cell_of_row _ _ _ _ _ _ (keep1 h o), fun o => cell_of_row _ _ _ _ _ _ (keep1 h o), fun o => cell_of_row _ _ _ _ _ _ (keep1 h o), fun o => cell_of_row _ _ _ _ _ _ (keep1 h o), fun o => cell_of_row _ _ _ _ _ _ (keep1 h o), fun o => cell_of_row _ _ _ _ _ _ (keep1 h o), fun o => cell_of_row _ _ _ _ _ _ (keep1 h o), fun o => cell_of_row _ _ _ _ _ _ (keep1 h o)⟩
theorem word_cells {w : World} {b : Nat} {t : TypeId} {c0 c1 c2 : Value} (h : w.heap[b]? = some (.cells #[c0, c1, c2] t (0, 0))) : w.cell? ⟨b, 0, none⟩ = some c0 ∧ w.cell? ⟨b, 1, none⟩ = some c1 ∧ w.cell? ⟨b, 2, none⟩ = some c2 :=
  ⟨cell_of_row _ _ _ _ _ _ h, cell_of_row _ _ _ _ _ _ h, cell_of_row _ _ _ _ _ _ h⟩
theorem word_cells1 {w : World} {b : Nat} {t : TypeId} {c0 c1 c2 : Value} (h : w.heap[b]? = some (.cells #[c0, c1, c2] t (0, 0))) : (∀ o, (w.alloc o).cell? ⟨b, 0, none⟩ = some c0) ∧ (∀ o, (w.alloc o).cell? ⟨b, 1, none⟩ = some c1) ∧ (∀ o, (w.alloc o).cell? ⟨b, 2, none⟩ = some c2) :=
  ⟨fun o => cell_of_row _ _ _ _ _ _ (keep1 h o), fun o => cell_of_row _ _ _ _ _ _ (keep1 h o), fun o => cell_of_row _ _ _ _ _ _ (keep1 h o)⟩

theorem may_of_ok {f : Fm.Fr} (h : f.Ok) : Fm.May f.kind f.client f.service f.slot f.gen f.tr f.seq := by unfold Fm.Fr.Ok at h; unfold Fm.May; omega

/-- Get, with any words: their frame, if it is theirs; else none. -/
theorem fget_any (x0 x1 x2 : Nat) (hx0 : x0 < 18446744073709551616) (hx1 : x1 < 18446744073709551616) (hx2 : x2 < 18446744073709551616) (w : World) (hL : Lay w) :
    Calls Tryd.prog 9 #[.agg #[.int .u64 (x0 : Int), .int .u64 (x1 : Int), .int .u64 (x2 : Int)]] w fun e w' => ((Theirs x0 x1 x2 → e = .returned (.tuple #[.agg #[.int .i64 ((Fm.rd x0 x1 x2).kind : Int), .int .i64 ((Fm.rd x0 x1 x2).client : Int), .int .i64 ((Fm.rd x0 x1 x2).service : Int), .int .i64 ((Fm.rd x0 x1 x2).slot : Int), .int .i64 ((Fm.rd x0 x1 x2).gen : Int), .int .u32 ((Fm.rd x0 x1 x2).call : Int), .int .i64 ((Fm.rd x0 x1 x2).tr : Int), .bool (Fm.rd x0 x1 x2).sure, .bool (Fm.rd x0 x1 x2).stream, .int .i64 ((Fm.rd x0 x1 x2).seq : Int), .int .u32 ((Fm.rd x0 x1 x2).value : Int)], .int .i64 0])) ∧ (¬ Theirs x0 x1 x2 → e = .returned (.tuple #[.agg #[.int .i64 0, .int .i64 0, .int .i64 0, .int .i64 0, .int .i64 0, .int .u32 0, .int .i64 0, .bool false, .bool false, .int .i64 0, .int .u32 0], .int .i64 2]))) ∧ Below w.heap.size w w' := by
  by_cases h0 : x0 < 1125899906842624
  · by_cases h2 : x2 < 65536
    · by_cases hm : (Fm.rd x0 x1 x2).Ok
      · refine (fget_yes x0 x1 x2 hx0 hx1 hx2 h0 h2 (may_of_ok hm) w hL).mono ?_
        rintro e w' ⟨rfl, hb⟩
        exact ⟨⟨fun _ => rfl, fun h => absurd ⟨hm, h0, h2⟩ h⟩, hb⟩
      · refine (fget_no x0 x1 x2 hx0 hx1 hx2 h0 h2 ?_ w hL).mono ?_
        · have hfit := Fm.rd_fits x0 x1 x2
          unfold Fm.Fr.Ok at hm
          unfold Fm.Fr.Fits at hfit
          exact fun h => hm (by unfold Fm.May at h; omega)
        rintro e w' ⟨rfl, hb⟩
        exact ⟨⟨fun h => absurd h.1 hm, fun _ => rfl⟩, hb⟩
    · refine (fget_bits2 x0 x1 x2 hx0 hx1 hx2 h0 h2 w hL).mono ?_
      rintro e w' ⟨rfl, hb⟩
      exact ⟨⟨fun h => absurd h.2.2 h2, fun _ => rfl⟩, hb⟩
  · refine (fget_bits0 x0 x1 x2 hx0 h0 w hL).mono ?_
    rintro e w' ⟨rfl, hb⟩
    exact ⟨⟨fun h => absurd h.2.1 h0, fun _ => rfl⟩, hb⟩

/-- A frame's words are that frame's. -/
theorem theirs_of {f : Fm.Fr} (h : f.Ok) : Theirs (Fm.w0 f) (Fm.w1 f) (Fm.w2 f) := by
  refine ⟨?_, Fm.w0_lt h.fits, Fm.w2_lt h.fits⟩
  rw [Fm.rd_words h.fits]; exact h

/-- Get of a frame's words is the frame. -/
theorem fget_put (f : Fm.Fr) (h : f.Ok) (w : World) (hL : Lay w) :
    Calls Tryd.prog 9 #[.agg #[.int .u64 (Fm.w0 f : Nat), .int .u64 (Fm.w1 f : Nat), .int .u64 (Fm.w2 f : Nat)]] w fun e w' => e = .returned (.tuple #[.agg #[.int .i64 (f.kind : Int), .int .i64 (f.client : Int), .int .i64 (f.service : Int), .int .i64 (f.slot : Int), .int .i64 (f.gen : Int), .int .u32 (f.call : Int), .int .i64 (f.tr : Int), .bool f.sure, .bool f.stream, .int .i64 (f.seq : Int), .int .u32 (f.value : Int)], .int .i64 0]) ∧ Below w.heap.size w w' := by
  refine (fget_any _ _ _ (Fm.w0_small f) (Fm.w1_small f) (Fm.w2_small f) w hL).mono ?_
  rintro e w' ⟨⟨h1, -⟩, hb⟩
  have e1 := h1 (theirs_of h)
  rw [Fm.rd_words h.fits] at e1
  exact ⟨e1, hb⟩

/-- Get of no words is none. -/
theorem fget_zero (w : World) (hL : Lay w) :
    Calls Tryd.prog 9 #[.agg #[.int .u64 0, .int .u64 0, .int .u64 0]] w fun e w' => e = .returned (.tuple #[.agg #[.int .i64 0, .int .i64 0, .int .i64 0, .int .i64 0, .int .i64 0, .int .u32 0, .int .i64 0, .bool false, .bool false, .int .i64 0, .int .u32 0], .int .i64 2]) ∧ Below w.heap.size w w' := by
  refine (fget_any 0 0 0 (by omega) (by omega) (by omega) w hL).mono ?_
  rintro e w' ⟨⟨-, h1⟩, hb⟩
  exact ⟨h1 (fun h => absurd h.1.1 (by decide)), hb⟩

/-- The frame that the laws ask for. -/
def f0 : Fm.Fr := ⟨2, 1, 0, 2, 7, 3, 0, false, false, 0, 9⟩
theorem f0_ok : f0.Ok := by unfold Fm.Fr.Ok f0; dsimp only; omega
def F0 : Value := .agg #[.int .i64 2, .int .i64 1, .int .i64 0, .int .i64 2, .int .i64 7, .int .u32 3, .int .i64 0, .bool false, .bool false, .int .i64 0, .int .u32 9]
theorem aw_put (w : World) (hL : Lay w) : Calls Tryd.prog 7 #[.agg #[.int .i64 2, .int .i64 1, .int .i64 0, .int .i64 2, .int .i64 7, .int .u32 3, .int .i64 0, .bool false, .bool false, .int .i64 0, .int .u32 9]] w fun e w' => e = .returned (.tuple #[.agg #[.int .u64 (Fm.w0 f0 : Nat), .int .u64 (Fm.w1 f0 : Nat), .int .u64 (Fm.w2 f0 : Nat)], .bool true]) ∧ Below w.heap.size w w' :=
  fput_yes f0 f0_ok w hL
theorem aw_get (w : World) (hL : Lay w) : Calls Tryd.prog 9 #[.agg #[.int .u64 (Fm.w0 f0 : Nat), .int .u64 (Fm.w1 f0 : Nat), .int .u64 (Fm.w2 f0 : Nat)]] w fun e w' => e = .returned (.tuple #[.agg #[.int .i64 2, .int .i64 1, .int .i64 0, .int .i64 2, .int .i64 7, .int .u32 3, .int .i64 0, .bool false, .bool false, .int .i64 0, .int .u32 9], .int .i64 0]) ∧ Below w.heap.size w w' :=
  fget_put f0 f0_ok w hL

set_option maxRecDepth 100000 in
set_option maxHeartbeats 1000000 in
/-- There and back. -/
theorem awake_any (w : World) (hL : Lay w) : Calls Tryd.prog 10 #[] w fun e w' => e = .returned (.bool true) ∧ Below w.heap.size w w' := by
  go_enter Tryd.func10, Tryd.ntmps10
  go_wp2_with fail
  refine (aw_put _ hL).mono ?_
  rintro e w1 ⟨rfl, hb1⟩
  have HL := Lib.hid ((hL.kept hb1).kept (below_box w1 (.cells #[.int .u64 (Fm.w0 f0 : Nat), .int .u64 (Fm.w1 f0 : Nat), .int .u64 (Fm.w2 f0 : Nat)] 28)))
  have HB := Lib.hid (on hb1 (below_box w1 (.cells #[.int .u64 (Fm.w0 f0 : Nat), .int .u64 (Fm.w1 f0 : Nat), .int .u64 (Fm.w2 f0 : Nat)] 28)))
  clear hb1
  go_wp2_with fail
  refine (aw_get _ HL.out).mono ?_
  rintro e w2 ⟨rfl, hb2⟩
  have HC := Lib.hid (on HB.out hb2)
  clear hb2
  go_wp2_with fail
  go_ret
  exact ⟨rfl, on HC.out (below_box _ _)⟩

end Go.Proofs.YtcpgigmnmlmpjaaDoor
