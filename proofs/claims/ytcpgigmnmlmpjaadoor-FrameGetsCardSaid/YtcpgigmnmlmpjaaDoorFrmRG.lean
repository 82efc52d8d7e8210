/- The document's own Get: the frame of three words, or none. -/
import Derived.Test.YtcpgigmnmlmpjaaDoorFrmRP
import Derived.Test.YtcpgigmnmlmpjaaDoorFrmG
import Derived.Test.YtcpgigmnmlmpjaaDoorFrmEq
namespace Go.Proofs.YtcpgigmnmlmpjaaDoor
open Go.RowKit

/-- What the loop has read so far. -/
def got (f : Fm.Fr) (k : Nat) : Array Value := ((List.range 8).map fun j => Value.int .i64 (if j < k then (nk f j : Nat) else 0 : Nat)).toArray
theorem got_step (f : Fm.Fr) (k : Nat) (h : k < 8) : (got f k).setIfInBounds k (.int .i64 (nk f k : Nat)) = got f (k + 1) := below8 (P := fun k => (got f k).setIfInBounds k (.int .i64 (nk f k : Nat)) = got f (k + 1)) rfl rfl rfl rfl rfl rfl rfl rfl k h
theorem got_at (f : Fm.Fr) (k : Nat) (h : k < 8) : (got f k)[k]? = some (.int .i64 0) := below8 (P := fun k => (got f k)[k]? = some (.int .i64 0)) rfl rfl rfl rfl rfl rfl rfl rfl k h
/-- The words' frame has the fields' numbers. -/
theorem nk_rd (x0 x1 x2 : Nat) (k : Nat) (h : k < 8) : Fld.get x0 (atk k) (btk k) = nk (Fm.rd x0 x1 x2) k :=
  below8 (P := fun k => Fld.get x0 (atk k) (btk k) = nk (Fm.rd x0 x1 x2) k) rfl rfl rfl rfl rfl (Fm.toNat_decide (Fld.get x0 24 1) (by unfold Fld.get; omega)).symm (Fm.toNat_decide (Fld.get x0 25 1) (by unfold Fld.get; omega)).symm rfl k h
theorem nk_le (x0 x1 x2 : Nat) (k : Nat) (h : k < 8) : nk (Fm.rd x0 x1 x2) k ≤ 16777215 := by
  have hg : Fld.get x0 (atk k) (btk k) < 2 ^ btk k := Nat.mod_lt _ (Fld.pow_pos _)
  have hb : btk k ≤ 24 := below8 (P := fun k => btk k ≤ 24) (by decide) (by decide) (by decide) (by decide) (by decide) (by decide) (by decide) (by decide) k h
  have hp : (2 : Nat) ^ btk k ≤ 2 ^ 24 := Nat.pow_le_pow_right (by omega) hb
  rw [← nk_rd x0 x1 x2 k h]
  omega

/-- In the midst of the document's Get: the words, the answer's block, the lengths, what was read. -/
structure Gots (x0 x1 x2 : Nat) (f : Fm.Fr) (k : Nat) (w wk : World) : Prop where
  below : Below w.heap.size w wk
  words : wk.heap[w.heap.size]? = some (.cells #[.int .u64 (x0 : Int), .int .u64 (x1 : Int), .int .u64 (x2 : Int)] 28 (0, 0))
  res : wk.heap[w.heap.size + 1]? = some (.cells #[.int .i64 0, .int .i64 0, .int .i64 0, .int .i64 0, .int .i64 0, .int .u32 0, .int .i64 0, .bool false, .bool false, .int .i64 0, .int .u32 0] 24 (0, 0))
  lens : wk.heap[w.heap.size + 1 + 1]? = some (.cells brow 3 (0, 0))
  nums : wk.heap[w.heap.size + 1 + 1 + 1]? = some (.cells (got f k) 56 (0, 0))
theorem Gots.drew {x0 x1 x2 : Nat} {f : Fm.Fr} {k : Nat} {w wk : World} (h : Gots x0 x1 x2 f k w wk) : Gots x0 x1 x2 f k w wk.drew := ⟨h.below.drew, h.words, h.res, h.lens, h.nums⟩
theorem Gots.kept {x0 x1 x2 : Nat} {f : Fm.Fr} {k : Nat} {w wk wn : World} (h : Gots x0 x1 x2 f k w wk) (hb : Below wk.heap.size wk wn) : Gots x0 x1 x2 f k w wn :=
  ⟨h.below.trans (hb.mono h.below.size), (hb.block _ (block_there h.words)).trans h.words, (hb.block _ (block_there h.res)).trans h.res, (hb.block _ (block_there h.lens)).trans h.lens, (hb.block _ (block_there h.nums)).trans h.nums⟩
theorem Gots.step {x0 x1 x2 : Nat} {f : Fm.Fr} {k : Nat} {w wk : World} (h : Gots x0 x1 x2 f k w wk) (hk : k < 8) : Gots x0 x1 x2 f (k + 1) w (wk.setCell ⟨w.heap.size + 1 + 1 + 1, k, none⟩ (.int .i64 (nk f k : Nat))) :=
  ⟨h.below.setCell (by simp <;> omega) _, by rw [heap_setCell_other _ _ _ _ (by simp <;> omega)]; exact h.words, by rw [heap_setCell_other _ _ _ _ (by simp <;> omega)]; exact h.res, by rw [heap_setCell_other _ _ _ _ (by simp)]; exact h.lens,
   by rw [heap_setCell_same _ _ _ _ _ _ h.nums, got_step f k hk]⟩
theorem Gots.start (x0 x1 x2 : Nat) (f : Fm.Fr) (w : World) : Gots x0 x1 x2 f 0 w ((((w.alloc (.cells #[.int .u64 (x0 : Int), .int .u64 (x1 : Int), .int .u64 (x2 : Int)] 28)).alloc (.cells #[.int .i64 0, .int .i64 0, .int .i64 0, .int .i64 0, .int .i64 0, .int .u32 0, .int .i64 0, .bool false, .bool false, .int .i64 0, .int .u32 0] 24)).alloc (.cells #[.int .i64 4, .int .i64 4, .int .i64 4, .int .i64 8, .int .i64 4, .int .i64 1, .int .i64 1, .int .i64 24] 3)).alloc (.cells #[.int .i64 0, .int .i64 0, .int .i64 0, .int .i64 0, .int .i64 0, .int .i64 0, .int .i64 0, .int .i64 0] 56)) where
  below := ((below_two w _ _).alloc (by simp <;> omega) _).alloc (by simp <;> omega) _
  words := by rw [Below.heap_alloc _ _ _ (by simp <;> omega), Below.heap_alloc _ _ _ (by simp <;> omega), heap_alloc2_old]
  res := by rw [Below.heap_alloc _ _ _ (by simp <;> omega), Below.heap_alloc _ _ _ (by simp), heap_alloc2_new]
  lens := by
    rw [Below.heap_alloc _ _ _ (by simp)]
    have h := heap_alloc_new ((w.alloc (.cells #[.int .u64 (x0 : Int), .int .u64 (x1 : Int), .int .u64 (x2 : Int)] 28)).alloc (.cells #[.int .i64 0, .int .i64 0, .int .i64 0, .int .i64 0, .int .i64 0, .int .u32 0, .int .i64 0, .bool false, .bool false, .int .i64 0, .int .u32 0] 24)) (.cells brow 3)
    simp only [World.size_alloc] at h
    exact h
  nums := by
    have h := fun v : World => heap_alloc_new v (.cells (got f 0) 56)
    have h2 := h (((w.alloc (.cells #[.int .u64 (x0 : Int), .int .u64 (x1 : Int), .int .u64 (x2 : Int)] 28)).alloc (.cells #[.int .i64 0, .int .i64 0, .int .i64 0, .int .i64 0, .int .i64 0, .int .u32 0, .int .i64 0, .bool false, .bool false, .int .i64 0, .int .u32 0] 24)).alloc (.cells brow 3))
    simp only [World.size_alloc] at h2
    exact h2

theorem one_back (b : Bool) : ((b.toNat : Int) == 1) = b := by cases b <;> rfl

/-- A frame of the words, and whether it is theirs. -/
def Theirs (x0 x1 x2 : Nat) : Prop := (Fm.rd x0 x1 x2).Ok ∧ x0 < 1125899906842624 ∧ x2 < 65536

set_option maxRecDepth 100000 in
set_option maxHeartbeats 1000000 in
/-- The document's Get, where the frame is theirs. -/
theorem fget2_any (x0 x1 x2 : Nat) (hx0 : x0 < 18446744073709551616) (hx1 : x1 < 18446744073709551616) (hx2 : x2 < 18446744073709551616) (w : World) :
    Calls Tryd.prog 12 #[.agg #[.int .u64 (x0 : Int), .int .u64 (x1 : Int), .int .u64 (x2 : Int)]] w fun e w' => ((Theirs x0 x1 x2 → e = .returned (.tuple #[.agg #[.int .i64 ((Fm.rd x0 x1 x2).kind : Int), .int .i64 ((Fm.rd x0 x1 x2).client : Int), .int .i64 ((Fm.rd x0 x1 x2).service : Int), .int .i64 ((Fm.rd x0 x1 x2).slot : Int), .int .i64 ((Fm.rd x0 x1 x2).gen : Int), .int .u32 ((Fm.rd x0 x1 x2).call : Int), .int .i64 ((Fm.rd x0 x1 x2).tr : Int), .bool (Fm.rd x0 x1 x2).sure, .bool (Fm.rd x0 x1 x2).stream, .int .i64 ((Fm.rd x0 x1 x2).seq : Int), .int .u32 ((Fm.rd x0 x1 x2).value : Int)], .bool true])) ∧ (¬ Theirs x0 x1 x2 → e = .returned (.tuple #[.agg #[.int .i64 0, .int .i64 0, .int .i64 0, .int .i64 0, .int .i64 0, .int .u32 0, .int .i64 0, .bool false, .bool false, .int .i64 0, .int .u32 0], .bool false]))) ∧ Below w.heap.size w w' := by
  have hnk := Lib.hid (nk_rd x0 x1 x2)
  have hnl := Lib.hid (nk_le x0 x1 x2)
  have hG := Lib.hid (Gots.start x0 x1 x2 (Fm.rd x0 x1 x2) w)
  go_enter Tryd.func12, Tryd.ntmps12
  go_wp2_with fail
  go_loopg [6, 7] 8 (fun g s6 s7 wr => ∃ k : Nat, k ≤ 8 ∧ g = 8 - k ∧ s6 = .int .i64 (atk k : Nat) ∧ s7 = .int .i64 k ∧ Hid (Gots x0 x1 x2 (Fm.rd x0 x1 x2) k w wr))
  case atStart => exact ⟨0, by omega, rfl, rfl, rfl, hG⟩
  case round =>
    obtain ⟨k, hk, rfl, rfl, rfl, hg⟩ := hrel
    by_cases hlt : k < 8
    · have c0 : wr.cell? ⟨w.heap.size, 0, none⟩ = some (.int .u64 (x0 : Int)) := cell_of_row _ _ _ _ _ _ hg.out.words
      have c1 : wr.cell? ⟨w.heap.size + 1 + 1, k, none⟩ = some (.int .i64 (btk k : Nat)) := by rw [cell_of_row _ _ _ _ _ _ hg.out.lens, brow_at k hlt]
      have c2 : wr.cell? ⟨w.heap.size + 1 + 1 + 1, k, none⟩ = some (.int .i64 0) := by rw [cell_of_row _ _ _ _ _ _ hg.out.nums, got_at _ k hlt]
      have c3 : wr.frozen? ⟨w.heap.size + 1 + 1 + 1, k, none⟩ = false := frozen_of_row _ _ _ _ _ hg.out.nums
      have HG := Lib.hid (hg.out.step hlt)
      have d0 : ∀ v, (wr.setCell ⟨w.heap.size + 1 + 1 + 1, k, none⟩ v).cell? ⟨w.heap.size, 0, none⟩ = some (.int .u64 (x0 : Int)) := fun v => by rw [World.cell?_setCell_far _ _ _ _ (by simp <;> omega)]; exact c0
      have d1 : ∀ v, (wr.setCell ⟨w.heap.size + 1 + 1 + 1, k, none⟩ v).cell? ⟨w.heap.size + 1 + 1, k, none⟩ = some (.int .i64 (btk k : Nat)) := fun v => by rw [World.cell?_setCell_far _ _ _ _ (by simp)]; exact c1
      obtain ⟨t1, t2, t3⟩ := at_step k hlt
      have T1 := Lib.hid t1
      have hl := hnl.out k hlt
      have hw : IntKind.i64.wrap ((nk (Fm.rd x0 x1 x2) k : Nat) : Int) = (nk (Fm.rd x0 x1 x2) k : Nat) := by rw [IntKind.wrap_i64]; omega
      clear t1
      go_wp2_with fail
      go_region_held3 (fun w' => w'.cell? ⟨w.heap.size, 0, none⟩ = some (.int .u64 (x0 : Int)) ∧ w'.cell? ⟨w.heap.size + 1 + 1, k, none⟩ = some (.int .i64 (btk k : Nat)))
        (first | assumption | exact ⟨c0, c1⟩ | exact ⟨d0 _, d1 _⟩)
        (first | (go_at_call 24; refine (rget_yes x0 (atk k) (btk k) hx0 t2 t3 _).mono ?_; rintro e w2 ⟨rfl, rfl⟩; rw [hnk.out k hlt]))
      go_wp2_with fail
      go_roundg (8 - (k + 1))
      case measure => omega
      case rel => exact ⟨k + 1, by omega, rfl, by rw [← T1.out]; go_num, by go_num, Lib.hid HG.out.drew⟩
    · obtain rfl : k = 8 := by omega
      clear hG hnk hnl
      obtain ⟨c0, c1, c2⟩ : wr.cell? ⟨w.heap.size, 0, none⟩ = some (.int .u64 (x0 : Int)) ∧ wr.cell? ⟨w.heap.size, 1, none⟩ = some (.int .u64 (x1 : Int)) ∧ wr.cell? ⟨w.heap.size, 2, none⟩ = some (.int .u64 (x2 : Int)) := ⟨cell_of_row _ _ _ _ _ _ hg.out.words, cell_of_row _ _ _ _ _ _ hg.out.words, cell_of_row _ _ _ _ _ _ hg.out.words⟩
      obtain ⟨n0, n1, n2, n3, n4, n5, n6, n7⟩ : wr.cell? ⟨w.heap.size + 1 + 1 + 1, 0, none⟩ = some (.int .i64 ((Fm.rd x0 x1 x2).kind : Nat)) ∧ wr.cell? ⟨w.heap.size + 1 + 1 + 1, 1, none⟩ = some (.int .i64 ((Fm.rd x0 x1 x2).client : Nat)) ∧ wr.cell? ⟨w.heap.size + 1 + 1 + 1, 2, none⟩ = some (.int .i64 ((Fm.rd x0 x1 x2).service : Nat)) ∧ wr.cell? ⟨w.heap.size + 1 + 1 + 1, 3, none⟩ = some (.int .i64 ((Fm.rd x0 x1 x2).slot : Nat)) ∧ wr.cell? ⟨w.heap.size + 1 + 1 + 1, 4, none⟩ = some (.int .i64 ((Fm.rd x0 x1 x2).tr : Nat)) ∧ wr.cell? ⟨w.heap.size + 1 + 1 + 1, 5, none⟩ = some (.int .i64 ((Fm.rd x0 x1 x2).sure.toNat : Nat)) ∧ wr.cell? ⟨w.heap.size + 1 + 1 + 1, 6, none⟩ = some (.int .i64 ((Fm.rd x0 x1 x2).stream.toNat : Nat)) ∧ wr.cell? ⟨w.heap.size + 1 + 1 + 1, 7, none⟩ = some (.int .i64 ((Fm.rd x0 x1 x2).gen : Nat)) := ⟨cell_of_row _ _ _ _ _ _ hg.out.nums, cell_of_row _ _ _ _ _ _ hg.out.nums, cell_of_row _ _ _ _ _ _ hg.out.nums, cell_of_row _ _ _ _ _ _ hg.out.nums, cell_of_row _ _ _ _ _ _ hg.out.nums, cell_of_row _ _ _ _ _ _ hg.out.nums, cell_of_row _ _ _ _ _ _ hg.out.nums, cell_of_row _ _ _ _ _ _ hg.out.nums⟩
      have q1 := one_back (Fm.rd x0 x1 x2).sure
      have q2 := one_back (Fm.rd x0 x1 x2).stream
      have q3 : (x1 : Int) % 4294967296 = ((Fm.rd x0 x1 x2).call : Nat) := by show _ = ((Fld.get x1 0 32 : Nat) : Int); unfold Fld.get; omega
      have q4 : (x1 : Int) / 4294967296 = ((Fm.rd x0 x1 x2).value : Nat) := by show _ = ((Fld.get x1 32 32 : Nat) : Int); unfold Fld.get; omega
      have q5 : (x2 : Int) % 65536 = ((Fm.rd x0 x1 x2).seq : Nat) := by show _ = ((Fld.get x2 0 16 : Nat) : Int); unfold Fld.get; omega
      go_wp2_with fail
      by_cases hOk : (Fm.rd x0 x1 x2).Ok
      · refine (fput2_yes _ hOk _).mono ?_
        rintro e w3 ⟨rfl, hb⟩
        have hf := fun o => (Below.heap_alloc w3 o wr.heap.size (block_there ((hb.block wr.heap.size (by simp)).trans (heap_alloc_new _ _)))).trans ((hb.block wr.heap.size (by simp)).trans (heap_alloc_new _ _))
        have hG := (hg.out.kept (below_box wr _)).kept hb
        have hG4 := Lib.hid (fun o => hG.kept (below_box w3 o))
        clear hb q1 q2 q3 q4 q5 n0 n1 n2 n3 n4 n5 n6 n7 c0 c1 c2 hg hG
        have j0 : ∀ o, (w3.alloc o).cell? ⟨wr.heap.size, 0, none⟩ = some (.int .i64 ((Fm.rd x0 x1 x2).kind : Int)) := fun o => cell_of_row _ _ _ _ _ _ (hf o)
        have j1 : ∀ o, (w3.alloc o).cell? ⟨wr.heap.size, 1, none⟩ = some (.int .i64 ((Fm.rd x0 x1 x2).client : Int)) := fun o => cell_of_row _ _ _ _ _ _ (hf o)
        have j2 : ∀ o, (w3.alloc o).cell? ⟨wr.heap.size, 2, none⟩ = some (.int .i64 ((Fm.rd x0 x1 x2).service : Int)) := fun o => cell_of_row _ _ _ _ _ _ (hf o)
        have j3 : ∀ o, (w3.alloc o).cell? ⟨wr.heap.size, 3, none⟩ = some (.int .i64 ((Fm.rd x0 x1 x2).slot : Int)) := fun o => cell_of_row _ _ _ _ _ _ (hf o)
        have j4 : ∀ o, (w3.alloc o).cell? ⟨wr.heap.size, 4, none⟩ = some (.int .i64 ((Fm.rd x0 x1 x2).gen : Int)) := fun o => cell_of_row _ _ _ _ _ _ (hf o)
        have j5 : ∀ o, (w3.alloc o).cell? ⟨wr.heap.size, 5, none⟩ = some (.int .u32 ((Fm.rd x0 x1 x2).call : Int)) := fun o => cell_of_row _ _ _ _ _ _ (hf o)
        have j6 : ∀ o, (w3.alloc o).cell? ⟨wr.heap.size, 6, none⟩ = some (.int .i64 ((Fm.rd x0 x1 x2).tr : Int)) := fun o => cell_of_row _ _ _ _ _ _ (hf o)
        have j7 : ∀ o, (w3.alloc o).cell? ⟨wr.heap.size, 7, none⟩ = some (.bool (Fm.rd x0 x1 x2).sure) := fun o => cell_of_row _ _ _ _ _ _ (hf o)
        have j8 : ∀ o, (w3.alloc o).cell? ⟨wr.heap.size, 8, none⟩ = some (.bool (Fm.rd x0 x1 x2).stream) := fun o => cell_of_row _ _ _ _ _ _ (hf o)
        have j9 : ∀ o, (w3.alloc o).cell? ⟨wr.heap.size, 9, none⟩ = some (.int .i64 ((Fm.rd x0 x1 x2).seq : Int)) := fun o => cell_of_row _ _ _ _ _ _ (hf o)
        have j10 : ∀ o, (w3.alloc o).cell? ⟨wr.heap.size, 10, none⟩ = some (.int .u32 ((Fm.rd x0 x1 x2).value : Int)) := fun o => cell_of_row _ _ _ _ _ _ (hf o)
        have c0 : ∀ o, (w3.alloc o).cell? ⟨w.heap.size, 0, none⟩ = some (.int .u64 (x0 : Int)) := fun o => cell_of_row _ _ _ _ _ _ (hG4.out o).words
        have c1 : ∀ o, (w3.alloc o).cell? ⟨w.heap.size, 1, none⟩ = some (.int .u64 (x1 : Int)) := fun o => cell_of_row _ _ _ _ _ _ (hG4.out o).words
        have c2 : ∀ o, (w3.alloc o).cell? ⟨w.heap.size, 2, none⟩ = some (.int .u64 (x2 : Int)) := fun o => cell_of_row _ _ _ _ _ _ (hG4.out o).words
        clear hf
        have z0 : ∀ o, (w3.alloc o).cell? ⟨w.heap.size + 1, 0, none⟩ = some (.int .i64 0) := fun o => cell_of_row _ _ _ _ _ _ (hG4.out o).res
        have y0 : ∀ o, (w3.alloc o).frozen? ⟨w.heap.size + 1, 0, none⟩ = false := fun o => frozen_of_row _ _ _ _ _ (hG4.out o).res
        have z1 : ∀ o, (w3.alloc o).cell? ⟨w.heap.size + 1, 1, none⟩ = some (.int .i64 0) := fun o => cell_of_row _ _ _ _ _ _ (hG4.out o).res
        have y1 : ∀ o, (w3.alloc o).frozen? ⟨w.heap.size + 1, 1, none⟩ = false := fun o => frozen_of_row _ _ _ _ _ (hG4.out o).res
        have z2 : ∀ o, (w3.alloc o).cell? ⟨w.heap.size + 1, 2, none⟩ = some (.int .i64 0) := fun o => cell_of_row _ _ _ _ _ _ (hG4.out o).res
        have y2 : ∀ o, (w3.alloc o).frozen? ⟨w.heap.size + 1, 2, none⟩ = false := fun o => frozen_of_row _ _ _ _ _ (hG4.out o).res
        have z3 : ∀ o, (w3.alloc o).cell? ⟨w.heap.size + 1, 3, none⟩ = some (.int .i64 0) := fun o => cell_of_row _ _ _ _ _ _ (hG4.out o).res
        have y3 : ∀ o, (w3.alloc o).frozen? ⟨w.heap.size + 1, 3, none⟩ = false := fun o => frozen_of_row _ _ _ _ _ (hG4.out o).res
        have z4 : ∀ o, (w3.alloc o).cell? ⟨w.heap.size + 1, 4, none⟩ = some (.int .i64 0) := fun o => cell_of_row _ _ _ _ _ _ (hG4.out o).res
        have y4 : ∀ o, (w3.alloc o).frozen? ⟨w.heap.size + 1, 4, none⟩ = false := fun o => frozen_of_row _ _ _ _ _ (hG4.out o).res
        have z5 : ∀ o, (w3.alloc o).cell? ⟨w.heap.size + 1, 5, none⟩ = some (.int .u32 0) := fun o => cell_of_row _ _ _ _ _ _ (hG4.out o).res
        have y5 : ∀ o, (w3.alloc o).frozen? ⟨w.heap.size + 1, 5, none⟩ = false := fun o => frozen_of_row _ _ _ _ _ (hG4.out o).res
        have z6 : ∀ o, (w3.alloc o).cell? ⟨w.heap.size + 1, 6, none⟩ = some (.int .i64 0) := fun o => cell_of_row _ _ _ _ _ _ (hG4.out o).res
        have y6 : ∀ o, (w3.alloc o).frozen? ⟨w.heap.size + 1, 6, none⟩ = false := fun o => frozen_of_row _ _ _ _ _ (hG4.out o).res
        have z7 : ∀ o, (w3.alloc o).cell? ⟨w.heap.size + 1, 7, none⟩ = some (.bool false) := fun o => cell_of_row _ _ _ _ _ _ (hG4.out o).res
        have y7 : ∀ o, (w3.alloc o).frozen? ⟨w.heap.size + 1, 7, none⟩ = false := fun o => frozen_of_row _ _ _ _ _ (hG4.out o).res
        have z8 : ∀ o, (w3.alloc o).cell? ⟨w.heap.size + 1, 8, none⟩ = some (.bool false) := fun o => cell_of_row _ _ _ _ _ _ (hG4.out o).res
        have y8 : ∀ o, (w3.alloc o).frozen? ⟨w.heap.size + 1, 8, none⟩ = false := fun o => frozen_of_row _ _ _ _ _ (hG4.out o).res
        have z9 : ∀ o, (w3.alloc o).cell? ⟨w.heap.size + 1, 9, none⟩ = some (.int .i64 0) := fun o => cell_of_row _ _ _ _ _ _ (hG4.out o).res
        have y9 : ∀ o, (w3.alloc o).frozen? ⟨w.heap.size + 1, 9, none⟩ = false := fun o => frozen_of_row _ _ _ _ _ (hG4.out o).res
        have z10 : ∀ o, (w3.alloc o).cell? ⟨w.heap.size + 1, 10, none⟩ = some (.int .u32 0) := fun o => cell_of_row _ _ _ _ _ _ (hG4.out o).res
        have y10 : ∀ o, (w3.alloc o).frozen? ⟨w.heap.size + 1, 10, none⟩ = false := fun o => frozen_of_row _ _ _ _ _ (hG4.out o).res
        have e1 := Fm.w1_rd x0 x1 x2 hx1
        by_cases hin : x0 < 1125899906842624 ∧ x2 < 65536
        · have e0 : Fm.w0 (Fm.rd x0 x1 x2) = x0 := by rw [Fm.w0_rd]; omega
          have e2 : Fm.w2 (Fm.rd x0 x1 x2) = x2 := by rw [Fm.w2_rd]; omega
          rw [e0, e1, e2]
          clear e0 e1 e2
          have hwe := words_equal
          have HT := Lib.hid (show Theirs x0 x1 x2 from ⟨hOk, hin⟩)
          clear hin
          go_wp2_with fail
          refine bodyPost_ret (results_row_tmp Tryd.results12 _ _ (w.heap.size + 1) 24 _ (0, 0) _ rfl (frame_laid rfl (hG4.out _).res) Tryd.underlying24 rfl Tryd.sizeFrame) rfl ⟨⟨fun _ => rfl, fun h => absurd HT.out h⟩, frame_below (hG4.out _).below (by simp)⟩
        · have HT := Lib.hid (show ¬ Theirs x0 x1 x2 from fun h => hin h.2)
          rw [e1]
          clear e1
          have hwe := words_equal
          by_cases hin0 : x0 < 1125899906842624
          · have e0 : Fm.w0 (Fm.rd x0 x1 x2) = x0 := by rw [Fm.w0_rd]; omega
            have e2 : (((Fm.w2 (Fm.rd x0 x1 x2) : Nat) : Int) == x2) = false := by rw [Fm.w2_rd]; simp; omega
            rw [e0]
            clear e0 hin hin0
            go_wp2_with fail
            refine bodyPost_ret (results_row_tmp Tryd.results12 _ _ (w.heap.size + 1) 24 _ (0, 0) _ rfl (frame_laid rfl (hG4.out _).res) Tryd.underlying24 rfl Tryd.sizeFrame) rfl ⟨⟨fun h => absurd h HT.out, fun _ => rfl⟩, frame_below (hG4.out _).below (by simp)⟩
          · have e0 : (((Fm.w0 (Fm.rd x0 x1 x2) : Nat) : Int) == x0) = false := by rw [Fm.w0_rd]; simp; omega
            clear hin hin0
            go_wp2_with fail
            refine bodyPost_ret (results_row_tmp Tryd.results12 _ _ (w.heap.size + 1) 24 _ (0, 0) _ rfl (frame_laid rfl (hG4.out _).res) Tryd.underlying24 rfl Tryd.sizeFrame) rfl ⟨⟨fun h => absurd h HT.out, fun _ => rfl⟩, frame_below (hG4.out _).below (by simp)⟩
      · have HM : Hid (¬ Fm.May (Fm.rd x0 x1 x2).kind (Fm.rd x0 x1 x2).client (Fm.rd x0 x1 x2).service (Fm.rd x0 x1 x2).slot (Fm.rd x0 x1 x2).gen (Fm.rd x0 x1 x2).tr (Fm.rd x0 x1 x2).seq) := by
          have hfit := Fm.rd_fits x0 x1 x2
          unfold Fm.Fr.Ok at hOk
          unfold Fm.Fr.Fits at hfit
          exact fun h => hOk (by unfold Fm.May at h; omega)
        have HT := Lib.hid (show ¬ Theirs x0 x1 x2 from fun h => hOk h.1)
        clear hOk
        refine (fput2_no _ _ _ _ _ _ _ _ _ _ _ HM.out _).mono ?_
        rintro e w3 ⟨rfl, hb⟩
        have hG := (hg.out.kept (below_box wr _)).kept hb
        have hG4 := Lib.hid (fun o => hG.kept (below_box w3 o))
        clear hb q1 q2 q3 q4 q5 n0 n1 n2 n3 n4 n5 n6 n7 c0 c1 c2 hg hG
        have z0 : ∀ o, (w3.alloc o).cell? ⟨w.heap.size + 1, 0, none⟩ = some (.int .i64 0) := fun o => cell_of_row _ _ _ _ _ _ (hG4.out o).res
        have y0 : ∀ o, (w3.alloc o).frozen? ⟨w.heap.size + 1, 0, none⟩ = false := fun o => frozen_of_row _ _ _ _ _ (hG4.out o).res
        have z1 : ∀ o, (w3.alloc o).cell? ⟨w.heap.size + 1, 1, none⟩ = some (.int .i64 0) := fun o => cell_of_row _ _ _ _ _ _ (hG4.out o).res
        have y1 : ∀ o, (w3.alloc o).frozen? ⟨w.heap.size + 1, 1, none⟩ = false := fun o => frozen_of_row _ _ _ _ _ (hG4.out o).res
        have z2 : ∀ o, (w3.alloc o).cell? ⟨w.heap.size + 1, 2, none⟩ = some (.int .i64 0) := fun o => cell_of_row _ _ _ _ _ _ (hG4.out o).res
        have y2 : ∀ o, (w3.alloc o).frozen? ⟨w.heap.size + 1, 2, none⟩ = false := fun o => frozen_of_row _ _ _ _ _ (hG4.out o).res
        have z3 : ∀ o, (w3.alloc o).cell? ⟨w.heap.size + 1, 3, none⟩ = some (.int .i64 0) := fun o => cell_of_row _ _ _ _ _ _ (hG4.out o).res
        have y3 : ∀ o, (w3.alloc o).frozen? ⟨w.heap.size + 1, 3, none⟩ = false := fun o => frozen_of_row _ _ _ _ _ (hG4.out o).res
        have z4 : ∀ o, (w3.alloc o).cell? ⟨w.heap.size + 1, 4, none⟩ = some (.int .i64 0) := fun o => cell_of_row _ _ _ _ _ _ (hG4.out o).res
        have y4 : ∀ o, (w3.alloc o).frozen? ⟨w.heap.size + 1, 4, none⟩ = false := fun o => frozen_of_row _ _ _ _ _ (hG4.out o).res
        have z5 : ∀ o, (w3.alloc o).cell? ⟨w.heap.size + 1, 5, none⟩ = some (.int .u32 0) := fun o => cell_of_row _ _ _ _ _ _ (hG4.out o).res
        have y5 : ∀ o, (w3.alloc o).frozen? ⟨w.heap.size + 1, 5, none⟩ = false := fun o => frozen_of_row _ _ _ _ _ (hG4.out o).res
        have z6 : ∀ o, (w3.alloc o).cell? ⟨w.heap.size + 1, 6, none⟩ = some (.int .i64 0) := fun o => cell_of_row _ _ _ _ _ _ (hG4.out o).res
        have y6 : ∀ o, (w3.alloc o).frozen? ⟨w.heap.size + 1, 6, none⟩ = false := fun o => frozen_of_row _ _ _ _ _ (hG4.out o).res
        have z7 : ∀ o, (w3.alloc o).cell? ⟨w.heap.size + 1, 7, none⟩ = some (.bool false) := fun o => cell_of_row _ _ _ _ _ _ (hG4.out o).res
        have y7 : ∀ o, (w3.alloc o).frozen? ⟨w.heap.size + 1, 7, none⟩ = false := fun o => frozen_of_row _ _ _ _ _ (hG4.out o).res
        have z8 : ∀ o, (w3.alloc o).cell? ⟨w.heap.size + 1, 8, none⟩ = some (.bool false) := fun o => cell_of_row _ _ _ _ _ _ (hG4.out o).res
        have y8 : ∀ o, (w3.alloc o).frozen? ⟨w.heap.size + 1, 8, none⟩ = false := fun o => frozen_of_row _ _ _ _ _ (hG4.out o).res
        have z9 : ∀ o, (w3.alloc o).cell? ⟨w.heap.size + 1, 9, none⟩ = some (.int .i64 0) := fun o => cell_of_row _ _ _ _ _ _ (hG4.out o).res
        have y9 : ∀ o, (w3.alloc o).frozen? ⟨w.heap.size + 1, 9, none⟩ = false := fun o => frozen_of_row _ _ _ _ _ (hG4.out o).res
        have z10 : ∀ o, (w3.alloc o).cell? ⟨w.heap.size + 1, 10, none⟩ = some (.int .u32 0) := fun o => cell_of_row _ _ _ _ _ _ (hG4.out o).res
        have y10 : ∀ o, (w3.alloc o).frozen? ⟨w.heap.size + 1, 10, none⟩ = false := fun o => frozen_of_row _ _ _ _ _ (hG4.out o).res
        go_wp2_with fail
        refine bodyPost_ret (results_row_tmp Tryd.results12 _ _ (w.heap.size + 1) 24 _ (0, 0) _ rfl (frame_laid rfl (hG4.out _).res) Tryd.underlying24 rfl Tryd.sizeFrame) rfl ⟨⟨fun h => absurd h HT.out, fun _ => rfl⟩, frame_below (hG4.out _).below (by simp)⟩

end Go.Proofs.YtcpgigmnmlmpjaaDoor
