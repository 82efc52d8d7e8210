/- A call's tries in memory, and the contracts of what tells of them: how many were sent, how many of them retries, hedges, how many are out, whether one is. -/
import Derived.Test.YtihgohadihjalaaAtM
import Derived.Test.YtihgohadihjalaaUpn
import Derived.Test.YtihgohadihjalaaTkA
import Derived.RegionTactic
import Derived.BigRegion
import Derived.BigQuiet
import Derived.Deep.DeepCutAuto
namespace Go.Proofs.Ytihgohadihjalaa
open Go.RowKit

/-- What lies behind the pointer. -/
def att (u : At.Rq) (s : At.St) : Obj := .cells #[.int .i64 u.k, .int .i64 u.c, .int .i64 u.s, .int .i64 u.t, .int .i64 u.g, .int .u32 u.a, .int .i64 u.r, .bool u.su, .bool u.st, .int .i64 u.q, .int .u32 u.v, .int .i64 u.E, .int .i64 u.M, .int .i64 u.A, .int .i64 (s.n : Int), .int .i64 (s.p : Int), .int .i64 (s.h : Int), .bool s.b, .bool (s.o 0), .bool (s.o 1), .bool (s.o 2), .bool (s.o 3), .bool (s.o 4), .bool (s.o 5), .bool (s.o 6), .bool (s.o 7), .bool (s.o 8), .bool (s.o 9), .bool (s.o 10), .bool (s.o 11), .bool (s.o 12), .bool (s.o 13), .bool (s.o 14), .bool (s.o 15)] 48 (0, 0)
/-- Its request, its end, how its hedges are sent. -/
def Rqc (u : At.Rq) (w : World) (P : Nat) : Prop :=
  w.cell? ⟨P, 0, none⟩ = some (.int .i64 u.k) ∧ w.cell? ⟨P, 1, none⟩ = some (.int .i64 u.c) ∧ w.cell? ⟨P, 2, none⟩ = some (.int .i64 u.s) ∧ w.cell? ⟨P, 3, none⟩ = some (.int .i64 u.t) ∧ w.cell? ⟨P, 4, none⟩ = some (.int .i64 u.g) ∧ w.cell? ⟨P, 5, none⟩ = some (.int .u32 u.a) ∧ w.cell? ⟨P, 6, none⟩ = some (.int .i64 u.r) ∧ w.cell? ⟨P, 7, none⟩ = some (.bool u.su) ∧ w.cell? ⟨P, 8, none⟩ = some (.bool u.st) ∧ w.cell? ⟨P, 9, none⟩ = some (.int .i64 u.q) ∧ w.cell? ⟨P, 10, none⟩ = some (.int .u32 u.v) ∧ w.cell? ⟨P, 11, none⟩ = some (.int .i64 u.E) ∧ w.cell? ⟨P, 12, none⟩ = some (.int .i64 u.M) ∧ w.cell? ⟨P, 13, none⟩ = some (.int .i64 u.A)
theorem att_rq {w : World} {P : Nat} {u : At.Rq} {s : At.St} (h : w.heap[P]? = some (att u s)) : Rqc u w P :=
  ⟨cell_of_row _ _ _ _ _ _ h, cell_of_row _ _ _ _ _ _ h, cell_of_row _ _ _ _ _ _ h, cell_of_row _ _ _ _ _ _ h, cell_of_row _ _ _ _ _ _ h, cell_of_row _ _ _ _ _ _ h, cell_of_row _ _ _ _ _ _ h, cell_of_row _ _ _ _ _ _ h, cell_of_row _ _ _ _ _ _ h, cell_of_row _ _ _ _ _ _ h, cell_of_row _ _ _ _ _ _ h, cell_of_row _ _ _ _ _ _ h, cell_of_row _ _ _ _ _ _ h, cell_of_row _ _ _ _ _ _ h⟩
/-- Its counts, and whether a retry is waited for. -/
theorem att_nums {w : World} {P : Nat} {u : At.Rq} {s : At.St} (h : w.heap[P]? = some (att u s)) :
    w.cell? ⟨P, 14, none⟩ = some (.int .i64 (s.n : Int)) ∧ w.cell? ⟨P, 15, none⟩ = some (.int .i64 (s.p : Int)) ∧ w.cell? ⟨P, 16, none⟩ = some (.int .i64 (s.h : Int)) ∧ w.cell? ⟨P, 17, none⟩ = some (.bool s.b) :=
  ⟨cell_of_row _ _ _ _ _ _ h, cell_of_row _ _ _ _ _ _ h, cell_of_row _ _ _ _ _ _ h, cell_of_row _ _ _ _ _ _ h⟩
theorem att_free {w : World} {P : Nat} {u : At.Rq} {s : At.St} (h : w.heap[P]? = some (att u s)) :
    w.frozen? ⟨P, 14, none⟩ = false ∧ w.frozen? ⟨P, 15, none⟩ = false ∧ w.frozen? ⟨P, 16, none⟩ = false ∧ w.frozen? ⟨P, 17, none⟩ = false :=
  ⟨frozen_of_row _ _ _ _ _ h, frozen_of_row _ _ _ _ _ h, frozen_of_row _ _ _ _ _ h, frozen_of_row _ _ _ _ _ h⟩
/-- Whether a try is out. -/
theorem att_out {w : World} {P : Nat} {u : At.Rq} {s : At.St} (h : w.heap[P]? = some (att u s)) {k : Nat} (hk : k < 16) : w.cell? ⟨P, 18 + k, none⟩ = some (.bool (s.o k)) ∧ w.frozen? ⟨P, 18 + k, none⟩ = false := by
  rcases (show k = 0 ∨ k = 1 ∨ k = 2 ∨ k = 3 ∨ k = 4 ∨ k = 5 ∨ k = 6 ∨ k = 7 ∨ k = 8 ∨ k = 9 ∨ k = 10 ∨ k = 11 ∨ k = 12 ∨ k = 13 ∨ k = 14 ∨ k = 15 by omega) with rfl | rfl | rfl | rfl | rfl | rfl | rfl | rfl | rfl | rfl | rfl | rfl | rfl | rfl | rfl | rfl
  all_goals exact ⟨cell_of_row _ _ _ _ _ _ h, frozen_of_row _ _ _ _ _ h⟩
/-- One of them is written. -/
theorem att_put {w : World} {P : Nat} {u : At.Rq} {s : At.St} (h : w.heap[P]? = some (att u s)) {k : Nat} (hk : k < 16) (v : Bool) :
    (w.setCell ⟨P, 18 + k, none⟩ (.bool v)).heap[P]? = some (att u ⟨s.n, s.p, s.h, s.b, At.put s.o k v⟩) := by
  rcases (show k = 0 ∨ k = 1 ∨ k = 2 ∨ k = 3 ∨ k = 4 ∨ k = 5 ∨ k = 6 ∨ k = 7 ∨ k = 8 ∨ k = 9 ∨ k = 10 ∨ k = 11 ∨ k = 12 ∨ k = 13 ∨ k = 14 ∨ k = 15 by omega) with rfl | rfl | rfl | rfl | rfl | rfl | rfl | rfl | rfl | rfl | rfl | rfl | rfl | rfl | rfl | rfl
  all_goals exact heap_setCell_same _ _ _ _ _ _ h
theorem att_n {w : World} {P : Nat} {u : At.Rq} {s : At.St} (h : w.heap[P]? = some (att u s)) {x : Int} (n : Nat) (hx : x = n) : (w.setCell ⟨P, 14, none⟩ (.int .i64 x)).heap[P]? = some (att u ⟨n, s.p, s.h, s.b, s.o⟩) := by
  subst hx; exact heap_setCell_same _ _ 14 _ _ _ h
theorem att_p {w : World} {P : Nat} {u : At.Rq} {s : At.St} (h : w.heap[P]? = some (att u s)) {x : Int} (n : Nat) (hx : x = n) : (w.setCell ⟨P, 15, none⟩ (.int .i64 x)).heap[P]? = some (att u ⟨s.n, n, s.h, s.b, s.o⟩) := by
  subst hx; exact heap_setCell_same _ _ 15 _ _ _ h
theorem att_h {w : World} {P : Nat} {u : At.Rq} {s : At.St} (h : w.heap[P]? = some (att u s)) {x : Int} (n : Nat) (hx : x = n) : (w.setCell ⟨P, 16, none⟩ (.int .i64 x)).heap[P]? = some (att u ⟨s.n, s.p, n, s.b, s.o⟩) := by
  subst hx; exact heap_setCell_same _ _ 16 _ _ _ h
theorem att_b {w : World} {P : Nat} {u : At.Rq} {s : At.St} (h : w.heap[P]? = some (att u s)) (v : Bool) : (w.setCell ⟨P, 17, none⟩ (.bool v)).heap[P]? = some (att u ⟨s.n, s.p, s.h, v, s.o⟩) :=
  heap_setCell_same _ _ 17 _ _ _ h

/-! Of none. -/
theorem tsent_nil (w : World) : Calls Try.prog 11 #[.pointer none] w fun e w' => e = .returned (.int .i64 0) ∧ w = w' := by
  go_enter Try.func11, Try.ntmps11
  go_wp2
  all_goals (go_ret; exact ⟨rfl, rfl⟩)
theorem tretries_nil (w : World) : Calls Try.prog 12 #[.pointer none] w fun e w' => e = .returned (.int .i64 0) ∧ w = w' := by
  go_enter Try.func12, Try.ntmps12
  go_wp2
  all_goals (go_ret; exact ⟨rfl, rfl⟩)
theorem thedges_nil (w : World) : Calls Try.prog 13 #[.pointer none] w fun e w' => e = .returned (.int .i64 0) ∧ w = w' := by
  go_enter Try.func13, Try.ntmps13
  go_wp2
  all_goals (go_ret; exact ⟨rfl, rfl⟩)

/-! Of one. -/
theorem tsent_any {P : Nat} {u : At.Rq} {s : At.St} (w : World) (h : w.heap[P]? = some (att u s)) : Calls Try.prog 11 #[.pointer (some ⟨P, 0, none⟩)] w fun e w' => e = .returned (.int .i64 (s.n : Int)) ∧ w = w' := by
  obtain ⟨c0, -⟩ := att_nums h
  clear h
  go_enter Try.func11, Try.ntmps11
  go_wp2
  all_goals (go_ret; exact ⟨rfl, rfl⟩)
theorem thedges_any {P : Nat} {u : At.Rq} {s : At.St} (w : World) (h : w.heap[P]? = some (att u s)) : Calls Try.prog 13 #[.pointer (some ⟨P, 0, none⟩)] w fun e w' => e = .returned (.int .i64 (s.h : Int)) ∧ w = w' := by
  obtain ⟨-, -, c0, -⟩ := att_nums h
  clear h
  go_enter Try.func13, Try.ntmps13
  go_wp2
  all_goals (go_ret; exact ⟨rfl, rfl⟩)
theorem tretries_any {P : Nat} {u : At.Rq} {s : At.St} (hp : s.p ≤ 100) (w : World) (h : w.heap[P]? = some (att u s)) : Calls Try.prog 12 #[.pointer (some ⟨P, 0, none⟩)] w fun e w' => e = .returned (.int .i64 (s.tried : Int)) ∧ w = w' := by
  obtain ⟨-, c0, -, c1⟩ := att_nums h
  clear h
  have HT := Lib.hid (show s.tried = if s.b = true then s.p + 1 else s.p from rfl)
  generalize s.tried = z at HT ⊢
  generalize s.p = p at hp c0 HT
  generalize s.b = b at c1 HT
  have hw : IntKind.i64.wrap ((p : Int) + 1) = (p : Int) + 1 := by rw [IntKind.wrap_i64]; omega
  cases b
  all_goals
    go_enter Try.func12, Try.ntmps12
    go_wp2
    go_ret
    exact ⟨by rw [HT.out]; rfl, rfl⟩
theorem tmore_any {P : Nat} {u : At.Rq} {s : At.St} (w : World) (h : w.heap[P]? = some (att u s)) : Calls Try.prog 29 #[.pointer (some ⟨P, 0, none⟩)] w fun e w' => e = .returned (.bool (decide (s.n < 16))) ∧ w = w' := by
  obtain ⟨c0, -⟩ := att_nums h
  clear h
  go_enter Try.func29, Try.ntmps29
  go_wp2
  go_ret
  exact ⟨tret_bool (by simp only [decide_eq_decide]; omega), rfl⟩

set_option maxHeartbeats 1000000 in
/-- Out. -/
theorem tout_any {P : Nat} {u : At.Rq} {s : At.St} (hn : s.n ≤ 16) (w : World) (h : w.heap[P]? = some (att u s)) : Calls Try.prog 14 #[.pointer (some ⟨P, 0, none⟩)] w fun e w' => e = .returned (.int .i64 (s.many : Int)) ∧ w = w' := by
  have hs := tsent_any w h
  have HM := Lib.hid (show s.many = At.cnt s.o s.n from rfl)
  have HO := Lib.hid (fun (k : Nat) (hk : k < 16) => (att_out h hk).1)
  generalize s.many = m at HM ⊢
  generalize s.n = n at hn hs HM
  clear h
  go_enter Try.func14, Try.ntmps14
  go_wp2_with fail
  refine hs.mono ?_
  rintro e w1 ⟨rfl, rfl⟩
  go_wp2_with fail
  go_loopg [3, 7] (17 : Nat) (fun gh s3 s7 wx => ∃ (i c : Nat), s3 = .int .i64 (c : Int) ∧ s7 = .int .i64 (i : Int) ∧ i ≤ n ∧ 17 - i ≤ gh ∧ wx = w ∧ Hid (c = At.cnt s.o i))
  case atStart => exact ⟨0, 0, rfl, rfl, by omega, by omega, rfl, Lib.hid rfl⟩
  case round =>
    obtain ⟨i, c, rfl, rfl, hi, hg, rfl, HC⟩ := hrel
    clear hs
    by_cases hin : i < n
    · have hin' : (i : Int) < (n : Int) := by omega
      have hi16 : (i : Int) < 16 := by omega
      have c0 := HO.out i (by omega)
      have hcl : c ≤ i := by have := At.cnt_le s.o i; have := HC.out; omega
      have hw : IntKind.i64.wrap ((i : Int) + 1) = (i : Int) + 1 := by rw [IntKind.wrap_i64]; omega
      have hwc : IntKind.i64.wrap ((c : Int) + 1) = (c : Int) + 1 := by rw [IntKind.wrap_i64]; omega
      rcases Bool.eq_false_or_eq_true (s.o i) with ho | ho
      all_goals
        have HS := Lib.hid ho
        rw [ho] at c0
        clear ho
        go_wp2_with fail
        go_roundg (17 - (i + 1))
        case measure => omega
      case rel => exact ⟨i + 1, c + 1, by push_cast; rfl, by push_cast; rfl, by omega, by omega, rfl, Lib.hid (by rw [At.cnt_yes HS.out, HC.out])⟩
      case rel => exact ⟨i + 1, c, rfl, by push_cast; rfl, by omega, by omega, rfl, Lib.hid (by rw [At.cnt_no HS.out, HC.out])⟩
    · obtain rfl : i = n := by omega
      go_wp2_with fail
      go_ret
      exact ⟨by rw [HM.out, HC.out]; rfl, rfl⟩
theorem tout_nil (w : World) : Calls Try.prog 14 #[.pointer none] w fun e w' => e = .returned (.int .i64 0) ∧ w = w' := by
  go_enter Try.func14, Try.ntmps14
  go_wp2_with fail
  refine (tsent_nil w).mono ?_
  rintro e w1 ⟨rfl, rfl⟩
  go_wp2_with fail
  go_loopg [3, 7] (1 : Nat) (fun _ s3 s7 wx => s3 = .int .i64 0 ∧ s7 = .int .i64 0 ∧ wx = w)
  case atStart => exact ⟨rfl, rfl, rfl⟩
  case round =>
    obtain ⟨rfl, rfl, rfl⟩ := hrel
    go_wp2_with fail
    go_ret
    exact ⟨rfl, rfl⟩

/-- isOut. -/
theorem tis_nil (k : Int) (w : World) : Calls Try.prog 17 #[.pointer none, .int .i64 k] w fun e w' => e = .returned (.bool false) ∧ w = w' := by
  by_cases h0 : 0 ≤ k
  all_goals
    go_enter Try.func17, Try.ntmps17
    go_wp2_with (go_at_call 11; refine (tsent_nil _).mono ?_; rintro e w' ⟨rfl, rfl⟩)
    all_goals (go_ret; exact ⟨tret_bool (by simp; try omega), rfl⟩)
theorem tis_any {P : Nat} {u : At.Rq} {s : At.St} (hn : s.n ≤ 16) (k : Int) (w : World) (h : w.heap[P]? = some (att u s)) : Calls Try.prog 17 #[.pointer (some ⟨P, 0, none⟩), .int .i64 k] w fun e w' => e = .returned (.bool (decide (At.IsOut s k))) ∧ w = w' := by
  have hs := fun w h => tsent_any (u := u) (s := s) (P := P) w h
  have H := Lib.hid h
  by_cases h0 : 0 ≤ k
  · obtain ⟨j, rfl⟩ : ∃ j : Nat, k = j := ⟨k.toNat, by omega⟩
    by_cases h1 : (j : Int) < (s.n : Int)
    · have c0 := (att_out h (show j < 16 by omega)).1
      have h16 : (j : Int) < 16 := by omega
      have HI := Lib.hid (show decide (At.IsOut s (j : Int)) = s.o j by unfold At.IsOut; simp [h1])
      generalize decide (At.IsOut s (j : Int)) = d at HI ⊢
      generalize s.o j = q at c0 HI
      generalize s.n = n at hs hn h1
      have hd : decide ((j : Int) < (n : Int)) = true := by simpa using h1
      clear h
      go_enter Try.func17, Try.ntmps17
      go_wp2_with (go_at_call 11; refine (hs _ H.out).mono ?_; rintro e w' ⟨rfl, rfl⟩)
      all_goals (go_ret; exact ⟨tret_bool HI.out.symm, rfl⟩)
    · have HI := Lib.hid (show decide (At.IsOut s (j : Int)) = false by unfold At.IsOut; simp [h1])
      generalize decide (At.IsOut s (j : Int)) = d at HI ⊢
      generalize s.n = n at hs hn h1
      have hd : decide ((j : Int) < (n : Int)) = false := by simpa using h1
      clear h
      go_enter Try.func17, Try.ntmps17
      go_wp2_with (go_at_call 11; refine (hs _ H.out).mono ?_; rintro e w' ⟨rfl, rfl⟩)
      all_goals (go_ret; exact ⟨tret_bool HI.out.symm, rfl⟩)
  · have HI := Lib.hid (show decide (At.IsOut s k) = false by unfold At.IsOut; simp [h0])
    generalize decide (At.IsOut s k) = d at HI ⊢
    clear h
    go_enter Try.func17, Try.ntmps17
    go_wp2_with (go_at_call 11; refine (hs _ H.out).mono ?_; rintro e w' ⟨rfl, rfl⟩)
    all_goals (go_ret; exact ⟨tret_bool HI.out.symm, rfl⟩)
end Go.Proofs.Ytihgohadihjalaa
