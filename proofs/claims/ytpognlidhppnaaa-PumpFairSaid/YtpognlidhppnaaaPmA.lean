/- A pump in memory: its block of three cells, the frames that wait. The contracts of New, Len, All, First, Turn, grants and grant. -/
import Derived.Test.YtpognlidhppnaaaFrD
import Derived.Test.YtpognlidhppnaaaFrw
import Derived.Test.YtpognlidhppnaaaResT
import Derived.RegionTactic
import Derived.BigRegion
import Derived.BigQuiet
import Derived.Deep.RegionWith
import Derived.Deep.DeepCutAuto
namespace Go.Proofs.Ytpognlidhppnaaa
open Go.RowKit Go.Sort

namespace Pm
/-- A pump: its services, where it turns next, what waits. -/
structure Ob where
  n : Int
  t : Int
  q : List Wk.Fr
structure Ob.Ok (o : Ob) : Prop where
  n0 : 0 ≤ o.n
  n4 : o.n ≤ 4
  t0 : 0 ≤ o.t
  tn : o.t < 2 + o.n
def new (n : Int) : Ob := ⟨max 1 (min n 4), 0, []⟩
/-- Where it turns, and the pump behind it. -/
def Ob.told (o : Ob) : Int := if o.t = 0 ∧ o.q = [] then 1 else o.t
def Ob.turn (o : Ob) : Ob := { o with t := (o.told + 1) % (2 + o.n) }
/-- Do two frames grant credit to one call? -/
def same (f g : Wk.Fr) : Bool := decide (f.k = 6) && (decide (g.k = 6) && (decide (f.c = g.c) && decide (f.a = g.a)))
/-- Where what grants credit for the same call stands; the first of all is left out. -/
def at_ (f : Wk.Fr) (q : List Wk.Fr) : Option Nat := (q.tail.findIdx? (same f)).map (· + 1)
def place (f : Wk.Fr) (q : List Wk.Fr) : Int := match at_ f q with | some k => (k : Int) | none => -1
def more (g : Wk.Fr) (v : Int) : Wk.Fr := { g with v := IntKind.u32.wrap (g.v + v) }
def Ob.put (o : Ob) (f : Wk.Fr) : Ob := match at_ f o.q with | some k => { o with q := o.q.set k (more (o.q.getD k Wk.zero) f.v) } | none => { o with q := o.q ++ [f] }
def Ob.gone (o : Ob) : Ob := { o with q := o.q.tail }
def Ob.last (o : Ob) : Ob := match o.q with | [] => o | f :: q => { o with q := q ++ [f] }
theorem at_yes {f g : Wk.Fr} {q : List Wk.Fr} {k : Nat} (hk : 1 ≤ k) (hg : q[k]? = some g) (hs : same f g = true) (hn : ∀ j, 1 ≤ j → j < k → ∀ y, q[j]? = some y → same f y = false) : at_ f q = some k := by
  obtain ⟨k, rfl⟩ : ∃ m, k = m + 1 := ⟨k - 1, by omega⟩
  have hg' : q.tail[k]? = some g := by rw [List.getElem?_tail]; exact hg
  obtain ⟨h1, h2⟩ := List.getElem?_eq_some_iff.1 hg'
  unfold at_
  rw [List.findIdx?_eq_some_iff_getElem.2 ⟨h1, by rw [h2]; exact hs, fun j hj => by
    have := hn (j + 1) (by omega) (by omega) (q.tail[j]'(by omega)) (by rw [← List.getElem?_tail, List.getElem?_eq_getElem])
    rw [Bool.not_eq_true]; exact this⟩]
  rfl
theorem at_no {f : Wk.Fr} {q : List Wk.Fr} (hn : ∀ j, 1 ≤ j → ∀ y, q[j]? = some y → same f y = false) : at_ f q = none := by
  unfold at_
  rw [List.findIdx?_eq_none_iff.2, Option.map_none]
  intro y hy
  obtain ⟨j, hj⟩ := List.getElem?_of_mem hy
  rw [List.getElem?_tail] at hj
  exact hn (j + 1) (by omega) y hj
theorem at_lt {f : Wk.Fr} {q : List Wk.Fr} {k : Nat} (h : at_ f q = some k) : 1 ≤ k ∧ ∃ g, q[k]? = some g := by
  unfold at_ at h
  cases hf : q.tail.findIdx? (same f) with
  | none => rw [hf] at h; cases h
  | some j =>
    rw [hf, Option.map_some, Option.some.injEq] at h
    subst h
    obtain ⟨h1, -⟩ := List.findIdx?_eq_some_iff_getElem.1 hf
    refine ⟨by omega, q.tail[j]'h1, ?_⟩
    rw [← List.getElem?_tail, List.getElem?_eq_getElem]
theorem Ob.turn_ok {o : Ob} (h : o.Ok) : o.turn.Ok := ⟨h.n0, h.n4, Int.emod_nonneg _ (by have := h.n0; omega), Int.emod_lt_of_pos _ (by have := h.n0; omega)⟩
theorem Ob.put_ok {o : Ob} (h : o.Ok) (f : Wk.Fr) : (o.put f).Ok := by
  unfold Ob.put
  split
  · exact ⟨h.n0, h.n4, h.t0, h.tn⟩
  · exact ⟨h.n0, h.n4, h.t0, h.tn⟩
theorem Ob.gone_ok {o : Ob} (h : o.Ok) : o.gone.Ok := ⟨h.n0, h.n4, h.t0, h.tn⟩
theorem Ob.last_ok {o : Ob} (h : o.Ok) : o.last.Ok := by
  unfold Ob.last
  split
  · exact h
  · exact ⟨h.n0, h.n4, h.t0, h.tn⟩
theorem new_ok (n : Int) : (new n).Ok := ⟨by simp only [new]; omega, by simp only [new]; omega, by simp only [new]; omega, by simp only [new]; omega⟩
theorem Ob.told_in {o : Ob} (h : o.Ok) : 0 ≤ o.told ∧ o.told ≤ 5 := by
  have := h.n0; have := h.n4; have := h.t0; have := h.tn
  unfold Ob.told
  split <;> omega

def head (n t : Int) (a : Option Addr) (m c : Nat) : Obj := .cells #[.int .i64 n, .int .i64 t, .slice a m c] 36 (0, 0)
def Ob.obj (o : Ob) (a : Option Addr) (c : Nat) : Obj := head o.n o.t a o.q.length c
/-- A pump at P. -/
def part (P : Nat) (o : Ob) : Part := .ex fun m : Option Addr × Nat => .with_ o.Ok (.all [.box P (o.obj m.1 m.2), .fr m.1 m.2 o.q])
/-- What may be read of it. -/
structure In (w : World) (P : Nat) (o : Ob) (a : Option Addr) (c : Nat) (L : Option Nat) : Prop where
  ok : o.Ok
  obj : w.heap[P]? = some (o.obj a c)
  row : FRow w a c o.q L
section
variable {G : Nat → Prop} {w0 w w' : World} {l r : List Part} {P c i : Nat} {o : Ob} {a : Option Addr} {L : Option Nat}
theorem opens (h : Own G w0 w (part P o :: r)) : ∃ a c, o.Ok ∧ Own G w0 w (.box P (o.obj a c) :: .fr a c o.q :: r) := by
  obtain ⟨⟨a, c⟩, h⟩ := h.open_ex
  obtain ⟨hl, h⟩ := h.open_with
  exact ⟨a, c, hl, h.open_all⟩
theorem closes (hl : o.Ok) (h : Own G w0 w (.box P (o.obj a c) :: .fr a c o.q :: r)) : Own G w0 w (part P o :: r) :=
  Own.close_ex (f := fun m : Option Addr × Nat => .with_ o.Ok (.all [.box P (o.obj m.1 m.2), .fr m.1 m.2 o.q])) (a := (a, c)) (Own.close_with hl (Own.close_all (r := [.box P (o.obj a c), .fr a c o.q]) h))
theorem seen (h : Own G w0 w l) (i : Nat) (e : l[i]? = some (part P o)) : ∃ a c L, In w P o a c L := by
  obtain ⟨F, hF, -⟩ := h.lift i e
  obtain ⟨a, c, hl, k⟩ := opens hF
  obtain ⟨L, hr, -⟩ := k.fr 1 rfl
  exact ⟨a, c, L, hl, k.box 0 rfl, hr⟩
theorem In.call (h : In w P o a c L) (hb : Below w.heap.size w w') : In w' P o a c L := ⟨h.ok, keep h.obj hb, h.row.kept (Rest.of_below (own := fun _ => False) hb) (fun _ _ => id)⟩
theorem In.cells (h : In w P o a c L) : w.cell? ⟨P, 0, none⟩ = some (.int .i64 o.n) ∧ w.cell? ⟨P, 1, none⟩ = some (.int .i64 o.t) ∧ w.cell? ⟨P, 2, none⟩ = some (.slice a o.q.length c) := ⟨cell_of_row _ _ _ _ _ _ h.obj, cell_of_row _ _ _ _ _ _ h.obj, cell_of_row _ _ _ _ _ _ h.obj⟩
theorem In.at_ (h : In w P o a c L) {k : Nat} (hk : k < o.q.length) : ∃ g off, a = some ⟨g, off, none⟩ ∧ RowK w 0 27 11 g off o.q.length c (Wk.fitm.flat o.q) := by
  rcases h.row with ⟨-, -, -, e⟩ | ⟨g, off, -, e, hr⟩
  · rw [e] at hk; exact absurd hk (Nat.not_lt_zero _)
  · exact ⟨g, off, e, hr⟩
end
end Pm

/-- New. -/
theorem pmnew_any (n : Int) (w : World) : Calls Try.prog 4 #[.int .i64 n] w fun e w' => e = .returned (.pointer (some ⟨w.heap.size, 0, none⟩)) ∧ w' = w.alloc ((Pm.new n).obj none 0) := by
  have h1 : (if (4 : Int) < n then 4 else n) = min n 4 := by omega
  have h2 : (if n < (4 : Int) then n else 4) = min n 4 := by omega
  have h3 : (if (1 : Int) < min n 4 then min n 4 else 1) = max 1 (min n 4) := by omega
  have h4 : (if min n 4 < (1 : Int) then 1 else min n 4) = max 1 (min n 4) := by omega
  go_enter Try.func4, Try.ntmps4
  go_wp2
  go_ret
  exact ⟨rfl, rfl⟩
section
variable {G : Nat → Prop} {w0 w w' : World} {l : List Part} {P c i : Nat} {o : Pm.Ob} {a : Option Addr} {L : Option Nat}
theorem pm_made (h : Own G w0 w l) (n : Int) : Own G w0 (w.alloc ((Pm.new n).obj none 0)) (Pm.part w.heap.size (Pm.new n) :: l) := by
  have k := ((Own.start (fun _ => False) w).lay ((Pm.new n).obj none 0)).none_fr.swap
  exact h.join (Pm.closes (Pm.new_ok n) k)
/-- Len. -/
theorem pmlen_nil (w : World) : Calls Try.prog 11 #[.pointer none] w fun e w' => e = .returned (.int .i64 0) ∧ w = w' := by
  go_enter Try.func11, Try.ntmps11
  go_wp2
  go_ret
  exact ⟨rfl, rfl⟩
theorem pmlen_in (w : World) (h : Pm.In w P o a c L) : Calls Try.prog 11 #[.pointer (some ⟨P, 0, none⟩)] w fun e w' => e = .returned (.int .i64 o.q.length) ∧ w = w' := by
  obtain ⟨p0, p1, p2⟩ := h.cells
  clear h
  go_enter Try.func11, Try.ntmps11
  go_wp2
  go_ret
  exact ⟨rfl, rfl⟩
theorem pmlen_any (w : World) (h : Own G w0 w l) (e : l[i]? = some (Pm.part P o)) : Calls Try.prog 11 #[.pointer (some ⟨P, 0, none⟩)] w fun e w' => e = .returned (.int .i64 o.q.length) ∧ w = w' := by
  obtain ⟨a, c, L, k⟩ := Pm.seen h i e
  exact pmlen_in w k
/-- All. -/
theorem pmall_nil (w : World) : Calls Try.prog 12 #[.pointer none] w fun e w' => e = .returned (.slice none 0 0) ∧ w = w' := by
  go_enter Try.func12, Try.ntmps12
  go_wp2
  go_ret
  exact ⟨rfl, rfl⟩
theorem pmall_any (hq : o.q.length ≤ 1000000) (w : World) (h : Own G w0 w l) (e : l[i]? = some (Pm.part P o)) : Calls Try.prog 12 #[.pointer (some ⟨P, 0, none⟩)] w fun e w' => ∃ a c, e = .returned (.slice a o.q.length c) ∧ Own G w0 w' (.fr a c o.q :: l) := by
  obtain ⟨a, c, L, k⟩ := Pm.seen h i e
  obtain ⟨p0, p1, p2⟩ := k.cells
  have HC := Lib.hid (frclone_any w rfl k.row hq)
  have HO := Lib.hid h
  clear k hq h e
  go_enter Try.func12, Try.ntmps12
  go_wp2_with fail
  refine HC.out.mono ?_
  rintro e w1 ⟨a', c', L', rfl, h1, h2, h3⟩
  have HE := Lib.hid (HO.out.made (q := .fr a' c' o.q) (F := fun k => L' = some k) (Rest.of_below h3) ⟨L', h1, fun _ e => e⟩ (fun k e => ⟨h2 k e, h1.lt e⟩))
  clear h1 h2 h3 HC HO
  go_wp2_with fail
  go_ret
  exact ⟨a', c', rfl, HE.out⟩
/-- First. -/
theorem pmfirst_nil (w : World) : Calls Try.prog 7 #[.pointer none] w fun e w' => e = .returned (.tuple #[.agg #[.int .i64 0, .int .i64 0, .int .i64 0, .int .i64 0, .int .i64 0, .int .u32 0, .int .i64 0, .bool false, .bool false, .int .i64 0, .int .u32 0], .bool false]) ∧ Below w.heap.size w w' := by
  have H := Lib.hid ((Own.start (fun _ => False) w).lay (.cells #[.int .i64 0, .int .i64 0, .int .i64 0, .int .i64 0, .int .i64 0, .int .u32 0, .int .i64 0, .bool false, .bool false, .int .i64 0, .int .u32 0] 27))
  go_enter Try.func7, Try.ntmps7
  go_upto_region 1 with fail
  generalize w.alloc _ = w1 at H ⊢
  generalize w.heap.size = bA at H ⊢
  obtain ⟨g0, g1, g2, g3, g4, g5, g6, g7, g8, g9, g10⟩ := frame_cells (H.out.box 0 rfl)
  have fz := fun i => frozen_of_row _ _ i _ _ (H.out.box 0 rfl)
  go_wp2_with fail
  refine (pmlen_nil w1).mono ?_
  rintro e w2 ⟨rfl, rfl⟩
  go_wp2_with fail
  have hA := fr_over Wk.zero (H.out.box 0 rfl) rfl
  have H4 := H.out.put 0 rfl (Rest.cells w1 bA 0 Wk.zero.cells rfl) hA
  exact bodyPost_ret (results_row_tmp Try.results7 _ _ bA 27 _ (0, 0) _ rfl hA Try.underlying27 rfl Try.bigFrame.size) rfl ⟨rfl, H4.below (fun _ => id)⟩
theorem pmfirst_no (h0 : o.q = []) (w : World) (h : Own G w0 w l) (e : l[i]? = some (Pm.part P o)) : Calls Try.prog 7 #[.pointer (some ⟨P, 0, none⟩)] w fun e w' => e = .returned (.tuple #[.agg #[.int .i64 0, .int .i64 0, .int .i64 0, .int .i64 0, .int .i64 0, .int .u32 0, .int .i64 0, .bool false, .bool false, .int .i64 0, .int .u32 0], .bool false]) ∧ Below w.heap.size w w' := by
  obtain ⟨a, c, L, k⟩ := Pm.seen h i e
  have H := Lib.hid ((Own.start (fun _ => False) w).lay (.cells #[.int .i64 0, .int .i64 0, .int .i64 0, .int .i64 0, .int .i64 0, .int .u32 0, .int .i64 0, .bool false, .bool false, .int .i64 0, .int .u32 0] 27))
  have HK := Lib.hid (k.call (H.out.below (fun _ => id)))
  have H0 := Lib.hid h0
  clear h e h0 k
  go_enter Try.func7, Try.ntmps7
  go_upto_region 1 with fail
  generalize w.alloc _ = w1 at H HK ⊢
  generalize w.heap.size = bA at H ⊢
  obtain ⟨g0, g1, g2, g3, g4, g5, g6, g7, g8, g9, g10⟩ := frame_cells (H.out.box 0 rfl)
  have fz := fun i => frozen_of_row _ _ i _ _ (H.out.box 0 rfl)
  go_wp2_with fail
  refine (pmlen_in w1 HK.out).mono ?_
  rintro e w2 ⟨rfl, rfl⟩
  rw [H0.out]
  go_wp2_with fail
  have hA := fr_over Wk.zero (H.out.box 0 rfl) rfl
  have H4 := H.out.put 0 rfl (Rest.cells w1 bA 0 Wk.zero.cells rfl) hA
  exact bodyPost_ret (results_row_tmp Try.results7 _ _ bA 27 _ (0, 0) _ rfl hA Try.underlying27 rfl Try.bigFrame.size) rfl ⟨rfl, H4.below (fun _ => id)⟩
set_option maxHeartbeats 2000000 in
theorem pmfirst_yes {x : Wk.Fr} {q : List Wk.Fr} (hq : o.q = x :: q) (w : World) (h : Own G w0 w l) (e : l[i]? = some (Pm.part P o)) : Calls Try.prog 7 #[.pointer (some ⟨P, 0, none⟩)] w fun e w' => e = .returned (.tuple #[.agg #[.int .i64 x.k, .int .i64 x.c, .int .i64 x.s, .int .i64 x.t, .int .i64 x.g, .int .u32 x.a, .int .i64 x.r, .bool x.su, .bool x.st, .int .i64 x.q, .int .u32 x.v], .bool true]) ∧ Below w.heap.size w w' := by
  obtain ⟨a, c, L, k⟩ := Pm.seen h i e
  have H := Lib.hid ((Own.start (fun _ => False) w).lay (.cells #[.int .i64 0, .int .i64 0, .int .i64 0, .int .i64 0, .int .i64 0, .int .u32 0, .int .i64 0, .bool false, .bool false, .int .i64 0, .int .u32 0] 27))
  have HK := Lib.hid (k.call (H.out.below (fun _ => id)))
  have HQ := Lib.hid hq
  clear h e hq k
  go_enter Try.func7, Try.ntmps7
  go_upto_region 1 with fail
  generalize w.alloc _ = w1 at H HK ⊢
  generalize w.heap.size = bA at H ⊢
  go_wp2_with fail
  refine (pmlen_in w1 HK.out).mono ?_
  rintro e w2 ⟨rfl, rfl⟩
  obtain ⟨p0, p1, p2⟩ := HK.out.cells
  obtain ⟨g, off, ha, hR⟩ := HK.out.at_ (k := 0) (by rw [HQ.out]; exact Nat.succ_pos _)
  rw [ha] at p2
  have hlen : o.q.length = q.length + 1 := by rw [HQ.out]; rfl
  obtain ⟨n, hn⟩ : ∃ n, n = o.q.length := ⟨_, rfl⟩
  rw [← hn] at hlen p2 hR ⊢
  rw [HQ.out] at hR
  have hn0 : ¬(n : Int) = 0 := by omega
  have hn2 : (0 : Int) < (n : Int) := by omega
  have hx : (x :: q)[0]? = some x := rfl
  obtain ⟨y0, y1, y2, y3, y4, y5, y6, y7, y8, y9, y10⟩ := fr_cells hR hx
  simp only [Nat.zero_mul, Nat.add_zero] at y0 y1 y2 y3 y4 y5 y6 y7 y8 y9 y10
  obtain ⟨g0, g1, g2, g3, g4, g5, g6, g7, g8, g9, g10⟩ := frame_cells (H.out.box 0 rfl)
  have fz := fun i => frozen_of_row _ _ i _ _ (H.out.box 0 rfl)
  clear hn hR hx ha hlen HK
  go_wp2_with fail
  have hA := fr_over x (H.out.box 0 rfl) rfl
  have H4 := H.out.put 0 rfl (Rest.cells w1 bA 0 x.cells rfl) hA
  exact bodyPost_ret (results_row_tmp Try.results7 _ _ bA 27 _ (0, 0) _ rfl hA Try.underlying27 rfl Try.bigFrame.size) rfl ⟨rfl, H4.below (fun _ => id)⟩
/-- Turn. -/
theorem pmturn_nil (w : World) : Calls Try.prog 6 #[.pointer none] w fun e w' => e = .returned (.int .i64 1) ∧ w = w' := by
  go_enter Try.func6, Try.ntmps6
  go_wp2
  go_ret
  exact ⟨rfl, rfl⟩
set_option maxHeartbeats 1000000 in
theorem pmturn_any (w : World) (h : Own G w0 w l) (e : l[i]? = some (Pm.part P o)) : Calls Try.prog 6 #[.pointer (some ⟨P, 0, none⟩)] w fun e w' => e = .returned (.int .i64 o.told) ∧ Own G w0 w' (l.set i (Pm.part P o.turn)) := by
  obtain ⟨F, hF, back⟩ := h.lift i e
  obtain ⟨a, c, hok, k⟩ := Pm.opens hF
  obtain ⟨L, hrow, -⟩ := k.fr 1 rfl
  have hin : Pm.In w P o a c L := ⟨hok, k.box 0 rfl, hrow⟩
  obtain ⟨p0, p1, p2⟩ := hin.cells
  have z1 := frozen_of_row _ _ 1 _ _ hin.obj
  have ht := Pm.Ob.told_in hok
  have n0 := hok.n0
  have n4 := hok.n4
  have hE : Hid (∀ t, t = o.told → Own G w0 (w.setCell ⟨P, 1, none⟩ (.int .i64 ((t + 1) % (2 + o.n)))) (l.set i (Pm.part P o.turn))) := Lib.hid fun t ht => by
    subst ht
    exact back (Pm.closes (o := o.turn) (a := a) (c := c) (Pm.Ob.turn_ok hok) (k.set 0 rfl (heap_setCell_same w P 1 _ _ _ (k.box 0 rfl))))
  have HI := Lib.hid hin
  have htd : o.told = if o.t = 0 ∧ o.q = [] then 1 else o.t := rfl
  clear h e hF back k hrow hin hok
  generalize o.turn = o' at hE ⊢
  generalize htt : o.told = t at *
  have hw1 : IntKind.i64.wrap (t + 1) = t + 1 := by rw [IntKind.wrap_i64]; omega
  have hw2 : IntKind.i64.wrap (2 + o.n) = 2 + o.n := by rw [IntKind.wrap_i64]; omega
  have hm : (t + 1).tmod (2 + o.n) = (t + 1) % (2 + o.n) := Int.tmod_eq_emod_of_nonneg (by omega)
  have hm2 : 0 ≤ (t + 1) % (2 + o.n) ∧ (t + 1) % (2 + o.n) < 2 + o.n := ⟨Int.emod_nonneg _ (by omega), Int.emod_lt_of_pos _ (by omega)⟩
  have hw3 : IntKind.i64.wrap ((t + 1) % (2 + o.n)) = (t + 1) % (2 + o.n) := by rw [IntKind.wrap_i64]; omega
  have hne : 2 + o.n ≠ 0 := by omega
  have hne2 : ¬2 + o.n = 0 := hne
  by_cases h0 : o.t = 0
  · rw [h0] at p1
    by_cases hq : o.q = []
    · obtain rfl : t = 1 := by rw [htd, if_pos ⟨h0, hq⟩]
      have HQ := Lib.hid hq
      clear htd htt ht n0 n4 hm2 hq
      go_enter Try.func6, Try.ntmps6
      go_wp2_with fail
      refine (pmlen_in w HI.out).mono ?_
      rintro e w2 ⟨rfl, rfl⟩
      rw [HQ.out]
      go_wp2_with fail
      go_ret
      exact ⟨rfl, hE.out 1 rfl⟩
    · obtain rfl : t = 0 := by rw [htd, if_neg (fun x => hq x.2), h0]
      have hl : o.q.length ≠ 0 := fun e => hq (List.length_eq_zero_iff.1 e)
      clear htd htt ht n0 n4 hm2 hq
      go_enter Try.func6, Try.ntmps6
      go_wp2_with fail
      refine (pmlen_in w HI.out).mono ?_
      rintro e w2 ⟨rfl, rfl⟩
      generalize o.q.length = n at *
      have hl2 : ¬(n : Int) = 0 := by omega
      go_wp2_with fail
      go_ret
      exact ⟨rfl, hE.out 0 rfl⟩
  · obtain rfl : t = o.t := by rw [htd, if_neg (fun x => h0 x.1)]
    clear htd htt ht n0 n4 hm2
    go_enter Try.func6, Try.ntmps6
    go_wp2_with fail
    go_ret
    exact ⟨rfl, hE.out _ rfl⟩
end
end Go.Proofs.Ytpognlidhppnaaa
