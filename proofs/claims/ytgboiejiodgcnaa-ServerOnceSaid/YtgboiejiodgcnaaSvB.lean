/- The contracts of a service's Loads, Known, Runs and Next. -/
import Derived.Test.YtgboiejiodgcnaaSvA
import Derived.Test.YtgboiejiodgcnaaRw2
import Derived.Test.YtgboiejiodgcnaaNums
import Derived.Deep.LoopGhost
namespace Go.Proofs.Ytgboiejiodgcnaa
open Go.RowKit Go.Sort

theorem Try.itemsInts : Item1 Try.prog 42 3 := .of (z := .int .i64 0) (b := 8) Try.underlying42 (by kernel_rfl) (by decide) rfl
namespace Sv
/-- The first workers' loads. -/
def Ob.lds (o : Ob) (n : Nat) : List Value := (List.range n).map fun i => .int .i64 (o.load i)
theorem Ob.lds_length (o : Ob) (n : Nat) : (o.lds n).length = n := by simp [lds]
theorem Ob.lds_more (o : Ob) (n : Nat) : o.lds (n + 1) = o.lds n ++ [.int .i64 (o.load n)] := by simp [lds, List.range_succ]
theorem Ob.load_bound (o : Ob) (hq : ∀ x ∈ o.ws, x.q.length ≤ 1000) (i : Nat) : 0 ≤ o.load i ∧ o.load i ≤ 1001 := by
  unfold Ob.load
  cases hx : o.ws[i]? with
  | none => exact ⟨Int.le_refl _, by decide⟩
  | some x =>
    have := hq x (List.mem_of_getElem? hx)
    simp only [Wk.Wo.load]
    split <;> omega
end Sv

section
variable {G : Nat → Prop} {w0 : World} {l : List Part} {S i : Nat} {ps : List Nat} {o : Sv.Ob}
/-- Loads. -/
theorem svloads_nil (w : World) : Calls Try.prog 14 #[.pointer none] w fun e w' => e = .returned (.slice none 0 0) ∧ w = w' := by
  go_enter Try.func14, Try.ntmps14
  go_wp2
  go_ret
  exact ⟨rfl, rfl⟩
set_option maxHeartbeats 2000000 in
theorem svloads_any (hn : o.ws.length ≤ 1000) (hq : ∀ x ∈ o.ws, x.q.length ≤ 1000) (w : World) (h : Own G w0 w l) (e : l[i]? = some (Sv.part S ps o)) : Calls Try.prog 14 #[.pointer (some ⟨S, 0, none⟩)] w fun e w' => ∃ a c, e = .returned (.slice a o.ws.length c) ∧ Nums w' a o.ws.length o.load ∧ Below w.heap.size w w' := by
  obtain ⟨m, hl, hS, hr⟩ := Sv.seen h i e
  obtain ⟨p0, -, -, -, -, -⟩ := Sv.cells_at hS
  have HO := Lib.hid (And.intro h e)
  have HL := Lib.hid hl
  have HQ := Lib.hid hq
  have HR := Lib.hid hr
  clear h e hl hr hS hq
  generalize hlen : o.ws.length = n at *
  have HN := Lib.hid hlen
  clear hlen
  go_enter Try.func14, Try.ntmps14
  go_wp2_with fail
  go_loopg [3, 13] (1001 : Nat) (fun gh s3 s13 wx => ∃ (k : Nat) (a : Option Addr) (c : Nat), k ≤ n ∧ 1001 - k ≤ gh ∧ s3 = .slice a k c ∧ s13 = .int .i64 k ∧ Hid (Mk w wx 3 a c (o.lds k)))
  case atStart => exact ⟨0, none, 0, by omega, by omega, rfl, rfl, Lib.hid (Mk.start (Rest.refl _ _) _)⟩
  case round =>
    obtain ⟨k, a, c, hkn, hg, rfl, rfl, HK⟩ := hrel
    clear p0
    by_cases hk : k < n
    · have hk' : (k : Int) < (n : Int) := by omega
      have hwk : IntKind.i64.wrap ((k : Int) + 1) = (k : Int) + 1 := by rw [IntKind.wrap_i64]; omega
      obtain ⟨x, hx⟩ : ∃ x, o.ws[k]? = some x := ⟨o.ws[k]'(by have := HN.out; omega), List.getElem?_eq_getElem _⟩
      obtain ⟨P, hp⟩ : ∃ P, ps[k]? = some P := ⟨ps[k]'(by have := HL.out; omega), List.getElem?_eq_getElem _⟩
      obtain ⟨L, hw, -⟩ := Sv.wk (HO.out.1.call HK.out.1) i HO.out.2 hp hx
      have pk := Sv.ptr_at (HR.out.kept (HK.out.1.block _ HR.out.lt (fun x => x))) hp
      have HW := Lib.hid hw
      have HX := Lib.hid (HQ.out x (List.mem_of_getElem? hx))
      have hld : x.load = o.load k := by unfold Sv.Ob.load; rw [hx]
      have HLD := Lib.hid hld
      clear hw hx hp hld
      go_wp2_with fail
      refine (wkload_any (by have := HX.out; omega) wr HW.out).mono ?_
      rintro e w1 ⟨rfl, rfl⟩
      obtain ⟨a', c', w3, hrun, hk3⟩ := (HK.out.more (Rest.alloc (fun _ => False) wr (.cells #[.int .i64 x.load] 3))).one (P := Try.prog) Try.itemsInts (by rw [Sv.Ob.lds_length]; omega) (v := .int .i64 x.load) rfl (heap_alloc_new wr _) 42
      rw [Sv.Ob.lds_length] at hrun
      rw [HLD.out, ← Sv.Ob.lds_more] at hk3
      have HK3 := Lib.hid hk3
      clear hk3 HK pk
      go_wp2_with (at_builtin; refine wpList_append_run rfl _ _ 42 rfl rfl rfl hrun ?_)
      go_roundg (1001 - (k + 1))
      case measure => omega
      case rel => exact ⟨k + 1, a', c', by omega, by omega, rfl, by go_num, HK3⟩
    · have hk' : ¬(k : Int) < (n : Int) := by omega
      obtain rfl : k = n := by omega
      go_wp2_with fail
      go_ret
      refine ⟨a, ⟨c, rfl⟩, ?_, HK.out.below⟩
      have hb := fun i => o.load_bound HQ.out i
      rcases HK.out.2 with ⟨rfl, rfl, hnil⟩ | ⟨g, off, rfl, hrow⟩
      · have h0 : k = 0 := by have := congrArg List.length hnil; rwa [Sv.Ob.lds_length] at this
        subst h0
        exact Nums.none_ _ _ _
      · rw [Sv.Ob.lds_length] at hrow
        exact Nums.of_row hrow (fun i _ => by have := hb i; omega) (fun i _ => by have := hb i; omega)
/-- Known. -/
theorem svknown_nil (w : World) : Calls Try.prog 15 #[.pointer none] w fun e w' => e = .returned (.int .i64 0) ∧ w = w' := by
  go_enter Try.func15, Try.ntmps15
  go_wp2
  go_ret
  exact ⟨rfl, rfl⟩
theorem svknown_any (w : World) (h : Own G w0 w l) (e : l[i]? = some (Sv.part S ps o)) : Calls Try.prog 15 #[.pointer (some ⟨S, 0, none⟩)] w fun e w' => e = .returned (.int .i64 (o.q.length : Nat)) ∧ w = w' := by
  obtain ⟨m, L, hS, hd, -⟩ := Sv.dc h i e
  obtain ⟨-, -, p2, -, -, -⟩ := Sv.cells_at hS
  have HD := Lib.hid hd
  clear h e hS hd
  go_enter Try.func15, Try.ntmps15
  go_wp2_with fail
  refine (dlen_any w HD.out).mono ?_
  rintro e w1 ⟨rfl, rfl⟩
  go_wp2_with fail
  go_ret
  exact ⟨rfl, rfl⟩
/-- Runs. -/
theorem svruns_nil (w : World) : Calls Try.prog 10 #[.pointer none] w fun e w' => e = .returned (.slice none 0 0) ∧ w = w' := by
  go_enter Try.func10, Try.ntmps10
  go_wp2
  go_ret
  exact ⟨rfl, rfl⟩
theorem svruns_any (hm : o.runs.length ≤ 1000000) (w : World) (h : Own G w0 w l) (e : l[i]? = some (Sv.part S ps o)) : Calls Try.prog 10 #[.pointer (some ⟨S, 0, none⟩)] w fun e w' => ∃ a c L, e = .returned (.slice a o.runs.length c) ∧ FRow w' a c o.runs L ∧ (∀ j, L = some j → w.heap.size ≤ j) ∧ Below w.heap.size w w' := by
  obtain ⟨F, hF, -⟩ := h.lift i e
  obtain ⟨m, -, k1⟩ := Sv.opens hF
  obtain ⟨-, -, -, -, p4, -⟩ := Sv.cells_at (k1.box 0 rfl)
  obtain ⟨L, hfr, -⟩ := k1.fr 3 rfl
  have HF := Lib.hid hfr
  generalize hn : o.runs.length = n at *
  have HN := Lib.hid hn
  clear h e hF k1 hfr hn
  go_enter Try.func10, Try.ntmps10
  go_wp2_with fail
  refine (frclone_any w HN.out.symm HF.out hm).mono ?_
  rintro e w1 ⟨a, c, L', rfl, h1, h2, h3⟩
  have HE := Lib.hid (And.intro h1 (And.intro h2 h3))
  clear h1 h2 h3
  go_wp2_with fail
  go_ret
  exact ⟨a, c, L', rfl, HE.out.1, HE.out.2.1, HE.out.2.2⟩
/-- Next. -/
theorem svnext_nil (c : Int) (w : World) : Calls Try.prog 7 #[.pointer none, .int .i64 c] w fun e w' => e = .returned (.tuple #[.agg #[.int .i64 0, .int .i64 0, .int .i64 0, .int .i64 0, .int .i64 0, .int .u32 0, .int .i64 0, .bool false, .bool false, .int .i64 0, .int .u32 0], .bool false]) ∧ Below w.heap.size w w' := by
  have H := Lib.hid ((Upon.start (fun _ => False) w).lay (.cells #[.int .i64 0, .int .i64 0, .int .i64 0, .int .i64 0, .int .i64 0, .int .u32 0, .int .i64 0, .bool false, .bool false, .int .i64 0, .int .u32 0] 29))
  go_enter Try.func7, Try.ntmps7
  go_upto_region 1 with fail
  generalize w.alloc _ = w1 at H ⊢
  generalize w.heap.size = bA at H ⊢
  obtain ⟨g0, g1, g2, g3, g4, g5, g6, g7, g8, g9, g10⟩ := frame_cells (H.out.get 0 rfl)
  have fz := fun i => frozen_of_row _ _ i _ _ (H.out.get 0 rfl)
  go_wp2_with fail
  refine (svwaits_nil c w1).mono ?_
  rintro e w2 ⟨rfl, rfl⟩
  go_wp2_with fail
  have hA := fr_over Wk.zero (H.out.get 0 rfl) rfl
  have H4 := H.out.put (Rest.cells w1 bA 0 Wk.zero.cells rfl) hA
  exact bodyPost_ret (results_row_tmp Try.results7 _ _ bA 29 _ (0, 0) _ rfl hA Try.underlying29 rfl Try.bigFrame.size) rfl ⟨rfl, H4.below (fun _ => id)⟩
theorem svnext_no {c : Int} (h0 : o.waits c = 0) (w : World) (h : Own G w0 w l) (e : l[i]? = some (Sv.part S ps o)) : Calls Try.prog 7 #[.pointer (some ⟨S, 0, none⟩), .int .i64 c] w fun e w' => e = .returned (.tuple #[.agg #[.int .i64 0, .int .i64 0, .int .i64 0, .int .i64 0, .int .i64 0, .int .u32 0, .int .i64 0, .bool false, .bool false, .int .i64 0, .int .u32 0], .bool false]) ∧ Below w.heap.size w w' := by
  have H := Lib.hid ((Upon.start (fun _ => False) w).lay (.cells #[.int .i64 0, .int .i64 0, .int .i64 0, .int .i64 0, .int .i64 0, .int .u32 0, .int .i64 0, .bool false, .bool false, .int .i64 0, .int .u32 0] 29))
  have HO := Lib.hid (And.intro (h.past (H.out.below (fun _ => id))) e)
  have H0 := Lib.hid h0
  clear h e h0
  go_enter Try.func7, Try.ntmps7
  go_upto_region 1 with fail
  generalize w.alloc _ = w1 at H HO ⊢
  generalize w.heap.size = bA at H ⊢
  obtain ⟨g0, g1, g2, g3, g4, g5, g6, g7, g8, g9, g10⟩ := frame_cells (H.out.get 0 rfl)
  have fz := fun i => frozen_of_row _ _ i _ _ (H.out.get 0 rfl)
  go_wp2_with fail
  refine (svwaits_any c w1 HO.out.1 HO.out.2).mono ?_
  rintro e w2 ⟨rfl, rfl⟩
  rw [H0.out]
  go_wp2_with fail
  have hA := fr_over Wk.zero (H.out.get 0 rfl) rfl
  have H4 := H.out.put (Rest.cells w1 bA 0 Wk.zero.cells rfl) hA
  exact bodyPost_ret (results_row_tmp Try.results7 _ _ bA 29 _ (0, 0) _ rfl hA Try.underlying29 rfl Try.bigFrame.size) rfl ⟨rfl, H4.below (fun _ => id)⟩
set_option maxHeartbeats 2000000 in
theorem svnext_yes {c : Nat} (hc : c < 4) {x : Wk.Fr} {q : List Wk.Fr} (hq : o.out c = x :: q) (w : World) (h : Own G w0 w l) (e : l[i]? = some (Sv.part S ps o)) : Calls Try.prog 7 #[.pointer (some ⟨S, 0, none⟩), .int .i64 (c : Nat)] w fun e w' => e = .returned (.tuple #[.agg #[.int .i64 x.k, .int .i64 x.c, .int .i64 x.s, .int .i64 x.t, .int .i64 x.g, .int .u32 x.a, .int .i64 x.r, .bool x.su, .bool x.st, .int .i64 x.q, .int .u32 x.v], .bool true]) ∧ Below w.heap.size w w' := by
  have H := Lib.hid ((Upon.start (fun _ => False) w).lay (.cells #[.int .i64 0, .int .i64 0, .int .i64 0, .int .i64 0, .int .i64 0, .int .u32 0, .int .i64 0, .bool false, .bool false, .int .i64 0, .int .u32 0] 29))
  have HO := Lib.hid (And.intro (h.past (H.out.below (fun _ => id))) e)
  have HQ := Lib.hid hq
  have hwt : o.waits (c : Int) = q.length + 1 := by
    unfold Sv.Ob.waits
    rw [if_pos ⟨by omega, by omega⟩, Int.toNat_natCast, hq]; rfl
  have HWT := Lib.hid hwt
  clear h e hq hwt
  go_enter Try.func7, Try.ntmps7
  go_upto_region 1 with fail
  generalize w.alloc _ = w1 at H HO ⊢
  generalize w.heap.size = bA at H ⊢
  go_wp2_with fail
  refine (svwaits_any (c : Int) w1 HO.out.1 HO.out.2).mono ?_
  rintro e w2 ⟨rfl, rfl⟩
  obtain ⟨n, hn⟩ : ∃ n, n = q.length + 1 := ⟨_, rfl⟩
  rw [HWT.out, ← hn]
  have hn0 : ¬(n : Int) = 0 := by omega
  have hn1 : decide ((n : Int) = 0) = false := decide_eq_false hn0
  have hn2 : (0 : Int) < (n : Int) := by omega
  have HN := Lib.hid hn
  obtain ⟨F, hF, -⟩ := HO.out.1.lift i HO.out.2
  obtain ⟨m, -, k1⟩ := Sv.opens hF
  obtain ⟨-, -, -, -, -, p5⟩ := Sv.cells_at (k1.box 0 rfl)
  have pc := p5 c hc
  rw [HQ.out, List.length_cons, ← hn] at pc
  obtain ⟨L, hfr, -⟩ := k1.fr (4 + c) (Sv.fr_at hc)
  rw [HQ.out] at hfr
  obtain ⟨g, off, -, hoa, hR⟩ : ∃ g off, L = some g ∧ m.oa c = some ⟨g, off, none⟩ ∧ RowK w1 0 29 11 g off (x :: q).length (m.oc c) (Wk.fitm.flat (x :: q)) := by
    rcases hfr with ⟨-, -, -, e⟩ | h
    · cases e
    · exact h
  rw [hoa] at pc
  have hx : (x :: q)[0]? = some x := rfl
  have y0 := Wk.fitm.cell hR hx 0 (by decide) rfl
  have y1 := Wk.fitm.cell hR hx 1 (by decide) rfl
  have y2 := Wk.fitm.cell hR hx 2 (by decide) rfl
  have y3 := Wk.fitm.cell hR hx 3 (by decide) rfl
  have y4 := Wk.fitm.cell hR hx 4 (by decide) rfl
  have y5 := Wk.fitm.cell hR hx 5 (by decide) rfl
  have y6 := Wk.fitm.cell hR hx 6 (by decide) rfl
  have y7 := Wk.fitm.cell hR hx 7 (by decide) rfl
  have y8 := Wk.fitm.cell hR hx 8 (by decide) rfl
  have y9 := Wk.fitm.cell hR hx 9 (by decide) rfl
  have y10 := Wk.fitm.cell hR hx 10 (by decide) rfl
  simp only [Nat.zero_mul, Nat.add_zero] at y0 y1 y2 y3 y4 y5 y6 y7 y8 y9 y10
  have hc4 : (c : Int) < 4 := by omega
  obtain ⟨g0, g1, g2, g3, g4, g5, g6, g7, g8, g9, g10⟩ := frame_cells (H.out.get 0 rfl)
  have fz := fun i => frozen_of_row _ _ i _ _ (H.out.get 0 rfl)
  clear hn p5 hfr hR hx k1 hF hoa
  go_wp2_with fail
  have hA := fr_over x (H.out.get 0 rfl) rfl
  have H4 := H.out.put (Rest.cells w1 bA 0 x.cells rfl) hA
  exact bodyPost_ret (results_row_tmp Try.results7 _ _ bA 29 _ (0, 0) _ rfl hA Try.underlying29 rfl Try.bigFrame.size) rfl ⟨rfl, H4.below (fun _ => id)⟩
end
end Go.Proofs.Ytgboiejiodgcnaa
