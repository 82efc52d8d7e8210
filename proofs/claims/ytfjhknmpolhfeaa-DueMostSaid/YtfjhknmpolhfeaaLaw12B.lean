/- So many alarms there are, and no more; none are no heap's. -/
import Derived.Test.YtfjhknmpolhfeaaLaw12A
import Derived.Test.YtfjhknmpolhfeaaLow
namespace Go.Proofs.Ytfjhknmpolhfeaa
open Go.RowKit Go.Sort

set_option maxHeartbeats 4000000 in
set_option maxRecDepth 100000 in
theorem most_any (more t c s gn x : Int) (w : World) : Calls Try.prog 4 #[.int .i64 more, .agg #[.int .i64 t, .int .i64 c, .int .i64 s, .int .i64 gn, .int .i64 x]] w fun e w' => e = .returned (.bool true) ∧ Rest (fun _ => False) w w' := by
  have hlow : bits .and .i64 more 7 = more % 8 := i64_low more 3 (by omega)
  obtain ⟨r, hr, hr8⟩ : ∃ r : Nat, more % 8 = (r : Int) ∧ r < 8 := ⟨(more % 8).toNat, by omega, by omega⟩
  rw [hr] at hlow
  clear hr
  have hlim : IntKind.i64.wrap (256 + (r : Int)) = 256 + (r : Int) := by rw [IntKind.wrap_i64]; omega
  go_enter Try.func4, Try.ntmps4
  go_wp2_with fail
  have hbox : (w.alloc (.cells #[.int .i64 t, .int .i64 c, .int .i64 s, .int .i64 gn, .int .i64 x] 31)).heap[w.heap.size]? = some (.cells #[.int .i64 t, .int .i64 c, .int .i64 s, .int .i64 gn, .int .i64 x] 31 (0, 0)) := heap_alloc_new _ _
  have hra : Rest (fun _ => False) w (w.alloc (.cells #[.int .i64 t, .int .i64 c, .int .i64 s, .int .i64 gn, .int .i64 x] 31)) := Rest.alloc _ _ _
  have hsa : (w.alloc (.cells #[.int .i64 t, .int .i64 c, .int .i64 s, .int .i64 gn, .int .i64 x] 31)).heap.size = w.heap.size + 1 := by simp
  generalize w.alloc (.cells #[.int .i64 t, .int .i64 c, .int .i64 s, .int .i64 gn, .int .i64 x] 31) = wa at hbox hra hsa ⊢
  have H0 := Lib.hid (du_new wa wa (Rest.refl _ _))
  have HBX := Lib.hid hbox
  have HRA := Lib.hid hra
  rw [hsa] at H0
  clear hbox hra
  generalize wa.alloc (.cells #[.slice none 0 0, .int .i64 0] 27) = w1 at H0 ⊢
  go_loopg [6] (264 : Nat) (fun g1 v wr => ∃ k : Nat, v = .int .i64 k ∧ 264 - k ≤ g1 ∧ k ≤ 256 + r ∧ Hid (∃ g, Du wa wr (w.heap.size + 1) (min k 256 : Nat) g [] ∧ g.length = min k 256))
  case atStart => exact ⟨0, rfl, by omega, by omega, [], H0.out, rfl⟩
  case round =>
    obtain ⟨k, rfl, hk, hkr, HD⟩ := hrel
    by_cases hlt : k < 256 + r
    · have hlt' : (k : Int) < 256 + (r : Int) := by omega
      have hw7 : IntKind.i64.wrap ((k : Int) * 7) = (k : Int) * 7 := by rw [IntKind.wrap_i64]; omega
      have hl63 : bits .and .i64 ((k : Int) * 7) 63 = ((k : Int) * 7) % 64 := i64_low _ 6 (by omega)
      have hcl : Tk.clamp (((k : Int) * 7) % 64) = ((k : Int) * 7) % 64 := Tk.clamp_in (by omega) (by omega)
      have hcn : Tk.clamp (((k : Int) * 7) % 64) ≠ 1099511627776 := by rw [hcl]; omega
      clear hcl
      obtain ⟨g, hdu, hgl⟩ := HD.out
      have hwk : IntKind.i64.wrap ((k : Int) + 1) = (k : Int) + 1 := by rw [IntKind.wrap_i64]; omega
      generalize ((k : Int) * 7) % 64 = tt at hl63 hcn
      by_cases h256 : k < 256
      · have hp := du_put tt 0 0 0 0 wr hdu (by omega) hcn (by omega)
        have h256' : (k : Int) < 256 := by omega
        clear hcn hdu
        go_wp2_with fail
        refine hp.mono ?_
        rintro e w2 ⟨rfl, hd2, -⟩
        have HD2 := Lib.hid (show ∃ g, Du wa w2 (w.heap.size + 1) (min (k + 1) 256 : Nat) g [] ∧ g.length = min (k + 1) 256 from
          ⟨_, by rw [show ((min (k + 1) 256 : Nat) : Int) = ((min k 256 : Nat) : Int) + 1 by omega]; exact hd2, by rw [List.length_append, hgl]; simp; omega⟩)
        clear hp hd2 HD
        go_wp2_with fail
        go_roundg (264 - (k + 1))
        case measure => omega
        case rel => exact ⟨k + 1, by go_num, Nat.le_refl _, by omega, HD2⟩
      · have hp := du_full tt 0 0 0 0 wr hdu (by omega) (by omega)
        have h256' : ¬ (k : Int) < 256 := by omega
        clear hcn hdu
        go_wp2_with fail
        refine hp.mono ?_
        rintro e w2 ⟨rfl, hr2⟩
        obtain ⟨g, hdu, hgl⟩ := HD.out
        have HD2 := Lib.hid (show ∃ g, Du wa w2 (w.heap.size + 1) (min (k + 1) 256 : Nat) g [] ∧ g.length = min (k + 1) 256 from
          ⟨g, by rw [show min (k + 1) 256 = min k 256 by omega]; exact hdu.past hr2, by rw [hgl]; omega⟩)
        clear hp hr2 HD hdu hgl
        go_wp2_with fail
        go_roundg (264 - (k + 1))
        case measure => omega
        case rel => exact ⟨k + 1, by go_num, Nat.le_refl _, by omega, HD2⟩
    · have hlt' : ¬ (k : Int) < 256 + (r : Int) := by omega
      obtain ⟨g, hdu, hgl⟩ := HD.out
      have HDU := Lib.hid hdu
      have hg : g.length = 256 := by omega
      clear hdu hgl HD
      go_wp2_with fail
      refine (dtake_nil _ _).mono ?_
      rintro e w2 ⟨rfl, hr2⟩
      have HD2 := Lib.hid (HDU.out.past hr2)
      clear hr2 HDU
      go_wp2_with fail
      have hr3 : Rest (fun _ => False) w2 (w2.alloc (.cells #[.int .i64 0, .int .i64 0, .int .i64 0, .int .i64 0, .int .i64 0] 31)) := Rest.alloc _ _ _
      generalize w2.alloc (.cells #[.int .i64 0, .int .i64 0, .int .i64 0, .int .i64 0, .int .i64 0] 31) = w3 at hr3 ⊢
      have HD3 := Lib.hid (HD2.out.past hr3)
      clear hr3 HD2
      refine (awake12_any _).mono ?_
      rintro e w4 ⟨rfl, hr4⟩
      have HD4 := Lib.hid (HD3.out.past hr4)
      clear hr4 HD3
      go_wp2_with fail
      have hlen := du_len w4 HD4.out
      rw [hg] at hlen
      refine hlen.mono ?_
      rintro e w5 ⟨rfl, rfl⟩
      have hb4 := (HD4.out.rest.block _ (show w.heap.size < wa.heap.size by omega) (fun x => x)).trans HBX.out
      obtain ⟨z0, z1, z2, z3, z4⟩ := five_zero hb4
      have HR4 := Lib.hid (HRA.out.trans (o3 := fun _ => False) HD4.out.rest (fun _ _ => id) (fun _ _ => id))
      clear hlen hb4 HD4 HBX HRA H0
      go_wp2_with fail
      refine (dput_nil _ _ _ _ _ _).mono ?_
      rintro e w6 ⟨rfl, hr6⟩
      have HR6 := Lib.hid (HR4.out.trans (o3 := fun _ => False) hr6 (fun _ _ => id) (fun _ _ => id))
      clear hr6 HR4 z0 z1 z2 z3 z4
      go_wp2_with fail
      refine (dlen_nil _).mono ?_
      rintro e w7 ⟨rfl, rfl⟩
      go_wp2_with fail
      refine (dfirst_nil _).mono ?_
      rintro e w7 ⟨rfl, rfl⟩
      go_wp2_with fail
      refine (dall_nil _).mono ?_
      rintro e w7 ⟨rfl, rfl⟩
      go_wp2
      go_ret
      exact ⟨rfl, HR6.out⟩
end Go.Proofs.Ytfjhknmpolhfeaa
