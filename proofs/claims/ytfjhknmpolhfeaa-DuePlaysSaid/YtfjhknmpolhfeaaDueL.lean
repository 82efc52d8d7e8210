/- The library's sort over entries; a copy of a queue. -/
import Derived.Test.YtfjhknmpolhfeaaSrtLay
import Derived.Test.YtfjhknmpolhfeaaDueK
namespace Go.Proofs.Ytfjhknmpolhfeaa
open Go.RowKit Go.Sort Go.Shelf

theorem Hp.ltOf_eq (a b : En) : ltOf Hp.cmpE a b = En.lt a b := Hp.cmpE_lt a b
theorem Hp.swo : SWO (ltOf Hp.cmpE) where
  irrefl x := by rw [Hp.ltOf_eq]; exact En.lt_irrefl x
  trans x y z h1 h2 := by rw [Hp.ltOf_eq] at *; exact En.lt_trans h1 h2
  ntrans x y z h1 h2 := by rw [Hp.ltOf_eq] at *; exact En.le_trans h2 h1

theorem enters19 : ∀ args w, (callFunc 19 args).run Try.prog w = .ok (.enter 19 args) w := enters_of Try.func19 (by kernel_rfl) rfl
theorem enters22 : ∀ args w, (callFunc 22 args).run Try.prog w = .ok (.enter 22 args) w := enters_of Try.func22 (by kernel_rfl) rfl

set_option maxHeartbeats 2000000 in
set_option maxRecDepth 100000 in
/-- A row of entries is sorted. -/
theorem sort_any (blk off cap : Nat) (d : Array En) (w : World) (hH : HoldsK Hp.enc 6 w blk off d) (hblk : blk < w.heap.size) (hsz : d.size ≤ 1000000) :
    Calls Try.prog 18 #[.slice (some ⟨blk, off, none⟩) d.size cap, .func (.func 19) #[] #[]] w fun e w' => e = .returned (.tuple #[]) ∧ ∃ d' n os, PermIn 0 d.size d d' ∧ SortedIn (ltOf Hp.cmpE) 0 d.size d' ∧ w' = sortWorldK Hp.enc 6 w blk off n d' os := by
  have hcmp : CmpLays Try.prog 19 #[] Hp.enc 6 Hp.cmpE blk off d.size w := fun m os dk _ x y => order_any x y _
  have hlim : Lib.bitLen d.size < 4611686018427387904 := Nat.lt_of_le_of_lt (Lib.bitLen_le d.size 62 (by omega) (by omega)) (by omega)
  have hp := AnyQ.pdqsortCmpFunc_all Try.sortPdq 6 (fun _ => by kernel_rfl) (fun _ => by kernel_rfl) Hp.enc Hp.cmpE 19 #[] Hp.swo blk off cap d w enters19 hcmp ⟨fun _ => rfl, enc_one, hH, hblk⟩ (d.size + 1) 0 d.size (Lib.bitLen d.size) d w (by omega) rfl (SWK.start hH) (Nat.zero_le _) (Nat.le_refl _) (by omega) hlim (Or.inl rfl)
  have hs := pdq_sorts (ltOf Hp.cmpE) Hp.swo d 0 d.size (Lib.bitLen d.size) true true (Nat.zero_le _) (Nat.le_refl _) (Or.inl rfl)
  have HSo := Lib.hid hs
  generalize pdq (ltOf Hp.cmpE) d 0 d.size (Lib.bitLen d.size) true true = dd at hp HSo
  have hl : Calls Try.prog 23 #[.int .u64 (d.size : Int)] w fun e w' => e = .returned (.int .i64 (Lib.bitLen d.size : Nat)) ∧ w' = w := by
    have h := Any.bits_Len (SlLaysF0.n15.bits (P := Try.prog) (ρ := Try.sortPdq_ren) { Try.sortPdq with }) (d.size : Int) w (by omega) (by omega)
    rwa [Int.toNat_natCast] at h
  have wr : IntKind.u64.wrap (d.size : Int) = d.size := by rw [IntKind.wrap_u64]; omega
  change Calls Try.prog 22 _ _ _ at hp
  clear hH hcmp hs
  go_enter Try.func18, Try.ntmps18
  go_wp2_with fail
  refine hl.mono ?_
  rintro e w' ⟨rfl, rfl⟩
  go_wp2_with fail
  refine hp.mono ?_
  rintro e w' ⟨rfl, n, os, rfl⟩
  go_wp2
  go_end0
  exact ⟨rfl, dd, n, os, HSo.out.1, HSo.out.2, rfl⟩

set_option maxHeartbeats 2000000 in
/-- Nothing is sorted. -/
theorem sort_none (p : Option Addr) (cap : Nat) (w : World) : Calls Try.prog 18 #[.slice p 0 cap, .func (.func 19) #[] #[]] w fun e w' => e = .returned (.tuple #[]) ∧ w = w' := by
  have hp := AnyF.pdqsortCmpFunc_none Try.sortPdq p cap 0 (.func (.func 19) #[] #[]) w
  have hl : Calls Try.prog 23 #[.int .u64 0] w fun e w' => e = .returned (.int .i64 0) ∧ w' = w := by
    have h := Any.bits_Len (SlLaysF0.n15.bits (P := Try.prog) (ρ := Try.sortPdq_ren) { Try.sortPdq with }) 0 w (by omega) (by omega)
    exact h
  change Calls Try.prog 22 _ _ _ at hp
  go_enter Try.func18, Try.ntmps18
  go_wp2_with fail
  refine hl.mono ?_
  rintro e w' ⟨rfl, rfl⟩
  go_wp2_with fail
  refine hp.mono ?_
  rintro e w' ⟨rfl, rfl⟩
  go_wp2
  go_end0
  exact ⟨rfl, rfl⟩
end Go.Proofs.Ytfjhknmpolhfeaa
