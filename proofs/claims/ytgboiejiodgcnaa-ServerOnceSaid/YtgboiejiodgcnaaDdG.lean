/- The contracts of a cache's calls, each one for any frame and whatever it knows. -/
import Derived.Test.YtgboiejiodgcnaaSvM
namespace Go.Proofs.Ytgboiejiodgcnaa
open Go.RowKit Go.Sort

section
variable {P : Nat} {n : Int} {Q : List Dd.Cl} {L : Option Nat}
theorem dval_any (f : Wk.Fr) (hQ : Q.length ≤ 1000) (w : World) (h : Dc w P n Q L) : Calls Try.prog 59 #[.pointer (some ⟨P, 0, none⟩), .agg #[.int .i64 f.k, .int .i64 f.c, .int .i64 f.s, .int .i64 f.t, .int .i64 f.g, .int .u32 f.a, .int .i64 f.r, .bool f.su, .bool f.st, .int .i64 f.q, .int .u32 f.v]] w fun e w' => e = .returned (.tuple #[.int .u32 (Dd.val f.c f.a Q).1, .bool (Dd.val f.c f.a Q).2.1, .bool (Dd.val f.c f.a Q).2.2]) ∧ Below w.heap.size w w' := by
  unfold Dd.val
  split
  · rename_i hz
    exact dvalue_no _ _ _ _ _ _ _ _ _ _ _ (by omega) (Dd.look_none hz) w h
  · rename_i hz
    exact dvalue_yes _ _ _ _ _ _ _ _ _ _ _ (by omega) (Dd.look_some hz) w h
theorem dcount_any (f : Wk.Fr) (hQ : Q.length ≤ 1000) (w : World) (h : Dc w P n Q L) : Calls Try.prog 38 #[.pointer (some ⟨P, 0, none⟩), .agg #[.int .i64 f.k, .int .i64 f.c, .int .i64 f.s, .int .i64 f.t, .int .i64 f.g, .int .u32 f.a, .int .i64 f.r, .bool f.su, .bool f.st, .int .i64 f.q, .int .u32 f.v]] w fun e w' => e = .returned (.int .i64 (Dd.runs f.c f.a Q)) ∧ Below w.heap.size w w' := by
  unfold Dd.runs
  split
  · rename_i hz
    exact druns_no _ _ _ _ _ _ _ _ _ _ _ (by omega) (Dd.look_none hz) w h
  · rename_i hz
    exact druns_yes _ _ _ _ _ _ _ _ _ _ _ (by omega) (Dd.look_some hz) w h
theorem dfin_any (f : Wk.Fr) (ok : Bool) (V : Int) (hQ : Q.length ≤ 1000) (w : World) (h : Dc w P n Q L) : Calls Try.prog 34 #[.pointer (some ⟨P, 0, none⟩), .agg #[.int .i64 f.k, .int .i64 f.c, .int .i64 f.s, .int .i64 f.t, .int .i64 f.g, .int .u32 f.a, .int .i64 f.r, .bool f.su, .bool f.st, .int .i64 f.q, .int .u32 f.v], .bool ok, .int .u32 V] w fun e w' => e = .returned (.tuple #[]) ∧ Dc w' P n (Dd.fin f.c f.a ok V Q) L ∧ Rest (fun k => L = some k) w w' := by
  unfold Dd.fin
  split
  · rename_i hz
    refine (ddone_no _ _ _ _ _ _ _ _ _ _ _ ok V (by omega) (Dd.look_none hz) w h).mono ?_
    rintro e w' ⟨rfl, hb⟩
    exact ⟨rfl, h.call hb, Rest.of_below hb⟩
  · rename_i hz
    split
    · rename_i hd
      refine (ddone_old _ _ _ _ _ _ _ _ _ _ _ ok V (by omega) (Dd.look_some hz) hd w h).mono ?_
      rintro e w' ⟨rfl, hb⟩
      exact ⟨rfl, h.call hb, Rest.of_below hb⟩
    · rename_i hd
      exact ddone_yes _ _ _ _ _ _ _ _ _ _ _ ok V (by omega) (Dd.look_some hz) (by simpa using hd) w h
theorem dmet_any (f : Wk.Fr) (hQ : Q.length ≤ 1000) (w : World) (h : Dc w P n Q L) : Calls Try.prog 40 #[.pointer (some ⟨P, 0, none⟩), .agg #[.int .i64 f.k, .int .i64 f.c, .int .i64 f.s, .int .i64 f.t, .int .i64 f.g, .int .u32 f.a, .int .i64 f.r, .bool f.su, .bool f.st, .int .i64 f.q, .int .u32 f.v]] w fun e w' => e = .returned (.int .i64 (Dd.meet n f.c f.a f.r f.su Q).1) ∧ ∃ L', Dc w' P n (Dd.meet n f.c f.a f.r f.su Q).2 L' ∧ (L' = L ∨ ∀ j, L' = some j → w.heap.size ≤ j) ∧ Rest (fun j => j = P ∨ L = some j) w w' := by
  unfold Dd.meet
  split
  · rename_i hr
    refine (dmeet_try P _ _ _ _ _ _ _ _ _ _ _ hr w).mono ?_
    rintro e w' ⟨rfl, hb⟩
    exact ⟨rfl, L, h.call hb, .inl rfl, Rest.of_below hb⟩
  · rename_i hr
    obtain ⟨T, hT⟩ : ∃ T : Nat, f.r = T := ⟨f.r.toNat, by omega⟩
    have hT16 : T < 16 := by omega
    rw [hT, Int.toNat_natCast]
    split
    · rename_i hz
      split
      · rename_i hn
        exact dmeet_new _ _ _ _ _ _ _ _ _ _ hT16 hQ (Dd.look_none hz) hn w h
      · rename_i hn
        refine (dmeet_full _ _ _ _ _ _ _ _ _ _ hT16 (by omega) (Dd.look_none hz) (by omega) w h).mono ?_
        rintro e w' ⟨rfl, hb⟩
        exact ⟨rfl, L, h.call hb, .inl rfl, Rest.of_below hb⟩
    · rename_i x hz
      split
      · rename_i hm
        refine (dmeet_seen _ _ _ _ _ _ _ _ _ _ hT16 (by omega) (Dd.look_some hz) hm w h).mono ?_
        rintro e w' ⟨rfl, hb⟩
        exact ⟨rfl, L, h.call hb, .inl rfl, Rest.of_below hb⟩
      · rename_i hm
        have hm' : x.m T = false := by simpa using hm
        cases hs : f.su with
        | false =>
          refine (dmeet_fresh _ _ _ _ _ _ _ _ _ hT16 (by omega) (Dd.look_some hz) hm' w h).mono ?_
          rintro e w' ⟨rfl, hd', hb⟩
          exact ⟨rfl, L, hd', .inl rfl, hb.mono fun _ _ => .inr⟩
        | true =>
          cases hx : x.d with
          | false =>
            refine (dmeet_wait _ _ _ _ _ _ _ _ _ hT16 (by omega) (Dd.look_some hz) hm' hx w h).mono ?_
            rintro e w' ⟨rfl, hd', hb⟩
            exact ⟨rfl, L, hd', .inl rfl, hb.mono fun _ _ => .inr⟩
          | true =>
            refine (dmeet_again _ _ _ _ _ _ _ _ _ hT16 (by omega) (Dd.look_some hz) hm' hx w h).mono ?_
            rintro e w' ⟨rfl, hd', hb⟩
            exact ⟨rfl, L, hd', .inl rfl, hb.mono fun _ _ => .inr⟩
end
theorem Dd.meet_length {n c k t : Int} {su : Bool} {q : List Dd.Cl} : (Dd.meet n c k t su q).2.length ≤ q.length + 1 := by
  unfold Dd.meet
  split
  · exact Nat.le_succ _
  · split
    · split <;> simp
    · split <;> simp
/-- What was begun of a call that is sure is not begun again. -/
theorem Dd.meet_sure {n c k t : Int} {q : List Dd.Cl} (h : Dd.runs c k q ≠ 0) : (Dd.meet n c k t true q).1 ≠ 0 := by
  unfold Dd.runs at h
  unfold Dd.meet
  split
  · intro e; cases e
  · split
    · rename_i hz; rw [hz] at h; exact absurd rfl h
    · rename_i x _
      split
      · intro e; cases e
      · cases x.d <;> (intro e; cases e)
end Go.Proofs.Ytgboiejiodgcnaa
