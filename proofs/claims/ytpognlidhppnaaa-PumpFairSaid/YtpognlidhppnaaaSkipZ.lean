/- A drawn region that ends in one operation which all others are ahead of (a store into what the region reads): the condition on the world is asked behind all operations but that one. -/
import Derived.Test.YtpognlidhppnaaaSkip
import Derived.Lib.Hide
namespace Go.Proofs.Ytpognlidhppnaaa
open Go.RowKit

section
variable {P : Program} {ops : Array Oper} {Q : Exit → Act → World → Prop} {md : Region.Mode} {S : World → Prop} {z : Nat}

/-- Whatever order is picked from here on, and S holds behind each operation but z. -/
def wpAnyZ (P : Program) (md : Region.Mode) (ops : Array Oper) (Q : Exit → Act → World → Prop) (S : World → Prop) (z : Nat) : Nat → Array Bool → Act → World → Prop
  | 0, listed, a, w => Region.ready md ops listed = [] ∧ Q .normal a w
  | n + 1, listed, a, w => (Region.ready md ops listed = [] → Q .normal a w) ∧
    ∀ i ∈ Region.ready md ops listed, wpOp P ops Q i (fun b v => (i ≠ z → S v) ∧ wpAnyZ P md ops Q S z n (listed.setIfInBounds i true) b v) a w

theorem wpAnyZ.any : ∀ {n : Nat} {listed : Array Bool} {a : Act} {w : World}, wpAnyZ P md ops Q S z n listed a w → wpAny P md ops Q n listed a w
  | 0, _, _, _, h => h
  | _ + 1, _, _, _, h => ⟨h.1, fun i hi => wpOp_mono (fun _ _ k => k.2.any) (h.2 i hi)⟩

/-- The operation z waits for i. -/
def waits (md : Region.Mode) (ops : Array Oper) (z i : Nat) : Bool := match ops[z]? with
  | some o => o.after.toList.any fun e => Region.binds md e && e.on == i
  | none => false
theorem waits_spec {i : Nat} (h : waits md ops z i = true) : ∃ o, ops[z]? = some o ∧ ∃ e ∈ o.after, Region.binds md e = true ∧ e.on = i := by
  unfold waits at h
  split at h
  · rename_i o ho
    obtain ⟨e, he, hb⟩ := List.any_eq_true.1 h
    simp only [Bool.and_eq_true, beq_iff_eq] at hb
    exact ⟨o, ho, e, by simpa using he, hb.1, hb.2⟩
  · cases h

/-- What yields in every world that meets S, and for which z waits, is taken ahead of all others. -/
theorem wpAnyZ_first {i : Nat} {oi : Oper} {v : Value} (hi : ops[i]? = some oi) (hsel : ∀ (j : Nat) (o : Oper) cs b, ops[j]? = some o → o.op ≠ .select cs b)
    (hQ : ∀ c a w, Q (.panic c) (a.put oi.dst v) w → Q (.panic c) a w) (hz : waits md ops z i = true) : ∀ (n : Nat) {listed : Array Bool} {a : Act} {w : World},
    (∀ j oj, ops[j]? = some oj → j ≠ i → listed.getD j true = false → (∀ e ∈ oj.after, Region.binds md e = true → e.on ≠ i) → oi.apart ops oj = true) →
    i ∈ Region.ready md ops listed → YieldsIf P ops S oi v a → S w → wpAnyZ P md ops Q S z n (listed.setIfInBounds i true) (a.put oi.dst v) w → wpAnyZ P md ops Q S z (n + 1) listed a w := by
  intro n
  induction n with
  | zero =>
    intro listed a w _ hr hy hS H
    refine ⟨fun e => absurd hr (by rw [e]; exact List.not_mem_nil), fun j hj => ?_⟩
    rcases Decidable.em (j = i) with rfl | hji
    · exact hy.wpOp hi hS ⟨fun _ => hS, H⟩
    · have hm := ready_mono hj hji
      rw [H.1] at hm
      cases hm
  | succ n ih =>
    intro listed a w hfree hr hy hS H
    refine ⟨fun e => absurd hr (by rw [e]; exact List.not_mem_nil), fun j hj => ?_⟩
    rcases Decidable.em (j = i) with rfl | hji
    · exact hy.wpOp hi hS ⟨fun _ => hS, H⟩
    obtain ⟨hun, oj, hoj, hall⟩ := mem_ready.1 hj
    have hif : listed.getD i true = false := (mem_ready.1 hr).1
    have hno : ∀ e ∈ oj.after, Region.binds md e = true → e.on ≠ i := fun e he hb hei => by
      have ht := hall e he hb
      rw [hei] at ht
      by_cases hlt : i < listed.size
      · simp [hlt] at ht hif; rw [ht] at hif; cases hif
      · simp [Array.getElem?_eq_none (Nat.le_of_not_lt hlt)] at ht
    have hjz : j ≠ z := fun e => by
      subst e
      obtain ⟨o, ho, d, hd, hb, hdi⟩ := waits_spec hz
      rw [ho] at hoj
      cases hoj
      exact hno d hd hb hdi
    refine wpOp_mono (fun b u k => ⟨fun _ => k.2.1 hjz, ih (fun m om hm hmi hmu hmn => hfree m om hm hmi ?_ hmn) (ready_mono hr (Ne.symm hji)) k.1 (k.2.1 hjz) ?_⟩)
      (wpOp_putIf hoj (hfree j oj hoj hji hun hno) (fun cs b => hsel i oi cs b hi) (fun cs b => hsel j oj cs b hoj) hQ hy (H.2 j (ready_mono hj hji)))
    · by_cases hjm : j = m
      · rw [← hjm]; exact hun
      · rwa [getD_set_ne true hjm] at hmu
    · rw [Array.setIfInBounds_comm _ _ hji]
      exact k.2.2

theorem wpAnyZ_done {listed : Array Bool} {a : Act} {w : World} (hr : Region.ready md ops listed = []) (h : Q .normal a w) : ∀ n, wpAnyZ P md ops Q S z n listed a w
  | 0 => ⟨hr, h⟩
  | _ + 1 => ⟨fun _ => h, by rw [hr]; simp⟩

/-- The beginning. -/
theorem wp_region_Z_drew {id : Nat} {a : Act} {w : World} (z : Nat) (hm : P.follows .mixedOrders = true) (hS : S w.drew)
    (h : S w.drew → wpAnyZ P .any ops Q S z ops.size (Array.replicate ops.size false) a w.drew) : (Code.region id ops true).wp P Q a w :=
  wp_region_any hm (h hS).any

/-- Each of the operations rs comes up next. -/
def AllReadyZ (P : Program) (md : Region.Mode) (ops : Array Oper) (Q : Exit → Act → World → Prop) (S : World → Prop) (z n : Nat) (listed : Array Bool) (a : Act) (w : World) (rs : List Nat) : Prop :=
  ∀ i ∈ rs, wpOp P ops Q i (fun b v => (i ≠ z → S v) ∧ wpAnyZ P md ops Q S z n (listed.setIfInBounds i true) b v) a w
theorem AllReadyZ.nil {n : Nat} {listed : Array Bool} {a : Act} {w : World} : AllReadyZ P md ops Q S z n listed a w [] := fun _ h => by cases h
theorem AllReadyZ.cons {n : Nat} {listed : Array Bool} {a : Act} {w : World} {i : Nat} {o : Oper} {rs : List Nat} (ho : ops[i]? = some o)
    (h : ∀ K : Act → World → Prop, Hid (∀ b v, (i ≠ z → S v) → ((i ≠ z → S v) → wpAnyZ P md ops Q S z n (listed.setIfInBounds i true) b v) → K b v) → if Region.wanted o (yielded ops a.tmps) = true then Oper.wp P o a w K Q else K (a.put o.dst undef) w)
    (hs : AllReadyZ P md ops Q S z n listed a w rs) : AllReadyZ P md ops Q S z n listed a w (i :: rs) := fun j hj => by
  rcases List.mem_cons.1 hj with rfl | hj
  · exact wpOp_step ho (fun K hK => h K (Lib.hid fun b v hS hW => hK b v ⟨hS, hW hS⟩))
  · exact hs j hj
theorem wpAnyZ_ready {rs : List Nat} {n : Nat} {listed : Array Bool} {a : Act} {w : World} (hr : Region.ready md ops listed = rs) (hne : rs ≠ []) (h : AllReadyZ P md ops Q S z n listed a w rs) : wpAnyZ P md ops Q S z (n + 1) listed a w :=
  ⟨fun e => absurd (hr ▸ e) hne, hr ▸ h⟩
end

theorem wpAnyZ_yield {P : Program} {md : Region.Mode} {l : List Oper} {Q : Exit → Act → World → Prop} {S : World → Prop} {z : Nat} (i : Nat) (v : Value) {o : Oper} {n : Nat} {listed : Array Bool} {a : Act} {w : World} (hi : l[i]? = some o)
    (hs : Region.noSelect l.toArray = true) (hf : Region.free md l.toArray listed i = true) (hr : ((Region.ready md l.toArray listed).contains i && waits md l.toArray z i) = true)
    (hQ : ∀ d c a w, Q (.panic c) (a.put d v) w → Q (.panic c) a w) (hw : Region.wanted o (yielded l.toArray a.tmps) = true) (hS : S w) (hv : ∀ w, S w → (execOp a.eval o).run P w = .ok (.value v) w)
    (h : wpAnyZ P md l.toArray Q S z n (listed.setIfInBounds i true) (a.put o.dst v) w) : wpAnyZ P md l.toArray Q S z (n + 1) listed a w := by
  have hi' : l.toArray[i]? = some o := by simpa using hi
  rw [Bool.and_eq_true] at hr
  exact wpAnyZ_first hi' (Region.noSelect_spec hs) (fun c a w h => hQ _ c a w h) hr.2 n (Region.free_spec hi' hf) (by simpa using hr.1) (.inl ⟨hw, hv⟩) hS h
theorem wpAnyZ_skip {P : Program} {md : Region.Mode} {l : List Oper} {Q : Exit → Act → World → Prop} {S : World → Prop} {z : Nat} (i : Nat) {o : Oper} {n : Nat} {listed : Array Bool} {a : Act} {w : World} (hi : l[i]? = some o)
    (hs : Region.noSelect l.toArray = true) (hf : Region.free md l.toArray listed i = true) (hr : ((Region.ready md l.toArray listed).contains i && waits md l.toArray z i) = true)
    (hQ : ∀ d c a w, Q (.panic c) (a.put d undef) w → Q (.panic c) a w) (hw : Region.wanted o (yielded l.toArray a.tmps) = false) (hS : S w)
    (h : wpAnyZ P md l.toArray Q S z n (listed.setIfInBounds i true) (a.put o.dst undef) w) : wpAnyZ P md l.toArray Q S z (n + 1) listed a w := by
  have hi' : l.toArray[i]? = some o := by simpa using hi
  rw [Bool.and_eq_true] at hr
  exact wpAnyZ_first hi' (Region.noSelect_spec hs) (fun c a w h => hQ _ c a w h) hr.2 n (Region.free_spec hi' hf) (by simpa using hr.1) (.inr ⟨hw, rfl⟩) hS h
/-- The first of these waits for the second one, and so on; the last one for i; all but the first are still to come. -/
def chain (md : Region.Mode) (ops : Array Oper) (listed : Array Bool) (i : Nat) : List Nat → Bool
  | [] => false
  | [x] => waits md ops x i
  | x :: y :: r => waits md ops x y && (!listed.getD y true && chain md ops listed i (y :: r))
theorem ready_waits {md : Region.Mode} {ops : Array Oper} {listed : Array Bool} {j i : Nat} (hj : j ∈ Region.ready md ops listed) (hw : waits md ops j i = true) (hi : listed.getD i true = false) : False := by
  obtain ⟨o, ho, e, he, hb, hei⟩ := waits_spec hw
  obtain ⟨-, oj, hoj, hall⟩ := mem_ready.1 hj
  rw [ho] at hoj
  cases hoj
  have ht := hall e he hb
  rw [hei] at ht
  by_cases hlt : i < listed.size
  · simp [hlt] at ht hi; rw [ht] at hi; cases hi
  · simp [Array.getElem?_eq_none (Nat.le_of_not_lt hlt)] at ht
theorem chain_ready {md : Region.Mode} {ops : Array Oper} {listed : Array Bool} {i j : Nat} (hi : listed.getD i true = false) (hj : j ∈ Region.ready md ops listed) : ∀ {l : List Nat}, chain md ops listed i l = true → j ∉ l
  | [], h => by cases h
  | [x], h => fun hm => by
    obtain rfl : j = x := by simpa using hm
    exact ready_waits hj h hi
  | x :: y :: r, h => fun hm => by
    simp only [chain, Bool.and_eq_true, Bool.not_eq_true'] at h
    rcases List.mem_cons.1 hm with rfl | hm
    · exact ready_waits hj h.1 h.2.1
    · exact chain_ready hi hj h.2.2 hm
theorem chain_set {md : Region.Mode} {ops : Array Oper} {listed : Array Bool} {i j : Nat} : ∀ {l : List Nat}, chain md ops listed i l = true → j ∉ l → chain md ops (listed.setIfInBounds j true) i l = true
  | [], h, _ => by cases h
  | [x], h, _ => h
  | x :: y :: r, h, hm => by
    simp only [chain, Bool.and_eq_true, Bool.not_eq_true'] at h ⊢
    refine ⟨h.1, ?_, chain_set h.2.2 (fun k => hm (List.mem_cons_of_mem _ k))⟩
    rw [getD_set_ne true (fun e => hm (by rw [e]; simp))]
    exact h.2.1
/-- What yields in every world that meets S, and for which z waits by these, is taken ahead of all others. -/
theorem wpAnyZ_firstc {P : Program} {ops : Array Oper} {Q : Exit → Act → World → Prop} {md : Region.Mode} {S : World → Prop} {z : Nat} {ch : List Nat} {i : Nat} {oi : Oper} {v : Value} (hi : ops[i]? = some oi) (hsel : ∀ (j : Nat) (o : Oper) cs b, ops[j]? = some o → o.op ≠ .select cs b)
    (hQ : ∀ c a w, Q (.panic c) (a.put oi.dst v) w → Q (.panic c) a w) : ∀ (n : Nat) {listed : Array Bool} {a : Act} {w : World}, chain md ops listed i (z :: ch) = true →
    (∀ j oj, ops[j]? = some oj → j ≠ i → listed.getD j true = false → (∀ e ∈ oj.after, Region.binds md e = true → e.on ≠ i) → oi.apart ops oj = true) →
    i ∈ Region.ready md ops listed → YieldsIf P ops S oi v a → S w → wpAnyZ P md ops Q S z n (listed.setIfInBounds i true) (a.put oi.dst v) w → wpAnyZ P md ops Q S z (n + 1) listed a w := by
  intro n
  induction n with
  | zero =>
    intro listed a w _ _ hr hy hS H
    refine ⟨fun e => absurd hr (by rw [e]; exact List.not_mem_nil), fun j hj => ?_⟩
    rcases Decidable.em (j = i) with rfl | hji
    · exact hy.wpOp hi hS ⟨fun _ => hS, H⟩
    · have hm := ready_mono hj hji
      rw [H.1] at hm
      cases hm
  | succ n ih =>
    intro listed a w hch hfree hr hy hS H
    refine ⟨fun e => absurd hr (by rw [e]; exact List.not_mem_nil), fun j hj => ?_⟩
    rcases Decidable.em (j = i) with rfl | hji
    · exact hy.wpOp hi hS ⟨fun _ => hS, H⟩
    obtain ⟨hun, oj, hoj, hall⟩ := mem_ready.1 hj
    have hif : listed.getD i true = false := (mem_ready.1 hr).1
    have hno : ∀ e ∈ oj.after, Region.binds md e = true → e.on ≠ i := fun e he hb hei => by
      have ht := hall e he hb
      rw [hei] at ht
      by_cases hlt : i < listed.size
      · simp [hlt] at ht hif; rw [ht] at hif; cases hif
      · simp [Array.getElem?_eq_none (Nat.le_of_not_lt hlt)] at ht
    have hnot := chain_ready hif hj hch
    have hjz : j ≠ z := fun e => hnot (by rw [e]; simp)
    refine wpOp_mono (fun b u k => ⟨fun _ => k.2.1 hjz, ih (chain_set hch hnot) (fun m om hm hmi hmu hmn => hfree m om hm hmi ?_ hmn) (ready_mono hr (Ne.symm hji)) k.1 (k.2.1 hjz) ?_⟩)
      (wpOp_putIf hoj (hfree j oj hoj hji hun hno) (fun cs b => hsel i oi cs b hi) (fun cs b => hsel j oj cs b hoj) hQ hy (H.2 j (ready_mono hj hji)))
    · by_cases hjm : j = m
      · rw [← hjm]; exact hun
      · rwa [getD_set_ne true hjm] at hmu
    · rw [Array.setIfInBounds_comm _ _ hji]
      exact k.2.2
theorem wpAnyZ_yieldc {P : Program} {md : Region.Mode} {l : List Oper} {Q : Exit → Act → World → Prop} {S : World → Prop} {z : Nat} (ch : List Nat) (i : Nat) (v : Value) {o : Oper} {n : Nat} {listed : Array Bool} {a : Act} {w : World} (hi : l[i]? = some o)
    (hs : Region.noSelect l.toArray = true) (hf : Region.free md l.toArray listed i = true) (hr : ((Region.ready md l.toArray listed).contains i && chain md l.toArray listed i (z :: ch)) = true)
    (hQ : ∀ d c a w, Q (.panic c) (a.put d v) w → Q (.panic c) a w) (hw : Region.wanted o (yielded l.toArray a.tmps) = true) (hS : S w) (hv : ∀ w, S w → (execOp a.eval o).run P w = .ok (.value v) w)
    (h : wpAnyZ P md l.toArray Q S z n (listed.setIfInBounds i true) (a.put o.dst v) w) : wpAnyZ P md l.toArray Q S z (n + 1) listed a w := by
  have hi' : l.toArray[i]? = some o := by simpa using hi
  rw [Bool.and_eq_true] at hr
  exact wpAnyZ_firstc hi' (Region.noSelect_spec hs) (fun c a w h => hQ _ c a w h) n hr.2 (Region.free_spec hi' hf) (by simpa using hr.1) (.inl ⟨hw, hv⟩) hS h
end Go.Proofs.Ytpognlidhppnaaa
