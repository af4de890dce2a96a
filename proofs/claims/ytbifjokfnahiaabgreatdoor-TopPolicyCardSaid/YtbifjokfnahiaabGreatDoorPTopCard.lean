/- TopPolicy returns true, for all policies, calls and values, and leaves them as they were, over the tables that the program's text lays: the row, and its card. -/
import Derived.Test.YtbifjokfnahiaabGreatDoorPLaid
import Derived.Test.YtbifjokfnahiaabGreatDoorPTop
import Derived.Lay
namespace Go.Proofs.YtbifjokfnahiaabGreatDoor
open Go.ChangeShapes Go.WideShapes Go.ChangeAt Go.WideMaps Go.WideElems Go.RowKit

set_option maxRecDepth 100000 in
theorem topPolicy_lifted (os : Os) (started : os.Started) (H : Type) (enc : TypeId × Value → H) :
    ReturnsInHanded {} Tryz.checked os 3 .any (fun w args => (Rows.topPolicySpec.pre enc Tryz.prog Tryz.f3 [] false w args ∧ laidMetH Tryz.prog Rows.topPolicyRow.laid w) ∧ sizedMet enc Tryz.prog Tryz.f3 (OpenSpec.ofChange Rows.topPolicySpec) false w args)
      (Rows.topPolicySpec.post enc Tryz.prog Tryz.f3 false true false false) := by
  refine lift_shaped (X := fun w => laidMetH Tryz.prog Rows.topPolicyRow.laid w) (fun _ _ hh h => h.of_heap hh) started (by kernel_rfl) Tryz.func3
    (ChangeSpec.witness_shaped (enc := enc) (C := Tryz.checked) (os := os) (X := fun w _ => laidMetH Tryz.prog Rows.topPolicyRow.laid w) false (World.laidAll Tryz.prog os Rows.topPolicyRow.laid) #[.agg #[.slice none 0 0, .int .i64 0, .int .i64 0], .agg #[.int .u32 0, .int .u32 0, .int .u64 0, .int .u64 0, .int .u64 0, .int .u64 0], .agg #[.string ⟨#[]⟩, .int .u32 0, .int .i64 0, .string ⟨#[]⟩, .int .u32 0, .int .i64 0, .string ⟨#[]⟩, .int .u32 0, .int .i64 0, .string ⟨#[]⟩, .int .u32 0, .int .i64 0]] 8 (World.laidAll_os _ _ _) (World.shaped_of_ZipB (by kernel_rfl) (by kernel_rfl)) (by kernel_rfl) (by kernel_rfl) (by kernel_rfl) (by rw [MakeChecks.laidMetH_plain _ _ _ (by kernel_rfl)]; exact laidMet_laidAll _ (by kernel_rfl) (by kernel_rfl))) ?_
  intro W base args ds gs before hval0 hW hL hsh
  have hval : ∀ (j : Nat) t v, Tryz.f3.params[j]? = some t → args[j]? = some v → Value.okWide Tryz.prog W .any base t v := hval0
  have hW' := hW
  obtain ⟨p, q, hA0, hV, rfl, hfz, hnd⟩ := hW
  have hA : DataW.TrodAll enc Tryz.prog W 0 (fun _ => true) true Tryz.f3.params.toList args.toList ds p := hA0
  rw [Tryz.params3] at hA hval
  obtain ⟨v0, v1, v2, d0, d1, d2, p0, p1, p2, rfl, rfl, rfl, h0, h1, h2⟩ := trodAll_three hA
  obtain ⟨rfl, rfl⟩ := trodVars_none hV
  obtain ⟨pl, oa, cap, rfl, hpl⟩ := open_pol (hval 0 26 v0 rfl rfl) h0
  obtain ⟨k, rfl, hk⟩ := open_call (hval 1 31 v1 rfl rfl) h1
  obtain ⟨v, rfl, hv⟩ := open_vals (hval 2 35 v2 rfl rfl) h2
  clear hA0 hval0
  simp only [List.append_nil] at hW'
  refine (topPolicy_any pl oa cap k hk v hv W hpl (ev_of hL rfl ⟨_, rfl⟩ hsh)).mono fun e W' ⟨he, hb⟩ => ?_
  subst he
  have hlt : ∀ x ∈ p0 ++ p1 ++ p2, x.block < W.heap.size := fun x hx => by simpa using hW'.lt x hx
  exact ⟨_, rfl, post_law' (pa := p0 ++ (p1 ++ p2)) (pv := []) hW' (fun _ _ _ => trodAll_mk1 (shut_bool Tryz.underlying4 _))
    (trodAll_mk3 (Below.trod laidOut (by kernel_rfl) (of_decide_eq_true (by kernel_rfl)) h0 hb fun x hx => hlt x (List.mem_append.2 (.inl (List.mem_append.2 (.inl hx))))) (Below.trod laidOut (by kernel_rfl) (of_decide_eq_true (by kernel_rfl)) h1 hb fun x hx => hlt x (List.mem_append.2 (.inl (List.mem_append.2 (.inr hx))))) (Below.trod laidOut (by kernel_rfl) (of_decide_eq_true (by kernel_rfl)) h2 hb fun x hx => hlt x (List.mem_append.2 (.inr hx)))) (fun _ _ => rfl) (by simp) hb⟩

theorem topPolicy_said : Rows.TopPolicySaid :=
  OpenClaim.holds_of_wide 3 Tryz.f3 rfl rfl rfl rfl rfl rfl rfl ⟨rfl, rfl, rfl, rfl, rfl⟩ rfl rfl rfl rfl rfl (by kernel_rfl) Tryz.func3 (by kernel_rfl)
    (of_decide_eq_true (by kernel_rfl)) (by unfold Func.isWrapper; first | (rw [if_pos (by decide +kernel)]; kernel_rfl) | (rw [if_neg (by decide +kernel)]; exact ⟨rfl, rfl⟩))
    (fun os started H enc _ => topPolicy_lifted os started H enc)

set_option maxRecDepth 100000 in
/-- No parameter wants a stand-in. -/
theorem topPolicy_plain (f : FuncId) (fn : Func) (hf : Tryz.pinned.checked.prog.funcNamed "doorward/doorwardtop.TopPolicy" = some f) (hfn : Tryz.pinned.checked.prog.funcs[f]? = some fn) :
    true = Tryz.pinned.checked.prog.looks [] ∧ ∀ (j : Nat) t, fn.params[j]? = some t → Tryz.pinned.checked.prog.wantsStandIn t = false := by
  obtain rfl : f = 3 := Option.some.inj ((show Tryz.prog.funcNamed "doorward/doorwardtop.TopPolicy" = some 3 by kernel_rfl).symm.trans hf) |>.symm
  obtain rfl : fn = Tryz.f3 := (Option.some.inj (Tryz.func3.symm.trans hfn)).symm
  refine ⟨by kernel_rfl, fun j t ht => ?_⟩
  rw [Tryz.params3] at ht
  match j, ht with
  | 0, ht => obtain rfl := Option.some.inj ht; exact (by kernel_rfl : Tryz.pinned.checked.prog.wantsStandIn 26 = false)
  | 1, ht => obtain rfl := Option.some.inj ht; exact (by kernel_rfl : Tryz.pinned.checked.prog.wantsStandIn 31 = false)
  | 2, ht => obtain rfl := Option.some.inj ht; exact (by kernel_rfl : Tryz.pinned.checked.prog.wantsStandIn 35 = false)
  | j + 3, ht => simp at ht

theorem topPolicy_card : Rows.TopPolicyCardSaid :=
  Claim7.holds_tied_plain_at .later [] _ _ _ _ topPolicy_said (fun _ h => by cases h) (by kernel_rfl) (fun _ h => by cases h) topPolicy_row_tie rfl ⟨rfl, rfl⟩ (by kernel_rfl) rfl topPolicy_plain (by kernel_rfl)
#print axioms topPolicy_card
end Go.Proofs.YtbifjokfnahiaabGreatDoor
