/- TopAddr returns true, for all nets, addresses and ports, over the tables that the program's text lays: the row, and its card. -/
import Derived.Test.YtkeljbekbgabpaaDoorCards
import Derived.Test.YtkeljbekbgabpaaDoorTie
import Derived.Test.YtkeljbekbgabpaaDoorATop
import Derived.Test.YtkeljbekbgabpaaDoorPostLaw
import Derived.ProofKit
import Derived.LaidMore
import Derived.OpenShut
import Derived.Stop.Joined
import Derived.MakeChecks
import Derived.Lib.LaidTab
import Derived.Lib.SmallJoins
import Derived.Stop.LaidErr
namespace Go.Proofs.YtkeljbekbgabpaaDoor
open Go.ChangeShapes Go.WideShapes Go.ChangeAt Go.WideMaps Go.WideElems Go.RowKit

theorem own : ownKnob Tryd.prog.godebug = none := by kernel_rfl

/-- The table out of the row's condition. -/
theorem tab_of {W : World} (h : laidMetH Tryd.prog Rows.topAddrRow.laid W) : Tab W := by
  rw [MakeChecks.laidMetH_plain _ _ _ (by kernel_rfl)] at h
  have h2 : laidMet Tryd.prog [("internal/strconv.uint64pow10", Lib.tabData .u64 Lib.pow10Tab)] W := laidMet.tail (laidMet.tail (x := ("math/bits.deBruijn32tab", Rows.laid_math_bits_deBruijn32tab)) h)
  exact Lib.tabIs_of_head (g := (Tryd.prog.globalNamed "internal/strconv.uint64pow10").get!) (t := 87) (e := 65) (n := 20) (by kernel_rfl) (by kernel_rfl) (by kernel_rfl) (by kernel_rfl) (by kernel_rfl) (by kernel_rfl) h2

/-- The door's own heap meets the condition. -/
theorem topAddr_door (os : Os) (args : Array Value) : laidMetH Tryd.prog Rows.topAddrRow.laid ((World.doorLaid Tryd.prog 4000 os).forCall (fun _ _ => 0) ⟨#[], args, []⟩).memory :=
  laidMetH_of_parts3 (fuel := 8) (laidMet_of_run' 8 (by kernel_rfl) (by kernel_rfl)) (by kernel_rfl) (by kernel_rfl)

theorem u32_wf {n : Int} (h : (Lit.int .u32 n).wf = true) : ∃ k : Nat, n = k ∧ k < 4294967296 := by
  simp [Lit.wf, IntKind.min, IntKind.max, IntKind.signed, IntKind.bits] at h
  exact ⟨n.toNat, by omega, by omega⟩
theorem i64_wf {n : Int} (h : (Lit.int .i64 n).wf = true) : -9223372036854775808 ≤ n ∧ n ≤ 9223372036854775807 := by
  simp [Lit.wf, IntKind.min, IntKind.max, IntKind.signed, IntKind.bits] at h
  omega

theorem one_net : ∃ f0 f1 f2 f3 : Field, Tryd.prog.underlying 39 = some (.struct #[f0, f1, f2, f3]) ∧ Go.Deep.oneCellFields Tryd.prog #[f0, f1, f2, f3] = true ∧ f0.type = 34 ∧ f1.type = 3 ∧ f2.type = 3 ∧ f3.type = 3 := ⟨_, _, _, _, Tryd.underlying39, by kernel_rfl, by kernel_rfl, by kernel_rfl, by kernel_rfl, by kernel_rfl⟩

/-- A net that came in, opened. -/
theorem open_net {H : Type} {enc : TypeId × Value → H} {w : World} {base : Nat} {spare : Nat → Bool} {held : Bool} {r : Reach} {b0 : Nat} {v : Value} {d : DataW H} {p : List MemPlace} (hv : Value.okWide Tryd.prog w r b0 39 v) (h : DataW.Trod enc Tryd.prog w base spare held 39 v d p) :
    ∃ (ip : Nat) (b lo hi : Int), v = netV ip b lo hi ∧ p = [] ∧ ip < 4294967296 ∧ (-9223372036854775808 ≤ b ∧ b ≤ 9223372036854775807) ∧ (-9223372036854775808 ≤ lo ∧ lo ≤ 9223372036854775807) ∧ (-9223372036854775808 ≤ hi ∧ hi ≤ 9223372036854775807) ∧
      ∀ (W : World) (bs : Nat) (sp : Nat → Bool) (hd : Bool), DataW.Trod enc Tryd.prog W bs sp hd 39 (netV ip b lo hi) d [] := by
  obtain ⟨f0, f1, f2, f3, hu, hone, e0, e1, e2, e3⟩ := one_net
  obtain ⟨v0, v1, v2, v3, y0, y1, y2, y3, n, rfl, rfl, rfl, h0, h1, h2, h3⟩ := Go.Joins.open_agg4 hu hone (by kernel_rfl) hv h
  rw [e0] at h0
  rw [e1] at h1
  rw [e2] at h2
  rw [e3] at h3
  obtain ⟨a0, q0, rfl, w0⟩ := DataW.trod_int Tryd.underlying34 h0
  obtain ⟨a1, q1, rfl, w1⟩ := DataW.trod_int Tryd.underlying3 h1
  obtain ⟨a2, q2, rfl, w2⟩ := DataW.trod_int Tryd.underlying3 h2
  obtain ⟨a3, q3, rfl, w3⟩ := DataW.trod_int Tryd.underlying3 h3
  obtain rfl := (List.cons.inj q0).1
  obtain rfl := (List.cons.inj q1).1
  obtain rfl := (List.cons.inj q2).1
  obtain rfl := (List.cons.inj q3).1
  obtain ⟨ip, rfl, hip⟩ := u32_wf w0
  refine ⟨ip, a1, a2, a3, rfl, rfl, hip, i64_wf w1, i64_wf w2, i64_wf w3, fun W bs sp hd => ?_⟩
  exact Go.Joins.shut_agg4 hu hone (by kernel_rfl) (by rw [e0]; exact Go.Joins.field_of_Trod (shut_int Tryd.underlying34 w0) rfl) (by rw [e1]; exact Go.Joins.field_of_Trod (shut_int Tryd.underlying3 w1) rfl) (by rw [e2]; exact Go.Joins.field_of_Trod (shut_int Tryd.underlying3 w2) rfl) (by rw [e3]; exact Go.Joins.field_of_Trod (shut_int Tryd.underlying3 w3) rfl)

set_option maxRecDepth 100000 in
theorem topAddr_lifted (os : Os) (started : os.Started) (H : Type) (enc : TypeId × Value → H) :
    ReturnsInHanded {} Tryd.checked os 5 .any (fun w args => (Rows.topAddrSpec.pre enc Tryd.prog Tryd.f5 [] false w args ∧ laidMetH Tryd.prog Rows.topAddrRow.laid w) ∧ sizedMet enc Tryd.prog Tryd.f5 (OpenSpec.ofChange Rows.topAddrSpec) false w args)
      (Rows.topAddrSpec.post enc Tryd.prog Tryd.f5 false true false false) := by
  refine returnsInHanded_of_change_and (C := Tryd.checked) (X := fun w _ => laidMetH Tryd.prog Rows.topAddrRow.laid w) (fun _ _ _ hh h => h.of_heap hh) own started (by kernel_rfl) Tryd.func5
    (ChangeSpec.witness_shaped (enc := enc) (C := Tryd.checked) (os := os) (X := fun w _ => laidMetH Tryd.prog Rows.topAddrRow.laid w) false (World.doorLaid Tryd.prog 4000 os) #[.agg #[.int .u32 0, .int .i64 0, .int .i64 0, .int .i64 0], .int .u32 0, .int .i64 0] 8 rfl (World.shaped_of_RefB (by kernel_rfl) (by kernel_rfl)) (by kernel_rfl) (by kernel_rfl) (by kernel_rfl) (topAddr_door os _)) ?_
  intro W base args ds gs before hval0 hW _ _ hL _
  have hval : ∀ (j : Nat) t v, Tryd.f5.params[j]? = some t → args[j]? = some v → Value.okWide Tryd.prog W .any base t v := hval0
  have hW' := hW
  obtain ⟨p, q, hA0, hV, rfl, hfz, hnd⟩ := hW
  have hA : DataW.TrodAll enc Tryd.prog W 0 (fun _ => true) true Tryd.f5.params.toList args.toList ds p := hA0
  rw [Tryd.params5] at hA hval
  obtain ⟨v0, v1, v2, d0, d1, d2, p0, p1, p2, rfl, rfl, rfl, h0, h1, h2⟩ := trodAll_three hA
  obtain ⟨rfl, rfl⟩ := trodVars_none hV
  obtain ⟨ip, b, lo, hi, rfl, rfl, hip, hb, hl, hh, hs0⟩ := open_net (hval 0 39 v0 rfl rfl) h0
  obtain ⟨n1, rfl, rfl, rfl, hw1⟩ := open_int Tryd.underlying34 (hval 1 34 v1 rfl rfl) h1
  obtain ⟨n2, rfl, rfl, rfl, hw2⟩ := open_int Tryd.underlying3 (hval 2 3 v2 rfl rfl) h2
  obtain ⟨x, rfl, hx⟩ := u32_wf hw1
  clear hA0 hval0
  simp only [List.append_nil] at hW'
  refine (topAddr_any ip hip b lo hi hb hl hh x hx n2 (i64_wf hw2) W (tab_of hL)).mono fun e W' ⟨he, hbel⟩ => ?_
  subst he
  exact ⟨_, rfl, post_law (pa := []) (pv := []) hW' (fun _ _ _ => trodAll_mk1 (shut_bool Tryd.underlying4 _)) (fun sp _ => trodAll_mk3 (hs0 _ _ _ _) (shut_int Tryd.underlying34 hw1) (shut_int Tryd.underlying3 hw2)) (fun _ _ => rfl) rfl hbel⟩

theorem topAddr_said : Rows.TopAddrSaid :=
  OpenClaim.holds_of_wide 5 Tryd.f5 rfl rfl rfl rfl rfl rfl rfl ⟨rfl, rfl, rfl, rfl, rfl⟩ rfl rfl rfl rfl rfl (by kernel_rfl) Tryd.func5 (by kernel_rfl)
    (of_decide_eq_true (by kernel_rfl)) (by unfold Func.isWrapper; first | (rw [if_pos (by decide +kernel)]; kernel_rfl) | (rw [if_neg (by decide +kernel)]; exact ⟨rfl, rfl⟩))
    (fun os started H enc _ => topAddr_lifted os started H enc)

/-- No parameter wants a stand-in. -/
theorem topAddr_plain (f : FuncId) (fn : Func) (hf : Tryd.pinned.checked.prog.funcNamed "doorward/doorwardtop.TopAddr" = some f) (hfn : Tryd.pinned.checked.prog.funcs[f]? = some fn) :
    true = Tryd.pinned.checked.prog.looks [] ∧ ∀ (j : Nat) t, fn.params[j]? = some t → Tryd.pinned.checked.prog.wantsStandIn t = false := by
  obtain rfl : f = 5 := Option.some.inj ((show Tryd.prog.funcNamed "doorward/doorwardtop.TopAddr" = some 5 by kernel_rfl).symm.trans hf) |>.symm
  obtain rfl : fn = Tryd.f5 := (Option.some.inj (Tryd.func5.symm.trans hfn)).symm
  refine ⟨by kernel_rfl, fun j t ht => ?_⟩
  rw [Tryd.params5] at ht
  match j, ht with
  | 0, ht => obtain rfl := Option.some.inj ht; exact (by kernel_rfl : Tryd.pinned.checked.prog.wantsStandIn 39 = false)
  | 1, ht => obtain rfl := Option.some.inj ht; exact (by kernel_rfl : Tryd.pinned.checked.prog.wantsStandIn 34 = false)
  | 2, ht => obtain rfl := Option.some.inj ht; exact (by kernel_rfl : Tryd.pinned.checked.prog.wantsStandIn 3 = false)
  | j + 3, ht => simp at ht

theorem topAddr_card : Rows.TopAddrCardSaid :=
  Claim7.holds_tied_plain_at .later [] _ _ _ _ topAddr_said (fun _ h => by cases h) (by kernel_rfl) (fun _ h => by cases h) topAddr_row_tie rfl ⟨rfl, rfl⟩ (by kernel_rfl) rfl topAddr_plain (by kernel_rfl)
#print axioms topAddr_card
end Go.Proofs.YtkeljbekbgabpaaDoor
