/- The closed fact on nets. -/
import Derived.Test.YtkeljbekbgabpaaDoorAParse
import Derived.Test.YtkeljbekbgabpaaDoorAHas2
import Derived.Deep.RegionWith
namespace Go.Proofs.YtkeljbekbgabpaaDoor
open Go.RowKit Go.Sort

theorem nets_parse : parseR [49, 48, 46, 48, 46, 48, 46, 48, 47, 56, 58, 56, 48, 45, 57, 48] = some (167772160, 8, 80, 90) := by kernel_rfl

theorem nets_any (w : World) : Calls Tryd.prog 11 #[] w fun e w' => e = .returned (.bool true) ∧ Below w.heap.size w w' := by
  have HP : ∀ V, Calls Tryd.prog 18 #[.string ⟨#[49, 48, 46, 48, 46, 48, 46, 48, 47, 56, 58, 56, 48, 45, 57, 48]⟩] V fun e w' => e = .returned (.tuple #[netV 167772160 8 80 90, .nilIface]) ∧ Below V.heap.size V w' := fun V =>
    (aparse_any _ (by decide) V).mono fun e w' ⟨he, hb⟩ => ⟨by rw [he]; exact congrArg (fun o => Ending.returned (parseV o)) nets_parse, hb⟩
  have h1 : hasOf 167772160 8 80 90 167772165 85 = true := by decide +kernel
  have h2 : hasOf 167772160 8 80 90 184549381 85 = false := by decide +kernel
  have HA : ∀ V, Calls Tryd.prog 16 #[.agg #[.int .u32 167772160, .int .i64 8, .int .i64 80, .int .i64 90], .int .u32 167772165, .int .i64 85] V fun e w' => e = .returned (.bool true) ∧ Below V.heap.size V w' := fun V =>
    (has_any 167772160 (by decide) 8 80 90 (by decide) (by decide) (by decide) 167772165 (by decide) 85 V).mono fun e w' h => by rw [h1] at h; exact h
  have HB : ∀ V, Calls Tryd.prog 16 #[.agg #[.int .u32 167772160, .int .i64 8, .int .i64 80, .int .i64 90], .int .u32 184549381, .int .i64 85] V fun e w' => e = .returned (.bool false) ∧ Below V.heap.size V w' := fun V =>
    (has_any 167772160 (by decide) 8 80 90 (by decide) (by decide) (by decide) 184549381 (by decide) 85 V).mono fun e w' h => by rw [h2] at h; exact h
  clear h1 h2
  go_enter Tryd.func11, Tryd.ntmps11
  go_wp2_with (first
    | (go_at_call 18; refine (HP _).mono ?_; rintro e V ⟨rfl, hV⟩; have HV := hide hV; clear hV)
    | (go_at_call 6; refine (same_nil _ _).mono ?_; rintro e V1 ⟨rfl, rfl⟩)
    | (go_at_call_of 16 (Value.int IntKind.u32 167772165); refine (HA _).mono ?_; rintro e V2 ⟨rfl, hV2⟩; have hx := (hV2.block _ (by simp)).trans (heap_alloc_new V _); have HV2 := hide hV2; clear hV2; have x0 := cell_of_row _ _ 0 _ _ _ hx; have x1 := cell_of_row _ _ 1 _ _ _ hx; have x2 := cell_of_row _ _ 2 _ _ _ hx; have x3 := cell_of_row _ _ 3 _ _ _ hx)
    | (go_at_call_of 16 (Value.int IntKind.u32 184549381); refine (HB _).mono ?_; rintro e V3 ⟨rfl, hV3⟩))
  go_ret
  have hb1 := HV.out.alloc HV.out.size (.cells #[.int .u32 167772160, .int .i64 8, .int .i64 80, .int .i64 90] 39)
  have hb2 := hb1.trans (HV2.out.mono hb1.size)
  exact ⟨rfl, hb2.trans (hV3.mono hb2.size)⟩
end Go.Proofs.YtkeljbekbgabpaaDoor
