/- The walk of glob.class. -/
import Derived.Test.YtaipgmnifnclbaaGClassSpec
import Derived.Test.YtaipgmnifnclbaaGBuilt
import Derived.Laws.ResultCell
namespace Go.Proofs.Ytaipgmnifnclbaa
open Go.RowKit
attribute [local go_sem] LA_set LA_get LA_size LA_at

/-- A part and a number handed back, the part out of its block. -/
theorem results_part {fn : Func} {p u : Tmp} (h : fn.results = #[.cell p 47, .tmp u]) (tmps : Array Value) (w : World) (g : Nat) (f : Nat → Bool) (v : Value) (t' : TypeId)
    (hp : tmps.getD p undef = .pointer (some ⟨g, 0, none⟩)) (hv : tmps.getD u undef = v) (hg : w.heap[g]? = some (.cells (LA 257 f) t' (0, 0))) :
    (results fn tmps).run Try.prog w = .ok (.tuple #[.agg (LA 257 f), v]) w := by
  rw [results_cell_tmp h, hp, hv]
  have hl := run_loadVar_row (P := Try.prog) w g t' 47 (LA 257 f) (0, 0) _ hg Try.underlying47 rfl (by rw [LA_size]; exact size_part)
  simp [asAddr, hl]

theorem prefix_bang (s : ByteArray) (hs : 1 ≤ s.size) (w : World) :
    Calls Try.prog 22 #[.string (s.extract 1 s.size), .string ⟨#[33]⟩] w fun e w' => e = .returned (.bool (notB s)) ∧ w' = w :=
  (strings_HasPrefix (s.extract 1 s.size) ⟨#[33]⟩ w).mono fun e w' ⟨he, hw⟩ => ⟨by rw [he]; exact ret_bool (hasPrefix_not s hs), hw⟩

theorem member_from (s : ByteArray) (a : Nat) (ha : a < s.size) (hz : s.size ≤ 1000) (w : World) :
    Calls Try.prog 30 #[.string (s.extract a s.size)] w fun e w' => e = .returned (.int .i64 (memberAt s a)) ∧ ∃ n, w' = w.drewN n :=
  (member_any (s.extract a s.size) (by rw [size_extract]; omega) (by rw [size_extract]; omega) w).mono fun e w' ⟨he, hw⟩ => ⟨by
    rw [he, byteAt_extract s a 0 (by omega), byteAt_extract s a 1 (by omega), byteAt_extract s a 2 (by omega), size_extract]; rfl, hw⟩

theorem wpList_forget {P : Program} {ops : Array Oper} {r : List Oper} {Q : Exit → Act → World → Prop} {a : Act} {W0 : World} (F : World → Prop) (h : F W0) (H : ∀ W, F W → wpList P ops Q r a W) : wpList P ops Q r a W0 := H _ h

/-- The world behind 'like = others(like)'. -/
def CV (w : World) (g : Nat → Bool) (V : World) : Prop := Below w.heap.size w V ∧ V.heap[w.heap.size]? = some (.cells (LA 257 fun _ => false) 47 (0, 0)) ∧ V.heap[w.heap.size + 1]? = some (.cells (LA 256 g) 45 (0, 0))

/-- What class hands back. -/
def classV (s : ByteArray) : Value := match classR s with
  | none => .tuple #[.agg (LA 257 fun _ => false), .int .i64 0]
  | some (f, n) => .tuple #[.agg (LA 257 (PF f false)), .int .i64 n]
theorem classV_none {s : ByteArray} (h : classR s = none) : classV s = .tuple #[.agg (LA 257 fun _ => false), .int .i64 0] := by unfold classV; rw [h]
theorem classV_some {s : ByteArray} {f : Nat → Bool} {n : Nat} (h : classR s = some (f, n)) : classV s = .tuple #[.agg (LA 257 (PF f false)), .int .i64 n] := by unfold classV; rw [h]

/-- The world in the midst of class: the part's block, the block of bools, some draws. -/
def CW (w : World) (f : Nat → Bool) (m : Nat) : World := ((w.alloc (.cells (LA 257 fun _ => false) 47)).alloc (.cells (LA 256 f) 45)).drewN m
theorem CW_heap0 (w : World) (f : Nat → Bool) (m : Nat) : (CW w f m).heap[w.heap.size]? = some (.cells (LA 257 fun _ => false) 47 (0, 0)) := heap_alloc2_old _ _ _
theorem CW_heap1 (w : World) (f : Nat → Bool) (m : Nat) : (CW w f m).heap[w.heap.size + 1]? = some (.cells (LA 256 f) 45 (0, 0)) := heap_alloc2_new _ _ _
theorem CW_row (w : World) (f g : Nat → Bool) (m : Nat) : (CW w f m).setRow (w.heap.size + 1) (LA 256 g) = CW w g m := by
  have h := World.setRow_alloc_new (w.alloc (.cells (LA 257 fun _ => false) 47)) (LA 256 f) (LA 256 g) 45
  have e : (w.alloc (.cells (LA 257 fun _ => false) 47)).heap.size = w.heap.size + 1 := by simp
  rw [e] at h
  have e2 : (CW w f m).setRow (w.heap.size + 1) (LA 256 g) = (((w.alloc (.cells (LA 257 fun _ => false) 47)).alloc (.cells (LA 256 f) 45)).setRow (w.heap.size + 1) (LA 256 g)).drewN m := rfl
  rw [e2, h]
  rfl
theorem CW_cell (w : World) (f : Nat → Bool) (m i : Nat) (h : i < 256) : (CW w f m).cell? ⟨w.heap.size + 1, i, none⟩ = some (.bool (f i)) := by
  rw [cell_of_row _ _ i _ _ _ (CW_heap1 w f m), LA_get 256 f i h]
theorem CW_frozen (w : World) (f : Nat → Bool) (m i : Nat) : (CW w f m).frozen? ⟨w.heap.size + 1, i, none⟩ = false := frozen_of_row _ _ i _ _ (CW_heap1 w f m)
theorem CW_set (w : World) (f : Nat → Bool) (m i : Nat) (b : Bool) : (CW w f m).setCell ⟨w.heap.size + 1, i, none⟩ (.bool b) = CW w (upd f i b) m := by
  rw [setCell_eq_setRow _ _ i _ _ _ _ (CW_heap1 w f m), LA_set]
  exact CW_row w f (upd f i b) m
theorem CW_drewN (w : World) (f : Nat → Bool) (m n : Nat) : (CW w f m).drewN n = CW w f (m + n) := by unfold CW; rw [World.drewN_drewN]
theorem CW_start (w : World) : CW w (fun _ => false) 0 = (w.alloc (.cells (LA 257 fun _ => false) 47)).alloc (.cells (LA 256 fun _ => false) 45) := World.drewN_zero _
theorem CW_size (w : World) (f : Nat → Bool) (m : Nat) : w.heap.size + 1 < (CW w f m).heap.size := by show _ < (World.alloc _ _).heap.size; simp
theorem CW_below (w : World) (f : Nat → Bool) (m : Nat) : Below w.heap.size w (CW w f m) := below_drewN' (((Below.refl _ _).alloc (Nat.le_refl _) _).alloc (by simp) _) m
theorem CV_of {w W1 : World} {f : Nat → Bool} {m : Nat} (h : Below (CW w f m).heap.size (CW w f m) W1) : CV w (fun i => !f i) (W1.setRow (w.heap.size + 1) (LA 256 fun i => !f i)) := by
  have hz := CW_size w f m
  refine ⟨below_setRow ((CW_below w f m).trans (h.mono (by omega))) (by omega) _, ?_, ?_⟩
  · rw [setRow_other _ _ _ _ (by omega), h.block _ (by omega)]; exact CW_heap0 w f m
  · exact heap_setRow_same _ ((h.block _ hz).trans (CW_heap1 w f m))
attribute [local go_sem] CW_cell CW_frozen CW_set CW_drewN

set_option maxRecDepth 10000 in
set_option maxHeartbeats 1000000 in
theorem class_no (s : ByteArray) (hs : 1 ≤ s.size) (hz : s.size ≤ 1000) (hn : notB s = false) (w : World) :
    Calls Try.prog 25 #[.string s] w fun e w' => e = .returned (classV s) ∧ Below w.heap.size w w' := by
  have hB : classBegin s = 1 := by unfold classBegin; rw [hn]; rfl
  have hC : classR s = classFin false 1 s.size (scan (s.size + 1) s 1 fun _ => false) := by unfold classR; rw [hn, hB]
  have HC := hide hC
  clear hC hB
  have zl := zv_like
  have zp := zv_part
  have bp0 := build_part0
  have hBs : 1 ≤ s.size := by omega
  go_enter Try.func25, Try.ntmps25
  go_wp2_with (go_at_call 22; refine (prefix_bang s hs _).mono ?_; rintro e w' ⟨rfl, rfl⟩)
  rw [← CW_start]
  go_loopw [4] (fun a w' => ∃ (k : Nat) (f : Nat → Bool) (m fuel : Nat), 1 ≤ k ∧ k ≤ s.size ∧ a = .int .i64 k ∧ w' = CW w f m ∧ s.size - k < fuel ∧ scan fuel s k f = scan (s.size + 1) s 1 (fun _ => false)) (fun a _ => s.size - (intOf a).toNat)
  case atStart => exact ⟨1, _, 0, s.size + 1, by omega, by omega, rfl, rfl, by omega, rfl⟩
  case round =>
    obtain ⟨k, f, m, fuel, hk1, hk2, rfl, rfl, hfuel, hsc⟩ := hrel
    have Hsc := hide hsc
    clear hsc
    obtain ⟨fu, rfl⟩ : ∃ fu, fuel = fu + 1 := ⟨fuel - 1, by omega⟩
    by_cases hgo : k < s.size ∧ byteAt s k ≠ 93
    · obtain ⟨hlt, hne⟩ := hgo
      have ek := byteAt_eq s k hlt
      have bk : (((byteAt s k : Nat) : Int) != 93) = true := by rw [bne_iff_ne]; omega
      have dk : decide ((k : Int) < (s.size : Int)) = true := by simp; omega
      have hml := memberAt_le s k hlt
      by_cases hm0 : memberAt s k = 0
      · have hR : classR s = none := by rw [HC.out, ← Hsc.out, scan, if_pos ⟨hlt, hne⟩, if_pos hm0]; rfl
        have HV := hide (classV_none hR)
        have bm : (((memberAt s k : Nat) : Int) == 0) = true := by rw [beq_iff_eq]; omega
        clear hR HC Hsc hm0
        go_wp2_with (first | (go_at_call 30; refine (member_from s k hlt hz _).mono ?_; rintro e w' ⟨rfl, nd, rfl⟩) | (refine wpList_store_LA 47 257 rfl _ _ rfl (w.heap.size) ?_ (fun _ => false) ?_ size_part (fun _ => false) 47 ?_ ?_; (· rfl); (· rfl); (· with_reducible exact CW_heap0 _ _ _)) | (refine bodyPost_ret (results_part rfl _ _ w.heap.size (fun _ => false) (.int .i64 0) 47 rfl rfl (heap_setRow_same _ (CW_heap0 _ _ _))) rfl ⟨?_, ?_⟩; (· rw [HV.out]); (· exact below_setRow (CW_below _ _ _) (Nat.le_refl _) _)))
      · have hm1 : 1 ≤ memberAt s k := by omega
        have bm : (((memberAt s k : Nat) : Int) == 0) = false := by rw [beq_eq_false_iff_ne]; omega
        have hsc' : scan fu s (k + memberAt s k) (addRange f (byteAt s k) (byteAt s (k + memberAt s k - 1))) = scan (s.size + 1) s 1 (fun _ => false) := by rw [← Hsc.out, scan, if_pos ⟨hlt, hne⟩, if_neg hm0]
        have Hsc' := hide hsc'
        clear hsc' Hsc hm0
        have hi256 := byteAt_lt s (k + memberAt s k - 1)
        have ehi := byteAt_eq s (k + memberAt s k - 1) (by omega)
        have lo256 := byteAt_lt s k
        go_wp2_with (first | (go_at_call 30; refine (member_from s k hlt hz _).mono ?_; rintro e w' ⟨rfl, nd, rfl⟩))
        go_loopw [35] (fun c w' => ∃ j : Nat, j ≤ 256 ∧ c = .int .i64 j ∧ w' = CW w (addTo f (byteAt s k) (byteAt s (k + memberAt s k - 1)) j) (m + nd)) (fun c _ => 256 - (intOf c).toNat)
        case atStart => exact ⟨0, by omega, rfl, by rw [addTo_zero]⟩
        case round =>
          obtain ⟨j, hj, rfl, rfl⟩ := hrel
          by_cases hlj : j < 256
          · by_cases h1 : byteAt s k ≤ j
            · by_cases h2 : j ≤ byteAt s (k + memberAt s k - 1)
              · go_wp2_with fail
                go_roundw
                case rel => exact ⟨j + 1, by omega, by go_num, by rw [addTo_yes _ _ _ _ h1 h2]⟩
                case measure => simp [intOf]; omega
              · go_wp2_with fail
                go_roundw
                case rel => exact ⟨j + 1, by omega, by go_num, by rw [addTo_no _ _ _ _ (fun h => h2 h.2)]⟩
                case measure => simp [intOf]; omega
            · go_wp2_with fail
              go_roundw
              case rel => exact ⟨j + 1, by omega, by go_num, by rw [addTo_no _ _ _ _ (fun h => h1 h.1)]⟩
              case measure => simp [intOf]; omega
          · have ej : j = 256 := by omega
            have Ej := hide ej
            clear ej
            go_wp2_with fail
            go_roundw
            case rel => exact ⟨k + memberAt s k, addRange f (byteAt s k) (byteAt s (k + memberAt s k - 1)), m + nd, fu, by omega, by omega, by go_num, by rw [Ej.out, addTo_all _ _ _ hi256], by omega, Hsc'.out⟩
            case measure => simp [intOf]; omega
    · have hsn : scan (fu + 1) s k f = some (k, f) := by rw [scan, if_neg hgo]
      have hR0 : classR s = classFin false 1 s.size (some (k, f)) := by rw [HC.out, ← Hsc.out, hsn]
      clear HC Hsc hsn
      by_cases hend : k = s.size
      · have hR : classR s = none := by rw [hR0]; simp [classFin, hend]
        have HV := hide (classV_none hR)
        have dk : decide ((k : Int) < (s.size : Int)) = false := by simp; omega
        have be : ((k : Int) == (s.size : Int)) = true := by rw [beq_iff_eq]; omega
        clear hR hR0 hend hgo
        by_cases hb : k = 1
        · have bb : ((k : Int) == 1) = true := by rw [beq_iff_eq]; omega
          clear hb
          go_wp2_with (first | (refine wpList_store_LA 47 257 rfl _ _ rfl (w.heap.size) ?_ (fun _ => false) ?_ size_part (fun _ => false) 47 ?_ ?_; (· rfl); (· rfl); (· with_reducible exact CW_heap0 _ _ _)) | (refine bodyPost_ret (results_part rfl _ _ w.heap.size (fun _ => false) (.int .i64 0) 47 rfl rfl (heap_setRow_same _ (CW_heap0 _ _ _))) rfl ⟨?_, ?_⟩; (· rw [HV.out]); (· exact below_setRow (CW_below _ _ _) (Nat.le_refl _) _)))
        · have bb : ((k : Int) == 1) = false := by rw [beq_eq_false_iff_ne]; omega
          clear hb
          go_wp2_with (first | (refine wpList_store_LA 47 257 rfl _ _ rfl (w.heap.size) ?_ (fun _ => false) ?_ size_part (fun _ => false) 47 ?_ ?_; (· rfl); (· rfl); (· with_reducible exact CW_heap0 _ _ _)) | (refine bodyPost_ret (results_part rfl _ _ w.heap.size (fun _ => false) (.int .i64 0) 47 rfl rfl (heap_setRow_same _ (CW_heap0 _ _ _))) rfl ⟨?_, ?_⟩; (· rw [HV.out]); (· exact below_setRow (CW_below _ _ _) (Nat.le_refl _) _)))
      · have hlt : k < s.size := by omega
        have h93 : byteAt s k = 93 := Decidable.byContradiction fun h => hgo ⟨hlt, h⟩
        have ek := byteAt_eq s k hlt
        have bk : (((byteAt s k : Nat) : Int) != 93) = false := by rw [bne_eq_false_iff_eq]; omega
        have dk : decide ((k : Int) < (s.size : Int)) = true := by simp; omega
        have be : ((k : Int) == (s.size : Int)) = false := by rw [beq_eq_false_iff_ne]; omega
        clear hgo h93
        by_cases hb : k = 1
        · have hR : classR s = none := by rw [hR0]; simp [classFin, hb]
          have HV := hide (classV_none hR)
          have bb : ((k : Int) == 1) = true := by rw [beq_iff_eq]; omega
          clear hR hR0 hb hend
          go_wp2_with (first | (refine wpList_store_LA 47 257 rfl _ _ rfl (w.heap.size) ?_ (fun _ => false) ?_ size_part (fun _ => false) 47 ?_ ?_; (· rfl); (· rfl); (· with_reducible exact CW_heap0 _ _ _)) | (refine bodyPost_ret (results_part rfl _ _ w.heap.size (fun _ => false) (.int .i64 0) 47 rfl rfl (heap_setRow_same _ (CW_heap0 _ _ _))) rfl ⟨?_, ?_⟩; (· rw [HV.out]); (· exact below_setRow (CW_below _ _ _) (Nat.le_refl _) _)))
        · have hR : classR s = some (upd f 47 false, k + 1) := by rw [hR0]; simp [classFin, hb, hend]
          have HV := hide (classV_some hR)
          have bb : ((k : Int) == 1) = false := by rw [beq_eq_false_iff_ne]; omega
          clear hR hR0 hb hend
          go_wp2_with (first | (refine wpList_build_one rfl 47 _ _ rfl (.agg (LA 256 (upd f 47 false))) ?_ _ (built_part1 _) ?_; (· rfl)) | (refine wpList_load_LA 45 256 256 4 rfl _ rfl (w.heap.size + 1) ?_ Try.underlying45 size_like (upd f 47 false) 45 ?_ ?_; (· rfl); (· with_reducible exact CW_heap1 _ _ _)) | (refine wpList_store_LA 47 257 rfl _ _ rfl (w.heap.size) ?_ (PF (upd f 47 false) false) ?_ size_part (fun _ => false) 47 ?_ ?_; (· rfl); (· rfl); (· with_reducible exact CW_heap0 _ _ _)) | (refine bodyPost_ret (results_part rfl _ _ w.heap.size (PF (upd f 47 false) false) (.int .i64 ((k : Int) + 1)) 47 rfl rfl (heap_setRow_same _ (CW_heap0 _ _ _))) rfl ⟨?_, ?_⟩; (· rw [HV.out]; rfl); (· exact below_setRow (CW_below _ _ _) (Nat.le_refl _) _)))

set_option maxRecDepth 10000 in
set_option maxHeartbeats 1000000 in
theorem class_yes (s : ByteArray) (hs : 1 ≤ s.size) (hz : s.size ≤ 1000) (hn : notB s = true) (w : World) :
    Calls Try.prog 25 #[.string s] w fun e w' => e = .returned (classV s) ∧ Below w.heap.size w w' := by
  have hB : classBegin s = 2 := by unfold classBegin; rw [hn]; rfl
  have hC : classR s = classFin true 2 s.size (scan (s.size + 1) s 2 fun _ => false) := by unfold classR; rw [hn, hB]
  have HC := hide hC
  clear hC hB
  have zl := zv_like
  have zp := zv_part
  have bp0 := build_part0
  have hBs : 2 ≤ s.size := by simp [notB] at hn; omega
  go_enter Try.func25, Try.ntmps25
  go_wp2_with (go_at_call 22; refine (prefix_bang s hs _).mono ?_; rintro e w' ⟨rfl, rfl⟩)
  rw [← CW_start]
  go_loopw [4] (fun a w' => ∃ (k : Nat) (f : Nat → Bool) (m fuel : Nat), 2 ≤ k ∧ k ≤ s.size ∧ a = .int .i64 k ∧ w' = CW w f m ∧ s.size - k < fuel ∧ scan fuel s k f = scan (s.size + 1) s 2 (fun _ => false)) (fun a _ => s.size - (intOf a).toNat)
  case atStart => exact ⟨2, _, 0, s.size + 1, by omega, by omega, rfl, rfl, by omega, rfl⟩
  case round =>
    obtain ⟨k, f, m, fuel, hk1, hk2, rfl, rfl, hfuel, hsc⟩ := hrel
    have Hsc := hide hsc
    clear hsc
    obtain ⟨fu, rfl⟩ : ∃ fu, fuel = fu + 1 := ⟨fuel - 1, by omega⟩
    by_cases hgo : k < s.size ∧ byteAt s k ≠ 93
    · obtain ⟨hlt, hne⟩ := hgo
      have ek := byteAt_eq s k hlt
      have bk : (((byteAt s k : Nat) : Int) != 93) = true := by rw [bne_iff_ne]; omega
      have dk : decide ((k : Int) < (s.size : Int)) = true := by simp; omega
      have hml := memberAt_le s k hlt
      by_cases hm0 : memberAt s k = 0
      · have hR : classR s = none := by rw [HC.out, ← Hsc.out, scan, if_pos ⟨hlt, hne⟩, if_pos hm0]; rfl
        have HV := hide (classV_none hR)
        have bm : (((memberAt s k : Nat) : Int) == 0) = true := by rw [beq_iff_eq]; omega
        clear hR HC Hsc hm0
        go_wp2_with (first | (go_at_call 30; refine (member_from s k hlt hz _).mono ?_; rintro e w' ⟨rfl, nd, rfl⟩) | (refine wpList_store_LA 47 257 rfl _ _ rfl (w.heap.size) ?_ (fun _ => false) ?_ size_part (fun _ => false) 47 ?_ ?_; (· rfl); (· rfl); (· with_reducible exact CW_heap0 _ _ _)) | (refine bodyPost_ret (results_part rfl _ _ w.heap.size (fun _ => false) (.int .i64 0) 47 rfl rfl (heap_setRow_same _ (CW_heap0 _ _ _))) rfl ⟨?_, ?_⟩; (· rw [HV.out]); (· exact below_setRow (CW_below _ _ _) (Nat.le_refl _) _)))
      · have hm1 : 1 ≤ memberAt s k := by omega
        have bm : (((memberAt s k : Nat) : Int) == 0) = false := by rw [beq_eq_false_iff_ne]; omega
        have hsc' : scan fu s (k + memberAt s k) (addRange f (byteAt s k) (byteAt s (k + memberAt s k - 1))) = scan (s.size + 1) s 2 (fun _ => false) := by rw [← Hsc.out, scan, if_pos ⟨hlt, hne⟩, if_neg hm0]
        have Hsc' := hide hsc'
        clear hsc' Hsc hm0
        have hi256 := byteAt_lt s (k + memberAt s k - 1)
        have ehi := byteAt_eq s (k + memberAt s k - 1) (by omega)
        have lo256 := byteAt_lt s k
        go_wp2_with (first | (go_at_call 30; refine (member_from s k hlt hz _).mono ?_; rintro e w' ⟨rfl, nd, rfl⟩))
        go_loopw [35] (fun c w' => ∃ j : Nat, j ≤ 256 ∧ c = .int .i64 j ∧ w' = CW w (addTo f (byteAt s k) (byteAt s (k + memberAt s k - 1)) j) (m + nd)) (fun c _ => 256 - (intOf c).toNat)
        case atStart => exact ⟨0, by omega, rfl, by rw [addTo_zero]⟩
        case round =>
          obtain ⟨j, hj, rfl, rfl⟩ := hrel
          by_cases hlj : j < 256
          · by_cases h1 : byteAt s k ≤ j
            · by_cases h2 : j ≤ byteAt s (k + memberAt s k - 1)
              · go_wp2_with fail
                go_roundw
                case rel => exact ⟨j + 1, by omega, by go_num, by rw [addTo_yes _ _ _ _ h1 h2]⟩
                case measure => simp [intOf]; omega
              · go_wp2_with fail
                go_roundw
                case rel => exact ⟨j + 1, by omega, by go_num, by rw [addTo_no _ _ _ _ (fun h => h2 h.2)]⟩
                case measure => simp [intOf]; omega
            · go_wp2_with fail
              go_roundw
              case rel => exact ⟨j + 1, by omega, by go_num, by rw [addTo_no _ _ _ _ (fun h => h1 h.1)]⟩
              case measure => simp [intOf]; omega
          · have ej : j = 256 := by omega
            have Ej := hide ej
            clear ej
            go_wp2_with fail
            go_roundw
            case rel => exact ⟨k + memberAt s k, addRange f (byteAt s k) (byteAt s (k + memberAt s k - 1)), m + nd, fu, by omega, by omega, by go_num, by rw [Ej.out, addTo_all _ _ _ hi256], by omega, Hsc'.out⟩
            case measure => simp [intOf]; omega
    · have hsn : scan (fu + 1) s k f = some (k, f) := by rw [scan, if_neg hgo]
      have hR0 : classR s = classFin true 2 s.size (some (k, f)) := by rw [HC.out, ← Hsc.out, hsn]
      clear HC Hsc hsn
      by_cases hend : k = s.size
      · have hR : classR s = none := by rw [hR0]; simp [classFin, hend]
        have HV := hide (classV_none hR)
        have dk : decide ((k : Int) < (s.size : Int)) = false := by simp; omega
        have be : ((k : Int) == (s.size : Int)) = true := by rw [beq_iff_eq]; omega
        clear hR hR0 hend hgo
        by_cases hb : k = 2
        · have bb : ((k : Int) == 2) = true := by rw [beq_iff_eq]; omega
          clear hb
          go_wp2_with (first | (refine wpList_store_LA 47 257 rfl _ _ rfl (w.heap.size) ?_ (fun _ => false) ?_ size_part (fun _ => false) 47 ?_ ?_; (· rfl); (· rfl); (· with_reducible exact CW_heap0 _ _ _)) | (refine bodyPost_ret (results_part rfl _ _ w.heap.size (fun _ => false) (.int .i64 0) 47 rfl rfl (heap_setRow_same _ (CW_heap0 _ _ _))) rfl ⟨?_, ?_⟩; (· rw [HV.out]); (· exact below_setRow (CW_below _ _ _) (Nat.le_refl _) _)))
        · have bb : ((k : Int) == 2) = false := by rw [beq_eq_false_iff_ne]; omega
          clear hb
          go_wp2_with (first | (refine wpList_store_LA 47 257 rfl _ _ rfl (w.heap.size) ?_ (fun _ => false) ?_ size_part (fun _ => false) 47 ?_ ?_; (· rfl); (· rfl); (· with_reducible exact CW_heap0 _ _ _)) | (refine bodyPost_ret (results_part rfl _ _ w.heap.size (fun _ => false) (.int .i64 0) 47 rfl rfl (heap_setRow_same _ (CW_heap0 _ _ _))) rfl ⟨?_, ?_⟩; (· rw [HV.out]); (· exact below_setRow (CW_below _ _ _) (Nat.le_refl _) _)))
      · have hlt : k < s.size := by omega
        have h93 : byteAt s k = 93 := Decidable.byContradiction fun h => hgo ⟨hlt, h⟩
        have ek := byteAt_eq s k hlt
        have bk : (((byteAt s k : Nat) : Int) != 93) = false := by rw [bne_eq_false_iff_eq]; omega
        have dk : decide ((k : Int) < (s.size : Int)) = true := by simp; omega
        have be : ((k : Int) == (s.size : Int)) = false := by rw [beq_eq_false_iff_ne]; omega
        clear hgo h93
        by_cases hb : k = 2
        · have hR : classR s = none := by rw [hR0]; simp [classFin, hb]
          have HV := hide (classV_none hR)
          have bb : ((k : Int) == 2) = true := by rw [beq_iff_eq]; omega
          clear hR hR0 hb hend
          go_wp2_with (first | (refine wpList_store_LA 47 257 rfl _ _ rfl (w.heap.size) ?_ (fun _ => false) ?_ size_part (fun _ => false) 47 ?_ ?_; (· rfl); (· rfl); (· with_reducible exact CW_heap0 _ _ _)) | (refine bodyPost_ret (results_part rfl _ _ w.heap.size (fun _ => false) (.int .i64 0) 47 rfl rfl (heap_setRow_same _ (CW_heap0 _ _ _))) rfl ⟨?_, ?_⟩; (· rw [HV.out]); (· exact below_setRow (CW_below _ _ _) (Nat.le_refl _) _)))
        · have hR : classR s = some (upd (fun i => !f i) 47 false, k + 1) := by rw [hR0]; simp [classFin, hb, hend]
          have HV := hide (classV_some hR)
          have bb : ((k : Int) == 2) = false := by rw [beq_eq_false_iff_ne]; omega
          clear hR hR0 hb hend
          go_wp2_with (first | (refine wpList_build_one rfl 47 _ _ rfl (.agg (LA 256 (upd (fun i => !f i) 47 false))) ?_ _ (built_part1 _) ?_; (· rfl)) | (refine wpList_load_LA 45 256 256 4 rfl _ rfl (w.heap.size + 1) ?_ Try.underlying45 size_like f 45 ?_ ?_; (· rfl); (· with_reducible exact CW_heap1 _ _ _)) | (go_at_call 23; refine (others_any f _).mono ?_; rintro e W1 ⟨rfl, hW1⟩) | (refine wpList_store_LA 45 256 rfl _ _ rfl (w.heap.size + 1) ?_ (fun i => !f i) ?_ size_like f 45 ?_ ?_; (· rfl); (· rfl); (· rw [hW1.block _ (CW_size w f m)]; exact CW_heap1 _ _ _); refine wpList_forget (CV w (fun i => !f i)) (CV_of hW1) ?_; rintro V ⟨hV1, hV2, hV3⟩; have hVc := fun i => cell_of_row V (w.heap.size + 1) i _ _ _ hV3; have hVf := fun i => frozen_of_row V (w.heap.size + 1) i _ _ hV3) | (refine wpList_load_LA 45 256 256 4 rfl _ rfl (w.heap.size + 1) ?_ Try.underlying45 size_like (upd (fun i => !f i) 47 false) 45 ?_ ?_; (· rfl); (· rw [heap_setCell_same V _ 47 _ _ _ hV3, LA_set])) | (refine wpList_store_LA 47 257 rfl _ _ rfl (w.heap.size) ?_ (PF (upd (fun i => !f i) 47 false) false) ?_ size_part (fun _ => false) 47 ?_ ?_; (· rfl); (· rfl); (· rw [heap_setCell_other _ _ _ _ (by simp)]; exact hV2)) | (refine bodyPost_ret (results_part rfl _ _ w.heap.size (PF (upd (fun i => !f i) 47 false) false) (.int .i64 ((k : Int) + 1)) 47 rfl rfl (heap_setRow_same _ (by rw [heap_setCell_other _ _ _ _ (by simp)]; exact hV2))) rfl ⟨?_, ?_⟩; (· rw [HV.out]; rfl); (· exact below_setRow (hV1.setCell (by simp) _) (Nat.le_refl _) _)))
end Go.Proofs.Ytaipgmnifnclbaa
