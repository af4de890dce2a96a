/- The walk of glob.class. -/
import Derived.Test.YtklibmijiecbfaaGreatK2
import Derived.Laws.ResultCell
import Derived.Lib.ParseIntB
import Derived.Lib.Split
import Derived.Lib.TrimByte
namespace Go.Proofs.YtklibmijiecbfaaGreat.Gl
open Go.RowKit
attribute [local go_sem] LA_set LA_get LA_size LA_at

theorem results_part {fn : Func} {p u : Tmp} (h : fn.results = #[.cell p 224, .tmp u]) (tmps : Array Value) (w : World) (g : Nat) (f : Nat → Bool) (v : Value) (t' : TypeId)
  (hp : tmps.getD p undef = .pointer (some ⟨g, 0, none⟩)) (hv : tmps.getD u undef = v) (hg : w.heap[g]? = some (.cells (LA 257 f) t' (0, 0))) :
  (results fn tmps).run Tryz.prog w = .ok (.tuple #[.agg (LA 257 f), v]) w := by
 rw [results_cell_tmp h, hp, hv]
 have hl := run_loadVar_row (P := Tryz.prog) w g t' 224 (LA 257 f) (0, 0) _ hg Tryz.underlying224 rfl (by rw [LA_size]; exact size_part)
 simp [asAddr, hl]

theorem prefix_bang (s : ByteArray) (hs : 1 ≤ s.size) (w : World) :
  Calls Tryz.prog 131 #[.string (s.extract 1 s.size), .string ⟨#[33]⟩] w fun e w' => e = .returned (.bool (notB s)) ∧ w' = w :=
 (strings_HasPrefix (s.extract 1 s.size) ⟨#[33]⟩ w).mono fun e w' ⟨he, hw⟩ => ⟨by rw [he]; exact ret_bool (hasPrefix_not s hs), hw⟩

theorem member_from (s : ByteArray) (a : Nat) (ha : a < s.size) (hz : s.size ≤ 1000) (w : World) :
  Calls Tryz.prog 138 #[.string (s.extract a s.size)] w fun e w' => e = .returned (.int .i64 (memberAt s a)) ∧ ∃ n, w' = w.drewN n :=
 (member_any (s.extract a s.size) (by rw [size_extract]; omega) (by rw [size_extract]; omega) w).mono fun e w' ⟨he, hw⟩ => ⟨by
  rw [he, byteAt_extract s a 0 (by omega), byteAt_extract s a 1 (by omega), byteAt_extract s a 2 (by omega), size_extract]; rfl, hw⟩

theorem wpList_forget {P : Program} {ops : Array Oper} {r : List Oper} {Q : Exit → Act → World → Prop} {a : Act} {W0 : World} (F : World → Prop) (h : F W0) (H : ∀ W, F W → wpList P ops Q r a W) : wpList P ops Q r a W0 := H _ h

def CV (w : World) (g : Nat → Bool) (V : World) : Prop := Below w.heap.size w V ∧ V.heap[w.heap.size]? = some (.cells (LA 257 fun _ => false) 224 (0, 0)) ∧ V.heap[w.heap.size + 1]? = some (.cells (LA 256 g) 222 (0, 0))

def classV (s : ByteArray) : Value := match classR s with
 | none => .tuple #[.agg (LA 257 fun _ => false), .int .i64 0]
 | some (f, n) => .tuple #[.agg (LA 257 (PF f false)), .int .i64 n]
theorem classV_none {s : ByteArray} (h : classR s = none) : classV s = .tuple #[.agg (LA 257 fun _ => false), .int .i64 0] := by unfold classV; rw [h]
theorem classV_some {s : ByteArray} {f : Nat → Bool} {n : Nat} (h : classR s = some (f, n)) : classV s = .tuple #[.agg (LA 257 (PF f false)), .int .i64 n] := by unfold classV; rw [h]

def CW (w : World) (f : Nat → Bool) (m : Nat) : World := ((w.alloc (.cells (LA 257 fun _ => false) 224)).alloc (.cells (LA 256 f) 222)).drewN m
theorem CW_heap0 (w : World) (f : Nat → Bool) (m : Nat) : (CW w f m).heap[w.heap.size]? = some (.cells (LA 257 fun _ => false) 224 (0, 0)) := heap_alloc2_old _ _ _
theorem CW_heap1 (w : World) (f : Nat → Bool) (m : Nat) : (CW w f m).heap[w.heap.size + 1]? = some (.cells (LA 256 f) 222 (0, 0)) := heap_alloc2_new _ _ _
theorem CW_row (w : World) (f g : Nat → Bool) (m : Nat) : (CW w f m).setRow (w.heap.size + 1) (LA 256 g) = CW w g m := by
 have h := World.setRow_alloc_new (w.alloc (.cells (LA 257 fun _ => false) 224)) (LA 256 f) (LA 256 g) 222
 have e : (w.alloc (.cells (LA 257 fun _ => false) 224)).heap.size = w.heap.size + 1 := by simp
 rw [e] at h
 have e2 : (CW w f m).setRow (w.heap.size + 1) (LA 256 g) = (((w.alloc (.cells (LA 257 fun _ => false) 224)).alloc (.cells (LA 256 f) 222)).setRow (w.heap.size + 1) (LA 256 g)).drewN m := rfl
 rw [e2, h]
 rfl
theorem CW_cell (w : World) (f : Nat → Bool) (m i : Nat) (h : i < 256) : (CW w f m).cell? ⟨w.heap.size + 1, i, none⟩ = some (.bool (f i)) := by
 rw [cell_of_row _ _ i _ _ _ (CW_heap1 w f m), LA_get 256 f i h]
theorem CW_frozen (w : World) (f : Nat → Bool) (m i : Nat) : (CW w f m).frozen? ⟨w.heap.size + 1, i, none⟩ = false := frozen_of_row _ _ i _ _ (CW_heap1 w f m)
theorem CW_set (w : World) (f : Nat → Bool) (m i : Nat) (b : Bool) : (CW w f m).setCell ⟨w.heap.size + 1, i, none⟩ (.bool b) = CW w (upd f i b) m := by
 rw [setCell_eq_setRow _ _ i _ _ _ _ (CW_heap1 w f m), LA_set]
 exact CW_row w f (upd f i b) m
theorem CW_drewN (w : World) (f : Nat → Bool) (m n : Nat) : (CW w f m).drewN n = CW w f (m + n) := by unfold CW; rw [World.drewN_drewN]
theorem CW_start (w : World) : CW w (fun _ => false) 0 = (w.alloc (.cells (LA 257 fun _ => false) 224)).alloc (.cells (LA 256 fun _ => false) 222) := World.drewN_zero _
theorem CW_size (w : World) (f : Nat → Bool) (m : Nat) : w.heap.size + 1 < (CW w f m).heap.size := by show _ < (World.alloc _ _).heap.size; simp
theorem CW_below (w : World) (f : Nat → Bool) (m : Nat) : Below w.heap.size w (CW w f m) := below_drewN' (((Below.refl _ _).alloc (Nat.le_refl _) _).alloc (by simp) _) m
theorem CV_of {w W1 : World} {f : Nat → Bool} {m : Nat} (h : Below (CW w f m).heap.size (CW w f m) W1) : CV w (fun i => !f i) (W1.setRow (w.heap.size + 1) (LA 256 fun i => !f i)) := by
 have hz := CW_size w f m
 refine ⟨below_setRow ((CW_below w f m).trans (h.mono (by omega))) (by omega) _, ?_, ?_⟩
 ·
  rw [setRow_other _ _ _ _ (by omega), h.block _ (by omega)]; exact CW_heap0 w f m
 ·
  exact heap_setRow_same _ ((h.block _ hz).trans (CW_heap1 w f m))
attribute [local go_sem] CW_cell CW_frozen CW_set CW_drewN

set_option maxRecDepth 10000 in
set_option maxHeartbeats 1000000 in
theorem class_no (s : ByteArray) (hs : 1 ≤ s.size) (hz : s.size ≤ 1000) (hn : notB s = false) (w : World) :
  Calls Tryz.prog 134 #[.string s] w fun e w' => e = .returned (classV s) ∧ Below w.heap.size w w' := by
 have hB : classBegin s = 1 := by unfold classBegin; rw [hn]; rfl
 have hC : classR s = classFin false 1 s.size (scan (s.size + 1) s 1 fun _ => false) := by unfold classR; rw [hn, hB]
 have HC := hide hC
 clear hC hB
 have zl := zv_like
 have zp := zv_part
 have bp0 := build_part0
 have hBs : 1 ≤ s.size := by omega
 go_enter Tryz.func134, Tryz.ntmps134
 go_wp2_with (go_at_call 131; refine (prefix_bang s hs _).mono ?_; rintro e w' ⟨rfl, rfl⟩)
 rw [← CW_start]
 go_loopw [4] (fun a w' => ∃ (k : Nat) (f : Nat → Bool) (m fuel : Nat), 1 ≤ k ∧ k ≤ s.size ∧ a = .int .i64 k ∧ w' = CW w f m ∧ s.size - k < fuel ∧ scan fuel s k f = scan (s.size + 1) s 1 (fun _ => false)) (fun a _ => s.size - (intOf a).toNat)
 case atStart => exact ⟨1, _, 0, s.size + 1, by omega, by omega, rfl, rfl, by omega, rfl⟩
 case round =>
  obtain ⟨k, f, m, fuel, hk1, hk2, rfl, rfl, hfuel, hsc⟩ := hrel
  have Hsc := hide hsc
  clear hsc
  obtain ⟨fu, rfl⟩ : ∃ fu, fuel = fu + 1 := ⟨fuel - 1, by omega⟩
  by_cases hgo : k < s.size ∧ byteAt s k ≠ 93
  ·
   obtain ⟨hlt, hne⟩ := hgo
   have ek := byteAt_eq s k hlt
   have bk : (((byteAt s k : Nat) : Int) != 93) = true := by rw [bne_iff_ne]; omega
   have dk : decide ((k : Int) < (s.size : Int)) = true := by simp; omega
   have hml := memberAt_le s k hlt
   by_cases hm0 : memberAt s k = 0
   ·
    have hR : classR s = none := by rw [HC.out, ← Hsc.out, scan, if_pos ⟨hlt, hne⟩, if_pos hm0]; rfl
    have HV := hide (classV_none hR)
    have bm : (((memberAt s k : Nat) : Int) == 0) = true := by rw [beq_iff_eq]; omega
    clear hR HC Hsc hm0
    go_wp2_with (first | (go_at_call 138; refine (member_from s k hlt hz _).mono ?_; rintro e w' ⟨rfl, nd, rfl⟩) | (refine wpList_store_LA 224 257 rfl _ _ rfl (w.heap.size) ?_ (fun _ => false) ?_ size_part (fun _ => false) 224 ?_ ?_; (· rfl); (· rfl); (· with_reducible exact CW_heap0 _ _ _)) | (refine bodyPost_ret (results_part rfl _ _ w.heap.size (fun _ => false) (.int .i64 0) 224 rfl rfl (heap_setRow_same _ (CW_heap0 _ _ _))) rfl ⟨?_, ?_⟩; (· rw [HV.out]); (· exact below_setRow (CW_below _ _ _) (Nat.le_refl _) _)))
   ·
    have hm1 : 1 ≤ memberAt s k := by omega
    have bm : (((memberAt s k : Nat) : Int) == 0) = false := by rw [beq_eq_false_iff_ne]; omega
    have hsc' : scan fu s (k + memberAt s k) (addRange f (byteAt s k) (byteAt s (k + memberAt s k - 1))) = scan (s.size + 1) s 1 (fun _ => false) := by rw [← Hsc.out, scan, if_pos ⟨hlt, hne⟩, if_neg hm0]
    have Hsc' := hide hsc'
    clear hsc' Hsc hm0
    have hi256 := byteAt_lt s (k + memberAt s k - 1)
    have ehi := byteAt_eq s (k + memberAt s k - 1) (by omega)
    have lo256 := byteAt_lt s k
    go_wp2_with (first | (go_at_call 138; refine (member_from s k hlt hz _).mono ?_; rintro e w' ⟨rfl, nd, rfl⟩))
    go_loopw [35] (fun c w' => ∃ j : Nat, j ≤ 256 ∧ c = .int .i64 j ∧ w' = CW w (addTo f (byteAt s k) (byteAt s (k + memberAt s k - 1)) j) (m + nd)) (fun c _ => 256 - (intOf c).toNat)
    case atStart => exact ⟨0, by omega, rfl, by rw [addTo_zero]⟩
    case round =>
     obtain ⟨j, hj, rfl, rfl⟩ := hrel
     by_cases hlj : j < 256
     ·
      by_cases h1 : byteAt s k ≤ j
      ·
       by_cases h2 : j ≤ byteAt s (k + memberAt s k - 1)
       ·
        go_wp2_with fail
        go_roundw
        case rel => exact ⟨j + 1, by omega, by go_num, by rw [addTo_yes _ _ _ _ h1 h2]⟩
        case measure => simp [intOf]; omega
       ·
        go_wp2_with fail
        go_roundw
        case rel => exact ⟨j + 1, by omega, by go_num, by rw [addTo_no _ _ _ _ (fun h => h2 h.2)]⟩
        case measure => simp [intOf]; omega
      ·
       go_wp2_with fail
       go_roundw
       case rel => exact ⟨j + 1, by omega, by go_num, by rw [addTo_no _ _ _ _ (fun h => h1 h.1)]⟩
       case measure => simp [intOf]; omega
     ·
      have ej : j = 256 := by omega
      have Ej := hide ej
      clear ej
      go_wp2_with fail
      go_roundw
      case rel => exact ⟨k + memberAt s k, addRange f (byteAt s k) (byteAt s (k + memberAt s k - 1)), m + nd, fu, by omega, by omega, by go_num, by rw [Ej.out, addTo_all _ _ _ hi256], by omega, Hsc'.out⟩
      case measure => simp [intOf]; omega
  ·
   have hsn : scan (fu + 1) s k f = some (k, f) := by rw [scan, if_neg hgo]
   have hR0 : classR s = classFin false 1 s.size (some (k, f)) := by rw [HC.out, ← Hsc.out, hsn]
   clear HC Hsc hsn
   by_cases hend : k = s.size
   ·
    have hR : classR s = none := by rw [hR0]; simp [classFin, hend]
    have HV := hide (classV_none hR)
    have dk : decide ((k : Int) < (s.size : Int)) = false := by simp; omega
    have be : ((k : Int) == (s.size : Int)) = true := by rw [beq_iff_eq]; omega
    clear hR hR0 hend hgo
    by_cases hb : k = 1
    ·
     have bb : ((k : Int) == 1) = true := by rw [beq_iff_eq]; omega
     clear hb
     go_wp2_with (first | (refine wpList_store_LA 224 257 rfl _ _ rfl (w.heap.size) ?_ (fun _ => false) ?_ size_part (fun _ => false) 224 ?_ ?_; (· rfl); (· rfl); (· with_reducible exact CW_heap0 _ _ _)) | (refine bodyPost_ret (results_part rfl _ _ w.heap.size (fun _ => false) (.int .i64 0) 224 rfl rfl (heap_setRow_same _ (CW_heap0 _ _ _))) rfl ⟨?_, ?_⟩; (· rw [HV.out]); (· exact below_setRow (CW_below _ _ _) (Nat.le_refl _) _)))
    ·
     have bb : ((k : Int) == 1) = false := by rw [beq_eq_false_iff_ne]; omega
     clear hb
     go_wp2_with (first | (refine wpList_store_LA 224 257 rfl _ _ rfl (w.heap.size) ?_ (fun _ => false) ?_ size_part (fun _ => false) 224 ?_ ?_; (· rfl); (· rfl); (· with_reducible exact CW_heap0 _ _ _)) | (refine bodyPost_ret (results_part rfl _ _ w.heap.size (fun _ => false) (.int .i64 0) 224 rfl rfl (heap_setRow_same _ (CW_heap0 _ _ _))) rfl ⟨?_, ?_⟩; (· rw [HV.out]); (· exact below_setRow (CW_below _ _ _) (Nat.le_refl _) _)))
   ·
    have hlt : k < s.size := by omega
    have h93 : byteAt s k = 93 := Decidable.byContradiction fun h => hgo ⟨hlt, h⟩
    have ek := byteAt_eq s k hlt
    have bk : (((byteAt s k : Nat) : Int) != 93) = false := by rw [bne_eq_false_iff_eq]; omega
    have dk : decide ((k : Int) < (s.size : Int)) = true := by simp; omega
    have be : ((k : Int) == (s.size : Int)) = false := by rw [beq_eq_false_iff_ne]; omega
    clear hgo h93
    by_cases hb : k = 1
    ·
     have hR : classR s = none := by rw [hR0]; simp [classFin, hb]
     have HV := hide (classV_none hR)
     have bb : ((k : Int) == 1) = true := by rw [beq_iff_eq]; omega
     clear hR hR0 hb hend
     go_wp2_with (first | (refine wpList_store_LA 224 257 rfl _ _ rfl (w.heap.size) ?_ (fun _ => false) ?_ size_part (fun _ => false) 224 ?_ ?_; (· rfl); (· rfl); (· with_reducible exact CW_heap0 _ _ _)) | (refine bodyPost_ret (results_part rfl _ _ w.heap.size (fun _ => false) (.int .i64 0) 224 rfl rfl (heap_setRow_same _ (CW_heap0 _ _ _))) rfl ⟨?_, ?_⟩; (· rw [HV.out]); (· exact below_setRow (CW_below _ _ _) (Nat.le_refl _) _)))
    ·
     have hR : classR s = some (upd f 47 false, k + 1) := by rw [hR0]; simp [classFin, hb, hend]
     have HV := hide (classV_some hR)
     have bb : ((k : Int) == 1) = false := by rw [beq_eq_false_iff_ne]; omega
     clear hR hR0 hb hend
     go_wp2_with (first | (refine wpList_build_one rfl 224 _ _ rfl (.agg (LA 256 (upd f 47 false))) ?_ _ (built_part1 _) ?_; (· rfl)) | (refine wpList_load_LA 222 256 256 4 rfl _ rfl (w.heap.size + 1) ?_ Tryz.underlying222 size_like (upd f 47 false) 222 ?_ ?_; (· rfl); (· with_reducible exact CW_heap1 _ _ _)) | (refine wpList_store_LA 224 257 rfl _ _ rfl (w.heap.size) ?_ (PF (upd f 47 false) false) ?_ size_part (fun _ => false) 224 ?_ ?_; (· rfl); (· rfl); (· with_reducible exact CW_heap0 _ _ _)) | (refine bodyPost_ret (results_part rfl _ _ w.heap.size (PF (upd f 47 false) false) (.int .i64 ((k : Int) + 1)) 224 rfl rfl (heap_setRow_same _ (CW_heap0 _ _ _))) rfl ⟨?_, ?_⟩; (· rw [HV.out]; rfl); (· exact below_setRow (CW_below _ _ _) (Nat.le_refl _) _)))

set_option maxRecDepth 10000 in
set_option maxHeartbeats 1000000 in
theorem class_yes (s : ByteArray) (hs : 1 ≤ s.size) (hz : s.size ≤ 1000) (hn : notB s = true) (w : World) :
  Calls Tryz.prog 134 #[.string s] w fun e w' => e = .returned (classV s) ∧ Below w.heap.size w w' := by
 have hB : classBegin s = 2 := by unfold classBegin; rw [hn]; rfl
 have hC : classR s = classFin true 2 s.size (scan (s.size + 1) s 2 fun _ => false) := by unfold classR; rw [hn, hB]
 have HC := hide hC
 clear hC hB
 have zl := zv_like
 have zp := zv_part
 have bp0 := build_part0
 have hBs : 2 ≤ s.size := by simp [notB] at hn; omega
 go_enter Tryz.func134, Tryz.ntmps134
 go_wp2_with (go_at_call 131; refine (prefix_bang s hs _).mono ?_; rintro e w' ⟨rfl, rfl⟩)
 rw [← CW_start]
 go_loopw [4] (fun a w' => ∃ (k : Nat) (f : Nat → Bool) (m fuel : Nat), 2 ≤ k ∧ k ≤ s.size ∧ a = .int .i64 k ∧ w' = CW w f m ∧ s.size - k < fuel ∧ scan fuel s k f = scan (s.size + 1) s 2 (fun _ => false)) (fun a _ => s.size - (intOf a).toNat)
 case atStart => exact ⟨2, _, 0, s.size + 1, by omega, by omega, rfl, rfl, by omega, rfl⟩
 case round =>
  obtain ⟨k, f, m, fuel, hk1, hk2, rfl, rfl, hfuel, hsc⟩ := hrel
  have Hsc := hide hsc
  clear hsc
  obtain ⟨fu, rfl⟩ : ∃ fu, fuel = fu + 1 := ⟨fuel - 1, by omega⟩
  by_cases hgo : k < s.size ∧ byteAt s k ≠ 93
  ·
   obtain ⟨hlt, hne⟩ := hgo
   have ek := byteAt_eq s k hlt
   have bk : (((byteAt s k : Nat) : Int) != 93) = true := by rw [bne_iff_ne]; omega
   have dk : decide ((k : Int) < (s.size : Int)) = true := by simp; omega
   have hml := memberAt_le s k hlt
   by_cases hm0 : memberAt s k = 0
   ·
    have hR : classR s = none := by rw [HC.out, ← Hsc.out, scan, if_pos ⟨hlt, hne⟩, if_pos hm0]; rfl
    have HV := hide (classV_none hR)
    have bm : (((memberAt s k : Nat) : Int) == 0) = true := by rw [beq_iff_eq]; omega
    clear hR HC Hsc hm0
    go_wp2_with (first | (go_at_call 138; refine (member_from s k hlt hz _).mono ?_; rintro e w' ⟨rfl, nd, rfl⟩) | (refine wpList_store_LA 224 257 rfl _ _ rfl (w.heap.size) ?_ (fun _ => false) ?_ size_part (fun _ => false) 224 ?_ ?_; (· rfl); (· rfl); (· with_reducible exact CW_heap0 _ _ _)) | (refine bodyPost_ret (results_part rfl _ _ w.heap.size (fun _ => false) (.int .i64 0) 224 rfl rfl (heap_setRow_same _ (CW_heap0 _ _ _))) rfl ⟨?_, ?_⟩; (· rw [HV.out]); (· exact below_setRow (CW_below _ _ _) (Nat.le_refl _) _)))
   ·
    have hm1 : 1 ≤ memberAt s k := by omega
    have bm : (((memberAt s k : Nat) : Int) == 0) = false := by rw [beq_eq_false_iff_ne]; omega
    have hsc' : scan fu s (k + memberAt s k) (addRange f (byteAt s k) (byteAt s (k + memberAt s k - 1))) = scan (s.size + 1) s 2 (fun _ => false) := by rw [← Hsc.out, scan, if_pos ⟨hlt, hne⟩, if_neg hm0]
    have Hsc' := hide hsc'
    clear hsc' Hsc hm0
    have hi256 := byteAt_lt s (k + memberAt s k - 1)
    have ehi := byteAt_eq s (k + memberAt s k - 1) (by omega)
    have lo256 := byteAt_lt s k
    go_wp2_with (first | (go_at_call 138; refine (member_from s k hlt hz _).mono ?_; rintro e w' ⟨rfl, nd, rfl⟩))
    go_loopw [35] (fun c w' => ∃ j : Nat, j ≤ 256 ∧ c = .int .i64 j ∧ w' = CW w (addTo f (byteAt s k) (byteAt s (k + memberAt s k - 1)) j) (m + nd)) (fun c _ => 256 - (intOf c).toNat)
    case atStart => exact ⟨0, by omega, rfl, by rw [addTo_zero]⟩
    case round =>
     obtain ⟨j, hj, rfl, rfl⟩ := hrel
     by_cases hlj : j < 256
     ·
      by_cases h1 : byteAt s k ≤ j
      ·
       by_cases h2 : j ≤ byteAt s (k + memberAt s k - 1)
       ·
        go_wp2_with fail
        go_roundw
        case rel => exact ⟨j + 1, by omega, by go_num, by rw [addTo_yes _ _ _ _ h1 h2]⟩
        case measure => simp [intOf]; omega
       ·
        go_wp2_with fail
        go_roundw
        case rel => exact ⟨j + 1, by omega, by go_num, by rw [addTo_no _ _ _ _ (fun h => h2 h.2)]⟩
        case measure => simp [intOf]; omega
      ·
       go_wp2_with fail
       go_roundw
       case rel => exact ⟨j + 1, by omega, by go_num, by rw [addTo_no _ _ _ _ (fun h => h1 h.1)]⟩
       case measure => simp [intOf]; omega
     ·
      have ej : j = 256 := by omega
      have Ej := hide ej
      clear ej
      go_wp2_with fail
      go_roundw
      case rel => exact ⟨k + memberAt s k, addRange f (byteAt s k) (byteAt s (k + memberAt s k - 1)), m + nd, fu, by omega, by omega, by go_num, by rw [Ej.out, addTo_all _ _ _ hi256], by omega, Hsc'.out⟩
      case measure => simp [intOf]; omega
  ·
   have hsn : scan (fu + 1) s k f = some (k, f) := by rw [scan, if_neg hgo]
   have hR0 : classR s = classFin true 2 s.size (some (k, f)) := by rw [HC.out, ← Hsc.out, hsn]
   clear HC Hsc hsn
   by_cases hend : k = s.size
   ·
    have hR : classR s = none := by rw [hR0]; simp [classFin, hend]
    have HV := hide (classV_none hR)
    have dk : decide ((k : Int) < (s.size : Int)) = false := by simp; omega
    have be : ((k : Int) == (s.size : Int)) = true := by rw [beq_iff_eq]; omega
    clear hR hR0 hend hgo
    by_cases hb : k = 2
    ·
     have bb : ((k : Int) == 2) = true := by rw [beq_iff_eq]; omega
     clear hb
     go_wp2_with (first | (refine wpList_store_LA 224 257 rfl _ _ rfl (w.heap.size) ?_ (fun _ => false) ?_ size_part (fun _ => false) 224 ?_ ?_; (· rfl); (· rfl); (· with_reducible exact CW_heap0 _ _ _)) | (refine bodyPost_ret (results_part rfl _ _ w.heap.size (fun _ => false) (.int .i64 0) 224 rfl rfl (heap_setRow_same _ (CW_heap0 _ _ _))) rfl ⟨?_, ?_⟩; (· rw [HV.out]); (· exact below_setRow (CW_below _ _ _) (Nat.le_refl _) _)))
    ·
     have bb : ((k : Int) == 2) = false := by rw [beq_eq_false_iff_ne]; omega
     clear hb
     go_wp2_with (first | (refine wpList_store_LA 224 257 rfl _ _ rfl (w.heap.size) ?_ (fun _ => false) ?_ size_part (fun _ => false) 224 ?_ ?_; (· rfl); (· rfl); (· with_reducible exact CW_heap0 _ _ _)) | (refine bodyPost_ret (results_part rfl _ _ w.heap.size (fun _ => false) (.int .i64 0) 224 rfl rfl (heap_setRow_same _ (CW_heap0 _ _ _))) rfl ⟨?_, ?_⟩; (· rw [HV.out]); (· exact below_setRow (CW_below _ _ _) (Nat.le_refl _) _)))
   ·
    have hlt : k < s.size := by omega
    have h93 : byteAt s k = 93 := Decidable.byContradiction fun h => hgo ⟨hlt, h⟩
    have ek := byteAt_eq s k hlt
    have bk : (((byteAt s k : Nat) : Int) != 93) = false := by rw [bne_eq_false_iff_eq]; omega
    have dk : decide ((k : Int) < (s.size : Int)) = true := by simp; omega
    have be : ((k : Int) == (s.size : Int)) = false := by rw [beq_eq_false_iff_ne]; omega
    clear hgo h93
    by_cases hb : k = 2
    ·
     have hR : classR s = none := by rw [hR0]; simp [classFin, hb]
     have HV := hide (classV_none hR)
     have bb : ((k : Int) == 2) = true := by rw [beq_iff_eq]; omega
     clear hR hR0 hb hend
     go_wp2_with (first | (refine wpList_store_LA 224 257 rfl _ _ rfl (w.heap.size) ?_ (fun _ => false) ?_ size_part (fun _ => false) 224 ?_ ?_; (· rfl); (· rfl); (· with_reducible exact CW_heap0 _ _ _)) | (refine bodyPost_ret (results_part rfl _ _ w.heap.size (fun _ => false) (.int .i64 0) 224 rfl rfl (heap_setRow_same _ (CW_heap0 _ _ _))) rfl ⟨?_, ?_⟩; (· rw [HV.out]); (· exact below_setRow (CW_below _ _ _) (Nat.le_refl _) _)))
    ·
     have hR : classR s = some (upd (fun i => !f i) 47 false, k + 1) := by rw [hR0]; simp [classFin, hb, hend]
     have HV := hide (classV_some hR)
     have bb : ((k : Int) == 2) = false := by rw [beq_eq_false_iff_ne]; omega
     clear hR hR0 hb hend
     go_wp2_with (first | (refine wpList_build_one rfl 224 _ _ rfl (.agg (LA 256 (upd (fun i => !f i) 47 false))) ?_ _ (built_part1 _) ?_; (· rfl)) | (refine wpList_load_LA 222 256 256 4 rfl _ rfl (w.heap.size + 1) ?_ Tryz.underlying222 size_like f 222 ?_ ?_; (· rfl); (· with_reducible exact CW_heap1 _ _ _)) | (go_at_call 132; refine (others_any f _).mono ?_; rintro e W1 ⟨rfl, hW1⟩) | (refine wpList_store_LA 222 256 rfl _ _ rfl (w.heap.size + 1) ?_ (fun i => !f i) ?_ size_like f 222 ?_ ?_; (· rfl); (· rfl); (· rw [hW1.block _ (CW_size w f m)]; exact CW_heap1 _ _ _); refine wpList_forget (CV w (fun i => !f i)) (CV_of hW1) ?_; rintro V ⟨hV1, hV2, hV3⟩; have hVc := fun i => cell_of_row V (w.heap.size + 1) i _ _ _ hV3; have hVf := fun i => frozen_of_row V (w.heap.size + 1) i _ _ hV3) | (refine wpList_load_LA 222 256 256 4 rfl _ rfl (w.heap.size + 1) ?_ Tryz.underlying222 size_like (upd (fun i => !f i) 47 false) 222 ?_ ?_; (· rfl); (· rw [heap_setCell_same V _ 47 _ _ _ hV3, LA_set])) | (refine wpList_store_LA 224 257 rfl _ _ rfl (w.heap.size) ?_ (PF (upd (fun i => !f i) 47 false) false) ?_ size_part (fun _ => false) 224 ?_ ?_; (· rfl); (· rfl); (· rw [heap_setCell_other _ _ _ _ (by simp)]; exact hV2)) | (refine bodyPost_ret (results_part rfl _ _ w.heap.size (PF (upd (fun i => !f i) 47 false) false) (.int .i64 ((k : Int) + 1)) 224 rfl rfl (heap_setRow_same _ (by rw [heap_setCell_other _ _ _ _ (by simp)]; exact hV2))) rfl ⟨?_, ?_⟩; (· rw [HV.out]; rfl); (· exact below_setRow (hV1.setCell (by simp) _) (Nat.le_refl _) _)))
end Go.Proofs.YtklibmijiecbfaaGreat.Gl

/- The walks of glob.escaped and glob.first. -/
namespace Go.Proofs.YtklibmijiecbfaaGreat.Gl
open Go.RowKit
attribute [local go_sem] LA_set LA_get LA_size LA_at

theorem class_any (s : ByteArray) (hs : 1 ≤ s.size) (hz : s.size ≤ 1000) (w : World) :
  Calls Tryz.prog 134 #[.string s] w fun e w' => e = .returned (classV s) ∧ Below w.heap.size w w' := by
 cases hn : notB s
 ·
  exact class_no s hs hz hn w
 ·
  exact class_yes s hs hz hn w

def partV : Option ((Nat → Bool) × Bool × Nat) → Value
 | none => .tuple #[.agg (LA 257 fun _ => false), .int .i64 0]
 | some (f, m, n) => .tuple #[.agg (LA 257 (PF f m)), .int .i64 n]

def onlyF (b : Nat) : Nat → Bool := upd (fun _ => false) b true
def escR (s : ByteArray) : Option ((Nat → Bool) × Bool × Nat) := if 2 ≤ s.size ∧ signB (byteAt s 1) = true then some (onlyF (byteAt s 1), false, 2) else none

theorem signs_at (b : Nat) (hb : b < 256) (w : World) : Calls Tryz.prog 139 #[.string ⟨#[42, 63, 91, 93, 92]⟩, .int .u8 b] w fun e w' => (∃ n : Int, e = .returned (.int .i64 n) ∧ decide (n < 0) = !signB b) ∧ w' = w :=
 (strings_IndexByte _ _ w).mono fun _ _ ⟨he, hw⟩ => ⟨⟨_, he, signs_index b hb⟩, hw⟩

def PW (w : World) : World := w.alloc (.cells (LA 257 fun _ => false) 224)
theorem PW_heap (w : World) : (PW w).heap[w.heap.size]? = some (.cells (LA 257 fun _ => false) 224 (0, 0)) := heap_alloc_new _ _
theorem PW_below (w : World) : Below w.heap.size w (PW w) := (Below.refl _ _).alloc (Nat.le_refl _) _
theorem PW_size (w : World) : w.heap.size < (PW w).heap.size := by show _ < (World.alloc _ _).heap.size; simp
theorem PW_later {w W : World} (h : Below (PW w).heap.size (PW w) W) : W.heap[w.heap.size]? = some (.cells (LA 257 fun _ => false) 224 (0, 0)) := (h.block _ (PW_size w)).trans (PW_heap w)
theorem PW_belowLater {w W : World} (h : Below (PW w).heap.size (PW w) W) : Below w.heap.size w W := (PW_below w).trans (h.mono (by have := PW_size w; omega))

set_option maxRecDepth 10000 in
theorem escaped_any (s : ByteArray) (hs : 1 ≤ s.size) (hz : s.size ≤ 1000) (w : World) :
  Calls Tryz.prog 135 #[.string s] w fun e w' => e = .returned (partV (escR s)) ∧ Below w.heap.size w w' := by
 have zp := zv_part
 by_cases h2 : s.size < 2
 ·
  have hR : escR s = none := by unfold escR; rw [if_neg (by omega)]
  have HR := hide hR
  have d2 : decide ((s.size : Int) < 2) = true := by simp; omega
  have bp0 := build_part0
  clear hR
  go_enter Tryz.func135, Tryz.ntmps135
  go_wp2_with (first
   | (refine wpList_store_LA 224 257 rfl _ _ rfl w.heap.size ?_ (fun _ => false) ?_ size_part (fun _ => false) 224 ?_ ?_; (· rfl); (· rfl); (· with_reducible exact heap_alloc_new _ _))
   | (refine bodyPost_ret (results_part rfl _ _ w.heap.size (fun _ => false) (.int .i64 0) 224 rfl rfl (heap_setRow_same _ (heap_alloc_new _ _))) rfl ⟨?_, ?_⟩; (· rw [HR.out]; rfl); (· exact below_setRow (PW_below w) (Nat.le_refl _) _)))
 ·
  have d2 : decide ((s.size : Int) < 2) = false := by simp; omega
  have e1 := byteAt_eq s 1 (by omega)
  have b1 := byteAt_lt s 1
  cases hg : signB (byteAt s 1)
  ·
   have hR : escR s = none := by unfold escR; rw [if_neg (by rw [hg]; simp)]
   have HR := hide hR
   have bp0 := build_part0
   clear hR
   go_enter Tryz.func135, Tryz.ntmps135
   go_wp2_with (first
    | (go_at_call 139; refine (signs_at _ b1 _).mono ?_; rintro e w' ⟨⟨n, rfl, hn⟩, rfl⟩; rw [hg] at hn; simp only [Bool.not_false] at hn)
    | (refine wpList_store_LA 224 257 rfl _ _ rfl w.heap.size ?_ (fun _ => false) ?_ size_part (fun _ => false) 224 ?_ ?_; (· rfl); (· rfl); (· with_reducible exact heap_alloc_new _ _))
    | (refine bodyPost_ret (results_part rfl _ _ w.heap.size (fun _ => false) (.int .i64 0) 224 rfl rfl (heap_setRow_same _ (heap_alloc_new _ _))) rfl ⟨?_, ?_⟩; (· rw [HR.out]; rfl); (· exact below_setRow (PW_below w) (Nat.le_refl _) _)))
  ·
   have hR : escR s = some (onlyF (byteAt s 1), false, 2) := by unfold escR; rw [if_pos ⟨by omega, hg⟩]
   have HR := hide hR
   clear hR
   go_enter Tryz.func135, Tryz.ntmps135
   go_wp2_with (first
    | (go_at_call 139; refine (signs_at _ b1 _).mono ?_; rintro e w' ⟨⟨n, rfl, hn⟩, rfl⟩; rw [hg] at hn; simp only [Bool.not_true] at hn)
    | (go_at_call 133; refine (only_any _ b1 _).mono ?_; rintro e W ⟨rfl, hW⟩)
    | (refine wpList_build_one rfl 224 _ _ rfl (.agg (LA 256 (onlyF (byteAt s 1)))) ?_ _ (built_part1 _) ?_; (· rfl))
    | (refine wpList_store_LA 224 257 rfl _ _ rfl w.heap.size ?_ (PF (onlyF (byteAt s 1)) false) ?_ size_part (fun _ => false) 224 ?_ ?_; (· rfl); (· rfl); (· exact PW_later hW))
    | (refine bodyPost_ret (results_part rfl _ _ w.heap.size (PF (onlyF (byteAt s 1)) false) (.int .i64 2) 224 rfl rfl (heap_setRow_same _ (PW_later hW))) rfl ⟨?_, ?_⟩; (· rw [HR.out]; rfl); (· exact below_setRow (PW_belowLater hW) (Nat.le_refl _) _)))
end Go.Proofs.YtklibmijiecbfaaGreat.Gl

/- The walk of glob.first. -/
namespace Go.Proofs.YtklibmijiecbfaaGreat.Gl
open Go.RowKit
attribute [local go_sem] LA_set LA_get LA_size LA_at

def starsB (s : ByteArray) : Bool := decide (2 ≤ s.size) && byteAt s 0 == 42 && byteAt s 1 == 42
def notF (f : Nat → Bool) : Nat → Bool := fun i => !f i
def classP (s : ByteArray) : Option ((Nat → Bool) × Bool × Nat) := (classR s).map fun x => (x.1, false, x.2)
theorem classV_eq (s : ByteArray) : classV s = partV (classP s) := by
 unfold classV classP
 cases classR s with
 | none => rfl
 | some x => rfl

def firstR (s : ByteArray) : Option ((Nat → Bool) × Bool × Nat) :=
 if starsB s = true then some (notF fun _ => false, true, 2)
 else if byteAt s 0 = 42 then some (notF (onlyF 47), true, 1)
 else if byteAt s 0 = 63 then some (notF (onlyF 47), false, 1)
 else if byteAt s 0 = 91 then classP s
 else if byteAt s 0 = 92 then escR s
 else if plainB (byteAt s 0) = true then some (onlyF (byteAt s 0), false, 1)
 else none

theorem hasPrefix_two (s : ByteArray) : Lib.hasPrefix s.data.toList [42, 42] = starsB s := by
 unfold starsB byteAt
 rw [Lib.size_eq]
 cases h : s.data.toList with
 | nil => simp [Lib.hasPrefix]
 | cons a l =>
  cases l with
  | nil => simp [Lib.hasPrefix, List.isPrefixOf]
  | cons b l =>
   simp only [Lib.hasPrefix, List.isPrefixOf, List.getD_cons_zero, List.getD_cons_succ, List.length_cons]
   rw [Bool.eq_iff_iff]
   simp only [Bool.and_true, Bool.and_eq_true, beq_iff_eq, decide_eq_true_eq, ← UInt8.toNat_inj]
   constructor
   ·
    rintro ⟨h1, h2⟩
    exact ⟨⟨by omega, h1.symm⟩, h2.symm⟩
   ·
    rintro ⟨⟨_, h1⟩, h2⟩
    exact ⟨h1.symm, h2.symm⟩

theorem prefix_stars (s : ByteArray) (w : World) :
  Calls Tryz.prog 131 #[.string s, .string ⟨#[42, 42]⟩] w fun e w' => e = .returned (.bool (starsB s)) ∧ w' = w :=
 (strings_HasPrefix s ⟨#[42, 42]⟩ w).mono fun e w' ⟨he, hw⟩ => ⟨by rw [he]; exact ret_bool (hasPrefix_two s), hw⟩

theorem PW_two {w W V : World} (h : Below (PW w).heap.size (PW w) W) (k : Below W.heap.size W V) : Below (PW w).heap.size (PW w) V := h.trans (k.mono h.size)

set_option maxRecDepth 10000 in
set_option maxHeartbeats 400000 in
theorem first_stars (s : ByteArray) (hs : 1 ≤ s.size) (hz : s.size ≤ 1000) (st : starsB s = true) (w : World) :
  Calls Tryz.prog 130 #[.string s] w fun e w' => e = .returned (partV (firstR s)) ∧ Below w.heap.size w w' := by
 have hR : firstR s = some (notF fun _ => false, true, 2) := by unfold firstR; rw [if_pos st]
 have HR := hide hR
 clear hR
 have zp := zv_part
 have e0 := byteAt_eq s 0 (by omega)
 have b0 := byteAt_lt s 0
 have zl := zv_like
 go_enter Tryz.func130, Tryz.ntmps130
 go_wp2_with (first
  | (go_at_call 131; refine (prefix_stars s _).mono ?_; rintro e w' ⟨rfl, rfl⟩)
  | (go_at_call 132; refine (others_any (fun _ => false) _).mono ?_; rintro e W ⟨rfl, hW⟩)
  | (refine wpList_build_two rfl 224 _ _ _ _ rfl (.agg (LA 256 (notF fun _ => false))) (.bool true) ?_ ?_ _ (built_part2 _ _) ?_; (· rfl); (· rfl))
  | (refine wpList_store_LA 224 257 rfl _ _ rfl w.heap.size ?_ (PF (notF fun _ => false) true) ?_ size_part (fun _ => false) 224 ?_ ?_; (· rfl); (· rfl); (· exact PW_later hW))
  | (refine bodyPost_ret (results_part rfl _ _ w.heap.size (PF (notF fun _ => false) true) (.int .i64 2) 224 rfl rfl (heap_setRow_same _ (PW_later hW))) rfl ⟨?_, ?_⟩; (· rw [HR.out]; rfl); (· exact below_setRow (PW_belowLater hW) (Nat.le_refl _) _)))

set_option maxRecDepth 10000 in
set_option maxHeartbeats 400000 in
theorem first_star (s : ByteArray) (hs : 1 ≤ s.size) (hz : s.size ≤ 1000) (st : starsB s = false)  (h42 : byteAt s 0 = 42) (w : World) :
  Calls Tryz.prog 130 #[.string s] w fun e w' => e = .returned (partV (firstR s)) ∧ Below w.heap.size w w' := by
 have hR : firstR s = some (notF (onlyF 47), true, 1) := by unfold firstR; rw [if_neg (by rw [st]; simp)]; rw [if_pos h42]
 have HR := hide hR
 clear hR
 have zp := zv_part
 have e0 := byteAt_eq s 0 (by omega)
 have b0 := byteAt_lt s 0
 have c42 : ((byteAt s 0 : Int) == 42) = true := by rw [beq_iff_eq]; omega
 clear h42
 go_enter Tryz.func130, Tryz.ntmps130
 go_wp2_with (first
  | (go_at_call 131; refine (prefix_stars s _).mono ?_; rintro e w' ⟨rfl, rfl⟩)
  | (go_at_call 133; refine (only_any 47 (by omega) _).mono ?_; rintro e W ⟨rfl, hW⟩)
  | (go_at_call 132; refine (others_any (onlyF 47) _).mono ?_; rintro e V ⟨rfl, hV⟩)
  | (refine wpList_build_two rfl 224 _ _ _ _ rfl (.agg (LA 256 (notF (onlyF 47)))) (.bool true) ?_ ?_ _ (built_part2 _ _) ?_; (· rfl); (· rfl))
  | (refine wpList_store_LA 224 257 rfl _ _ rfl w.heap.size ?_ (PF (notF (onlyF 47)) true) ?_ size_part (fun _ => false) 224 ?_ ?_; (· rfl); (· rfl); (· exact PW_later (PW_two hW hV)))
  | (refine bodyPost_ret (results_part rfl _ _ w.heap.size (PF (notF (onlyF 47)) true) (.int .i64 1) 224 rfl rfl (heap_setRow_same _ (PW_later (PW_two hW hV)))) rfl ⟨?_, ?_⟩; (· rw [HR.out]; rfl); (· exact below_setRow (PW_belowLater (PW_two hW hV)) (Nat.le_refl _) _)))

set_option maxRecDepth 10000 in
set_option maxHeartbeats 400000 in
theorem first_quest (s : ByteArray) (hs : 1 ≤ s.size) (hz : s.size ≤ 1000) (st : starsB s = false) (n42 : byteAt s 0 ≠ 42) (h63 : byteAt s 0 = 63) (w : World) :
  Calls Tryz.prog 130 #[.string s] w fun e w' => e = .returned (partV (firstR s)) ∧ Below w.heap.size w w' := by
 have hR : firstR s = some (notF (onlyF 47), false, 1) := by unfold firstR; rw [if_neg (by rw [st]; simp)]; rw [if_neg n42, if_pos h63]
 have HR := hide hR
 clear hR
 have zp := zv_part
 have e0 := byteAt_eq s 0 (by omega)
 have b0 := byteAt_lt s 0
 have c42 : ((byteAt s 0 : Int) == 42) = false := by rw [beq_eq_false_iff_ne]; omega
 have c63 : ((byteAt s 0 : Int) == 63) = true := by rw [beq_iff_eq]; omega
 clear h63
 go_enter Tryz.func130, Tryz.ntmps130
 go_wp2_with (first
  | (go_at_call 131; refine (prefix_stars s _).mono ?_; rintro e w' ⟨rfl, rfl⟩)
  | (go_at_call 133; refine (only_any 47 (by omega) _).mono ?_; rintro e W ⟨rfl, hW⟩)
  | (go_at_call 132; refine (others_any (onlyF 47) _).mono ?_; rintro e V ⟨rfl, hV⟩)
  | (refine wpList_build_one rfl 224 _ _ rfl (.agg (LA 256 (notF (onlyF 47)))) ?_ _ (built_part1 _) ?_; (· rfl))
  | (refine wpList_store_LA 224 257 rfl _ _ rfl w.heap.size ?_ (PF (notF (onlyF 47)) false) ?_ size_part (fun _ => false) 224 ?_ ?_; (· rfl); (· rfl); (· exact PW_later (PW_two hW hV)))
  | (refine bodyPost_ret (results_part rfl _ _ w.heap.size (PF (notF (onlyF 47)) false) (.int .i64 1) 224 rfl rfl (heap_setRow_same _ (PW_later (PW_two hW hV)))) rfl ⟨?_, ?_⟩; (· rw [HR.out]; rfl); (· exact below_setRow (PW_belowLater (PW_two hW hV)) (Nat.le_refl _) _)))

set_option maxRecDepth 10000 in
set_option maxHeartbeats 400000 in
theorem first_class_none (s : ByteArray) (hs : 1 ≤ s.size) (hz : s.size ≤ 1000) (st : starsB s = false) (n42 : byteAt s 0 ≠ 42) (n63 : byteAt s 0 ≠ 63) (h91 : byteAt s 0 = 91) (hP : classP s = none) (w : World) :
  Calls Tryz.prog 130 #[.string s] w fun e w' => e = .returned (partV (firstR s)) ∧ Below w.heap.size w w' := by
 have hR : firstR s = none := by unfold firstR; rw [if_neg (by rw [st]; simp)]; rw [if_neg n42, if_neg n63, if_pos h91]; exact hP
 have HR := hide hR
 clear hR
 have zp := zv_part
 have e0 := byteAt_eq s 0 (by omega)
 have b0 := byteAt_lt s 0
 have c42 : ((byteAt s 0 : Int) == 42) = false := by rw [beq_eq_false_iff_ne]; omega
 have c63 : ((byteAt s 0 : Int) == 63) = false := by rw [beq_eq_false_iff_ne]; omega
 have c91 : ((byteAt s 0 : Int) == 91) = true := by rw [beq_iff_eq]; omega
 clear h91
 have HV := hide (show classV s = .tuple #[.agg (LA 257 (fun _ => false)), .int .i64 0] from by rw [classV_eq, hP]; rfl)
 clear hP
 go_enter Tryz.func130, Tryz.ntmps130
 go_wp2_with (first
  | (go_at_call 131; refine (prefix_stars s _).mono ?_; rintro e w' ⟨rfl, rfl⟩)
  | (go_at_call 134; refine (class_any s hs hz _).mono ?_; rintro e W ⟨rfl, hW⟩; rw [HV.out])
  | (refine wpList_store_LA 224 257 rfl _ _ rfl w.heap.size ?_ (fun _ => false) ?_ size_part (fun _ => false) 224 ?_ ?_; (· rfl); (· rfl); (· exact PW_later hW))
  | (refine bodyPost_ret (results_part rfl _ _ w.heap.size (fun _ => false) (.int .i64 0) 224 rfl rfl (heap_setRow_same _ (PW_later hW))) rfl ⟨?_, ?_⟩; (· rw [HR.out]; rfl); (· exact below_setRow (PW_belowLater hW) (Nat.le_refl _) _)))

set_option maxRecDepth 10000 in
set_option maxHeartbeats 400000 in
theorem first_class_some (s : ByteArray) (hs : 1 ≤ s.size) (hz : s.size ≤ 1000) (st : starsB s = false) (n42 : byteAt s 0 ≠ 42) (n63 : byteAt s 0 ≠ 63) (h91 : byteAt s 0 = 91) (f : Nat → Bool) (m : Bool) (n : Nat) (hP : classP s = some (f, m, n)) (w : World) :
  Calls Tryz.prog 130 #[.string s] w fun e w' => e = .returned (partV (firstR s)) ∧ Below w.heap.size w w' := by
 have hR : firstR s = some (f, m, n) := by unfold firstR; rw [if_neg (by rw [st]; simp)]; rw [if_neg n42, if_neg n63, if_pos h91]; exact hP
 have HR := hide hR
 clear hR
 have zp := zv_part
 have e0 := byteAt_eq s 0 (by omega)
 have b0 := byteAt_lt s 0
 have c42 : ((byteAt s 0 : Int) == 42) = false := by rw [beq_eq_false_iff_ne]; omega
 have c63 : ((byteAt s 0 : Int) == 63) = false := by rw [beq_eq_false_iff_ne]; omega
 have c91 : ((byteAt s 0 : Int) == 91) = true := by rw [beq_iff_eq]; omega
 clear h91
 have HV := hide (show classV s = .tuple #[.agg (LA 257 (PF f m)), .int .i64 n] from by rw [classV_eq, hP]; rfl)
 clear hP
 go_enter Tryz.func130, Tryz.ntmps130
 go_wp2_with (first
  | (go_at_call 131; refine (prefix_stars s _).mono ?_; rintro e w' ⟨rfl, rfl⟩)
  | (go_at_call 134; refine (class_any s hs hz _).mono ?_; rintro e W ⟨rfl, hW⟩; rw [HV.out])
  | (refine wpList_store_LA 224 257 rfl _ _ rfl w.heap.size ?_ (PF f m) ?_ size_part (fun _ => false) 224 ?_ ?_; (· rfl); (· rfl); (· exact PW_later hW))
  | (refine bodyPost_ret (results_part rfl _ _ w.heap.size (PF f m) (.int .i64 n) 224 rfl rfl (heap_setRow_same _ (PW_later hW))) rfl ⟨?_, ?_⟩; (· rw [HR.out]; rfl); (· exact below_setRow (PW_belowLater hW) (Nat.le_refl _) _)))

set_option maxRecDepth 10000 in
set_option maxHeartbeats 400000 in
theorem first_esc_none (s : ByteArray) (hs : 1 ≤ s.size) (hz : s.size ≤ 1000) (st : starsB s = false) (n42 : byteAt s 0 ≠ 42) (n63 : byteAt s 0 ≠ 63) (n91 : byteAt s 0 ≠ 91) (h92 : byteAt s 0 = 92) (hP : escR s = none) (w : World) :
  Calls Tryz.prog 130 #[.string s] w fun e w' => e = .returned (partV (firstR s)) ∧ Below w.heap.size w w' := by
 have hR : firstR s = none := by unfold firstR; rw [if_neg (by rw [st]; simp)]; rw [if_neg n42, if_neg n63, if_neg n91, if_pos h92]; exact hP
 have HR := hide hR
 clear hR
 have zp := zv_part
 have e0 := byteAt_eq s 0 (by omega)
 have b0 := byteAt_lt s 0
 have c42 : ((byteAt s 0 : Int) == 42) = false := by rw [beq_eq_false_iff_ne]; omega
 have c63 : ((byteAt s 0 : Int) == 63) = false := by rw [beq_eq_false_iff_ne]; omega
 have c91 : ((byteAt s 0 : Int) == 91) = false := by rw [beq_eq_false_iff_ne]; omega
 have c92 : ((byteAt s 0 : Int) == 92) = true := by rw [beq_iff_eq]; omega
 clear h92
 have HV := hide (show partV (escR s) = .tuple #[.agg (LA 257 (fun _ => false)), .int .i64 0] from by rw [hP]; rfl)
 clear hP
 go_enter Tryz.func130, Tryz.ntmps130
 go_wp2_with (first
  | (go_at_call 131; refine (prefix_stars s _).mono ?_; rintro e w' ⟨rfl, rfl⟩)
  | (go_at_call 135; refine (escaped_any s hs hz _).mono ?_; rintro e W ⟨rfl, hW⟩; rw [HV.out])
  | (refine wpList_store_LA 224 257 rfl _ _ rfl w.heap.size ?_ (fun _ => false) ?_ size_part (fun _ => false) 224 ?_ ?_; (· rfl); (· rfl); (· exact PW_later hW))
  | (refine bodyPost_ret (results_part rfl _ _ w.heap.size (fun _ => false) (.int .i64 0) 224 rfl rfl (heap_setRow_same _ (PW_later hW))) rfl ⟨?_, ?_⟩; (· rw [HR.out]; rfl); (· exact below_setRow (PW_belowLater hW) (Nat.le_refl _) _)))

set_option maxRecDepth 10000 in
set_option maxHeartbeats 400000 in
theorem first_esc_some (s : ByteArray) (hs : 1 ≤ s.size) (hz : s.size ≤ 1000) (st : starsB s = false) (n42 : byteAt s 0 ≠ 42) (n63 : byteAt s 0 ≠ 63) (n91 : byteAt s 0 ≠ 91) (h92 : byteAt s 0 = 92) (f : Nat → Bool) (m : Bool) (n : Nat) (hP : escR s = some (f, m, n)) (w : World) :
  Calls Tryz.prog 130 #[.string s] w fun e w' => e = .returned (partV (firstR s)) ∧ Below w.heap.size w w' := by
 have hR : firstR s = some (f, m, n) := by unfold firstR; rw [if_neg (by rw [st]; simp)]; rw [if_neg n42, if_neg n63, if_neg n91, if_pos h92]; exact hP
 have HR := hide hR
 clear hR
 have zp := zv_part
 have e0 := byteAt_eq s 0 (by omega)
 have b0 := byteAt_lt s 0
 have c42 : ((byteAt s 0 : Int) == 42) = false := by rw [beq_eq_false_iff_ne]; omega
 have c63 : ((byteAt s 0 : Int) == 63) = false := by rw [beq_eq_false_iff_ne]; omega
 have c91 : ((byteAt s 0 : Int) == 91) = false := by rw [beq_eq_false_iff_ne]; omega
 have c92 : ((byteAt s 0 : Int) == 92) = true := by rw [beq_iff_eq]; omega
 clear h92
 have HV := hide (show partV (escR s) = .tuple #[.agg (LA 257 (PF f m)), .int .i64 n] from by rw [hP]; rfl)
 clear hP
 go_enter Tryz.func130, Tryz.ntmps130
 go_wp2_with (first
  | (go_at_call 131; refine (prefix_stars s _).mono ?_; rintro e w' ⟨rfl, rfl⟩)
  | (go_at_call 135; refine (escaped_any s hs hz _).mono ?_; rintro e W ⟨rfl, hW⟩; rw [HV.out])
  | (refine wpList_store_LA 224 257 rfl _ _ rfl w.heap.size ?_ (PF f m) ?_ size_part (fun _ => false) 224 ?_ ?_; (· rfl); (· rfl); (· exact PW_later hW))
  | (refine bodyPost_ret (results_part rfl _ _ w.heap.size (PF f m) (.int .i64 n) 224 rfl rfl (heap_setRow_same _ (PW_later hW))) rfl ⟨?_, ?_⟩; (· rw [HR.out]; rfl); (· exact below_setRow (PW_belowLater hW) (Nat.le_refl _) _)))

set_option maxRecDepth 10000 in
set_option maxHeartbeats 400000 in
theorem first_plain (s : ByteArray) (hs : 1 ≤ s.size) (hz : s.size ≤ 1000) (st : starsB s = false) (n42 : byteAt s 0 ≠ 42) (n63 : byteAt s 0 ≠ 63) (n91 : byteAt s 0 ≠ 91) (n92 : byteAt s 0 ≠ 92) (hp : plainB (byteAt s 0) = true) (w : World) :
  Calls Tryz.prog 130 #[.string s] w fun e w' => e = .returned (partV (firstR s)) ∧ Below w.heap.size w w' := by
 have hR : firstR s = some (onlyF (byteAt s 0), false, 1) := by unfold firstR; rw [if_neg (by rw [st]; simp)]; rw [if_neg n42, if_neg n63, if_neg n91, if_neg n92, if_pos hp]
 have HR := hide hR
 clear hR
 have zp := zv_part
 have e0 := byteAt_eq s 0 (by omega)
 have b0 := byteAt_lt s 0
 have c42 : ((byteAt s 0 : Int) == 42) = false := by rw [beq_eq_false_iff_ne]; omega
 have c63 : ((byteAt s 0 : Int) == 63) = false := by rw [beq_eq_false_iff_ne]; omega
 have c91 : ((byteAt s 0 : Int) == 91) = false := by rw [beq_eq_false_iff_ne]; omega
 have c92 : ((byteAt s 0 : Int) == 92) = false := by rw [beq_eq_false_iff_ne]; omega
 go_enter Tryz.func130, Tryz.ntmps130
 go_wp2_with (first
  | (go_at_call 131; refine (prefix_stars s _).mono ?_; rintro e w' ⟨rfl, rfl⟩)
  | (go_at_call 136; refine (isPlain_any _ b0 _).mono ?_; rintro e w' ⟨rfl, rfl⟩)
  | (go_at_call 133; refine (only_any _ b0 _).mono ?_; rintro e W ⟨rfl, hW⟩)
  | (refine wpList_build_one rfl 224 _ _ rfl (.agg (LA 256 (onlyF (byteAt s 0)))) ?_ _ (built_part1 _) ?_; (· rfl))
  | (refine wpList_store_LA 224 257 rfl _ _ rfl w.heap.size ?_ (PF (onlyF (byteAt s 0)) false) ?_ size_part (fun _ => false) 224 ?_ ?_; (· rfl); (· rfl); (· exact PW_later hW))
  | (refine bodyPost_ret (results_part rfl _ _ w.heap.size (PF (onlyF (byteAt s 0)) false) (.int .i64 1) 224 rfl rfl (heap_setRow_same _ (PW_later hW))) rfl ⟨?_, ?_⟩; (· rw [HR.out]; rfl); (· exact below_setRow (PW_belowLater hW) (Nat.le_refl _) _)))

set_option maxRecDepth 10000 in
set_option maxHeartbeats 400000 in
theorem first_none (s : ByteArray) (hs : 1 ≤ s.size) (hz : s.size ≤ 1000) (st : starsB s = false) (n42 : byteAt s 0 ≠ 42) (n63 : byteAt s 0 ≠ 63) (n91 : byteAt s 0 ≠ 91) (n92 : byteAt s 0 ≠ 92) (hp : plainB (byteAt s 0) = false) (w : World) :
  Calls Tryz.prog 130 #[.string s] w fun e w' => e = .returned (partV (firstR s)) ∧ Below w.heap.size w w' := by
 have hR : firstR s = none := by unfold firstR; rw [if_neg (by rw [st]; simp)]; rw [if_neg n42, if_neg n63, if_neg n91, if_neg n92, if_neg (by rw [hp]; simp)]
 have HR := hide hR
 clear hR
 have zp := zv_part
 have e0 := byteAt_eq s 0 (by omega)
 have b0 := byteAt_lt s 0
 have c42 : ((byteAt s 0 : Int) == 42) = false := by rw [beq_eq_false_iff_ne]; omega
 have c63 : ((byteAt s 0 : Int) == 63) = false := by rw [beq_eq_false_iff_ne]; omega
 have c91 : ((byteAt s 0 : Int) == 91) = false := by rw [beq_eq_false_iff_ne]; omega
 have c92 : ((byteAt s 0 : Int) == 92) = false := by rw [beq_eq_false_iff_ne]; omega
 have bp0 := build_part0
 go_enter Tryz.func130, Tryz.ntmps130
 go_wp2_with (first
  | (go_at_call 131; refine (prefix_stars s _).mono ?_; rintro e w' ⟨rfl, rfl⟩)
  | (go_at_call 136; refine (isPlain_any _ b0 _).mono ?_; rintro e w' ⟨rfl, rfl⟩)
  | (refine wpList_store_LA 224 257 rfl _ _ rfl w.heap.size ?_ (fun _ => false) ?_ size_part (fun _ => false) 224 ?_ ?_; (· rfl); (· rfl); (· with_reducible exact heap_alloc_new _ _))
  | (refine bodyPost_ret (results_part rfl _ _ w.heap.size (fun _ => false) (.int .i64 0) 224 rfl rfl (heap_setRow_same _ (heap_alloc_new _ _))) rfl ⟨?_, ?_⟩; (· rw [HR.out]; rfl); (· exact below_setRow (PW_below w) (Nat.le_refl _) _)))

theorem first_any (s : ByteArray) (hs : 1 ≤ s.size) (hz : s.size ≤ 1000) (w : World) :
  Calls Tryz.prog 130 #[.string s] w fun e w' => e = .returned (partV (firstR s)) ∧ Below w.heap.size w w' := by
 cases st : starsB s
 ·
  by_cases h42 : byteAt s 0 = 42
  ·
   exact first_star s hs hz st h42 w
  ·
   by_cases h63 : byteAt s 0 = 63
   ·
    exact first_quest s hs hz st h42 h63 w
   ·
    by_cases h91 : byteAt s 0 = 91
    ·
     cases hP : classP s with
     | none => exact first_class_none s hs hz st h42 h63 h91 hP w
     | some x => obtain ⟨f, m, n⟩ := x; exact first_class_some s hs hz st h42 h63 h91 f m n hP w
    ·
     by_cases h92 : byteAt s 0 = 92
     ·
      cases hP : escR s with
      | none => exact first_esc_none s hs hz st h42 h63 h91 h92 hP w
      | some x => obtain ⟨f, m, n⟩ := x; exact first_esc_some s hs hz st h42 h63 h91 h92 f m n hP w
     ·
      cases hp : plainB (byteAt s 0)
      ·
       exact first_none s hs hz st h42 h63 h91 h92 hp w
      ·
       exact first_plain s hs hz st h42 h63 h91 h92 hp w
 ·
  exact first_stars s hs hz st w
end Go.Proofs.YtklibmijiecbfaaGreat.Gl

/- Laws for the loop of glob.parse: a slice of parts of the call's own. -/
namespace Go.Proofs.YtklibmijiecbfaaGreat.Gl
open Go.RowKit

abbrev Part := (Nat → Bool) × Bool
def flat (ps : List Part) : List Value := ps.flatMap fun p => (LA 257 (PF p.1 p.2)).toList
theorem flat_snoc (ps : List Part) (p : Part) : flat (ps ++ [p]) = flat ps ++ (LA 257 (PF p.1 p.2)).toList := by simp [flat]
theorem wpList_load_part {ops : Array Oper} {rest : List Oper} {o : Oper} {a : Act} {w : World} {Q : Exit → Act → World → Prop} (hgd : o.guard = none) (x : Operand) (ho : o.op = .load 224 x)
  (g : Nat) (hx : a.eval x = .pointer (some ⟨g, 0, none⟩)) (f : Nat → Bool) (hg : w.heap[g]? = some (.cells (LA 257 f) 224 (0, 0)))
  (h : wpList Tryz.prog ops Q rest (a.put o.dst (.agg (LA 257 f))) w) : wpList Tryz.prog ops Q (o :: rest) a w :=
 wpList_load_row hgd 224 x ho g hx 224 (LA 257 f) (0, 0) _ hg Tryz.underlying224 rfl (by rw [LA_size]; exact size_part) h

theorem info_part : ∃ i, Tryz.prog.info? 224 = some i ∧ i.zero = some (.agg (LA 257 fun _ => false)) ∧ i.size = 257 ∧ i.bytes = 257 := by
 have hz := zero_part
 have hs := size_part
 have hb : (Tryz.prog.info? 224).map (·.bytes) = some 257 := by kernel_rfl
 cases hq : Tryz.prog.info? 224 with
 | none => rw [hq] at hs; simp at hs
 | some i =>
  rw [hq] at hz hs hb
  simp at hz hs hb
  exact ⟨i, rfl, hz, hs, hb⟩

theorem fill_parts (F : Nat → Bool) : Instr.fill (fun i => some (i * 257, 257)) ((Array.range (1 * 257)).map ((LA0 257 fun _ => false)[· % (LA0 257 fun _ => false).size]!)) [(0, .agg (LA0 257 F))] = some (LA0 257 F) := by kernel_rfl

theorem wpList_buildSlice_part {ops : Array Oper} {rest : List Oper} {o : Oper} {a : Act} {w : World} {Q : Exit → Act → World → Prop} (hg : o.guard = none) (x : Operand) (ho : o.op = .buildSlice 206 1 #[(0, x)])
  (F : Nat → Bool) (hx : a.eval x = .agg (LA 257 F)) (h : wpList Tryz.prog ops Q rest (a.put o.dst (.slice (some ⟨w.heap.size, 0, none⟩) 1 1)) (w.alloc (.cells (LA 257 F) 224))) : wpList Tryz.prog ops Q (o :: rest) a w := by
 obtain ⟨i, hi, hz, hs, _⟩ := info_part
 refine wpList_buildSlice hg 206 224 1 #[(0, x)] ho (LA 257 F) i _ Tryz.underlying206 hi hz (by rw [hs]; decide) (by rw [hs]; decide) ?_ h
 rw [hs]
 have := fill_parts F
 simp only [Value.cells]
 simpa [hx, LA_eq] using this

theorem grown_of_below {w w' : World} (h : Below w.heap.size w w') : w.grownBy w' none := ⟨h.os, h.tape, h.output, h.size, fun k hk _ => h.block k hk⟩

theorem owns_later {w w' : World} {base n : Nat} {v : Value} {xs : List Value} (h : w.ownsRow base 224 257 v n xs) (hb : Below w.heap.size w w') : w'.ownsRow base 224 257 v n xs := by
 refine h.kept (grown_of_below hb) ?_
 cases hv : v.ownBlock with
 | none => exact .inl rfl
 | some k => exact .inr (by simp)

theorem wpList_append_part {ops : Array Oper} {rest : List Oper} {o : Oper} {a : Act} {w : World} {Q : Exit → Act → World → Prop} (hgd : o.guard = none) (s x : Operand)
  (ho : o.op = .call { callee := .builtin .append, args := #[s, x], argTypes := #[206, 206] })
  (base : Nat) (v : Value) (ps : List Part) (hs : a.eval s = v) (hown : w.ownsRow base 224 257 v ps.length (flat ps))
  (g : Nat) (hx : a.eval x = .slice (some ⟨g, 0, none⟩) 1 1) (p : Part) (hg : w.heap[g]? = some (.cells (LA 257 (PF p.1 p.2)) 224 (0, 0)))
  (hn : ps.length ≤ 1000) (hbase : base ≤ w.heap.size)
  (h : ∀ v' w', w'.ownsRow base 224 257 v' (ps.length + 1) (flat (ps ++ [p])) → w.grownBy w' v.ownBlock → wpList Tryz.prog ops Q rest (a.put o.dst v') w') : wpList Tryz.prog ops Q (o :: rest) a w := by
 obtain ⟨i, hi, hz, hsz, hby⟩ := info_part
 refine wpList_append_own (P := Tryz.prog) w hgd s x 206 ho base 224 i _ 257 257 Tryz.underlying206 hi hz hsz hby (by simp [Value.cells, LA_size]) (by decide) v ps.length (flat ps) hs hown ⟨g, 0, none⟩ 1 1 (LA 257 (PF p.1 p.2)).toList hx (by simp [LA_size]) ?_ ?_ (by simp only [maxLen]; omega) (by omega) hbase ?_
 ·
  intro j u hu
  have hadd : (⟨g, 0, none⟩ : Addr).add j = ⟨g, j, none⟩ := by unfold Addr.add; split <;> simp_all
  rw [hadd, cell_of_row w g j _ _ _ hg]
  simpa using hu
 ·
  intro u hu
  have := LA_one 257 (PF p.1 p.2)
  rw [Array.all_eq_true_iff_forall_mem] at this
  exact this u (by simpa using hu)
 ·
  intro v' w' h1 h2 _
  refine h v' w' ?_ h2
  rw [flat_snoc]
  exact h1
end Go.Proofs.YtklibmijiecbfaaGreat.Gl

/- The walk of glob.parse. -/
namespace Go.Proofs.YtklibmijiecbfaaGreat.Gl
open Go.RowKit
attribute [local go_sem] LA_size

def partsR : Nat → ByteArray → Nat → Option (List Part)
 | 0, _, _ => none
 | k + 1, s, a => if a < s.size then (match firstR (s.extract a s.size) with
  | none => none
  | some (f, m, n) => (partsR k s (a + n)).map ((f, m) :: ·)) else some []

theorem classFin_pos {nb : Bool} {B size n : Nat} {f : Nat → Bool} {x : Option (Nat × (Nat → Bool))} (h : classFin nb B size x = some (f, n)) : 1 ≤ n := by
 cases x with
 | none => simp [classFin] at h
 | some y =>
  obtain ⟨a, g⟩ := y
  simp only [classFin] at h
  split at h
  ·
   simp at h
  ·
   simp only [Option.some.injEq, Prod.mk.injEq] at h; omega
theorem scan_le : ∀ (k : Nat) (s : ByteArray) (a : Nat) (f : Nat → Bool) (b : Nat) (g : Nat → Bool), a ≤ s.size → scan k s a f = some (b, g) → b ≤ s.size
 | 0, _, _, _, _, _, _, h => by simp [scan] at h
 | k + 1, s, a, f, b, g, ha, h => by
  rw [scan] at h
  split at h
  ·
   rename_i hc
   split at h
   ·
    simp at h
   ·
    exact scan_le k s _ _ b g (memberAt_le s a hc.1).1 h
  ·
   simp only [Option.some.injEq, Prod.mk.injEq] at h; omega
theorem firstR_bound {s : ByteArray} (hs : 1 ≤ s.size) {f : Nat → Bool} {m : Bool} {n : Nat} (h : firstR s = some (f, m, n)) : 1 ≤ n ∧ n ≤ s.size := by
 unfold firstR at h
 split at h
 ·
  rename_i hst
  simp only [starsB, Bool.and_eq_true, decide_eq_true_eq] at hst
  simp only [Option.some.injEq, Prod.mk.injEq] at h; omega
 ·
  split at h
  ·
   simp only [Option.some.injEq, Prod.mk.injEq] at h; omega
  ·
   split at h
   ·
    simp only [Option.some.injEq, Prod.mk.injEq] at h; omega
   ·
    split at h
    ·
     unfold classP at h
     cases hc : classR s with
     | none => simp [hc] at h
     | some x =>
      obtain ⟨g, k⟩ := x
      simp only [hc, Option.map_some, Option.some.injEq, Prod.mk.injEq] at h
      obtain ⟨rfl, rfl, rfl⟩ := h
      unfold classR at hc
      refine ⟨classFin_pos hc, ?_⟩
      cases hsc : scan (s.size + 1) s (classBegin s) fun _ => false with
      | none => simp [hsc, classFin] at hc
      | some y =>
       obtain ⟨b, g'⟩ := y
       have hb : classBegin s ≤ s.size := by
        unfold classBegin notB
        split
        ·
         rename_i hh; simp at hh; omega
        ·
         omega
       have := scan_le _ _ _ _ _ _ hb hsc
       simp only [hsc, classFin] at hc
       split at hc
       ·
        simp at hc
       ·
        simp only [Option.some.injEq, Prod.mk.injEq] at hc; omega
    ·
     split at h
     ·
      unfold escR at h
      split at h
      ·
       simp only [Option.some.injEq, Prod.mk.injEq] at h; omega
      ·
       simp at h
     ·
      split at h
      ·
       simp only [Option.some.injEq, Prod.mk.injEq] at h; omega
      ·
       simp at h

def parseR (p : ByteArray) : Nat ⊕ List Part := if 24 < p.size then .inl 2 else if p.size = 0 then .inl 4 else match partsR (p.size + 1) p 0 with
 | none => .inl 4
 | some ps => .inr ps

def Parsed (w : World) (r : Nat ⊕ List Part) (e : Ending) (w' : World) : Prop := Below w.heap.size w w' ∧ match r with
 | .inl n => e = .returned (.tuple #[.slice none 0 0, .iface 82 (.int .i64 n)])
 | .inr ps => ∃ sv, e = .returned (.tuple #[sv, .nilIface]) ∧ w'.ownsRow w.heap.size 224 257 sv ps.length (flat ps)

set_option maxRecDepth 10000 in
set_option maxHeartbeats 1000000 in
theorem parse_any (p : ByteArray) (hz : p.size ≤ 1000) (w : World) : Calls Tryz.prog 121 #[.string p] w (Parsed w (parseR p)) := by
 by_cases h24 : 24 < p.size
 ·
  have hR : parseR p = .inl 2 := by unfold parseR; rw [if_pos h24]
  rw [hR]
  go_enter Tryz.func121, Tryz.ntmps121
  go_wp2
  go_ret2
  exact ⟨Below.refl _ _, rfl⟩
 ·
  by_cases h0 : p.size = 0
  ·
   have hR : parseR p = .inl 4 := by unfold parseR; rw [if_neg h24, if_pos h0]
   rw [hR]
   have b0 : ((p.size : Int) == 0) = true := by rw [beq_iff_eq]; omega
   have H0 := hide h0
   clear h0
   go_enter Tryz.func121, Tryz.ntmps121
   go_wp2
   go_ret2
   exact ⟨Below.refl _ _, rfl⟩
  ·
   have hR : ∀ r, partsR (p.size + 1) p 0 = r → parseR p = (match r with | none => .inl 4 | some ps => .inr ps) := by intro r hr; unfold parseR; rw [if_neg h24, if_neg h0, hr]
   have b0 : ((p.size : Int) == 0) = false := by rw [beq_eq_false_iff_ne]; omega
   have HR := hide hR
   clear hR h0
   go_enter Tryz.func121, Tryz.ntmps121
   go_wp2_with fail
   go_loopw [4, 5] (fun l at' wr => ∃ (a : Nat) (ps : List Part) (fuel : Nat), a ≤ p.size ∧ ps.length ≤ a ∧ at' = .int .i64 a ∧ p.size - a < fuel ∧ partsR (p.size + 1) p 0 = (partsR fuel p a).map (ps ++ ·) ∧ wr.ownsRow w.heap.size 224 257 l ps.length (flat ps) ∧ Below w.heap.size w wr) (fun _ at' _ => p.size - (intOf at').toNat)
   case atStart => exact ⟨0, [], p.size + 1, by omega, by simp, rfl, by omega, by simp, World.ownsRow_nil _ _ _ _, Below.refl _ _⟩
   case round =>
    obtain ⟨a, ps, fuel, ha, hps, rfl, hfuel, hpr, hown, hB⟩ := hrel
    obtain ⟨fu, rfl⟩ : ∃ fu, fuel = fu + 1 := ⟨fuel - 1, by omega⟩
    have Hpr := hide hpr
    have Hown := hide hown
    clear hpr hown
    by_cases hlt : a < p.size
    ·
     cases hF : firstR (p.extract a p.size) with
     | none =>
      have hnone : parseR p = .inl 4 := HR.out none (by rw [Hpr.out, partsR, if_pos hlt, hF]; rfl)
      have HV := hide (show partV (firstR (p.extract a p.size)) = .tuple #[.agg (LA 257 fun _ => false), .int .i64 0] by rw [hF]; rfl)
      have HN := hide hnone
      have zp := zv_part
      clear hF hnone HR Hpr
      go_wp2_with (first
       | (go_at_call 130; refine (first_any _ (by rw [size_extract]; omega) (by rw [size_extract]; omega) _).mono ?_; rintro e W ⟨rfl, hW⟩; rw [HV.out])
       | (refine wpList_store_LA 224 257 rfl _ _ rfl W.heap.size ?_ (fun _ => false) ?_ size_part (fun _ => false) 224 ?_ ?_; (· rfl); (· rfl); (· with_reducible exact heap_alloc_new _ _)))
      go_ret2
      rw [HN.out]
      exact ⟨below_setRow ((hB.trans (hW.mono hB.size)).alloc (Nat.le_trans hB.size hW.size) _) (Nat.le_trans hB.size hW.size) _, rfl⟩
     | some x =>
      obtain ⟨f, m, n⟩ := x
      have hbd := firstR_bound (by rw [size_extract]; omega) hF
      rw [size_extract] at hbd
      have hnext : partsR (p.size + 1) p 0 = (partsR fu p (a + n)).map ((ps ++ [(f, m)]) ++ ·) := by
       rw [Hpr.out, partsR, if_pos hlt, hF]
       show Option.map _ (Option.map _ (partsR fu p (a + n))) = _
       generalize partsR fu p (a + n) = r
       cases r <;> simp
      have HX := hide hnext
      have HV := hide (show partV (firstR (p.extract a p.size)) = .tuple #[.agg (LA 257 (PF f m)), .int .i64 n] by rw [hF]; rfl)
      have zp := zv_part
      have n0 : ((n : Int) == 0) = false := by rw [beq_eq_false_iff_ne]; omega
      clear hF hnext HR Hpr
      go_wp2_with (first
       | (go_at_call 130; refine (first_any _ (by rw [size_extract]; omega) (by rw [size_extract]; omega) _).mono ?_; rintro e W ⟨rfl, hW⟩; rw [HV.out])
       | (refine wpList_store_LA 224 257 rfl _ _ rfl W.heap.size ?_ (PF f m) ?_ size_part (fun _ => false) 224 ?_ ?_; (· rfl); (· rfl); (· with_reducible exact heap_alloc_new _ _); refine wpList_forget (fun V => Below W.heap.size W V ∧ V.heap[W.heap.size]? = some (.cells (LA 257 (PF f m)) 224 (0, 0))) ⟨below_setRow ((Below.refl _ _).alloc (Nat.le_refl _) _) (Nat.le_refl _) _, heap_setRow_same _ (heap_alloc_new _ _)⟩ ?_; rintro V ⟨hV, hVp⟩)
       | (refine wpList_load_part rfl _ rfl W.heap.size ?_ (PF f m) ?_ ?_; (· rfl); (· exact hVp))
       | (refine wpList_buildSlice_part rfl _ rfl (PF f m) ?_ ?_; (· rfl))
       | (refine wpList_append_part rfl _ _ rfl w.heap.size u4 ps ?_ ?_ V.heap.size ?_ (f, m) ?_ (by omega) ?_ ?_; (· rfl); (· exact owns_later Hown.out ((hW.trans (hV.mono hW.size)).alloc (Nat.le_trans hW.size hV.size) _)); (· rfl); (· exact heap_alloc_new _ _); (· exact Nat.le_trans hB.size (Nat.le_trans hW.size (Nat.le_trans hV.size (by simp)))); intro v' w2 ho2 hg2))
      go_roundw
      case rel =>
       have hsz : w.heap.size ≤ (V.alloc (Obj.cells (LA 257 (PF f m)) 224)).heap.size := Nat.le_trans hB.size (Nat.le_trans hW.size (Nat.le_trans hV.size (by simp)))
       have hB2 : Below w.heap.size w (V.alloc (Obj.cells (LA 257 (PF f m)) 224)) := ((hB.trans (hW.mono hB.size)).trans (hV.mono (Nat.le_trans hB.size hW.size))).alloc (Nat.le_trans hB.size (Nat.le_trans hW.size hV.size)) _
       exact ⟨a + n, ps ++ [(f, m)], fu, by omega, by simp; omega, by go_num, by omega, HX.out, by simpa using ho2, hB2.grown hg2 hsz fun k hk => (Hown.out.lt k hk).1⟩
      case measure => simp [intOf]; omega
    ·
     have hend : partsR (p.size + 1) p 0 = some ps := by rw [Hpr.out, partsR, if_neg hlt]; simp
     have HN := hide (HR.out _ hend)
     have hown := Hown.out
     clear hend HR Hpr Hown
     have HO := hide hown
     clear hown
     go_wp2_with fail
     go_ret2
     rw [HN.out]
     exact ⟨hB, _, rfl, HO.out⟩
end Go.Proofs.YtklibmijiecbfaaGreat.Gl

/- Policies: what they are, their words and lines, what is wrong with them; how texts are cut and joined. -/
namespace Go.Proofs.YtklibmijiecbfaaGreat

abbrev W8 := List UInt8

structure ACT where
 kind : Int
 errno : Int
structure NT where
 ip : Nat
 bits : Int
 lo : Int
 hi : Int
structure CD where
 arg : Int
 op : Int
 v : Nat
 m : Nat
 glob : ByteArray
 net : NT
structure RL where
 nr : Int
 conds : List CD
 act : ACT
structure POL where
 rules : List RL
 els : ACT

def actF (a : ACT) : Nat := if a.kind ≠ 1 ∧ a.kind ≠ 2 ∧ a.kind ≠ 3 then 3 else if a.kind ≠ 2 ∧ a.errno ≠ 0 then 3 else if a.kind = 2 ∧ (a.errno < 1 ∨ 255 < a.errno) then 1 else 0
def kindTab : List (List Nat) := [[1, 1, 0, 0], [1, 1, 0, 0], [2, 1, 1, 0], [1, 0, 0, 0], [2, 0, 0, 0], [2, 2, 0, 0], [1, 3, 0, 0], [2, 2, 1, 0], [1, 1, 3, 1]]
def kindAt (nr arg : Nat) : Nat := (kindTab.getD nr []).getD arg 0
def kindOp (op : Int) : Nat := if op = 8 then 2 else if op = 9 then 3 else 1
def netZ (n : NT) : Prop := n.ip = 0 ∧ n.bits = 0 ∧ n.lo = 0 ∧ n.hi = 0
instance (n : NT) : Decidable (netZ n) := by unfold netZ; infer_instance
def unusedP (c : CD) : Prop := (c.m ≠ 0 ∧ c.op ≠ 7) ∨ (c.v ≠ 0 ∧ (c.op = 8 ∨ c.op = 9)) ∨ (c.glob.size ≠ 0 ∧ c.op ≠ 8) ∨ (¬ netZ c.net ∧ c.op ≠ 9)
instance (c : CD) : Decidable (unusedP c) := by unfold unusedP; infer_instance
def globF (p : ByteArray) : Nat := match Gl.parseR p with
 | .inl n => n
 | .inr _ => 0
def netF (n : NT) : Nat := faultOf n.ip n.bits n.lo n.hi
def condF (nr : Nat) (c : CD) : Nat :=
 if c.arg < 0 ∨ 3 < c.arg ∨ c.op < 1 ∨ 9 < c.op then 1
 else if kindAt nr c.arg.toNat ≠ kindOp c.op ∨ unusedP c then 3
 else if c.op = 8 then globF c.glob else if c.op = 9 then netF c.net else 0
def firstF : List Nat → Nat
 | [] => 0
 | x :: r => if x = 0 then firstF r else x
def ruleF (r : RL) : Nat :=
 if r.nr < 0 ∨ 8 < r.nr then 1 else if 4 < r.conds.length then 2
 else if firstF (r.conds.map (condF r.nr.toNat)) = 0 then actF r.act else firstF (r.conds.map (condF r.nr.toNat))
def polF (p : POL) : Nat := if 12 < p.rules.length then 2 else if actF p.els = 0 then firstF (p.rules.map ruleF) else actF p.els

theorem firstF_zero : ∀ {l : List Nat}, firstF l = 0 ↔ ∀ x ∈ l, x = 0
 | [] => by simp [firstF]
 | x :: r => by
  by_cases h : x = 0
  ·
   simp [firstF, h, firstF_zero (l := r)]
  ·
   simp [firstF, h]

/-! Words. -/
def nameW : List W8 := [[114, 101, 97, 100], [119, 114, 105, 116, 101], [111, 112, 101, 110], [99, 108, 111, 115, 101], [115, 116, 97, 116], [114, 101, 110, 97, 109, 101], [99, 111, 110, 110, 101, 99, 116], [108, 105, 110, 107], [115, 101, 110, 100]]
def nameOf (nr : Int) : W8 := nameW.getD nr.toNat []
end Go.Proofs.YtklibmijiecbfaaGreat

/- Policies read: as the code reads (loosely), as the document reads; what is written is read, what is read was written. -/
namespace Go.Proofs.YtklibmijiecbfaaGreat

/-! The code's reading: what is read, and the words that are left. -/
def noNet : NT := ⟨0, 0, 0, 0⟩
/-! The document's. -/
end Go.Proofs.YtklibmijiecbfaaGreat

/- The bytes of a pattern: from 33 to 126, none is a quote. -/
namespace Go.Proofs.YtklibmijiecbfaaGreat.Gl
open Go.RowKit

def printB (n : Nat) : Prop := 33 ≤ n ∧ n ≤ 126 ∧ n ≠ 34
theorem name_print {n : Nat} (h : nameB n = true) : printB n := by
 simp [nameB] at h
 unfold printB
 omega
theorem sign_print {n : Nat} (h : signB n = true) : printB n := by
 simp [signB] at h
 unfold printB
 omega
theorem plain_print {n : Nat} (h : plainB n = true) : printB n := by
 simp [plainB] at h
 unfold printB
 omega
theorem member_print (s : ByteArray) (a : Nat) (ha : a < s.size) (h : memberAt s a ≠ 0) : ∀ i, a ≤ i → i < a + memberAt s a → printB (byteAt s i) := by
 intro i h1 h2
 unfold memberAt memberN at h h2
 by_cases n0 : nameB (byteAt s a) = true
 ·
  have p0 := name_print n0
  rw [if_pos n0] at h h2
  by_cases h3 : s.size - a < 2
  ·
   rw [if_pos h3] at h2
   obtain rfl : i = a := by omega
   exact p0
  ·
   rw [if_neg h3] at h h2
   by_cases h4 : byteAt s (a + 1) = 45
   ·
    rw [if_pos h4] at h h2
    by_cases h5 : s.size - a < 3
    ·
     rw [if_pos h5] at h; exact absurd rfl h
    ·
     rw [if_neg h5] at h h2
     by_cases h6 : nameB (byteAt s (a + 2)) = true
     ·
      rw [if_pos h6] at h h2
      by_cases h7 : byteAt s (a + 2) < byteAt s a
      ·
       rw [if_pos h7] at h; exact absurd rfl h
      ·
       rw [if_neg h7] at h2
       have p2 := name_print h6
       rcases (by omega : i = a ∨ i = a + 1 ∨ i = a + 2) with rfl | rfl | rfl
       ·
        exact p0
       ·
        rw [h4]; unfold printB; omega
       ·
        exact p2
     ·
      rw [if_neg h6] at h; exact absurd rfl h
   ·
    rw [if_neg h4] at h2
    obtain rfl : i = a := by omega
    exact p0
 ·
  rw [if_neg n0] at h; exact absurd rfl h
theorem scan_print : ∀ (k : Nat) (s : ByteArray) (a : Nat) (f : Nat → Bool) (b : Nat) (g : Nat → Bool), scan k s a f = some (b, g) → (∀ i, a ≤ i → i < b → printB (byteAt s i)) ∧ (b < s.size → byteAt s b = 93)
 | 0, _, _, _, _, _, h => by simp [scan] at h
 | k + 1, s, a, f, b, g, h => by
  rw [scan] at h
  split at h
  ·
   rename_i hc
   split at h
   ·
    simp at h
   ·
    rename_i hm
    have ih := scan_print k s _ _ b g h
    refine ⟨fun i h1 h2 => ?_, ih.2⟩
    by_cases hi : i < a + memberAt s a
    ·
     exact member_print s a hc.1 hm i h1 hi
    ·
     exact ih.1 i (by omega) h2
  ·
   rename_i hc
   simp only [Option.some.injEq, Prod.mk.injEq] at h
   obtain ⟨rfl, _⟩ := h
   refine ⟨fun i h1 h2 => by omega, fun hb => ?_⟩
   exact Classical.byContradiction fun hn => hc ⟨hb, hn⟩
theorem first_print {s : ByteArray} {f : Nat → Bool} {m : Bool} {n : Nat} (h : firstR s = some (f, m, n)) : ∀ i, i < n → printB (byteAt s i) := by
 unfold firstR at h
 split at h
 ·
  rename_i hst
  simp only [starsB, Bool.and_eq_true, decide_eq_true_eq, beq_iff_eq] at hst
  simp only [Option.some.injEq, Prod.mk.injEq] at h
  intro i hi
  rcases (by omega : i = 0 ∨ i = 1) with rfl | rfl
  ·
   rw [hst.1.2]; unfold printB; omega
  ·
   rw [hst.2]; unfold printB; omega
 ·
  split at h
  ·
   rename_i h0
   simp only [Option.some.injEq, Prod.mk.injEq] at h
   intro i hi
   obtain rfl : i = 0 := by omega
   rw [h0]; unfold printB; omega
  ·
   split at h
   ·
    rename_i h0
    simp only [Option.some.injEq, Prod.mk.injEq] at h
    intro i hi
    obtain rfl : i = 0 := by omega
    rw [h0]; unfold printB; omega
   ·
    split at h
    ·
     rename_i h0
     unfold classP at h
     cases hc : classR s with
     | none => simp [hc] at h
     | some x =>
      obtain ⟨g, k⟩ := x
      simp only [hc, Option.map_some, Option.some.injEq, Prod.mk.injEq] at h
      obtain ⟨rfl, rfl, rfl⟩ := h
      unfold classR at hc
      cases hsc : scan (s.size + 1) s (classBegin s) fun _ => false with
      | none => simp [hsc, classFin] at hc
      | some y =>
       obtain ⟨b, g'⟩ := y
       have hp := scan_print _ _ _ _ _ _ hsc
       simp only [hsc, classFin] at hc
       split at hc
       ·
        simp at hc
       ·
        rename_i hb
        simp only [Option.some.injEq, Prod.mk.injEq] at hc
        have hcb : classBegin s ≤ s.size ∧ (classBegin s = 1 ∨ classBegin s = 2 ∧ byteAt s 1 = 33) := by
         unfold classBegin
         split
         ·
          rename_i hn
          simp only [notB, Bool.and_eq_true, decide_eq_true_eq, beq_iff_eq] at hn
          exact ⟨by omega, .inr ⟨rfl, hn.2⟩⟩
         ·
          refine ⟨?_, .inl rfl⟩
          by_cases hs : s.size = 0
          ·
           have : byteAt s 0 = 0 := by unfold byteAt; rw [Lib.size_eq] at hs; rw [List.length_eq_zero_iff.1 hs]; rfl
           omega
          ·
           omega
        have hle := scan_le _ _ _ _ _ _ hcb.1 hsc
        have h93 := hp.2 (by omega)
        intro i hi
        by_cases h1 : i < classBegin s
        ·
         rcases (by omega : i = 0 ∨ i = 1 ∧ byteAt s 1 = 33) with rfl | ⟨rfl, h33⟩
         ·
          rw [h0]; unfold printB; omega
         ·
          rw [h33]; unfold printB; omega
        ·
         by_cases h2 : i < b
         ·
          exact hp.1 i (by omega) h2
         ·
          obtain rfl : i = b := by omega
          rw [h93]; unfold printB; omega
    ·
     split at h
     ·
      rename_i h0
      unfold escR at h
      split at h
      ·
       rename_i he
       simp only [Option.some.injEq, Prod.mk.injEq] at h
       intro i hi
       rcases (by omega : i = 0 ∨ i = 1) with rfl | rfl
       ·
        rw [h0]; unfold printB; omega
       ·
        exact sign_print he.2
      ·
       simp at h
     ·
      split at h
      ·
       rename_i h0
       simp only [Option.some.injEq, Prod.mk.injEq] at h
       intro i hi
       obtain rfl : i = 0 := by omega
       exact plain_print h0
      ·
       simp at h
theorem parts_print : ∀ (k : Nat) (s : ByteArray) (a : Nat) (ps : List Part), a ≤ s.size → partsR k s a = some ps → ∀ i, a ≤ i → i < s.size → printB (byteAt s i)
 | 0, _, _, _, _, h => by simp [partsR] at h
 | k + 1, s, a, ps, ha, h => by
  rw [partsR] at h
  split at h
  ·
   rename_i hlt
   split at h
   ·
    simp at h
   ·
    rename_i f m n hf
    have hb := firstR_bound (by rw [size_extract]; omega) hf
    rw [size_extract] at hb
    cases hr : partsR k s (a + n) with
    | none => simp [hr] at h
    | some qs =>
     intro i h1 h2
     by_cases hi : i < a + n
     ·
      have := first_print hf (i - a) (by omega)
      rwa [byteAt_extract s a (i - a) ha, show a + (i - a) = i by omega] at this
     ·
      exact parts_print k s (a + n) qs (by omega) hr i (by omega) h2
  ·
   intro i h1 h2; omega
theorem parse_print {p : ByteArray} {ps : List Part} (h : parseR p = .inr ps) : ∀ b ∈ p.data.toList, printB b.toNat := by
 unfold parseR at h
 split at h
 ·
  cases h
 ·
  split at h
  ·
   cases h
  ·
   split at h
   ·
    cases h
   ·
    rename_i qs hq
    intro b hb
    obtain ⟨i, hi, rfl⟩ := List.mem_iff_getElem.1 hb
    have := parts_print _ p 0 qs (Nat.zero_le _) hq i (Nat.zero_le _) (by rw [Lib.size_eq]; exact hi)
    unfold byteAt at this
    rwa [List.getD_eq_getElem?_getD, List.getElem?_eq_getElem hi, Option.getD_some] at this
theorem parse_size {p : ByteArray} {ps : List Part} (h : parseR p = .inr ps) : p.size ≤ 24 ∧ p.size ≠ 0 := by
 unfold parseR at h
 split at h
 ·
  cases h
 ·
  split at h
  ·
   cases h
  ·
   omega
end Go.Proofs.YtklibmijiecbfaaGreat.Gl

/- What is written is read; what is read was written. -/
namespace Go.Proofs.YtklibmijiecbfaaGreat

def I64 (n : Int) : Prop := -9223372036854775808 ≤ n ∧ n ≤ 9223372036854775807
theorem i64_nat {k : Nat} (h : k ≤ 4294967296) : I64 (k : Int) := by unfold I64; omega
structure AcOk (a : ACT) : Prop where
 kind : I64 a.kind
 errno : I64 a.errno
structure NtOk (n : NT) : Prop where
 ip : n.ip < 4294967296
 bits : I64 n.bits
 lo : I64 n.lo
 hi : I64 n.hi
structure CdOk (c : CD) : Prop where
 arg : I64 c.arg
 op : I64 c.op
 v : c.v < 18446744073709551616
 m : c.m < 18446744073709551616
 net : NtOk c.net
structure RlOk (r : RL) : Prop where
 nr : I64 r.nr
 conds : ∀ c ∈ r.conds, CdOk c
 act : AcOk r.act
structure PlOk (p : POL) : Prop where
 rules : ∀ r ∈ p.rules, RlOk r
 els : AcOk p.els

theorem act_cases {a : ACT} (h : actF a = 0) : a = ⟨1, 0⟩ ∨ a = ⟨3, 0⟩ ∨ ∃ n : Nat, 1 ≤ n ∧ n ≤ 255 ∧ a = ⟨2, n⟩ := by
 obtain ⟨k, e⟩ := a
 unfold actF at h
 simp only at h
 split at h
 ·
  cases h
 ·
  split at h
  ·
   cases h
  ·
   split at h
   ·
    cases h
   ·
    rename_i h1 h2 h3
    rcases (by omega : k = 1 ∨ k = 3 ∨ k = 2) with rfl | rfl | rfl
    ·
     left; congr; omega
    ·
     right; left; congr; omega
    ·
     right; right
     exact ⟨e.toNat, by omega, by omega, by congr; omega⟩
inductive Shape : CD → Prop
 | num (a k v : Nat) (ha : a ≤ 3) (h1 : 1 ≤ k) (h6 : k ≤ 6) (hv : v < 18446744073709551616) : Shape ⟨a, k, v, 0, ByteArray.empty, noNet⟩
 | mask (a v m : Nat) (ha : a ≤ 3) (hv : v < 18446744073709551616) (hm : m < 18446744073709551616) : Shape ⟨a, 7, v, m, ByteArray.empty, noNet⟩
 | like (a : Nat) (g : ByteArray) (ha : a ≤ 3) (hg : globF g = 0) : Shape ⟨a, 8, 0, 0, g, noNet⟩
 | net (a ip b lo hi : Nat) (ha : a ≤ 3) (hip : ip < 4294967296) (hf : faultOf ip b lo hi = 0) : Shape ⟨a, 9, 0, 0, ByteArray.empty, ⟨ip, b, lo, hi⟩⟩
theorem empty_of {g : ByteArray} (h : g.size = 0) : g = ByteArray.empty := ByteArray.size_eq_zero_iff.1 h
theorem cond_shape {nr : Nat} {c : CD} (h : condF nr c = 0) (hc : CdOk c) : Shape c := by
 obtain ⟨arg, op, v, m, g, ⟨ip, b, lo, hi⟩⟩ := c
 obtain ⟨_, _, hv, hm, ⟨hip, _, _, _⟩⟩ := hc
 unfold condF at h
 simp only at h hv hm hip
 split at h
 ·
  cases h
 ·
  rename_i h0
  split at h
  ·
   cases h
  ·
   rename_i h1
   rw [not_or] at h1
   have hu := h1.2
   unfold unusedP netZ at hu
   simp only [not_or, not_and, Classical.not_not] at hu
   obtain ⟨u1, u2, u3, u4⟩ := hu
   obtain ⟨a, rfl⟩ : ∃ a : Nat, arg = a := ⟨arg.toNat, by omega⟩
   obtain ⟨k, rfl⟩ : ∃ k : Nat, op = k := ⟨op.toNat, by omega⟩
   have ha : a ≤ 3 := by omega
   by_cases k8 : k = 8
   ·
    subst k8
    rw [if_pos (by omega)] at h
    obtain rfl : m = 0 := Classical.byContradiction fun e => by have := u1 e; omega
    obtain rfl : v = 0 := Classical.byContradiction fun e => by have := u2 e; omega
    obtain ⟨rfl, rfl, rfl, rfl⟩ : ip = 0 ∧ b = 0 ∧ lo = 0 ∧ hi = 0 := Classical.byContradiction fun e => by have := u4 (by simpa using e); omega
    exact Shape.like a g ha h
   ·
    have eg := empty_of (Classical.byContradiction fun e => k8 (by have := u3 e; omega))
    subst eg
    by_cases k9 : k = 9
    ·
     subst k9
     rw [if_neg (by omega), if_pos (by omega)] at h
     obtain rfl : m = 0 := Classical.byContradiction fun e => by have := u1 e; omega
     obtain rfl : v = 0 := Classical.byContradiction fun e => by have := u2 e; omega
     have hf := fault_ok (show faultOf ip b lo hi = 0 from h)
     obtain ⟨b, rfl⟩ : ∃ k : Nat, b = k := ⟨b.toNat, by omega⟩
     obtain ⟨lo, rfl⟩ : ∃ k : Nat, lo = k := ⟨lo.toNat, by omega⟩
     obtain ⟨hi, rfl⟩ : ∃ k : Nat, hi = k := ⟨hi.toNat, by omega⟩
     exact Shape.net a ip b lo hi ha hip h
    ·
     obtain ⟨rfl, rfl, rfl, rfl⟩ : ip = 0 ∧ b = 0 ∧ lo = 0 ∧ hi = 0 := Classical.byContradiction fun e => by have := u4 (by simpa using e); omega
     by_cases k7 : k = 7
     ·
      subst k7
      exact Shape.mask a v m ha hv hm
     ·
      obtain rfl : m = 0 := Classical.byContradiction fun e => by have := u1 e; omega
      exact Shape.num a k v ha (by omega) (by omega) hv

theorem nine {k : Nat} (h : k ≤ 8) : k = 0 ∨ k = 1 ∨ k = 2 ∨ k = 3 ∨ k = 4 ∨ k = 5 ∨ k = 6 ∨ k = 7 ∨ k = 8 := by omega
theorem glob_print {g : ByteArray} (h : globF g = 0) : (∀ b ∈ g.data.toList, Gl.printB b.toNat) ∧ g.size ≤ 24 := by
 unfold globF at h
 cases hp : Gl.parseR g with
 | inl n =>
  rw [hp] at h
  simp only at h
  unfold Gl.parseR at hp
  repeat' split at hp
  all_goals simp at hp
  all_goals omega
 | inr ps => exact ⟨Gl.parse_print hp, (Gl.parse_size hp).1⟩
end Go.Proofs.YtklibmijiecbfaaGreat

/- .. of whole policies. -/
namespace Go.Proofs.YtklibmijiecbfaaGreat

def ShapeAll (cs : List CD) : Prop := ∀ c ∈ cs, Shape c
structure RuleOk (r : RL) : Prop where
 nr0 : 0 ≤ r.nr
 nr8 : r.nr ≤ 8
 few : r.conds.length ≤ 4
 conds : ShapeAll r.conds
 act : actF r.act = 0
theorem rule_ok {r : RL} (h : ruleF r = 0) (hr : RlOk r) : RuleOk r := by
 unfold ruleF at h
 split at h
 ·
  cases h
 ·
  split at h
  ·
   cases h
  ·
   split at h
   ·
    rename_i h0 h1 h2
    refine ⟨by omega, by omega, by omega, fun c hc => ?_, h⟩
    exact cond_shape ((firstF_zero.1 h2) _ (List.mem_map.2 ⟨c, hc, rfl⟩)) (hr.conds c hc)
   ·
    rename_i h3
    exact absurd h h3
structure PolOk (p : POL) : Prop where
 few : p.rules.length ≤ 12
 rules : ∀ r ∈ p.rules, RuleOk r
 els : actF p.els = 0
theorem pol_ok {p : POL} (h : polF p = 0) (hp : PlOk p) : PolOk p := by
 unfold polF at h
 split at h
 ·
  cases h
 ·
  split at h
  ·
   rename_i h0 h1
   exact ⟨by omega, fun r hr => rule_ok ((firstF_zero.1 h) _ (List.mem_map.2 ⟨r, hr, rfl⟩)) (hp.rules r hr), h1⟩
  ·
   rename_i h2
   exact absurd h h2

end Go.Proofs.YtklibmijiecbfaaGreat

/- Policies as values and cells. -/
namespace Go.Proofs.YtklibmijiecbfaaGreat
open Go.RowKit

theorem box_below (w : World) (o : Obj) : Below w.heap.size w (w.alloc o) := (Below.refl _ _).alloc (Nat.le_refl _) _
theorem below_next {w w1 w2 : World} (a : Below w.heap.size w w1) (b : Below w1.heap.size w1 w2) : Below w.heap.size w w2 := a.trans (b.mono a.size)
theorem errV_zero : errV 0 = .nilIface := rfl
theorem errV_pos {f : Nat} (h : f ≠ 0) : errV f = .iface 82 (.int .i64 f) := if_neg h

def actV (a : ACT) : Value := .agg #[.int .i64 a.kind, .int .i64 a.errno]
def condV (c : CD) : Value := .agg #[.int .i64 c.arg, .int .i64 c.op, .int .u64 c.v, .int .u64 c.m, .string c.glob, .int .u32 c.net.ip, .int .i64 c.net.bits, .int .i64 c.net.lo, .int .i64 c.net.hi]
def ruleV (r : RL) (oa : Option Addr) (cap : Nat) : Value := .agg #[.int .i64 r.nr, .slice oa r.conds.length cap, .int .i64 r.act.kind, .int .i64 r.act.errno]
def polV (p : POL) (oa : Option Addr) (cap : Nat) : Value := .agg #[.slice oa p.rules.length cap, .int .i64 p.els.kind, .int .i64 p.els.errno]

structure CondAt (W : World) (b o : Nat) (c : CD) : Prop where
 k0 : W.cell? ⟨b, o, none⟩ = some (.int .i64 c.arg)
 k1 : W.cell? ⟨b, o + 1, none⟩ = some (.int .i64 c.op)
 k2 : W.cell? ⟨b, o + 2, none⟩ = some (.int .u64 c.v)
 k3 : W.cell? ⟨b, o + 3, none⟩ = some (.int .u64 c.m)
 k4 : W.cell? ⟨b, o + 4, none⟩ = some (.string c.glob)
 k5 : W.cell? ⟨b, o + 5, none⟩ = some (.int .u32 c.net.ip)
 k6 : W.cell? ⟨b, o + 6, none⟩ = some (.int .i64 c.net.bits)
 k7 : W.cell? ⟨b, o + 7, none⟩ = some (.int .i64 c.net.lo)
 k8 : W.cell? ⟨b, o + 8, none⟩ = some (.int .i64 c.net.hi)
 ok : CdOk c
theorem CondAt.on {W V : World} {b o : Nat} {x : CD} (h : CondAt W b o x) (hc : ∀ j, V.cell? ⟨b, j, none⟩ = W.cell? ⟨b, j, none⟩) : CondAt V b o x :=
 ⟨(hc _).trans h.k0, (hc _).trans h.k1, (hc _).trans h.k2, (hc _).trans h.k3, (hc _).trans h.k4, (hc _).trans h.k5, (hc _).trans h.k6, (hc _).trans h.k7, (hc _).trans h.k8, h.ok⟩
structure IsConds (oa : Option Addr) (cs : List CD) (W : World) : Prop where
 lie : 0 < cs.length → ∃ b off, oa = some ⟨b, off, none⟩ ∧ b < W.heap.size ∧ ∀ i c, cs[i]? = some c → CondAt W b (off + i * 9) c
theorem IsConds.on {oa : Option Addr} {cs : List CD} {W V : World} (h : IsConds oa cs W) (hb : Below W.heap.size W V) : IsConds oa cs V :=
 ⟨fun h0 => by
  obtain ⟨b, off, h1, h2, h3⟩ := h.lie h0
  exact ⟨b, off, h1, Nat.lt_of_lt_of_le h2 hb.size, fun i c hi => (h3 i c hi).on fun j => (bcell hb).1 b j h2⟩⟩
theorem IsConds.nil (oa : Option Addr) (W : World) : IsConds oa [] W := ⟨fun h => absurd h (Nat.lt_irrefl 0)⟩
structure RuleAt (W : World) (b o : Nat) (r : RL) (oa : Option Addr) (cap : Nat) : Prop where
 k0 : W.cell? ⟨b, o, none⟩ = some (.int .i64 r.nr)
 k1 : W.cell? ⟨b, o + 1, none⟩ = some (.slice oa r.conds.length cap)
 k2 : W.cell? ⟨b, o + 2, none⟩ = some (.int .i64 r.act.kind)
 k3 : W.cell? ⟨b, o + 3, none⟩ = some (.int .i64 r.act.errno)
 conds : IsConds oa r.conds W
 le : r.conds.length ≤ cap
 cap : cap ≤ maxLen
 ok : RlOk r
theorem RuleAt.on {W V : World} {b o : Nat} {r : RL} {oa : Option Addr} {cap : Nat} (h : RuleAt W b o r oa cap) (hw : b < W.heap.size) (hb : Below W.heap.size W V) : RuleAt V b o r oa cap :=
 have hc := fun j => (bcell hb).1 b j hw
 ⟨(hc _).trans h.k0, (hc _).trans h.k1, (hc _).trans h.k2, (hc _).trans h.k3, h.conds.on hb, h.le, h.cap, h.ok⟩
structure IsRules (oa : Option Addr) (rs : List RL) (W : World) : Prop where
 lie : 0 < rs.length → ∃ b off, oa = some ⟨b, off, none⟩ ∧ b < W.heap.size ∧ ∀ i r, rs[i]? = some r → ∃ ca ccap, RuleAt W b (off + i * 4) r ca ccap
theorem IsRules.on {oa : Option Addr} {rs : List RL} {W V : World} (h : IsRules oa rs W) (hb : Below W.heap.size W V) : IsRules oa rs V :=
 ⟨fun h0 => by
  obtain ⟨b, off, h1, h2, h3⟩ := h.lie h0
  refine ⟨b, off, h1, Nat.lt_of_lt_of_le h2 hb.size, fun i r hi => ?_⟩
  obtain ⟨ca, cc, h4⟩ := h3 i r hi
  exact ⟨ca, cc, h4.on h2 hb⟩⟩
theorem IsRules.nil (oa : Option Addr) (W : World) : IsRules oa [] W := ⟨fun h => absurd h (Nat.lt_irrefl 0)⟩
structure IsPol (oa : Option Addr) (cap : Nat) (p : POL) (W : World) : Prop where
 rules : IsRules oa p.rules W
 le : p.rules.length ≤ cap
 cap : cap ≤ maxLen
 ok : PlOk p
theorem IsPol.on {oa : Option Addr} {cap : Nat} {p : POL} {W V : World} (h : IsPol oa cap p W) (hb : Below W.heap.size W V) : IsPol oa cap p V := ⟨h.rules.on hb, h.le, h.cap, h.ok⟩
end Go.Proofs.YtklibmijiecbfaaGreat

/- strconv.FormatUint at base 10, by the contracts that FormatInt's stands on. -/
namespace Go.Proofs.YtklibmijiecbfaaGreat
open Go.RowKit Go.Sort

end Go.Proofs.YtklibmijiecbfaaGreat
