/- The composite literals of a part, as the table of types gives them. -/
import Derived.Test.YtklibmijiecbfaaGreatK3
import Derived.Laws.ResultCell
namespace Go.Proofs.YtklibmijiecbfaaGreat.Gl
open Go.RowKit
theorem wpList_build_one {P : Program} {ops : Array Oper} {rest : List Oper} {o : Oper} {a : Act} {w : World} {Q : Exit → Act → World → Prop} (hg : o.guard = none) (t : TypeId) (i : Nat) (x : Operand) (ho : o.op = .build t #[(i, x)])
  (v : Value) (hx : a.eval x = v) (cells : Array Value) (hf : P.built t [(i, v)] = some cells) (h : wpList P ops Q rest (a.put o.dst (.agg cells)) w) : wpList P ops Q (o :: rest) a w :=
 wpList_buildTo hg t #[(i, x)] ho _ rfl cells (by simpa [hx] using hf) h
theorem wpList_build_two {P : Program} {ops : Array Oper} {rest : List Oper} {o : Oper} {a : Act} {w : World} {Q : Exit → Act → World → Prop} (hg : o.guard = none) (t : TypeId) (i j : Nat) (x y : Operand) (ho : o.op = .build t #[(i, x), (j, y)])
  (v u : Value) (hx : a.eval x = v) (hy : a.eval y = u) (cells : Array Value) (hf : P.built t [(i, v), (j, u)] = some cells) (h : wpList P ops Q rest (a.put o.dst (.agg cells)) w) : wpList P ops Q (o :: rest) a w :=
 wpList_buildTo hg t #[(i, x), (j, y)] ho _ rfl cells (by simpa [hx, hy] using hf) h
theorem built_part1 (f : Nat → Bool) : Tryz.prog.built 224 [(0, .agg (LA 256 f))] = some (LA 257 (PF f false)) := by rw [LA_eq, LA_eq]; kernel_rfl
theorem built_part2 (f : Nat → Bool) (m : Bool) : Tryz.prog.built 224 [(0, .agg (LA 256 f)), (1, .bool m)] = some (LA 257 (PF f m)) := by rw [LA_eq, LA_eq]; kernel_rfl
end Go.Proofs.YtklibmijiecbfaaGreat.Gl

/- The walk of glob.class. -/
namespace Go.Proofs.YtklibmijiecbfaaGreat.Gl
open Go.RowKit
attribute [local go_sem] LA_set LA_get LA_size LA_at

theorem results_part {fn : Func} {p u : Tmp} (h : fn.results = #[.cell p 224, .tmp u]) (tmps : Array Value) (w : World) (g : Nat) (f : Nat → Bool) (v : Value) (t' : TypeId)
  (hp : tmps.getD p undef = .pointer (some ⟨g, 0, none⟩)) (hv : tmps.getD u undef = v) (hg : w.heap[g]? = some (.cells (LA 257 f) t' (0, 0))) :
  (results fn tmps).run Tryz.prog w = .ok (.tuple #[.agg (LA 257 f), v]) w := by
 rw [results_cell_tmp h, hp, hv]
 have hl := run_loadVar_row (P := Tryz.prog) w g t' 224 (LA 257 f) (0, 0) _ hg Tryz.underlying224 rfl (by rw [LA_size]; exact size_part)
 simp [asAddr, hl]

theorem prefix_bang (s : ByteArray) (hs : 1 ≤ s.size) (w : World) :
  Calls Tryz.prog 131 #[.string (s.extract 1 s.size), .string ⟨#[33]⟩] w fun e w' => e = .returned (.bool (notB s)) ∧ w' = w :=
 (strings_HasPrefix (s.extract 1 s.size) ⟨#[33]⟩ w).mono fun e w' ⟨he, hw⟩ => ⟨by rw [he]; exact ret_bool (hasPrefix_not s hs), hw⟩

theorem member_from (s : ByteArray) (a : Nat) (ha : a < s.size) (hz : s.size ≤ 1000) (w : World) :
  Calls Tryz.prog 138 #[.string (s.extract a s.size)] w fun e w' => e = .returned (.int .i64 (memberAt s a)) ∧ ∃ n, w' = w.drewN n :=
 (member_any (s.extract a s.size) (by rw [size_extract]; omega) (by rw [size_extract]; omega) w).mono fun e w' ⟨he, hw⟩ => ⟨by
  rw [he, byteAt_extract s a 0 (by omega), byteAt_extract s a 1 (by omega), byteAt_extract s a 2 (by omega), size_extract]; rfl, hw⟩

theorem wpList_forget {P : Program} {ops : Array Oper} {r : List Oper} {Q : Exit → Act → World → Prop} {a : Act} {W0 : World} (F : World → Prop) (h : F W0) (H : ∀ W, F W → wpList P ops Q r a W) : wpList P ops Q r a W0 := H _ h

def CV (w : World) (g : Nat → Bool) (V : World) : Prop := Below w.heap.size w V ∧ V.heap[w.heap.size]? = some (.cells (LA 257 fun _ => false) 224 (0, 0)) ∧ V.heap[w.heap.size + 1]? = some (.cells (LA 256 g) 222 (0, 0))

def classV (s : ByteArray) : Value := match classR s with
 | none => .tuple #[.agg (LA 257 fun _ => false), .int .i64 0]
 | some (f, n) => .tuple #[.agg (LA 257 (PF f false)), .int .i64 n]
theorem classV_none {s : ByteArray} (h : classR s = none) : classV s = .tuple #[.agg (LA 257 fun _ => false), .int .i64 0] := by unfold classV; rw [h]
theorem classV_some {s : ByteArray} {f : Nat → Bool} {n : Nat} (h : classR s = some (f, n)) : classV s = .tuple #[.agg (LA 257 (PF f false)), .int .i64 n] := by unfold classV; rw [h]

def CW (w : World) (f : Nat → Bool) (m : Nat) : World := ((w.alloc (.cells (LA 257 fun _ => false) 224)).alloc (.cells (LA 256 f) 222)).drewN m
theorem CW_heap0 (w : World) (f : Nat → Bool) (m : Nat) : (CW w f m).heap[w.heap.size]? = some (.cells (LA 257 fun _ => false) 224 (0, 0)) := heap_alloc2_old _ _ _
theorem CW_heap1 (w : World) (f : Nat → Bool) (m : Nat) : (CW w f m).heap[w.heap.size + 1]? = some (.cells (LA 256 f) 222 (0, 0)) := heap_alloc2_new _ _ _
theorem CW_row (w : World) (f g : Nat → Bool) (m : Nat) : (CW w f m).setRow (w.heap.size + 1) (LA 256 g) = CW w g m := by
 have h := World.setRow_alloc_new (w.alloc (.cells (LA 257 fun _ => false) 224)) (LA 256 f) (LA 256 g) 222
 have e : (w.alloc (.cells (LA 257 fun _ => false) 224)).heap.size = w.heap.size + 1 := by simp
 rw [e] at h
 have e2 : (CW w f m).setRow (w.heap.size + 1) (LA 256 g) = (((w.alloc (.cells (LA 257 fun _ => false) 224)).alloc (.cells (LA 256 f) 222)).setRow (w.heap.size + 1) (LA 256 g)).drewN m := rfl
 rw [e2, h]
 rfl
theorem CW_cell (w : World) (f : Nat → Bool) (m i : Nat) (h : i < 256) : (CW w f m).cell? ⟨w.heap.size + 1, i, none⟩ = some (.bool (f i)) := by
 rw [cell_of_row _ _ i _ _ _ (CW_heap1 w f m), LA_get 256 f i h]
theorem CW_frozen (w : World) (f : Nat → Bool) (m i : Nat) : (CW w f m).frozen? ⟨w.heap.size + 1, i, none⟩ = false := frozen_of_row _ _ i _ _ (CW_heap1 w f m)
theorem CW_set (w : World) (f : Nat → Bool) (m i : Nat) (b : Bool) : (CW w f m).setCell ⟨w.heap.size + 1, i, none⟩ (.bool b) = CW w (upd f i b) m := by
 rw [setCell_eq_setRow _ _ i _ _ _ _ (CW_heap1 w f m), LA_set]
 exact CW_row w f (upd f i b) m
theorem CW_drewN (w : World) (f : Nat → Bool) (m n : Nat) : (CW w f m).drewN n = CW w f (m + n) := by unfold CW; rw [World.drewN_drewN]
theorem CW_start (w : World) : CW w (fun _ => false) 0 = (w.alloc (.cells (LA 257 fun _ => false) 224)).alloc (.cells (LA 256 fun _ => false) 222) := World.drewN_zero _
theorem CW_size (w : World) (f : Nat → Bool) (m : Nat) : w.heap.size + 1 < (CW w f m).heap.size := by show _ < (World.alloc _ _).heap.size; simp
theorem CW_below (w : World) (f : Nat → Bool) (m : Nat) : Below w.heap.size w (CW w f m) := below_drewN' (((Below.refl _ _).alloc (Nat.le_refl _) _).alloc (by simp) _) m
theorem CV_of {w W1 : World} {f : Nat → Bool} {m : Nat} (h : Below (CW w f m).heap.size (CW w f m) W1) : CV w (fun i => !f i) (W1.setRow (w.heap.size + 1) (LA 256 fun i => !f i)) := by
 have hz := CW_size w f m
 refine ⟨below_setRow ((CW_below w f m).trans (h.mono (by omega))) (by omega) _, ?_, ?_⟩
 ·
  rw [setRow_other _ _ _ _ (by omega), h.block _ (by omega)]; exact CW_heap0 w f m
 ·
  exact heap_setRow_same _ ((h.block _ hz).trans (CW_heap1 w f m))
attribute [local go_sem] CW_cell CW_frozen CW_set CW_drewN

set_option maxRecDepth 10000 in
set_option maxHeartbeats 1000000 in
theorem class_no (s : ByteArray) (hs : 1 ≤ s.size) (hz : s.size ≤ 1000) (hn : notB s = false) (w : World) :
  Calls Tryz.prog 134 #[.string s] w fun e w' => e = .returned (classV s) ∧ Below w.heap.size w w' := by
 have hB : classBegin s = 1 := by unfold classBegin; rw [hn]; rfl
 have hC : classR s = classFin false 1 s.size (scan (s.size + 1) s 1 fun _ => false) := by unfold classR; rw [hn, hB]
 have HC := hide hC
 clear hC hB
 have zl := zv_like
 have zp := zv_part
 have bp0 := build_part0
 have hBs : 1 ≤ s.size := by omega
 go_enter Tryz.func134, Tryz.ntmps134
 go_wp2_with (go_at_call 131; refine (prefix_bang s hs _).mono ?_; rintro e w' ⟨rfl, rfl⟩)
 rw [← CW_start]
 go_loopw [4] (fun a w' => ∃ (k : Nat) (f : Nat → Bool) (m fuel : Nat), 1 ≤ k ∧ k ≤ s.size ∧ a = .int .i64 k ∧ w' = CW w f m ∧ s.size - k < fuel ∧ scan fuel s k f = scan (s.size + 1) s 1 (fun _ => false)) (fun a _ => s.size - (intOf a).toNat)
 case atStart => exact ⟨1, _, 0, s.size + 1, by omega, by omega, rfl, rfl, by omega, rfl⟩
 case round =>
  obtain ⟨k, f, m, fuel, hk1, hk2, rfl, rfl, hfuel, hsc⟩ := hrel
  have Hsc := hide hsc
  clear hsc
  obtain ⟨fu, rfl⟩ : ∃ fu, fuel = fu + 1 := ⟨fuel - 1, by omega⟩
  by_cases hgo : k < s.size ∧ byteAt s k ≠ 93
  ·
   obtain ⟨hlt, hne⟩ := hgo
   have ek := byteAt_eq s k hlt
   have bk : (((byteAt s k : Nat) : Int) != 93) = true := by rw [bne_iff_ne]; omega
   have dk : decide ((k : Int) < (s.size : Int)) = true := by simp; omega
   have hml := memberAt_le s k hlt
   by_cases hm0 : memberAt s k = 0
   ·
    have hR : classR s = none := by rw [HC.out, ← Hsc.out, scan, if_pos ⟨hlt, hne⟩, if_pos hm0]; rfl
    have HV := hide (classV_none hR)
    have bm : (((memberAt s k : Nat) : Int) == 0) = true := by rw [beq_iff_eq]; omega
    clear hR HC Hsc hm0
    go_wp2_with (first | (go_at_call 138; refine (member_from s k hlt hz _).mono ?_; rintro e w' ⟨rfl, nd, rfl⟩) | (refine wpList_store_LA 224 257 rfl _ _ rfl (w.heap.size) ?_ (fun _ => false) ?_ size_part (fun _ => false) 224 ?_ ?_; (· rfl); (· rfl); (· with_reducible exact CW_heap0 _ _ _)) | (refine bodyPost_ret (results_part rfl _ _ w.heap.size (fun _ => false) (.int .i64 0) 224 rfl rfl (heap_setRow_same _ (CW_heap0 _ _ _))) rfl ⟨?_, ?_⟩; (· rw [HV.out]); (· exact below_setRow (CW_below _ _ _) (Nat.le_refl _) _)))
   ·
    have hm1 : 1 ≤ memberAt s k := by omega
    have bm : (((memberAt s k : Nat) : Int) == 0) = false := by rw [beq_eq_false_iff_ne]; omega
    have hsc' : scan fu s (k + memberAt s k) (addRange f (byteAt s k) (byteAt s (k + memberAt s k - 1))) = scan (s.size + 1) s 1 (fun _ => false) := by rw [← Hsc.out, scan, if_pos ⟨hlt, hne⟩, if_neg hm0]
    have Hsc' := hide hsc'
    clear hsc' Hsc hm0
    have hi256 := byteAt_lt s (k + memberAt s k - 1)
    have ehi := byteAt_eq s (k + memberAt s k - 1) (by omega)
    have lo256 := byteAt_lt s k
    go_wp2_with (first | (go_at_call 138; refine (member_from s k hlt hz _).mono ?_; rintro e w' ⟨rfl, nd, rfl⟩))
    go_loopw [35] (fun c w' => ∃ j : Nat, j ≤ 256 ∧ c = .int .i64 j ∧ w' = CW w (addTo f (byteAt s k) (byteAt s (k + memberAt s k - 1)) j) (m + nd)) (fun c _ => 256 - (intOf c).toNat)
    case atStart => exact ⟨0, by omega, rfl, by rw [addTo_zero]⟩
    case round =>
     obtain ⟨j, hj, rfl, rfl⟩ := hrel
     by_cases hlj : j < 256
     ·
      by_cases h1 : byteAt s k ≤ j
      ·
       by_cases h2 : j ≤ byteAt s (k + memberAt s k - 1)
       ·
        go_wp2_with fail
        go_roundw
        case rel => exact ⟨j + 1, by omega, by go_num, by rw [addTo_yes _ _ _ _ h1 h2]⟩
        case measure => simp [intOf]; omega
       ·
        go_wp2_with fail
        go_roundw
        case rel => exact ⟨j + 1, by omega, by go_num, by rw [addTo_no _ _ _ _ (fun h => h2 h.2)]⟩
        case measure => simp [intOf]; omega
      ·
       go_wp2_with fail
       go_roundw
       case rel => exact ⟨j + 1, by omega, by go_num, by rw [addTo_no _ _ _ _ (fun h => h1 h.1)]⟩
       case measure => simp [intOf]; omega
     ·
      have ej : j = 256 := by omega
      have Ej := hide ej
      clear ej
      go_wp2_with fail
      go_roundw
      case rel => exact ⟨k + memberAt s k, addRange f (byteAt s k) (byteAt s (k + memberAt s k - 1)), m + nd, fu, by omega, by omega, by go_num, by rw [Ej.out, addTo_all _ _ _ hi256], by omega, Hsc'.out⟩
      case measure => simp [intOf]; omega
  ·
   have hsn : scan (fu + 1) s k f = some (k, f) := by rw [scan, if_neg hgo]
   have hR0 : classR s = classFin false 1 s.size (some (k, f)) := by rw [HC.out, ← Hsc.out, hsn]
   clear HC Hsc hsn
   by_cases hend : k = s.size
   ·
    have hR : classR s = none := by rw [hR0]; simp [classFin, hend]
    have HV := hide (classV_none hR)
    have dk : decide ((k : Int) < (s.size : Int)) = false := by simp; omega
    have be : ((k : Int) == (s.size : Int)) = true := by rw [beq_iff_eq]; omega
    clear hR hR0 hend hgo
    by_cases hb : k = 1
    ·
     have bb : ((k : Int) == 1) = true := by rw [beq_iff_eq]; omega
     clear hb
     go_wp2_with (first | (refine wpList_store_LA 224 257 rfl _ _ rfl (w.heap.size) ?_ (fun _ => false) ?_ size_part (fun _ => false) 224 ?_ ?_; (· rfl); (· rfl); (· with_reducible exact CW_heap0 _ _ _)) | (refine bodyPost_ret (results_part rfl _ _ w.heap.size (fun _ => false) (.int .i64 0) 224 rfl rfl (heap_setRow_same _ (CW_heap0 _ _ _))) rfl ⟨?_, ?_⟩; (· rw [HV.out]); (· exact below_setRow (CW_below _ _ _) (Nat.le_refl _) _)))
    ·
     have bb : ((k : Int) == 1) = false := by rw [beq_eq_false_iff_ne]; omega
     clear hb
     go_wp2_with (first | (refine wpList_store_LA 224 257 rfl _ _ rfl (w.heap.size) ?_ (fun _ => false) ?_ size_part (fun _ => false) 224 ?_ ?_; (· rfl); (· rfl); (· with_reducible exact CW_heap0 _ _ _)) | (refine bodyPost_ret (results_part rfl _ _ w.heap.size (fun _ => false) (.int .i64 0) 224 rfl rfl (heap_setRow_same _ (CW_heap0 _ _ _))) rfl ⟨?_, ?_⟩; (· rw [HV.out]); (· exact below_setRow (CW_below _ _ _) (Nat.le_refl _) _)))
   ·
    have hlt : k < s.size := by omega
    have h93 : byteAt s k = 93 := Decidable.byContradiction fun h => hgo ⟨hlt, h⟩
    have ek := byteAt_eq s k hlt
    have bk : (((byteAt s k : Nat) : Int) != 93) = false := by rw [bne_eq_false_iff_eq]; omega
    have dk : decide ((k : Int) < (s.size : Int)) = true := by simp; omega
    have be : ((k : Int) == (s.size : Int)) = false := by rw [beq_eq_false_iff_ne]; omega
    clear hgo h93
    by_cases hb : k = 1
    ·
     have hR : classR s = none := by rw [hR0]; simp [classFin, hb]
     have HV := hide (classV_none hR)
     have bb : ((k : Int) == 1) = true := by rw [beq_iff_eq]; omega
     clear hR hR0 hb hend
     go_wp2_with (first | (refine wpList_store_LA 224 257 rfl _ _ rfl (w.heap.size) ?_ (fun _ => false) ?_ size_part (fun _ => false) 224 ?_ ?_; (· rfl); (· rfl); (· with_reducible exact CW_heap0 _ _ _)) | (refine bodyPost_ret (results_part rfl _ _ w.heap.size (fun _ => false) (.int .i64 0) 224 rfl rfl (heap_setRow_same _ (CW_heap0 _ _ _))) rfl ⟨?_, ?_⟩; (· rw [HV.out]); (· exact below_setRow (CW_below _ _ _) (Nat.le_refl _) _)))
    ·
     have hR : classR s = some (upd f 47 false, k + 1) := by rw [hR0]; simp [classFin, hb, hend]
     have HV := hide (classV_some hR)
     have bb : ((k : Int) == 1) = false := by rw [beq_eq_false_iff_ne]; omega
     clear hR hR0 hb hend
     go_wp2_with (first | (refine wpList_build_one rfl 224 _ _ rfl (.agg (LA 256 (upd f 47 false))) ?_ _ (built_part1 _) ?_; (· rfl)) | (refine wpList_load_LA 222 256 256 4 rfl _ rfl (w.heap.size + 1) ?_ Tryz.underlying222 size_like (upd f 47 false) 222 ?_ ?_; (· rfl); (· with_reducible exact CW_heap1 _ _ _)) | (refine wpList_store_LA 224 257 rfl _ _ rfl (w.heap.size) ?_ (PF (upd f 47 false) false) ?_ size_part (fun _ => false) 224 ?_ ?_; (· rfl); (· rfl); (· with_reducible exact CW_heap0 _ _ _)) | (refine bodyPost_ret (results_part rfl _ _ w.heap.size (PF (upd f 47 false) false) (.int .i64 ((k : Int) + 1)) 224 rfl rfl (heap_setRow_same _ (CW_heap0 _ _ _))) rfl ⟨?_, ?_⟩; (· rw [HV.out]; rfl); (· exact below_setRow (CW_below _ _ _) (Nat.le_refl _) _)))

set_option maxRecDepth 10000 in
set_option maxHeartbeats 1000000 in
theorem class_yes (s : ByteArray) (hs : 1 ≤ s.size) (hz : s.size ≤ 1000) (hn : notB s = true) (w : World) :
  Calls Tryz.prog 134 #[.string s] w fun e w' => e = .returned (classV s) ∧ Below w.heap.size w w' := by
 have hB : classBegin s = 2 := by unfold classBegin; rw [hn]; rfl
 have hC : classR s = classFin true 2 s.size (scan (s.size + 1) s 2 fun _ => false) := by unfold classR; rw [hn, hB]
 have HC := hide hC
 clear hC hB
 have zl := zv_like
 have zp := zv_part
 have bp0 := build_part0
 have hBs : 2 ≤ s.size := by simp [notB] at hn; omega
 go_enter Tryz.func134, Tryz.ntmps134
 go_wp2_with (go_at_call 131; refine (prefix_bang s hs _).mono ?_; rintro e w' ⟨rfl, rfl⟩)
 rw [← CW_start]
 go_loopw [4] (fun a w' => ∃ (k : Nat) (f : Nat → Bool) (m fuel : Nat), 2 ≤ k ∧ k ≤ s.size ∧ a = .int .i64 k ∧ w' = CW w f m ∧ s.size - k < fuel ∧ scan fuel s k f = scan (s.size + 1) s 2 (fun _ => false)) (fun a _ => s.size - (intOf a).toNat)
 case atStart => exact ⟨2, _, 0, s.size + 1, by omega, by omega, rfl, rfl, by omega, rfl⟩
 case round =>
  obtain ⟨k, f, m, fuel, hk1, hk2, rfl, rfl, hfuel, hsc⟩ := hrel
  have Hsc := hide hsc
  clear hsc
  obtain ⟨fu, rfl⟩ : ∃ fu, fuel = fu + 1 := ⟨fuel - 1, by omega⟩
  by_cases hgo : k < s.size ∧ byteAt s k ≠ 93
  ·
   obtain ⟨hlt, hne⟩ := hgo
   have ek := byteAt_eq s k hlt
   have bk : (((byteAt s k : Nat) : Int) != 93) = true := by rw [bne_iff_ne]; omega
   have dk : decide ((k : Int) < (s.size : Int)) = true := by simp; omega
   have hml := memberAt_le s k hlt
   by_cases hm0 : memberAt s k = 0
   ·
    have hR : classR s = none := by rw [HC.out, ← Hsc.out, scan, if_pos ⟨hlt, hne⟩, if_pos hm0]; rfl
    have HV := hide (classV_none hR)
    have bm : (((memberAt s k : Nat) : Int) == 0) = true := by rw [beq_iff_eq]; omega
    clear hR HC Hsc hm0
    go_wp2_with (first | (go_at_call 138; refine (member_from s k hlt hz _).mono ?_; rintro e w' ⟨rfl, nd, rfl⟩) | (refine wpList_store_LA 224 257 rfl _ _ rfl (w.heap.size) ?_ (fun _ => false) ?_ size_part (fun _ => false) 224 ?_ ?_; (· rfl); (· rfl); (· with_reducible exact CW_heap0 _ _ _)) | (refine bodyPost_ret (results_part rfl _ _ w.heap.size (fun _ => false) (.int .i64 0) 224 rfl rfl (heap_setRow_same _ (CW_heap0 _ _ _))) rfl ⟨?_, ?_⟩; (· rw [HV.out]); (· exact below_setRow (CW_below _ _ _) (Nat.le_refl _) _)))
   ·
    have hm1 : 1 ≤ memberAt s k := by omega
    have bm : (((memberAt s k : Nat) : Int) == 0) = false := by rw [beq_eq_false_iff_ne]; omega
    have hsc' : scan fu s (k + memberAt s k) (addRange f (byteAt s k) (byteAt s (k + memberAt s k - 1))) = scan (s.size + 1) s 2 (fun _ => false) := by rw [← Hsc.out, scan, if_pos ⟨hlt, hne⟩, if_neg hm0]
    have Hsc' := hide hsc'
    clear hsc' Hsc hm0
    have hi256 := byteAt_lt s (k + memberAt s k - 1)
    have ehi := byteAt_eq s (k + memberAt s k - 1) (by omega)
    have lo256 := byteAt_lt s k
    go_wp2_with (first | (go_at_call 138; refine (member_from s k hlt hz _).mono ?_; rintro e w' ⟨rfl, nd, rfl⟩))
    go_loopw [35] (fun c w' => ∃ j : Nat, j ≤ 256 ∧ c = .int .i64 j ∧ w' = CW w (addTo f (byteAt s k) (byteAt s (k + memberAt s k - 1)) j) (m + nd)) (fun c _ => 256 - (intOf c).toNat)
    case atStart => exact ⟨0, by omega, rfl, by rw [addTo_zero]⟩
    case round =>
     obtain ⟨j, hj, rfl, rfl⟩ := hrel
     by_cases hlj : j < 256
     ·
      by_cases h1 : byteAt s k ≤ j
      ·
       by_cases h2 : j ≤ byteAt s (k + memberAt s k - 1)
       ·
        go_wp2_with fail
        go_roundw
        case rel => exact ⟨j + 1, by omega, by go_num, by rw [addTo_yes _ _ _ _ h1 h2]⟩
        case measure => simp [intOf]; omega
       ·
        go_wp2_with fail
        go_roundw
        case rel => exact ⟨j + 1, by omega, by go_num, by rw [addTo_no _ _ _ _ (fun h => h2 h.2)]⟩
        case measure => simp [intOf]; omega
      ·
       go_wp2_with fail
       go_roundw
       case rel => exact ⟨j + 1, by omega, by go_num, by rw [addTo_no _ _ _ _ (fun h => h1 h.1)]⟩
       case measure => simp [intOf]; omega
     ·
      have ej : j = 256 := by omega
      have Ej := hide ej
      clear ej
      go_wp2_with fail
      go_roundw
      case rel => exact ⟨k + memberAt s k, addRange f (byteAt s k) (byteAt s (k + memberAt s k - 1)), m + nd, fu, by omega, by omega, by go_num, by rw [Ej.out, addTo_all _ _ _ hi256], by omega, Hsc'.out⟩
      case measure => simp [intOf]; omega
  ·
   have hsn : scan (fu + 1) s k f = some (k, f) := by rw [scan, if_neg hgo]
   have hR0 : classR s = classFin true 2 s.size (some (k, f)) := by rw [HC.out, ← Hsc.out, hsn]
   clear HC Hsc hsn
   by_cases hend : k = s.size
   ·
    have hR : classR s = none := by rw [hR0]; simp [classFin, hend]
    have HV := hide (classV_none hR)
    have dk : decide ((k : Int) < (s.size : Int)) = false := by simp; omega
    have be : ((k : Int) == (s.size : Int)) = true := by rw [beq_iff_eq]; omega
    clear hR hR0 hend hgo
    by_cases hb : k = 2
    ·
     have bb : ((k : Int) == 2) = true := by rw [beq_iff_eq]; omega
     clear hb
     go_wp2_with (first | (refine wpList_store_LA 224 257 rfl _ _ rfl (w.heap.size) ?_ (fun _ => false) ?_ size_part (fun _ => false) 224 ?_ ?_; (· rfl); (· rfl); (· with_reducible exact CW_heap0 _ _ _)) | (refine bodyPost_ret (results_part rfl _ _ w.heap.size (fun _ => false) (.int .i64 0) 224 rfl rfl (heap_setRow_same _ (CW_heap0 _ _ _))) rfl ⟨?_, ?_⟩; (· rw [HV.out]); (· exact below_setRow (CW_below _ _ _) (Nat.le_refl _) _)))
    ·
     have bb : ((k : Int) == 2) = false := by rw [beq_eq_false_iff_ne]; omega
     clear hb
     go_wp2_with (first | (refine wpList_store_LA 224 257 rfl _ _ rfl (w.heap.size) ?_ (fun _ => false) ?_ size_part (fun _ => false) 224 ?_ ?_; (· rfl); (· rfl); (· with_reducible exact CW_heap0 _ _ _)) | (refine bodyPost_ret (results_part rfl _ _ w.heap.size (fun _ => false) (.int .i64 0) 224 rfl rfl (heap_setRow_same _ (CW_heap0 _ _ _))) rfl ⟨?_, ?_⟩; (· rw [HV.out]); (· exact below_setRow (CW_below _ _ _) (Nat.le_refl _) _)))
   ·
    have hlt : k < s.size := by omega
    have h93 : byteAt s k = 93 := Decidable.byContradiction fun h => hgo ⟨hlt, h⟩
    have ek := byteAt_eq s k hlt
    have bk : (((byteAt s k : Nat) : Int) != 93) = false := by rw [bne_eq_false_iff_eq]; omega
    have dk : decide ((k : Int) < (s.size : Int)) = true := by simp; omega
    have be : ((k : Int) == (s.size : Int)) = false := by rw [beq_eq_false_iff_ne]; omega
    clear hgo h93
    by_cases hb : k = 2
    ·
     have hR : classR s = none := by rw [hR0]; simp [classFin, hb]
     have HV := hide (classV_none hR)
     have bb : ((k : Int) == 2) = true := by rw [beq_iff_eq]; omega
     clear hR hR0 hb hend
     go_wp2_with (first | (refine wpList_store_LA 224 257 rfl _ _ rfl (w.heap.size) ?_ (fun _ => false) ?_ size_part (fun _ => false) 224 ?_ ?_; (· rfl); (· rfl); (· with_reducible exact CW_heap0 _ _ _)) | (refine bodyPost_ret (results_part rfl _ _ w.heap.size (fun _ => false) (.int .i64 0) 224 rfl rfl (heap_setRow_same _ (CW_heap0 _ _ _))) rfl ⟨?_, ?_⟩; (· rw [HV.out]); (· exact below_setRow (CW_below _ _ _) (Nat.le_refl _) _)))
    ·
     have hR : classR s = some (upd (fun i => !f i) 47 false, k + 1) := by rw [hR0]; simp [classFin, hb, hend]
     have HV := hide (classV_some hR)
     have bb : ((k : Int) == 2) = false := by rw [beq_eq_false_iff_ne]; omega
     clear hR hR0 hb hend
     go_wp2_with (first | (refine wpList_build_one rfl 224 _ _ rfl (.agg (LA 256 (upd (fun i => !f i) 47 false))) ?_ _ (built_part1 _) ?_; (· rfl)) | (refine wpList_load_LA 222 256 256 4 rfl _ rfl (w.heap.size + 1) ?_ Tryz.underlying222 size_like f 222 ?_ ?_; (· rfl); (· with_reducible exact CW_heap1 _ _ _)) | (go_at_call 132; refine (others_any f _).mono ?_; rintro e W1 ⟨rfl, hW1⟩) | (refine wpList_store_LA 222 256 rfl _ _ rfl (w.heap.size + 1) ?_ (fun i => !f i) ?_ size_like f 222 ?_ ?_; (· rfl); (· rfl); (· rw [hW1.block _ (CW_size w f m)]; exact CW_heap1 _ _ _); refine wpList_forget (CV w (fun i => !f i)) (CV_of hW1) ?_; rintro V ⟨hV1, hV2, hV3⟩; have hVc := fun i => cell_of_row V (w.heap.size + 1) i _ _ _ hV3; have hVf := fun i => frozen_of_row V (w.heap.size + 1) i _ _ hV3) | (refine wpList_load_LA 222 256 256 4 rfl _ rfl (w.heap.size + 1) ?_ Tryz.underlying222 size_like (upd (fun i => !f i) 47 false) 222 ?_ ?_; (· rfl); (· rw [heap_setCell_same V _ 47 _ _ _ hV3, LA_set])) | (refine wpList_store_LA 224 257 rfl _ _ rfl (w.heap.size) ?_ (PF (upd (fun i => !f i) 47 false) false) ?_ size_part (fun _ => false) 224 ?_ ?_; (· rfl); (· rfl); (· rw [heap_setCell_other _ _ _ _ (by simp)]; exact hV2)) | (refine bodyPost_ret (results_part rfl _ _ w.heap.size (PF (upd (fun i => !f i) 47 false) false) (.int .i64 ((k : Int) + 1)) 224 rfl rfl (heap_setRow_same _ (by rw [heap_setCell_other _ _ _ _ (by simp)]; exact hV2))) rfl ⟨?_, ?_⟩; (· rw [HV.out]; rfl); (· exact below_setRow (hV1.setCell (by simp) _) (Nat.le_refl _) _)))
end Go.Proofs.YtklibmijiecbfaaGreat.Gl

/- The walks of glob.escaped and glob.first. -/
namespace Go.Proofs.YtklibmijiecbfaaGreat.Gl
open Go.RowKit
attribute [local go_sem] LA_set LA_get LA_size LA_at

theorem class_any (s : ByteArray) (hs : 1 ≤ s.size) (hz : s.size ≤ 1000) (w : World) :
  Calls Tryz.prog 134 #[.string s] w fun e w' => e = .returned (classV s) ∧ Below w.heap.size w w' := by
 cases hn : notB s
 ·
  exact class_no s hs hz hn w
 ·
  exact class_yes s hs hz hn w

def partV : Option ((Nat → Bool) × Bool × Nat) → Value
 | none => .tuple #[.agg (LA 257 fun _ => false), .int .i64 0]
 | some (f, m, n) => .tuple #[.agg (LA 257 (PF f m)), .int .i64 n]

def onlyF (b : Nat) : Nat → Bool := upd (fun _ => false) b true
def escR (s : ByteArray) : Option ((Nat → Bool) × Bool × Nat) := if 2 ≤ s.size ∧ signB (byteAt s 1) = true then some (onlyF (byteAt s 1), false, 2) else none

theorem signs_at (b : Nat) (hb : b < 256) (w : World) : Calls Tryz.prog 139 #[.string ⟨#[42, 63, 91, 93, 92]⟩, .int .u8 b] w fun e w' => (∃ n : Int, e = .returned (.int .i64 n) ∧ decide (n < 0) = !signB b) ∧ w' = w :=
 (strings_IndexByte _ _ w).mono fun _ _ ⟨he, hw⟩ => ⟨⟨_, he, signs_index b hb⟩, hw⟩

def PW (w : World) : World := w.alloc (.cells (LA 257 fun _ => false) 224)
theorem PW_heap (w : World) : (PW w).heap[w.heap.size]? = some (.cells (LA 257 fun _ => false) 224 (0, 0)) := heap_alloc_new _ _
theorem PW_below (w : World) : Below w.heap.size w (PW w) := (Below.refl _ _).alloc (Nat.le_refl _) _
theorem PW_size (w : World) : w.heap.size < (PW w).heap.size := by show _ < (World.alloc _ _).heap.size; simp
theorem PW_later {w W : World} (h : Below (PW w).heap.size (PW w) W) : W.heap[w.heap.size]? = some (.cells (LA 257 fun _ => false) 224 (0, 0)) := (h.block _ (PW_size w)).trans (PW_heap w)
theorem PW_belowLater {w W : World} (h : Below (PW w).heap.size (PW w) W) : Below w.heap.size w W := (PW_below w).trans (h.mono (by have := PW_size w; omega))

set_option maxRecDepth 10000 in
theorem escaped_any (s : ByteArray) (hs : 1 ≤ s.size) (hz : s.size ≤ 1000) (w : World) :
  Calls Tryz.prog 135 #[.string s] w fun e w' => e = .returned (partV (escR s)) ∧ Below w.heap.size w w' := by
 have zp := zv_part
 by_cases h2 : s.size < 2
 ·
  have hR : escR s = none := by unfold escR; rw [if_neg (by omega)]
  have HR := hide hR
  have d2 : decide ((s.size : Int) < 2) = true := by simp; omega
  have bp0 := build_part0
  clear hR
  go_enter Tryz.func135, Tryz.ntmps135
  go_wp2_with (first
   | (refine wpList_store_LA 224 257 rfl _ _ rfl w.heap.size ?_ (fun _ => false) ?_ size_part (fun _ => false) 224 ?_ ?_; (· rfl); (· rfl); (· with_reducible exact heap_alloc_new _ _))
   | (refine bodyPost_ret (results_part rfl _ _ w.heap.size (fun _ => false) (.int .i64 0) 224 rfl rfl (heap_setRow_same _ (heap_alloc_new _ _))) rfl ⟨?_, ?_⟩; (· rw [HR.out]; rfl); (· exact below_setRow (PW_below w) (Nat.le_refl _) _)))
 ·
  have d2 : decide ((s.size : Int) < 2) = false := by simp; omega
  have e1 := byteAt_eq s 1 (by omega)
  have b1 := byteAt_lt s 1
  cases hg : signB (byteAt s 1)
  ·
   have hR : escR s = none := by unfold escR; rw [if_neg (by rw [hg]; simp)]
   have HR := hide hR
   have bp0 := build_part0
   clear hR
   go_enter Tryz.func135, Tryz.ntmps135
   go_wp2_with (first
    | (go_at_call 139; refine (signs_at _ b1 _).mono ?_; rintro e w' ⟨⟨n, rfl, hn⟩, rfl⟩; rw [hg] at hn; simp only [Bool.not_false] at hn)
    | (refine wpList_store_LA 224 257 rfl _ _ rfl w.heap.size ?_ (fun _ => false) ?_ size_part (fun _ => false) 224 ?_ ?_; (· rfl); (· rfl); (· with_reducible exact heap_alloc_new _ _))
    | (refine bodyPost_ret (results_part rfl _ _ w.heap.size (fun _ => false) (.int .i64 0) 224 rfl rfl (heap_setRow_same _ (heap_alloc_new _ _))) rfl ⟨?_, ?_⟩; (· rw [HR.out]; rfl); (· exact below_setRow (PW_below w) (Nat.le_refl _) _)))
  ·
   have hR : escR s = some (onlyF (byteAt s 1), false, 2) := by unfold escR; rw [if_pos ⟨by omega, hg⟩]
   have HR := hide hR
   clear hR
   go_enter Tryz.func135, Tryz.ntmps135
   go_wp2_with (first
    | (go_at_call 139; refine (signs_at _ b1 _).mono ?_; rintro e w' ⟨⟨n, rfl, hn⟩, rfl⟩; rw [hg] at hn; simp only [Bool.not_true] at hn)
    | (go_at_call 133; refine (only_any _ b1 _).mono ?_; rintro e W ⟨rfl, hW⟩)
    | (refine wpList_build_one rfl 224 _ _ rfl (.agg (LA 256 (onlyF (byteAt s 1)))) ?_ _ (built_part1 _) ?_; (· rfl))
    | (refine wpList_store_LA 224 257 rfl _ _ rfl w.heap.size ?_ (PF (onlyF (byteAt s 1)) false) ?_ size_part (fun _ => false) 224 ?_ ?_; (· rfl); (· rfl); (· exact PW_later hW))
    | (refine bodyPost_ret (results_part rfl _ _ w.heap.size (PF (onlyF (byteAt s 1)) false) (.int .i64 2) 224 rfl rfl (heap_setRow_same _ (PW_later hW))) rfl ⟨?_, ?_⟩; (· rw [HR.out]; rfl); (· exact below_setRow (PW_belowLater hW) (Nat.le_refl _) _)))
end Go.Proofs.YtklibmijiecbfaaGreat.Gl

/- The walk of glob.first. -/
namespace Go.Proofs.YtklibmijiecbfaaGreat.Gl
open Go.RowKit
attribute [local go_sem] LA_set LA_get LA_size LA_at

def starsB (s : ByteArray) : Bool := decide (2 ≤ s.size) && byteAt s 0 == 42 && byteAt s 1 == 42
def notF (f : Nat → Bool) : Nat → Bool := fun i => !f i
def classP (s : ByteArray) : Option ((Nat → Bool) × Bool × Nat) := (classR s).map fun x => (x.1, false, x.2)
theorem classV_eq (s : ByteArray) : classV s = partV (classP s) := by
 unfold classV classP
 cases classR s with
 | none => rfl
 | some x => rfl

def firstR (s : ByteArray) : Option ((Nat → Bool) × Bool × Nat) :=
 if starsB s = true then some (notF fun _ => false, true, 2)
 else if byteAt s 0 = 42 then some (notF (onlyF 47), true, 1)
 else if byteAt s 0 = 63 then some (notF (onlyF 47), false, 1)
 else if byteAt s 0 = 91 then classP s
 else if byteAt s 0 = 92 then escR s
 else if plainB (byteAt s 0) = true then some (onlyF (byteAt s 0), false, 1)
 else none

theorem hasPrefix_two (s : ByteArray) : Lib.hasPrefix s.data.toList [42, 42] = starsB s := by
 unfold starsB byteAt
 rw [Lib.size_eq]
 cases h : s.data.toList with
 | nil => simp [Lib.hasPrefix]
 | cons a l =>
  cases l with
  | nil => simp [Lib.hasPrefix, List.isPrefixOf]
  | cons b l =>
   simp only [Lib.hasPrefix, List.isPrefixOf, List.getD_cons_zero, List.getD_cons_succ, List.length_cons]
   rw [Bool.eq_iff_iff]
   simp only [Bool.and_true, Bool.and_eq_true, beq_iff_eq, decide_eq_true_eq, ← UInt8.toNat_inj]
   constructor
   ·
    rintro ⟨h1, h2⟩
    exact ⟨⟨by omega, h1.symm⟩, h2.symm⟩
   ·
    rintro ⟨⟨_, h1⟩, h2⟩
    exact ⟨h1.symm, h2.symm⟩

theorem prefix_stars (s : ByteArray) (w : World) :
  Calls Tryz.prog 131 #[.string s, .string ⟨#[42, 42]⟩] w fun e w' => e = .returned (.bool (starsB s)) ∧ w' = w :=
 (strings_HasPrefix s ⟨#[42, 42]⟩ w).mono fun e w' ⟨he, hw⟩ => ⟨by rw [he]; exact ret_bool (hasPrefix_two s), hw⟩

theorem PW_two {w W V : World} (h : Below (PW w).heap.size (PW w) W) (k : Below W.heap.size W V) : Below (PW w).heap.size (PW w) V := h.trans (k.mono h.size)

set_option maxRecDepth 10000 in
set_option maxHeartbeats 400000 in
theorem first_stars (s : ByteArray) (hs : 1 ≤ s.size) (hz : s.size ≤ 1000) (st : starsB s = true) (w : World) :
  Calls Tryz.prog 130 #[.string s] w fun e w' => e = .returned (partV (firstR s)) ∧ Below w.heap.size w w' := by
 have hR : firstR s = some (notF fun _ => false, true, 2) := by unfold firstR; rw [if_pos st]
 have HR := hide hR
 clear hR
 have zp := zv_part
 have e0 := byteAt_eq s 0 (by omega)
 have b0 := byteAt_lt s 0
 have zl := zv_like
 go_enter Tryz.func130, Tryz.ntmps130
 go_wp2_with (first
  | (go_at_call 131; refine (prefix_stars s _).mono ?_; rintro e w' ⟨rfl, rfl⟩)
  | (go_at_call 132; refine (others_any (fun _ => false) _).mono ?_; rintro e W ⟨rfl, hW⟩)
  | (refine wpList_build_two rfl 224 _ _ _ _ rfl (.agg (LA 256 (notF fun _ => false))) (.bool true) ?_ ?_ _ (built_part2 _ _) ?_; (· rfl); (· rfl))
  | (refine wpList_store_LA 224 257 rfl _ _ rfl w.heap.size ?_ (PF (notF fun _ => false) true) ?_ size_part (fun _ => false) 224 ?_ ?_; (· rfl); (· rfl); (· exact PW_later hW))
  | (refine bodyPost_ret (results_part rfl _ _ w.heap.size (PF (notF fun _ => false) true) (.int .i64 2) 224 rfl rfl (heap_setRow_same _ (PW_later hW))) rfl ⟨?_, ?_⟩; (· rw [HR.out]; rfl); (· exact below_setRow (PW_belowLater hW) (Nat.le_refl _) _)))

set_option maxRecDepth 10000 in
set_option maxHeartbeats 400000 in
theorem first_star (s : ByteArray) (hs : 1 ≤ s.size) (hz : s.size ≤ 1000) (st : starsB s = false)  (h42 : byteAt s 0 = 42) (w : World) :
  Calls Tryz.prog 130 #[.string s] w fun e w' => e = .returned (partV (firstR s)) ∧ Below w.heap.size w w' := by
 have hR : firstR s = some (notF (onlyF 47), true, 1) := by unfold firstR; rw [if_neg (by rw [st]; simp)]; rw [if_pos h42]
 have HR := hide hR
 clear hR
 have zp := zv_part
 have e0 := byteAt_eq s 0 (by omega)
 have b0 := byteAt_lt s 0
 have c42 : ((byteAt s 0 : Int) == 42) = true := by rw [beq_iff_eq]; omega
 clear h42
 go_enter Tryz.func130, Tryz.ntmps130
 go_wp2_with (first
  | (go_at_call 131; refine (prefix_stars s _).mono ?_; rintro e w' ⟨rfl, rfl⟩)
  | (go_at_call 133; refine (only_any 47 (by omega) _).mono ?_; rintro e W ⟨rfl, hW⟩)
  | (go_at_call 132; refine (others_any (onlyF 47) _).mono ?_; rintro e V ⟨rfl, hV⟩)
  | (refine wpList_build_two rfl 224 _ _ _ _ rfl (.agg (LA 256 (notF (onlyF 47)))) (.bool true) ?_ ?_ _ (built_part2 _ _) ?_; (· rfl); (· rfl))
  | (refine wpList_store_LA 224 257 rfl _ _ rfl w.heap.size ?_ (PF (notF (onlyF 47)) true) ?_ size_part (fun _ => false) 224 ?_ ?_; (· rfl); (· rfl); (· exact PW_later (PW_two hW hV)))
  | (refine bodyPost_ret (results_part rfl _ _ w.heap.size (PF (notF (onlyF 47)) true) (.int .i64 1) 224 rfl rfl (heap_setRow_same _ (PW_later (PW_two hW hV)))) rfl ⟨?_, ?_⟩; (· rw [HR.out]; rfl); (· exact below_setRow (PW_belowLater (PW_two hW hV)) (Nat.le_refl _) _)))

set_option maxRecDepth 10000 in
set_option maxHeartbeats 400000 in
theorem first_quest (s : ByteArray) (hs : 1 ≤ s.size) (hz : s.size ≤ 1000) (st : starsB s = false) (n42 : byteAt s 0 ≠ 42) (h63 : byteAt s 0 = 63) (w : World) :
  Calls Tryz.prog 130 #[.string s] w fun e w' => e = .returned (partV (firstR s)) ∧ Below w.heap.size w w' := by
 have hR : firstR s = some (notF (onlyF 47), false, 1) := by unfold firstR; rw [if_neg (by rw [st]; simp)]; rw [if_neg n42, if_pos h63]
 have HR := hide hR
 clear hR
 have zp := zv_part
 have e0 := byteAt_eq s 0 (by omega)
 have b0 := byteAt_lt s 0
 have c42 : ((byteAt s 0 : Int) == 42) = false := by rw [beq_eq_false_iff_ne]; omega
 have c63 : ((byteAt s 0 : Int) == 63) = true := by rw [beq_iff_eq]; omega
 clear h63
 go_enter Tryz.func130, Tryz.ntmps130
 go_wp2_with (first
  | (go_at_call 131; refine (prefix_stars s _).mono ?_; rintro e w' ⟨rfl, rfl⟩)
  | (go_at_call 133; refine (only_any 47 (by omega) _).mono ?_; rintro e W ⟨rfl, hW⟩)
  | (go_at_call 132; refine (others_any (onlyF 47) _).mono ?_; rintro e V ⟨rfl, hV⟩)
  | (refine wpList_build_one rfl 224 _ _ rfl (.agg (LA 256 (notF (onlyF 47)))) ?_ _ (built_part1 _) ?_; (· rfl))
  | (refine wpList_store_LA 224 257 rfl _ _ rfl w.heap.size ?_ (PF (notF (onlyF 47)) false) ?_ size_part (fun _ => false) 224 ?_ ?_; (· rfl); (· rfl); (· exact PW_later (PW_two hW hV)))
  | (refine bodyPost_ret (results_part rfl _ _ w.heap.size (PF (notF (onlyF 47)) false) (.int .i64 1) 224 rfl rfl (heap_setRow_same _ (PW_later (PW_two hW hV)))) rfl ⟨?_, ?_⟩; (· rw [HR.out]; rfl); (· exact below_setRow (PW_belowLater (PW_two hW hV)) (Nat.le_refl _) _)))

set_option maxRecDepth 10000 in
set_option maxHeartbeats 400000 in
theorem first_class_none (s : ByteArray) (hs : 1 ≤ s.size) (hz : s.size ≤ 1000) (st : starsB s = false) (n42 : byteAt s 0 ≠ 42) (n63 : byteAt s 0 ≠ 63) (h91 : byteAt s 0 = 91) (hP : classP s = none) (w : World) :
  Calls Tryz.prog 130 #[.string s] w fun e w' => e = .returned (partV (firstR s)) ∧ Below w.heap.size w w' := by
 have hR : firstR s = none := by unfold firstR; rw [if_neg (by rw [st]; simp)]; rw [if_neg n42, if_neg n63, if_pos h91]; exact hP
 have HR := hide hR
 clear hR
 have zp := zv_part
 have e0 := byteAt_eq s 0 (by omega)
 have b0 := byteAt_lt s 0
 have c42 : ((byteAt s 0 : Int) == 42) = false := by rw [beq_eq_false_iff_ne]; omega
 have c63 : ((byteAt s 0 : Int) == 63) = false := by rw [beq_eq_false_iff_ne]; omega
 have c91 : ((byteAt s 0 : Int) == 91) = true := by rw [beq_iff_eq]; omega
 clear h91
 have HV := hide (show classV s = .tuple #[.agg (LA 257 (fun _ => false)), .int .i64 0] from by rw [classV_eq, hP]; rfl)
 clear hP
 go_enter Tryz.func130, Tryz.ntmps130
 go_wp2_with (first
  | (go_at_call 131; refine (prefix_stars s _).mono ?_; rintro e w' ⟨rfl, rfl⟩)
  | (go_at_call 134; refine (class_any s hs hz _).mono ?_; rintro e W ⟨rfl, hW⟩; rw [HV.out])
  | (refine wpList_store_LA 224 257 rfl _ _ rfl w.heap.size ?_ (fun _ => false) ?_ size_part (fun _ => false) 224 ?_ ?_; (· rfl); (· rfl); (· exact PW_later hW))
  | (refine bodyPost_ret (results_part rfl _ _ w.heap.size (fun _ => false) (.int .i64 0) 224 rfl rfl (heap_setRow_same _ (PW_later hW))) rfl ⟨?_, ?_⟩; (· rw [HR.out]; rfl); (· exact below_setRow (PW_belowLater hW) (Nat.le_refl _) _)))

set_option maxRecDepth 10000 in
set_option maxHeartbeats 400000 in
theorem first_class_some (s : ByteArray) (hs : 1 ≤ s.size) (hz : s.size ≤ 1000) (st : starsB s = false) (n42 : byteAt s 0 ≠ 42) (n63 : byteAt s 0 ≠ 63) (h91 : byteAt s 0 = 91) (f : Nat → Bool) (m : Bool) (n : Nat) (hP : classP s = some (f, m, n)) (w : World) :
  Calls Tryz.prog 130 #[.string s] w fun e w' => e = .returned (partV (firstR s)) ∧ Below w.heap.size w w' := by
 have hR : firstR s = some (f, m, n) := by unfold firstR; rw [if_neg (by rw [st]; simp)]; rw [if_neg n42, if_neg n63, if_pos h91]; exact hP
 have HR := hide hR
 clear hR
 have zp := zv_part
 have e0 := byteAt_eq s 0 (by omega)
 have b0 := byteAt_lt s 0
 have c42 : ((byteAt s 0 : Int) == 42) = false := by rw [beq_eq_false_iff_ne]; omega
 have c63 : ((byteAt s 0 : Int) == 63) = false := by rw [beq_eq_false_iff_ne]; omega
 have c91 : ((byteAt s 0 : Int) == 91) = true := by rw [beq_iff_eq]; omega
 clear h91
 have HV := hide (show classV s = .tuple #[.agg (LA 257 (PF f m)), .int .i64 n] from by rw [classV_eq, hP]; rfl)
 clear hP
 go_enter Tryz.func130, Tryz.ntmps130
 go_wp2_with (first
  | (go_at_call 131; refine (prefix_stars s _).mono ?_; rintro e w' ⟨rfl, rfl⟩)
  | (go_at_call 134; refine (class_any s hs hz _).mono ?_; rintro e W ⟨rfl, hW⟩; rw [HV.out])
  | (refine wpList_store_LA 224 257 rfl _ _ rfl w.heap.size ?_ (PF f m) ?_ size_part (fun _ => false) 224 ?_ ?_; (· rfl); (· rfl); (· exact PW_later hW))
  | (refine bodyPost_ret (results_part rfl _ _ w.heap.size (PF f m) (.int .i64 n) 224 rfl rfl (heap_setRow_same _ (PW_later hW))) rfl ⟨?_, ?_⟩; (· rw [HR.out]; rfl); (· exact below_setRow (PW_belowLater hW) (Nat.le_refl _) _)))

set_option maxRecDepth 10000 in
set_option maxHeartbeats 400000 in
theorem first_esc_none (s : ByteArray) (hs : 1 ≤ s.size) (hz : s.size ≤ 1000) (st : starsB s = false) (n42 : byteAt s 0 ≠ 42) (n63 : byteAt s 0 ≠ 63) (n91 : byteAt s 0 ≠ 91) (h92 : byteAt s 0 = 92) (hP : escR s = none) (w : World) :
  Calls Tryz.prog 130 #[.string s] w fun e w' => e = .returned (partV (firstR s)) ∧ Below w.heap.size w w' := by
 have hR : firstR s = none := by unfold firstR; rw [if_neg (by rw [st]; simp)]; rw [if_neg n42, if_neg n63, if_neg n91, if_pos h92]; exact hP
 have HR := hide hR
 clear hR
 have zp := zv_part
 have e0 := byteAt_eq s 0 (by omega)
 have b0 := byteAt_lt s 0
 have c42 : ((byteAt s 0 : Int) == 42) = false := by rw [beq_eq_false_iff_ne]; omega
 have c63 : ((byteAt s 0 : Int) == 63) = false := by rw [beq_eq_false_iff_ne]; omega
 have c91 : ((byteAt s 0 : Int) == 91) = false := by rw [beq_eq_false_iff_ne]; omega
 have c92 : ((byteAt s 0 : Int) == 92) = true := by rw [beq_iff_eq]; omega
 clear h92
 have HV := hide (show partV (escR s) = .tuple #[.agg (LA 257 (fun _ => false)), .int .i64 0] from by rw [hP]; rfl)
 clear hP
 go_enter Tryz.func130, Tryz.ntmps130
 go_wp2_with (first
  | (go_at_call 131; refine (prefix_stars s _).mono ?_; rintro e w' ⟨rfl, rfl⟩)
  | (go_at_call 135; refine (escaped_any s hs hz _).mono ?_; rintro e W ⟨rfl, hW⟩; rw [HV.out])
  | (refine wpList_store_LA 224 257 rfl _ _ rfl w.heap.size ?_ (fun _ => false) ?_ size_part (fun _ => false) 224 ?_ ?_; (· rfl); (· rfl); (· exact PW_later hW))
  | (refine bodyPost_ret (results_part rfl _ _ w.heap.size (fun _ => false) (.int .i64 0) 224 rfl rfl (heap_setRow_same _ (PW_later hW))) rfl ⟨?_, ?_⟩; (· rw [HR.out]; rfl); (· exact below_setRow (PW_belowLater hW) (Nat.le_refl _) _)))

set_option maxRecDepth 10000 in
set_option maxHeartbeats 400000 in
theorem first_esc_some (s : ByteArray) (hs : 1 ≤ s.size) (hz : s.size ≤ 1000) (st : starsB s = false) (n42 : byteAt s 0 ≠ 42) (n63 : byteAt s 0 ≠ 63) (n91 : byteAt s 0 ≠ 91) (h92 : byteAt s 0 = 92) (f : Nat → Bool) (m : Bool) (n : Nat) (hP : escR s = some (f, m, n)) (w : World) :
  Calls Tryz.prog 130 #[.string s] w fun e w' => e = .returned (partV (firstR s)) ∧ Below w.heap.size w w' := by
 have hR : firstR s = some (f, m, n) := by unfold firstR; rw [if_neg (by rw [st]; simp)]; rw [if_neg n42, if_neg n63, if_neg n91, if_pos h92]; exact hP
 have HR := hide hR
 clear hR
 have zp := zv_part
 have e0 := byteAt_eq s 0 (by omega)
 have b0 := byteAt_lt s 0
 have c42 : ((byteAt s 0 : Int) == 42) = false := by rw [beq_eq_false_iff_ne]; omega
 have c63 : ((byteAt s 0 : Int) == 63) = false := by rw [beq_eq_false_iff_ne]; omega
 have c91 : ((byteAt s 0 : Int) == 91) = false := by rw [beq_eq_false_iff_ne]; omega
 have c92 : ((byteAt s 0 : Int) == 92) = true := by rw [beq_iff_eq]; omega
 clear h92
 have HV := hide (show partV (escR s) = .tuple #[.agg (LA 257 (PF f m)), .int .i64 n] from by rw [hP]; rfl)
 clear hP
 go_enter Tryz.func130, Tryz.ntmps130
 go_wp2_with (first
  | (go_at_call 131; refine (prefix_stars s _).mono ?_; rintro e w' ⟨rfl, rfl⟩)
  | (go_at_call 135; refine (escaped_any s hs hz _).mono ?_; rintro e W ⟨rfl, hW⟩; rw [HV.out])
  | (refine wpList_store_LA 224 257 rfl _ _ rfl w.heap.size ?_ (PF f m) ?_ size_part (fun _ => false) 224 ?_ ?_; (· rfl); (· rfl); (· exact PW_later hW))
  | (refine bodyPost_ret (results_part rfl _ _ w.heap.size (PF f m) (.int .i64 n) 224 rfl rfl (heap_setRow_same _ (PW_later hW))) rfl ⟨?_, ?_⟩; (· rw [HR.out]; rfl); (· exact below_setRow (PW_belowLater hW) (Nat.le_refl _) _)))

set_option maxRecDepth 10000 in
set_option maxHeartbeats 400000 in
theorem first_plain (s : ByteArray) (hs : 1 ≤ s.size) (hz : s.size ≤ 1000) (st : starsB s = false) (n42 : byteAt s 0 ≠ 42) (n63 : byteAt s 0 ≠ 63) (n91 : byteAt s 0 ≠ 91) (n92 : byteAt s 0 ≠ 92) (hp : plainB (byteAt s 0) = true) (w : World) :
  Calls Tryz.prog 130 #[.string s] w fun e w' => e = .returned (partV (firstR s)) ∧ Below w.heap.size w w' := by
 have hR : firstR s = some (onlyF (byteAt s 0), false, 1) := by unfold firstR; rw [if_neg (by rw [st]; simp)]; rw [if_neg n42, if_neg n63, if_neg n91, if_neg n92, if_pos hp]
 have HR := hide hR
 clear hR
 have zp := zv_part
 have e0 := byteAt_eq s 0 (by omega)
 have b0 := byteAt_lt s 0
 have c42 : ((byteAt s 0 : Int) == 42) = false := by rw [beq_eq_false_iff_ne]; omega
 have c63 : ((byteAt s 0 : Int) == 63) = false := by rw [beq_eq_false_iff_ne]; omega
 have c91 : ((byteAt s 0 : Int) == 91) = false := by rw [beq_eq_false_iff_ne]; omega
 have c92 : ((byteAt s 0 : Int) == 92) = false := by rw [beq_eq_false_iff_ne]; omega
 go_enter Tryz.func130, Tryz.ntmps130
 go_wp2_with (first
  | (go_at_call 131; refine (prefix_stars s _).mono ?_; rintro e w' ⟨rfl, rfl⟩)
  | (go_at_call 136; refine (isPlain_any _ b0 _).mono ?_; rintro e w' ⟨rfl, rfl⟩)
  | (go_at_call 133; refine (only_any _ b0 _).mono ?_; rintro e W ⟨rfl, hW⟩)
  | (refine wpList_build_one rfl 224 _ _ rfl (.agg (LA 256 (onlyF (byteAt s 0)))) ?_ _ (built_part1 _) ?_; (· rfl))
  | (refine wpList_store_LA 224 257 rfl _ _ rfl w.heap.size ?_ (PF (onlyF (byteAt s 0)) false) ?_ size_part (fun _ => false) 224 ?_ ?_; (· rfl); (· rfl); (· exact PW_later hW))
  | (refine bodyPost_ret (results_part rfl _ _ w.heap.size (PF (onlyF (byteAt s 0)) false) (.int .i64 1) 224 rfl rfl (heap_setRow_same _ (PW_later hW))) rfl ⟨?_, ?_⟩; (· rw [HR.out]; rfl); (· exact below_setRow (PW_belowLater hW) (Nat.le_refl _) _)))

set_option maxRecDepth 10000 in
set_option maxHeartbeats 400000 in
theorem first_none (s : ByteArray) (hs : 1 ≤ s.size) (hz : s.size ≤ 1000) (st : starsB s = false) (n42 : byteAt s 0 ≠ 42) (n63 : byteAt s 0 ≠ 63) (n91 : byteAt s 0 ≠ 91) (n92 : byteAt s 0 ≠ 92) (hp : plainB (byteAt s 0) = false) (w : World) :
  Calls Tryz.prog 130 #[.string s] w fun e w' => e = .returned (partV (firstR s)) ∧ Below w.heap.size w w' := by
 have hR : firstR s = none := by unfold firstR; rw [if_neg (by rw [st]; simp)]; rw [if_neg n42, if_neg n63, if_neg n91, if_neg n92, if_neg (by rw [hp]; simp)]
 have HR := hide hR
 clear hR
 have zp := zv_part
 have e0 := byteAt_eq s 0 (by omega)
 have b0 := byteAt_lt s 0
 have c42 : ((byteAt s 0 : Int) == 42) = false := by rw [beq_eq_false_iff_ne]; omega
 have c63 : ((byteAt s 0 : Int) == 63) = false := by rw [beq_eq_false_iff_ne]; omega
 have c91 : ((byteAt s 0 : Int) == 91) = false := by rw [beq_eq_false_iff_ne]; omega
 have c92 : ((byteAt s 0 : Int) == 92) = false := by rw [beq_eq_false_iff_ne]; omega
 have bp0 := build_part0
 go_enter Tryz.func130, Tryz.ntmps130
 go_wp2_with (first
  | (go_at_call 131; refine (prefix_stars s _).mono ?_; rintro e w' ⟨rfl, rfl⟩)
  | (go_at_call 136; refine (isPlain_any _ b0 _).mono ?_; rintro e w' ⟨rfl, rfl⟩)
  | (refine wpList_store_LA 224 257 rfl _ _ rfl w.heap.size ?_ (fun _ => false) ?_ size_part (fun _ => false) 224 ?_ ?_; (· rfl); (· rfl); (· with_reducible exact heap_alloc_new _ _))
  | (refine bodyPost_ret (results_part rfl _ _ w.heap.size (fun _ => false) (.int .i64 0) 224 rfl rfl (heap_setRow_same _ (heap_alloc_new _ _))) rfl ⟨?_, ?_⟩; (· rw [HR.out]; rfl); (· exact below_setRow (PW_below w) (Nat.le_refl _) _)))

theorem first_any (s : ByteArray) (hs : 1 ≤ s.size) (hz : s.size ≤ 1000) (w : World) :
  Calls Tryz.prog 130 #[.string s] w fun e w' => e = .returned (partV (firstR s)) ∧ Below w.heap.size w w' := by
 cases st : starsB s
 ·
  by_cases h42 : byteAt s 0 = 42
  ·
   exact first_star s hs hz st h42 w
  ·
   by_cases h63 : byteAt s 0 = 63
   ·
    exact first_quest s hs hz st h42 h63 w
   ·
    by_cases h91 : byteAt s 0 = 91
    ·
     cases hP : classP s with
     | none => exact first_class_none s hs hz st h42 h63 h91 hP w
     | some x => obtain ⟨f, m, n⟩ := x; exact first_class_some s hs hz st h42 h63 h91 f m n hP w
    ·
     by_cases h92 : byteAt s 0 = 92
     ·
      cases hP : escR s with
      | none => exact first_esc_none s hs hz st h42 h63 h91 h92 hP w
      | some x => obtain ⟨f, m, n⟩ := x; exact first_esc_some s hs hz st h42 h63 h91 h92 f m n hP w
     ·
      cases hp : plainB (byteAt s 0)
      ·
       exact first_none s hs hz st h42 h63 h91 h92 hp w
      ·
       exact first_plain s hs hz st h42 h63 h91 h92 hp w
 ·
  exact first_stars s hs hz st w
end Go.Proofs.YtklibmijiecbfaaGreat.Gl

/- Laws for the loop of glob.parse: a slice of parts of the call's own. -/
namespace Go.Proofs.YtklibmijiecbfaaGreat.Gl
open Go.RowKit

abbrev Part := (Nat → Bool) × Bool
def flat (ps : List Part) : List Value := ps.flatMap fun p => (LA 257 (PF p.1 p.2)).toList
theorem flat_snoc (ps : List Part) (p : Part) : flat (ps ++ [p]) = flat ps ++ (LA 257 (PF p.1 p.2)).toList := by simp [flat]
theorem wpList_load_part {ops : Array Oper} {rest : List Oper} {o : Oper} {a : Act} {w : World} {Q : Exit → Act → World → Prop} (hgd : o.guard = none) (x : Operand) (ho : o.op = .load 224 x)
  (g : Nat) (hx : a.eval x = .pointer (some ⟨g, 0, none⟩)) (f : Nat → Bool) (hg : w.heap[g]? = some (.cells (LA 257 f) 224 (0, 0)))
  (h : wpList Tryz.prog ops Q rest (a.put o.dst (.agg (LA 257 f))) w) : wpList Tryz.prog ops Q (o :: rest) a w :=
 wpList_load_row hgd 224 x ho g hx 224 (LA 257 f) (0, 0) _ hg Tryz.underlying224 rfl (by rw [LA_size]; exact size_part) h

theorem info_part : ∃ i, Tryz.prog.info? 224 = some i ∧ i.zero = some (.agg (LA 257 fun _ => false)) ∧ i.size = 257 ∧ i.bytes = 257 := by
 have hz := zero_part
 have hs := size_part
 have hb : (Tryz.prog.info? 224).map (·.bytes) = some 257 := by kernel_rfl
 cases hq : Tryz.prog.info? 224 with
 | none => rw [hq] at hs; simp at hs
 | some i =>
  rw [hq] at hz hs hb
  simp at hz hs hb
  exact ⟨i, rfl, hz, hs, hb⟩

theorem fill_parts (F : Nat → Bool) : Instr.fill (fun i => some (i * 257, 257)) ((Array.range (1 * 257)).map ((LA0 257 fun _ => false)[· % (LA0 257 fun _ => false).size]!)) [(0, .agg (LA0 257 F))] = some (LA0 257 F) := by kernel_rfl

theorem wpList_buildSlice_part {ops : Array Oper} {rest : List Oper} {o : Oper} {a : Act} {w : World} {Q : Exit → Act → World → Prop} (hg : o.guard = none) (x : Operand) (ho : o.op = .buildSlice 206 1 #[(0, x)])
  (F : Nat → Bool) (hx : a.eval x = .agg (LA 257 F)) (h : wpList Tryz.prog ops Q rest (a.put o.dst (.slice (some ⟨w.heap.size, 0, none⟩) 1 1)) (w.alloc (.cells (LA 257 F) 224))) : wpList Tryz.prog ops Q (o :: rest) a w := by
 obtain ⟨i, hi, hz, hs, _⟩ := info_part
 refine wpList_buildSlice hg 206 224 1 #[(0, x)] ho (LA 257 F) i _ Tryz.underlying206 hi hz (by rw [hs]; decide) (by rw [hs]; decide) ?_ h
 rw [hs]
 have := fill_parts F
 simp only [Value.cells]
 simpa [hx, LA_eq] using this

theorem grown_of_below {w w' : World} (h : Below w.heap.size w w') : w.grownBy w' none := ⟨h.os, h.tape, h.output, h.size, fun k hk _ => h.block k hk⟩

theorem owns_later {w w' : World} {base n : Nat} {v : Value} {xs : List Value} (h : w.ownsRow base 224 257 v n xs) (hb : Below w.heap.size w w') : w'.ownsRow base 224 257 v n xs := by
 refine h.kept (grown_of_below hb) ?_
 cases hv : v.ownBlock with
 | none => exact .inl rfl
 | some k => exact .inr (by simp)

theorem wpList_append_part {ops : Array Oper} {rest : List Oper} {o : Oper} {a : Act} {w : World} {Q : Exit → Act → World → Prop} (hgd : o.guard = none) (s x : Operand)
  (ho : o.op = .call { callee := .builtin .append, args := #[s, x], argTypes := #[206, 206] })
  (base : Nat) (v : Value) (ps : List Part) (hs : a.eval s = v) (hown : w.ownsRow base 224 257 v ps.length (flat ps))
  (g : Nat) (hx : a.eval x = .slice (some ⟨g, 0, none⟩) 1 1) (p : Part) (hg : w.heap[g]? = some (.cells (LA 257 (PF p.1 p.2)) 224 (0, 0)))
  (hn : ps.length ≤ 1000) (hbase : base ≤ w.heap.size)
  (h : ∀ v' w', w'.ownsRow base 224 257 v' (ps.length + 1) (flat (ps ++ [p])) → w.grownBy w' v.ownBlock → wpList Tryz.prog ops Q rest (a.put o.dst v') w') : wpList Tryz.prog ops Q (o :: rest) a w := by
 obtain ⟨i, hi, hz, hsz, hby⟩ := info_part
 refine wpList_append_own (P := Tryz.prog) w hgd s x 206 ho base 224 i _ 257 257 Tryz.underlying206 hi hz hsz hby (by simp [Value.cells, LA_size]) (by decide) v ps.length (flat ps) hs hown ⟨g, 0, none⟩ 1 1 (LA 257 (PF p.1 p.2)).toList hx (by simp [LA_size]) ?_ ?_ (by simp only [maxLen]; omega) (by omega) hbase ?_
 ·
  intro j u hu
  have hadd : (⟨g, 0, none⟩ : Addr).add j = ⟨g, j, none⟩ := by unfold Addr.add; split <;> simp_all
  rw [hadd, cell_of_row w g j _ _ _ hg]
  simpa using hu
 ·
  intro u hu
  have := LA_one 257 (PF p.1 p.2)
  rw [Array.all_eq_true_iff_forall_mem] at this
  exact this u (by simpa using hu)
 ·
  intro v' w' h1 h2 _
  refine h v' w' ?_ h2
  rw [flat_snoc]
  exact h1
end Go.Proofs.YtklibmijiecbfaaGreat.Gl
