/- PolicyReads returns true, for all texts, over the tables that the program's text lays: the row, and its card. -/
import Derived.Test.YtkogafponpjdnaaGreatDoorK12
import Derived.Test.YtkogafponpjdnaaGreatDoorK7
import Derived.BigQuiet
import Derived.Test.YtkogafponpjdnaaGreatDoorK8
import Derived.Lay
/- The document's PolicyOf: the walk. -/
namespace Go.Proofs.YtkogafponpjdnaaGreatDoor
open Go.RowKit Go.Sort

set_option maxHeartbeats 4000000 in
set_option maxRecDepth 100000 in
theorem dpolOf_any (s : W8) (hs : s.length ≤ 9000) (w : World) : Calls Tryz.prog 20 #[.string (bs s)] w fun e w' => (∃ oa cap, e = .returned (.tuple #[polV (parseP s).1 oa cap, .int .i64 ((parseP s).2 : Nat)]) ∧ IsPol oa cap (parseP s).1 w') ∧ Below w.heap.size w w' := by
  have hsz := bs_size s
  obtain ⟨V0, hV0, hV0h, hV0b, hV0s⟩ : ∃ V, V = w.alloc (.cells #[.slice none 0 0, .int .i64 0, .int .i64 0] 26) ∧ V.heap[w.heap.size]? = some (.cells #[.slice none 0 0, .int .i64 0, .int .i64 0] 26 (0, 0)) ∧ Below w.heap.size w V ∧ V.heap.size = w.heap.size + 1 := ⟨_, rfl, heap_alloc_new _ _, box_below _ _, by rw [World.size_alloc]⟩
  have HS := dcut_any (bs s) (by rw [bs_size]; exact hs) 10 10 rfl V0
  rw [bs_data] at HS
  obtain ⟨ls, hls⟩ : ∃ ls, ls = splitC 10 s := ⟨_, rfl⟩
  rw [← hls] at HS
  have hll : ls.length ≤ 9001 := by rw [hls]; have := split_len (c := 10) s; omega
  have hlsm : ∀ x ∈ ls, x.length ≤ 9000 := by rw [hls]; exact split_small hs
  have hlne : 0 < ls.length := by rw [hls]; exact List.length_pos_iff.2 (splitC_ne _ _)
  have hdp : docP s = if ls.length < 2 ∨ 14 < ls.length ∨ ls.getLast? ≠ some [] then none
      else match docHead (splitC 32 (ls.headD [])) with
        | some a => (match docRules ls.tail.dropLast with
          | some rs => if polF ⟨rs, a⟩ = 0 then some ⟨rs, a⟩ else none
          | none => none)
        | none => none := by rw [hls]; rfl
  obtain ⟨q, hq⟩ : ∃ q, q = bs s := ⟨_, rfl⟩
  rw [← hq] at HS hsz ⊢
  by_cases h8 : 8000 < s.length
  · have HV := hide (show parseP s = (zeroPol, 2) from if_pos h8)
    have h8' : (8000 : Int) < q.size := by omega
    clear HS hdp hlsm hls hq hs
    go_enter Tryz.func20, Tryz.ntmps20
    go_wp2_with (refine wpList_store_row rfl 26 _ _ rfl w.heap.size #[.slice none 0 0, .int .i64 0, .int .i64 0] rfl rfl 26 _ (heap_alloc_new _ _) size_pol rfl (polC_one _ _ _ _ _) ?_)
    refine bodyPost_ret (v := .tuple #[.agg #[.slice none 0 0, .int .i64 0, .int .i64 0], .int .i64 2]) (results_pol rfl _ _ w.heap.size #[.slice none 0 0, .int .i64 0, .int .i64 0] _ rfl rfl rfl (setRow_heap _ _ _ _ _ _ (heap_alloc_new _ _))) rfl ⟨⟨none, 0, ?_, ?_⟩, below_setRow (box_below _ _) (Nat.le_refl _) _⟩
    · rw [HV.out]; rfl
    · rw [HV.out]; exact zeroPol_is _
  have h8' : ¬ (8000 : Int) < q.size := by omega
  have hpp : parseP s = match docP s with
    | some p => (p, 0)
    | none => (zeroPol, 4) := if_neg h8
  have HPP := hide hpp
  have HDP := hide hdp
  have HLS := hide hls
  have HSM := hide hlsm
  clear hpp hdp hls hlsm hq hs h8 hsz
  go_enter Tryz.func20, Tryz.ntmps20
  go_wp2_with fail
  rw [show w.alloc (Obj.cells #[.slice none 0 0, .int .i64 0, .int .i64 0] 26) = V0 from hV0.symm]
  refine HS.mono ?_
  rintro e X ⟨⟨oa, cap, rfl, hc1, hc2, hst⟩, hX⟩
  clear HS hV0
  obtain ⟨b, off, rfl, hbl, hwa⟩ := hst.lie hlne
  have HX := hide (show PX0 w b off ls X from ⟨below_next hV0b hX, (hX.block _ (by omega)).trans hV0h, hwa, hbl⟩)
  clear hst hwa hbl hX hV0h hV0b hV0s
  obtain ⟨n, hn⟩ : ∃ n, ls.length = n + 1 := ⟨ls.length - 1, by omega⟩
  rw [hn] at hc1 hll ⊢
  have HN := hide hn
  obtain ⟨x, hx⟩ : ∃ x, ls[n]? = some x := ⟨_, List.getElem?_eq_getElem (by omega)⟩
  have cx := HX.out.lines n x hx
  have hlast : ls.getLast? = some x := by rw [last_of hlne, hn]; exact hx
  obtain ⟨l0, hl0⟩ : ∃ y, ls[0]? = some y := ⟨_, List.getElem?_eq_getElem hlne⟩
  have c0 := HX.out.lines 0 l0 hl0
  rw [Nat.add_zero] at c0
  have hhd : ls.headD [] = l0 := by
    cases ls with
    | nil => simp at hl0
    | cons y t => simpa using hl0
  have hl0s := HSM.out l0 (List.mem_of_getElem? hl0)
  obtain ⟨xq, hxq⟩ : ∃ q : ByteArray, q = bs x := ⟨_, rfl⟩
  rw [← hxq] at cx
  have hxl : xq.toList = x := by rw [hxq, bs_toList]
  have HLA := hide hlast
  have HHD := hide hhd
  have w1 : IntKind.i64.wrap ((n : Int) + 1 - 1) = n := by rw [IntKind.wrap_i64]; omega
  have w2 : ((n : Int) + 1 - 1) = n := by omega
  have i0 : (0 : Int) ≤ n := by omega
  have i1 : (n : Int) < (n : Int) + 1 := by omega
  have i2 : (0 : Int) < (n : Int) + 1 := by omega
  clear hx hlast hhd hn hl0 hxq hlne
  have HXL := hide hxl
  clear hxl
  by_cases hgood : 1 ≤ n ∧ n ≤ 13 ∧ x = []
  case neg =>
    have HV := hide (show parseP s = (zeroPol, 4) by
      rw [HPP.out, HDP.out, if_pos]
      rw [HN.out, HLA.out]
      by_cases h1 : 1 ≤ n
      · by_cases h2 : n ≤ 13
        · exact .inr (.inr (fun h => hgood ⟨h1, h2, by simpa using h⟩))
        · exact .inr (.inl (by omega))
      · exact .inl (by omega))
    have hres := HX.out.res
    have hxb := HX.out.below
    by_cases h1 : n < 1
    · have h1' : (n : Int) < 1 := by omega
      clear hgood
      go_wp2_with (refine wpList_store_row rfl 26 _ _ rfl w.heap.size #[.slice none 0 0, .int .i64 0, .int .i64 0] rfl rfl 26 _ hres size_pol rfl (polC_one _ _ _ _ _) ?_)
      refine bodyPost_ret (v := .tuple #[.agg #[.slice none 0 0, .int .i64 0, .int .i64 0], .int .i64 4]) (results_pol rfl _ _ w.heap.size #[.slice none 0 0, .int .i64 0, .int .i64 0] _ rfl rfl rfl (setRow_heap _ _ _ _ _ _ hres)) rfl ⟨⟨none, 0, ?_, ?_⟩, below_setRow hxb (Nat.le_refl _) _⟩
      · rw [HV.out]; rfl
      · rw [HV.out]; exact zeroPol_is _
    have h1' : ¬ (n : Int) < 1 := by omega
    by_cases hxe : x = []
    · have bx : (xq.toList == []) = true := by rw [HXL.out, hxe]; rfl
      have h13 : (13 : Int) < n := by
        have : ¬ n ≤ 13 := fun h => hgood ⟨by omega, h, hxe⟩
        omega
      clear hgood hxe h1
      go_wp2_with (refine wpList_store_row rfl 26 _ _ rfl w.heap.size #[.slice none 0 0, .int .i64 0, .int .i64 0] rfl rfl 26 _ hres size_pol rfl (polC_one _ _ _ _ _) ?_)
      refine bodyPost_ret (v := .tuple #[.agg #[.slice none 0 0, .int .i64 0, .int .i64 0], .int .i64 4]) (results_pol rfl _ _ w.heap.size #[.slice none 0 0, .int .i64 0, .int .i64 0] _ rfl rfl rfl (setRow_heap _ _ _ _ _ _ hres)) rfl ⟨⟨none, 0, ?_, ?_⟩, below_setRow hxb (Nat.le_refl _) _⟩
      · rw [HV.out]; rfl
      · rw [HV.out]; exact zeroPol_is _
    · have bx : (xq.toList == []) = false := by rw [HXL.out]; exact beq_no hxe
      clear hgood hxe h1
      go_wp2_with (refine wpList_store_row rfl 26 _ _ rfl w.heap.size #[.slice none 0 0, .int .i64 0, .int .i64 0] rfl rfl 26 _ hres size_pol rfl (polC_one _ _ _ _ _) ?_)
      refine bodyPost_ret (v := .tuple #[.agg #[.slice none 0 0, .int .i64 0, .int .i64 0], .int .i64 4]) (results_pol rfl _ _ w.heap.size #[.slice none 0 0, .int .i64 0, .int .i64 0] _ rfl rfl rfl (setRow_heap _ _ _ _ _ _ hres)) rfl ⟨⟨none, 0, ?_, ?_⟩, below_setRow hxb (Nat.le_refl _) _⟩
      · rw [HV.out]; rfl
      · rw [HV.out]; exact zeroPol_is _
  obtain ⟨h1, h13, hxe⟩ := hgood
  have bx : (xq.toList == []) = true := by rw [HXL.out, hxe]; rfl
  have h1' : ¬ (n : Int) < 1 := by omega
  have h13' : ¬ (13 : Int) < n := by omega
  have HD0 := hide (show docP s = match docHead (splitC 32 l0) with
        | some a => (match docRules ls.tail.dropLast with
          | some rs => if polF ⟨rs, a⟩ = 0 then some ⟨rs, a⟩ else none
          | none => none)
        | none => none by
    rw [HDP.out, if_neg, HHD.out]
    rw [HN.out, HLA.out, hxe]
    intro h
    rcases h with h | h | h
    · omega
    · omega
    · exact h rfl)
  clear hxe HDP HLA HHD HXL
  have HS2 := fun Y => dcut_any (bs l0) (by rw [bs_size]; exact hl0s) 32 32 rfl Y
  simp only [bs_data] at HS2
  obtain ⟨ws, hws⟩ : ∃ ws, ws = splitC 32 l0 := ⟨_, rfl⟩
  rw [← hws] at HS2 HD0
  have hwl : ws.length ≤ 9001 := by rw [hws]; have := split_len (c := 32) l0; omega
  have hwsm : ∀ y ∈ ws, y.length ≤ 9000 := by rw [hws]; exact split_small hl0s
  have hwne : 0 < ws.length := by rw [hws]; exact List.length_pos_iff.2 (splitC_ne _ _)
  obtain ⟨lq, hlq⟩ : ∃ q : ByteArray, q = bs l0 := ⟨_, rfl⟩
  rw [← hlq] at HS2 c0
  clear hlq hws hl0s
  go_wp2_with fail
  refine (HS2 _).mono ?_
  rintro e X2 ⟨⟨ob, cap2, rfl, hd1, hd2, hst⟩, hX⟩
  obtain ⟨b2, off2, rfl, hbl2, hwa2⟩ := hst.lie hwne
  replace HX := hide (HX.out.on hX)
  have HW2 : Hid (WordsAt X2 b2 off2 ws) := hide hwa2
  clear hst hwa2 hX HS2 cx c0 bx w1 w2
  obtain ⟨y, t, rfl⟩ : ∃ y t, ws = y :: t := by
    cases ws with
    | nil => simp at hwne
    | cons y t => exact ⟨y, t, rfl⟩
  obtain ⟨m, hm⟩ : ∃ m, m = t.length := ⟨_, rfl⟩
  rw [List.length_cons, ← hm] at hd1 hwl ⊢
  have d0 := HW2.out 0 y rfl
  rw [Nat.add_zero] at d0
  obtain ⟨yq, hyq⟩ : ∃ q : ByteArray, q = bs y := ⟨_, rfl⟩
  rw [← hyq] at d0
  have hyl : yq.toList = y := by rw [hyq, bs_toList]
  obtain ⟨o1, ho1⟩ : ∃ z, z = if cap2 = 1 then off2 else off2 + 1 := ⟨_, rfl⟩
  obtain ⟨c1, hcc⟩ : ∃ z, z = cap2 - 1 := ⟨_, rfl⟩
  have hsl1 : ∀ W, (Instr.slice 89 (.slice (some ⟨b2, off2, none⟩) (m + 1) cap2) (some (.int .i64 1)) none none).run Tryz.prog W = .ok (.slice (some ⟨b2, o1, none⟩) m c1) W := fun W => by
    rw [slice_from b2 off2 (m + 1) cap2 1 1 rfl (by omega) hd1 W, ← ho1, ← hcc]
    rfl
  have HAC := dact_any t (fun z hz => hwsm z (by simp [hz])) (some ⟨b2, o1, none⟩) c1 X2 ⟨fun h0 => ⟨b2, off2 + 1, by rw [ho1, if_neg (by omega)], hbl2, fun i z hi => by
    have := HW2.out (i + 1) z (by simpa using hi)
    rwa [show off2 + 1 + i = off2 + (i + 1) by omega]⟩⟩ (by omega)
  rw [← hm] at HAC
  have HM := hide hm
  have HYL := hide hyl
  have HHE := hide (show docHead (y :: t) = if y = wElse then (match docAct t with
    | some (a, k) => if k = t.length then some a else none
    | none => none) else none from rfl)
  clear hyq hyl hm ho1 hcc hwsm HW2 hwne
  go_wp2_with fail
  refine HAC.mono ?_
  rintro e X3 ⟨rfl, hX⟩
  replace HX := hide (HX.out.on hX)
  have d1 := keep_cell hX d0
  clear hX HAC hsl1 d0
  have hob : ∃ (ak ae : Int) (k : Nat), docActV (docAct t) = .tuple #[.agg #[.int .i64 ak, .int .i64 ae], .int .i64 (k : Nat)] ∧ ((docAct t = none ∧ k = 0) ∨ (docAct t = some (⟨ak, ae⟩, k) ∧ 1 ≤ k ∧ k ≤ m)) := by
    cases hd : docAct t with
    | none => exact ⟨0, 0, 0, rfl, .inl ⟨rfl, rfl⟩⟩
    | some z =>
      obtain ⟨⟨ak, ae⟩, k⟩ := z
      have := docAct_le hd
      exact ⟨ak, ae, k, rfl, .inr ⟨rfl, this.1, by rw [HM.out]; exact this.2.2⟩⟩
  obtain ⟨ak, ae, k, hdv, hda⟩ := hob
  rw [hdv]
  clear hdv
  have HX4 := hide (HX.out.on (box_below X3 (.cells #[.int .i64 ak, .int .i64 ae] 24)))
  have d2 := keep_cell (box_below X3 (.cells #[.int .i64 ak, .int .i64 ae] 24)) d1
  have wk : IntKind.i64.wrap ((k : Int) + 1) = (k : Int) + 1 := by
    rw [IntKind.wrap_i64]
    rcases hda with ⟨_, h⟩ | ⟨_, _, h⟩ <;> omega
  by_cases hhead : y = wElse ∧ docAct t = some (⟨ak, ae⟩, k) ∧ k = m
  case neg =>
    have HV := hide (show parseP s = (zeroPol, 4) by
      have : docHead (y :: t) = none := by
        rw [HHE.out]
        by_cases hy : y = wElse
        · rw [if_pos hy]
          rcases hda with ⟨h, _⟩ | ⟨h, _⟩
          · rw [h]
          · rw [h]
            simp only
            rw [if_neg (fun hk => hhead ⟨hy, h, by rw [HM.out]; exact hk⟩)]
        · rw [if_neg hy]
      rw [HPP.out, HD0.out, this])
    have hres := HX4.out.res
    have hxb := HX4.out.below
    by_cases hy : y = wElse
    · have by1 : (yq.toList == [101, 108, 115, 101]) = true := by rw [HYL.out, hy]; rfl
      by_cases hk0 : k = 0
      · subst hk0
        clear hhead hy hda
        obtain ⟨q0, q1, q2, g0, g1, g2⟩ := pol_cells hres
        go_wp2
        rw [pol_set3 hres]
        refine bodyPost_ret (v := .tuple #[.agg #[.slice none 0 0, .int .i64 0, .int .i64 0], .int .i64 4]) (results_pol rfl _ _ w.heap.size #[.slice none 0 0, .int .i64 0, .int .i64 0] _ rfl rfl rfl (setRow_heap _ _ _ _ _ _ hres)) rfl ⟨⟨none, 0, ?_, ?_⟩, below_setRow hxb (Nat.le_refl _) _⟩
        · rw [HV.out]; rfl
        · rw [HV.out]; exact zeroPol_is _
      have hkm : ¬ (k : Int) = m := fun h => by
        rcases hda with ⟨_, h0⟩ | ⟨h0, _⟩
        · exact hk0 h0
        · exact hhead ⟨hy, h0, by omega⟩
      have hk0' : ¬ (k : Int) = 0 := by omega
      have hk1 : ((k : Int) + 1 == (m : Int) + 1) = false := by simp; omega
      have hk2 : ((k : Int) + 1 != (m : Int) + 1) = true := by rw [bne, hk1]; rfl
      clear hhead hy hda hk0
      obtain ⟨q0, q1, q2, g0, g1, g2⟩ := pol_cells hres
      go_wp2
      rw [pol_set3 hres]
      refine bodyPost_ret (v := .tuple #[.agg #[.slice none 0 0, .int .i64 0, .int .i64 0], .int .i64 4]) (results_pol rfl _ _ w.heap.size #[.slice none 0 0, .int .i64 0, .int .i64 0] _ rfl rfl rfl (setRow_heap _ _ _ _ _ _ hres)) rfl ⟨⟨none, 0, ?_, ?_⟩, below_setRow hxb (Nat.le_refl _) _⟩
      · rw [HV.out]; rfl
      · rw [HV.out]; exact zeroPol_is _
    · have by1 : (yq.toList == [101, 108, 115, 101]) = false := by rw [HYL.out]; exact beq_no hy
      clear hhead hy hda
      obtain ⟨q0, q1, q2, g0, g1, g2⟩ := pol_cells hres
      go_wp2
      rw [pol_set3 hres]
      refine bodyPost_ret (v := .tuple #[.agg #[.slice none 0 0, .int .i64 0, .int .i64 0], .int .i64 4]) (results_pol rfl _ _ w.heap.size #[.slice none 0 0, .int .i64 0, .int .i64 0] _ rfl rfl rfl (setRow_heap _ _ _ _ _ _ hres)) rfl ⟨⟨none, 0, ?_, ?_⟩, below_setRow hxb (Nat.le_refl _) _⟩
      · rw [HV.out]; rfl
      · rw [HV.out]; exact zeroPol_is _
  obtain ⟨hy, hdk, hkm⟩ := hhead
  have by1 : (yq.toList == [101, 108, 115, 101]) = true := by rw [HYL.out, hy]; rfl
  have hk1 : 1 ≤ k := by
    rcases hda with ⟨h, _⟩ | ⟨_, h, _⟩
    · rw [h] at hdk; simp at hdk
    · exact h
  have HAO := hide (docAct_ok hdk)
  have HD1 := hide (show docP s = match docRules ls.tail.dropLast with
      | some rs => if polF ⟨rs, ⟨ak, ae⟩⟩ = 0 then some ⟨rs, ⟨ak, ae⟩⟩ else none
      | none => none by
    have : docHead (y :: t) = some ⟨ak, ae⟩ := by
      rw [HHE.out, if_pos hy, hdk]
      simp only
      rw [if_pos (by rw [← HM.out]; exact hkm)]
    rw [HD0.out, this])
  subst hkm
  clear hy hdk hda HHE HD0 HYL HM
  have hk0' : ¬ (k : Int) = 0 := by omega
  have hXl := (Array.getElem?_eq_some_iff.1 HX4.out.res).1
  have hbl3 := HX4.out.lt
  obtain ⟨r9, hr9⟩ : ∃ r, r = (X3.alloc (.cells #[.int .i64 ak, .int .i64 ae] 24)).heap.size := ⟨_, rfl⟩
  have HQ := hide (show PX w r9 b off ls ⟨ak, ae⟩ (.slice none 0 0) ((X3.alloc (.cells #[.int .i64 ak, .int .i64 ae] 24)).alloc (.cells #[.slice none 0 0, .int .i64 ak, .int .i64 ae] 26)) from ⟨HX4.out.on (box_below _ _), by rw [hr9]; exact heap_alloc_new _ _, by rw [hr9]; exact hXl, by rw [hr9]; exact hbl3⟩)
  rw [World.size_alloc] at hr9
  clear hXl hbl3
  go_wp2
  rw [← hr9]
  clear hr9 d1 d2 wk
  obtain ⟨n', rfl⟩ : ∃ n', n = n' + 1 := ⟨n - 1, by omega⟩
  go_loopw [10] (fun I w' => ∃ (i : Nat) (es : List RE) (sv : Value), i ≤ n' ∧ I = .int .i64 ((i : Int) + 1) ∧ Hid (PX w r9 b off ls ⟨ak, ae⟩ sv w') ∧ Hid (w'.ownsRow (r9 + 1) 65 4 sv es.length (flatR es)) ∧ Hid (CondsOk r9 sv es w') ∧ Hid (docRules (ls.tail.dropLast.take i) = some (es.map (·.1))) ∧ Hid (es.length = i)) (fun I _ => n' + 1 - (intOf I).toNat)
  case atStart => exact ⟨0, [], .slice none 0 0, by omega, rfl, HQ, hide (World.ownsRow_nil _ _ _ _), hide (fun e he => by cases he), hide (by simp [docRules]), hide rfl⟩
  case round =>
    obtain ⟨i, es, sv, hi, rfl, HC, HO, HK, HI, HEL⟩ := hrel
    clear HQ
    by_cases hlt : i < n'
    · obtain ⟨z, hz⟩ : ∃ z, ls[i + 1]? = some z := ⟨_, List.getElem?_eq_getElem (by rw [HN.out]; omega)⟩
      have hzs := HSM.out z (List.mem_of_getElem? hz)
      have cz := HC.out.base.lines (i + 1) z hz
      have HRR := fun Y => druleOf_any z hzs Y
      have hzd : ls.tail.dropLast[i]? = some z := by
        have := rule_line (ls := ls) (i := i + 1) (by omega) (by rw [HN.out]; omega)
        rw [show i + 1 - 1 = i by omega] at this
        rw [this]; exact hz
      have htk : ls.tail.dropLast.take (i + 1) = ls.tail.dropLast.take i ++ [z] := by rw [List.take_add_one, hzd]; rfl
      obtain ⟨zq, hzq⟩ : ∃ q : ByteArray, q = bs z := ⟨_, rfl⟩
      simp only [← hzq] at HRR
      rw [← hzq] at cz
      have HZD := hide hzd
      have HTK := hide htk
      clear hzd htk hzq hz hzs
      have j1 : (0 : Int) ≤ (i : Int) + 1 := by omega
      have j2 : (i : Int) + 1 < (n' : Int) + 1 := by omega
      have j3 : (i : Int) + 1 < (n' : Int) + 1 + 1 := by omega
      obtain ⟨o, ho⟩ : ∃ o, o = docRule (splitC 32 z) := ⟨_, rfl⟩
      simp only [← ho] at HRR
      have hel : es.length ≤ 9000 := by have := HEL.out; omega
      go_wp2_with fail
      refine (HRR _).mono ?_
      rintro e w1 ⟨hre, hb1⟩
      cases o with
      | none =>
        obtain ⟨nr, ⟨rk, re⟩, oc, ln, cc, hlc, hcm, rfl⟩ := hre
        have HV := hide (show parseP s = (zeroPol, 4) by
          rw [HPP.out, HD1.out, docRules_none _ i z HZD.out ho.symm])
        have HD := hide ((HC.out.on hb1).on (box_below w1 (.cells #[.int .i64 nr, .slice oc ln cc, .int .i64 rk, .int .i64 re] 65)))
        have hres := HD.out.base.res
        have hxb := HD.out.base.below
        clear hb1 cz ho HRR
        unfold ruleC
        simp only
        obtain ⟨q0, q1, q2, g0, g1, g2⟩ := pol_cells hres
        go_wp2
        rw [pol_set3 hres]
        refine bodyPost_ret (v := .tuple #[.agg #[.slice none 0 0, .int .i64 0, .int .i64 0], .int .i64 4]) (results_pol rfl _ _ w.heap.size #[.slice none 0 0, .int .i64 0, .int .i64 0] _ rfl rfl rfl (setRow_heap _ _ _ _ _ _ hres)) rfl ⟨⟨none, 0, ?_, ?_⟩, below_setRow hxb (Nat.le_refl _) _⟩
        · rw [HV.out]; rfl
        · rw [HV.out]; exact zeroPol_is _
      | some rr =>
        obtain ⟨oc, cc, rfl, hcl, hcm, hIC, hbs⟩ := hre
        have HROK := hide (docRule_ok ho.symm)
        have HI2 := hide (show docRules (ls.tail.dropLast.take (i + 1)) = some (es.map (·.1) ++ [rr]) by
          rw [HTK.out, docRules_snoc, HI.out, ← ho]
          rfl)
        have HD := hide ((HC.out.on hb1).on (box_below w1 (.cells (ruleC rr.nr (.slice oc rr.conds.length cc) rr.act) 65)))
        have HOD := hide (own_on (own_on HO.out hb1) (box_below w1 (.cells (ruleC rr.nr (.slice oc rr.conds.length cc) rr.act) 65)))
        have HB2 := hide (below_next hb1 (box_below w1 (.cells (ruleC rr.nr (.slice oc rr.conds.length cc) rr.act) 65)))
        have HNEW := hide (And.intro hcl (And.intro hcm (And.intro (hIC.on (box_below w1 (.cells (ruleC rr.nr (.slice oc rr.conds.length cc) rr.act) 65))) (show ∀ b' off', oc = some ⟨b', off', none⟩ → wr.heap.size ≤ b' ∧ b' < (w1.alloc (.cells (ruleC rr.nr (.slice oc rr.conds.length cc) rr.act) 65)).heap.size from fun b' off' e => by
          have := hbs b' off' e
          rw [World.size_alloc]
          omega))))
        have cS0 := block_lt_of_cell (cell_of_row _ _ 0 _ _ _ HC.out.row : wr.cell? ⟨r9, 0, none⟩ = some sv)
        obtain ⟨nr, cs, ⟨rk, re⟩⟩ := rr
        unfold ruleC at HD HOD HB2 HNEW ⊢
        simp only at HD HOD HB2 HNEW ⊢
        obtain ⟨inf, hi0, hz0, hz1, hz2⟩ := info_rule
        have cS : (w1.alloc (.cells #[.int .i64 nr, .slice oc cs.length cc, .int .i64 rk, .int .i64 re] 65)).cell? ⟨r9, 0, none⟩ = some sv := cell_of_row _ _ 0 _ _ _ HD.out.row
        have l9 := HD.out.lt
        rw [World.size_alloc] at l9
        clear hb1 cz ho HRR hIC hbs
        go_wp2_with (first
          | (refine wpList_append_lies _ (by rfl) _ _ _ (by rfl) (r9 + 1) 65 inf _ 4 48 Tryz.underlying22 hi0 hz0 hz1 hz2 rfl (by omega) sv es.length (flatR es) (by rfl) (HOD.out.alloc _) ⟨w1.heap.size + 1, 0, none⟩ 1 1 [.int .i64 nr, .slice oc cs.length cc, .int .i64 rk, .int .i64 re] (by rfl) (by rfl) (World.news_of_block (cs := #[.int .i64 nr, .slice oc cs.length cc, .int .i64 rk, .int .i64 re]) (t := 65) (fr := (0, 0)) (by have h := heap_alloc_new (w1.alloc (.cells #[.int .i64 nr, .slice oc cs.length cc, .int .i64 rk, .int .i64 re] 65)) (.cells #[.int .i64 nr, .slice oc cs.length cc, .int .i64 rk, .int .i64 re] 65); rwa [World.size_alloc] at h)) (by simp [Value.oneCell']) (by omega) (by simp only [maxLen]; omega) (by omega) (by rw [World.size_alloc, World.size_alloc]; omega) (w1.heap.size + 2) (by simp) ?_; intro gg cap1 w2 hown1 hgrow hat hltt; have HG := hide (And.intro hown1 (And.intro hgrow (And.intro hat hltt))); have HW := hide (HD.out.heap (Y := w2) ⟨hgrow.os, hgrow.tape, hgrow.output⟩ (Nat.le_trans (box_below _ _).size hgrow.size) (fun k hk => (hgrow.block k (by rw [World.size_alloc, World.size_alloc]; omega) (fun e1 => by have := (HOD.out.lt k e1.symm).1; omega)).trans ((box_below _ _).block k (by rw [World.size_alloc]; omega)))); have cE : w2.cell? ⟨r9, 0, none⟩ = some sv := cell_of_row _ _ 0 _ _ _ HW.out.row; have fE : w2.frozen? ⟨r9, 0, none⟩ = false := frozen_of_row _ _ 0 _ _ HW.out.row; clear hown1 hgrow hat hltt))
        have HS2 := hide (HW.out.set (.slice (some ⟨gg, 0, none⟩) (es.length + 1) cap1))
        have HO2 := hide (own_but (r := r9) (V := w2.setCell ⟨r9, 0, none⟩ (.slice (some ⟨gg, 0, none⟩) (es.length + 1) cap1)) HG.out.1 (But.set r9 0 w2 _) (by omega))
        have HK2 := hide (condsOk_more (e := ((⟨nr, cs, ⟨rk, re⟩⟩ : RL), oc, cc)) (gg := gg) (n := es.length + 1) (cap := cap1) HK.out HB2.out ⟨HROK.out, HNEW.out.2.2.1, HNEW.out.1, HNEW.out.2.1, HNEW.out.2.2.2⟩ cS0 (fun k hk => (HO.out.lt k hk).2) HG.out.2.1 (by rw [World.size_alloc]; exact HG.out.2.2.1) (w2.setCell ⟨r9, 0, none⟩ (.slice (some ⟨gg, 0, none⟩) (es.length + 1) cap1)) (fun k hk => Below.heap_setCell _ _ _ _ hk) (But.set r9 0 w2 _).size)
        have HI3 := hide (show docRules (ls.tail.dropLast.take (i + 1)) = some ((es ++ [((⟨nr, cs, ⟨rk, re⟩⟩ : RL), oc, cc)]).map (·.1)) by rw [HI2.out, List.map_append]; rfl)
        have HEL2 := hide (show (es ++ [((⟨nr, cs, ⟨rk, re⟩⟩ : RL), oc, cc)]).length = i + 1 by rw [List.length_append, List.length_singleton, HEL.out])
        replace HO2 : Hid ((w2.setCell ⟨r9, 0, none⟩ (.slice (some ⟨gg, 0, none⟩) (es.length + 1) cap1)).ownsRow (r9 + 1) 65 4 (.slice (some ⟨gg, 0, none⟩) (es.length + 1) cap1) (es ++ [((⟨nr, cs, ⟨rk, re⟩⟩ : RL), oc, cc)]).length (flatR (es ++ [((⟨nr, cs, ⟨rk, re⟩⟩ : RL), oc, cc)]))) := hide (by rw [List.length_append, List.length_singleton, flatR_snoc]; exact HO2.out)
        clear cE fE cS HG HW HD HOD HNEW HB2
        go_wp2
        go_round
        case rel => exact ⟨i + 1, by omega, by omega, es ++ [((⟨nr, cs, ⟨rk, re⟩⟩ : RL), oc, cc)], _, HS2, HO2, HK2, HI3, HEL2⟩
        case measure => simp [intOf]; omega
    · have hin : i = n' := by omega
      have HEQ := hide (show docRules ls.tail.dropLast = some (es.map (·.1)) by
        rw [← HI.out, List.take_of_length_le (by rw [List.length_dropLast, List.length_tail, HN.out]; omega)])
      have j2 : ¬ (i : Int) + 1 < (n' : Int) + 1 := by omega
      have c0 : wr.cell? ⟨r9, 0, none⟩ = some sv := cell_of_row _ _ 0 _ _ _ HC.out.row
      have c1 : wr.cell? ⟨r9, 1, none⟩ = some (.int .i64 ak) := cell_of_row _ _ 1 _ _ _ HC.out.row
      have c2 : wr.cell? ⟨r9, 2, none⟩ = some (.int .i64 ae) := cell_of_row _ _ 2 _ _ _ HC.out.row
      obtain ⟨oc, cc, hsv, hcl, hcm, hIR⟩ := rules_owned HO.out HK.out
      subst hsv
      obtain ⟨p, hp⟩ : ∃ p : POL, p = ⟨es.map (·.1), ⟨ak, ae⟩⟩ := ⟨_, rfl⟩
      have hpn : p.rules.length = es.length := by rw [hp]; simp
      have HIP := hide (show IsPol oc cc p wr from ⟨by rw [hp]; exact hIR, by rw [hpn]; exact hcl, hcm, by
        rw [hp]
        refine ⟨fun r hr => ?_, HAO.out⟩
        obtain ⟨e, he, rfl⟩ := List.mem_map.1 hr
        exact (HK.out e he).1⟩)
      have HPF := dpolF_any p oc cc wr HIP.out
      have hpk : p.els.kind = ak := by rw [hp]
      have hpe : p.els.errno = ae := by rw [hp]
      unfold polV at HPF
      rw [hpn, hpk, hpe] at HPF
      have HPE := hide hp
      have HPN := hide hpn
      clear hin hlt hi hp hpn hpk hpe
      obtain ⟨f, hf⟩ : ∃ f, f = polF p := ⟨_, rfl⟩
      rw [← hf] at HPF
      have HF := hide hf
      clear hf
      go_wp2_with fail
      refine HPF.mono ?_
      rintro e w1 ⟨rfl, hb1⟩
      have HD := hide (HC.out.on hb1)
      have HIP1 := hide (HIP.out.on hb1)
      clear hb1 c0 c1 c2 HPF
      have hres := HD.out.base.res
      have hxb := HD.out.base.below
      by_cases hf0 : f = 0
      · have HV := hide (show parseP s = (p, 0) by
          rw [HPP.out, HD1.out, HEQ.out]
          simp only
          rw [if_pos (by rw [← HPE.out, ← HF.out]; exact hf0), ← HPE.out])
        subst hf0
        have c0 : w1.cell? ⟨r9, 0, none⟩ = some (.slice oc es.length cc) := cell_of_row _ _ 0 _ _ _ HD.out.row
        have c1 : w1.cell? ⟨r9, 1, none⟩ = some (.int .i64 ak) := cell_of_row _ _ 1 _ _ _ HD.out.row
        have c2 : w1.cell? ⟨r9, 2, none⟩ = some (.int .i64 ae) := cell_of_row _ _ 2 _ _ _ HD.out.row
        go_wp2_with (refine wpList_store_row rfl 26 _ _ rfl w.heap.size #[.slice oc es.length cc, .int .i64 ak, .int .i64 ae] rfl rfl 26 _ hres size_pol rfl (polC_one _ _ _ _ _) ?_)
        refine bodyPost_ret (v := .tuple #[.agg #[.slice oc es.length cc, .int .i64 ak, .int .i64 ae], .int .i64 0]) (results_pol rfl _ _ w.heap.size #[.slice oc es.length cc, .int .i64 ak, .int .i64 ae] _ rfl rfl rfl (setRow_heap _ _ _ _ _ _ hres)) rfl ⟨⟨oc, cc, ?_, ?_⟩, below_setRow hxb (Nat.le_refl _) _⟩
        · rw [HV.out]
          unfold polV
          simp only
          rw [HPN.out, HPE.out]
          rfl
        · rw [HV.out]; exact HIP1.out.apart hres _
      · have HV := hide (show parseP s = (zeroPol, 4) by
          rw [HPP.out, HD1.out, HEQ.out]
          simp only
          rw [if_neg (by rw [← HPE.out, ← HF.out]; exact hf0)])
        have hf1 : (0 : Int) < f := by omega
        clear hf0
        go_wp2_with (refine wpList_store_row rfl 26 _ _ rfl w.heap.size #[.slice none 0 0, .int .i64 0, .int .i64 0] rfl rfl 26 _ hres size_pol rfl (polC_one _ _ _ _ _) ?_)
        refine bodyPost_ret (v := .tuple #[.agg #[.slice none 0 0, .int .i64 0, .int .i64 0], .int .i64 4]) (results_pol rfl _ _ w.heap.size #[.slice none 0 0, .int .i64 0, .int .i64 0] _ rfl rfl rfl (setRow_heap _ _ _ _ _ _ hres)) rfl ⟨⟨none, 0, ?_, ?_⟩, below_setRow hxb (Nat.le_refl _) _⟩
        · rw [HV.out]; rfl
        · rw [HV.out]; exact zeroPol_is _
end Go.Proofs.YtkogafponpjdnaaGreatDoor

/- lets: a closed fact. -/
namespace Go.Proofs.YtkogafponpjdnaaGreatDoor
open Go.RowKit Go.Sort

def letsP : POL := ⟨[⟨0, [⟨0, 3, 5, 0, ByteArray.empty, noNet⟩], ⟨1, 0⟩⟩], ⟨3, 0⟩⟩
def letsT : W8 := [101, 108, 115, 101, 32, 107, 105, 108, 108, 10, 97, 108, 108, 111, 119, 32, 114, 101, 97, 100, 32, 105, 102, 32, 48, 32, 60, 32, 53, 10]
theorem lets_ok : PlOk letsP := ⟨fun r hr => by
    rw [show r = _ from List.mem_singleton.1 hr]
    exact ⟨i64_nat (k := 0) (by omega), fun c hc => by
      rw [show c = _ from List.mem_singleton.1 hc]
      exact ⟨i64_nat (k := 0) (by omega), i64_nat (k := 3) (by omega), by simp, by simp, noNet_ok⟩, ⟨i64_nat (k := 1) (by omega), i64_nat (k := 0) (by omega)⟩⟩, ⟨i64_nat (k := 3) (by omega), i64_nat (k := 0) (by omega)⟩⟩
theorem dec_0 : Lib.decDigits 0 = [48] := by rw [Lib.decDigits]; rfl
theorem dec_5 : Lib.decDigits 5 = [53] := by rw [Lib.decDigits]; rfl
theorem lets_text : textP letsP = letsT := by
  simp [textP, letsP, letsT, actW, ruleW, condsW, condW, signOf, signW, nameOf, nameW, wElse, wKill, wAllow, wIf, joinC, dec_0, dec_5]
theorem lets_fault : polF letsP = 0 := by decide
theorem lets_parse : parseP letsT = (letsP, 0) := by
  have h := docP_text (pol_ok lets_fault lets_ok) lets_fault
  rw [lets_text] at h
  unfold parseP
  rw [if_neg (by decide), h]
def letsK (n : Nat) : KL := ⟨3221225534, 0, n, 0, 0, 0⟩
theorem lets_judge (n : Nat) : judgeV letsP (letsK n) = .tuple #[.agg #[.int .i64 (if n < 5 then 1 else 3), .int .i64 0, .int .i64 0], .nilIface] := by
  unfold judgeV
  rw [if_pos lets_fault, lets_fault]
  by_cases h : n < 5 <;> simp [judgeR, letsK, judgeFrom, letsP, fitsB, regB, numB, kindOp, holdsN, regN, deepB, verV, verC, errV, h]
theorem letsK_ok (n : Nat) (h : n ≤ 5) : KlOk (letsK n) := ⟨by simp [letsK], by simp [letsK], by simp only [letsK]; omega, by simp [letsK], by simp [letsK], by simp [letsK]⟩

set_option maxHeartbeats 2000000 in
set_option maxRecDepth 100000 in
theorem lets_any (w : World) (hE : EV w) : Calls Tryz.prog 5 #[] w fun e w' => e = .returned (.bool true) ∧ Below w.heap.size w w' := by
  have HPR := pparse_any letsT (by simp [letsT]) w hE
  rw [lets_parse] at HPR
  have HJ := fun n (hn : n ≤ 5) oa cap X h => judge_any letsP oa cap (letsK n) (letsK_ok n hn) X h
  simp only [lets_judge] at HJ
  have HJ4 := fun oa cap X h => HJ 4 (by omega) oa cap X h
  have HJ5 := fun oa cap X h => HJ 5 (by omega) oa cap X h
  rw [if_pos (by omega)] at HJ4
  rw [if_neg (by omega)] at HJ5
  clear HJ
  unfold polV klV klC letsK at HJ4 HJ5
  unfold polV at HPR
  rw [errV_zero] at HPR
  unfold bs letsT at HPR
  have hl : letsP.rules.length = 1 := rfl
  have hk : letsP.els.kind = 3 := rfl
  have he : letsP.els.errno = 0 := rfl
  rw [hl, hk, he] at HPR
  simp only [hl, hk, he] at HJ4 HJ5
  clear hl hk he
  go_enter Tryz.func5, Tryz.ntmps5
  go_wp2_with fail
  refine HPR.mono ?_
  rintro e W1 ⟨⟨oa, cap, rfl, hI⟩, hb1⟩
  have HI := hide hI
  have HB := hide hb1
  clear HPR hI hb1 hE
  obtain ⟨W2, hW2, hW2b, hW2s, hW2c⟩ := one_box W1 #[.slice oa 1 cap, .int .i64 3, .int .i64 0] 26
  have x0 := hW2c 0
  have x1 := hW2c 1
  have x2 := hW2c 2
  simp only [List.getElem?_toArray, List.getElem?_cons_zero, List.getElem?_cons_succ] at x0 x1 x2
  replace HB := hide (below_next HB.out hW2b)
  replace HI := hide (HI.out.on hW2b)
  clear hW2c hW2b hW2s
  go_wp2_with fail
  rw [← hW2]
  clear hW2
  refine (HJ4 oa cap _ HI.out).mono ?_
  rintro e W3 ⟨rfl, hb1⟩
  replace x0 := keep_cell hb1 x0
  replace x1 := keep_cell hb1 x1
  replace x2 := keep_cell hb1 x2
  replace HB := hide (below_next HB.out hb1)
  replace HI := hide (HI.out.on hb1)
  clear hb1 HJ4
  obtain ⟨W4, hW4, hW4b, hW4s, hW4c⟩ := one_box W3 #[.int .i64 1, .int .i64 0, .int .i64 0] 46
  have y0 := hW4c 0
  simp only [List.getElem?_toArray, List.getElem?_cons_zero] at y0
  have l1 : W1.heap.size < W3.heap.size := block_lt_of_cell x0
  replace HB := hide (below_next HB.out hW4b)
  replace HI := hide (HI.out.on hW4b)
  clear hW4c hW4b hW4s
  go_wp2_with fail
  rw [← hW4]
  clear hW4
  refine (HJ5 oa cap _ HI.out).mono ?_
  rintro e W5 ⟨rfl, hb1⟩
  replace y0 := keep_cell hb1 y0
  have hly : W3.heap.size < W5.heap.size := block_lt_of_cell y0
  replace HB := hide (below_next HB.out hb1)
  clear hb1 HJ5 HI x0 x1 x2
  go_wp2_with (go_at_call 13; refine (same_nil 0 _).mono ?_; rintro e w' ⟨rfl, rfl⟩)
  go_ret
  exact ⟨rfl, below_next HB.out (box_below _ _)⟩
end Go.Proofs.YtkogafponpjdnaaGreatDoor

/- LightPolicy, LightValues. -/
namespace Go.Proofs.YtkogafponpjdnaaGreatDoor
open Go.RowKit Go.Sort

def lightC (c : CD) : Bool := decide (c.glob.size ≤ 60)
def lightR (r : RL) : Bool := decide (r.conds.length ≤ 6) && r.conds.all lightC
def lightB (p : POL) : Bool := decide (p.rules.length ≤ 14) && p.rules.all lightR
def lightVL (v : VL) : Bool := decide (v.path.size ≤ 100)
def lightTo (v : VS) : Nat → Bool
  | 0 => true
  | i + 1 => lightTo v i && lightVL (v.at i)
def lightV (v : VS) : Bool := lightTo v 4
theorem lightTo_false {v : VS} {i : Nat} (h : lightTo v i = false) : ∀ k, lightTo v (i + k) = false
  | 0 => h
  | k + 1 => by rw [← Nat.add_assoc, lightTo, lightTo_false h k, Bool.false_and]

set_option maxHeartbeats 4000000 in
theorem lightPol_any (p : POL) (oa : Option Addr) (cap : Nat) (w : World) (h : IsPol oa cap p w) :
    Calls Tryz.prog 6 #[polV p oa cap] w fun e w' => e = .returned (.bool (lightB p)) ∧ Below w.heap.size w w' := by
  obtain ⟨n, hn⟩ : ∃ n, n = p.rules.length := ⟨_, rfl⟩
  have HC := hide (pol_parts h n hn)
  have hmax : n ≤ 9223372036854775807 := by have h1 := h.le; have h2 := h.cap; unfold maxLen at h2; omega
  clear h
  obtain ⟨rs, ⟨ak, ae⟩⟩ := p
  unfold polV
  simp only at HC hn ⊢
  rw [← hn]
  have HZ := hide (show lightB ⟨rs, ⟨ak, ae⟩⟩ = (decide (n ≤ 14) && rs.all lightR) by rw [hn]; rfl)
  obtain ⟨z, hz⟩ : ∃ z, z = lightB ⟨rs, ⟨ak, ae⟩⟩ := ⟨_, rfl⟩
  rw [← hz] at HZ ⊢
  have HN := hide hn
  have HL := hide (show ∀ i, i < n → ∃ c, rs[i]? = some c ∧ rs.take (i + 1) = rs.take i ++ [c] from fun i h => take_next (by omega))
  clear hn hz
  obtain ⟨V, hV, hB, hsz, hx⟩ := one_box w #[.slice oa n cap, .int .i64 ak, .int .i64 ae] 26
  have x0 := hx 0
  simp only [List.getElem?_toArray, List.getElem?_cons_zero] at x0
  clear hx
  by_cases h14 : 14 < n
  · have HF := hide (show z = false by rw [HZ.out, decide_eq_false (by omega), Bool.false_and])
    go_enter Tryz.func6, Tryz.ntmps6
    go_wp2
    go_ret
    exact ⟨ret_bool HF.out.symm, box_below _ _⟩
  have HZ2 := hide (show z = rs.all lightR by rw [HZ.out, decide_eq_true (by omega), Bool.true_and])
  clear HZ
  go_enter Tryz.func6, Tryz.ntmps6
  go_wp2
  rw [← hV]
  clear hV
  go_loopw [3] (fun I w' => ∃ i : Nat, i ≤ n ∧ I = .int .i64 i ∧ Hid ((rs.take i).all lightR = true) ∧ w' = V) (fun I _ => n - (intOf I).toNat)
  case atStart => exact ⟨0, by omega, rfl, hide rfl, rfl⟩
  case round =>
    obtain ⟨i, hi, rfl, HG, hwr⟩ := hrel
    replace hwr := hwr.symm
    subst hwr
    by_cases hlt : i < n
    · obtain ⟨c, hcs, hcat⟩ := HL.out i hlt
      obtain ⟨b, off, rfl, hbw, HA⟩ := HC.out (by omega)
      obtain ⟨ca, cc, hR0⟩ := HA.out i c hcs
      have hR := hR0.on hbw hB
      clear hR0
      have k1 := hR.k1
      have HQ := hide (all_take_snoc (f := lightR) hcat HG.out)
      obtain ⟨m, hm⟩ : ∃ m, m = c.conds.length := ⟨_, rfl⟩
      rw [← hm] at k1
      have HCC := hide (conds_parts hR.conds m hm)
      have hmm : m ≤ 9223372036854775807 := by have h1 := hR.le; have h2 := hR.cap; unfold maxLen at h2; omega
      have HLR := hide (show lightR c = (decide (m ≤ 6) && c.conds.all lightC) by rw [hm]; rfl)
      have HCL := hide (show ∀ j, j < m → ∃ x, c.conds[j]? = some x ∧ c.conds.take (j + 1) = c.conds.take j ++ [x] from fun j h => take_next (by omega))
      have HM := hide hm
      clear hm hR hcs hcat
      by_cases h6 : 6 < m
      · have HF := hide (show z = false by
          rw [HZ2.out]
          refine all_take_false (i := i + 1) ?_
          rw [HQ.out, HLR.out, decide_eq_false (by omega), Bool.false_and])
        go_wp2
        go_ret
        exact ⟨ret_bool HF.out.symm, hB⟩
      have HLR2 := hide (show lightR c = c.conds.all lightC by rw [HLR.out, decide_eq_true (by omega), Bool.true_and])
      clear HLR
      go_wp2
      go_loopw [4] (fun J w' => ∃ j : Nat, j ≤ m ∧ J = .int .i64 j ∧ Hid ((c.conds.take j).all lightC = true) ∧ w' = V) (fun J _ => m - (intOf J).toNat)
      case atStart => exact ⟨0, by omega, rfl, hide rfl, rfl⟩
      case round =>
        obtain ⟨j, hj, rfl, HGJ, hwr⟩ := hrel
        replace hwr := hwr.symm
        subst hwr
        by_cases hjl : j < m
        · obtain ⟨x, hxs, hxcat⟩ := HCL.out j hjl
          obtain ⟨b2, off2, rfl, hbw2, HA2⟩ := HCC.out (by omega)
          have k4 := (HA2.out j x hxs).k4
          have HQ2 := hide (all_take_snoc (f := lightC) hxcat HGJ.out)
          have HLC := hide (show lightC x = decide (x.glob.size ≤ 60) from rfl)
          obtain ⟨gl, hgl⟩ : ∃ g, g = x.glob := ⟨_, rfl⟩
          rw [← hgl] at k4 HLC
          clear hgl hxs hxcat
          by_cases h60 : 60 < gl.size
          · have HF := hide (show z = false by
              rw [HZ2.out]
              refine all_take_false (i := i + 1) ?_
              rw [HQ.out, HLR2.out]
              refine all_take_false (i := j + 1) ?_
              rw [HQ2.out, HLC.out, decide_eq_false (by omega)])
            go_wp2
            go_ret
            exact ⟨ret_bool HF.out.symm, hB⟩
          · replace HQ2 := hide (show (c.conds.take (j + 1)).all lightC = true by rw [HQ2.out, HLC.out, decide_eq_true (by omega)])
            go_wp2
            go_round
            case rel => exact ⟨j + 1, by omega, by go_num, HQ2, trivial⟩
            case measure => simp [intOf]; omega
        · obtain rfl : j = m := by omega
          have HQ3 := hide (show (rs.take (i + 1)).all lightR = true by
            rw [HQ.out, HLR2.out]
            have := HGJ.out
            rwa [List.take_of_length_le (by rw [HM.out]; exact Nat.le_refl _)] at this)
          go_wp2
          go_round
          case rel => exact ⟨i + 1, by omega, by go_num, HQ3, trivial⟩
          case measure => simp [intOf]; omega
    · obtain rfl : i = n := by omega
      have HF := hide (show z = true by
        have := HG.out
        rw [List.take_of_length_le (by rw [HN.out]; exact Nat.le_refl _)] at this
        rw [HZ2.out, this])
      go_wp2
      go_ret
      exact ⟨ret_bool HF.out.symm, hB⟩

set_option maxHeartbeats 1000000 in
theorem lightVals_any (v : VS) (w : World) : Calls Tryz.prog 7 #[vsV v] w fun e w' => e = .returned (.bool (lightV v)) ∧ Below w.heap.size w w' := by
  obtain ⟨vc, hvc⟩ : ∃ c, c = vsC v := ⟨_, rfl⟩
  have hvs : vc.size = 12 := by rw [hvc]; rfl
  unfold vsV
  rw [← hvc]
  have HVC := hide hvc
  clear hvc
  obtain ⟨V, hV, hB, hsz, hx⟩ := one_box w vc 35
  have HX := hide hx
  clear hx
  obtain ⟨z, hz⟩ : ∃ z, z = lightV v := ⟨_, rfl⟩
  have HZ := hide hz
  rw [← hz]
  clear hz
  go_enter Tryz.func7, Tryz.ntmps7
  go_wp2
  rw [← hV]
  clear hV
  go_loopw [3] (fun I w' => ∃ i : Nat, i ≤ 4 ∧ I = .int .i64 i ∧ Hid (lightTo v i = true) ∧ w' = V) (fun I _ => 4 - (intOf I).toNat)
  case atStart => exact ⟨0, by omega, rfl, hide rfl, rfl⟩
  case round =>
    obtain ⟨i, hi, rfl, HG, hwr⟩ := hrel
    replace hwr := hwr.symm
    subst hwr
    by_cases hlt : i < 4
    · have k0 : V.cell? ⟨w.heap.size, i * 3, none⟩ = some (.string (v.at i).path) := by rw [HX.out (i * 3), HVC.out]; exact (vsC_at v i (by omega)).1
      have HQ := hide (show lightTo v (i + 1) = decide ((v.at i).path.size ≤ 100) by rw [lightTo, HG.out, Bool.true_and]; rfl)
      obtain ⟨p, hp⟩ : ∃ p, p = (v.at i).path := ⟨_, rfl⟩
      rw [← hp] at k0 HQ
      clear hp
      by_cases h100 : 100 < p.size
      · have HF := hide (show z = false by
          have h1 := lightTo_false (HQ.out.trans (decide_eq_false (by omega))) (3 - i)
          rw [show i + 1 + (3 - i) = 4 by omega] at h1
          rw [HZ.out]
          exact h1)
        go_wp2
        go_ret
        exact ⟨ret_bool HF.out.symm, hB⟩
      · replace HQ := hide (HQ.out.trans (decide_eq_true (by omega)))
        go_wp2
        go_round
        case rel => exact ⟨i + 1, by omega, by go_num, HQ, trivial⟩
        case measure => simp [intOf]; omega
    · obtain rfl : i = 4 := by omega
      have HF := hide (show z = true by rw [HZ.out]; exact HG.out)
      go_wp2
      go_ret
      exact ⟨ret_bool HF.out.symm, hB⟩
end Go.Proofs.YtkogafponpjdnaaGreatDoor

/- SamePolicy, of two that are alike. -/
namespace Go.Proofs.YtkogafponpjdnaaGreatDoor
open Go.RowKit Go.Sort

set_option maxHeartbeats 4000000 in
set_option maxRecDepth 100000 in
theorem samePol_any (p : POL) (oa ob : Option Addr) (cap cbp : Nat) (w : World) (h1 : IsPol oa cap p w) (h2 : IsPol ob cbp p w) :
    Calls Tryz.prog 15 #[polV p oa cap, polV p ob cbp] w fun e w' => e = .returned (.bool true) ∧ Below w.heap.size w w' := by
  obtain ⟨n, hn⟩ : ∃ n, n = p.rules.length := ⟨_, rfl⟩
  have HC := hide (pol_parts h1 n hn)
  have HD := hide (pol_parts h2 n hn)
  have hmax : n ≤ 9223372036854775807 := by have h3 := h1.le; have h4 := h1.cap; unfold maxLen at h4; omega
  clear h1 h2
  obtain ⟨rs, ⟨ak, ae⟩⟩ := p
  unfold polV
  simp only at HC HD hn ⊢
  rw [← hn]
  have HL := hide (show ∀ i, i < n → ∃ c, rs[i]? = some c from fun i h => ⟨_, List.getElem?_eq_getElem (by omega)⟩)
  clear hn
  obtain ⟨V, hV, hB, hx, hy⟩ := two_box w #[.slice oa n cap, .int .i64 ak, .int .i64 ae] #[.slice ob n cbp, .int .i64 ak, .int .i64 ae] 26 26
  have x0 := hx 0
  have y0 := hy 0
  simp only [List.getElem?_toArray, List.getElem?_cons_zero] at x0 y0
  clear hx hy
  go_enter Tryz.func15, Tryz.ntmps15
  go_wp2
  rw [← hV]
  clear hV
  go_loopw [5] (fun I w' => ∃ i : Nat, i ≤ n ∧ I = .int .i64 i ∧ Hid (Below V.heap.size V w')) (fun I _ => n - (intOf I).toNat)
  case atStart => exact ⟨0, by omega, rfl, hide (Below.refl _ _)⟩
  case round =>
    obtain ⟨i, hi, rfl, HB⟩ := hrel
    have HW := hide (below_next hB HB.out)
    have z0 := keep_cell HB.out x0
    have u0 := keep_cell HB.out y0
    by_cases hlt : i < n
    · obtain ⟨c, hcs⟩ := HL.out i hlt
      obtain ⟨b, off, rfl, hbw, HA⟩ := HC.out (by omega)
      obtain ⟨b2, off2, rfl, hbw2, HA2⟩ := HD.out (by omega)
      obtain ⟨ca, cc, hR0⟩ := HA.out i c hcs
      obtain ⟨cb, cd, hS0⟩ := HA2.out i c hcs
      have hR := hR0.on hbw HW.out
      have hS := hS0.on hbw2 HW.out
      obtain ⟨m, hm⟩ : ∃ m, m = c.conds.length := ⟨_, rfl⟩
      have hmm : m ≤ 9223372036854775807 := by have h1 := hR.le; have h2 := hR.cap; unfold maxLen at h2; omega
      obtain ⟨W2, hW2, hW2b, hr, hs⟩ := two_box wr #[.int .i64 c.nr, .slice ca m cc, .int .i64 c.act.kind, .int .i64 c.act.errno] #[.int .i64 c.nr, .slice cb m cd, .int .i64 c.act.kind, .int .i64 c.act.errno] 65 65
      have HCC := hide (conds_parts (hR.conds.on hW2b) m hm)
      have HCD := hide (conds_parts (hS.conds.on hW2b) m hm)
      have HCL := hide (show ∀ j, j < m → ∃ x, c.conds[j]? = some x from fun j h => ⟨_, List.getElem?_eq_getElem (by omega)⟩)
      obtain ⟨p0, p1, p2, p3, _, _, _, _⟩ := hR
      obtain ⟨q0, q1, q2, q3, _, _, _, _⟩ := hS
      rw [← hm] at p1 q1
      have r1 := hr 1
      have s1 := hs 1
      simp only [List.getElem?_toArray, List.getElem?_cons_zero, List.getElem?_cons_succ] at r1 s1
      have lb : b < wr.heap.size := Nat.lt_of_lt_of_le hbw HW.out.size
      have lb2 : b2 < wr.heap.size := Nat.lt_of_lt_of_le hbw2 HW.out.size
      have lw : w.heap.size + 1 < wr.heap.size := block_lt_of_cell u0
      clear hr hs hR0 hS0 hcs hm
      obtain ⟨nr, cs, ⟨rk, re⟩⟩ := c
      simp only at p0 p1 p2 p3 q0 q1 q2 q3 hW2 HCL HCC HCD
      go_wp2
      rw [← hW2]
      have HW2 := hide hW2
      clear hW2
      go_loopw [8] (fun J w' => ∃ j : Nat, j ≤ m ∧ J = .int .i64 j ∧ Hid (Below W2.heap.size W2 w')) (fun J _ => m - (intOf J).toNat)
      case atStart => exact ⟨0, by omega, rfl, hide (Below.refl _ _)⟩
      case round =>
        obtain ⟨j, hj, rfl, HBJ⟩ := hrel
        have t1 := keep_cell HBJ.out r1
        have v1 := keep_cell HBJ.out s1
        by_cases hjl : j < m
        · obtain ⟨x, hxs⟩ := HCL.out j hjl
          obtain ⟨b3, off3, rfl, hbw3, HA3⟩ := HCC.out (by omega)
          obtain ⟨b4, off4, rfl, hbw4, HA4⟩ := HCD.out (by omega)
          obtain ⟨g0, g1, g2, g3, g4, g5, g6, g7, g8, _⟩ := (HA3.out j x hxs).on fun k => (bcell HBJ.out).1 b3 k hbw3
          obtain ⟨k0, k1, k2, k3, k4, k5, k6, k7, k8, _⟩ := (HA4.out j x hxs).on fun k => (bcell HBJ.out).1 b4 k hbw4
          obtain ⟨arg, op, vv, mm, gl, ⟨ip, bb, lo, hh⟩⟩ := x
          simp only at g0 g1 g2 g3 g4 g5 g6 g7 g8 k0 k1 k2 k3 k4 k5 k6 k7 k8
          have i1 : (0 : Int) ≤ j := by omega
          have i2 : (j : Int) < m := by omega
          clear hxs
          go_wp2
          go_quiet (fail)
          go_wp2
          go_round
          case rel => exact ⟨j + 1, by omega, by go_num, hide (below_drewN' HBJ.out _)⟩
          case measure => simp [intOf]; omega
        · obtain rfl : j = m := by omega
          go_wp2
          go_round
          case rel => exact ⟨i + 1, by omega, by go_num, hide (below_next (below_next HB.out hW2b) HBJ.out)⟩
          case measure => simp [intOf]; omega
    · obtain rfl : i = n := by omega
      go_wp2
      go_ret
      exact ⟨rfl, HW.out⟩
end Go.Proofs.YtkogafponpjdnaaGreatDoor

/- PolicyReads: the walk. -/
namespace Go.Proofs.YtkogafponpjdnaaGreatDoor
open Go.RowKit Go.Sort

theorem same_errW (f : Nat) (w : World) : Calls Tryz.prog 13 #[errV f, .int .i64 f] w fun e w' => e = .returned (.bool true) ∧ w' = w := by
  by_cases h : f = 0
  · subst h
    exact (same_nil 0 w).mono fun e w' ⟨he, hw⟩ => ⟨he, hw⟩
  · rw [errV_pos h]
    refine (same_errno f f w).mono fun e w' ⟨he, hw⟩ => ⟨?_, hw⟩
    rw [he]
    have h1 : decide ((0 : Int) < f) = true := decide_eq_true (by omega)
    rw [h1]
    simp
set_option maxHeartbeats 2000000 in
set_option maxRecDepth 100000 in
theorem policyReads_any (q : ByteArray) (hq : q.size ≤ maxLen) (w : World) (hE : EV w) : Calls Tryz.prog 4 #[.string q] w fun e w' => e = .returned (.bool true) ∧ Below w.heap.size w w' := by
  have HLE := lets_any w hE
  have hqm : (q.size : Int) ≤ 9223372036854775807 := by unfold maxLen at hq; omega
  by_cases h9 : 9000 < q.size
  · have h9' : (9000 : Int) < q.size := by omega
    clear hq
    go_enter Tryz.func4, Tryz.ntmps4
    go_wp2_with fail
    refine HLE.mono ?_
    rintro e X ⟨rfl, hX⟩
    go_wp2
    go_ret
    exact ⟨rfl, hX⟩
  have h9' : ¬ (9000 : Int) < q.size := by omega
  obtain ⟨s, hs⟩ : ∃ s : W8, s = q.data.toList := ⟨_, rfl⟩
  have hbs : bs s = q := by rw [hs]; exact bs_of q
  have hsl : s.length ≤ 9000 := by rw [hs, ← Lib.size_eq]; omega
  have HPA := fun X hX => pparse_any s hsl X hX
  have HPO := fun X => dpolOf_any s hsl X
  rw [hbs] at HPA HPO
  obtain ⟨p, hp⟩ : ∃ p, p = (parseP s).1 := ⟨_, rfl⟩
  obtain ⟨f, hf⟩ : ∃ f, f = (parseP s).2 := ⟨_, rfl⟩
  rw [← hp, ← hf] at HPA HPO
  have HSE := same_errW f
  obtain ⟨er, her⟩ : ∃ er, er = errV f := ⟨_, rfl⟩
  rw [← her] at HPA HSE
  have HSP := fun oa cap ob cb X h1 h2 => samePol_any p oa ob cap cb X h1 h2
  unfold polV at HPA HPO HSP
  obtain ⟨n, hn⟩ : ∃ n, n = p.rules.length := ⟨_, rfl⟩
  obtain ⟨ak, hak⟩ : ∃ n, n = p.els.kind := ⟨_, rfl⟩
  obtain ⟨ae, hae⟩ : ∃ n, n = p.els.errno := ⟨_, rfl⟩
  rw [← hn, ← hak, ← hae] at HPA HPO HSP
  have HEV := hide hE
  clear hs hbs hsl hp hf her hn hak hae hq h9 hE
  go_enter Tryz.func4, Tryz.ntmps4
  go_wp2_with fail
  refine HLE.mono ?_
  rintro e X ⟨rfl, hX⟩
  have HX := hide hX
  clear hX HLE
  go_wp2_with fail
  refine (HPA _ (HEV.out.on HX.out)).mono ?_
  rintro e X1 ⟨⟨oa, cap, rfl, hI⟩, hX⟩
  obtain ⟨O, hO, hOb, hOs, hOc⟩ := one_box X1 #[.slice oa n cap, .int .i64 ak, .int .i64 ae] 26
  have o0 := hOc 0
  have o1 := hOc 1
  have o2 := hOc 2
  simp only [List.getElem?_toArray, List.getElem?_cons_zero, List.getElem?_cons_succ] at o0 o1 o2
  replace HX := hide (below_next (below_next HX.out hX) hOb)
  have HI := hide (hI.on hOb)
  clear hI hX hOc hOb hOs HPA
  go_wp2_with fail
  rw [← hO]
  clear hO
  refine (HPO _).mono ?_
  rintro e X2 ⟨⟨ob, cb, rfl, hI⟩, hX⟩
  obtain ⟨Q, hQ, hQb, hQs, hQc⟩ := one_box X2 #[.slice ob n cb, .int .i64 ak, .int .i64 ae] 26
  have q0 := hQc 0
  have q1 := hQc 1
  have q2 := hQc 2
  simp only [List.getElem?_toArray, List.getElem?_cons_zero, List.getElem?_cons_succ] at q0 q1 q2
  replace o0 := keep_cell hX o0
  replace o1 := keep_cell hX o1
  replace o2 := keep_cell hX o2
  have lo : X1.heap.size < X2.heap.size := block_lt_of_cell o0
  replace o0 := keep_cell hQb o0
  replace o1 := keep_cell hQb o1
  replace o2 := keep_cell hQb o2
  replace HX := hide (below_next (below_next HX.out hX) hQb)
  replace HI := hide ((HI.out.on hX).on hQb)
  have HI2 := hide (hI.on hQb)
  clear hI hX hQc hQb hQs HPO
  go_wp2_with fail
  rw [← hQ]
  clear hQ
  refine (HSE _).mono ?_
  rintro e w' ⟨rfl, hw'⟩
  rw [hw']
  clear hw' w' HSE
  go_wp2_with fail
  refine (HSP oa cap ob cb _ HI.out HI2.out).mono ?_
  rintro e X3 ⟨rfl, hX⟩
  go_wp2
  go_ret
  exact ⟨rfl, below_next HX.out hX⟩
end Go.Proofs.YtkogafponpjdnaaGreatDoor

namespace Go.Proofs.YtkogafponpjdnaaGreatDoor
open Go.ChangeShapes Go.WideShapes Go.ChangeAt Go.WideMaps Go.WideElems Go.RowKit
open Go.ChangeMaps (open_string shut_string)

set_option maxRecDepth 100000 in
theorem policyReads_lifted (os : Os) (started : os.Started) (H : Type) (enc : TypeId × Value → H) :
    ReturnsInHanded {} Tryz.checked os 4 .any (fun w args => (Rows.policyReadsSpec.pre enc Tryz.prog Tryz.f4 [] false w args ∧ laidMetH Tryz.prog Rows.policyReadsRow.laid w) ∧ sizedMet enc Tryz.prog Tryz.f4 (OpenSpec.ofChange Rows.policyReadsSpec) false w args)
      (Rows.policyReadsSpec.post enc Tryz.prog Tryz.f4 false true false false) := by
  refine lift_shaped (X := fun w => laidMetH Tryz.prog Rows.policyReadsRow.laid w) (fun _ _ hh h => h.of_heap hh) started (by kernel_rfl) Tryz.func4
    (ChangeSpec.witness_shaped (enc := enc) (C := Tryz.checked) (os := os) (X := fun w _ => laidMetH Tryz.prog Rows.policyReadsRow.laid w) false (World.laidAll Tryz.prog os Rows.policyReadsRow.laid) #[.string ⟨#[]⟩] 8 (World.laidAll_os _ _ _) (World.shaped_of_ZipB (by kernel_rfl) (by kernel_rfl)) (by kernel_rfl) (by kernel_rfl) (by kernel_rfl) (by rw [MakeChecks.laidMetH_plain _ _ _ (by kernel_rfl)]; exact laidMet_laidAll _ (by kernel_rfl) (by kernel_rfl))) ?_
  intro W base args ds gs before hval0 hW hL hsh
  have hval : ∀ (j : Nat) t v, Tryz.f4.params[j]? = some t → args[j]? = some v → Value.okWide Tryz.prog W .any base t v := hval0
  have hW' := hW
  obtain ⟨p, q, hA0, hV, rfl, hfz, hnd⟩ := hW
  have hA : DataW.TrodAll enc Tryz.prog W 0 (fun _ => true) true Tryz.f4.params.toList args.toList ds p := hA0
  rw [Tryz.params4] at hA hval
  obtain ⟨v0, d0, rfl, rfl, h0⟩ := trodAll_one hA
  obtain ⟨rfl, rfl⟩ := trodVars_none hV
  obtain ⟨s0, rfl, rfl, rfl, hs0⟩ := open_string Tryz.underlying9 (hval 0 9 v0 rfl rfl) h0
  clear hA0 hval0
  simp only [List.append_nil] at hW'
  refine (policyReads_any s0 hs0 W (ev_of hL rfl ⟨_, rfl⟩ hsh)).mono fun e W' ⟨he, hb⟩ => ?_
  subst he
  exact ⟨_, rfl, post_law (pa := []) (pv := []) hW' (fun _ _ _ => trodAll_mk1 (shut_bool Tryz.underlying4 _)) (fun sp _ => trodAll_mk1 (shut_string Tryz.underlying9 hs0)) (fun _ _ => rfl) rfl hb⟩

theorem policyReads_said : Rows.PolicyReadsSaid :=
  OpenClaim.holds_of_wide 4 Tryz.f4 rfl rfl rfl rfl rfl rfl rfl ⟨rfl, rfl, rfl, rfl, rfl⟩ rfl rfl rfl rfl rfl (by kernel_rfl) Tryz.func4 (by kernel_rfl)
    (of_decide_eq_true (by kernel_rfl)) (by unfold Func.isWrapper; first | (rw [if_pos (by decide +kernel)]; kernel_rfl) | (rw [if_neg (by decide +kernel)]; exact ⟨rfl, rfl⟩))
    (fun os started H enc _ => policyReads_lifted os started H enc)

set_option maxRecDepth 100000 in
/-- No parameter wants a stand-in. -/
theorem policyReads_plain (f : FuncId) (fn : Func) (hf : Tryz.pinned.checked.prog.funcNamed "doorward/doorwardlaw.PolicyReads" = some f) (hfn : Tryz.pinned.checked.prog.funcs[f]? = some fn) :
    true = Tryz.pinned.checked.prog.looks [] ∧ ∀ (j : Nat) t, fn.params[j]? = some t → Tryz.pinned.checked.prog.wantsStandIn t = false := by
  obtain rfl : f = 4 := Option.some.inj ((show Tryz.prog.funcNamed "doorward/doorwardlaw.PolicyReads" = some 4 by kernel_rfl).symm.trans hf) |>.symm
  obtain rfl : fn = Tryz.f4 := (Option.some.inj (Tryz.func4.symm.trans hfn)).symm
  refine ⟨by kernel_rfl, fun j t ht => ?_⟩
  rw [Tryz.params4] at ht
  match j, ht with
  | 0, ht => obtain rfl := Option.some.inj ht; exact (by kernel_rfl : Tryz.pinned.checked.prog.wantsStandIn 9 = false)
  | j + 1, ht => simp at ht

theorem policyReads_card : Rows.PolicyReadsCardSaid :=
  Claim7.holds_tied_plain_at .later [] _ _ _ _ policyReads_said (fun _ h => by cases h) (by kernel_rfl) (fun _ h => by cases h) policyReads_row_tie rfl ⟨rfl, rfl⟩ (by kernel_rfl) rfl policyReads_plain (by kernel_rfl)
#print axioms policyReads_card
end Go.Proofs.YtkogafponpjdnaaGreatDoor
