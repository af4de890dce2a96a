/- Words of a line, taken off one by one. -/
import Derived.Test.YtbifjokfnahiaabGreatDoorK15
namespace Go.Proofs.YtbifjokfnahiaabGreatDoor
open Go.RowKit Go.Sort

/-- All blocks but g are as they were; new ones may lie behind. -/
structure But (g : Nat) (w w' : World) : Prop where
  os : w'.os = w.os
  tape : w'.tape = w.tape
  output : w'.output = w.output
  size : w.heap.size ≤ w'.heap.size
  block : ∀ k, k < w.heap.size → k ≠ g → w'.heap[k]? = w.heap[k]?
theorem But.refl (g : Nat) (w : World) : But g w w := ⟨rfl, rfl, rfl, Nat.le_refl _, fun _ _ _ => rfl⟩
theorem But.trans {g : Nat} {a b c : World} (h : But g a b) (k : But g b c) : But g a c :=
  ⟨k.os.trans h.os, k.tape.trans h.tape, k.output.trans h.output, Nat.le_trans h.size k.size, fun i hi hn => (k.block i (Nat.lt_of_lt_of_le hi h.size) hn).trans (h.block i hi hn)⟩
theorem But.of {g : Nat} {w w' : World} (h : Below w.heap.size w w') : But g w w' := ⟨h.os, h.tape, h.output, h.size, fun k hk _ => h.block k hk⟩
theorem But.below {B g : Nat} {a w w' : World} (h : Below B a w) (hg : B ≤ g) (hB : B ≤ w.heap.size) (k : But g w w') : Below B a w' :=
  h.trans ⟨k.os, k.tape, k.output, k.size, fun i hi => k.block i (by omega) (by omega)⟩
theorem But.set (g o : Nat) (w : World) (v : Value) : But g w (w.setCell ⟨g, o, none⟩ v) := ⟨rfl, rfl, rfl, by simp [World.setCell], fun k _ hn => Below.heap_setCell _ _ _ _ hn⟩
theorem cell_heap {w w' : World} {b : Nat} (h : w'.heap[b]? = w.heap[b]?) (o : Nat) : w'.cell? ⟨b, o, none⟩ = w.cell? ⟨b, o, none⟩ := by
  unfold World.cell?
  simp only [h]
theorem frozen_heap {w w' : World} {b : Nat} (h : w'.heap[b]? = w.heap[b]?) (o : Nat) : w'.frozen? ⟨b, o, none⟩ = w.frozen? ⟨b, o, none⟩ := by
  unfold World.frozen?
  simp only [h]
theorem But.cell {g : Nat} {w w' : World} (k : But g w w') {b o : Nat} {v : Value} (hn : b ≠ g) (h : w.cell? ⟨b, o, none⟩ = some v) : w'.cell? ⟨b, o, none⟩ = some v :=
  (cell_heap (k.block b (block_lt_of_cell h) hn) o).trans h

/-- The words that are left, behind the pointer to block g; all lies below B. -/
structure IsWords (W : World) (g B : Nat) (ws : List W8) : Prop where
  ex : ∃ oa cap, W.cell? ⟨g, 0, none⟩ = some (.slice oa ws.length cap) ∧ ws.length ≤ cap ∧ cap ≤ maxLen ∧ (0 < ws.length → ∃ b off, oa = some ⟨b, off, none⟩ ∧ b ≠ g ∧ b < B ∧ ∀ i x, ws[i]? = some x → W.cell? ⟨b, off + i, none⟩ = some (.string (bs x)))
  fro : W.frozen? ⟨g, 0, none⟩ = false
  lt : g < B
  le : B ≤ W.heap.size
  small : ∀ x ∈ ws, x.length ≤ 9000
theorem IsWords.heap {W V : World} {g B : Nat} {ws : List W8} (h : IsWords W g B ws) (hs : B ≤ V.heap.size) (hb : ∀ k, k < B → V.heap[k]? = W.heap[k]?) : IsWords V g B ws := by
  obtain ⟨oa, cap, h1, h2, h3, h4⟩ := h.ex
  refine ⟨⟨oa, cap, (cell_heap (hb g h.lt) 0).trans h1, h2, h3, fun h0 => ?_⟩, (frozen_heap (hb g h.lt) 0).trans h.fro, h.lt, hs, h.small⟩
  obtain ⟨b, off, e, hn, hlt, hc⟩ := h4 h0
  exact ⟨b, off, e, hn, hlt, fun i x hi => (cell_heap (hb b hlt) _).trans (hc i x hi)⟩
theorem IsWords.on {W V : World} {g B : Nat} {ws : List W8} (h : IsWords W g B ws) (hb : Below W.heap.size W V) : IsWords V g B ws :=
  h.heap (Nat.le_trans h.le hb.size) fun k hk => hb.block k (Nat.lt_of_lt_of_le hk h.le)
theorem head_small {W : World} {g B : Nat} {ws : List W8} (h : IsWords W g B ws) : (ws.headD []).length ≤ 9000 := by
  cases ws with
  | nil => simp
  | cons x r => exact h.small x (by simp)

/-- .. the first one taken off. -/
theorem IsWords.next {w : World} {g B : Nat} {x : W8} {r : List W8} (h : IsWords w g B (x :: r)) {v : Value} (h1 : w.cell? ⟨g, 0, none⟩ = some v) {cc : Nat} (h2 : r.length ≤ cc) (h3 : cc ≤ maxLen) (oa : Option Addr)
    (h4 : 0 < r.length → ∃ b off, oa = some ⟨b, off, none⟩ ∧ b ≠ g ∧ b < B ∧ ∀ i x, r[i]? = some x → w.cell? ⟨b, off + i, none⟩ = some (.string (bs x))) : IsWords (w.setCell ⟨g, 0, none⟩ (.slice oa r.length cc)) g B r := by
  refine ⟨⟨oa, cc, World.cell?_setCell_same _ _ _ h1, h2, h3, fun h0 => ?_⟩, ?_, h.lt, Nat.le_trans h.le (But.set g 0 w _).size, fun y hy => h.small y (by simp [hy])⟩
  · obtain ⟨b, off, e, hn, hlt, hc⟩ := h4 h0
    exact ⟨b, off, e, hn, hlt, fun i x hi => (But.set g 0 w _).cell hn (hc i x hi)⟩
  · rw [World.frozen?_setCell]
    exact h.fro
theorem next_any (ws : List W8) (g B : Nat) (w : World) (h : IsWords w g B ws) : Calls Tryz.prog 26 #[.pointer (some ⟨g, 0, none⟩)] w fun e w' => e = .returned (.string (bs (ws.headD []))) ∧ IsWords w' g B ws.tail ∧ But g w w' := by
  obtain ⟨oa, cap, h1, h2, h3, h4⟩ := h.ex
  have hfr := h.fro
  cases ws with
  | nil =>
    have HH := hide h
    clear h4 h
    simp only [List.length_nil] at h1
    go_enter Tryz.func26, Tryz.ntmps26
    go_wp2
    go_ret
    exact ⟨rfl, HH.out, But.refl _ _⟩
  | cons x r =>
    obtain ⟨b, off, rfl, hn, hlt, hc⟩ := h4 (by simp)
    have c0 := hc 0 x rfl
    have HC := hide hc
    have HH := hide h
    simp only [List.length_cons, Nat.add_zero] at h1 h2 c0
    obtain ⟨n, hn'⟩ : ∃ n, n = r.length := ⟨_, rfl⟩
    rw [← hn'] at h1 h2
    have HN := hide hn'
    obtain ⟨q, hq⟩ : ∃ q, q = bs x := ⟨_, rfl⟩
    rw [← hq] at c0
    have HQ := hide hq
    unfold maxLen at h3
    clear hc h hn' hq h4
    obtain ⟨cc, rfl⟩ : ∃ c, cap = c + 1 := ⟨cap - 1, by omega⟩
    go_enter Tryz.func26, Tryz.ntmps26
    go_wp2
    all_goals
      go_ret
      refine ⟨by rw [HQ.out]; rfl, ?_, But.set _ _ _ _⟩
      rw [HN.out] at h1 h2 ⊢
      exact HH.out.next h1 (by omega) (by unfold maxLen; omega) _ fun h0 => ⟨b, off + 1, by first | rfl | (rw [HN.out] at *; omega), hn, hlt, fun i y hi => by
        have := HC.out (i + 1) y (by rw [List.getElem?_cons_succ]; exact hi)
        rwa [show off + (i + 1) = off + 1 + i by omega] at this⟩

/-! Numbers. -/
theorem tab_heap {w w' : World} (h : Tab w) (hb : ∀ k, k < 7 → w'.heap[k]? = w.heap[k]?) : Tab w' := by
  unfold Tab Lib.TabIs World.var? at *
  rw [show Tryz.prog.globalNamed "internal/strconv.uint64pow10" = some 2 by kernel_rfl] at *
  simp only [Option.bind_some] at *
  rw [hb 2 (by omega)]
  exact h
theorem EV.heap {w w' : World} (h : EV w) (hb : ∀ k, k < 7 → w'.heap[k]? = w.heap[k]?) : EV w' :=
  ⟨tab_heap h.tab hb, fun i hi => (cell_heap (hb 0 (by omega)) i).trans (h.sign i hi), by
    obtain ⟨m, hm⟩ := h.maxl
    exact ⟨m, (cell_heap (hb 1 (by omega)) 0).trans hm⟩, by
    obtain ⟨m, hm, hx⟩ := h.syn
    exact ⟨m, (cell_heap (hb 5 (by omega)) 0).trans hm, hx⟩, by
    obtain ⟨m, hm, hx⟩ := h.rng
    exact ⟨m, (cell_heap (hb 6 (by omega)) 0).trans hm, hx⟩⟩
theorem EV.lt {w : World} (h : EV w) : 7 ≤ w.heap.size := by
  obtain ⟨m, hm, _⟩ := h.rng
  exact block_lt_of_cell hm
theorem EV.but {w w' : World} {g : Nat} (h : EV w) (hg : 7 ≤ g) (hb : But g w w') : EV w' := h.heap fun k hk => hb.block k (by have := h.lt; omega) (by omega)

theorem parseUint_any (s : ByteArray) (hs : s.size ≤ 9000) (w : World) (hE : EV w) : Calls Tryz.prog 54 #[.string s, .int .i64 10, .int .i64 64] w fun e w' => (∃ (u : Nat) (er : Value), e = .returned (.tuple #[.int .u64 u, er]) ∧ (er = .nilIface ∧ u = numU s.data.toList ∨ (∃ t p, er = .iface t p) ∧ numU s.data.toList = 0)) ∧ Below w.heap.size w w' := by
  cases h : Lib.parseUintB 64 s.data.toList with
  | ok u =>
    refine (Tryz.strconv_ParseUint_10_at64_ok s (by omega) u h w).mono ?_
    rintro e w' ⟨rfl, hw⟩
    refine ⟨⟨u, _, rfl, .inl ⟨rfl, by unfold numU; rw [h]⟩⟩, ?_⟩
    rcases hw with rfl | rfl
    · exact Below.refl _ _
    · exact Go.Joins.below_bytesWorld _ _ _ _ (Nat.le_refl _)
  | «syntax» =>
    obtain ⟨ev, h1, h2⟩ := hE.syn
    refine (Tryz.strconv_ParseUint_10_at64_syntax s (by omega) h ev w h1 h2).mono ?_
    rintro e w' ⟨N, rfl, _, _, hb⟩
    exact ⟨⟨0, _, rfl, .inr ⟨⟨_, _, rfl⟩, by unfold numU; rw [h]⟩⟩, hb⟩
  | range =>
    obtain ⟨ev, h1, h2⟩ := hE.rng
    refine (Tryz.strconv_ParseUint_10_at64_range s (by omega) h ev w h1 h2).mono ?_
    rintro e w' ⟨N, rfl, _, _, hb⟩
    exact ⟨⟨18446744073709551615, _, rfl, .inr ⟨⟨_, _, rfl⟩, by unfold numU; rw [h]⟩⟩, hb⟩
theorem readNum_any (ws : List W8) (g B : Nat) (hg : 7 ≤ g) (w : World) (h : IsWords w g B ws) (hE : EV w) : Calls Tryz.prog 40 #[.pointer (some ⟨g, 0, none⟩)] w fun e w' => e = .returned (.int .u64 (numU (ws.headD []))) ∧ IsWords w' g B ws.tail ∧ But g w w' := by
  have HN := next_any ws g B w h
  have hs := head_small h
  obtain ⟨q, hq⟩ : ∃ q, q = bs (ws.headD []) := ⟨_, rfl⟩
  rw [← hq] at HN
  have HP := fun X hX => parseUint_any q (by rw [hq, bs_size]; exact hs) X hX
  rw [show q.data.toList = ws.headD [] by rw [hq, bs_data]] at HP
  obtain ⟨u, hu⟩ : ∃ u, u = numU (ws.headD []) := ⟨_, rfl⟩
  rw [← hu] at HP ⊢
  have HE := hide hE
  clear hq hu hs h hE
  go_enter Tryz.func40, Tryz.ntmps40
  go_wp2_with (first
    | (go_at_call 26; refine HN.mono ?_; rintro e X ⟨rfl, hX, hXb⟩; have HX := hide hX; have HXB := hide hXb; clear hX hXb)
    | (go_at_call 54; refine (HP _ (HE.out.but hg HXB.out)).mono ?_; rintro e Y ⟨⟨v, er, rfl, hv⟩, hY⟩; have HV := hide hv; clear hv; refine Hid.out ?_))
  refine hide ?_
  rcases HV.out with ⟨rfl, rfl⟩ | ⟨⟨t, p, rfl⟩, hz⟩
  · go_wp2
    go_ret
    exact ⟨rfl, HX.out.on hY, HXB.out.trans (But.of hY)⟩
  · have HZ := hide hz
    clear hz HV
    go_wp2
    go_ret
    exact ⟨by rw [HZ.out]; rfl, HX.out.on hY, HXB.out.trans (But.of hY)⟩
end Go.Proofs.YtbifjokfnahiaabGreatDoor

/- Names and signs found; a text cloned. -/
namespace Go.Proofs.YtbifjokfnahiaabGreatDoor
open Go.RowKit Go.Sort

theorem sclone_any (s : ByteArray) (hs : s.size ≤ 281474976710656) (w : World) : Calls Tryz.prog 56 #[.string s] w fun e w' => e = .returned (.string s) ∧ Below w.heap.size w w' := by
  go_enter Tryz.func56, Tryz.ntmps56
  go_wp2_with (go_at_call 69; refine (Tryz.stringslite_Clone s _ hs).mono ?_; rintro e w' ⟨rfl, hb⟩)
  go_ret
  exact ⟨rfl, hb⟩

theorem find_none {l : List W8} {x : W8} (h : ∀ i, i < l.length → l.getD i [] ≠ x) : l.findIdx? (· == x) = none := by
  rw [List.findIdx?_eq_none_iff]
  intro y hy
  obtain ⟨i, hi, rfl⟩ := List.mem_iff_getElem.1 hy
  have := h i hi
  rw [List.getD_eq_getElem?_getD, List.getElem?_eq_getElem hi, Option.getD_some] at this
  simpa using this
theorem find_at {l : List W8} {x : W8} {i : Nat} (hi : i < l.length) (h : l.getD i [] = x) (hj : ∀ j, j < i → l.getD j [] ≠ x) : l.findIdx? (· == x) = some i := by
  rw [List.findIdx?_eq_some_iff_getElem]
  rw [List.getD_eq_getElem?_getD, List.getElem?_eq_getElem hi, Option.getD_some] at h
  refine ⟨hi, by simpa using h, fun j hji => ?_⟩
  have := hj j hji
  rw [List.getD_eq_getElem?_getD, List.getElem?_eq_getElem (by omega), Option.getD_some] at this
  simpa using this
theorem bs_toList (l : W8) : (bs l).toList = l := by rw [Lib.toList_data, bs_data]

theorem findOp_any (x : W8) (w : World) (hE : EV w) : Calls Tryz.prog 55 #[.string (bs x)] w fun e w' => e = .returned (.int .i64 (findOp x : Nat)) ∧ Below w.heap.size w w' := by
  obtain ⟨q, hq⟩ : ∃ q, q = bs x := ⟨_, rfl⟩
  rw [← hq]
  have HQ := hide (show q.toList = x by rw [hq, bs_toList])
  have HS := hide hE.sign
  clear hq hE
  go_enter Tryz.func55, Tryz.ntmps55
  go_wp2
  go_loopw [4] (fun I w' => ∃ i : Nat, i ≤ 9 ∧ I = .int .i64 i ∧ Hid (∀ j, j < i → signW.getD j [] ≠ x) ∧ w' = w) (fun I _ => 9 - (intOf I).toNat)
  case atStart => exact ⟨0, by omega, rfl, hide (fun j hj => by omega), rfl⟩
  case round =>
    obtain ⟨i, hi, rfl, HJ, rfl⟩ := hrel
    by_cases hlt : i < 9
    · have c := HS.out i hlt
      obtain ⟨s, hs⟩ : ∃ s, s = bs (signW.getD i []) := ⟨_, rfl⟩
      rw [← hs] at c
      have HSS := hide (show s.toList = signW.getD i [] by rw [hs, bs_toList])
      clear hs
      have i1 : (0 : Int) ≤ i := by omega
      have i2 : (i : Int) < 9 := by omega
      by_cases he : s.toList = q.toList
      · have HF := hide (show findOp x = i + 1 by
          unfold findOp
          rw [find_at (i := i) (by simp [signW]; omega) (by rw [← HSS.out, he, HQ.out]) HJ.out])
        have hw1 : IntKind.i64.wrap (1 + (i : Int)) = 1 + (i : Int) := by rw [IntKind.wrap_i64]; omega
        go_wp2
        go_ret
        exact ⟨ret_int (by rw [HF.out]; omega), Below.refl _ _⟩
      · have HJ2 := hide (show ∀ j, j < i + 1 → signW.getD j [] ≠ x from fun j hj => by
          by_cases e : j = i
          · rw [e, ← HSS.out, ← HQ.out]; exact he
          · exact HJ.out j (by omega))
        have he2 : (s.toList == q.toList) = false := by simpa using he
        clear he
        go_wp2
        go_round
        case rel => exact ⟨i + 1, by omega, by go_num, HJ2, trivial⟩
        case measure => simp [intOf]; omega
    · obtain rfl : i = 9 := by omega
      have HF := hide (show findOp x = 0 by
        unfold findOp
        rw [find_none (fun j hj => HJ.out j (by simpa [signW] using hj))])
      go_wp2
      go_ret
      exact ⟨ret_int (by rw [HF.out]; rfl), Below.refl _ _⟩

theorem forms_name (i : Nat) (h : i ≤ 8) : formsArr[i * 5]? = some (.string (bs (nameW.getD i []))) := by
  rcases nine h with rfl | rfl | rfl | rfl | rfl | rfl | rfl | rfl | rfl <;> rfl
theorem findCall_any (x : W8) (w : World) : Calls Tryz.prog 41 #[.string (bs x)] w fun e w' => e = .returned (.int .i64 (findCall x)) ∧ Below w.heap.size w w' := by
  obtain ⟨q, hq⟩ : ∃ q, q = bs x := ⟨_, rfl⟩
  rw [← hq]
  have HQ := hide (show q.toList = x by rw [hq, bs_toList])
  clear hq
  have HFO := forms_any
  have hfn := forms_name
  obtain ⟨FA, hFA⟩ : ∃ a, a = formsArr := ⟨_, rfl⟩
  have hFs : FA.size = 45 := by rw [hFA]; rfl
  have hF1 : FA.all (·.oneCell') = true := by rw [hFA]; kernel_rfl
  rw [← hFA] at HFO hfn
  have HFN := hide hfn
  clear hFA hfn
  go_enter Tryz.func41, Tryz.ntmps41
  go_wp2_with (first
    | (go_at_call 20; refine (HFO _).mono ?_; rintro e X ⟨rfl, hX⟩)
    | (refine wpList_store_row rfl 72 _ _ rfl X.heap.size FA rfl rfl 72 _ (heap_alloc_new _ _) (by rw [hFs]; kernel_rfl) (by rw [hFs]; rfl) hF1 ?_; rw [World.setRow_alloc_new]; refine Hid.out ?_))
  refine hide ?_
  obtain ⟨V, hV, hB, hsz, hx⟩ := one_box X FA 72
  rw [← hV]
  clear hV
  have HB := hide (below_next hX hB)
  have HX := hide hx
  clear hx
  go_wp2
  go_loopw [6] (fun I w' => ∃ i : Nat, i ≤ 9 ∧ I = .int .i64 i ∧ Hid (∀ j, j < i → nameW.getD j [] ≠ x) ∧ w' = V) (fun I _ => 9 - (intOf I).toNat)
  case atStart => exact ⟨0, by omega, rfl, hide (fun j hj => by omega), rfl⟩
  case round =>
    obtain ⟨i, hi, rfl, HJ, rfl⟩ := hrel
    by_cases hlt : i < 9
    · have c := (HX.out (i * 5)).trans (HFN.out i (by omega))
      obtain ⟨s, hs⟩ : ∃ s, s = bs (nameW.getD i []) := ⟨_, rfl⟩
      rw [← hs] at c
      have HSS := hide (show s.toList = nameW.getD i [] by rw [hs, bs_toList])
      clear hs
      have i1 : (0 : Int) ≤ i := by omega
      have i2 : (i : Int) < 9 := by omega
      by_cases he : s.toList = q.toList
      · have HF := hide (show findCall x = i by
          unfold findCall
          rw [find_at (i := i) (by simp [nameW]; omega) (by rw [← HSS.out, he, HQ.out]) HJ.out])
        go_wp2
        go_ret
        exact ⟨ret_int (by rw [HF.out]), HB.out⟩
      · have HJ2 := hide (show ∀ j, j < i + 1 → nameW.getD j [] ≠ x from fun j hj => by
          by_cases e : j = i
          · rw [e, ← HSS.out, ← HQ.out]; exact he
          · exact HJ.out j (by omega))
        have he2 : (s.toList == q.toList) = false := by simpa using he
        clear he
        go_wp2
        go_round
        case rel => exact ⟨i + 1, by omega, by go_num, HJ2, trivial⟩
        case measure => simp [intOf]; omega
    · obtain rfl : i = 9 := by omega
      have HF := hide (show findCall x = -1 by
        unfold findCall
        rw [find_none (fun j hj => HJ.out j (by simpa [nameW] using hj))])
      go_wp2
      go_ret
      exact ⟨ret_int (by rw [HF.out]), HB.out⟩
end Go.Proofs.YtbifjokfnahiaabGreatDoor

/- readAction. -/
namespace Go.Proofs.YtbifjokfnahiaabGreatDoor
open Go.RowKit Go.Sort

theorem row_heap (X : World) (r k : Nat) (cs : Array Value) (h : k ≠ r) : (X.setRow r cs).heap[k]? = X.heap[k]? := setRow_other _ _ _ _ h
theorem row_size (X : World) (r : Nat) (cs : Array Value) : (X.setRow r cs).heap.size = X.heap.size := by simp [World.setRow]
/-- Another row written, one of the call's own. -/
theorem But.row {g r : Nat} {w X : World} (h : But g w X) (hr : w.heap.size ≤ r) (cs : Array Value) : But g w (X.setRow r cs) :=
  ⟨h.os, h.tape, h.output, by rw [row_size]; exact h.size, fun k hk hn => (row_heap X r k cs (by omega)).trans (h.block k hk hn)⟩
theorem IsWords.row {X : World} {g B r : Nat} {ws : List W8} (h : IsWords X g B ws) (hr : B ≤ r) (cs : Array Value) : IsWords (X.setRow r cs) g B ws :=
  h.heap (by rw [row_size]; exact h.le) fun k hk => row_heap X r k cs (by omega)
theorem size_action : (Tryz.prog.info? 24).map (·.size) = some 2 := by kernel_rfl

theorem one2 (a b : Int) : (#[.int .i64 a, .int .i64 b] : Array Value).all (·.oneCell') = true := by simp [Value.oneCell']
theorem beq_no {q x : W8} (h : q ≠ x) : (q == x) = false := by simpa using h

set_option maxHeartbeats 1000000 in
theorem readAct_any (ws : List W8) (g B : Nat) (hg : 7 ≤ g) (w : World) (h : IsWords w g B ws) (hE : EV w) : Calls Tryz.prog 27 #[.pointer (some ⟨g, 0, none⟩)] w fun e w' => e = .returned (actV (readAct ws).1) ∧ IsWords w' g B (readAct ws).2 ∧ But g w w' := by
  obtain ⟨V, hV, hVh, hVb, hVs⟩ : ∃ V, V = w.alloc (.cells #[.int .i64 0, .int .i64 0] 24) ∧ V.heap[w.heap.size]? = some (.cells #[.int .i64 0, .int .i64 0] 24 (0, 0)) ∧ Below w.heap.size w V ∧ w.heap.size < V.heap.size := ⟨_, rfl, heap_alloc_new _ _, box_below _ _, by rw [World.size_alloc]; omega⟩
  have hgw : g < w.heap.size := Nat.lt_of_lt_of_le h.lt h.le
  have HN := next_any ws g B V (h.on hVb)
  have HR := fun X hX hE => readNum_any ws.tail g B hg X hX hE
  have HE := hide (hE.on hVb)
  have HB := hide h.le
  obtain ⟨q, hq⟩ : ∃ q, q = bs (ws.headD []) := ⟨_, rfl⟩
  rw [← hq] at HN
  have HQ := hide (show q.toList = ws.headD [] by rw [hq, bs_toList])
  clear hE h
  have HRR := hide (show w.heap.size ≠ g ∧ w.heap.size < V.heap.size by omega)
  by_cases h1 : ws.headD [] = wAllow
  · have HV := hide (show readAct ws = (⟨1, 0⟩, ws.tail) by unfold readAct; rw [if_pos h1])
    rw [h1] at hq
    subst hq
    unfold bs wAllow at HN
    clear HQ HR
    go_enter Tryz.func27, Tryz.ntmps27
    go_wp2_with (first
      | (go_at_call 26; rw [← hV]; refine HN.mono ?_; rintro e X ⟨rfl, hX, hXb⟩; have hXr := (hXb.block w.heap.size HRR.out.2 HRR.out.1).trans hVh)
      | (refine wpList_store_row rfl 24 _ _ rfl w.heap.size #[.int .i64 1, .int .i64 0] rfl rfl 24 _ hXr size_action rfl (one2 _ _) ?_))
    refine bodyPost_ret (v := .agg #[.int .i64 1, .int .i64 0]) (results_cell_row rfl _ _ w.heap.size 24 #[.int .i64 1, .int .i64 0] (0, 0) _ rfl (setRow_heap _ _ _ _ _ _ hXr) Tryz.underlying24 rfl size_action) rfl ⟨?_, ?_, ?_⟩
    · rw [HV.out]; rfl
    · rw [HV.out]; exact hX.row HB.out _
    · exact ((But.of hVb).trans hXb).row (Nat.le_refl _) _
  have n1 := h1
  clear h1
  by_cases h1 : ws.headD [] = wKill
  · have HV := hide (show readAct ws = (⟨3, 0⟩, ws.tail) by unfold readAct; rw [if_neg n1, if_pos h1])
    rw [h1] at hq
    subst hq
    unfold bs wKill at HN
    clear HQ HR
    go_enter Tryz.func27, Tryz.ntmps27
    go_wp2_with (first
      | (go_at_call 26; rw [← hV]; refine HN.mono ?_; rintro e X ⟨rfl, hX, hXb⟩; have hXr := (hXb.block w.heap.size HRR.out.2 HRR.out.1).trans hVh)
      | (refine wpList_store_row rfl 24 _ _ rfl w.heap.size #[.int .i64 3, .int .i64 0] rfl rfl 24 _ hXr size_action rfl (one2 _ _) ?_))
    refine bodyPost_ret (v := .agg #[.int .i64 3, .int .i64 0]) (results_cell_row rfl _ _ w.heap.size 24 #[.int .i64 3, .int .i64 0] (0, 0) _ rfl (setRow_heap _ _ _ _ _ _ hXr) Tryz.underlying24 rfl size_action) rfl ⟨?_, ?_, ?_⟩
    · rw [HV.out]; rfl
    · rw [HV.out]; exact hX.row HB.out _
    · exact ((But.of hVb).trans hXb).row (Nat.le_refl _) _
  have n2 := h1
  clear h1
  by_cases h1 : ws.headD [] = wDeny
  · have HV := hide (show readAct ws = (⟨2, toI (numU (ws.tail.headD []))⟩, ws.tail.tail) by unfold readAct; rw [if_neg n1, if_neg n2, if_pos h1])
    rw [h1] at hq
    subst hq
    unfold bs wDeny at HN
    obtain ⟨u, hu⟩ : ∃ u, u = numU (ws.tail.headD []) := ⟨_, rfl⟩
    rw [← hu] at HR HV
    have hti : IntKind.i64.wrap (u : Int) = toI u := rfl
    obtain ⟨ti, ht⟩ : ∃ t, t = toI u := ⟨_, rfl⟩
    rw [← ht] at hti HV
    clear HQ hu ht
    go_enter Tryz.func27, Tryz.ntmps27
    go_wp2_with (first
      | (go_at_call 26; rw [← hV]; refine HN.mono ?_; rintro e X ⟨rfl, hX, hXb⟩; have HX := hide hX; have HXB := hide hXb; clear hX hXb)
      | (go_at_call 40; refine (HR _ HX.out (HE.out.but hg HXB.out)).mono ?_; rintro e Y ⟨rfl, hY, hYb⟩; have hYr := (hYb.block w.heap.size (Nat.lt_of_lt_of_le HRR.out.2 HXB.out.size) HRR.out.1).trans ((HXB.out.block w.heap.size HRR.out.2 HRR.out.1).trans hVh))
      | (refine wpList_store_row rfl 24 _ _ rfl w.heap.size #[.int .i64 2, .int .i64 ti] rfl rfl 24 _ hYr size_action rfl (one2 _ _) ?_))
    refine bodyPost_ret (v := .agg #[.int .i64 2, .int .i64 ti]) (results_cell_row rfl _ _ w.heap.size 24 #[.int .i64 2, .int .i64 ti] (0, 0) _ rfl (setRow_heap _ _ _ _ _ _ hYr) Tryz.underlying24 rfl size_action) rfl ⟨?_, ?_, ?_⟩
    · rw [HV.out]; rfl
    · rw [HV.out]; exact hY.row HB.out _
    · exact (((But.of hVb).trans HXB.out).trans hYb).row (Nat.le_refl _) _
  · have HV := hide (show readAct ws = (⟨0, 0⟩, ws.tail) by unfold readAct; rw [if_neg n1, if_neg n2, if_neg h1])
    have b1 := beq_no n1
    have b2 := beq_no n2
    have b3 := beq_no h1
    rw [← HQ.out] at b1 b2 b3
    unfold wAllow at b1
    unfold wKill at b2
    unfold wDeny at b3
    clear HQ hq n1 n2 h1 HR
    go_enter Tryz.func27, Tryz.ntmps27
    go_wp2_with (first
      | (go_at_call 26; rw [← hV]; refine HN.mono ?_; rintro e X ⟨rfl, hX, hXb⟩; have hXr := (hXb.block w.heap.size HRR.out.2 HRR.out.1).trans hVh)
      | (refine wpList_store_row rfl 24 _ _ rfl w.heap.size #[.int .i64 0, .int .i64 0] rfl rfl 24 _ hXr size_action rfl (one2 _ _) ?_))
    refine bodyPost_ret (v := .agg #[.int .i64 0, .int .i64 0]) (results_cell_row rfl _ _ w.heap.size 24 #[.int .i64 0, .int .i64 0] (0, 0) _ rfl (setRow_heap _ _ _ _ _ _ hXr) Tryz.underlying24 rfl size_action) rfl ⟨?_, ?_, ?_⟩
    · rw [HV.out]; rfl
    · rw [HV.out]; exact hX.row HB.out _
    · exact ((But.of hVb).trans hXb).row (Nat.le_refl _) _
end Go.Proofs.YtbifjokfnahiaabGreatDoor
