/- The document's reading of a net. -/
import Derived.Test.YtkeljbekbgabpaaDoorANetText
import Derived.Test.YtkeljbekbgabpaaDoorAFig
import Derived.Test.YtkeljbekbgabpaaDoorAHas
namespace Go.Proofs.YtkeljbekbgabpaaDoor
open Go.RowKit Go.Sort

def netOfV : Option (Nat × Nat × Nat × Nat) → Value
  | none => .tuple #[netV 0 0 0 0, .bool false]
  | some (ip, b, lo, hi) => .tuple #[netV ip b lo hi, .bool true]

/-- What is kept of the world: the result's block, the numbers' block. -/
def FX (w : World) (ns : List Nat) (V : World) : Prop := Below w.heap.size w V ∧ V.heap[w.heap.size]? = some (.cells (netC 0 0 0 0) 39 (0, 0)) ∧ V.heap[w.heap.size + 1]? = some (.cells (padN ns) 61 (0, 0))
theorem FX.start (w : World) : FX w [] ((w.alloc (.cells (netC 0 0 0 0) 39)).alloc (.cells (padN []) 61)) :=
  ⟨((Below.refl _ _).alloc (Nat.le_refl _) _).alloc (by simp) _, heap_alloc2_old _ _ _, heap_alloc2_new _ _ _⟩
theorem FX.on {w V Y : World} {ns : List Nat} (h : FX w ns V) (hb : Below V.heap.size V Y) : FX w ns Y :=
  ⟨h.1.trans (hb.mono h.1.size), (hb.block _ (Array.getElem?_eq_some_iff.1 h.2.1).1).trans h.2.1, (hb.block _ (Array.getElem?_eq_some_iff.1 h.2.2).1).trans h.2.2⟩
theorem FX.set {w V : World} {ns : List Nat} (h : FX w ns V) (k x : Nat) (hk : ns.length = k) (h7 : k < 7) : FX w (ns ++ [x]) (V.setCell ⟨w.heap.size + 1, k, none⟩ (.int .i64 x)) := by
  rw [setCell_eq_setRow _ _ k _ _ _ _ h.2.2, padN_set ns x k hk h7]
  exact ⟨below_setRow h.1 (by omega) _, (setRow_other _ _ _ _ (by omega)).trans h.2.1, setRow_heap _ _ _ _ _ _ h.2.2⟩
theorem FX.cell {w V : World} {ns : List Nat} (h : FX w ns V) (k : Nat) (h7 : k < 7) : V.cell? ⟨w.heap.size + 1, k, none⟩ = some (.int .i64 (ns.getD k 0)) := by
  rw [cell_of_row _ _ k _ _ _ h.2.2, padN_get ns k h7]
theorem FX.fro {w V : World} {ns : List Nat} (h : FX w ns V) (k : Nat) : V.frozen? ⟨w.heap.size + 1, k, none⟩ = false := frozen_of_row _ _ k _ _ h.2.2

def seg (l : List UInt8) (f i : Nat) : List UInt8 := (l.drop f).take (i - f)
theorem seg_nil (l : List UInt8) (i : Nat) : seg l i i = [] := by unfold seg; simp
theorem seg_snoc (s : ByteArray) (f i : Nat) (hf : f ≤ i) (hi : i < s.size) : seg s.data.toList f (i + 1) = seg s.data.toList f i ++ [UInt8.ofNat (byteAt s i)] := by
  unfold seg
  have hil : i < s.data.toList.length := by rw [← Lib.size_eq]; exact hi
  rw [show i + 1 - f = (i - f) + 1 by omega, List.take_add_one, List.getElem?_drop, show f + (i - f) = i by omega, List.getElem?_eq_getElem hil]
  unfold byteAt
  rw [List.getD_eq_getElem?_getD, List.getElem?_eq_getElem hil]
  simp
theorem drop_cons (s : ByteArray) (i : Nat) (hi : i < s.size) : s.data.toList.drop i = UInt8.ofNat (byteAt s i) :: s.data.toList.drop (i + 1) := by
  have hil : i < s.data.toList.length := by rw [← Lib.size_eq]; exact hi
  rw [List.drop_eq_getElem_cons hil]
  unfold byteAt
  rw [List.getD_eq_getElem?_getD, List.getElem?_eq_getElem hil]
  simp
theorem drop_end (s : ByteArray) : s.data.toList.drop s.size = [] := List.drop_eq_nil_of_le (by rw [← Lib.size_eq]; exact Nat.le_refl _)
theorem extract_seg (s : ByteArray) (f i : Nat) : (s.extract f i).data.toList = seg s.data.toList f i := Lib.extract_data s f i

/-- The numbers that stand so far, and what is still to be scanned. -/
def Scan (s : ByteArray) (k f i : Nat) (ns : List Nat) : Prop :=
  (i ≤ s.size ∧ f ≤ i ∧ scanN [] s.data.toList 0 = (scanN (seg s.data.toList f i) (s.data.toList.drop i) k).map fun r => ns ++ r) ∨ (i = s.size + 1 ∧ scanN [] s.data.toList 0 = some ns)
theorem Scan.start (s : ByteArray) : Scan s 0 0 0 [] := Or.inl ⟨Nat.zero_le _, Nat.le_refl _, by rw [seg_nil, List.drop_zero]; simp⟩
theorem Scan.digit {s : ByteArray} {k f i : Nat} {ns : List Nat} (h : Scan s k f i ns) (hi : i < s.size) (hd : 48 ≤ byteAt s i ∧ byteAt s i ≤ 57) : Scan s k f (i + 1) ns := by
  rcases h with ⟨_, h2, h3⟩ | ⟨h1, _⟩
  · refine Or.inl ⟨by omega, by omega, ?_⟩
    rw [h3, drop_cons s i hi, scanN, if_pos, seg_snoc s f i h2 hi]
    rw [isDig_byte _ (byteAt_lt s i)]
    simp [hd.1, hd.2]
  · omega
theorem Scan.bad {s : ByteArray} {k f i : Nat} {ns : List Nat} (h : Scan s k f i ns) (hi : i ≤ s.size) (hd : i < s.size → ¬ (48 ≤ byteAt s i ∧ byteAt s i ≤ 57)) (hb : fig70 (seg s.data.toList f i) = none ∨ 6 < k) : scanN [] s.data.toList 0 = none := by
  rcases h with ⟨_, h2, h3⟩ | ⟨h1, _⟩
  · rw [h3]
    by_cases hlt : i < s.size
    · rw [drop_cons s i hlt, scanN, if_neg (by
        rw [isDig_byte _ (byteAt_lt s i)]
        intro h
        simp at h
        exact hd hlt h)]
      rcases hb with hb | hb
      · rw [hb]; rfl
      · cases hq : fig70 (seg s.data.toList f i) with
        | none => rfl
        | some x => rw [Option.bind_some, if_neg (by omega)]; rfl
    · rw [show i = s.size by omega, drop_end, scanN, ← show i = s.size by omega]
      rcases hb with hb | hb
      · rw [hb]; rfl
      · cases hq : fig70 (seg s.data.toList f i) with
        | none => rfl
        | some x => rw [Option.bind_some, if_neg (by omega)]; rfl
  · omega
theorem Scan.good {s : ByteArray} {k f i x : Nat} {ns : List Nat} (h : Scan s k f i ns) (hi : i ≤ s.size) (hd : i < s.size → ¬ (48 ≤ byteAt s i ∧ byteAt s i ≤ 57)) (hx : fig70 (seg s.data.toList f i) = some x) (hk : k ≤ 6) : Scan s (k + 1) (i + 1) (i + 1) (ns ++ [x]) := by
  rcases h with ⟨_, h2, h3⟩ | ⟨h1, _⟩
  · by_cases hlt : i < s.size
    · refine Or.inl ⟨by omega, Nat.le_refl _, ?_⟩
      rw [h3, drop_cons s i hlt, scanN, if_neg (by
        rw [isDig_byte _ (byteAt_lt s i)]
        intro h
        simp at h
        exact hd hlt h), hx, Option.bind_some, if_pos hk, Option.map_map, seg_nil]
      congr 1
      funext r
      simp
    · refine Or.inr ⟨by omega, ?_⟩
      rw [h3, show s.data.toList.drop i = [] by rw [show i = s.size by omega]; exact drop_end s, scanN, hx, Option.bind_some, if_pos hk]
      rfl
  · omega

theorem fx_on {w wr V : World} {ns : List Nat} {ip e f g : Nat} (h : Hid (FX w ns wr)) (hb : Below (wr.alloc (.cells (netC ip e f g) 39)).heap.size (wr.alloc (.cells (netC ip e f g) 39)) V) :
    Hid (FX w ns V) ∧ V.heap[wr.heap.size]? = some (.cells (netC ip e f g) 39 (0, 0)) :=
  ⟨hide ((h.out.on ((Below.refl _ _).alloc (Nat.le_refl _) _)).on hb), (hb.block _ (by simp)).trans (heap_alloc_new _ _)⟩

set_option maxHeartbeats 2000000 in
theorem netOf_any (s : ByteArray) (hs : s.size ≤ 1000) (w : World) : Calls Tryd.prog 19 #[.string s] w fun e w' => e = .returned (netOfV (parseR s.data.toList)) ∧ Below w.heap.size w w' := by
  go_enter Tryd.func19, Tryd.ntmps19
  go_wp2
  go_loopw [5, 6, 7] (fun K F I w' => ∃ (k f i : Nat) (ns : List Nat), k ≤ 7 ∧ f ≤ i ∧ i ≤ s.size + 1 ∧ K = .int .i64 k ∧ F = .int .i64 f ∧ I = .int .i64 i ∧ ns.length = k ∧ Hid (∀ n ∈ ns, n ≤ 70000) ∧ Hid (Scan s k f i ns) ∧ Hid (FX w ns w')) (fun _ _ I _ => s.size + 1 - (intOf I).toNat)
  case atStart => exact ⟨0, 0, 0, [], by omega, by omega, by omega, rfl, rfl, rfl, rfl, hide (fun _ h => by cases h), hide (Scan.start s), hide (FX.start w)⟩
  case round =>
    obtain ⟨k, f, i, ns, hk, hfi, hi, rfl, rfl, rfl, hlen, HM, HS, HF⟩ := hrel
    by_cases hend : i ≤ s.size
    · by_cases hdg : i < s.size ∧ 48 ≤ byteAt s i ∧ byteAt s i ≤ 57
      · obtain ⟨hlt, hdg⟩ := hdg
        have HS2 := hide (HS.out.digit hlt hdg)
        have ei := byteAt_eq s i hlt
        go_wp2
        go_round
        case rel => exact ⟨k, f, i + 1, ns, hk, by omega, by omega, rfl, rfl, by go_num, hlen, HM, HS2, HF⟩
        case measure => simp [intOf]; omega
      · -- SECOND
        have HND := hide (show i < s.size → ¬ (48 ≤ byteAt s i ∧ byteAt s i ≤ 57) from fun h h2 => hdg ⟨h, h2.1, h2.2⟩)
        by_cases hlt : i < s.size
        · have ei := byteAt_eq s i hlt
          have hnd := HND.out hlt
          clear hdg
          have HC : ∀ V, Calls Tryd.prog 30 #[.string (s.extract f i)] V fun e w' => e = .returned (figV (seg s.data.toList f i)) ∧ Below V.heap.size V w' := fun V => (figures_any (s.extract f i) (by simp; omega) V).mono fun e w' h => by rw [extract_seg] at h; exact h
          have HFV := hide (show figV (seg s.data.toList f i) = .tuple #[.int .u64 (figN (seg s.data.toList f i)), .bool (figOk (seg s.data.toList f i))] from rfl)
          have H70 := hide (show fig70 (seg s.data.toList f i) = if figOk (seg s.data.toList f i) = true ∧ figN (seg s.data.toList f i) ≤ 70000 then some (figN (seg s.data.toList f i)) else none from rfl)
          obtain ⟨N, hN⟩ : ∃ N, N = figN (seg s.data.toList f i) := ⟨_, rfl⟩
          obtain ⟨ok, hok⟩ : ∃ o, o = figOk (seg s.data.toList f i) := ⟨_, rfl⟩
          rw [← hN, ← hok] at HFV H70
          rw [HFV.out] at HC
          clear hN hok HFV
          by_cases hgood : ok = true ∧ N ≤ 70000 ∧ k ≤ 6
          · obtain ⟨rfl, hN7, hk6⟩ := hgood
            have HS2 := hide (HS.out.good hend HND.out (by rw [H70.out, if_pos ⟨rfl, hN7⟩]) hk6)
            have HM2 := hide (show ∀ n ∈ ns ++ [N], n ≤ 70000 from fun n hn => by
              rcases List.mem_append.1 hn with h | h
              · exact HM.out n h
              · rw [List.mem_singleton.1 h]; exact hN7)
            go_wp2_with (go_at_call 30; refine (HC _).mono ?_; rintro e V ⟨rfl, hV⟩; have HV := hide (HF.out.on hV); clear hV; have fc := HV.out.cell k (by omega); have ff := HV.out.fro k)
            all_goals
              go_round
              case rel => exact ⟨k + 1, i + 1, i + 1, ns ++ [N], by omega, by omega, by omega, by go_num, by go_num, by go_num, by rw [List.length_append, hlen]; rfl, HM2, HS2, hide (HV.out.set k N hlen (by omega))⟩
              case measure => simp [intOf] <;> omega
          · have HP := hide (show parseR s.data.toList = none from parse_none_of fun ip b lo hi h => by
              have h1 := scan_parse h
              rw [HS.out.bad hend HND.out (by
                rw [H70.out]
                by_cases h6 : 6 < k
                · exact Or.inr h6
                · refine Or.inl (if_neg fun h => hgood ⟨h.1, h.2, by omega⟩))] at h1
              cases h1)
            cases ok with
            | false =>
              clear hgood
              go_wp2_with (first
                | (go_at_call 30; refine (HC _).mono ?_; rintro e V ⟨rfl, hV⟩; have HV := hide (HF.out.on hV); clear hV; obtain ⟨r1, r2, r3⟩ := res_start HV.out.2.1; obtain ⟨r4, r5, r6⟩ := res_row HV.out.2.1)
                | (refine bodyPost_ret (results_net rfl _ _ w.heap.size 0 0 0 0 (.bool false) rfl rfl (setRow_heap _ _ _ _ _ _ HV.out.2.1)) rfl ⟨?_, ?_⟩; (· rw [HP.out]; rfl); (· exact below_setRow HV.out.1 (Nat.le_refl _) _)))
            | true =>
              by_cases hN7 : N ≤ 70000
              · have h6 : 6 < k := by
                  rcases Nat.lt_or_ge 6 k with h | h
                  · exact h
                  · exact absurd ⟨rfl, hN7, h⟩ hgood
                clear hgood
                go_wp2_with (first
                  | (go_at_call 30; refine (HC _).mono ?_; rintro e V ⟨rfl, hV⟩; have HV := hide (HF.out.on hV); clear hV; obtain ⟨r1, r2, r3⟩ := res_start HV.out.2.1; obtain ⟨r4, r5, r6⟩ := res_row HV.out.2.1)
                  | (refine bodyPost_ret (results_net rfl _ _ w.heap.size 0 0 0 0 (.bool false) rfl rfl (setRow_heap _ _ _ _ _ _ HV.out.2.1)) rfl ⟨?_, ?_⟩; (· rw [HP.out]; rfl); (· exact below_setRow HV.out.1 (Nat.le_refl _) _)))
              · clear hgood
                go_wp2_with (first
                  | (go_at_call 30; refine (HC _).mono ?_; rintro e V ⟨rfl, hV⟩; have HV := hide (HF.out.on hV); clear hV; obtain ⟨r1, r2, r3⟩ := res_start HV.out.2.1; obtain ⟨r4, r5, r6⟩ := res_row HV.out.2.1)
                  | (refine bodyPost_ret (results_net rfl _ _ w.heap.size 0 0 0 0 (.bool false) rfl rfl (setRow_heap _ _ _ _ _ _ HV.out.2.1)) rfl ⟨?_, ?_⟩; (· rw [HP.out]; rfl); (· exact below_setRow HV.out.1 (Nat.le_refl _) _)))
        · obtain rfl : i = s.size := by omega
          clear hdg
          have HC : ∀ V, Calls Tryd.prog 30 #[.string (s.extract f s.size)] V fun e w' => e = .returned (figV (seg s.data.toList f s.size)) ∧ Below V.heap.size V w' := fun V => (figures_any (s.extract f s.size) (by simp; omega) V).mono fun e w' h => by rw [extract_seg] at h; exact h
          have HFV := hide (show figV (seg s.data.toList f s.size) = .tuple #[.int .u64 (figN (seg s.data.toList f s.size)), .bool (figOk (seg s.data.toList f s.size))] from rfl)
          have H70 := hide (show fig70 (seg s.data.toList f s.size) = if figOk (seg s.data.toList f s.size) = true ∧ figN (seg s.data.toList f s.size) ≤ 70000 then some (figN (seg s.data.toList f s.size)) else none from rfl)
          obtain ⟨N, hN⟩ : ∃ N, N = figN (seg s.data.toList f s.size) := ⟨_, rfl⟩
          obtain ⟨ok, hok⟩ : ∃ o, o = figOk (seg s.data.toList f s.size) := ⟨_, rfl⟩
          rw [← hN, ← hok] at HFV H70
          rw [HFV.out] at HC
          clear hN hok HFV
          by_cases hgood : ok = true ∧ N ≤ 70000 ∧ k ≤ 6
          · obtain ⟨rfl, hN7, hk6⟩ := hgood
            have HS2 := hide (HS.out.good hend HND.out (by rw [H70.out, if_pos ⟨rfl, hN7⟩]) hk6)
            have HM2 := hide (show ∀ n ∈ ns ++ [N], n ≤ 70000 from fun n hn => by
              rcases List.mem_append.1 hn with h | h
              · exact HM.out n h
              · rw [List.mem_singleton.1 h]; exact hN7)
            go_wp2_with (go_at_call 30; refine (HC _).mono ?_; rintro e V ⟨rfl, hV⟩; have HV := hide (HF.out.on hV); clear hV; have fc := HV.out.cell k (by omega); have ff := HV.out.fro k)
            all_goals
              go_round
              case rel => exact ⟨k + 1, s.size + 1, s.size + 1, ns ++ [N], by omega, by omega, by omega, by go_num, by go_num, by go_num, by rw [List.length_append, hlen]; rfl, HM2, HS2, hide (HV.out.set k N hlen (by omega))⟩
              case measure => simp [intOf] <;> omega
          · have HP := hide (show parseR s.data.toList = none from parse_none_of fun ip b lo hi h => by
              have h1 := scan_parse h
              rw [HS.out.bad hend HND.out (by
                rw [H70.out]
                by_cases h6 : 6 < k
                · exact Or.inr h6
                · refine Or.inl (if_neg fun h => hgood ⟨h.1, h.2, by omega⟩))] at h1
              cases h1)
            cases ok with
            | false =>
              clear hgood
              go_wp2_with (first
                | (go_at_call 30; refine (HC _).mono ?_; rintro e V ⟨rfl, hV⟩; have HV := hide (HF.out.on hV); clear hV; obtain ⟨r1, r2, r3⟩ := res_start HV.out.2.1; obtain ⟨r4, r5, r6⟩ := res_row HV.out.2.1)
                | (refine bodyPost_ret (results_net rfl _ _ w.heap.size 0 0 0 0 (.bool false) rfl rfl (setRow_heap _ _ _ _ _ _ HV.out.2.1)) rfl ⟨?_, ?_⟩; (· rw [HP.out]; rfl); (· exact below_setRow HV.out.1 (Nat.le_refl _) _)))
            | true =>
              by_cases hN7 : N ≤ 70000
              · have h6 : 6 < k := by
                  rcases Nat.lt_or_ge 6 k with h | h
                  · exact h
                  · exact absurd ⟨rfl, hN7, h⟩ hgood
                clear hgood
                go_wp2_with (first
                  | (go_at_call 30; refine (HC _).mono ?_; rintro e V ⟨rfl, hV⟩; have HV := hide (HF.out.on hV); clear hV; obtain ⟨r1, r2, r3⟩ := res_start HV.out.2.1; obtain ⟨r4, r5, r6⟩ := res_row HV.out.2.1)
                  | (refine bodyPost_ret (results_net rfl _ _ w.heap.size 0 0 0 0 (.bool false) rfl rfl (setRow_heap _ _ _ _ _ _ HV.out.2.1)) rfl ⟨?_, ?_⟩; (· rw [HP.out]; rfl); (· exact below_setRow HV.out.1 (Nat.le_refl _) _)))
              · clear hgood
                go_wp2_with (first
                  | (go_at_call 30; refine (HC _).mono ?_; rintro e V ⟨rfl, hV⟩; have HV := hide (HF.out.on hV); clear hV; obtain ⟨r1, r2, r3⟩ := res_start HV.out.2.1; obtain ⟨r4, r5, r6⟩ := res_row HV.out.2.1)
                  | (refine bodyPost_ret (results_net rfl _ _ w.heap.size 0 0 0 0 (.bool false) rfl rfl (setRow_heap _ _ _ _ _ _ HV.out.2.1)) rfl ⟨?_, ?_⟩; (· rw [HP.out]; rfl); (· exact below_setRow HV.out.1 (Nat.le_refl _) _)))
    · -- END
      obtain rfl : i = s.size + 1 := by omega
      have hsc : scanN [] s.data.toList 0 = some ns := by
        rcases HS.out with ⟨h, _, _⟩ | ⟨_, h⟩
        · omega
        · exact h
      have HSC := hide hsc
      clear hsc HS
      obtain ⟨r1, r2, r3⟩ := res_start HF.out.2.1
      obtain ⟨r4, r5, r6⟩ := res_row HF.out.2.1
      by_cases h7 : k < 7
      · have HP := hide (show parseR s.data.toList = none from parse_none_of fun ip b lo hi h => by
          have h1 := scan_parse h
          rw [HSC.out] at h1
          rw [Option.some.inj h1] at hlen
          exact absurd hlen (by show 7 ≠ k; omega))
        go_wp2_with (refine bodyPost_ret (results_net rfl _ _ w.heap.size 0 0 0 0 (.bool false) rfl rfl (setRow_heap _ _ _ _ _ _ HF.out.2.1)) rfl ⟨?_, ?_⟩; (· rw [HP.out]; rfl); (· exact below_setRow HF.out.1 (Nat.le_refl _) _))
      · obtain rfl : k = 7 := by omega
        obtain ⟨a, b, c, d, e, f', g, rfl⟩ := len7 hlen
        have n0 : wr.cell? ⟨w.heap.size + 1, 0, none⟩ = some (.int .i64 a) := HF.out.cell 0 (by omega)
        have n1 : wr.cell? ⟨w.heap.size + 1, 1, none⟩ = some (.int .i64 b) := HF.out.cell 1 (by omega)
        have n2 : wr.cell? ⟨w.heap.size + 1, 2, none⟩ = some (.int .i64 c) := HF.out.cell 2 (by omega)
        have n3 : wr.cell? ⟨w.heap.size + 1, 3, none⟩ = some (.int .i64 d) := HF.out.cell 3 (by omega)
        have n4 : wr.cell? ⟨w.heap.size + 1, 4, none⟩ = some (.int .i64 e) := HF.out.cell 4 (by omega)
        have n5 : wr.cell? ⟨w.heap.size + 1, 5, none⟩ = some (.int .i64 f') := HF.out.cell 5 (by omega)
        have n6 : wr.cell? ⟨w.heap.size + 1, 6, none⟩ = some (.int .i64 g) := HF.out.cell 6 (by omega)
        have me : e ≤ 70000 := HM.out e (by simp)
        have mf : f' ≤ 70000 := HM.out f' (by simp)
        have mg : g ≤ 70000 := HM.out g (by simp)
        have HQ := hide (show ∀ ip' b' lo' hi', parseR s.data.toList = some (ip', b', lo', hi') → [a, b, c, d, e, f', g] = netNums ip' b' lo' hi' from fun ip' b' lo' hi' h => by
          have h1 := scan_parse h
          rw [HSC.out] at h1
          exact Option.some.inj h1)
        clear r1 r2 r3 r4 r5 r6
        by_cases h255 : a ≤ 255 ∧ b ≤ 255 ∧ c ≤ 255 ∧ d ≤ 255
        · obtain ⟨ha, hb, hc, hd⟩ := h255
          have hip := ipOf_lt ha hb hc hd
          have hipe : (a : Int) * 16777216 + (b : Int) * 65536 + (c : Int) * 256 + (d : Int) = (ipOf a b c d : Nat) := by unfold ipOf; omega
          have HPS := hide (show ∀ ip' b' lo' hi', parseR s.data.toList = some (ip', b', lo', hi') → faultOf (ipOf a b c d) e f' g = 0 ∧ netText (ipOf a b c d) e f' g = s.data.toList from fun ip' b' lo' hi' h => by
            obtain ⟨q1, q2, q3⟩ := parse_some h
            have q4 := HQ.out _ _ _ _ h
            simp only [netNums, List.cons.injEq, and_true] at q4
            obtain ⟨w0, w1, w2, w3, rfl, rfl, rfl⟩ := q4
            have q5 : ipOf a b c d = ip' := by rw [w0, w1, w2, w3]; exact ipOf_parts ip' q1
            rw [q5]
            exact ⟨q2, q3.symm⟩)
          obtain ⟨ip, hip0⟩ : ∃ n, n = ipOf a b c d := ⟨_, rfl⟩
          rw [← hip0] at hip hipe HPS
          clear hip0
          by_cases hf : faultOf ip e f' g = 0
          · have HE := hide hf
            obtain ⟨tx, htx⟩ : ∃ t : ByteArray, t = ⟨(netText ip e f' g).toArray⟩ := ⟨_, rfl⟩
            have HT := fun V => netText_any ip hip e f' g hf V
            rw [← htx] at HT
            by_cases ht : netText ip e f' g = s.data.toList
            · have HP := hide (show parseR s.data.toList = some (ip, e, f', g) by rw [← ht]; exact parse_text hip hf)
              have hcmp : (tx.toList == s.toList) = true := by rw [Lib.toList_data, Lib.toList_data, htx, beq_iff_eq]; exact ht
              clear htx ht hf
              go_wp2_with (first
                | (go_at_call 12; refine (netFault_any ip hip e f' g ⟨by omega, by omega⟩ ⟨by omega, by omega⟩ ⟨by omega, by omega⟩ _).mono ?_; rw [HE.out]; rintro e V ⟨rfl, hV⟩; obtain ⟨HV, hx⟩ := fx_on HF hV; clear hV; obtain ⟨r1, r2, r3⟩ := res_start HV.out.2.1; obtain ⟨r4, r5, r6⟩ := res_row HV.out.2.1; have x0 := cell_of_row _ _ 0 _ _ _ hx; have x1 := cell_of_row _ _ 1 _ _ _ hx; have x2 := cell_of_row _ _ 2 _ _ _ hx; have x3 := cell_of_row _ _ 3 _ _ _ hx)
                | (go_at_call 15; refine (HT _).mono ?_; rintro e V2 ⟨rfl, hV2⟩; have HV2 := hide (HV.out.on hV2); have hx2 := (hV2.block _ (Array.getElem?_eq_some_iff.1 hx).1).trans hx; clear hV2; obtain ⟨r1, r2, r3⟩ := res_start HV2.out.2.1; obtain ⟨r4, r5, r6⟩ := res_row HV2.out.2.1; have x0 := cell_of_row _ _ 0 _ _ _ hx2; have x1 := cell_of_row _ _ 1 _ _ _ hx2; have x2 := cell_of_row _ _ 2 _ _ _ hx2; have x3 := cell_of_row _ _ 3 _ _ _ hx2)
                | (refine bodyPost_ret (results_net rfl _ _ w.heap.size ip e f' g (.bool true) rfl rfl (setRow_heap _ _ _ _ _ _ HV2.out.2.1)) rfl ⟨?_, ?_⟩; (· rw [HP.out]; rfl); (· exact below_setRow HV2.out.1 (Nat.le_refl _) _)))
            · have HP := hide (show parseR s.data.toList = none from parse_none_of fun _ _ _ _ h => ht (HPS.out _ _ _ _ h).2)
              have hcmp : (tx.toList == s.toList) = false := by rw [Lib.toList_data, Lib.toList_data, htx, beq_eq_false_iff_ne]; exact ht
              clear htx ht hf
              go_wp2_with (first
                | (go_at_call 12; refine (netFault_any ip hip e f' g ⟨by omega, by omega⟩ ⟨by omega, by omega⟩ ⟨by omega, by omega⟩ _).mono ?_; rw [HE.out]; rintro e V ⟨rfl, hV⟩; obtain ⟨HV, hx⟩ := fx_on HF hV; clear hV; obtain ⟨r1, r2, r3⟩ := res_start HV.out.2.1; obtain ⟨r4, r5, r6⟩ := res_row HV.out.2.1; have x0 := cell_of_row _ _ 0 _ _ _ hx; have x1 := cell_of_row _ _ 1 _ _ _ hx; have x2 := cell_of_row _ _ 2 _ _ _ hx; have x3 := cell_of_row _ _ 3 _ _ _ hx)
                | (go_at_call 15; refine (HT _).mono ?_; rintro e V2 ⟨rfl, hV2⟩; have HV2 := hide (HV.out.on hV2); have hx2 := (hV2.block _ (Array.getElem?_eq_some_iff.1 hx).1).trans hx; clear hV2; obtain ⟨r1, r2, r3⟩ := res_start HV2.out.2.1; obtain ⟨r4, r5, r6⟩ := res_row HV2.out.2.1; have x0 := cell_of_row _ _ 0 _ _ _ hx2; have x1 := cell_of_row _ _ 1 _ _ _ hx2; have x2 := cell_of_row _ _ 2 _ _ _ hx2; have x3 := cell_of_row _ _ 3 _ _ _ hx2)
                | (refine bodyPost_ret (results_net rfl _ _ w.heap.size 0 0 0 0 (.bool false) rfl rfl (setRow_heap _ _ _ _ _ _ HV2.out.2.1)) rfl ⟨?_, ?_⟩; (· rw [HP.out]; rfl); (· exact below_setRow HV2.out.1 (Nat.le_refl _) _)))
          · have HP := hide (show parseR s.data.toList = none from parse_none_of fun _ _ _ _ h => hf (HPS.out _ _ _ _ h).1)
            obtain ⟨n, hn⟩ : ∃ n, n = faultOf ip e f' g := ⟨_, rfl⟩
            have HE := hide hn.symm
            have hn0 : 0 < n := by omega
            clear hn hf
            go_wp2_with (first
              | (go_at_call 12; refine (netFault_any ip hip e f' g ⟨by omega, by omega⟩ ⟨by omega, by omega⟩ ⟨by omega, by omega⟩ _).mono ?_; rw [HE.out]; rintro e V ⟨rfl, hV⟩; obtain ⟨HV, hx⟩ := fx_on HF hV; clear hV; obtain ⟨r1, r2, r3⟩ := res_start HV.out.2.1; obtain ⟨r4, r5, r6⟩ := res_row HV.out.2.1; have x0 := cell_of_row _ _ 0 _ _ _ hx; have x1 := cell_of_row _ _ 1 _ _ _ hx; have x2 := cell_of_row _ _ 2 _ _ _ hx; have x3 := cell_of_row _ _ 3 _ _ _ hx)
              | (refine bodyPost_ret (results_net rfl _ _ w.heap.size 0 0 0 0 (.bool false) rfl rfl (setRow_heap _ _ _ _ _ _ HV.out.2.1)) rfl ⟨?_, ?_⟩; (· rw [HP.out]; rfl); (· exact below_setRow HV.out.1 (Nat.le_refl _) _)))
        · have HP := hide (show parseR s.data.toList = none from parse_none_of fun ip' b' lo' hi' h => by
            have q4 := HQ.out _ _ _ _ h
            obtain ⟨q1, _, _⟩ := parse_some h
            simp only [netNums, List.cons.injEq, and_true] at q4
            exact h255 (by omega))
          obtain ⟨r1, r2, r3⟩ := res_start HF.out.2.1
          obtain ⟨r4, r5, r6⟩ := res_row HF.out.2.1
          by_cases ha : a ≤ 255
          · by_cases hb : b ≤ 255
            · by_cases hc : c ≤ 255
              · have hd : 255 < d := by omega
                clear h255
                go_wp2_with (refine bodyPost_ret (results_net rfl _ _ w.heap.size 0 0 0 0 (.bool false) rfl rfl (setRow_heap _ _ _ _ _ _ HF.out.2.1)) rfl ⟨?_, ?_⟩; (· rw [HP.out]; rfl); (· exact below_setRow HF.out.1 (Nat.le_refl _) _))
              · clear h255
                go_wp2_with (refine bodyPost_ret (results_net rfl _ _ w.heap.size 0 0 0 0 (.bool false) rfl rfl (setRow_heap _ _ _ _ _ _ HF.out.2.1)) rfl ⟨?_, ?_⟩; (· rw [HP.out]; rfl); (· exact below_setRow HF.out.1 (Nat.le_refl _) _))
            · clear h255
              go_wp2_with (refine bodyPost_ret (results_net rfl _ _ w.heap.size 0 0 0 0 (.bool false) rfl rfl (setRow_heap _ _ _ _ _ _ HF.out.2.1)) rfl ⟨?_, ?_⟩; (· rw [HP.out]; rfl); (· exact below_setRow HF.out.1 (Nat.le_refl _) _))
          · clear h255
            go_wp2_with (refine bodyPost_ret (results_net rfl _ _ w.heap.size 0 0 0 0 (.bool false) rfl rfl (setRow_heap _ _ _ _ _ _ HF.out.2.1)) rfl ⟨?_, ?_⟩; (· rw [HP.out]; rfl); (· exact below_setRow HF.out.1 (Nat.le_refl _) _))
end Go.Proofs.YtkeljbekbgabpaaDoor
