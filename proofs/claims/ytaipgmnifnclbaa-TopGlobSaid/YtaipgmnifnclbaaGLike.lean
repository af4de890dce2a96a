/- The walk of the document's like. -/
import Derived.Test.YtaipgmnifnclbaaGLikeLaws
namespace Go.Proofs.Ytaipgmnifnclbaa
open Go.RowKit

theorem LW.start {w W : World} {L g : Nat} {r : Nat → Bool} (h1 : Below w.heap.size w W) (h2 : w.heap.size ≤ g) (h3 : W.heap[g]? = some (.cells (LA (L + 1) r) 4 (0, 0))) : LW w L g W.heap.size r (fun _ => false) (W.alloc (.cells (LA (L + 1) fun _ => false) 4)) := by
  have hlt : g < W.heap.size := (Array.getElem?_eq_some_iff.1 h3).1
  exact ⟨h1.alloc h1.size _, h2, hlt, (Below.heap_alloc _ _ _ hlt).trans h3, heap_alloc_new _ _⟩

/-- A quiet callee, in a world that has drawn nothing yet. -/
theorem quiet_plain {P : Program} {f : FuncId} {args : Array Value} {w : World} {n : Nat} {v : Value}
    (h : Calls P f args (w.drewN n) fun e w' => e = .returned v ∧ w' = w.drewN n) : Calls P f args (w.drewN n) fun e w'' => e = .returned v ∧ ∃ m, w'' = w.drewN m :=
  h.mono fun _ _ ⟨he, hm⟩ => ⟨he, n, hm⟩

/-- The state ahead of a part. -/
def LO (w : World) (L g : Nat) (r : Nat → Bool) (W : World) : Prop := Below w.heap.size w W ∧ w.heap.size ≤ g ∧ W.heap[g]? = some (.cells (LA (L + 1) r) 4 (0, 0))
theorem LW.next {w W : World} {L g g2 : Nat} {r h r' : Nat → Bool} (x : LW w L g g2 r h W) (e : ∀ i, i ≤ L → (h i = true ↔ r' i = true)) : LO w L g2 r' W := by
  refine ⟨x.1, by have := x.2.1; have := x.2.2.1; omega, ?_⟩
  rw [x.2.2.2.2, LA_congr (L + 1) h r' (fun i hi => by rw [Bool.eq_iff_iff]; exact e i (by omega))]

set_option maxRecDepth 10000 in
set_option maxHeartbeats 2000000 in
theorem like_any (p s : ByteArray) (cs : List (Nat × Nat)) (ps : List Part) (b cap : Nat) (hz : p.size ≤ 1000) (hs : s.size ≤ 1000) (hcut : Cut p cs ps) (hps : ps.length ≤ 1000) (w : World) (hb : b < w.heap.size)
    (hl : ∀ i, i < ps.length → w.cell? ⟨b, i, none⟩ = some (.string (pieceAt p cs i))) :
    Calls Try.prog 17 #[.slice (some ⟨b, 0, none⟩) ps.length cap, .string s] w fun e w' => e = .returned (.bool (reach ps s ps.length s.size)) ∧ Below w.heap.size w w' := by
  have Hl := hide hl
  have Hcut := hide hcut
  clear hl hcut
  have h00 := LA_get (s.size + 1) (fun _ => false) 0 (by omega)
  go_enter Try.func17, Try.ntmps17
  go_wp2_with (refine wpList_make_bools rfl _ _ rfl (s.size + 1) ?_ ?_ (by omega) ?_; (· rfl); (· rfl))
  refine wp_forget (LO w s.size w.heap.size (reach ps s 0)) ⟨(Below.refl _ _).alloc (Nat.le_refl _) _, Nat.le_refl _, by
    rw [heap_alloc_new, LA_set, LA_congr (s.size + 1) (upd (fun _ => false) 0 true) (reach ps s 0) (fun i _ => by rw [Bool.eq_iff_iff]; simp [upd, reach])]⟩ ?_
  rintro V0 hV0
  clear h00
  go_loopw [5, 6] (fun at' i w' => ∃ k g : Nat, k ≤ ps.length ∧ at' = .slice (some ⟨g, 0, none⟩) (s.size + 1) (s.size + 1) ∧ i = .int .i64 k ∧ LO w s.size g (reach ps s k) w') (fun _ i _ => ps.length - (intOf i).toNat)
  case atStart => exact ⟨0, w.heap.size, by omega, rfl, rfl, hV0⟩
  case round =>
    obtain ⟨k, g, hk, rfl, rfl, hLO⟩ := hrel
    clear hV0
    by_cases hlt : k < ps.length
    · obtain ⟨q1, q2, qm, qo⟩ := piece_facts Hcut.out hz hlt
      have hq := Hl.out k hlt
      generalize pieceAt p cs k = q at *
      have e0 := byteAt_eq q 0 (by omega)
      have HLO := hide hLO
      clear hLO
      cases hm : manyAt ps k
      · obtain ⟨qn, qs⟩ := qo hm
        have HS := hide qs
        have bn : ((byteAt q 0 : Int) != 42) = true := by rw [bne_iff_ne]; omega
        clear qm qo qs qn
        go_wp2_with (refine wpList_make_bools rfl _ _ rfl (s.size + 1) ?_ ?_ (by omega) ?_; (· rfl); (· rfl))
        refine wp_forget (LW w s.size g wr.heap.size (reach ps s k) fun _ => false) (LW.start HLO.out.1 HLO.out.2.1 HLO.out.2.2) ?_
        generalize wr.heap.size = g2
        rintro V1 hV1
        go_loopw [8] (fun i w' => ∃ (m : Nat) (h : Nat → Bool), m ≤ s.size + 1 ∧ i = .int .i64 m ∧ LW w s.size g g2 (reach ps s k) h w' ∧ ∀ x, x ≤ s.size → (h x = true ↔ MidOne (likeAt ps k) (reach ps s k) s m x)) (fun i _ => s.size + 1 - (intOf i).toNat)
        case atStart => exact ⟨0, _, by omega, rfl, hV1, fun x _ => by simp [MidOne]⟩
        case round =>
          obtain ⟨m, h, hm1, rfl, hLW, hsp⟩ := hrel
          have HSP := hide hsp
          have HLW := hide hLW
          clear hV1 hsp
          by_cases hml : m ≤ s.size
          · have c1 := hLW.cell m hml
            have hqb := (hLW.1.cell (p := ⟨b, k, none⟩) hb).trans hq
            clear hLW
            cases hr : reach ps s k m
            · rw [hr] at c1
              go_wp2_with fail
              go_roundw
              case rel => exact ⟨m + 1, h, by omega, by go_num, HLW.out, fun x hx => (HSP.out x hx).trans (midOne_skip (.inl hr)).symm⟩
              case measure => simp [intOf]; omega
            · rw [hr] at c1
              by_cases hms : m < s.size
              · have em := byteAt_eq s m hms
                have dm : decide ((m : Int) < (s.size : Int)) = true := by simp; omega
                have bl := byteAt_lt s m
                cases hlk : likeAt ps k (byteAt s m)
                · go_wp2_with fail
                  go_quiet ((go_at_call 21; exact quiet_plain (HS.out _ bl _)))
                  rw [hlk]
                  go_wp2_with fail
                  go_roundw
                  case rel => exact ⟨m + 1, h, by omega, by go_num, HLW.out.drewN _, fun x hx => (HSP.out x hx).trans (midOne_skip (.inr (.inr hlk))).symm⟩
                  case measure => simp [intOf]; omega
                · have c2 := HLW.out.cell2 (m + 1) (by omega)
                  have f2 := HLW.out.frozen2 (m + 1)
                  go_wp2_with fail
                  go_quiet ((go_at_call 21; exact quiet_plain (HS.out _ bl _)))
                  rw [hlk]
                  go_wp2_with fail
                  go_roundw
                  case rel => exact ⟨m + 1, upd h (m + 1) true, by omega, by go_num, (HLW.out.drewN _).set _ _, fun x hx => by
                    rw [midOne_add hr hms hlk, ← HSP.out x hx]
                    by_cases e : x = m + 1
                    · simp [upd, e]
                    · simp [upd, e]⟩
                  case measure => simp [intOf]; omega
              · have dm : decide ((m : Int) < (s.size : Int)) = false := by simp; omega
                go_wp2_with fail
                go_quiet (fail)
                go_wp2_with fail
                go_roundw
                case rel => exact ⟨m + 1, h, by omega, by go_num, HLW.out.drewN _, fun x hx => (HSP.out x hx).trans (midOne_skip (.inr (.inl hms))).symm⟩
                case measure => simp [intOf]; omega
          · have e : m = s.size + 1 := by omega
            have He := hide e
            clear e hLW
            go_wp2_with fail
            go_roundw
            case rel => exact ⟨k + 1, g2, by omega, rfl, by go_num, HLW.out.next fun x hx => by rw [HSP.out x hx, He.out]; exact (reach_of_one hm hx).symm⟩
            case measure => simp [intOf]; omega
      · obtain ⟨qn, qs⟩ := qm hm
        have Hq2 := hide qs
        have bn : ((byteAt q 0 : Int) != 42) = false := by rw [bne_eq_false_iff_eq]; omega
        clear qm qo qs qn
        go_wp2_with (refine wpList_make_bools rfl _ _ rfl (s.size + 1) ?_ ?_ (by omega) ?_; (· rfl); (· rfl))
        refine wp_forget (LW w s.size g wr.heap.size (reach ps s k) fun _ => false) (LW.start HLO.out.1 HLO.out.2.1 HLO.out.2.2) ?_
        generalize wr.heap.size = g2
        rintro V1 hV1
        go_loopw [8] (fun i w' => ∃ (m : Nat) (h : Nat → Bool), m ≤ s.size + 1 ∧ i = .int .i64 m ∧ LW w s.size g g2 (reach ps s k) h w' ∧ ∀ x, x ≤ s.size → (h x = true ↔ MidMany (likeAt ps k) (reach ps s k) s m x)) (fun i _ => s.size + 1 - (intOf i).toNat)
        case atStart => exact ⟨0, _, by omega, rfl, hV1, fun x _ => by simp [MidMany]⟩
        case round =>
          obtain ⟨m, h, hm1, rfl, hLW, hsp⟩ := hrel
          have HSP := hide hsp
          have HLW := hide hLW
          clear hV1 hsp
          by_cases hml : m ≤ s.size
          · have c1 := hLW.cell m hml
            have hqb := (hLW.1.cell (p := ⟨b, k, none⟩) hb).trans hq
            clear hLW
            cases hr : reach ps s k m
            · rw [hr] at c1
              go_wp2_with fail
              go_roundw
              case rel => exact ⟨m + 1, h, by omega, by go_num, HLW.out, fun x hx => (HSP.out x hx).trans (midMany_skip hr).symm⟩
              case measure => simp [intOf]; omega
            · rw [hr] at c1
              have c3 := HLW.out.cell2 m hml
              have f3 := HLW.out.frozen2 m
              go_wp2_with fail
              go_loopw [9] (fun j w' => ∃ (y : Nat) (h' : Nat → Bool), m ≤ y ∧ y ≤ s.size ∧ j = .int .i64 y ∧ LW w s.size g g2 (reach ps s k) h' w' ∧ (∀ x, x ≤ s.size → (h' x = true ↔ h x = true ∨ (m ≤ x ∧ x ≤ y))) ∧ ∀ z, m ≤ z → z < y → likeAt ps k (byteAt s z) = true) (fun j _ => s.size - (intOf j).toNat)
              case atStart => exact ⟨m, upd h m true, by omega, by omega, rfl, HLW.out.set _ _, fun x hx => by
                by_cases e : x = m
                · simp [upd, e]
                · have : ¬ (m ≤ x ∧ x ≤ m) := by omega
                  simp [upd, e, this], fun z a b => by omega⟩
              case round =>
                obtain ⟨y, h', hy1, hy2, rfl, hLW', hsp', hall⟩ := hrel
                have HLW' := hide hLW'
                have HSP' := hide hsp'
                have HALL := hide hall
                have hqb' := (hLW'.1.cell (p := ⟨b, k, none⟩) hb).trans hq
                clear hLW' hsp' hall
                by_cases hys : y < s.size
                · have ey := byteAt_eq s y hys
                  have dy : decide ((y : Int) < (s.size : Int)) = true := by simp; omega
                  have c2 := HLW'.out.cell2 (y + 1) (by omega)
                  have f2 := HLW'.out.frozen2 (y + 1)
                  have step : likeAt ps k (byteAt s y) = true → ∀ W, LW w s.size g g2 (reach ps s k) (upd h' (y + 1) true) W → ∃ (y' : Nat) (h'' : Nat → Bool), m ≤ y' ∧ y' ≤ s.size ∧ Value.int .i64 ((y : Int) + 1) = .int .i64 y' ∧ LW w s.size g g2 (reach ps s k) h'' W ∧ (∀ x, x ≤ s.size → (h'' x = true ↔ h x = true ∨ (m ≤ x ∧ x ≤ y'))) ∧ ∀ z, m ≤ z → z < y' → likeAt ps k (byteAt s z) = true := by
                    intro hk1 W hW
                    refine ⟨y + 1, upd h' (y + 1) true, by omega, by omega, by go_num, hW, fun x hx => ?_, fun z a c => ?_⟩
                    · by_cases e : x = y + 1
                      · have : m ≤ x ∧ x ≤ y + 1 := by omega
                        simp [upd, e]; omega
                      · have h1 : (m ≤ x ∧ x ≤ y + 1) ↔ (m ≤ x ∧ x ≤ y) := by omega
                        rw [h1, ← HSP'.out x hx]
                        simp [upd, e]
                    · by_cases e : z = y
                      · subst e; exact hk1
                      · exact HALL.out z a (by omega)
                  have HST := hide step
                  clear step
                  have stop : likeAt ps k (byteAt s y) = false → ∃ (m' : Nat) (h0 : Nat → Bool), m' ≤ s.size + 1 ∧ Value.int .i64 ((m : Int) + 1) = .int .i64 m' ∧ LW w s.size g g2 (reach ps s k) h0 wr ∧ ∀ x, x ≤ s.size → (h0 x = true ↔ MidMany (likeAt ps k) (reach ps s k) s m' x) := by
                    intro hk0
                    refine ⟨m + 1, h', by omega, by go_num, HLW'.out, fun x hx => ?_⟩
                    rw [midMany_add hy1 hr HALL.out (.inr hk0) hx, ← HSP.out x hx]
                    exact HSP'.out x hx
                  have HSO := hide stop
                  clear stop
                  rcases Hq2.out with ⟨z2, hc2⟩ | ⟨z2, hc2⟩
                  · have b2 : ((q.size : Int) == 2) = true := by rw [beq_iff_eq]; omega
                    have HT := hide (hc2 (byteAt s y))
                    clear z2 hc2
                    go_wp2_with fail
                    go_roundw
                    case rel => exact HST.out HT.out _ (HLW'.out.set _ _)
                    case measure => simp [intOf]; omega
                  · have b2 : ((q.size : Int) == 2) = false := by rw [beq_eq_false_iff_ne]; omega
                    have HT := hide (hc2 (byteAt s y))
                    clear z2 hc2
                    by_cases h47 : byteAt s y = 47
                    · have b47 : ((byteAt s y : Int) != 47) = false := by rw [bne_eq_false_iff_eq]; omega
                      have HF := hide (show likeAt ps k (byteAt s y) = false by rw [HT.out, h47]; rfl)
                      clear h47
                      go_wp2_with fail
                      go_roundw
                      case rel => exact HSO.out HF.out
                      case measure => simp [intOf]; omega
                    · have b47 : ((byteAt s y : Int) != 47) = true := by rw [bne_iff_ne]; omega
                      have HF := hide (show likeAt ps k (byteAt s y) = true by rw [HT.out]; simp [h47])
                      clear h47
                      go_wp2_with fail
                      go_roundw
                      case rel => exact HST.out HF.out _ (HLW'.out.set _ _)
                      case measure => simp [intOf]; omega
                · have dy : decide ((y : Int) < (s.size : Int)) = false := by simp; omega
                  have ey : y = s.size := by omega
                  have HE := hide ey
                  clear ey
                  go_wp2_with fail
                  go_roundw
                  case rel => exact ⟨m + 1, h', by omega, by go_num, HLW'.out, fun x hx => by rw [midMany_add hy1 hr HALL.out (.inl HE.out) hx, ← HSP.out x hx]; exact HSP'.out x hx⟩
                  case measure => simp [intOf]; omega
          · have e : m = s.size + 1 := by omega
            have He := hide e
            clear e hLW
            go_wp2_with fail
            go_roundw
            case rel => exact ⟨k + 1, g2, by omega, rfl, by go_num, HLW.out.next fun x hx => by rw [HSP.out x hx, He.out]; exact (reach_of_many hm hx).symm⟩
            case measure => simp [intOf]; omega
    · have e : k = ps.length := by omega
      subst e
      have hc := cell_of_row wr g s.size _ _ _ hLO.2.2
      rw [LA_get _ _ _ (by omega)] at hc
      have HB := hide hLO.1
      clear hLO
      go_wp2_with fail
      go_ret
      exact ⟨rfl, HB.out⟩
end Go.Proofs.Ytaipgmnifnclbaa
