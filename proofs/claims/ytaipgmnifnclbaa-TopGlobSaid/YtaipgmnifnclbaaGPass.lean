/- The walks of glob.pass and glob.step. -/
import Derived.Test.YtaipgmnifnclbaaGParse
namespace Go.Proofs.Ytaipgmnifnclbaa
open Go.RowKit
attribute [local go_sem] LA_set LA_get LA_size LA_at

def likeAt (ps : List Part) (i : Nat) : Nat → Bool := (ps.getD i (fun _ => false, false)).1
def manyAt (ps : List Part) (i : Nat) : Bool := (ps.getD i (fun _ => false, false)).2

/-- The parts lie in a block, one behind the other. -/
def PartsIn (w : World) (b : Nat) (ps : List Part) : Prop := b < w.heap.size ∧ (∀ i, i < ps.length → w.cell? ⟨b, i * 257 + 256, none⟩ = some (.bool (manyAt ps i))) ∧ ∀ i c, i < ps.length → c < 256 → w.cell? ⟨b, i * 257 + c, none⟩ = some (.bool (likeAt ps i c))

theorem PartsIn.later {w w' : World} {b : Nat} {ps : List Part} (h : PartsIn w b ps) (hb : Below w.heap.size w w') : PartsIn w' b ps :=
  ⟨Nat.lt_of_lt_of_le h.1 hb.size, fun i hi => by rw [hb.cell (p := ⟨b, _, none⟩) h.1]; exact h.2.1 i hi, fun i c hi hc => by rw [hb.cell (p := ⟨b, _, none⟩) h.1]; exact h.2.2 i c hi hc⟩

theorem flat_get : ∀ (ps : List Part) (i j : Nat), i < ps.length → j < 257 → (flat ps)[i * 257 + j]? = some (.bool (PF (likeAt ps i) (manyAt ps i) j))
  | [], i, j, h, _ => by simp at h
  | p :: ps, 0, j, _, hj => by
    have e : flat (p :: ps) = (LA 257 (PF p.1 p.2)).toList ++ flat ps := by simp [flat]
    rw [e, Nat.zero_mul, Nat.zero_add, List.getElem?_append_left (by simp [LA_size]; exact hj)]
    simpa [likeAt, manyAt] using LA_get 257 (PF p.1 p.2) j hj
  | p :: ps, i + 1, j, h, hj => by
    have e : flat (p :: ps) = (LA 257 (PF p.1 p.2)).toList ++ flat ps := by simp [flat]
    rw [e, List.getElem?_append_right (by simp [LA_size]; omega)]
    have e2 : (i + 1) * 257 + j - (LA 257 (PF p.1 p.2)).toList.length = i * 257 + j := by simp [LA_size]; omega
    rw [e2, flat_get ps i j (by simpa using h) hj]
    rfl

theorem partsIn_of_owns {w : World} {base : Nat} {sv : Value} {ps : List Part} (h : w.ownsRow base 47 257 sv ps.length (flat ps)) (hne : ps ≠ []) : ∃ b cap, sv = .slice (some ⟨b, 0, none⟩) ps.length cap ∧ base ≤ b ∧ PartsIn w b ps := by
  have hn : ps.length ≠ 0 := by simpa using hne
  rcases h.2 with ⟨_, h0⟩ | ⟨g, cap, cur, rfl, hb, hg, _⟩
  · exact absurd h0 hn
  · have hc : ∀ j u, (flat ps)[j]? = some u → w.cell? ⟨g, j, none⟩ = some u := fun j u hu => by
      have := h.cells (g := g) rfl j u hu
      have hadd : (⟨g, 0, none⟩ : Addr).add j = ⟨g, j, none⟩ := by unfold Addr.add; split <;> simp_all
      rwa [hadd] at this
    refine ⟨g, cap, rfl, hb, (Array.getElem?_eq_some_iff.1 hg).1, fun i hi => ?_, fun i c hi hc' => ?_⟩
    · have := hc _ _ (flat_get ps i 256 hi (by omega))
      simpa [PF] using this
    · have := hc _ _ (flat_get ps i c hi (by omega))
      rw [this, PF, if_neg (by omega)]

/-- The places that k parts with no bytes add. -/
def passTo (ps : List Part) (f : Nat → Bool) : Nat → Nat → Bool
  | 0 => f
  | k + 1 => if (passTo ps f k k && manyAt ps k) = true then upd (passTo ps f k) (k + 1) true else passTo ps f k
theorem passTo_yes {ps : List Part} {f : Nat → Bool} {k : Nat} (h1 : passTo ps f k k = true) (h2 : manyAt ps k = true) : passTo ps f (k + 1) = upd (passTo ps f k) (k + 1) true := by rw [passTo, if_pos (by rw [h1, h2]; rfl)]
theorem passTo_no {ps : List Part} {f : Nat → Bool} {k : Nat} (h : (passTo ps f k k && manyAt ps k) = false) : passTo ps f (k + 1) = passTo ps f k := by rw [passTo, if_neg (by rw [h]; simp)]

set_option maxRecDepth 10000 in
set_option maxHeartbeats 400000 in
theorem pass_any (ps : List Part) (b cap : Nat) (f : Nat → Bool) (w : World) (hn : ps.length ≤ 24) (hp : PartsIn w b ps) :
    Calls Try.prog 15 #[.slice (some ⟨b, 0, none⟩) ps.length cap, .agg (LA 25 f)] w fun e w' => e = .returned (.agg (LA 25 (passTo ps f ps.length))) ∧ Below w.heap.size w w' := by
  obtain ⟨hb, hm, _⟩ := hp
  have Hm := hide hm
  clear hm
  have zl := zv_places
  go_enter Try.func15, Try.ntmps15
  go_wp2_with fail
  go_loopw [8] (fun i w' => ∃ k : Nat, k ≤ ps.length ∧ i = .int .i64 k ∧ w' = (w.alloc (.cells (LA 25 (passTo ps f k)) 41)).alloc (.cells (LA 25 fun _ => false) 41)) (fun i _ => ps.length - (intOf i).toNat)
  case atStart => exact ⟨0, by omega, rfl, rfl⟩
  case round =>
    obtain ⟨k, hk, rfl, rfl⟩ := hrel
    by_cases hlt : k < ps.length
    · have hc := Hm.out k hlt
      have h25 : k < 25 := by omega
      have hg1 := LA_get 25 (passTo ps f k) (k + 1) (by omega)
      cases h1 : passTo ps f k k
      · have HS := hide (passTo_no (ps := ps) (f := f) (k := k) (by rw [h1]; rfl))
        go_wp2_with fail
        go_roundw
        case rel => exact ⟨k + 1, by omega, by go_num, by rw [HS.out]⟩
        case measure => simp [intOf]; omega
      · cases h2 : manyAt ps k
        · have HS := hide (passTo_no (ps := ps) (f := f) (k := k) (by rw [h1, h2]; rfl))
          rw [h2] at hc
          go_wp2_with fail
          go_roundw
          case rel => exact ⟨k + 1, by omega, by go_num, by rw [HS.out]⟩
          case measure => simp [intOf]; omega
        · have HS := hide (passTo_yes h1 h2)
          rw [h2] at hc
          go_wp2_with fail
          go_roundw
          case rel => exact ⟨k + 1, by omega, by go_num, by rw [HS.out]⟩
          case measure => simp [intOf]; omega
    · have e : k = ps.length := by omega
      have He := hide e
      clear e
      go_wp2_with (first
        | (refine wpList_load_LA 41 25 25 4 rfl _ rfl w.heap.size ?_ Try.underlying41 size_places (passTo ps f k) 41 ?_ ?_; (· rfl); (· with_reducible exact heap_alloc2_old _ _ _))
        | (refine wpList_store_LA 41 25 rfl _ _ rfl (w.heap.size + 1) ?_ (passTo ps f k) ?_ size_places (fun _ => false) 41 ?_ ?_; (· rfl); (· rfl); (· with_reducible exact heap_alloc2_new _ _ _))
        | (refine bodyPost_ret (results_LA 25 25 4 rfl _ _ (w.heap.size + 1) _ 41 rfl (heap_setRow_same _ (heap_alloc2_new _ _ _)) Try.underlying41 size_places) rfl ⟨?_, ?_⟩; (· rw [He.out]); (· exact below_setRow (((Below.refl _ _).alloc (Nat.le_refl _) _).alloc (by simp) _) (by omega) _)))

/-- The places behind one more byte, so far as the loop has come. -/
def stepTo (ps : List Part) (f : Nat → Bool) (b : Nat) : Nat → Nat → Bool
  | 0 => fun _ => false
  | k + 1 => if (f k && likeAt ps k b) = true then (if manyAt ps k = true then upd (stepTo ps f b k) k true else upd (stepTo ps f b k) (k + 1) true) else stepTo ps f b k
theorem stepTo_no {ps : List Part} {f : Nat → Bool} {b k : Nat} (h : (f k && likeAt ps k b) = false) : stepTo ps f b (k + 1) = stepTo ps f b k := by rw [stepTo, if_neg (by rw [h]; simp)]
theorem stepTo_many {ps : List Part} {f : Nat → Bool} {b k : Nat} (h1 : f k = true) (h2 : likeAt ps k b = true) (h3 : manyAt ps k = true) : stepTo ps f b (k + 1) = upd (stepTo ps f b k) k true := by rw [stepTo, if_pos (by rw [h1, h2]; rfl), if_pos h3]
theorem stepTo_one {ps : List Part} {f : Nat → Bool} {b k : Nat} (h1 : f k = true) (h2 : likeAt ps k b = true) (h3 : manyAt ps k = false) : stepTo ps f b (k + 1) = upd (stepTo ps f b k) (k + 1) true := by rw [stepTo, if_pos (by rw [h1, h2]; rfl), if_neg (by rw [h3]; simp)]

/-- The world of step: the places, the result's block, the places that come. -/
def SW (w : World) (f g : Nat → Bool) : World := ((w.alloc (.cells (LA 25 f) 41)).alloc (.cells (LA 25 fun _ => false) 41)).alloc (.cells (LA 25 g) 41)
theorem SW_heap1 (w : World) (f g : Nat → Bool) : (SW w f g).heap[w.heap.size + 1]? = some (.cells (LA 25 fun _ => false) 41 (0, 0)) := by
  unfold SW
  have h := (Below.heap_alloc ((w.alloc (.cells (LA 25 f) 41)).alloc (.cells (LA 25 fun _ => false) 41)) (.cells (LA 25 g) 41) (w.heap.size + 1) (by simp))
  exact h.trans (heap_alloc2_new _ _ _)
theorem SW_heap2 (w : World) (f g : Nat → Bool) : (SW w f g).heap[w.heap.size + 1 + 1]? = some (.cells (LA 25 g) 41 (0, 0)) := by
  unfold SW
  have := heap_alloc_new ((w.alloc (.cells (LA 25 f) 41)).alloc (.cells (LA 25 fun _ => false) 41)) (.cells (LA 25 g) 41)
  simpa using this
theorem SW_below (w : World) (f g : Nat → Bool) : Below w.heap.size w (SW w f g) := (((Below.refl _ _).alloc (Nat.le_refl _) _).alloc (by simp) _).alloc (by simp; omega) _

theorem SW_heap0 (w : World) (f g : Nat → Bool) : (SW w f g).heap[w.heap.size]? = some (.cells (LA 25 f) 41 (0, 0)) := by
  unfold SW
  have h := (Below.heap_alloc ((w.alloc (.cells (LA 25 f) 41)).alloc (.cells (LA 25 fun _ => false) 41)) (.cells (LA 25 g) 41) w.heap.size (by simp; omega))
  exact h.trans (heap_alloc2_old _ _ _)
theorem SW_old (w : World) (f g : Nat → Bool) (b i : Nat) (h : b < w.heap.size) : (SW w f g).cell? ⟨b, i, none⟩ = w.cell? ⟨b, i, none⟩ := (SW_below w f g).cell (p := ⟨b, i, none⟩) h
theorem SW_at (w : World) (f g : Nat → Bool) (i : Nat) (h : i < 25) : (SW w f g).cell? ⟨w.heap.size, i, none⟩ = some (.bool (f i)) := by
  rw [cell_of_row _ _ i _ _ _ (SW_heap0 w f g), LA_get 25 f i h]
theorem SW_to (w : World) (f g : Nat → Bool) (i : Nat) (h : i < 25) : (SW w f g).cell? ⟨w.heap.size + 1 + 1, i, none⟩ = some (.bool (g i)) := by
  rw [cell_of_row _ _ i _ _ _ (SW_heap2 w f g), LA_get 25 g i h]
theorem SW_frozen (w : World) (f g : Nat → Bool) (i : Nat) : (SW w f g).frozen? ⟨w.heap.size + 1 + 1, i, none⟩ = false := frozen_of_row _ _ i _ _ (SW_heap2 w f g)
theorem SW_set (w : World) (f g : Nat → Bool) (i : Nat) (b : Bool) : (SW w f g).setCell ⟨w.heap.size + 1 + 1, i, none⟩ (.bool b) = SW w f (upd g i b) := by
  rw [setCell_eq_setRow _ _ i _ _ _ _ (SW_heap2 w f g), LA_set]
  have h := World.setRow_alloc_new ((w.alloc (.cells (LA 25 f) 41)).alloc (.cells (LA 25 fun _ => false) 41)) (LA 25 g) (LA 25 (upd g i b)) 41
  have e : ((w.alloc (.cells (LA 25 f) 41)).alloc (.cells (LA 25 fun _ => false) 41)).heap.size = w.heap.size + 1 + 1 := by simp
  rw [e] at h
  exact h
attribute [local go_sem] SW_old SW_at SW_to SW_frozen SW_set

set_option maxRecDepth 10000 in
set_option maxHeartbeats 400000 in
theorem step_any (ps : List Part) (b cap c : Nat) (f : Nat → Bool) (w : World) (hn : ps.length ≤ 24) (hc256 : c < 256) (hp : PartsIn w b ps) :
    Calls Try.prog 16 #[.slice (some ⟨b, 0, none⟩) ps.length cap, .agg (LA 25 f), .int .u8 c] w fun e w' => e = .returned (.agg (LA 25 (stepTo ps f c ps.length))) ∧ Below w.heap.size w w' := by
  obtain ⟨hb, hm, hl⟩ := hp
  have Hm := hide hm
  have Hl := hide hl
  clear hm hl
  have zl := zv_places
  go_enter Try.func16, Try.ntmps16
  go_wp2_with fail
  go_loopw [11] (fun i w' => ∃ k : Nat, k ≤ ps.length ∧ i = .int .i64 k ∧ w' = SW w f (stepTo ps f c k)) (fun i _ => ps.length - (intOf i).toNat)
  case atStart => exact ⟨0, by omega, rfl, rfl⟩
  case round =>
    obtain ⟨k, hk, rfl, rfl⟩ := hrel
    by_cases hlt : k < ps.length
    · have hc := Hm.out k hlt
      have hlk := Hl.out k c hlt hc256
      have h25 : k < 25 := by omega
      have ht0 := SW_to w f (stepTo ps f c k) k h25
      have ht1 := SW_to w f (stepTo ps f c k) (k + 1) (by omega)
      cases h1 : f k
      · have HS := hide (stepTo_no (ps := ps) (f := f) (b := c) (k := k) (by rw [h1]; rfl))
        go_wp2_with fail
        go_roundw
        case rel => exact ⟨k + 1, by omega, by go_num, by rw [HS.out]⟩
        case measure => simp [intOf]; omega
      · cases h2 : likeAt ps k c
        · have HS := hide (stepTo_no (ps := ps) (f := f) (b := c) (k := k) (by rw [h1, h2]; rfl))
          rw [h2] at hlk
          go_wp2_with fail
          go_roundw
          case rel => exact ⟨k + 1, by omega, by go_num, by rw [HS.out]⟩
          case measure => simp [intOf]; omega
        · rw [h2] at hlk
          cases h3 : manyAt ps k
          · have HS := hide (stepTo_one h1 h2 h3)
            rw [h3] at hc
            go_wp2_with fail
            go_roundw
            case rel => exact ⟨k + 1, by omega, by go_num, by rw [HS.out]⟩
            case measure => simp [intOf]; omega
          · have HS := hide (stepTo_many h1 h2 h3)
            rw [h3] at hc
            go_wp2_with fail
            go_roundw
            case rel => exact ⟨k + 1, by omega, by go_num, by rw [HS.out]⟩
            case measure => simp [intOf]; omega
    · have e : k = ps.length := by omega
      have He := hide e
      clear e
      go_wp2_with (first
        | (refine wpList_load_LA 41 25 25 4 rfl _ rfl (w.heap.size + 1 + 1) ?_ Try.underlying41 size_places (stepTo ps f c k) 41 ?_ ?_; (· rfl); (· with_reducible exact SW_heap2 _ _ _))
        | (refine wpList_store_LA 41 25 rfl _ _ rfl (w.heap.size + 1) ?_ (stepTo ps f c k) ?_ size_places (fun _ => false) 41 ?_ ?_; (· rfl); (· rfl); (· with_reducible exact SW_heap1 _ _ _))
        | (refine bodyPost_ret (results_LA 25 25 4 rfl _ _ (w.heap.size + 1) _ 41 rfl (heap_setRow_same _ (SW_heap1 _ _ _)) Try.underlying41 size_places) rfl ⟨?_, ?_⟩; (· rw [He.out]); (· exact below_setRow (SW_below _ _ _) (by omega) _)))
end Go.Proofs.Ytaipgmnifnclbaa
