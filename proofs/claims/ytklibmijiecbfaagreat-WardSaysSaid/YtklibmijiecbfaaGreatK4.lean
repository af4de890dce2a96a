/- The walks of glob.pass and glob.step. -/
import Derived.Test.YtklibmijiecbfaaGreatK3
import Derived.Deep.RegionLaw
import Derived.Lib.QuietBelow
namespace Go.Proofs.YtklibmijiecbfaaGreat.Gl
open Go.RowKit
attribute [local go_sem] LA_set LA_get LA_size LA_at

def likeAt (ps : List Part) (i : Nat) : Nat → Bool := (ps.getD i (fun _ => false, false)).1
def manyAt (ps : List Part) (i : Nat) : Bool := (ps.getD i (fun _ => false, false)).2

def PartsIn (w : World) (b : Nat) (ps : List Part) : Prop := b < w.heap.size ∧ (∀ i, i < ps.length → w.cell? ⟨b, i * 257 + 256, none⟩ = some (.bool (manyAt ps i))) ∧ ∀ i c, i < ps.length → c < 256 → w.cell? ⟨b, i * 257 + c, none⟩ = some (.bool (likeAt ps i c))

theorem PartsIn.later {w w' : World} {b : Nat} {ps : List Part} (h : PartsIn w b ps) (hb : Below w.heap.size w w') : PartsIn w' b ps :=
 ⟨Nat.lt_of_lt_of_le h.1 hb.size, fun i hi => by rw [hb.cell (p := ⟨b, _, none⟩) h.1]; exact h.2.1 i hi, fun i c hi hc => by rw [hb.cell (p := ⟨b, _, none⟩) h.1]; exact h.2.2 i c hi hc⟩

theorem flat_get : ∀ (ps : List Part) (i j : Nat), i < ps.length → j < 257 → (flat ps)[i * 257 + j]? = some (.bool (PF (likeAt ps i) (manyAt ps i) j))
 | [], i, j, h, _ => by simp at h
 | p :: ps, 0, j, _, hj => by
  have e : flat (p :: ps) = (LA 257 (PF p.1 p.2)).toList ++ flat ps := by simp [flat]
  rw [e, Nat.zero_mul, Nat.zero_add, List.getElem?_append_left (by simp [LA_size]; exact hj)]
  simpa [likeAt, manyAt] using LA_get 257 (PF p.1 p.2) j hj
 | p :: ps, i + 1, j, h, hj => by
  have e : flat (p :: ps) = (LA 257 (PF p.1 p.2)).toList ++ flat ps := by simp [flat]
  rw [e, List.getElem?_append_right (by simp [LA_size]; omega)]
  have e2 : (i + 1) * 257 + j - (LA 257 (PF p.1 p.2)).toList.length = i * 257 + j := by simp [LA_size]; omega
  rw [e2, flat_get ps i j (by simpa using h) hj]
  rfl

theorem partsIn_of_owns {w : World} {base : Nat} {sv : Value} {ps : List Part} (h : w.ownsRow base 224 257 sv ps.length (flat ps)) (hne : ps ≠ []) : ∃ b cap, sv = .slice (some ⟨b, 0, none⟩) ps.length cap ∧ base ≤ b ∧ PartsIn w b ps := by
 have hn : ps.length ≠ 0 := by simpa using hne
 rcases h.2 with ⟨_, h0⟩ | ⟨g, cap, cur, rfl, hb, hg, _⟩
 ·
  exact absurd h0 hn
 ·
  have hc : ∀ j u, (flat ps)[j]? = some u → w.cell? ⟨g, j, none⟩ = some u := fun j u hu => by
   have := h.cells (g := g) rfl j u hu
   have hadd : (⟨g, 0, none⟩ : Addr).add j = ⟨g, j, none⟩ := by unfold Addr.add; split <;> simp_all
   rwa [hadd] at this
  refine ⟨g, cap, rfl, hb, (Array.getElem?_eq_some_iff.1 hg).1, fun i hi => ?_, fun i c hi hc' => ?_⟩
  ·
   have := hc _ _ (flat_get ps i 256 hi (by omega))
   simpa [PF] using this
  ·
   have := hc _ _ (flat_get ps i c hi (by omega))
   rw [this, PF, if_neg (by omega)]

def passTo (ps : List Part) (f : Nat → Bool) : Nat → Nat → Bool
 | 0 => f
 | k + 1 => if (passTo ps f k k && manyAt ps k) = true then upd (passTo ps f k) (k + 1) true else passTo ps f k
theorem passTo_yes {ps : List Part} {f : Nat → Bool} {k : Nat} (h1 : passTo ps f k k = true) (h2 : manyAt ps k = true) : passTo ps f (k + 1) = upd (passTo ps f k) (k + 1) true := by rw [passTo, if_pos (by rw [h1, h2]; rfl)]
theorem passTo_no {ps : List Part} {f : Nat → Bool} {k : Nat} (h : (passTo ps f k k && manyAt ps k) = false) : passTo ps f (k + 1) = passTo ps f k := by rw [passTo, if_neg (by rw [h]; simp)]

set_option maxRecDepth 10000 in
set_option maxHeartbeats 400000 in
theorem pass_any (ps : List Part) (b cap : Nat) (f : Nat → Bool) (w : World) (hn : ps.length ≤ 24) (hp : PartsIn w b ps) :
  Calls Tryz.prog 127 #[.slice (some ⟨b, 0, none⟩) ps.length cap, .agg (LA 25 f)] w fun e w' => e = .returned (.agg (LA 25 (passTo ps f ps.length))) ∧ Below w.heap.size w w' := by
 obtain ⟨hb, hm, _⟩ := hp
 have Hm := hide hm
 clear hm
 have zl := zv_places
 go_enter Tryz.func127, Tryz.ntmps127
 go_wp2_with fail
 go_loopw [8] (fun i w' => ∃ k : Nat, k ≤ ps.length ∧ i = .int .i64 k ∧ w' = (w.alloc (.cells (LA 25 (passTo ps f k)) 217)).alloc (.cells (LA 25 fun _ => false) 217)) (fun i _ => ps.length - (intOf i).toNat)
 case atStart => exact ⟨0, by omega, rfl, rfl⟩
 case round =>
  obtain ⟨k, hk, rfl, rfl⟩ := hrel
  by_cases hlt : k < ps.length
  ·
   have hc := Hm.out k hlt
   have h25 : k < 25 := by omega
   have hg1 := LA_get 25 (passTo ps f k) (k + 1) (by omega)
   cases h1 : passTo ps f k k
   ·
    have HS := hide (passTo_no (ps := ps) (f := f) (k := k) (by rw [h1]; rfl))
    go_wp2_with fail
    go_roundw
    case rel => exact ⟨k + 1, by omega, by go_num, by rw [HS.out]⟩
    case measure => simp [intOf]; omega
   ·
    cases h2 : manyAt ps k
    ·
     have HS := hide (passTo_no (ps := ps) (f := f) (k := k) (by rw [h1, h2]; rfl))
     rw [h2] at hc
     go_wp2_with fail
     go_roundw
     case rel => exact ⟨k + 1, by omega, by go_num, by rw [HS.out]⟩
     case measure => simp [intOf]; omega
    ·
     have HS := hide (passTo_yes h1 h2)
     rw [h2] at hc
     go_wp2_with fail
     go_roundw
     case rel => exact ⟨k + 1, by omega, by go_num, by rw [HS.out]⟩
     case measure => simp [intOf]; omega
  ·
   have e : k = ps.length := by omega
   have He := hide e
   clear e
   go_wp2_with (first
    | (refine wpList_load_LA 217 25 25 4 rfl _ rfl w.heap.size ?_ Tryz.underlying217 size_places (passTo ps f k) 217 ?_ ?_; (· rfl); (· with_reducible exact heap_alloc2_old _ _ _))
    | (refine wpList_store_LA 217 25 rfl _ _ rfl (w.heap.size + 1) ?_ (passTo ps f k) ?_ size_places (fun _ => false) 217 ?_ ?_; (· rfl); (· rfl); (· with_reducible exact heap_alloc2_new _ _ _))
    | (refine bodyPost_ret (results_LA 25 25 4 rfl _ _ (w.heap.size + 1) _ 217 rfl (heap_setRow_same _ (heap_alloc2_new _ _ _)) Tryz.underlying217 size_places) rfl ⟨?_, ?_⟩; (· rw [He.out]); (· exact below_setRow (((Below.refl _ _).alloc (Nat.le_refl _) _).alloc (by simp) _) (by omega) _)))

def stepTo (ps : List Part) (f : Nat → Bool) (b : Nat) : Nat → Nat → Bool
 | 0 => fun _ => false
 | k + 1 => if (f k && likeAt ps k b) = true then (if manyAt ps k = true then upd (stepTo ps f b k) k true else upd (stepTo ps f b k) (k + 1) true) else stepTo ps f b k
theorem stepTo_no {ps : List Part} {f : Nat → Bool} {b k : Nat} (h : (f k && likeAt ps k b) = false) : stepTo ps f b (k + 1) = stepTo ps f b k := by rw [stepTo, if_neg (by rw [h]; simp)]
theorem stepTo_many {ps : List Part} {f : Nat → Bool} {b k : Nat} (h1 : f k = true) (h2 : likeAt ps k b = true) (h3 : manyAt ps k = true) : stepTo ps f b (k + 1) = upd (stepTo ps f b k) k true := by rw [stepTo, if_pos (by rw [h1, h2]; rfl), if_pos h3]
theorem stepTo_one {ps : List Part} {f : Nat → Bool} {b k : Nat} (h1 : f k = true) (h2 : likeAt ps k b = true) (h3 : manyAt ps k = false) : stepTo ps f b (k + 1) = upd (stepTo ps f b k) (k + 1) true := by rw [stepTo, if_pos (by rw [h1, h2]; rfl), if_neg (by rw [h3]; simp)]

def SW (w : World) (f g : Nat → Bool) : World := ((w.alloc (.cells (LA 25 f) 217)).alloc (.cells (LA 25 fun _ => false) 217)).alloc (.cells (LA 25 g) 217)
theorem SW_heap1 (w : World) (f g : Nat → Bool) : (SW w f g).heap[w.heap.size + 1]? = some (.cells (LA 25 fun _ => false) 217 (0, 0)) := by
 unfold SW
 have h := (Below.heap_alloc ((w.alloc (.cells (LA 25 f) 217)).alloc (.cells (LA 25 fun _ => false) 217)) (.cells (LA 25 g) 217) (w.heap.size + 1) (by simp))
 exact h.trans (heap_alloc2_new _ _ _)
theorem SW_heap2 (w : World) (f g : Nat → Bool) : (SW w f g).heap[w.heap.size + 1 + 1]? = some (.cells (LA 25 g) 217 (0, 0)) := by
 unfold SW
 have := heap_alloc_new ((w.alloc (.cells (LA 25 f) 217)).alloc (.cells (LA 25 fun _ => false) 217)) (.cells (LA 25 g) 217)
 simpa using this
theorem SW_below (w : World) (f g : Nat → Bool) : Below w.heap.size w (SW w f g) := (((Below.refl _ _).alloc (Nat.le_refl _) _).alloc (by simp) _).alloc (by simp; omega) _

theorem SW_heap0 (w : World) (f g : Nat → Bool) : (SW w f g).heap[w.heap.size]? = some (.cells (LA 25 f) 217 (0, 0)) := by
 unfold SW
 have h := (Below.heap_alloc ((w.alloc (.cells (LA 25 f) 217)).alloc (.cells (LA 25 fun _ => false) 217)) (.cells (LA 25 g) 217) w.heap.size (by simp; omega))
 exact h.trans (heap_alloc2_old _ _ _)
theorem SW_old (w : World) (f g : Nat → Bool) (b i : Nat) (h : b < w.heap.size) : (SW w f g).cell? ⟨b, i, none⟩ = w.cell? ⟨b, i, none⟩ := (SW_below w f g).cell (p := ⟨b, i, none⟩) h
theorem SW_at (w : World) (f g : Nat → Bool) (i : Nat) (h : i < 25) : (SW w f g).cell? ⟨w.heap.size, i, none⟩ = some (.bool (f i)) := by
 rw [cell_of_row _ _ i _ _ _ (SW_heap0 w f g), LA_get 25 f i h]
theorem SW_to (w : World) (f g : Nat → Bool) (i : Nat) (h : i < 25) : (SW w f g).cell? ⟨w.heap.size + 1 + 1, i, none⟩ = some (.bool (g i)) := by
 rw [cell_of_row _ _ i _ _ _ (SW_heap2 w f g), LA_get 25 g i h]
theorem SW_frozen (w : World) (f g : Nat → Bool) (i : Nat) : (SW w f g).frozen? ⟨w.heap.size + 1 + 1, i, none⟩ = false := frozen_of_row _ _ i _ _ (SW_heap2 w f g)
theorem SW_set (w : World) (f g : Nat → Bool) (i : Nat) (b : Bool) : (SW w f g).setCell ⟨w.heap.size + 1 + 1, i, none⟩ (.bool b) = SW w f (upd g i b) := by
 rw [setCell_eq_setRow _ _ i _ _ _ _ (SW_heap2 w f g), LA_set]
 have h := World.setRow_alloc_new ((w.alloc (.cells (LA 25 f) 217)).alloc (.cells (LA 25 fun _ => false) 217)) (LA 25 g) (LA 25 (upd g i b)) 217
 have e : ((w.alloc (.cells (LA 25 f) 217)).alloc (.cells (LA 25 fun _ => false) 217)).heap.size = w.heap.size + 1 + 1 := by simp
 rw [e] at h
 exact h
attribute [local go_sem] SW_old SW_at SW_to SW_frozen SW_set

set_option maxRecDepth 10000 in
set_option maxHeartbeats 400000 in
theorem step_any (ps : List Part) (b cap c : Nat) (f : Nat → Bool) (w : World) (hn : ps.length ≤ 24) (hc256 : c < 256) (hp : PartsIn w b ps) :
  Calls Tryz.prog 128 #[.slice (some ⟨b, 0, none⟩) ps.length cap, .agg (LA 25 f), .int .u8 c] w fun e w' => e = .returned (.agg (LA 25 (stepTo ps f c ps.length))) ∧ Below w.heap.size w w' := by
 obtain ⟨hb, hm, hl⟩ := hp
 have Hm := hide hm
 have Hl := hide hl
 clear hm hl
 have zl := zv_places
 go_enter Tryz.func128, Tryz.ntmps128
 go_wp2_with fail
 go_loopw [11] (fun i w' => ∃ k : Nat, k ≤ ps.length ∧ i = .int .i64 k ∧ w' = SW w f (stepTo ps f c k)) (fun i _ => ps.length - (intOf i).toNat)
 case atStart => exact ⟨0, by omega, rfl, rfl⟩
 case round =>
  obtain ⟨k, hk, rfl, rfl⟩ := hrel
  by_cases hlt : k < ps.length
  ·
   have hc := Hm.out k hlt
   have hlk := Hl.out k c hlt hc256
   have h25 : k < 25 := by omega
   have ht0 := SW_to w f (stepTo ps f c k) k h25
   have ht1 := SW_to w f (stepTo ps f c k) (k + 1) (by omega)
   cases h1 : f k
   ·
    have HS := hide (stepTo_no (ps := ps) (f := f) (b := c) (k := k) (by rw [h1]; rfl))
    go_wp2_with fail
    go_roundw
    case rel => exact ⟨k + 1, by omega, by go_num, by rw [HS.out]⟩
    case measure => simp [intOf]; omega
   ·
    cases h2 : likeAt ps k c
    ·
     have HS := hide (stepTo_no (ps := ps) (f := f) (b := c) (k := k) (by rw [h1, h2]; rfl))
     rw [h2] at hlk
     go_wp2_with fail
     go_roundw
     case rel => exact ⟨k + 1, by omega, by go_num, by rw [HS.out]⟩
     case measure => simp [intOf]; omega
    ·
     rw [h2] at hlk
     cases h3 : manyAt ps k
     ·
      have HS := hide (stepTo_one h1 h2 h3)
      rw [h3] at hc
      go_wp2_with fail
      go_roundw
      case rel => exact ⟨k + 1, by omega, by go_num, by rw [HS.out]⟩
      case measure => simp [intOf]; omega
     ·
      have HS := hide (stepTo_many h1 h2 h3)
      rw [h3] at hc
      go_wp2_with fail
      go_roundw
      case rel => exact ⟨k + 1, by omega, by go_num, by rw [HS.out]⟩
      case measure => simp [intOf]; omega
  ·
   have e : k = ps.length := by omega
   have He := hide e
   clear e
   go_wp2_with (first
    | (refine wpList_load_LA 217 25 25 4 rfl _ rfl (w.heap.size + 1 + 1) ?_ Tryz.underlying217 size_places (stepTo ps f c k) 217 ?_ ?_; (· rfl); (· with_reducible exact SW_heap2 _ _ _))
    | (refine wpList_store_LA 217 25 rfl _ _ rfl (w.heap.size + 1) ?_ (stepTo ps f c k) ?_ size_places (fun _ => false) 217 ?_ ?_; (· rfl); (· rfl); (· with_reducible exact SW_heap1 _ _ _))
    | (refine bodyPost_ret (results_LA 25 25 4 rfl _ _ (w.heap.size + 1) _ 217 rfl (heap_setRow_same _ (SW_heap1 _ _ _)) Tryz.underlying217 size_places) rfl ⟨?_, ?_⟩; (· rw [He.out]); (· exact below_setRow (SW_below _ _ _) (by omega) _)))
end Go.Proofs.YtklibmijiecbfaaGreat.Gl

/- The walks of glob.Match and glob.Check. -/
namespace Go.Proofs.YtklibmijiecbfaaGreat.Gl
open Go.RowKit
attribute [local go_sem] LA_set LA_get LA_size LA_at

theorem built_places : Tryz.prog.built 217 [(0, .bool true)] = some (LA 25 fun i => i == 0) := by rw [LA_eq]; kernel_rfl

def runTo (ps : List Part) (s : ByteArray) : Nat → Nat → Bool
 | 0 => passTo ps (fun i => i == 0) ps.length
 | k + 1 => passTo ps (stepTo ps (runTo ps s k) (byteAt s k) ps.length) ps.length
def matchR (p s : ByteArray) : Bool := match parseR p with
 | .inl _ => false
 | .inr ps => runTo ps s s.size ps.length

def MW (w : World) (b g : Nat) (ps : List Part) (f : Nat → Bool) (W : World) : Prop := Below w.heap.size w W ∧ PartsIn W b ps ∧ w.heap.size ≤ g ∧ b < g ∧ W.heap[g]? = some (.cells (LA 25 f) 217 (0, 0))

theorem wp_callOf {P : Program} {o : Oper} {a : Act} {w : World} {K : Act → World → Prop} {Q : Exit → Act → World → Prop} {R : Ending → World → Prop} (f : FuncId) (args : Array Value)
  (hrun : (execOp a.eval o).run P w = .ok (.enter f args) w) (hc : Calls P f args w R) (hk : ∀ e w', R e w' → ∃ v, e = .returned v ∧ K (a.put o.dst v) w') : o.wp P a w K Q := by
 unfold Oper.wp
 rw [hrun, Oper.upon_enter]
 refine hc.mono fun e w' hR => ?_
 obtain ⟨v, rfl, h⟩ := hk e w' hR
 exact h

theorem wpAny_only {P : Program} {md : Region.Mode} {ops : Array Oper} {Q : Exit → Act → World → Prop} {fuel : Nat} {listed : Array Bool} {a : Act} {w : World} {i : Nat} {o : Oper} (hr : Region.ready md ops listed = [i]) (ho : ops.toList[i]? = some o) (hg : o.guard = none)
  (h : ∀ K : Act → World → Prop, (∀ a w, wpAny P md ops Q fuel (listed.setIfInBounds i true) a w → K a w) → Oper.wp P o a w K Q) : wpAny P md ops Q (fuel + 1) listed a w := by
 refine wpAny_ready hr (by simp) ?_
 refine AllReady.cons (o := o) (by simpa using ho) (fun K hK => ?_) AllReady.nil
 have hw : Region.wanted o (yielded ops a.tmps) = true := by simp [Region.wanted, hg]
 rw [if_pos hw]
 exact h K hK

theorem wpAny_takeOf {P : Program} {md : Region.Mode} {ops : Array Oper} {Q : Exit → Act → World → Prop} {fuel : Nat} {listed : Array Bool} {a : Act} {w : World} (i : Nat) {o : Oper} (d : Option Tmp) (v : Value) (ho : ops.toList[i]? = some o) (hd : o.dst = d)
  (hs : Region.noSelect ops = true) (hf : Region.free md ops listed i = true) (hr : (Region.ready md ops listed).contains i = true)
  (hQ : ∀ c a w, Q (.panic c) (a.put d v) w → Q (.panic c) a w) (hy : Yields P ops o v a)
  (h : wpAny P md ops Q fuel (listed.setIfInBounds i true) (a.put d v) w) : wpAny P md ops Q (fuel + 1) listed a w := by
 subst hd
 exact wpAny_take (i := i) (oi := o) (by simpa using ho) hs hf hr hQ hy h

theorem MW.later {w W V : World} {b g : Nat} {ps : List Part} {f : Nat → Bool} (h : MW w b g ps f W) (hb : Below W.heap.size W V) : MW w b g ps f V := by
 obtain ⟨h1, h2, h3, h4, h5⟩ := h
 have hlt : g < W.heap.size := (Array.getElem?_eq_some_iff.1 h5).1
 exact ⟨h1.trans (hb.mono h1.size), h2.later hb, h3, h4, (hb.block g hlt).trans h5⟩
theorem MW.drew {w W : World} {b g : Nat} {ps : List Part} {f : Nat → Bool} (h : MW w b g ps f W) : MW w b g ps f W.drew := h.later ((Below.refl _ _).drew)
theorem MW.set {w W : World} {b g : Nat} {ps : List Part} {f f' : Nat → Bool} (h : MW w b g ps f W) : MW w b g ps f' (W.setRow g (LA 25 f')) := by
 obtain ⟨h1, ⟨p1, p2, p3⟩, h3, h4, h5⟩ := h
 have hc : ∀ i, (W.setRow g (LA 25 f')).cell? ⟨b, i, none⟩ = W.cell? ⟨b, i, none⟩ := fun i => World.cell?_of_block (setRow_other W g b _ (by omega))
 exact ⟨below_setRow h1 h3 _, ⟨by simpa using p1, fun i hi => by rw [hc]; exact p2 i hi, fun i c hi hcc => by rw [hc]; exact p3 i c hi hcc⟩, h3, h4, heap_setRow_same _ h5⟩

theorem MW_start {w W W1 : World} {b : Nat} {ps : List Part} {f : Nat → Bool} (hW : Below w.heap.size w W) (hp : PartsIn W b ps) (hW1 : Below W.heap.size W W1) :
  MW w b W1.heap.size ps f ((W1.alloc (.cells (LA 25 fun _ => false) 217)).setRow W1.heap.size (LA 25 f)) := by
 have hb : Below W.heap.size W ((W1.alloc (.cells (LA 25 fun _ => false) 217)).setRow W1.heap.size (LA 25 f)) := below_setRow (hW1.alloc hW1.size _) hW1.size _
 exact ⟨hW.trans (hb.mono hW.size), hp.later hb, Nat.le_trans hW.size hW1.size, Nat.lt_of_lt_of_le hp.1 hW1.size, heap_setRow_same _ (heap_alloc_new _ _)⟩

theorem partsR_length : ∀ (k : Nat) (p : ByteArray) (a : Nat) (ps : List Part), partsR k p a = some ps → ps.length ≤ p.size - a
 | 0, _, _, _, h => by simp [partsR] at h
 | k + 1, p, a, ps, h => by
  rw [partsR] at h
  split at h
  ·
   rename_i hlt
   split at h
   ·
    simp at h
   ·
    rename_i f m n hF
    cases hr : partsR k p (a + n) with
    | none => rw [hr] at h; simp at h
    | some r =>
     rw [hr] at h
     simp only [Option.map_some, Option.some.injEq] at h
     subst h
     have := partsR_length k p (a + n) r hr
     have hb := firstR_bound (by rw [size_extract]; omega) hF
     rw [size_extract] at hb
     simp only [List.length_cons]
     omega
  ·
   simp only [Option.some.injEq] at h
   subst h
   simp

theorem partsR_pos {p : ByteArray} {ps : List Part} (h : parseR p = .inr ps) : ps ≠ [] ∧ ps.length ≤ 24 := by
 unfold parseR at h
 split at h
 ·
  simp at h
 ·
  split at h
  ·
   simp at h
  ·
   rename_i h24 h0
   cases hq : partsR (p.size + 1) p 0 with
   | none => simp [hq] at h
   | some qs =>
    simp only [hq, Sum.inr.injEq] at h
    subst h
    refine ⟨?_, Nat.le_trans (partsR_length _ _ _ _ hq) (by omega)⟩
    rw [partsR, if_pos (by omega)] at hq
    intro e
    subst e
    split at hq
    ·
     simp at hq
    ·
     cases hr : partsR p.size p (0 + _) with
     | none => rw [hr] at hq; simp at hq
     | some r => rw [hr] at hq; simp at hq

set_option maxRecDepth 10000 in
set_option maxHeartbeats 400000 in
theorem match_any (p s : ByteArray) (hz : p.size ≤ 1000) (hs : s.size ≤ 1000) (w : World) :
  Calls Tryz.prog 113 #[.string p, .string s] w fun e w' => e = .returned (.bool (matchR p s)) ∧ Below w.heap.size w w' := by
 unfold matchR
 cases hP : parseR p with
 | inl n =>
  have HP := hide hP
  clear hP
  go_enter Tryz.func113, Tryz.ntmps113
  go_wp2_with (go_at_call 121; refine (parse_any p hz _).mono ?_; rw [HP.out]; rintro e W ⟨hW, rfl⟩)
  go_ret
  exact ⟨rfl, hW⟩
 | inr ps =>
  have hps := partsR_pos hP
  have HP := hide hP
  clear hP
  obtain ⟨hne, h24⟩ := hps
  have zl := zv_places
  go_enter Tryz.func113, Tryz.ntmps113
  go_wp2_with (first
   | (go_at_call 121; refine (parse_any p hz _).mono ?_; rw [HP.out]; rintro e W ⟨hW, sv, rfl, hown⟩; obtain ⟨b, cap, rfl, hbb, hpi⟩ := partsIn_of_owns hown hne)
   | (refine wpList_build_one rfl 217 _ _ rfl (.bool true) ?_ _ built_places ?_; (· rfl))
   | (go_at_call 127; refine (pass_any ps b cap (fun i => i == 0) _ h24 hpi).mono ?_; rintro e W1 ⟨rfl, hW1⟩)
   | (refine wpList_store_LA 217 25 rfl _ _ rfl W1.heap.size ?_ (passTo ps (fun i => i == 0) ps.length) ?_ size_places (fun _ => false) 217 ?_ ?_; (· rfl); (· rfl); (· with_reducible exact heap_alloc_new _ _)))
  refine wp_forget (MW w b W1.heap.size ps (passTo ps (fun i => i == 0) ps.length)) (MW_start hW hpi hW1) ?_
  generalize W1.heap.size = g
  rintro V0 hV0
  go_loopw [21] (fun i w' => ∃ k : Nat, k ≤ s.size ∧ i = .int .i64 k ∧ MW w b g ps (runTo ps s k) w') (fun i _ => s.size - (intOf i).toNat)
  case atStart => exact ⟨0, by omega, rfl, hV0⟩
  case round =>
   obtain ⟨k, hk, rfl, hMW⟩ := hrel
   clear hV0
   by_cases hlt : k < s.size
   ·
    have ek := byteAt_eq s k hlt
    go_wp2_with fail
    refine wp_region_any (by kernel_rfl) ?_
    change wpAny _ _ _ _ _ _ _ (World.drew _)
    refine wpAny_takeOf 0 (some 24) (.slice (some ⟨b, 0, none⟩) ps.length cap) rfl rfl (by kernel_rfl) (by kernel_rfl) (by kernel_rfl) (fun _ _ _ h => h) (Or.inl ⟨by rfl, ?_⟩) ?_
    ·
     intro wx
     go_simp
    simp only [Act.put, LT1, LT2, LT3]
    refine wpAny_takeOf 1 (some 25) (.slice (some ⟨b, 0, none⟩) ps.length cap) rfl rfl (by kernel_rfl) (by kernel_rfl) (by kernel_rfl) (fun _ _ _ h => h) (Or.inl ⟨by rfl, ?_⟩) ?_
    ·
     intro wx
     go_simp
    simp only [Act.put, LT1, LT2, LT3]
    refine wpAny_takeOf 3 (some 27) (.string s) rfl rfl (by kernel_rfl) (by kernel_rfl) (by kernel_rfl) (fun _ _ _ h => h) (Or.inl ⟨by rfl, ?_⟩) ?_
    ·
     intro wx
     go_simp
    simp only [Act.put, LT1, LT2, LT3]
    refine wpAny_takeOf 4 (some 28) (.int .i64 k) rfl rfl (by kernel_rfl) (by kernel_rfl) (by kernel_rfl) (fun _ _ _ h => h) (Or.inl ⟨by rfl, ?_⟩) ?_
    ·
     intro wx
     go_simp
    simp only [Act.put, LT1, LT2, LT3]
    refine wpAny_takeOf 5 (some 29) (.int .u8 (byteAt s k)) rfl rfl (by kernel_rfl) (by kernel_rfl) (by kernel_rfl) (fun _ _ _ h => h) (Or.inl ⟨by rfl, ?_⟩) ?_
    ·
     intro wx
     go_simp
    simp only [Act.put, LT1, LT2, LT3]
    refine wpAny_only (i := 2) (by kernel_rfl) rfl rfl (fun K hK => ?_)
    refine wp_load_row 217 (.tmp 7) rfl g rfl 217 (LA 25 (runTo ps s k)) (0, 0) _ hMW.drew.2.2.2.2 Tryz.underlying217 rfl (by rw [LA_size]; exact size_places) ?_
    refine hK _ _ ?_
    clear hK K
    simp only [Act.put, LT1, LT2, LT3]
    refine wpAny_only (i := 6) (by kernel_rfl) rfl rfl (fun K hK => ?_)
    refine wp_callOf 128 #[(.slice (some ⟨b, 0, none⟩) ps.length cap), .agg (LA 25 (runTo ps s k)), .int .u8 (byteAt s k)] (by kernel_rfl) (step_any ps b cap (byteAt s k) (runTo ps s k) _ h24 (byteAt_lt s k) hMW.drew.2.1) ?_
    rintro e W2 ⟨rfl, hW2⟩
    refine ⟨_, rfl, hK _ _ ?_⟩
    clear hK K
    simp only [Act.put, LT1, LT2, LT3]
    refine wpAny_only (i := 7) (by kernel_rfl) rfl rfl (fun K hK => ?_)
    refine wp_callOf 127 #[(.slice (some ⟨b, 0, none⟩) ps.length cap), .agg (LA 25 (stepTo ps (runTo ps s k) (byteAt s k) ps.length))] (by kernel_rfl) (pass_any ps b cap _ _ h24 (hMW.drew.later hW2).2.1) ?_
    rintro e W3 ⟨rfl, hW3⟩
    refine ⟨_, rfl, hK _ _ ?_⟩
    clear hK K
    simp only [Act.put, LT1, LT2, LT3]
    refine wpAny_only (i := 8) (by kernel_rfl) rfl rfl (fun K hK => ?_)
    refine wp_store_row 217 (.tmp 7) (.tmp 31) rfl g (LA 25 (runTo ps s (k + 1))) rfl rfl 217 (LA 25 (runTo ps s k)) ((hMW.drew.later hW2).later hW3).2.2.2.2 (by rw [LA_size]; exact size_places) (by rw [LA_size, LA_size]) (LA_one _ _) ?_
    refine hK _ _ ?_
    clear hK K
    simp only [Act.put]
    refine wpAny_done (by kernel_rfl) ?_ _
    have hM2 := MW.set (f' := runTo ps s (k + 1)) ((hMW.drew.later hW2).later hW3)
    have HM2 := hide hM2
    clear hM2 hMW hW2 hW3
    go_wp2
    go_roundw
    case rel => exact ⟨k + 1, by omega, by go_num, HM2.out⟩
    case measure => simp [intOf]; omega
   ·
    have e : k = s.size := by omega
    subst e
    have hc := cell_of_row wr g ps.length _ _ _ hMW.2.2.2.2
    rw [LA_get 25 _ _ (by omega)] at hc
    have HM := hide hMW.1
    clear hMW
    go_wp2
    go_ret
    exact ⟨rfl, HM.out⟩

theorem check_any (p : ByteArray) (hz : p.size ≤ 1000) (w : World) :
  Calls Tryz.prog 104 #[.string p] w fun e w' => e = .returned (match parseR p with | .inl n => .iface 82 (.int .i64 n) | .inr _ => .nilIface) ∧ Below w.heap.size w w' := by
 cases hP : parseR p with
 | inl n =>
  have HP := hide hP
  clear hP
  go_enter Tryz.func104, Tryz.ntmps104
  go_wp2_with (go_at_call 121; refine (parse_any p hz _).mono ?_; rw [HP.out]; rintro e W ⟨hW, rfl⟩)
  go_ret
  exact ⟨rfl, hW⟩
 | inr ps =>
  have HP := hide hP
  clear hP
  go_enter Tryz.func104, Tryz.ntmps104
  go_wp2_with (go_at_call 121; refine (parse_any p hz _).mono ?_; rw [HP.out]; rintro e W ⟨hW, sv, rfl, hown⟩)
  go_ret
  exact ⟨rfl, hW⟩
end Go.Proofs.YtklibmijiecbfaaGreat.Gl

/- policy.Check: actions, conds. -/
namespace Go.Proofs.YtklibmijiecbfaaGreat
open Go.RowKit

theorem ret_err {v : Value} {f : Nat} (k : Nat) (hv : v = errV k) (h : f = k) : Ending.returned v = .returned (errV f) := by rw [hv, h]

theorem kindOf_any (op : Int) (w : World) : Calls Tryz.prog 102 #[.int .i64 op] w fun e w' => e = .returned (.int .i64 (kindOp op : Nat)) ∧ w' = w := by
 go_enter Tryz.func102, Tryz.ntmps102
 go_wp2
 all_goals
  go_ret
  refine ⟨ret_int ?_, rfl⟩
  simp_all [kindOp]

theorem checkAction_any (a : ACT) (w : World) : Calls Tryz.prog 42 #[actV a] w fun e w' => e = .returned (errV (actF a)) ∧ Below w.heap.size w w' := by
 obtain ⟨k, e⟩ := a
 unfold actV
 simp only
 go_enter Tryz.func42, Tryz.ntmps42
 go_wp2
 all_goals
  go_ret
  refine ⟨?_, box_below _ _⟩
 all_goals first
  | (refine ret_err 0 rfl ?_; simp_all [actF]; done)
  | (refine ret_err 1 rfl ?_; simp_all [actF]; done)
  | (refine ret_err 3 rfl ?_; simp_all [actF]; done)
  | (refine ret_err 0 rfl ?_; simp [actF, *]; omega)
  | (refine ret_err 1 rfl ?_; simp [actF, *]; omega)
  | (refine ret_err 3 rfl ?_; simp [actF, *]; omega)
end Go.Proofs.YtklibmijiecbfaaGreat
