/- Policies as values and cells. -/
import Derived.Test.YtklibmijiecbfaaGreatK3
import Derived.Test.YtklibmijiecbfaaGreatK2
import Derived.Deep.RegionLaw
import Derived.Lib.QuietBelow
namespace Go.Proofs.YtklibmijiecbfaaGreat
open Go.RowKit

theorem box_below (w : World) (o : Obj) : Below w.heap.size w (w.alloc o) := (Below.refl _ _).alloc (Nat.le_refl _) _
theorem below_next {w w1 w2 : World} (a : Below w.heap.size w w1) (b : Below w1.heap.size w1 w2) : Below w.heap.size w w2 := a.trans (b.mono a.size)
theorem errV_zero : errV 0 = .nilIface := rfl
theorem errV_pos {f : Nat} (h : f ≠ 0) : errV f = .iface 82 (.int .i64 f) := if_neg h

def actV (a : ACT) : Value := .agg #[.int .i64 a.kind, .int .i64 a.errno]
def condV (c : CD) : Value := .agg #[.int .i64 c.arg, .int .i64 c.op, .int .u64 c.v, .int .u64 c.m, .string c.glob, .int .u32 c.net.ip, .int .i64 c.net.bits, .int .i64 c.net.lo, .int .i64 c.net.hi]
def ruleV (r : RL) (oa : Option Addr) (cap : Nat) : Value := .agg #[.int .i64 r.nr, .slice oa r.conds.length cap, .int .i64 r.act.kind, .int .i64 r.act.errno]
def polV (p : POL) (oa : Option Addr) (cap : Nat) : Value := .agg #[.slice oa p.rules.length cap, .int .i64 p.els.kind, .int .i64 p.els.errno]

/-- A cond's cells lie from o on. -/
structure CondAt (W : World) (b o : Nat) (c : CD) : Prop where
  k0 : W.cell? ⟨b, o, none⟩ = some (.int .i64 c.arg)
  k1 : W.cell? ⟨b, o + 1, none⟩ = some (.int .i64 c.op)
  k2 : W.cell? ⟨b, o + 2, none⟩ = some (.int .u64 c.v)
  k3 : W.cell? ⟨b, o + 3, none⟩ = some (.int .u64 c.m)
  k4 : W.cell? ⟨b, o + 4, none⟩ = some (.string c.glob)
  k5 : W.cell? ⟨b, o + 5, none⟩ = some (.int .u32 c.net.ip)
  k6 : W.cell? ⟨b, o + 6, none⟩ = some (.int .i64 c.net.bits)
  k7 : W.cell? ⟨b, o + 7, none⟩ = some (.int .i64 c.net.lo)
  k8 : W.cell? ⟨b, o + 8, none⟩ = some (.int .i64 c.net.hi)
  ok : CdOk c
theorem CondAt.on {W V : World} {b o : Nat} {x : CD} (h : CondAt W b o x) (hc : ∀ j, V.cell? ⟨b, j, none⟩ = W.cell? ⟨b, j, none⟩) : CondAt V b o x :=
  ⟨(hc _).trans h.k0, (hc _).trans h.k1, (hc _).trans h.k2, (hc _).trans h.k3, (hc _).trans h.k4, (hc _).trans h.k5, (hc _).trans h.k6, (hc _).trans h.k7, (hc _).trans h.k8, h.ok⟩
/-- A slice of conds in a world. -/
structure IsConds (oa : Option Addr) (cs : List CD) (W : World) : Prop where
  lie : 0 < cs.length → ∃ b off, oa = some ⟨b, off, none⟩ ∧ b < W.heap.size ∧ ∀ i c, cs[i]? = some c → CondAt W b (off + i * 9) c
theorem IsConds.on {oa : Option Addr} {cs : List CD} {W V : World} (h : IsConds oa cs W) (hb : Below W.heap.size W V) : IsConds oa cs V :=
  ⟨fun h0 => by
    obtain ⟨b, off, h1, h2, h3⟩ := h.lie h0
    exact ⟨b, off, h1, Nat.lt_of_lt_of_le h2 hb.size, fun i c hi => (h3 i c hi).on fun j => (bcell hb).1 b j h2⟩⟩
theorem IsConds.nil (oa : Option Addr) (W : World) : IsConds oa [] W := ⟨fun h => absurd h (Nat.lt_irrefl 0)⟩
/-- A rule's cells lie from o on. -/
structure RuleAt (W : World) (b o : Nat) (r : RL) (oa : Option Addr) (cap : Nat) : Prop where
  k0 : W.cell? ⟨b, o, none⟩ = some (.int .i64 r.nr)
  k1 : W.cell? ⟨b, o + 1, none⟩ = some (.slice oa r.conds.length cap)
  k2 : W.cell? ⟨b, o + 2, none⟩ = some (.int .i64 r.act.kind)
  k3 : W.cell? ⟨b, o + 3, none⟩ = some (.int .i64 r.act.errno)
  conds : IsConds oa r.conds W
  le : r.conds.length ≤ cap
  cap : cap ≤ maxLen
  ok : RlOk r
theorem RuleAt.on {W V : World} {b o : Nat} {r : RL} {oa : Option Addr} {cap : Nat} (h : RuleAt W b o r oa cap) (hw : b < W.heap.size) (hb : Below W.heap.size W V) : RuleAt V b o r oa cap :=
  have hc := fun j => (bcell hb).1 b j hw
  ⟨(hc _).trans h.k0, (hc _).trans h.k1, (hc _).trans h.k2, (hc _).trans h.k3, h.conds.on hb, h.le, h.cap, h.ok⟩
/-- A slice of rules in a world. -/
structure IsRules (oa : Option Addr) (rs : List RL) (W : World) : Prop where
  lie : 0 < rs.length → ∃ b off, oa = some ⟨b, off, none⟩ ∧ b < W.heap.size ∧ ∀ i r, rs[i]? = some r → ∃ ca ccap, RuleAt W b (off + i * 4) r ca ccap
theorem IsRules.on {oa : Option Addr} {rs : List RL} {W V : World} (h : IsRules oa rs W) (hb : Below W.heap.size W V) : IsRules oa rs V :=
  ⟨fun h0 => by
    obtain ⟨b, off, h1, h2, h3⟩ := h.lie h0
    refine ⟨b, off, h1, Nat.lt_of_lt_of_le h2 hb.size, fun i r hi => ?_⟩
    obtain ⟨ca, cc, h4⟩ := h3 i r hi
    exact ⟨ca, cc, h4.on h2 hb⟩⟩
theorem IsRules.nil (oa : Option Addr) (W : World) : IsRules oa [] W := ⟨fun h => absurd h (Nat.lt_irrefl 0)⟩
/-- A policy in a world, by its slice of rules. -/
structure IsPol (oa : Option Addr) (cap : Nat) (p : POL) (W : World) : Prop where
  rules : IsRules oa p.rules W
  le : p.rules.length ≤ cap
  cap : cap ≤ maxLen
  ok : PlOk p
theorem IsPol.on {oa : Option Addr} {cap : Nat} {p : POL} {W V : World} (h : IsPol oa cap p W) (hb : Below W.heap.size W V) : IsPol oa cap p V := ⟨h.rules.on hb, h.le, h.cap, h.ok⟩
end Go.Proofs.YtklibmijiecbfaaGreat

/- strconv.FormatUint at base 10, by the contracts that FormatInt's stands on. -/
namespace Go.Proofs.YtklibmijiecbfaaGreat
open Go.RowKit Go.Sort

end Go.Proofs.YtklibmijiecbfaaGreat

/- The walks of glob.pass and glob.step. -/
namespace Go.Proofs.YtklibmijiecbfaaGreat.Gl
open Go.RowKit
attribute [local go_sem] LA_set LA_get LA_size LA_at

def likeAt (ps : List Part) (i : Nat) : Nat → Bool := (ps.getD i (fun _ => false, false)).1
def manyAt (ps : List Part) (i : Nat) : Bool := (ps.getD i (fun _ => false, false)).2

/-- The parts lie in a block, one behind the other. -/
def PartsIn (w : World) (b : Nat) (ps : List Part) : Prop := b < w.heap.size ∧ (∀ i, i < ps.length → w.cell? ⟨b, i * 257 + 256, none⟩ = some (.bool (manyAt ps i))) ∧ ∀ i c, i < ps.length → c < 256 → w.cell? ⟨b, i * 257 + c, none⟩ = some (.bool (likeAt ps i c))

theorem PartsIn.later {w w' : World} {b : Nat} {ps : List Part} (h : PartsIn w b ps) (hb : Below w.heap.size w w') : PartsIn w' b ps :=
  ⟨Nat.lt_of_lt_of_le h.1 hb.size, fun i hi => by rw [hb.cell (p := ⟨b, _, none⟩) h.1]; exact h.2.1 i hi, fun i c hi hc => by rw [hb.cell (p := ⟨b, _, none⟩) h.1]; exact h.2.2 i c hi hc⟩

theorem flat_get : ∀ (ps : List Part) (i j : Nat), i < ps.length → j < 257 → (flat ps)[i * 257 + j]? = some (.bool (PF (likeAt ps i) (manyAt ps i) j))
  | [], i, j, h, _ => by simp at h
  | p :: ps, 0, j, _, hj => by
    have e : flat (p :: ps) = (LA 257 (PF p.1 p.2)).toList ++ flat ps := by simp [flat]
    rw [e, Nat.zero_mul, Nat.zero_add, List.getElem?_append_left (by simp [LA_size]; exact hj)]
    simpa [likeAt, manyAt] using LA_get 257 (PF p.1 p.2) j hj
  | p :: ps, i + 1, j, h, hj => by
    have e : flat (p :: ps) = (LA 257 (PF p.1 p.2)).toList ++ flat ps := by simp [flat]
    rw [e, List.getElem?_append_right (by simp [LA_size]; omega)]
    have e2 : (i + 1) * 257 + j - (LA 257 (PF p.1 p.2)).toList.length = i * 257 + j := by simp [LA_size]; omega
    rw [e2, flat_get ps i j (by simpa using h) hj]
    rfl

theorem partsIn_of_owns {w : World} {base : Nat} {sv : Value} {ps : List Part} (h : w.ownsRow base 224 257 sv ps.length (flat ps)) (hne : ps ≠ []) : ∃ b cap, sv = .slice (some ⟨b, 0, none⟩) ps.length cap ∧ base ≤ b ∧ PartsIn w b ps := by
  have hn : ps.length ≠ 0 := by simpa using hne
  rcases h.2 with ⟨_, h0⟩ | ⟨g, cap, cur, rfl, hb, hg, _⟩
  · exact absurd h0 hn
  · have hc : ∀ j u, (flat ps)[j]? = some u → w.cell? ⟨g, j, none⟩ = some u := fun j u hu => by
      have := h.cells (g := g) rfl j u hu
      have hadd : (⟨g, 0, none⟩ : Addr).add j = ⟨g, j, none⟩ := by unfold Addr.add; split <;> simp_all
      rwa [hadd] at this
    refine ⟨g, cap, rfl, hb, (Array.getElem?_eq_some_iff.1 hg).1, fun i hi => ?_, fun i c hi hc' => ?_⟩
    · have := hc _ _ (flat_get ps i 256 hi (by omega))
      simpa [PF] using this
    · have := hc _ _ (flat_get ps i c hi (by omega))
      rw [this, PF, if_neg (by omega)]

/-- The places that k parts with no bytes add. -/
def passTo (ps : List Part) (f : Nat → Bool) : Nat → Nat → Bool
  | 0 => f
  | k + 1 => if (passTo ps f k k && manyAt ps k) = true then upd (passTo ps f k) (k + 1) true else passTo ps f k
theorem passTo_yes {ps : List Part} {f : Nat → Bool} {k : Nat} (h1 : passTo ps f k k = true) (h2 : manyAt ps k = true) : passTo ps f (k + 1) = upd (passTo ps f k) (k + 1) true := by rw [passTo, if_pos (by rw [h1, h2]; rfl)]
theorem passTo_no {ps : List Part} {f : Nat → Bool} {k : Nat} (h : (passTo ps f k k && manyAt ps k) = false) : passTo ps f (k + 1) = passTo ps f k := by rw [passTo, if_neg (by rw [h]; simp)]

set_option maxRecDepth 10000 in
set_option maxHeartbeats 400000 in
theorem pass_any (ps : List Part) (b cap : Nat) (f : Nat → Bool) (w : World) (hn : ps.length ≤ 24) (hp : PartsIn w b ps) :
    Calls Tryz.prog 127 #[.slice (some ⟨b, 0, none⟩) ps.length cap, .agg (LA 25 f)] w fun e w' => e = .returned (.agg (LA 25 (passTo ps f ps.length))) ∧ Below w.heap.size w w' := by
  obtain ⟨hb, hm, _⟩ := hp
  have Hm := hide hm
  clear hm
  have zl := zv_places
  go_enter Tryz.func127, Tryz.ntmps127
  go_wp2_with fail
  go_loopw [8] (fun i w' => ∃ k : Nat, k ≤ ps.length ∧ i = .int .i64 k ∧ w' = (w.alloc (.cells (LA 25 (passTo ps f k)) 217)).alloc (.cells (LA 25 fun _ => false) 217)) (fun i _ => ps.length - (intOf i).toNat)
  case atStart => exact ⟨0, by omega, rfl, rfl⟩
  case round =>
    obtain ⟨k, hk, rfl, rfl⟩ := hrel
    by_cases hlt : k < ps.length
    · have hc := Hm.out k hlt
      have h25 : k < 25 := by omega
      have hg1 := LA_get 25 (passTo ps f k) (k + 1) (by omega)
      cases h1 : passTo ps f k k
      · have HS := hide (passTo_no (ps := ps) (f := f) (k := k) (by rw [h1]; rfl))
        go_wp2_with fail
        go_roundw
        case rel => exact ⟨k + 1, by omega, by go_num, by rw [HS.out]⟩
        case measure => simp [intOf]; omega
      · cases h2 : manyAt ps k
        · have HS := hide (passTo_no (ps := ps) (f := f) (k := k) (by rw [h1, h2]; rfl))
          rw [h2] at hc
          go_wp2_with fail
          go_roundw
          case rel => exact ⟨k + 1, by omega, by go_num, by rw [HS.out]⟩
          case measure => simp [intOf]; omega
        · have HS := hide (passTo_yes h1 h2)
          rw [h2] at hc
          go_wp2_with fail
          go_roundw
          case rel => exact ⟨k + 1, by omega, by go_num, by rw [HS.out]⟩
          case measure => simp [intOf]; omega
    · have e : k = ps.length := by omega
      have He := hide e
      clear e
      go_wp2_with (first
        | (refine wpList_load_LA 217 25 25 4 rfl _ rfl w.heap.size ?_ Tryz.underlying217 size_places (passTo ps f k) 217 ?_ ?_; (· rfl); (· with_reducible exact heap_alloc2_old _ _ _))
        | (refine wpList_store_LA 217 25 rfl _ _ rfl (w.heap.size + 1) ?_ (passTo ps f k) ?_ size_places (fun _ => false) 217 ?_ ?_; (· rfl); (· rfl); (· with_reducible exact heap_alloc2_new _ _ _))
        | (refine bodyPost_ret (results_LA 25 25 4 rfl _ _ (w.heap.size + 1) _ 217 rfl (heap_setRow_same _ (heap_alloc2_new _ _ _)) Tryz.underlying217 size_places) rfl ⟨?_, ?_⟩; (· rw [He.out]); (· exact below_setRow (((Below.refl _ _).alloc (Nat.le_refl _) _).alloc (by simp) _) (by omega) _)))

/-- The places behind one more byte, so far as the loop has come. -/
def stepTo (ps : List Part) (f : Nat → Bool) (b : Nat) : Nat → Nat → Bool
  | 0 => fun _ => false
  | k + 1 => if (f k && likeAt ps k b) = true then (if manyAt ps k = true then upd (stepTo ps f b k) k true else upd (stepTo ps f b k) (k + 1) true) else stepTo ps f b k
theorem stepTo_no {ps : List Part} {f : Nat → Bool} {b k : Nat} (h : (f k && likeAt ps k b) = false) : stepTo ps f b (k + 1) = stepTo ps f b k := by rw [stepTo, if_neg (by rw [h]; simp)]
theorem stepTo_many {ps : List Part} {f : Nat → Bool} {b k : Nat} (h1 : f k = true) (h2 : likeAt ps k b = true) (h3 : manyAt ps k = true) : stepTo ps f b (k + 1) = upd (stepTo ps f b k) k true := by rw [stepTo, if_pos (by rw [h1, h2]; rfl), if_pos h3]
theorem stepTo_one {ps : List Part} {f : Nat → Bool} {b k : Nat} (h1 : f k = true) (h2 : likeAt ps k b = true) (h3 : manyAt ps k = false) : stepTo ps f b (k + 1) = upd (stepTo ps f b k) (k + 1) true := by rw [stepTo, if_pos (by rw [h1, h2]; rfl), if_neg (by rw [h3]; simp)]

/-- The world of step: the places, the result's block, the places that come. -/
def SW (w : World) (f g : Nat → Bool) : World := ((w.alloc (.cells (LA 25 f) 217)).alloc (.cells (LA 25 fun _ => false) 217)).alloc (.cells (LA 25 g) 217)
theorem SW_heap1 (w : World) (f g : Nat → Bool) : (SW w f g).heap[w.heap.size + 1]? = some (.cells (LA 25 fun _ => false) 217 (0, 0)) := by
  unfold SW
  have h := (Below.heap_alloc ((w.alloc (.cells (LA 25 f) 217)).alloc (.cells (LA 25 fun _ => false) 217)) (.cells (LA 25 g) 217) (w.heap.size + 1) (by simp))
  exact h.trans (heap_alloc2_new _ _ _)
theorem SW_heap2 (w : World) (f g : Nat → Bool) : (SW w f g).heap[w.heap.size + 1 + 1]? = some (.cells (LA 25 g) 217 (0, 0)) := by
  unfold SW
  have := heap_alloc_new ((w.alloc (.cells (LA 25 f) 217)).alloc (.cells (LA 25 fun _ => false) 217)) (.cells (LA 25 g) 217)
  simpa using this
theorem SW_below (w : World) (f g : Nat → Bool) : Below w.heap.size w (SW w f g) := (((Below.refl _ _).alloc (Nat.le_refl _) _).alloc (by simp) _).alloc (by simp; omega) _

theorem SW_heap0 (w : World) (f g : Nat → Bool) : (SW w f g).heap[w.heap.size]? = some (.cells (LA 25 f) 217 (0, 0)) := by
  unfold SW
  have h := (Below.heap_alloc ((w.alloc (.cells (LA 25 f) 217)).alloc (.cells (LA 25 fun _ => false) 217)) (.cells (LA 25 g) 217) w.heap.size (by simp; omega))
  exact h.trans (heap_alloc2_old _ _ _)
theorem SW_old (w : World) (f g : Nat → Bool) (b i : Nat) (h : b < w.heap.size) : (SW w f g).cell? ⟨b, i, none⟩ = w.cell? ⟨b, i, none⟩ := (SW_below w f g).cell (p := ⟨b, i, none⟩) h
theorem SW_at (w : World) (f g : Nat → Bool) (i : Nat) (h : i < 25) : (SW w f g).cell? ⟨w.heap.size, i, none⟩ = some (.bool (f i)) := by
  rw [cell_of_row _ _ i _ _ _ (SW_heap0 w f g), LA_get 25 f i h]
theorem SW_to (w : World) (f g : Nat → Bool) (i : Nat) (h : i < 25) : (SW w f g).cell? ⟨w.heap.size + 1 + 1, i, none⟩ = some (.bool (g i)) := by
  rw [cell_of_row _ _ i _ _ _ (SW_heap2 w f g), LA_get 25 g i h]
theorem SW_frozen (w : World) (f g : Nat → Bool) (i : Nat) : (SW w f g).frozen? ⟨w.heap.size + 1 + 1, i, none⟩ = false := frozen_of_row _ _ i _ _ (SW_heap2 w f g)
theorem SW_set (w : World) (f g : Nat → Bool) (i : Nat) (b : Bool) : (SW w f g).setCell ⟨w.heap.size + 1 + 1, i, none⟩ (.bool b) = SW w f (upd g i b) := by
  rw [setCell_eq_setRow _ _ i _ _ _ _ (SW_heap2 w f g), LA_set]
  have h := World.setRow_alloc_new ((w.alloc (.cells (LA 25 f) 217)).alloc (.cells (LA 25 fun _ => false) 217)) (LA 25 g) (LA 25 (upd g i b)) 217
  have e : ((w.alloc (.cells (LA 25 f) 217)).alloc (.cells (LA 25 fun _ => false) 217)).heap.size = w.heap.size + 1 + 1 := by simp
  rw [e] at h
  exact h
attribute [local go_sem] SW_old SW_at SW_to SW_frozen SW_set

set_option maxRecDepth 10000 in
set_option maxHeartbeats 400000 in
theorem step_any (ps : List Part) (b cap c : Nat) (f : Nat → Bool) (w : World) (hn : ps.length ≤ 24) (hc256 : c < 256) (hp : PartsIn w b ps) :
    Calls Tryz.prog 128 #[.slice (some ⟨b, 0, none⟩) ps.length cap, .agg (LA 25 f), .int .u8 c] w fun e w' => e = .returned (.agg (LA 25 (stepTo ps f c ps.length))) ∧ Below w.heap.size w w' := by
  obtain ⟨hb, hm, hl⟩ := hp
  have Hm := hide hm
  have Hl := hide hl
  clear hm hl
  have zl := zv_places
  go_enter Tryz.func128, Tryz.ntmps128
  go_wp2_with fail
  go_loopw [11] (fun i w' => ∃ k : Nat, k ≤ ps.length ∧ i = .int .i64 k ∧ w' = SW w f (stepTo ps f c k)) (fun i _ => ps.length - (intOf i).toNat)
  case atStart => exact ⟨0, by omega, rfl, rfl⟩
  case round =>
    obtain ⟨k, hk, rfl, rfl⟩ := hrel
    by_cases hlt : k < ps.length
    · have hc := Hm.out k hlt
      have hlk := Hl.out k c hlt hc256
      have h25 : k < 25 := by omega
      have ht0 := SW_to w f (stepTo ps f c k) k h25
      have ht1 := SW_to w f (stepTo ps f c k) (k + 1) (by omega)
      cases h1 : f k
      · have HS := hide (stepTo_no (ps := ps) (f := f) (b := c) (k := k) (by rw [h1]; rfl))
        go_wp2_with fail
        go_roundw
        case rel => exact ⟨k + 1, by omega, by go_num, by rw [HS.out]⟩
        case measure => simp [intOf]; omega
      · cases h2 : likeAt ps k c
        · have HS := hide (stepTo_no (ps := ps) (f := f) (b := c) (k := k) (by rw [h1, h2]; rfl))
          rw [h2] at hlk
          go_wp2_with fail
          go_roundw
          case rel => exact ⟨k + 1, by omega, by go_num, by rw [HS.out]⟩
          case measure => simp [intOf]; omega
        · rw [h2] at hlk
          cases h3 : manyAt ps k
          · have HS := hide (stepTo_one h1 h2 h3)
            rw [h3] at hc
            go_wp2_with fail
            go_roundw
            case rel => exact ⟨k + 1, by omega, by go_num, by rw [HS.out]⟩
            case measure => simp [intOf]; omega
          · have HS := hide (stepTo_many h1 h2 h3)
            rw [h3] at hc
            go_wp2_with fail
            go_roundw
            case rel => exact ⟨k + 1, by omega, by go_num, by rw [HS.out]⟩
            case measure => simp [intOf]; omega
    · have e : k = ps.length := by omega
      have He := hide e
      clear e
      go_wp2_with (first
        | (refine wpList_load_LA 217 25 25 4 rfl _ rfl (w.heap.size + 1 + 1) ?_ Tryz.underlying217 size_places (stepTo ps f c k) 217 ?_ ?_; (· rfl); (· with_reducible exact SW_heap2 _ _ _))
        | (refine wpList_store_LA 217 25 rfl _ _ rfl (w.heap.size + 1) ?_ (stepTo ps f c k) ?_ size_places (fun _ => false) 217 ?_ ?_; (· rfl); (· rfl); (· with_reducible exact SW_heap1 _ _ _))
        | (refine bodyPost_ret (results_LA 25 25 4 rfl _ _ (w.heap.size + 1) _ 217 rfl (heap_setRow_same _ (SW_heap1 _ _ _)) Tryz.underlying217 size_places) rfl ⟨?_, ?_⟩; (· rw [He.out]); (· exact below_setRow (SW_below _ _ _) (by omega) _)))
end Go.Proofs.YtklibmijiecbfaaGreat.Gl

/- The walks of glob.Match and glob.Check. -/
namespace Go.Proofs.YtklibmijiecbfaaGreat.Gl
open Go.RowKit
attribute [local go_sem] LA_set LA_get LA_size LA_at

theorem built_places : Tryz.prog.built 217 [(0, .bool true)] = some (LA 25 fun i => i == 0) := by rw [LA_eq]; kernel_rfl

/-- The places that a text leads to. -/
def runTo (ps : List Part) (s : ByteArray) : Nat → Nat → Bool
  | 0 => passTo ps (fun i => i == 0) ps.length
  | k + 1 => passTo ps (stepTo ps (runTo ps s k) (byteAt s k) ps.length) ps.length
def matchR (p s : ByteArray) : Bool := match parseR p with
  | .inl _ => false
  | .inr ps => runTo ps s s.size ps.length

/-- The world of Match: the parts, the block of the places. -/
def MW (w : World) (b g : Nat) (ps : List Part) (f : Nat → Bool) (W : World) : Prop := Below w.heap.size w W ∧ PartsIn W b ps ∧ w.heap.size ≤ g ∧ b < g ∧ W.heap[g]? = some (.cells (LA 25 f) 217 (0, 0))

/-- A call of a Go function, by its contract, as one operation. -/
theorem wp_callOf {P : Program} {o : Oper} {a : Act} {w : World} {K : Act → World → Prop} {Q : Exit → Act → World → Prop} {R : Ending → World → Prop} (f : FuncId) (args : Array Value)
    (hrun : (execOp a.eval o).run P w = .ok (.enter f args) w) (hc : Calls P f args w R) (hk : ∀ e w', R e w' → ∃ v, e = .returned v ∧ K (a.put o.dst v) w') : o.wp P a w K Q := by
  unfold Oper.wp
  rw [hrun, Oper.upon_enter]
  refine hc.mono fun e w' hR => ?_
  obtain ⟨v, rfl, h⟩ := hk e w' hR
  exact h

/-- In a region that draws: one operation alone may come up next, and it bears no guard. -/
theorem wpAny_only {P : Program} {md : Region.Mode} {ops : Array Oper} {Q : Exit → Act → World → Prop} {fuel : Nat} {listed : Array Bool} {a : Act} {w : World} {i : Nat} {o : Oper} (hr : Region.ready md ops listed = [i]) (ho : ops.toList[i]? = some o) (hg : o.guard = none)
    (h : ∀ K : Act → World → Prop, (∀ a w, wpAny P md ops Q fuel (listed.setIfInBounds i true) a w → K a w) → Oper.wp P o a w K Q) : wpAny P md ops Q (fuel + 1) listed a w := by
  refine wpAny_ready hr (by simp) ?_
  refine AllReady.cons (o := o) (by simpa using ho) (fun K hK => ?_) AllReady.nil
  have hw : Region.wanted o (yielded ops a.tmps) = true := by simp [Region.wanted, hg]
  rw [if_pos hw]
  exact h K hK

/-- 'wpAny_take', the operation read off the region's list. -/
theorem wpAny_takeOf {P : Program} {md : Region.Mode} {ops : Array Oper} {Q : Exit → Act → World → Prop} {fuel : Nat} {listed : Array Bool} {a : Act} {w : World} (i : Nat) {o : Oper} (d : Option Tmp) (v : Value) (ho : ops.toList[i]? = some o) (hd : o.dst = d)
    (hs : Region.noSelect ops = true) (hf : Region.free md ops listed i = true) (hr : (Region.ready md ops listed).contains i = true)
    (hQ : ∀ c a w, Q (.panic c) (a.put d v) w → Q (.panic c) a w) (hy : Yields P ops o v a)
    (h : wpAny P md ops Q fuel (listed.setIfInBounds i true) (a.put d v) w) : wpAny P md ops Q (fuel + 1) listed a w := by
  subst hd
  exact wpAny_take (i := i) (oi := o) (by simpa using ho) hs hf hr hQ hy h

theorem MW.later {w W V : World} {b g : Nat} {ps : List Part} {f : Nat → Bool} (h : MW w b g ps f W) (hb : Below W.heap.size W V) : MW w b g ps f V := by
  obtain ⟨h1, h2, h3, h4, h5⟩ := h
  have hlt : g < W.heap.size := (Array.getElem?_eq_some_iff.1 h5).1
  exact ⟨h1.trans (hb.mono h1.size), h2.later hb, h3, h4, (hb.block g hlt).trans h5⟩
theorem MW.drew {w W : World} {b g : Nat} {ps : List Part} {f : Nat → Bool} (h : MW w b g ps f W) : MW w b g ps f W.drew := h.later ((Below.refl _ _).drew)
theorem MW.set {w W : World} {b g : Nat} {ps : List Part} {f f' : Nat → Bool} (h : MW w b g ps f W) : MW w b g ps f' (W.setRow g (LA 25 f')) := by
  obtain ⟨h1, ⟨p1, p2, p3⟩, h3, h4, h5⟩ := h
  have hc : ∀ i, (W.setRow g (LA 25 f')).cell? ⟨b, i, none⟩ = W.cell? ⟨b, i, none⟩ := fun i => World.cell?_of_block (setRow_other W g b _ (by omega))
  exact ⟨below_setRow h1 h3 _, ⟨by simpa using p1, fun i hi => by rw [hc]; exact p2 i hi, fun i c hi hcc => by rw [hc]; exact p3 i c hi hcc⟩, h3, h4, heap_setRow_same _ h5⟩

theorem MW_start {w W W1 : World} {b : Nat} {ps : List Part} {f : Nat → Bool} (hW : Below w.heap.size w W) (hp : PartsIn W b ps) (hW1 : Below W.heap.size W W1) :
    MW w b W1.heap.size ps f ((W1.alloc (.cells (LA 25 fun _ => false) 217)).setRow W1.heap.size (LA 25 f)) := by
  have hb : Below W.heap.size W ((W1.alloc (.cells (LA 25 fun _ => false) 217)).setRow W1.heap.size (LA 25 f)) := below_setRow (hW1.alloc hW1.size _) hW1.size _
  exact ⟨hW.trans (hb.mono hW.size), hp.later hb, Nat.le_trans hW.size hW1.size, Nat.lt_of_lt_of_le hp.1 hW1.size, heap_setRow_same _ (heap_alloc_new _ _)⟩

theorem partsR_length : ∀ (k : Nat) (p : ByteArray) (a : Nat) (ps : List Part), partsR k p a = some ps → ps.length ≤ p.size - a
  | 0, _, _, _, h => by simp [partsR] at h
  | k + 1, p, a, ps, h => by
    rw [partsR] at h
    split at h
    · rename_i hlt
      split at h
      · simp at h
      · rename_i f m n hF
        cases hr : partsR k p (a + n) with
        | none => rw [hr] at h; simp at h
        | some r =>
          rw [hr] at h
          simp only [Option.map_some, Option.some.injEq] at h
          subst h
          have := partsR_length k p (a + n) r hr
          have hb := firstR_bound (by rw [size_extract]; omega) hF
          rw [size_extract] at hb
          simp only [List.length_cons]
          omega
    · simp only [Option.some.injEq] at h
      subst h
      simp

theorem partsR_pos {p : ByteArray} {ps : List Part} (h : parseR p = .inr ps) : ps ≠ [] ∧ ps.length ≤ 24 := by
  unfold parseR at h
  split at h
  · simp at h
  · split at h
    · simp at h
    · rename_i h24 h0
      cases hq : partsR (p.size + 1) p 0 with
      | none => simp [hq] at h
      | some qs =>
        simp only [hq, Sum.inr.injEq] at h
        subst h
        refine ⟨?_, Nat.le_trans (partsR_length _ _ _ _ hq) (by omega)⟩
        rw [partsR, if_pos (by omega)] at hq
        intro e
        subst e
        split at hq
        · simp at hq
        · cases hr : partsR p.size p (0 + _) with
          | none => rw [hr] at hq; simp at hq
          | some r => rw [hr] at hq; simp at hq

set_option maxRecDepth 10000 in
set_option maxHeartbeats 400000 in
theorem match_any (p s : ByteArray) (hz : p.size ≤ 1000) (hs : s.size ≤ 1000) (w : World) :
    Calls Tryz.prog 113 #[.string p, .string s] w fun e w' => e = .returned (.bool (matchR p s)) ∧ Below w.heap.size w w' := by
  unfold matchR
  cases hP : parseR p with
  | inl n =>
    have HP := hide hP
    clear hP
    go_enter Tryz.func113, Tryz.ntmps113
    go_wp2_with (go_at_call 121; refine (parse_any p hz _).mono ?_; rw [HP.out]; rintro e W ⟨hW, rfl⟩)
    go_ret
    exact ⟨rfl, hW⟩
  | inr ps =>
    have hps := partsR_pos hP
    have HP := hide hP
    clear hP
    obtain ⟨hne, h24⟩ := hps
    have zl := zv_places
    go_enter Tryz.func113, Tryz.ntmps113
    go_wp2_with (first
      | (go_at_call 121; refine (parse_any p hz _).mono ?_; rw [HP.out]; rintro e W ⟨hW, sv, rfl, hown⟩; obtain ⟨b, cap, rfl, hbb, hpi⟩ := partsIn_of_owns hown hne)
      | (refine wpList_build_one rfl 217 _ _ rfl (.bool true) ?_ _ built_places ?_; (· rfl))
      | (go_at_call 127; refine (pass_any ps b cap (fun i => i == 0) _ h24 hpi).mono ?_; rintro e W1 ⟨rfl, hW1⟩)
      | (refine wpList_store_LA 217 25 rfl _ _ rfl W1.heap.size ?_ (passTo ps (fun i => i == 0) ps.length) ?_ size_places (fun _ => false) 217 ?_ ?_; (· rfl); (· rfl); (· with_reducible exact heap_alloc_new _ _)))
    refine wp_forget (MW w b W1.heap.size ps (passTo ps (fun i => i == 0) ps.length)) (MW_start hW hpi hW1) ?_
    generalize W1.heap.size = g
    rintro V0 hV0
    go_loopw [21] (fun i w' => ∃ k : Nat, k ≤ s.size ∧ i = .int .i64 k ∧ MW w b g ps (runTo ps s k) w') (fun i _ => s.size - (intOf i).toNat)
    case atStart => exact ⟨0, by omega, rfl, hV0⟩
    case round =>
      obtain ⟨k, hk, rfl, hMW⟩ := hrel
      clear hV0
      by_cases hlt : k < s.size
      · have ek := byteAt_eq s k hlt
        go_wp2_with fail
        refine wp_region_any (by kernel_rfl) ?_
        change wpAny _ _ _ _ _ _ _ (World.drew _)
        refine wpAny_takeOf 0 (some 24) (.slice (some ⟨b, 0, none⟩) ps.length cap) rfl rfl (by kernel_rfl) (by kernel_rfl) (by kernel_rfl) (fun _ _ _ h => h) (Or.inl ⟨by rfl, ?_⟩) ?_
        · intro wx
          go_simp
        simp only [Act.put, List.setIfInBounds_toArray, List.set_cons_zero, List.set_cons_succ]
        refine wpAny_takeOf 1 (some 25) (.slice (some ⟨b, 0, none⟩) ps.length cap) rfl rfl (by kernel_rfl) (by kernel_rfl) (by kernel_rfl) (fun _ _ _ h => h) (Or.inl ⟨by rfl, ?_⟩) ?_
        · intro wx
          go_simp
        simp only [Act.put, List.setIfInBounds_toArray, List.set_cons_zero, List.set_cons_succ]
        refine wpAny_takeOf 3 (some 27) (.string s) rfl rfl (by kernel_rfl) (by kernel_rfl) (by kernel_rfl) (fun _ _ _ h => h) (Or.inl ⟨by rfl, ?_⟩) ?_
        · intro wx
          go_simp
        simp only [Act.put, List.setIfInBounds_toArray, List.set_cons_zero, List.set_cons_succ]
        refine wpAny_takeOf 4 (some 28) (.int .i64 k) rfl rfl (by kernel_rfl) (by kernel_rfl) (by kernel_rfl) (fun _ _ _ h => h) (Or.inl ⟨by rfl, ?_⟩) ?_
        · intro wx
          go_simp
        simp only [Act.put, List.setIfInBounds_toArray, List.set_cons_zero, List.set_cons_succ]
        refine wpAny_takeOf 5 (some 29) (.int .u8 (byteAt s k)) rfl rfl (by kernel_rfl) (by kernel_rfl) (by kernel_rfl) (fun _ _ _ h => h) (Or.inl ⟨by rfl, ?_⟩) ?_
        · intro wx
          go_simp
        simp only [Act.put, List.setIfInBounds_toArray, List.set_cons_zero, List.set_cons_succ]
        refine wpAny_only (i := 2) (by kernel_rfl) rfl rfl (fun K hK => ?_)
        refine wp_load_row 217 (.tmp 7) rfl g rfl 217 (LA 25 (runTo ps s k)) (0, 0) _ hMW.drew.2.2.2.2 Tryz.underlying217 rfl (by rw [LA_size]; exact size_places) ?_
        refine hK _ _ ?_
        clear hK K
        simp only [Act.put, List.setIfInBounds_toArray, List.set_cons_zero, List.set_cons_succ]
        refine wpAny_only (i := 6) (by kernel_rfl) rfl rfl (fun K hK => ?_)
        refine wp_callOf 128 #[(.slice (some ⟨b, 0, none⟩) ps.length cap), .agg (LA 25 (runTo ps s k)), .int .u8 (byteAt s k)] (by kernel_rfl) (step_any ps b cap (byteAt s k) (runTo ps s k) _ h24 (byteAt_lt s k) hMW.drew.2.1) ?_
        rintro e W2 ⟨rfl, hW2⟩
        refine ⟨_, rfl, hK _ _ ?_⟩
        clear hK K
        simp only [Act.put, List.setIfInBounds_toArray, List.set_cons_zero, List.set_cons_succ]
        refine wpAny_only (i := 7) (by kernel_rfl) rfl rfl (fun K hK => ?_)
        refine wp_callOf 127 #[(.slice (some ⟨b, 0, none⟩) ps.length cap), .agg (LA 25 (stepTo ps (runTo ps s k) (byteAt s k) ps.length))] (by kernel_rfl) (pass_any ps b cap _ _ h24 (hMW.drew.later hW2).2.1) ?_
        rintro e W3 ⟨rfl, hW3⟩
        refine ⟨_, rfl, hK _ _ ?_⟩
        clear hK K
        simp only [Act.put, List.setIfInBounds_toArray, List.set_cons_zero, List.set_cons_succ]
        refine wpAny_only (i := 8) (by kernel_rfl) rfl rfl (fun K hK => ?_)
        refine wp_store_row 217 (.tmp 7) (.tmp 31) rfl g (LA 25 (runTo ps s (k + 1))) rfl rfl 217 (LA 25 (runTo ps s k)) ((hMW.drew.later hW2).later hW3).2.2.2.2 (by rw [LA_size]; exact size_places) (by rw [LA_size, LA_size]) (LA_one _ _) ?_
        refine hK _ _ ?_
        clear hK K
        simp only [Act.put]
        refine wpAny_done (by kernel_rfl) ?_ _
        have hM2 := MW.set (f' := runTo ps s (k + 1)) ((hMW.drew.later hW2).later hW3)
        have HM2 := hide hM2
        clear hM2 hMW hW2 hW3
        go_wp2
        go_roundw
        case rel => exact ⟨k + 1, by omega, by go_num, HM2.out⟩
        case measure => simp [intOf]; omega
      · have e : k = s.size := by omega
        subst e
        have hc := cell_of_row wr g ps.length _ _ _ hMW.2.2.2.2
        rw [LA_get 25 _ _ (by omega)] at hc
        have HM := hide hMW.1
        clear hMW
        go_wp2
        go_ret
        exact ⟨rfl, HM.out⟩

theorem check_any (p : ByteArray) (hz : p.size ≤ 1000) (w : World) :
    Calls Tryz.prog 104 #[.string p] w fun e w' => e = .returned (match parseR p with | .inl n => .iface 82 (.int .i64 n) | .inr _ => .nilIface) ∧ Below w.heap.size w w' := by
  cases hP : parseR p with
  | inl n =>
    have HP := hide hP
    clear hP
    go_enter Tryz.func104, Tryz.ntmps104
    go_wp2_with (go_at_call 121; refine (parse_any p hz _).mono ?_; rw [HP.out]; rintro e W ⟨hW, rfl⟩)
    go_ret
    exact ⟨rfl, hW⟩
  | inr ps =>
    have HP := hide hP
    clear hP
    go_enter Tryz.func104, Tryz.ntmps104
    go_wp2_with (go_at_call 121; refine (parse_any p hz _).mono ?_; rw [HP.out]; rintro e W ⟨hW, sv, rfl, hown⟩)
    go_ret
    exact ⟨rfl, hW⟩
end Go.Proofs.YtklibmijiecbfaaGreat.Gl

/- policy.Check: actions, conds. -/
namespace Go.Proofs.YtklibmijiecbfaaGreat
open Go.RowKit

theorem ret_err {v : Value} {f : Nat} (k : Nat) (hv : v = errV k) (h : f = k) : Ending.returned v = .returned (errV f) := by rw [hv, h]

theorem kindOf_any (op : Int) (w : World) : Calls Tryz.prog 102 #[.int .i64 op] w fun e w' => e = .returned (.int .i64 (kindOp op : Nat)) ∧ w' = w := by
  go_enter Tryz.func102, Tryz.ntmps102
  go_wp2
  all_goals
    go_ret
    refine ⟨ret_int ?_, rfl⟩
    simp_all [kindOp]

theorem checkAction_any (a : ACT) (w : World) : Calls Tryz.prog 42 #[actV a] w fun e w' => e = .returned (errV (actF a)) ∧ Below w.heap.size w w' := by
  obtain ⟨k, e⟩ := a
  unfold actV
  simp only
  go_enter Tryz.func42, Tryz.ntmps42
  go_wp2
  all_goals
    go_ret
    refine ⟨?_, box_below _ _⟩
  all_goals first
    | (refine ret_err 0 rfl ?_; simp_all [actF]; done)
    | (refine ret_err 1 rfl ?_; simp_all [actF]; done)
    | (refine ret_err 3 rfl ?_; simp_all [actF]; done)
    | (refine ret_err 0 rfl ?_; simp [actF, *]; omega)
    | (refine ret_err 1 rfl ?_; simp [actF, *]; omega)
    | (refine ret_err 3 rfl ?_; simp [actF, *]; omega)
end Go.Proofs.YtklibmijiecbfaaGreat

/- policy.Check: what a cond's op does not use. -/
namespace Go.Proofs.YtklibmijiecbfaaGreat
open Go.RowKit

set_option maxHeartbeats 4000000 in
set_option maxRecDepth 100000 in
theorem hasUnused_seven (arg vi mi ii b lo hi : Int) (g : ByteArray) (w : World) : Calls Tryz.prog 103 #[.agg #[.int .i64 arg, .int .i64 7, .int .u64 vi, .int .u64 mi, .string g, .int .u32 ii, .int .i64 b, .int .i64 lo, .int .i64 hi]] w fun e w' => (∃ z, e = .returned (.bool z) ∧ (z = true ↔ g.toList ≠ [] ∨ ¬ (ii = 0 ∧ b = 0 ∧ lo = 0 ∧ hi = 0))) ∧ Below w.heap.size w w' := by
  have HK : ∀ w, Calls Tryz.prog 102 #[.int .i64 7] w fun e w' => e = .returned (.int .i64 1) ∧ w' = w := fun w => by
    have h := kindOf_any 7 w
    rwa [show ((kindOp 7 : Nat) : Int) = 1 by simp [kindOp]] at h
  go_enter Tryz.func103, Tryz.ntmps103
  go_wp2_with (go_at_call 102; refine (HK _).mono ?_; rintro e w' ⟨rfl, rfl⟩)
  all_goals
    go_ret
    refine ⟨⟨_, rfl, ?_⟩, box_below _ _⟩
  all_goals
    clear HK
    first
    | (simp_all; done)
    | (simp_all; omega)
set_option maxHeartbeats 4000000 in
set_option maxRecDepth 100000 in
theorem hasUnused_eight (arg vi mi ii b lo hi : Int) (g : ByteArray) (w : World) : Calls Tryz.prog 103 #[.agg #[.int .i64 arg, .int .i64 8, .int .u64 vi, .int .u64 mi, .string g, .int .u32 ii, .int .i64 b, .int .i64 lo, .int .i64 hi]] w fun e w' => (∃ z, e = .returned (.bool z) ∧ (z = true ↔ mi ≠ 0 ∨ vi ≠ 0 ∨ ¬ (ii = 0 ∧ b = 0 ∧ lo = 0 ∧ hi = 0))) ∧ Below w.heap.size w w' := by
  have HK : ∀ w, Calls Tryz.prog 102 #[.int .i64 8] w fun e w' => e = .returned (.int .i64 2) ∧ w' = w := fun w => by
    have h := kindOf_any 8 w
    rwa [show ((kindOp 8 : Nat) : Int) = 2 by simp [kindOp]] at h
  go_enter Tryz.func103, Tryz.ntmps103
  go_wp2_with (go_at_call 102; refine (HK _).mono ?_; rintro e w' ⟨rfl, rfl⟩)
  all_goals
    go_ret
    refine ⟨⟨_, rfl, ?_⟩, box_below _ _⟩
  all_goals
    clear HK
    first
    | (simp_all; done)
    | (simp_all; omega)
set_option maxHeartbeats 4000000 in
set_option maxRecDepth 100000 in
theorem hasUnused_nine (arg vi mi ii b lo hi : Int) (g : ByteArray) (w : World) : Calls Tryz.prog 103 #[.agg #[.int .i64 arg, .int .i64 9, .int .u64 vi, .int .u64 mi, .string g, .int .u32 ii, .int .i64 b, .int .i64 lo, .int .i64 hi]] w fun e w' => (∃ z, e = .returned (.bool z) ∧ (z = true ↔ mi ≠ 0 ∨ vi ≠ 0 ∨ g.toList ≠ [])) ∧ Below w.heap.size w w' := by
  have HK : ∀ w, Calls Tryz.prog 102 #[.int .i64 9] w fun e w' => e = .returned (.int .i64 3) ∧ w' = w := fun w => by
    have h := kindOf_any 9 w
    rwa [show ((kindOp 9 : Nat) : Int) = 3 by simp [kindOp]] at h
  go_enter Tryz.func103, Tryz.ntmps103
  go_wp2_with (go_at_call 102; refine (HK _).mono ?_; rintro e w' ⟨rfl, rfl⟩)
  all_goals
    go_ret
    refine ⟨⟨_, rfl, ?_⟩, box_below _ _⟩
  all_goals
    clear HK
    first
    | (simp_all; done)
    | (simp_all; omega)
set_option maxHeartbeats 4000000 in
set_option maxRecDepth 100000 in
theorem hasUnused_num (arg op vi mi ii b lo hi : Int) (g : ByteArray) (h7 : ¬ op = 7) (h8 : ¬ op = 8) (h9 : ¬ op = 9) (w : World) : Calls Tryz.prog 103 #[.agg #[.int .i64 arg, .int .i64 op, .int .u64 vi, .int .u64 mi, .string g, .int .u32 ii, .int .i64 b, .int .i64 lo, .int .i64 hi]] w fun e w' => (∃ z, e = .returned (.bool z) ∧ (z = true ↔ mi ≠ 0 ∨ g.toList ≠ [] ∨ ¬ (ii = 0 ∧ b = 0 ∧ lo = 0 ∧ hi = 0))) ∧ Below w.heap.size w w' := by
  have HK : ∀ w, Calls Tryz.prog 102 #[.int .i64 op] w fun e w' => e = .returned (.int .i64 1) ∧ w' = w := fun w => by
    have h := kindOf_any op w
    rwa [show ((kindOp op : Nat) : Int) = 1 by simp [kindOp, h8, h9]] at h
  go_enter Tryz.func103, Tryz.ntmps103
  go_wp2_with (go_at_call 102; refine (HK _).mono ?_; rintro e w' ⟨rfl, rfl⟩)
  all_goals
    go_ret
    refine ⟨⟨_, rfl, ?_⟩, box_below _ _⟩
  all_goals
    clear HK
    first
    | (simp_all; done)
    | (simp_all; omega)
theorem toList_nil (g : ByteArray) : g.toList = [] ↔ g.size = 0 := by
  rw [Lib.toList_data, Lib.size_eq, List.length_eq_zero_iff]
theorem hasUnused_any (c : CD) (w : World) : Calls Tryz.prog 103 #[condV c] w fun e w' => e = .returned (.bool (decide (unusedP c))) ∧ Below w.heap.size w w' := by
  obtain ⟨arg, op, v, m, g, ⟨ip, b, lo, hi⟩⟩ := c
  have hg := toList_nil g
  by_cases h7 : op = 7
  · subst h7
    refine (hasUnused_seven arg v m ip b lo hi g w).mono ?_
    rintro e w' ⟨⟨z, rfl, hz⟩, hb⟩
    refine ⟨ret_bool ?_, hb⟩
    rw [Bool.eq_iff_iff, hz, decide_eq_true_iff]
    simp only [unusedP, netZ, hg, ne_eq, Int.natCast_eq_zero]
    by_cases x1 : m = 0 <;> by_cases x2 : v = 0 <;> by_cases x3 : g.size = 0 <;> by_cases x4 : (ip = 0 ∧ b = 0 ∧ lo = 0 ∧ hi = 0) <;> simp [*]
  by_cases h8 : op = 8
  · subst h8
    refine (hasUnused_eight arg v m ip b lo hi g w).mono ?_
    rintro e w' ⟨⟨z, rfl, hz⟩, hb⟩
    refine ⟨ret_bool ?_, hb⟩
    rw [Bool.eq_iff_iff, hz, decide_eq_true_iff]
    simp only [unusedP, netZ, ne_eq, Int.natCast_eq_zero]
    by_cases x1 : m = 0 <;> by_cases x2 : v = 0 <;> by_cases x4 : (ip = 0 ∧ b = 0 ∧ lo = 0 ∧ hi = 0) <;> simp [*]
  by_cases h9 : op = 9
  · subst h9
    refine (hasUnused_nine arg v m ip b lo hi g w).mono ?_
    rintro e w' ⟨⟨z, rfl, hz⟩, hb⟩
    refine ⟨ret_bool ?_, hb⟩
    rw [Bool.eq_iff_iff, hz, decide_eq_true_iff]
    simp only [unusedP, netZ, hg, ne_eq, Int.natCast_eq_zero]
    by_cases x1 : m = 0 <;> by_cases x2 : v = 0 <;> by_cases x3 : g.size = 0 <;> by_cases x4 : (ip = 0 ∧ b = 0 ∧ lo = 0 ∧ hi = 0) <;> simp [*]
  · refine (hasUnused_num arg op v m ip b lo hi g h7 h8 h9 w).mono ?_
    rintro e w' ⟨⟨z, rfl, hz⟩, hb⟩
    refine ⟨ret_bool ?_, hb⟩
    rw [Bool.eq_iff_iff, hz, decide_eq_true_iff]
    simp only [unusedP, netZ, hg, ne_eq, Int.natCast_eq_zero]
    by_cases x1 : m = 0 <;> by_cases x2 : v = 0 <;> by_cases x3 : g.size = 0 <;> by_cases x4 : (ip = 0 ∧ b = 0 ∧ lo = 0 ∧ hi = 0) <;> simp [*]
end Go.Proofs.YtklibmijiecbfaaGreat

/- api.Forms. -/
namespace Go.Proofs.YtklibmijiecbfaaGreat
open Go.RowKit

def formsArr : Array Value := #[.string ⟨#[114, 101, 97, 100]⟩, .int .i64 1, .int .i64 1, .int .i64 0, .int .i64 0, .string ⟨#[119, 114, 105, 116, 101]⟩, .int .i64 1, .int .i64 1, .int .i64 0, .int .i64 0, .string ⟨#[111, 112, 101, 110]⟩, .int .i64 2, .int .i64 1, .int .i64 1, .int .i64 0, .string ⟨#[99, 108, 111, 115, 101]⟩, .int .i64 1, .int .i64 0, .int .i64 0, .int .i64 0, .string ⟨#[115, 116, 97, 116]⟩, .int .i64 2, .int .i64 0, .int .i64 0, .int .i64 0, .string ⟨#[114, 101, 110, 97, 109, 101]⟩, .int .i64 2, .int .i64 2, .int .i64 0, .int .i64 0, .string ⟨#[99, 111, 110, 110, 101, 99, 116]⟩, .int .i64 1, .int .i64 3, .int .i64 0, .int .i64 0, .string ⟨#[108, 105, 110, 107]⟩, .int .i64 2, .int .i64 2, .int .i64 1, .int .i64 0, .string ⟨#[115, 101, 110, 100]⟩, .int .i64 1, .int .i64 1, .int .i64 3, .int .i64 1]

set_option maxRecDepth 100000 in
set_option maxHeartbeats 2000000 in
theorem forms_any (w : World) :
    Calls Tryz.prog 75 #[] w fun e w' => e = .returned (.agg formsArr) ∧ Below w.heap.size w w' := by
  go_enter Tryz.func75, Tryz.ntmps75
  go_wp2_with (first | (refine wpList_buildTo rfl 153 _ rfl (some 19) rfl formsArr (by kernel_rfl) ?_) | (refine wpList_store_row rfl 153 _ _ rfl w.heap.size formsArr rfl rfl 153 _ (heap_alloc_new _ _) (by kernel_rfl) (by kernel_rfl) (by kernel_rfl) ?_))
  rw [World.setRow_alloc_new]
  exact bodyPost_ret (v := .agg formsArr) (results_cell_row rfl _ _ w.heap.size 153 formsArr (0, 0) _ rfl (heap_alloc_new _ _) Tryz.underlying153 rfl (by kernel_rfl)) rfl ⟨rfl, (Below.refl _ _).alloc (Nat.le_refl _) _⟩

def kindsV (nr : Nat) : Value := .agg #[.int .i64 (kindAt nr 0 : Nat), .int .i64 (kindAt nr 1 : Nat), .int .i64 (kindAt nr 2 : Nat), .int .i64 (kindAt nr 3 : Nat)]
def formV (nr : Nat) : Value := .agg #[.string ⟨(nameOf nr).toArray⟩, .int .i64 (kindAt nr 0 : Nat), .int .i64 (kindAt nr 1 : Nat), .int .i64 (kindAt nr 2 : Nat), .int .i64 (kindAt nr 3 : Nat)]
theorem forms_index (nr : Nat) (h : nr ≤ 8) (w : World) : (Instr.index 153 (.agg formsArr) (.int .i64 nr)).run Tryz.prog w = .ok (formV nr) w := by
  rcases nine h with rfl | rfl | rfl | rfl | rfl | rfl | rfl | rfl | rfl <;> kernel_rfl
theorem form_kinds (nr : Nat) (w : World) : (Instr.field 152 (formV nr) 1).run Tryz.prog w = .ok (kindsV nr) w := by kernel_rfl
end Go.Proofs.YtklibmijiecbfaaGreat

/- The document's fault of a net. -/
namespace Go.Proofs.YtklibmijiecbfaaGreat
open Go.RowKit

theorem restN_succ (k : Nat) (hk : k < 32) : restN k = restN (k + 1) * 2 := by
  unfold restN
  rw [show 32 - k = (32 - (k + 1)) + 1 by omega, Nat.pow_succ]
theorem restN_bit (k : Nat) : 2 ^ (31 - k) = restN (k + 1) := by unfold restN; rw [show 31 - k = 32 - (k + 1) by omega]
theorem rest_step (ip k : Nat) (hk : k < 32) : ip % restN k = ip % restN (k + 1) + restN (k + 1) * (ip / 2 ^ (31 - k) % 2) := by
  rw [restN_succ k hk, Nat.mod_mul, restN_bit]
theorem quot_step (ip k : Nat) (hk : k < 32) : ip / restN (k + 1) = 2 * (ip / restN k) + ip / 2 ^ (31 - k) % 2 := by
  rw [restN_succ k hk, restN_bit, ← Nat.div_div_eq_div_mul]
  omega
theorem quot_down (x y : Nat) : ∀ j k, k + j ≤ 32 → x / restN (k + j) = y / restN (k + j) → x / restN k = y / restN k
  | 0, _, _, h => h
  | j + 1, k, hk, h => by
    have h' : x / restN (k + 1) = y / restN (k + 1) := quot_down x y j (k + 1) (by omega) (by rw [show k + 1 + j = k + (j + 1) by omega]; exact h)
    rw [quot_step x k (by omega), quot_step y k (by omega)] at h'
    omega

theorem netFault_any (ip : Nat) (hip : ip < 4294967296) (b lo hi : Int) (hb : -9223372036854775808 ≤ b ∧ b ≤ 9223372036854775807) (hl : -9223372036854775808 ≤ lo ∧ lo ≤ 9223372036854775807) (hh : -9223372036854775808 ≤ hi ∧ hi ≤ 9223372036854775807) (w : World) :
    Calls Tryz.prog 46 #[netV ip b lo hi] w fun e w' => e = .returned (.int .i64 (faultOf ip b lo hi)) ∧ Below w.heap.size w w' := by
  by_cases c0 : b < 0
  · have HF := hide (show faultOf ip b lo hi = 1 by unfold faultOf; rw [if_pos (by omega)])
    have d0 : decide (b < 0) = true := decide_eq_true c0
    go_enter Tryz.func46, Tryz.ntmps46
    go_wp2
    go_ret
    exact ⟨by rw [HF.out]; rfl, (Below.refl _ _).alloc (Nat.le_refl _) _⟩
  · have d0 : decide (b < 0) = false := decide_eq_false c0
    by_cases c1 : 32 < b
    · have HF := hide (show faultOf ip b lo hi = 1 by unfold faultOf; rw [if_pos (by omega)])
      have d1 : decide ((32 : Int) < b) = true := decide_eq_true c1
      go_enter Tryz.func46, Tryz.ntmps46
      go_wp2
      go_ret
      exact ⟨by rw [HF.out]; rfl, (Below.refl _ _).alloc (Nat.le_refl _) _⟩
    · have d1 : decide ((32 : Int) < b) = false := decide_eq_false c1
      by_cases c2 : lo < 0
      · have HF := hide (show faultOf ip b lo hi = 1 by unfold faultOf; rw [if_pos (by omega)])
        have d2 : decide (lo < 0) = true := decide_eq_true c2
        go_enter Tryz.func46, Tryz.ntmps46
        go_wp2
        go_ret
        exact ⟨by rw [HF.out]; rfl, (Below.refl _ _).alloc (Nat.le_refl _) _⟩
      · have d2 : decide (lo < 0) = false := decide_eq_false c2
        by_cases c3 : 65535 < hi
        · have HF := hide (show faultOf ip b lo hi = 1 by unfold faultOf; rw [if_pos (by omega)])
          have d3 : decide ((65535 : Int) < hi) = true := decide_eq_true c3
          go_enter Tryz.func46, Tryz.ntmps46
          go_wp2
          go_ret
          exact ⟨by rw [HF.out]; rfl, (Below.refl _ _).alloc (Nat.le_refl _) _⟩
        · have d3 : decide ((65535 : Int) < hi) = false := decide_eq_false c3
          by_cases c4 : hi < lo
          · have HF := hide (show faultOf ip b lo hi = 1 by unfold faultOf; rw [if_pos (by omega)])
            have d4 : decide (hi < lo) = true := decide_eq_true c4
            go_enter Tryz.func46, Tryz.ntmps46
            go_wp2
            go_ret
            exact ⟨by rw [HF.out]; rfl, (Below.refl _ _).alloc (Nat.le_refl _) _⟩
          · have d4 : decide (hi < lo) = false := decide_eq_false c4
            obtain ⟨k0, rfl⟩ : ∃ k : Nat, b = k := ⟨b.toNat, by omega⟩
            have hk : k0 ≤ 32 := by omega
            have HF := hide (show faultOf ip (k0 : Int) lo hi = if ip % restN k0 = 0 then 0 else 3 by unfold faultOf; rw [if_neg (by omega), Int.toNat_natCast])
            go_enter Tryz.func46, Tryz.ntmps46
            go_wp2
            go_loop [3] (fun i => ∃ k : Nat, k0 ≤ k ∧ k ≤ 32 ∧ i = .int .i64 k ∧ Hid (ip % restN k0 = ip % restN k)) (fun i => 32 - (intOf i).toNat)
            case atStart => exact ⟨k0, Nat.le_refl _, hk, rfl, hide rfl⟩
            case round =>
              obtain ⟨k, hk1, hk2, rfl, HI⟩ := hrel
              by_cases hlt : k < 32
              · have HS := hide (rest_step ip k hlt)
                by_cases c : ip / 2 ^ (31 - k) % 2 = 1
                · have HB := hide (show (ip / 2 ^ (31 - k) % 2 == 1) = true by rw [beq_iff_eq]; exact c)
                  have HV := hide (show faultOf ip (k0 : Int) lo hi = 3 by
                    rw [HF.out, HI.out, HS.out, c, if_neg]
                    have := restN_pos (k + 1)
                    omega)
                  clear c
                  go_wp2_with (go_at_call 78; refine (bit_any ip k hip (by omega) _).mono ?_; rw [HB.out]; rintro e wx ⟨rfl, hwx⟩; rw [hwx]; clear hwx wx)
                  go_ret
                  exact ⟨by rw [HV.out]; rfl, (Below.refl _ _).alloc (Nat.le_refl _) _⟩
                · have HB := hide (show (ip / 2 ^ (31 - k) % 2 == 1) = false by rw [beq_eq_false_iff_ne]; exact c)
                  have HN := hide (show ip % restN k0 = ip % restN (k + 1) by
                    rw [HI.out, HS.out, show ip / 2 ^ (31 - k) % 2 = 0 by omega]
                    rfl)
                  clear c
                  go_wp2_with (go_at_call 78; refine (bit_any ip k hip (by omega) _).mono ?_; rw [HB.out]; rintro e wx ⟨rfl, hwx⟩; rw [hwx]; clear hwx wx)
                  go_round
                  case rel => exact ⟨k + 1, by omega, by omega, by go_num, HN⟩
                  case measure => simp [intOf]; omega
              · obtain rfl : k = 32 := by omega
                have HV := hide (show faultOf ip (k0 : Int) lo hi = 0 by
                  rw [HF.out, HI.out, if_pos]
                  rw [show restN 32 = 1 from rfl]
                  exact Nat.mod_one ip)
                go_wp2
                go_ret
                exact ⟨by rw [HV.out]; rfl, (Below.refl _ _).alloc (Nat.le_refl _) _⟩
end Go.Proofs.YtklibmijiecbfaaGreat

/- What a net has: the code's and the document's. -/
namespace Go.Proofs.YtklibmijiecbfaaGreat
open Go.RowKit

def hasOf (ip : Nat) (b lo hi : Int) (x : Nat) (port : Int) : Bool := decide (faultOf ip b lo hi = 0) && (decide (x / restN b.toNat = ip / restN b.toNat) && (decide (lo ≤ port) && decide (port ≤ hi)))

/-- The cells of a net that was boxed, behind what left all older blocks. -/
theorem box_cells {w W : World} {ip : Nat} {b lo hi : Int} (hW : Below (w.heap.size + 1) (w.alloc (.cells #[.int .u32 ip, .int .i64 b, .int .i64 lo, .int .i64 hi] 45)) W) :
    W.cell? ⟨w.heap.size, 0, none⟩ = some (.int .u32 ip) ∧ W.cell? ⟨w.heap.size, 1, none⟩ = some (.int .i64 b) ∧ W.cell? ⟨w.heap.size, 2, none⟩ = some (.int .i64 lo) ∧ W.cell? ⟨w.heap.size, 3, none⟩ = some (.int .i64 hi) := by
  have hc : ∀ o, W.cell? ⟨w.heap.size, o, none⟩ = (#[.int .u32 ip, .int .i64 b, .int .i64 lo, .int .i64 hi] : Array Value)[o]? := fun o => by
    rw [hW.cell (p := ⟨w.heap.size, o, none⟩) (Nat.lt_succ_self _)]
    exact World.cell?_alloc_at _ _ _ _ rfl
  exact ⟨hc 0, hc 1, hc 2, hc 3⟩

theorem hasNet_any (ip : Nat) (hip : ip < 4294967296) (b lo hi : Int) (hb : -9223372036854775808 ≤ b ∧ b ≤ 9223372036854775807) (hl : -9223372036854775808 ≤ lo ∧ lo ≤ 9223372036854775807) (hh : -9223372036854775808 ≤ hi ∧ hi ≤ 9223372036854775807)
    (x : Nat) (hx : x < 4294967296) (port : Int) (w : World) :
    Calls Tryz.prog 98 #[netV ip b lo hi, .int .u32 x, .int .i64 port] w fun e w' => e = .returned (.bool (hasOf ip b lo hi x port)) ∧ Below w.heap.size w w' := by
  by_cases hf : faultOf ip b lo hi = 0
  · obtain ⟨⟨hb0, hb32⟩, _, _⟩ := fault_ok hf
    obtain ⟨k0, rfl⟩ : ∃ k : Nat, b = k := ⟨b.toNat, by omega⟩
    have hk0 : k0 ≤ 32 := by omega
    have HV := hide (show hasOf ip (k0 : Int) lo hi x port = (decide (x / restN k0 = ip / restN k0) && (decide (lo ≤ port) && decide (port ≤ hi))) by unfold hasOf; rw [decide_eq_true hf, Bool.true_and, Int.toNat_natCast])
    have HF := hide hf
    clear hf
    go_enter Tryz.func98, Tryz.ntmps98
    go_wp2_with (go_at_call 46; refine (netFault_any ip hip k0 lo hi hb hl hh _).mono ?_; rw [HF.out]; rintro e W ⟨rfl, hW⟩; have hW2 : Below (w.heap.size + 1) (w.alloc (.cells #[.int .u32 ip, .int .i64 k0, .int .i64 lo, .int .i64 hi] 45)) W := hW.mono (by simp); obtain ⟨h0, h1, h2, h3⟩ := box_cells hW2)
    have hW' : Below w.heap.size w W := ((Below.refl w.heap.size w).alloc (Nat.le_refl _) _).trans (hW.mono (by simp))
    have HW := hide hW'
    clear hW hW2 hW'
    have h0 : ∀ m, (W.drewN m).cell? ⟨w.heap.size, 0, none⟩ = _ := fun _ => h0
    have h1 : ∀ m, (W.drewN m).cell? ⟨w.heap.size, 1, none⟩ = _ := fun _ => h1
    have h2 : ∀ m, (W.drewN m).cell? ⟨w.heap.size, 2, none⟩ = _ := fun _ => h2
    have h3 : ∀ m, (W.drewN m).cell? ⟨w.heap.size, 3, none⟩ = _ := fun _ => h3
    go_loopw [7] (fun i w' => ∃ k m : Nat, k ≤ k0 ∧ i = .int .i64 k ∧ w' = W.drewN m ∧ Hid (x / restN k = ip / restN k)) (fun i _ => k0 - (intOf i).toNat)
    case atStart => exact ⟨0, 0, by omega, rfl, rfl, hide (by rw [show restN 0 = 4294967296 from rfl, Nat.div_eq_of_lt hx, Nat.div_eq_of_lt hip])⟩
    case round =>
      obtain ⟨k, m, hk, rfl, rfl, HI⟩ := hrel
      by_cases hlt : k < k0
      · have HX := hide (quot_step x k (by omega))
        have HP := hide (quot_step ip k (by omega))
        by_cases c : x / 2 ^ (31 - k) % 2 = ip / 2 ^ (31 - k) % 2
        · have HN := hide (show x / restN (k + 1) = ip / restN (k + 1) by rw [HX.out, HP.out, HI.out, c])
          have bb : ((x / 2 ^ (31 - k) % 2 == 1) == (ip / 2 ^ (31 - k) % 2 == 1)) = true := by rw [c]; simp
          clear c
          go_wp2
          go_quiet ((go_at_call 78; first | exact Calls.quiet_of_same (bit_any _ k (by assumption) (by omega) _) | exact quiet_same (bit_any _ k (by assumption) (by omega) _)))
          go_wp2
          go_round
          case rel => exact ⟨k + 1, _, by omega, by go_num, rfl, HN⟩
          case measure => simp [intOf]; omega
        · have HV2 := hide (show hasOf ip (k0 : Int) lo hi x port = false by
            rw [HV.out, decide_eq_false, Bool.false_and]
            intro h
            have h' := quot_down x ip (k0 - (k + 1)) (k + 1) (by omega) (by rw [show k + 1 + (k0 - (k + 1)) = k0 by omega]; exact h)
            rw [HX.out, HP.out, HI.out] at h'
            omega)
          have bb : ((x / 2 ^ (31 - k) % 2 == 1) == (ip / 2 ^ (31 - k) % 2 == 1)) = false := by
            rw [beq_eq_false_iff_ne]
            intro h
            rw [Bool.eq_iff_iff] at h
            simp at h
            omega
          clear c
          go_wp2
          go_quiet ((go_at_call 78; first | exact Calls.quiet_of_same (bit_any _ k (by assumption) (by omega) _) | exact quiet_same (bit_any _ k (by assumption) (by omega) _)))
          go_wp2
          go_ret
          exact ⟨by rw [HV2.out]; rfl, below_drewN' (below_drewN' HW.out _) _⟩
      · obtain rfl : k = k0 := by omega
        have HV2 := hide (show hasOf ip (k : Int) lo hi x port = (decide (lo ≤ port) && decide (port ≤ hi)) by rw [HV.out, decide_eq_true HI.out, Bool.true_and])
        by_cases c1 : lo ≤ port
        · have d1 : decide (lo ≤ port) = true := decide_eq_true c1
          go_wp2
          go_ret
          exact ⟨by rw [HV2.out, d1, Bool.true_and]; rfl, below_drewN' HW.out _⟩
        · have d1 : decide (lo ≤ port) = false := decide_eq_false c1
          go_wp2
          go_ret
          exact ⟨by rw [HV2.out, d1, Bool.false_and]; rfl, below_drewN' HW.out _⟩
  · have hf1 : 0 < faultOf ip b lo hi := by omega
    have HV := hide (show hasOf ip b lo hi x port = false by unfold hasOf; rw [decide_eq_false hf, Bool.false_and])
    go_enter Tryz.func98, Tryz.ntmps98
    go_wp2_with (go_at_call 46; refine (netFault_any ip hip b lo hi hb hl hh _).mono ?_; rintro e W ⟨rfl, hW⟩)
    go_ret
    exact ⟨by rw [HV.out]; rfl, ((Below.refl w.heap.size w).alloc (Nat.le_refl _) _).trans (hW.mono (by simp))⟩
end Go.Proofs.YtklibmijiecbfaaGreat

/- What a net has: addr.Has. -/
namespace Go.Proofs.YtklibmijiecbfaaGreat
open Go.RowKit Go.Sort

/-- The world with a net boxed, and what is called in worlds that grew out of it. -/
theorem boxed (w : World) (ip : Nat) (b lo hi : Int) : ∃ V, V = w.alloc (.cells #[.int .u32 ip, .int .i64 b, .int .i64 lo, .int .i64 hi] 45) ∧ Below w.heap.size w V ∧
    V.cell? ⟨w.heap.size, 0, none⟩ = some (.int .u32 ip) ∧ V.cell? ⟨w.heap.size, 1, none⟩ = some (.int .i64 b) ∧ V.cell? ⟨w.heap.size, 2, none⟩ = some (.int .i64 lo) ∧ V.cell? ⟨w.heap.size, 3, none⟩ = some (.int .i64 hi) :=
  ⟨_, rfl, (Below.refl _ _).alloc (Nat.le_refl _) _, box_cells (Below.refl _ _)⟩
theorem regrown_same {P : Program} {f : FuncId} {args : Array Value} {V : World} {d : Nat} {os : Array Obj} {v : Value}
    (h : Calls P f args (grow (redrawn V d) os) fun e w' => e = .returned v ∧ w' = grow (redrawn V d) os) : Calls P f args (grow (redrawn V d) os) fun e w'' => e = .returned v ∧ ∃ p : Regrown, w'' = grow (redrawn V p.d) p.os :=
  h.mono fun _ _ ⟨he, hw⟩ => ⟨he, ⟨d, os⟩, hw⟩

theorem has_bad (ip : Nat) (hip : ip < 4294967296) (b lo hi : Int) (hb : -9223372036854775808 ≤ b ∧ b ≤ 9223372036854775807) (hl : -9223372036854775808 ≤ lo ∧ lo ≤ 9223372036854775807) (hh : -9223372036854775808 ≤ hi ∧ hi ≤ 9223372036854775807)
    (x : Nat) (port n : Int) (HE : Hid (errV (faultOf ip b lo hi) = .iface 82 (.int .i64 n))) (w : World) :
    Calls Tryz.prog 114 #[netV ip b lo hi, .int .u32 x, .int .i64 port] w fun e w' => e = .returned (.bool false) ∧ Below w.heap.size w w' := by
  go_enter Tryz.func114, Tryz.ntmps114
  go_wp2
  obtain ⟨V, hV, hB, h0, h1, h2, h3⟩ := boxed w ip b lo hi
  rw [← hV]
  clear hV
  have HB := hide hB
  clear hB
  have g0 := cell_regrown h0
  have g1 := cell_regrown h1
  have g2 := cell_regrown h2
  have g3 := cell_regrown h3
  have cC : ∀ d os, Calls Tryz.prog 105 #[.agg #[.int .u32 ip, .int .i64 b, .int .i64 lo, .int .i64 hi]] (grow (redrawn V d) os) fun e w'' => e = .returned (.iface 82 (.int .i64 n)) ∧ ∃ p : Regrown, w'' = grow (redrawn V p.d) p.os := fun d os => Calls.regrown_of ((acheck_any ip hip b lo hi hb hl hh _).mono fun e w' h => by rw [HE.out] at h; exact h)
  refine wp_region_quiet_below (by kernel_rfl) (by kernel_rfl) ?_
  repeat (go_big_quiet_step ((go_at_call 105; exact cC _ _)))
  refine wpQuiet_nil ?_
  intro _ hw'
  obtain ⟨⟨dq, osq⟩, hw''⟩ := hw'
  subst hw''
  go_wp2
  go_ret
  exact ⟨rfl, HB.out.trans ((below_regrown V dq osq).mono HB.out.size)⟩

set_option maxHeartbeats 1000000 in
theorem has_any (ip : Nat) (hip : ip < 4294967296) (b lo hi : Int) (hb : -9223372036854775808 ≤ b ∧ b ≤ 9223372036854775807) (hl : -9223372036854775808 ≤ lo ∧ lo ≤ 9223372036854775807) (hh : -9223372036854775808 ≤ hi ∧ hi ≤ 9223372036854775807)
    (x : Nat) (hx : x < 4294967296) (port : Int) (w : World) :
    Calls Tryz.prog 114 #[netV ip b lo hi, .int .u32 x, .int .i64 port] w fun e w' => e = .returned (.bool (hasOf ip b lo hi x port)) ∧ Below w.heap.size w w' := by
  by_cases hf : faultOf ip b lo hi = 0
  · obtain ⟨⟨hb0, hb32⟩, _, hr⟩ := fault_ok hf
    obtain ⟨k0, rfl⟩ : ∃ k : Nat, b = k := ⟨b.toNat, by omega⟩
    have hk0 : k0 ≤ 32 := by omega
    rw [Int.toNat_natCast] at hr
    have HV := hide (show hasOf ip (k0 : Int) lo hi x port = (decide (x / restN k0 = ip / restN k0) && (decide (lo ≤ port) && decide (port ≤ hi))) by unfold hasOf; rw [decide_eq_true hf, Bool.true_and, Int.toNat_natCast])
    have HF := hide (show errV (faultOf ip (k0 : Int) lo hi) = .nilIface by rw [hf]; rfl)
    have er : bits .and .u32 (x : Int) (maskN k0 : Int) = ((x / restN k0 * restN k0 : Nat) : Int) := by rw [u32_and_nat _ _ hx (maskN_lt k0), and_mask x k0 hx hk0]
    have hq : (x / restN k0 * restN k0 = ip) ↔ (x / restN k0 = ip / restN k0) := by
      have h1 := Nat.div_add_mod ip (restN k0)
      rw [hr, Nat.add_zero, Nat.mul_comm] at h1
      constructor
      · intro h
        rw [← h1] at h
        exact Nat.eq_of_mul_eq_mul_right (restN_pos k0) h
      · intro h
        rw [h, h1]
    have HQ := hide (show (((x / restN k0 * restN k0 : Nat) : Int) == (ip : Int)) = decide (x / restN k0 = ip / restN k0) by rw [Bool.eq_iff_iff]; simp only [beq_iff_eq, decide_eq_true_eq]; rw [← hq]; omega)
    obtain ⟨q, hqq⟩ : ∃ q, q = x / restN k0 * restN k0 := ⟨_, rfl⟩
    rw [← hqq] at er HQ
    clear hf hr hq hqq
    cases hd : decide (x / restN k0 = ip / restN k0) with
    | false =>
      rw [hd] at HQ HV
      have bq := HQ.out
      go_enter Tryz.func114, Tryz.ntmps114
      go_wp2
      obtain ⟨V, hV, hB, h0, h1, h2, h3⟩ := boxed w ip k0 lo hi
      rw [← hV]
      clear hV
      have HB := hide hB
      clear hB
      have g0 := cell_regrown h0
      have g1 := cell_regrown h1
      have g2 := cell_regrown h2
      have g3 := cell_regrown h3
      have cC : ∀ d os, Calls Tryz.prog 105 #[.agg #[.int .u32 ip, .int .i64 k0, .int .i64 lo, .int .i64 hi]] (grow (redrawn V d) os) fun e w'' => e = .returned .nilIface ∧ ∃ p : Regrown, w'' = grow (redrawn V p.d) p.os := fun d os => Calls.regrown_of ((acheck_any ip hip k0 lo hi hb hl hh _).mono fun e w' h => by rw [HF.out] at h; exact h)
      have cM : ∀ d os, Calls Tryz.prog 122 #[.int .i64 k0] (grow (redrawn V d) os) fun e w'' => e = .returned (.int .u32 (maskN k0)) ∧ ∃ p : Regrown, w'' = grow (redrawn V p.d) p.os := fun d os => regrown_same (mask_any k0 hk0 _)
      refine wp_region_quiet_below (by kernel_rfl) (by kernel_rfl) ?_
      repeat (go_big_quiet_step (first | (go_at_call 105; exact cC _ _) | (go_at_call 122; exact cM _ _)))
      refine wpQuiet_nil ?_
      intro _ hw'
      obtain ⟨⟨dq, osq⟩, hw''⟩ := hw'
      subst hw''
      go_wp2
      go_ret
      exact ⟨by rw [HV.out]; rfl, HB.out.trans ((below_regrown V dq osq).mono HB.out.size)⟩
    | true =>
      rw [hd, Bool.true_and] at HV
      rw [hd] at HQ
      have bq := HQ.out
      by_cases c1 : lo ≤ port
      · have d1 : decide (lo ≤ port) = true := decide_eq_true c1
        rw [d1, Bool.true_and] at HV
        go_enter Tryz.func114, Tryz.ntmps114
        go_wp2
        obtain ⟨V, hV, hB, h0, h1, h2, h3⟩ := boxed w ip k0 lo hi
        rw [← hV]
        clear hV
        have HB := hide hB
        clear hB
        have g0 := cell_regrown h0
        have g1 := cell_regrown h1
        have g2 := cell_regrown h2
        have g3 := cell_regrown h3
        have cC : ∀ d os, Calls Tryz.prog 105 #[.agg #[.int .u32 ip, .int .i64 k0, .int .i64 lo, .int .i64 hi]] (grow (redrawn V d) os) fun e w'' => e = .returned .nilIface ∧ ∃ p : Regrown, w'' = grow (redrawn V p.d) p.os := fun d os => Calls.regrown_of ((acheck_any ip hip k0 lo hi hb hl hh _).mono fun e w' h => by rw [HF.out] at h; exact h)
        have cM : ∀ d os, Calls Tryz.prog 122 #[.int .i64 k0] (grow (redrawn V d) os) fun e w'' => e = .returned (.int .u32 (maskN k0)) ∧ ∃ p : Regrown, w'' = grow (redrawn V p.d) p.os := fun d os => regrown_same (mask_any k0 hk0 _)
        refine wp_region_quiet_below (by kernel_rfl) (by kernel_rfl) ?_
        repeat (go_big_quiet_step (first | (go_at_call 105; exact cC _ _) | (go_at_call 122; exact cM _ _)))
        refine wpQuiet_nil ?_
        intro _ hw'
        obtain ⟨⟨dq, osq⟩, hw''⟩ := hw'
        subst hw''
        go_wp2
        go_ret
        exact ⟨by rw [HV.out]; rfl, HB.out.trans ((below_regrown V dq osq).mono HB.out.size)⟩
      · have d1 : decide (lo ≤ port) = false := decide_eq_false c1
        rw [d1, Bool.false_and] at HV
        go_enter Tryz.func114, Tryz.ntmps114
        go_wp2
        obtain ⟨V, hV, hB, h0, h1, h2, h3⟩ := boxed w ip k0 lo hi
        rw [← hV]
        clear hV
        have HB := hide hB
        clear hB
        have g0 := cell_regrown h0
        have g1 := cell_regrown h1
        have g2 := cell_regrown h2
        have g3 := cell_regrown h3
        have cC : ∀ d os, Calls Tryz.prog 105 #[.agg #[.int .u32 ip, .int .i64 k0, .int .i64 lo, .int .i64 hi]] (grow (redrawn V d) os) fun e w'' => e = .returned .nilIface ∧ ∃ p : Regrown, w'' = grow (redrawn V p.d) p.os := fun d os => Calls.regrown_of ((acheck_any ip hip k0 lo hi hb hl hh _).mono fun e w' h => by rw [HF.out] at h; exact h)
        have cM : ∀ d os, Calls Tryz.prog 122 #[.int .i64 k0] (grow (redrawn V d) os) fun e w'' => e = .returned (.int .u32 (maskN k0)) ∧ ∃ p : Regrown, w'' = grow (redrawn V p.d) p.os := fun d os => regrown_same (mask_any k0 hk0 _)
        refine wp_region_quiet_below (by kernel_rfl) (by kernel_rfl) ?_
        repeat (go_big_quiet_step (first | (go_at_call 105; exact cC _ _) | (go_at_call 122; exact cM _ _)))
        refine wpQuiet_nil ?_
        intro _ hw'
        obtain ⟨⟨dq, osq⟩, hw''⟩ := hw'
        subst hw''
        go_wp2
        go_ret
        exact ⟨by rw [HV.out]; rfl, HB.out.trans ((below_regrown V dq osq).mono HB.out.size)⟩
  · obtain ⟨n, hn⟩ : ∃ n : Int, n = (faultOf ip b lo hi : Nat) := ⟨_, rfl⟩
    have HE := hide (show errV (faultOf ip b lo hi) = .iface 82 (.int .i64 n) by unfold errV; rw [if_neg hf, hn])
    rw [show hasOf ip b lo hi x port = false by unfold hasOf; rw [decide_eq_false hf, Bool.false_and]]
    exact has_bad ip hip b lo hi hb hl hh x port n HE w
end Go.Proofs.YtklibmijiecbfaaGreat

/- policy.Check: conds. -/
namespace Go.Proofs.YtklibmijiecbfaaGreat
open Go.RowKit Go.Sort

theorem two_box (w : World) (x y : Array Value) (tx ty : TypeId) : ∃ V, V = (w.alloc (.cells x tx)).alloc (.cells y ty) ∧ Below w.heap.size w V ∧ (∀ j : Nat, V.cell? ⟨w.heap.size, j, none⟩ = x[j]?) ∧ (∀ j : Nat, V.cell? ⟨w.heap.size + 1, j, none⟩ = y[j]?) := by
  refine ⟨_, rfl, below_next (box_below w _) (box_below _ _), fun j => ?_, fun j => ?_⟩
  · rw [((bcell (box_below (w.alloc (.cells x tx)) (.cells y ty))).1 w.heap.size j (by rw [World.size_alloc]; omega)), World.cell?_alloc_new]
  · have h := World.cell?_alloc_new (w.alloc (.cells x tx)) y ty j
    rwa [World.size_alloc] at h

/-- glob.Check at any pattern. -/
theorem gparse_big (p : ByteArray) (h : 24 < p.size) (w : World) : Calls Tryz.prog 121 #[.string p] w fun e w' => e = .returned (.tuple #[.slice none 0 0, .iface 82 (.int .i64 2)]) ∧ Below w.heap.size w w' := by
  go_enter Tryz.func121, Tryz.ntmps121
  go_wp2
  go_ret2
  exact ⟨rfl, Below.refl _ _⟩
theorem gcheck_any (p : ByteArray) (w : World) : Calls Tryz.prog 104 #[.string p] w fun e w' => e = .returned (errV (globF p)) ∧ Below w.heap.size w w' := by
  by_cases h : 24 < p.size
  · have HE := hide (show errV (globF p) = .iface 82 (.int .i64 2) by
      unfold globF Gl.parseR
      rw [if_pos h]
      rfl)
    go_enter Tryz.func104, Tryz.ntmps104
    go_wp2_with (go_at_call 121; refine (gparse_big p h _).mono ?_; rintro e W ⟨rfl, hW⟩)
    go_ret
    exact ⟨by rw [HE.out]; rfl, hW⟩
  · refine (Gl.check_any p (by omega) w).mono ?_
    rintro e w' ⟨rfl, hb⟩
    refine ⟨?_, hb⟩
    unfold globF errV
    cases hp : Gl.parseR p with
    | inr ps => rfl
    | inl n =>
      have hn : n ≠ 0 := by
        unfold Gl.parseR at hp
        repeat' split at hp
        all_goals simp at hp
        all_goals omega
      simp only
      rw [if_neg hn]

theorem checkCond_bound (c : CD) (kv : Array Value) (w : World) (h : c.arg < 0 ∨ 3 < c.arg ∨ c.op < 1 ∨ 9 < c.op) : Calls Tryz.prog 76 #[condV c, .agg kv] w fun e w' => e = .returned (errV 1) ∧ Below w.heap.size w w' := by
  obtain ⟨arg, op, v, m, g, ⟨ip, b, lo, hi⟩⟩ := c
  unfold condV
  simp only at h ⊢
  go_enter Tryz.func76, Tryz.ntmps76
  go_wp2
  all_goals first
    | omega
    | (go_ret
       exact ⟨rfl, below_next (box_below _ _) (box_below _ _)⟩)

theorem kinds_at (nr a : Nat) (h : a ≤ 3) : (#[.int .i64 (kindAt nr 0 : Nat), .int .i64 (kindAt nr 1 : Nat), .int .i64 (kindAt nr 2 : Nat), .int .i64 (kindAt nr 3 : Nat)] : Array Value)[a]? = some (.int .i64 (kindAt nr a : Nat)) := by
  rcases (by omega : a = 0 ∨ a = 1 ∨ a = 2 ∨ a = 3) with rfl | rfl | rfl | rfl <;> rfl
end Go.Proofs.YtklibmijiecbfaaGreat

/- policy.Check: conds, behind their bounds. -/
namespace Go.Proofs.YtklibmijiecbfaaGreat
open Go.RowKit Go.Sort

set_option maxHeartbeats 4000000 in
theorem checkCond_kind (nr a : Nat) (ha : a ≤ 3) (op : Int) (v m : Nat) (g : ByteArray) (ip : Nat) (b lo hi : Int) (h1 : ¬ op < 1) (h9 : ¬ 9 < op) (w : World) (h : kindAt nr a ≠ kindOp op) :
    Calls Tryz.prog 76 #[condV ⟨a, op, v, m, g, ⟨ip, b, lo, hi⟩⟩, kindsV nr] w fun e w' => e = .returned (errV 3) ∧ Below w.heap.size w w' := by
  have HU := fun w => hasUnused_any ⟨a, op, v, m, g, ⟨ip, b, lo, hi⟩⟩ w
  obtain ⟨u, hu⟩ : ∃ u, u = decide (unusedP ⟨a, op, v, m, g, ⟨ip, b, lo, hi⟩⟩) := ⟨_, rfl⟩
  rw [← hu] at HU
  obtain ⟨ko, hko⟩ : ∃ k : Int, k = (kindOp op : Nat) := ⟨_, rfl⟩
  have HK := fun w => kindOf_any op w
  rw [← hko] at HK
  obtain ⟨ka, hka⟩ : ∃ k : Int, k = (kindAt nr a : Nat) := ⟨_, rfl⟩
  have hat := kinds_at nr a ha
  rw [← hka] at hat
  have hne : (ka != ko) = true := by rw [hka, hko, bne_iff_ne]; omega
  clear hu hko hka h
  unfold kindsV condV at *
  simp only at *
  have i1 : ¬ (a : Int) < 0 := by omega
  have i2 : ¬ (4 : Int) ≤ a := by omega
  have i3 : (0 : Int) ≤ a := by omega
  have i4 : (a : Int) < 4 := by omega
  go_enter Tryz.func76, Tryz.ntmps76
  go_wp2
  obtain ⟨V, hV, hB, hx, hy⟩ := two_box w #[.int .i64 a, .int .i64 op, .int .u64 v, .int .u64 m, .string g, .int .u32 ip, .int .i64 b, .int .i64 lo, .int .i64 hi] #[.int .i64 (kindAt nr 0 : Nat), .int .i64 (kindAt nr 1 : Nat), .int .i64 (kindAt nr 2 : Nat), .int .i64 (kindAt nr 3 : Nat)] 47 126
  rw [← hV]
  clear hV
  have HB := hide hB
  clear hB
  have g0 := cell_regrown (hx 0)
  have g1 := cell_regrown (hx 1)
  have g2 := cell_regrown (hx 2)
  have g3 := cell_regrown (hx 3)
  have g4 := cell_regrown (hx 4)
  have g5 := cell_regrown (hx 5)
  have g6 := cell_regrown (hx 6)
  have g7 := cell_regrown (hx 7)
  have g8 := cell_regrown (hx 8)
  have gk := cell_regrown ((hy a).trans hat)
  have cK : ∀ d os, Calls Tryz.prog 102 #[.int .i64 op] (grow (redrawn V d) os) fun e w'' => e = .returned (.int .i64 ko) ∧ ∃ p : Regrown, w'' = grow (redrawn V p.d) p.os := fun d os => regrown_same (HK _)
  have cU : ∀ d os, Calls Tryz.prog 103 #[.agg #[.int .i64 a, .int .i64 op, .int .u64 v, .int .u64 m, .string g, .int .u32 ip, .int .i64 b, .int .i64 lo, .int .i64 hi]] (grow (redrawn V d) os) fun e w'' => e = .returned (.bool u) ∧ ∃ p : Regrown, w'' = grow (redrawn V p.d) p.os := fun d os => Calls.regrown_of (HU _)
  clear hx hy hat HU HK
  refine wp_region_quiet_below (by kernel_rfl) (by kernel_rfl) ?_
  repeat (go_big_quiet_step (first | (go_at_call 102; exact cK _ _) | (go_at_call 103; exact cU _ _)))
  refine wpQuiet_nil ?_
  intro _ hw'
  obtain ⟨⟨dq, osq⟩, hw''⟩ := hw'
  subst hw''
  go_wp2
  go_ret
  exact ⟨rfl, HB.out.trans ((below_regrown V dq osq).mono HB.out.size)⟩

set_option maxHeartbeats 4000000 in
theorem checkCond_unused (nr a : Nat) (ha : a ≤ 3) (op : Int) (v m : Nat) (g : ByteArray) (ip : Nat) (b lo hi : Int) (h1 : ¬ op < 1) (h9 : ¬ 9 < op) (w : World) (hk : kindAt nr a = kindOp op) (h : unusedP ⟨a, op, v, m, g, ⟨ip, b, lo, hi⟩⟩) :
    Calls Tryz.prog 76 #[condV ⟨a, op, v, m, g, ⟨ip, b, lo, hi⟩⟩, kindsV nr] w fun e w' => e = .returned (errV 3) ∧ Below w.heap.size w w' := by
  have HU := fun w => hasUnused_any ⟨a, op, v, m, g, ⟨ip, b, lo, hi⟩⟩ w
  obtain ⟨u, hu⟩ : ∃ u, u = decide (unusedP ⟨a, op, v, m, g, ⟨ip, b, lo, hi⟩⟩) := ⟨_, rfl⟩
  rw [← hu] at HU
  obtain ⟨ko, hko⟩ : ∃ k : Int, k = (kindOp op : Nat) := ⟨_, rfl⟩
  have HK := fun w => kindOf_any op w
  rw [← hko] at HK
  obtain ⟨ka, hka⟩ : ∃ k : Int, k = (kindAt nr a : Nat) := ⟨_, rfl⟩
  have hat := kinds_at nr a ha
  rw [← hka] at hat
  have hne : ko = ka := by rw [hka, hko, hk]
  subst hne
  have hut : u = true := by rw [hu]; exact decide_eq_true h
  subst hut
  clear hu hko hka h hk
  have hnn : (ko != ko) = false := by simp
  unfold kindsV condV at *
  simp only at *
  have i1 : ¬ (a : Int) < 0 := by omega
  have i2 : ¬ (4 : Int) ≤ a := by omega
  have i3 : (0 : Int) ≤ a := by omega
  have i4 : (a : Int) < 4 := by omega
  go_enter Tryz.func76, Tryz.ntmps76
  go_wp2
  obtain ⟨V, hV, hB, hx, hy⟩ := two_box w #[.int .i64 a, .int .i64 op, .int .u64 v, .int .u64 m, .string g, .int .u32 ip, .int .i64 b, .int .i64 lo, .int .i64 hi] #[.int .i64 (kindAt nr 0 : Nat), .int .i64 (kindAt nr 1 : Nat), .int .i64 (kindAt nr 2 : Nat), .int .i64 (kindAt nr 3 : Nat)] 47 126
  rw [← hV]
  clear hV
  have HB := hide hB
  clear hB
  have g0 := cell_regrown (hx 0)
  have g1 := cell_regrown (hx 1)
  have g2 := cell_regrown (hx 2)
  have g3 := cell_regrown (hx 3)
  have g4 := cell_regrown (hx 4)
  have g5 := cell_regrown (hx 5)
  have g6 := cell_regrown (hx 6)
  have g7 := cell_regrown (hx 7)
  have g8 := cell_regrown (hx 8)
  have gk := cell_regrown ((hy a).trans hat)
  have cK : ∀ d os, Calls Tryz.prog 102 #[.int .i64 op] (grow (redrawn V d) os) fun e w'' => e = .returned (.int .i64 ko) ∧ ∃ p : Regrown, w'' = grow (redrawn V p.d) p.os := fun d os => regrown_same (HK _)
  have cU : ∀ d os, Calls Tryz.prog 103 #[.agg #[.int .i64 a, .int .i64 op, .int .u64 v, .int .u64 m, .string g, .int .u32 ip, .int .i64 b, .int .i64 lo, .int .i64 hi]] (grow (redrawn V d) os) fun e w'' => e = .returned (.bool true) ∧ ∃ p : Regrown, w'' = grow (redrawn V p.d) p.os := fun d os => Calls.regrown_of (HU _)
  clear hx hy hat HU HK
  refine wp_region_quiet_below (by kernel_rfl) (by kernel_rfl) ?_
  repeat (go_big_quiet_step (first | (go_at_call 102; exact cK _ _) | (go_at_call 103; exact cU _ _)))
  refine wpQuiet_nil ?_
  intro _ hw'
  obtain ⟨⟨dq, osq⟩, hw''⟩ := hw'
  subst hw''
  go_wp2
  go_ret
  exact ⟨rfl, HB.out.trans ((below_regrown V dq osq).mono HB.out.size)⟩

set_option maxHeartbeats 4000000 in
theorem checkCond_like (nr a : Nat) (ha : a ≤ 3) (v m : Nat) (g : ByteArray) (ip : Nat) (b lo hi : Int) (_hc : CdOk ⟨a, 8, v, m, g, ⟨ip, b, lo, hi⟩⟩)  (w : World) (hk : kindAt nr a = kindOp 8) (h : ¬ unusedP ⟨a, 8, v, m, g, ⟨ip, b, lo, hi⟩⟩) :
    Calls Tryz.prog 76 #[condV ⟨a, 8, v, m, g, ⟨ip, b, lo, hi⟩⟩, kindsV nr] w fun e w' => e = .returned (errV (globF g)) ∧ Below w.heap.size w w' := by
  have HU := fun w => hasUnused_any ⟨a, 8, v, m, g, ⟨ip, b, lo, hi⟩⟩ w
  obtain ⟨u, hu⟩ : ∃ u, u = decide (unusedP ⟨a, 8, v, m, g, ⟨ip, b, lo, hi⟩⟩) := ⟨_, rfl⟩
  rw [← hu] at HU
  obtain ⟨ko, hko⟩ : ∃ k : Int, k = (kindOp 8 : Nat) := ⟨_, rfl⟩
  have HK := fun w => kindOf_any 8 w
  rw [← hko] at HK
  obtain ⟨ka, hka⟩ : ∃ k : Int, k = (kindAt nr a : Nat) := ⟨_, rfl⟩
  have hat := kinds_at nr a ha
  rw [← hka] at hat
  have hne : ko = ka := by rw [hka, hko, hk]
  subst hne
  have hut : u = false := by rw [hu]; exact decide_eq_false h
  subst hut
  clear hu hko hka h hk
  have hnn : (ko != ko) = false := by simp
  unfold kindsV condV at *
  simp only at *
  have i1 : ¬ (a : Int) < 0 := by omega
  have i2 : ¬ (4 : Int) ≤ a := by omega
  have i3 : (0 : Int) ≤ a := by omega
  have i4 : (a : Int) < 4 := by omega
  go_enter Tryz.func76, Tryz.ntmps76
  go_wp2
  obtain ⟨V, hV, hB, hx, hy⟩ := two_box w #[.int .i64 a, .int .i64 8, .int .u64 v, .int .u64 m, .string g, .int .u32 ip, .int .i64 b, .int .i64 lo, .int .i64 hi] #[.int .i64 (kindAt nr 0 : Nat), .int .i64 (kindAt nr 1 : Nat), .int .i64 (kindAt nr 2 : Nat), .int .i64 (kindAt nr 3 : Nat)] 47 126
  rw [← hV]
  clear hV
  have HB := hide hB
  clear hB
  have g0 := cell_regrown (hx 0)
  have g1 := cell_regrown (hx 1)
  have g2 := cell_regrown (hx 2)
  have g3 := cell_regrown (hx 3)
  have g4 := cell_regrown (hx 4)
  have g5 := cell_regrown (hx 5)
  have g6 := cell_regrown (hx 6)
  have g7 := cell_regrown (hx 7)
  have g8 := cell_regrown (hx 8)
  have gk := cell_regrown ((hy a).trans hat)
  have cK : ∀ d os, Calls Tryz.prog 102 #[.int .i64 8] (grow (redrawn V d) os) fun e w'' => e = .returned (.int .i64 ko) ∧ ∃ p : Regrown, w'' = grow (redrawn V p.d) p.os := fun d os => regrown_same (HK _)
  have cU : ∀ d os, Calls Tryz.prog 103 #[.agg #[.int .i64 a, .int .i64 8, .int .u64 v, .int .u64 m, .string g, .int .u32 ip, .int .i64 b, .int .i64 lo, .int .i64 hi]] (grow (redrawn V d) os) fun e w'' => e = .returned (.bool false) ∧ ∃ p : Regrown, w'' = grow (redrawn V p.d) p.os := fun d os => Calls.regrown_of (HU _)
  clear hx hy hat HU HK
  refine wp_region_quiet_below (by kernel_rfl) (by kernel_rfl) ?_
  repeat (go_big_quiet_step (first | (go_at_call 102; exact cK _ _) | (go_at_call 103; exact cU _ _)))
  refine wpQuiet_nil ?_
  intro _ hw'
  obtain ⟨⟨dq, osq⟩, hw''⟩ := hw'
  subst hw''
  have HE := gcheck_any g
  go_wp2_with (go_at_call 104; refine (HE _).mono ?_; rintro e W2 ⟨rfl, hb2⟩)
  go_ret
  exact ⟨rfl, below_next (HB.out.trans ((below_regrown V dq osq).mono HB.out.size)) hb2⟩

set_option maxHeartbeats 4000000 in
theorem checkCond_net (nr a : Nat) (ha : a ≤ 3) (v m : Nat) (g : ByteArray) (ip : Nat) (b lo hi : Int) (hc : CdOk ⟨a, 9, v, m, g, ⟨ip, b, lo, hi⟩⟩)  (w : World) (hk : kindAt nr a = kindOp 9) (h : ¬ unusedP ⟨a, 9, v, m, g, ⟨ip, b, lo, hi⟩⟩) :
    Calls Tryz.prog 76 #[condV ⟨a, 9, v, m, g, ⟨ip, b, lo, hi⟩⟩, kindsV nr] w fun e w' => e = .returned (errV (faultOf ip b lo hi)) ∧ Below w.heap.size w w' := by
  have HU := fun w => hasUnused_any ⟨a, 9, v, m, g, ⟨ip, b, lo, hi⟩⟩ w
  obtain ⟨u, hu⟩ : ∃ u, u = decide (unusedP ⟨a, 9, v, m, g, ⟨ip, b, lo, hi⟩⟩) := ⟨_, rfl⟩
  rw [← hu] at HU
  obtain ⟨ko, hko⟩ : ∃ k : Int, k = (kindOp 9 : Nat) := ⟨_, rfl⟩
  have HK := fun w => kindOf_any 9 w
  rw [← hko] at HK
  obtain ⟨ka, hka⟩ : ∃ k : Int, k = (kindAt nr a : Nat) := ⟨_, rfl⟩
  have hat := kinds_at nr a ha
  rw [← hka] at hat
  have hne : ko = ka := by rw [hka, hko, hk]
  subst hne
  have hut : u = false := by rw [hu]; exact decide_eq_false h
  subst hut
  clear hu hko hka h hk
  have hnn : (ko != ko) = false := by simp
  unfold kindsV condV at *
  simp only at *
  have i1 : ¬ (a : Int) < 0 := by omega
  have i2 : ¬ (4 : Int) ≤ a := by omega
  have i3 : (0 : Int) ≤ a := by omega
  have i4 : (a : Int) < 4 := by omega
  go_enter Tryz.func76, Tryz.ntmps76
  go_wp2
  obtain ⟨V, hV, hB, hx, hy⟩ := two_box w #[.int .i64 a, .int .i64 9, .int .u64 v, .int .u64 m, .string g, .int .u32 ip, .int .i64 b, .int .i64 lo, .int .i64 hi] #[.int .i64 (kindAt nr 0 : Nat), .int .i64 (kindAt nr 1 : Nat), .int .i64 (kindAt nr 2 : Nat), .int .i64 (kindAt nr 3 : Nat)] 47 126
  rw [← hV]
  clear hV
  have HB := hide hB
  clear hB
  have g0 := cell_regrown (hx 0)
  have g1 := cell_regrown (hx 1)
  have g2 := cell_regrown (hx 2)
  have g3 := cell_regrown (hx 3)
  have g4 := cell_regrown (hx 4)
  have g5 := cell_regrown (hx 5)
  have g6 := cell_regrown (hx 6)
  have g7 := cell_regrown (hx 7)
  have g8 := cell_regrown (hx 8)
  have gk := cell_regrown ((hy a).trans hat)
  have cK : ∀ d os, Calls Tryz.prog 102 #[.int .i64 9] (grow (redrawn V d) os) fun e w'' => e = .returned (.int .i64 ko) ∧ ∃ p : Regrown, w'' = grow (redrawn V p.d) p.os := fun d os => regrown_same (HK _)
  have cU : ∀ d os, Calls Tryz.prog 103 #[.agg #[.int .i64 a, .int .i64 9, .int .u64 v, .int .u64 m, .string g, .int .u32 ip, .int .i64 b, .int .i64 lo, .int .i64 hi]] (grow (redrawn V d) os) fun e w'' => e = .returned (.bool false) ∧ ∃ p : Regrown, w'' = grow (redrawn V p.d) p.os := fun d os => Calls.regrown_of (HU _)
  clear hx hy hat HU HK
  refine wp_region_quiet_below (by kernel_rfl) (by kernel_rfl) ?_
  repeat (go_big_quiet_step (first | (go_at_call 102; exact cK _ _) | (go_at_call 103; exact cU _ _)))
  refine wpQuiet_nil ?_
  intro _ hw'
  obtain ⟨⟨dq, osq⟩, hw''⟩ := hw'
  subst hw''
  have HE := acheck_any ip hc.net.ip b lo hi hc.net.bits hc.net.lo hc.net.hi
  go_wp2_with (go_at_call 105; refine (HE _).mono ?_; rintro e W2 ⟨rfl, hb2⟩)
  go_ret
  exact ⟨rfl, below_next (HB.out.trans ((below_regrown V dq osq).mono HB.out.size)) hb2⟩

set_option maxHeartbeats 4000000 in
theorem checkCond_num (nr a : Nat) (ha : a ≤ 3) (op : Int) (v m : Nat) (g : ByteArray) (ip : Nat) (b lo hi : Int) (h1 : ¬ op < 1) (h9 : ¬ 9 < op) (_hc : CdOk ⟨a, op, v, m, g, ⟨ip, b, lo, hi⟩⟩) (h8 : ¬ op = 8) (h9n : ¬ op = 9) (w : World) (hk : kindAt nr a = kindOp op) (h : ¬ unusedP ⟨a, op, v, m, g, ⟨ip, b, lo, hi⟩⟩) :
    Calls Tryz.prog 76 #[condV ⟨a, op, v, m, g, ⟨ip, b, lo, hi⟩⟩, kindsV nr] w fun e w' => e = .returned (errV 0) ∧ Below w.heap.size w w' := by
  have HU := fun w => hasUnused_any ⟨a, op, v, m, g, ⟨ip, b, lo, hi⟩⟩ w
  obtain ⟨u, hu⟩ : ∃ u, u = decide (unusedP ⟨a, op, v, m, g, ⟨ip, b, lo, hi⟩⟩) := ⟨_, rfl⟩
  rw [← hu] at HU
  obtain ⟨ko, hko⟩ : ∃ k : Int, k = (kindOp op : Nat) := ⟨_, rfl⟩
  have HK := fun w => kindOf_any op w
  rw [← hko] at HK
  obtain ⟨ka, hka⟩ : ∃ k : Int, k = (kindAt nr a : Nat) := ⟨_, rfl⟩
  have hat := kinds_at nr a ha
  rw [← hka] at hat
  have hne : ko = ka := by rw [hka, hko, hk]
  subst hne
  have hut : u = false := by rw [hu]; exact decide_eq_false h
  subst hut
  clear hu hko hka h hk
  have hnn : (ko != ko) = false := by simp
  unfold kindsV condV at *
  simp only at *
  have i1 : ¬ (a : Int) < 0 := by omega
  have i2 : ¬ (4 : Int) ≤ a := by omega
  have i3 : (0 : Int) ≤ a := by omega
  have i4 : (a : Int) < 4 := by omega
  go_enter Tryz.func76, Tryz.ntmps76
  go_wp2
  obtain ⟨V, hV, hB, hx, hy⟩ := two_box w #[.int .i64 a, .int .i64 op, .int .u64 v, .int .u64 m, .string g, .int .u32 ip, .int .i64 b, .int .i64 lo, .int .i64 hi] #[.int .i64 (kindAt nr 0 : Nat), .int .i64 (kindAt nr 1 : Nat), .int .i64 (kindAt nr 2 : Nat), .int .i64 (kindAt nr 3 : Nat)] 47 126
  rw [← hV]
  clear hV
  have HB := hide hB
  clear hB
  have g0 := cell_regrown (hx 0)
  have g1 := cell_regrown (hx 1)
  have g2 := cell_regrown (hx 2)
  have g3 := cell_regrown (hx 3)
  have g4 := cell_regrown (hx 4)
  have g5 := cell_regrown (hx 5)
  have g6 := cell_regrown (hx 6)
  have g7 := cell_regrown (hx 7)
  have g8 := cell_regrown (hx 8)
  have gk := cell_regrown ((hy a).trans hat)
  have cK : ∀ d os, Calls Tryz.prog 102 #[.int .i64 op] (grow (redrawn V d) os) fun e w'' => e = .returned (.int .i64 ko) ∧ ∃ p : Regrown, w'' = grow (redrawn V p.d) p.os := fun d os => regrown_same (HK _)
  have cU : ∀ d os, Calls Tryz.prog 103 #[.agg #[.int .i64 a, .int .i64 op, .int .u64 v, .int .u64 m, .string g, .int .u32 ip, .int .i64 b, .int .i64 lo, .int .i64 hi]] (grow (redrawn V d) os) fun e w'' => e = .returned (.bool false) ∧ ∃ p : Regrown, w'' = grow (redrawn V p.d) p.os := fun d os => Calls.regrown_of (HU _)
  clear hx hy hat HU HK
  refine wp_region_quiet_below (by kernel_rfl) (by kernel_rfl) ?_
  repeat (go_big_quiet_step (first | (go_at_call 102; exact cK _ _) | (go_at_call 103; exact cU _ _)))
  refine wpQuiet_nil ?_
  intro _ hw'
  obtain ⟨⟨dq, osq⟩, hw''⟩ := hw'
  subst hw''
  clear _hc
  go_wp2
  go_ret
  exact ⟨rfl, HB.out.trans ((below_regrown V dq osq).mono HB.out.size)⟩

theorem checkCond_any (nr : Nat) (c : CD) (hc : CdOk c) (w : World) : Calls Tryz.prog 76 #[condV c, kindsV nr] w fun e w' => e = .returned (errV (condF nr c)) ∧ Below w.heap.size w w' := by
  by_cases h : c.arg < 0 ∨ 3 < c.arg ∨ c.op < 1 ∨ 9 < c.op
  · rw [show condF nr c = 1 from if_pos h]
    exact checkCond_bound c _ w h
  have hf : condF nr c = if kindAt nr c.arg.toNat ≠ kindOp c.op ∨ unusedP c then 3 else if c.op = 8 then globF c.glob else if c.op = 9 then netF c.net else 0 := if_neg h
  obtain ⟨arg, op, v, m, g, ⟨ip, b, lo, hi⟩⟩ := c
  simp only [not_or] at h hf
  obtain ⟨a, rfl⟩ : ∃ a : Nat, arg = a := ⟨arg.toNat, by omega⟩
  have ha : a ≤ 3 := by omega
  rw [Int.toNat_natCast] at hf
  by_cases hk : kindAt nr a = kindOp op
  · by_cases hu : unusedP ⟨a, op, v, m, g, ⟨ip, b, lo, hi⟩⟩
    · rw [hf, if_pos (.inr hu)]
      exact checkCond_unused nr a ha op v m g ip b lo hi h.2.2.1 h.2.2.2 w hk hu
    · rw [if_neg (by rw [not_or]; exact ⟨fun hc => hc hk, hu⟩)] at hf
      by_cases h8 : op = 8
      · rw [hf, if_pos h8]
        subst h8
        exact checkCond_like nr a ha v m g ip b lo hi hc w hk hu
      · by_cases h9 : op = 9
        · rw [hf, if_neg h8, if_pos h9]
          subst h9
          exact checkCond_net nr a ha v m g ip b lo hi hc w hk hu
        · rw [hf, if_neg h8, if_neg h9]
          exact checkCond_num nr a ha op v m g ip b lo hi h.2.2.1 h.2.2.2 hc h8 h9 w hk hu
  · rw [hf, if_pos (.inl hk)]
    exact checkCond_kind nr a ha op v m g ip b lo hi h.2.2.1 h.2.2.2 w hk
end Go.Proofs.YtklibmijiecbfaaGreat
